/-
  told of law 6: what the document says of a few. No condition.
-/
import Derived.Test.YtanlhecjoklhaaaRqC
set_option linter.unusedSimpArgs false
set_option linter.unusedVariables false
namespace Go.Proofs.Ytanlhecjoklhaaa
set_option maxRecDepth 100000
open Go.RowKit

/-- an object of the call's own, of the program's -/
structure Tp (w0 : World) (b : Nat) (r : Rp) (W : World) : Prop where
  gr : w0.grownBy W none
  rp : RpAt W b r
  lo : w0.heap.size ≤ b
section
variable {w0 W : World} {b : Nat} {r r' : Rp} {k : Int}
theorem Tp.leave {e : Ending} {w' : World} {z : Int × Rp} (T : Tp w0 b r W) (L : LeavesP W b z e w') : Tp w0 b z.2 w' :=
  ⟨((chg_grown T.gr []).trans L.2.2 (fun g hg => by simp at hg; subst hg; exact .inr T.lo)).free (by simp), L.2.1, T.lo⟩
theorem Tp.grown {W' : World} (T : Tp w0 b r W) (hg : W.grownBy W' none) : Tp w0 b r W' := ⟨gb_trans T.gr hg (.inl rfl), T.rp.grown hg, T.lo⟩
theorem Tp.drew (T : Tp w0 b r W) : Tp w0 b r W.drew := ⟨gb_drew T.gr, T.rp.drew, T.lo⟩
theorem Tp.take (T : Tp w0 b r W) (n : Int) (k : Int) (r' : Rp) (h : r.take n = (k, r')) : Calls Try.prog 13 #[.pointer (some ⟨b, 0, none⟩), .int .i64 n] W fun e w' => e = .returned (.int .i64 k) ∧ Tp w0 b r' w' :=
  (ptake_any n W T.rp).mono fun _ _ L => by rw [h] at L; exact ⟨L.1, T.leave L⟩
theorem Tp.set (T : Tp w0 b r W) (t : Int) (x : BitVec 64) (k : Int) (r' : Rp) (h : r.set t x = (k, r')) : Calls Try.prog 18 #[.pointer (some ⟨b, 0, none⟩), .int .i64 t, .int .u64 (q x)] W fun e w' => e = .returned (.int .i64 k) ∧ Tp w0 b r' w' :=
  (pset_any t x W T.rp).mono fun _ _ L => by rw [h] at L; exact ⟨L.1, T.leave L⟩
theorem Tp.may (T : Tp w0 b r W) (n : Int) (z : Bool) (h : r.may n = z) : Calls Try.prog 11 #[.pointer (some ⟨b, 0, none⟩), .int .i64 n] W fun e w' => e = .returned (.bool z) ∧ Tp w0 b r w' :=
  (pmay_any n W T.rp).mono fun _ _ ⟨h1, h2⟩ => ⟨h ▸ h1, h2 ▸ T⟩
theorem Tp.bits (T : Tp w0 b r W) : Calls Try.prog 16 #[.pointer (some ⟨b, 0, none⟩)] W fun e w' => e = .returned (.int .u64 (q r.bits)) ∧ Tp w0 b r w' :=
  (pbits_any W T.rp).mono fun _ _ ⟨h1, h2⟩ => ⟨h1, h2 ▸ T⟩
theorem Tp.tops (T : Tp w0 b r W) : Calls Try.prog 15 #[.pointer (some ⟨b, 0, none⟩)] W fun e w' => e = .returned (.int .i64 r.top) ∧ Tp w0 b r w' :=
  (ptop_any W T.rp).mono fun _ _ ⟨h1, h2⟩ => ⟨h1, h2 ▸ T⟩
theorem Tp.topIs {x : Int} (T : Tp w0 b r W) (h : r.top = x) : Calls Try.prog 15 #[.pointer (some ⟨b, 0, none⟩)] W fun e w' => e = .returned (.int .i64 x) ∧ Tp w0 b r w' := h ▸ T.tops
theorem tp_new (n : Nat) (h1 : 1 ≤ n) (h2 : n ≤ 64) (hg : w0.grownBy W none) : Calls Try.prog 8 #[.int .i64 (n : Int)] W fun e w' => ∃ b, e = .returned (.pointer (some ⟨b, 0, none⟩)) ∧ Tp w0 b (.new n) w' ∧ W.grownBy w' none ∧ W.heap.size ≤ b :=
  (pnew_ok n h1 h2 W).mono fun _ _ ⟨b, e1, e2, e3, e4⟩ => ⟨b, e1, ⟨gb_trans hg e3 (.inl rfl), e2, by have := gb_size hg; omega⟩, e3, e4⟩
end

set_option maxHeartbeats 4000000 in
theorem rtold_any (w : World) :
    Calls Try.prog 10 #[] w fun e w' => e = .returned (.bool true) ∧ w.grownBy w' none := by
  go_enter Try.func10, Try.ntmps10
  go_wp2_with fail
  refine (tp_new (w0 := w) 3 (by decide) (by decide) (.refl w none)).mono ?_
  rintro e w1 ⟨b, rfl, T, _, _⟩
  have T0 := hid T; clear T
  go_wp2_with fail
  refine (T0.out.take 5 0 ⟨3, 5, 1#64⟩ (by rfl)).mono ?_
  rintro e w2 ⟨rfl, T⟩
  have T1 := hid T; clear T T0
  go_wp2_with fail
  refine (T1.out.take 3 0 ⟨3, 5, 5#64⟩ (by rfl)).mono ?_
  rintro e w3 ⟨rfl, T⟩
  have T2 := hid T; clear T T1
  go_wp2_with fail
  refine (T2.out.take 5 6 ⟨3, 5, 5#64⟩ (by rfl)).mono ?_
  rintro e w4 ⟨rfl, T⟩
  have T3 := hid T; clear T T2
  go_wp2_with fail
  refine (T3.out.may 2 false (by rfl)).mono ?_
  rintro e w5 ⟨rfl, T⟩
  have T4 := hid T; clear T T3
  go_wp2_with fail
  refine (T4.out.may 4 true (by rfl)).mono ?_
  rintro e w6 ⟨rfl, T⟩
  have T5 := hid T; clear T T4
  go_wp2_with fail
  refine (T5.out.bits ).mono ?_
  rintro e w7 ⟨rfl, T⟩
  have T6 := hid T; clear T T5
  go_wp2_with fail
  refine (T6.out.set 7 5#64 0 ⟨3, 7, 5#64⟩ (by rfl)).mono ?_
  rintro e w8 ⟨rfl, T⟩
  have T7 := hid T; clear T T6
  go_wp2_with fail
  refine (T7.out.set 7 8#64 1 ⟨3, 7, 5#64⟩ (by rfl)).mono ?_
  rintro e w9 ⟨rfl, T⟩
  have T8 := hid T; clear T T7
  go_wp2_with fail
  refine (T8.out.set 0 1#64 1 ⟨3, 7, 5#64⟩ (by rfl)).mono ?_
  rintro e w10 ⟨rfl, T⟩
  have T9 := hid T; clear T T8
  go_wp2_with fail
  refine (T9.out.set 1 3#64 1 ⟨3, 7, 5#64⟩ (by rfl)).mono ?_
  rintro e w11 ⟨rfl, T⟩
  have T10 := hid T; clear T T9
  go_wp2_with fail
  refine (T10.out.tops ).mono ?_
  rintro e w12 ⟨rfl, T⟩
  have T11 := hid T; clear T T10
  go_wp2_with fail
  refine (T11.out.may 5 false (by rfl)).mono ?_
  rintro e w13 ⟨rfl, T⟩
  have T12 := hid T; clear T T11
  go_wp2_with fail
  refine (T12.out.may 6 true (by rfl)).mono ?_
  rintro e w14 ⟨rfl, T⟩
  have T13 := hid T; clear T T12
  go_wp2_with fail
  refine (pnew_nil 65 (by decide) _).mono ?_
  rintro e wn ⟨rfl, rfl⟩
  go_wp2_with fail
  refine (ptake_nil 1 _).mono ?_
  rintro e wn ⟨rfl, rfl⟩
  go_wp2_with fail
  refine (pmay_nil 1 _).mono ?_
  rintro e wn ⟨rfl, rfl⟩
  go_wp2_with fail
  go_ret
  exact ⟨rfl, T13.out.gr⟩
end Go.Proofs.Ytanlhecjoklhaaa
