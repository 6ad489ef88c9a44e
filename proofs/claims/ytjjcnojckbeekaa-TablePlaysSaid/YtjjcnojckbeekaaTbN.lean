/-
  Contracts: the methods of the table that isn't there; the law's own examples: the program tells what the document says of a few samples. No condition.
-/
import Derived.Test.YtjjcnojckbeekaaTbM
import Derived.Test.YtjjcnojckbeekaaTbO
import Derived.Test.YtjjcnojckbeekaaTbL
import Derived.Test.YtjjcnojckbeekaaTbD
import Derived.Test.YtjjcnojckbeekaaTbE
set_option linter.unusedSimpArgs false
set_option linter.unusedVariables false
namespace Go.Proofs.Ytjjcnojckbeekaa
set_option maxRecDepth 100000
open Go.RowKit

theorem may_nil (x y z u now : Int) (w : World) : Calls Try.prog 10 #[.pointer none, .agg #[.int .i64 x, .int .i64 y, .int .i64 z, .int .i64 u], .int .i64 now] w fun e w' => e = .returned (.int .i64 1) ∧ w.grownBy w' none := by
  go_enter Try.func10, Try.ntmps10
  go_wp2
  go_ret
  exact ⟨rfl, World.grownBy_alloc _ _ _⟩
theorem put_nil (x y z u now : Int) (w : World) : Calls Try.prog 12 #[.pointer none, .agg #[.int .i64 x, .int .i64 y, .int .i64 z, .int .i64 u], .int .i64 now] w fun e w' => e = .returned (.int .i64 1) ∧ w.grownBy w' none := by
  have HM := hid (may_nil x y z u now (w.alloc (.cells #[.int .i64 x, .int .i64 y, .int .i64 z, .int .i64 u] 29)))
  go_enter Try.func12, Try.ntmps12
  go_wp2_with (first | (go_at_call 10; refine HM.out.mono ?_; rintro e w1 ⟨rfl, hg⟩; have HG := hid hg; clear hg))
  go_ret
  exact ⟨rfl, gb_trans (World.grownBy_alloc _ _ _) HG.out (.inl rfl)⟩
theorem drop_nil (e : Int) (w : World) : Calls Try.prog 14 #[.pointer none, .int .i64 e] w fun x w' => x = .returned (.int .i64 0) ∧ w.grownBy w' none := by
  go_enter Try.func14, Try.ntmps14
  go_wp2
  go_ret
  exact ⟨rfl, World.grownBy_alloc _ _ _⟩
instance (n : Int) : Decidable (wf64 n) := by unfold wf64; infer_instance
/-- a table of the call's own, and what was there is as it was -/
structure Tk (w : World) (n m f : Int) (L : List Sm) (b mb : Nat) (W : World) : Prop where
  tb : TbAt n m f L b mb W
  gr : w.grownBy W none
  lo : w.heap.size ≤ b ∧ w.heap.size ≤ mb
section
variable {w W W' : World} {n m f r : Int} {L L' : List Sm} {b mb : Nat} {x y e u now : Int}
theorem Tk.grown (h : Tk w n m f L b mb W) (hg : W.grownBy W' none) : Tk w n m f L b mb W' := ⟨h.tb.grown hg, gb_trans h.gr hg (.inl rfl), h.lo⟩
theorem Tk.drew (h : Tk w n m f L b mb W) : Tk w n m f L b mb W.drew := ⟨h.tb.drew, gb_drew h.gr, h.lo⟩
theorem Tk.alloc (h : Tk w n m f L b mb W) (o : Obj) : Tk w n m f L b mb (W.alloc o) := h.grown (World.grownBy_alloc W o none)
theorem Tk.chg (h : Tk w n m f L b mb W) (ht : TbAt n m f L' b mb W') (hc : Chg [mb] W W') : Tk w n m f L' b mb W' :=
  ⟨ht, ((chg_grown h.gr [mb]).then hc).free (fun x hx => by simp at hx; subst hx; exact h.lo.2), h.lo⟩
theorem Tk.new (hb : MayNew n m f) (hg : w.grownBy W none) : Calls Try.prog 7 #[.int .i64 n, .int .i64 m, .int .i64 f] W fun e w' => e = .returned (.pointer (some ⟨W.heap.size + 1, 0, none⟩)) ∧ Tk w n m f [] (W.heap.size + 1) W.heap.size w' ∧ W.grownBy w' none :=
  (new_yes n m f hb W).mono fun e w' ⟨h1, h2, h3⟩ => ⟨h1, ⟨h2, gb_trans hg h3 (.inl rfl), by have := hg.size; omega⟩, h3⟩
/-- Put, what it tells being known -/
theorem Tk.put (h : Tk w n m f L b mb W) (hl : L.length ≤ 100000) (s : Sm) (he : wf64 s.ep) (hn : wf64 now) (hr : mayT n m f L s now = r) (hL : putT n m f L s now = L') :
    Calls Try.prog 12 #[.pointer (some ⟨b, 0, none⟩), .agg #[.int .i64 s.who, .int .i64 s.met, .int .i64 s.ep, .int .i64 s.val], .int .i64 now] W fun x w' => x = .returned (.int .i64 r) ∧ Tk w n m f L' b mb w' ∧ Chg [mb] W w' :=
  (put_any h.tb hl s now he hn).mono fun x w' ⟨h1, h2, h3⟩ => ⟨by rw [h1, hr], h.chg (hL ▸ h2) h3, h3⟩
theorem Tk.drop (h : Tk w n m f L b mb W) (hl : L.length ≤ 100000) (e : Int) (k : Nat) (hL : dropT L e = L') (hk : L.length - L'.length = k) :
    Calls Try.prog 14 #[.pointer (some ⟨b, 0, none⟩), .int .i64 e] W fun x w' => x = .returned (.int .i64 (k : Int)) ∧ Tk w n m f L' b mb w' ∧ Chg [mb] W w' :=
  (drop_any h.tb hl e).mono fun x w' ⟨h1, h2, h3⟩ => ⟨by rw [h1, hL, hk], h.chg (hL ▸ h2) h3, h3⟩
end
set_option maxHeartbeats 3200000 in
theorem tbtold_any (w : World) : Calls Try.prog 9 #[] w fun e w' => e = .returned (.bool true) ∧ w.grownBy w' none := by
  go_enter Try.func9, Try.ntmps9
  go_wp2_with fail
  refine (Tk.new (by decide) (.refl w none)).mono ?_
  rintro e w0 ⟨rfl, hT, hg⟩
  have T0 := hid hT
  clear hT hg
  go_wp2_with fail
  refine (T0.out.put (by decide) ⟨1, 0, 6, 9⟩ (by decide) (by decide) (r := 0) (L' := [⟨1, 0, 6, 9⟩]) (by decide) (by decide)).mono ?_
  rintro e w1 ⟨rfl, hT, hg⟩
  have T1 := hid hT
  clear hT hg T0
  go_wp2_with fail
  refine (T1.out.put (by decide) ⟨1, 0, 6, 8⟩ (by decide) (by decide) (r := 8) (L' := [⟨1, 0, 6, 9⟩]) (by decide) (by decide)).mono ?_
  rintro e w2 ⟨rfl, hT, hg⟩
  have T2 := hid hT
  clear hT hg T1
  go_wp2_with fail
  refine (T2.out.put (by decide) ⟨0, 0, 6, 0⟩ (by decide) (by decide) (r := 0) (L' := [⟨0, 0, 6, 0⟩, ⟨1, 0, 6, 9⟩]) (by decide) (by decide)).mono ?_
  rintro e w3 ⟨rfl, hT, hg⟩
  have T3 := hid hT
  clear hT hg T2
  go_wp2_with fail
  refine (T3.out.put (by decide) ⟨0, 0, 7, 0⟩ (by decide) (by decide) (r := 7) (L' := [⟨0, 0, 6, 0⟩, ⟨1, 0, 6, 9⟩]) (by decide) (by decide)).mono ?_
  rintro e w4 ⟨rfl, hT, hg⟩
  have T4 := hid hT
  clear hT hg T3
  go_wp2_with fail
  refine (T4.out.put (by decide) ⟨3, 0, 5, 0⟩ (by decide) (by decide) (r := 1) (L' := [⟨0, 0, 6, 0⟩, ⟨1, 0, 6, 9⟩]) (by decide) (by decide)).mono ?_
  rintro e w5 ⟨rfl, hT, hg⟩
  have T5 := hid hT
  clear hT hg T4
  go_wp2_with fail
  refine (of_any T5.out.tb (by decide) 6 0 (by decide) (by decide)).mono ?_
  rintro e w6 ⟨v, rfl, hown, hg⟩
  rw [show ofT [(⟨0, 0, 6, 0⟩ : Sm), ⟨1, 0, 6, 9⟩] 6 0 = [⟨0, 0, 6, 0⟩, ⟨1, 0, 6, 9⟩] by decide] at hown
  have T6 := hid (T5.out.grown hg)
  have HO := hid hown
  have HL := hid (T5.out.tb.lt)
  obtain ⟨p6, c6, rfl⟩ := hown.form
  clear hown hg T5
  simp only [List.length_cons, List.length_nil, Nat.reduceAdd] at HO ⊢
  go_wp2_with fail
  refine (T6.out.drop (by decide) 6 2 (L' := []) (by decide) (by decide)).mono ?_
  rintro e w7 ⟨rfl, hT, hc⟩
  have T7 := hid hT
  have hr7 := HO.out.chg hc (fun g hg => by have h1 := (HO.out.lt g hg).1; have h2 := HL.out.2; simp; omega)
  obtain ⟨g, o, rfl, -, hc6, a0, a1, a2, a3⟩ := hr7.reads.cells (i := 0) (by decide)
  obtain ⟨g', o', e', -, -, b0, b1, b2, b3⟩ := hr7.reads.cells (i := 1) (by decide)
  cases e'
  simp only [Nat.zero_mul, Nat.one_mul, Nat.add_zero, List.getElem_cons_zero, List.getElem_cons_succ] at a0 b3
  clear hT hc T6 hr7 a1 a2 a3 b0 b1 b2
  go_wp2_with fail
  refine (all_any T7.out.tb (by decide)).mono ?_
  rintro e w8 ⟨v8, rfl, hown, hg⟩
  obtain ⟨p8, c8, rfl⟩ := hown.form
  have T8 := hid (T7.out.grown hg)
  clear hown hg T7 a0 b3
  simp only [List.length_nil]
  go_wp2_with fail
  refine (new_not 0 1 1 (by decide) _).mono ?_
  rintro e w9 ⟨rfl, rfl⟩
  go_wp2_with fail
  refine (put_nil 0 0 0 0 0 _).mono ?_
  rintro e w10 ⟨rfl, hg⟩
  have T10 := hid (T8.out.grown hg)
  clear hg T8
  go_wp2_with fail
  refine (drop_nil 1 _).mono ?_
  rintro e w11 ⟨rfl, hg⟩
  have T11 := hid (T10.out.grown hg)
  clear hg T10
  go_wp2_with fail
  go_ret
  exact ⟨rfl, T11.out.gr⟩
end Go.Proofs.Ytjjcnojckbeekaa
