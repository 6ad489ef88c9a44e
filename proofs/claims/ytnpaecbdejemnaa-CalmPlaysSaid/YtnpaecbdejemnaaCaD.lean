/-
  Contracts for package calm: Next, All, Set, New, of nil too. The condition of a call: the object lies there, slices read as numbers.
-/
import Derived.Test.YtnpaecbdejemnaaCaC
import Derived.Test.YtnpaecbdejemnaaOps
set_option linter.unusedSimpArgs false
set_option linter.unusedVariables false
namespace Go.Proofs.Ytnpaecbdejemnaa
set_option maxRecDepth 100000
open Go.RowKit

theorem push_mill (c : Ca) (x : Int) : c.push (mill x) = c.push x := by
  unfold Ca.push; rw [mill_id (mill_in x)]
theorem lo_in {c : Ca} (h : c.Ok) (hne : c.l ≠ []) : 0 ≤ c.lo ∧ c.lo ≤ 1000000 := h.m _ (lastL_mem (loL_mem (lastL_ne hne (Nat.succ_pos _))))
theorem hi_in {c : Ca} (h : c.Ok) (hne : c.l ≠ []) : 0 ≤ c.hi ∧ c.hi ≤ 1000000 := h.m _ (lastL_mem (hiL_mem (lastL_ne hne (Nat.succ_pos _))))
theorem out_plain {c : Ca} (h : c.Ok) (hne : c.l ≠ []) (n : Int) : c.out n = min c.hi (max n c.lo) := by
  have h1 := lo_in h hne; have h2 := hi_in h hne
  unfold Ca.out mill; omega
theorem next_nil (n x : Int) (w : World) :
    Calls Try.prog 9 #[.pointer none, .int .i64 n, .int .i64 x] w fun e w' => e = .returned (.int .i64 0) ∧ w = w' := by
  go_enter Try.func9, Try.ntmps9
  go_wp2_with fail
  go_ret
  exact ⟨rfl, rfl⟩
def Nexted (w : World) (b : Nat) (c : Ca) (n : Int) (e : Ending) (w' : World) : Prop := e = .returned (.int .i64 (c.out n)) ∧ CaAt w' b c ∧ Chg [b] w w'
set_option maxHeartbeats 1600000 in
theorem next_any {b : Nat} {c : Ca} (n x : Int) {w : World} (H : CaAt w b c) :
    Calls Try.prog 9 #[.pointer (some ⟨b, 0, none⟩), .int .i64 n, .int .i64 x] w (Nexted w b (c.push x) n) := by
  have P := hid (put_any (mill x) (mill_id (mill_in x)) H)
  rw [push_mill] at P
  have hne := Ca.push_ne c x
  have hok := Ca.push_ok H.ok x
  have ho := hid (out_plain hok hne n)
  have TA := hid (tame_any x)
  generalize c.push x = c1 at *
  generalize mill x = y at *
  have hu := hok.u; have hd := hok.d
  have L1 := hid (fun (W : World) (h : CaAt W b c1) => last_any c1.up hu h)
  have L2 := hid (fun (W : World) (h : CaAt W b c1) => last_any c1.down hd h)
  have N1 := hid (lastL_ne hne (Nat.succ_pos c1.up))
  have N2 := hid (lastL_ne hne (Nat.succ_pos c1.down))
  have CC := hid (fun (W : World) (h : CaAt W b c1) => h.cells)
  clear hu hd hok hne H
  go_enter Try.func9, Try.ntmps9
  go_wp2_with fail
  refine (TA.out _).mono ?_
  rintro e w0 ⟨rfl, rfl⟩
  go_wp2_with fail
  refine P.out.mono ?_
  rintro e w1 ⟨rfl, hc, hg⟩
  have H1 := hid hc; have G1 := hid hg
  obtain ⟨c0, -, -, -⟩ := CC.out _ hc
  clear hc hg P
  go_wp2_with fail
  refine (L1.out _ H1.out).mono ?_
  rintro e w2 ⟨⟨v, rfl, hv⟩, hg⟩
  have V := hid hv; have H2 := hid (H1.out.grown hg); have G2 := hid (G1.out.grown hg)
  clear hv hg c0
  go_wp2_with fail
  refine (min_any _ _ _ V.out N1.out).mono ?_
  rintro e w3 ⟨rfl, rfl⟩
  obtain ⟨-, c0, -, -⟩ := CC.out _ H2.out
  obtain ⟨z1, hz1⟩ : ∃ z, loL (lastL c1.l (c1.up + 1)) = z := ⟨_, rfl⟩
  rw [hz1]
  have Z1 := hid hz1; clear hz1
  go_wp2_with fail
  refine (L2.out _ H2.out).mono ?_
  rintro e w4 ⟨⟨u, rfl, hv⟩, hg⟩
  have U := hid hv; have H4 := hid (H2.out.grown hg); have G4 := hid (G2.out.grown hg)
  clear hv hg c0
  go_wp2_with fail
  refine (max_any _ _ _ U.out N2.out).mono ?_
  rintro e w5 ⟨rfl, rfl⟩
  obtain ⟨z2, hz2⟩ : ∃ z, hiL (lastL c1.l (c1.down + 1)) = z := ⟨_, rfl⟩
  rw [hz2]
  have Z2 := hid hz2; clear hz2
  go_wp2_with fail
  all_goals go_ret
  all_goals exact ⟨congrArg (fun z => Ending.returned (.int .i64 z)) (by
    have e1 : c1.lo = z1 := Z1.out
    have e2 : c1.hi = z2 := Z2.out
    rw [ho.out, e1, e2]; try omega), H4.out, G4.out⟩
/-- All -/
theorem all_nil (w : World) :
    Calls Try.prog 11 #[.pointer none] w fun e w' => e = .returned (.slice none 0 0) ∧ w = w' := by
  go_enter Try.func11, Try.ntmps11
  go_wp2_with fail
  go_ret
  exact ⟨rfl, rfl⟩
theorem clone_any (a : Addr) (n c : Nat) (l : List Int) (w : World) (h : IntsAt w (.slice (some a) n c) l) (hn : l.length ≤ 999999) :
    Calls Try.prog 27 #[.slice (some a) n c] w fun e w' => (∃ v, e = .returned v ∧ OwnN w.heap.size w' v l) ∧ w.grownBy w' none := by
  have HI := hid h
  have hnil := Lib.run_eql_slice_nil w 22 3 (some a) n c 0 0 Try.underlying22
  have HE := hid (OwnN.empty w)
  have HB := hid (HI.out.alloc (.cells #[] 3))
  have HL := hid hn
  clear h hn
  go_enter Try.func27, Try.ntmps27
  go_wp2_with (refine append_nums rfl _ _ rfl w.heap.size _ [] rfl HE.out _ l rfl HB.out (by have := HL.out; simp; omega) (gb_size (gb_alloc (.refl w none) _)) ?_; intro v' w' hown hgrow hat)
  go_ret
  exact ⟨⟨_, rfl, by simpa using hown⟩, gb_ownN (gb_alloc (.refl w none) _) HE.out (Nat.le_refl _) hgrow⟩
/-- All -/
theorem alls_any {b : Nat} {c : Ca} {w : World} (H : CaAt w b c) :
    Calls Try.prog 11 #[.pointer (some ⟨b, 0, none⟩)] w fun e w' => (∃ v, e = .returned v ∧ OwnN w.heap.size w' v c.l) ∧ w.grownBy w' none := by
  have A := hid (all_any H)
  have hn := H.ok.n61
  have C1 := hid (fun (W : World) (h : w.grownBy W none) => clone_any _ _ _ c.l W (H.grown h).ints (by omega))
  generalize c.l = l at *
  clear H
  go_enter Try.func11, Try.ntmps11
  go_wp2_with fail
  refine A.out.mono ?_
  rintro e w1 ⟨rfl, hg⟩
  have G1 := hid hg; clear hg
  go_wp2_with fail
  refine (C1.out _ G1.out).mono ?_
  rintro e w2 ⟨⟨v, rfl, hv⟩, hg⟩
  have V := hid (hv.le G1.out.size); have G2 := hid (gb_trans G1.out hg (.inl rfl))
  clear hv hg
  go_wp2_with fail
  go_ret
  exact ⟨⟨_, rfl, V.out⟩, G2.out⟩
end Go.Proofs.Ytnpaecbdejemnaa
