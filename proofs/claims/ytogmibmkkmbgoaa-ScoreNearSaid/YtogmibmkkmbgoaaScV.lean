/-
  The statements of layer 12: told. No condition.
-/
import Derived.Test.YtogmibmkkmbgoaaScO
set_option linter.unusedSimpArgs false
set_option linter.unusedVariables false
namespace Go.Proofs.Ytogmibmkkmbgoaa
set_option maxRecDepth 100000
open Go.RowKit

def rowT : List Sm := [⟨0, 0, 0, 100⟩, ⟨1, 0, 0, 101⟩, ⟨2, 0, 0, 99⟩, ⟨3, 0, 0, 200⟩]
def sT (H : List Hd) : Sc := ⟨H, 2, 2, 10⟩
def hT0 : List Hd := [(false, 0), (false, 0), (false, 0), (false, 0)]
def hT1 : List Hd := [(false, 0), (false, 0), (false, 0), (false, 1)]
def hT2 : List Hd := [(false, 0), (false, 0), (false, 0), (true, 0)]
def hT3 : List Hd := [(false, 0), (false, 0), (false, 0), (true, 1)]
theorem rowT_eq : ofTo [100, 101, 99, 200] 4 = rowT := rfl
theorem midT : midS rowT 3 = (100, true) := midS_is (by decide) (med_is (by decide) (by decide) (by decide) (by decide))
theorem markT (H : List Hd) (h : heardL H rowT = rowT) (hl : H.length = 4) : marksL (sT H) 3 [rowT] = [1, 1, 1, 2] :=
  marks_one (markM_of (show heardL (sT H).H rowT = rowT from h) midT (by rw [show (sT H).H.length = 4 from hl]; rfl))
theorem c1 : (sT hT0).close [rowT] 3 = sT hT1 ∧ (sT hT0).gone [rowT] 3 = [] := close_of (markT hT0 rfl rfl) rfl
theorem c2 : (sT hT1).close [rowT] 3 = sT hT2 ∧ (sT hT1).gone [rowT] 3 = [3] := close_of (markT hT1 rfl rfl) rfl
theorem c3 : (sT hT2).close [] 3 = sT hT3 ∧ (sT hT2).gone [] 3 = [] := close_of (marks_none _ _) rfl
theorem c4 : (sT hT3).close [] 3 = sT hT0 ∧ (sT hT3).gone [] 3 = [] := close_of (marks_none _ _) rfl
def hT5 : List Hd := [(false, 1), (false, 0), (false, 0), (false, 0)]
theorem okT5 : (sT hT5).ok := ⟨by decide, by decide, by decide, by decide, by decide, by decide⟩
theorem newT : newS 4 2 2 10 = sT hT0 := rfl
theorem mayT12 : MaySc (4 : Nat) 2 2 10 := by unfold MaySc; decide
theorem std_new (w : World) : (w.alloc (.cells #[.int .i64 0, .int .i64 0, .bool false] 45)).heap[w.heap.size]? = some (.cells #[.int .i64 0, .int .i64 0, .bool false] 45) := at_new w _
set_option maxHeartbeats 3200000 in
theorem sctold_any (w : World) : Calls Try.prog 22 #[] w fun e w' => e = .returned (.bool true) ∧ w.grownBy w' none := by
  have N0 := hid (show Calls Try.prog 19 #[.int .i64 4, .int .i64 2, .int .i64 2, .int .i64 10] w (MadeS w (newS 4 2 2 10)) from scnew_yes 4 2 2 10 mayT12 w)
  go_enter Try.func22, Try.ntmps22
  go_wp2_with fail
  refine N0.out.mono ?_
  rintro e w1 hm
  obtain ⟨b, hb, rfl, hk⟩ := Sk.made (.refl w none) mayT12 hm
  rw [newT] at hk
  have K1 := hid hk
  clear hm hk N0
  have I1 := hid (show IntsAt (w1.alloc (.cells #[.int .i64 100, .int .i64 101, .int .i64 99, .int .i64 200] 2)) (.slice (some ⟨w1.heap.size, 0, none⟩) 4 4) [100, 101, 99, 200] from blk_ints (l := [100, 101, 99, 200]) (at_new w1 _) (by decide))
  have F1 := hid (of_any12 _ _ _ I1.out (by decide))
  go_wp2_with fail
  refine F1.out.mono ?_
  rintro e w2 ⟨u, rfl, hown, hg⟩
  have K2 := hid ((K1.out.alloc (.cells #[.int .i64 100, .int .i64 101, .int .i64 99, .int .i64 200] 2)).grown hg)
  have O2 := hid (OwnZ.le hown (base' := hb + 1) (by have := (K1.out.alloc (.cells #[.int .i64 100, .int .i64 101, .int .i64 99, .int .i64 200] 2)).sat.lt.2; omega))
  rw [show ofTo [100, 101, 99, 200] ([100, 101, 99, 200] : List Int).length = rowT from rfl] at O2
  clear hown hg K1 I1 F1
  have R3 := hid (show Row1 hb u rowT w2.heap.size (w2.alloc (.cells #[u] 38)) from ⟨O2.out.grown (World.grownBy_alloc _ _ none), at_new _ _, K2.out.sat.lt.2⟩)
  have K3 := hid (K2.out.alloc (.cells #[u] 38))
  obtain ⟨pu, cu, rfl⟩ := O2.out.form
  obtain ⟨x, hx⟩ : ∃ x, x = w2.heap.size := ⟨_, rfl⟩
  rw [← hx] at R3
  have C3 := hid (K3.out.close1 R3.out (show rowT.length ≤ 1000 by decide) 3 c1)
  rw [hx] at C3 R3
  clear hx K2 O2
  go_wp2_with fail
  refine C3.out.mono ?_
  rintro e w4 ⟨p4, q4, rfl, -, hk, hc⟩
  have K4 := hid hk
  have R4 := hid (R3.out.chg hc)
  simp only [List.length_nil]
  clear hk hc C3 K3 R3
  have C4 := hid (K4.out.close1 R4.out (show rowT.length ≤ 1000 by decide) 3 c2)
  go_wp2_with fail
  refine C4.out.mono ?_
  rintro e w5 ⟨p5, q5, rfl, ho, hk, hc⟩
  have K5 := hid hk
  have O5 := hid ho
  have L5 := hid K4.out.below
  simp only [List.length_cons, List.length_nil, Nat.zero_add]
  clear hk hc ho C4 K4 R4
  generalize w4.heap.size = base at *
  have C5 := hid (show Calls Try.prog 24 #[.pointer (some ⟨b, 0, none⟩), .int .i64 3] w5 fun e w' => e = .returned (.bool true) ∧ w5 = w' from out_any K5.out.sat 3)
  go_wp2_with fail
  refine C5.out.mono ?_
  rintro e w6 ⟨rfl, rfl⟩
  clear C5
  have C6 := hid (K5.out.close0 3 c3)
  go_wp2_with fail
  refine C6.out.mono ?_
  rintro e w6 ⟨p6, q6, rfl, -, hk, hc⟩
  have K6 := hid hk
  have O6 := hid (O5.out.past hc L5.out)
  simp only [List.length_nil]
  clear hk hc C6 K5 O5
  have C7 := hid (show Calls Try.prog 24 #[.pointer (some ⟨b, 0, none⟩), .int .i64 3] w6 fun e w' => e = .returned (.bool true) ∧ w6 = w' from out_any K6.out.sat 3)
  go_wp2_with fail
  refine C7.out.mono ?_
  rintro e w7 ⟨rfl, rfl⟩
  clear C7
  have C8 := hid (K6.out.close0 3 c4)
  go_wp2_with fail
  refine C8.out.mono ?_
  rintro e w8 ⟨p8, q8, rfl, -, hk, hc⟩
  have K8 := hid hk
  have O8 := hid (O6.out.past hc L5.out)
  simp only [List.length_nil]
  clear hk hc C8 K6 O6
  have C9 := hid (show Calls Try.prog 21 #[.pointer (some ⟨b, 0, none⟩), .int .i64 3] w8 fun e w' => e = .returned (.tuple #[.agg #[.int .i64 0, .int .i64 0, .bool false], .int .i64 0]) ∧ w8.grownBy w' none from get_in K8.out.sat 3 (false, 0) rfl)
  go_wp2_with fail
  refine C9.out.mono ?_
  rintro e w9 ⟨rfl, hg⟩
  have K9 := hid (K8.out.grown hg)
  have O9 := hid (O8.out.grown hg)
  clear hg C9 K8 O8
  have B9 := hid (std_new w9)
  have K10 := hid (K9.out.alloc (.cells #[.int .i64 0, .int .i64 0, .bool false] 45))
  have O10 := hid (O9.out.grown (World.grownBy_alloc w9 (.cells #[.int .i64 0, .int .i64 0, .bool false] 45) none))
  have C10 := hid (show Calls Try.prog 21 #[.pointer (some ⟨b, 0, none⟩), .int .i64 4] (w9.alloc (.cells #[.int .i64 0, .int .i64 0, .bool false] 45)) fun e w' => e = .returned (.tuple #[.agg #[.int .i64 0, .int .i64 0, .bool false], .int .i64 3]) ∧ (w9.alloc (.cells #[.int .i64 0, .int .i64 0, .bool false] 45)).grownBy w' none from get_out K10.out.sat 4 (by decide))
  clear K9 O9
  go_wp2_with fail
  refine C10.out.mono ?_
  rintro e w11 ⟨rfl, hg⟩
  have K11 := hid (K10.out.grown hg)
  have O11 := hid (O10.out.grown hg)
  have B11 := hid (at_grown B9.out hg (by simp))
  generalize w9.heap.size = x9 at *
  clear hg C10 K10 O10 B9
  go_upto_region 13 with fail
  simp only [List.append_eq, List.cons_append, List.nil_append]
  have K12 := hid (K11.out.alloc (.cells #[.int .i64 0, .int .i64 0, .bool false] 45))
  have O12 := hid (O11.out.grown (World.grownBy_alloc w11 (.cells #[.int .i64 0, .int .i64 0, .bool false] 45) none))
  have B12 := hid (at_alloc B11.out (.cells #[.int .i64 0, .int .i64 0, .bool false] 45))
  clear K11 O11 B11
  generalize w11.alloc (.cells #[.int .i64 0, .int .i64 0, .bool false] 45) = w12 at *
  have e0 := at_cell B12.out 0
  have e1 := at_cell B12.out 1
  have e2 := at_cell B12.out 2
  obtain ⟨g5, q5', hq5, hle, hcell⟩ := O12.out.cells (i := 0) (by decide)
  have hc0 := hcell 0 (by decide)
  injection hq5 with hq51 hq52 hq53
  subst hq51
  have C13 := hid (show Calls Try.prog 24 #[.pointer (some ⟨b, 0, none⟩), .int .i64 3] w12 fun e w' => e = .returned (.bool false) ∧ w12 = w' from out_any K12.out.sat 3)
  clear hcell hq52 hq53
  go_wp2_with fail
  refine C13.out.mono ?_
  rintro e w13 ⟨rfl, rfl⟩
  clear C13
  have C14 := hid (show Calls Try.prog 24 #[.pointer (some ⟨b, 0, none⟩), .int .i64 9] w12 fun e w' => e = .returned (.bool true) ∧ w12 = w' from out_any K12.out.sat 9)
  go_wp2_with fail
  refine C14.out.mono ?_
  rintro e w13 ⟨rfl, rfl⟩
  clear C14 hc0 e0 e1 e2
  have C15 := hid (show Calls Try.prog 40 #[.pointer (some ⟨b, 0, none⟩), .int .i64 0, .agg #[.int .i64 2, .int .i64 0, .bool false]] w12 fun e w' => e = .returned (.int .i64 1) ∧ w12.grownBy w' none from set_bad K12.out.sat 0 (by decide) 2 0 false rfl)
  go_wp2_with fail
  refine C15.out.mono ?_
  rintro e w13 ⟨rfl, hg⟩
  have K13 := hid (K12.out.grown hg)
  clear C15 hg K12 O12 B12
  have C16 := hid (show Calls Try.prog 40 #[.pointer (some ⟨b, 0, none⟩), .int .i64 0, .agg #[.int .i64 1, .int .i64 0, .bool false]] w13 fun e w' => e = .returned (.int .i64 0) ∧ ScAt (sT hT5) b hb w' ∧ Chg [hb] w13 w' from set_in K13.out.sat 0 (false, 0) rfl 1 0 false 1 rfl)
  go_wp2_with fail
  refine C16.out.mono ?_
  rintro e w14 ⟨rfl, ha, hc⟩
  have K14 := hid (K13.out.after ha hc okT5)
  clear C16 ha hc K13
  have C17 := hid (show Calls Try.prog 40 #[.pointer (some ⟨b, 0, none⟩), .int .i64 0, .agg #[.int .i64 1, .int .i64 0, .bool true]] w14 fun e w' => e = .returned (.int .i64 1) ∧ w14.grownBy w' none from set_bad K14.out.sat 0 (by decide) 1 0 true rfl)
  go_wp2_with fail
  refine C17.out.mono ?_
  rintro e w15 ⟨rfl, hg⟩
  have K15 := hid (K14.out.grown hg)
  clear C17 hg K14
  have C18 := hid (scall_any K15.out.sat)
  go_wp2_with fail
  refine C18.out.mono ?_
  rintro e w16 ⟨z16, rfl, -, -, hg⟩
  have K16 := hid (K15.out.grown hg)
  rw [show (sT hT5).H.length = 4 from rfl]
  clear C18 hg K15
  have C19 := hid (out_nil 0 w16)
  go_wp2_with fail
  refine C19.out.mono ?_
  rintro e w17 ⟨rfl, rfl⟩
  have C20 := hid (set_nil 0 0 0 false w16)
  go_wp2_with fail
  refine C20.out.mono ?_
  rintro e w17 ⟨rfl, hg⟩
  have K17 := hid (K16.out.grown hg)
  clear C19 C20 hg K16
  go_wp2_with fail
  go_ret
  exact ⟨rfl, K17.out.gr⟩
end Go.Proofs.Ytogmibmkkmbgoaa
