/-
  The walk of the statement ScoreProbe: who is put out comes back behind just so many epochs, and begins anew. No condition.
-/
import Derived.Test.YtogmibmkkmbgoaaScR
set_option linter.unusedSimpArgs false
set_option linter.unusedVariables false
namespace Go.Proofs.Ytogmibmkkmbgoaa.scprobe
set_option maxRecDepth 100000
open Go.RowKit

def rowP : List Sm := [⟨0, 0, 0, 100⟩, ⟨1, 0, 0, 100⟩, ⟨2, 0, 0, 500⟩]
def rowQ : List Sm := [⟨0, 0, 0, 100⟩, ⟨1, 0, 0, 100⟩]
def sP (A B : Int) (h : Hd) : Sc := ⟨[(false, 0), (false, 0), h], A, B, 5⟩
theorem midP : midS rowP 3 = (100, true) := midS_is (by decide) (med_is (by decide) (by decide) (by decide) (by decide))
theorem marksP (A B k : Int) : marksL (sP A B (false, k)) 3 [rowP] = [1, 1, 2] := marks_one (markM_of (r := rowP) rfl midP rfl)
theorem marksQ (A B k : Int) : marksL (sP A B (true, k)) 3 [rowP] = [0, 0, 0] := marks_one (markM_no (r := rowQ) rfl (by decide))
theorem p_more (A B k : Int) (h : k + 1 < A) : (sP A B (false, k)).close [rowP] 3 = sP A B (false, k + 1) ∧ (sP A B (false, k)).gone [rowP] 3 = [] :=
  close_of (marksP A B k) (by simp [runTo, endH, moreH, sP, h])
theorem p_last (A B k : Int) (h : ¬ k + 1 < A) : (sP A B (false, k)).close [rowP] 3 = sP A B (true, 0) ∧ (sP A B (false, k)).gone [rowP] 3 = [2] :=
  close_of (marksP A B k) (by simp [runTo, endH, moreH, sP, h])
theorem q_more (A B k : Int) (h : k + 1 < B) : (sP A B (true, k)).close [rowP] 3 = sP A B (true, k + 1) ∧ (sP A B (true, k)).gone [rowP] 3 = [] :=
  close_of (marksQ A B k) (by simp [runTo, endH, moreH, sP, h])
theorem q_last (A B k : Int) (h : ¬ k + 1 < B) : (sP A B (true, k)).close [rowP] 3 = sP A B (false, 0) ∧ (sP A B (true, k)).gone [rowP] 3 = [] :=
  close_of (marksQ A B k) (by simp [runTo, endH, moreH, sP, h])
/-- ahead of the epoch z -/
def hA (A z : Int) : Hd := if z ≤ A then (false, z - 1) else (true, 0)
def hB (B z : Int) : Hd := if z ≤ B then (true, z - 1) else (false, 0)

set_option maxHeartbeats 3200000 in
theorem walk {w : World} (a b : Int) :
    Calls Try.prog 6 #[.int .i64 a, .int .i64 b] w fun e w' => e = .returned (.bool true) ∧ w.grownBy w' none := by
  obtain ⟨k1, k10, k11, m1⟩ := umod_int a 5 (by omega)
  have m1 : (IntKind.u64.wrap a).tmod 5 = k1 := m1
  obtain ⟨k2, k20, k21, m2⟩ := umod_int b 20 (by omega)
  have m2 : (IntKind.u64.wrap b).tmod 20 = k2 := m2
  have c1 : IntKind.i64.wrap k1 = k1 := IntWalk.i64_in _ (by omega)
  have c2 : IntKind.i64.wrap k2 = k2 := IntWalk.i64_in _ (by omega)
  obtain ⟨A, hA'⟩ : ∃ A, A = 1 + k1 := ⟨_, rfl⟩
  obtain ⟨B, hB'⟩ : ∃ B, B = 1 + k2 := ⟨_, rfl⟩
  have s1 : IntKind.i64.wrap (1 + k1) = A := by rw [hA']; exact IntWalk.i64_in _ (by omega)
  have s2 : IntKind.i64.wrap (1 + k2) = B := by rw [hB']; exact IntWalk.i64_in _ (by omega)
  have hm : MaySc (3 : Nat) A B 5 := by unfold MaySc; omega
  have HM := hid hm
  have a1 : 1 ≤ A := by omega
  have a5 : A ≤ 5 := by omega
  have b1 : 1 ≤ B := by omega
  have b20 : B ≤ 20 := by omega
  have N0 := hid (show Calls Try.prog 19 #[.int .i64 3, .int .i64 A, .int .i64 B, .int .i64 5] w (MadeS w (newS 3 A B 5)) from scnew_yes 3 A B 5 hm w)
  clear hm hA' hB' k10 k11 k20 k21
  go_enter Try.func6, Try.ntmps6
  go_wp2_with fail
  refine N0.out.mono ?_
  rintro e w1 hmade
  obtain ⟨b, hb, rfl, hk⟩ := Sk.made (.refl w none) HM.out hmade
  rw [show newS 3 A B 5 = sP A B (false, 0) from rfl] at hk
  have K1 := hid hk
  clear hmade hk N0 HM
  have I1 := hid (show IntsAt (w1.alloc (.cells #[.int .i64 100, .int .i64 100, .int .i64 500] 2)) (.slice (some ⟨w1.heap.size, 0, none⟩) 3 3) [100, 100, 500] from blk_ints (l := [100, 100, 500]) (at_new w1 _) (by decide))
  have F1 := hid (of_any12 _ _ _ I1.out (by decide))
  go_wp2_with fail
  refine F1.out.mono ?_
  rintro e w2 ⟨u, rfl, hown, hg⟩
  have K2 := hid ((K1.out.alloc (.cells #[.int .i64 100, .int .i64 100, .int .i64 500] 2)).grown hg)
  have O2 := hid (OwnZ.le hown (base' := hb + 1) (by have := (K1.out.alloc (.cells #[.int .i64 100, .int .i64 100, .int .i64 500] 2)).sat.lt.2; omega))
  rw [show ofTo [100, 100, 500] ([100, 100, 500] : List Int).length = rowP from rfl] at O2
  clear hown hg K1 I1 F1
  obtain ⟨pu, cu, rfl⟩ := O2.out.form
  have R3 := hid (show Sr w (sP A B (false, 0)) b hb (.slice pu rowP.length cu) rowP w2.heap.size (w2.alloc (.cells #[.slice pu rowP.length cu] 38)) from ⟨K2.out.alloc _, O2.out.grown (World.grownBy_alloc _ _ none), at_new _ _, K2.out.sat.lt.2⟩)
  clear K2 O2
  go_wp2_with fail
  generalize w2.alloc (.cells #[.slice pu rowP.length cu] 38) = w3 at *
  generalize w2.heap.size = x at *
  go_loopw [9] (fun i wr => ∃ z : Int, 1 ≤ z ∧ z ≤ A + 1 ∧ i = .int .i64 z ∧ Sr w (sP A B (hA A z)) b hb (.slice pu rowP.length cu) rowP x wr)
    (fun i _ => (A + 1 - intOf i).toNat)
  case atStart => exact ⟨1, by omega, by omega, rfl, by unfold hA; rw [if_pos a1]; exact R3.out⟩
  case round =>
    obtain ⟨z, hz1, hz2, rfl, hk⟩ := hrel
    by_cases hlt : z ≤ A
    · unfold hA at hk
      rw [if_pos hlt] at hk
      have K := hid hk
      obtain ⟨z1, hz⟩ : ∃ z1, z1 = z + 1 := ⟨_, rfl⟩
      have sz : IntKind.i64.wrap (z + 1) = z1 := by rw [hz]; exact IntWalk.i64_in _ (by omega)
      have HZ := hid hz
      clear hk R3
      by_cases hlast : z = A
      · subst hlast
        have C := hid (K.out.close (by decide) 3 (p_last z B (z - 1) (by omega)))
        go_wp2_with fail
        refine C.out.mono ?_
        rintro e w4 ⟨p4, q4, rfl, -, hk⟩
        have K4 := hid hk
        have C4 := hid (show Calls Try.prog 24 #[.pointer (some ⟨b, 0, none⟩), .int .i64 2] w4 fun e w' => e = .returned (.bool true) ∧ w4 = w' from hk.out 2 (true, 0) rfl)
        simp only [List.length_cons, List.length_nil, Nat.zero_add]
        clear hk C K
        go_wp2_with fail
        refine C4.out.mono ?_
        rintro e w5 ⟨rfl, rfl⟩
        clear C4
        go_wp2_with fail
        go_roundw
        case rel => exact ⟨z1, by have := HZ.out; omega, by have := HZ.out; omega, by rw [HZ.out], by unfold hA; rw [if_neg (by have := HZ.out; omega)]; exact K4.out⟩
        case measure => have := HZ.out; simp [intOf]; omega
      · have dl : (z == A) = false := by simpa using hlast
        have C := hid (K.out.close (by decide) 3 (p_more A B (z - 1) (by omega)))
        go_wp2_with fail
        refine C.out.mono ?_
        rintro e w4 ⟨p4, q4, rfl, -, hk⟩
        have K4 := hid hk
        have C4 := hid (show Calls Try.prog 24 #[.pointer (some ⟨b, 0, none⟩), .int .i64 2] w4 fun e w' => e = .returned (.bool false) ∧ w4 = w' from hk.out 2 (false, z - 1 + 1) rfl)
        simp only [List.length_nil]
        clear hk C K
        go_wp2_with fail
        refine C4.out.mono ?_
        rintro e w5 ⟨rfl, rfl⟩
        clear C4
        go_wp2_with fail
        go_roundw
        case rel => exact ⟨z1, by have := HZ.out; omega, by have := HZ.out; omega, by rw [HZ.out], by unfold hA; rw [if_pos (by have := HZ.out; omega), show z1 - 1 = z - 1 + 1 by have := HZ.out; omega]; exact K4.out⟩
        case measure => have := HZ.out; simp [intOf]; omega
    · unfold hA at hk
      rw [if_neg hlt] at hk
      have K := hid hk
      clear hk R3 hz1 hz2
      go_wp2_with fail
      go_loopw [11] (fun i wr => ∃ z : Int, 1 ≤ z ∧ z ≤ B + 1 ∧ i = .int .i64 z ∧ Sr w (sP A B (hB B z)) b hb (.slice pu rowP.length cu) rowP x wr)
        (fun i _ => (B + 1 - intOf i).toNat)
      case atStart => exact ⟨1, by omega, by omega, rfl, by unfold hB; rw [if_pos b1]; exact K.out⟩
      case round =>
        obtain ⟨z, hz1, hz2, rfl, hk⟩ := hrel
        clear hlt
        by_cases hlt : z ≤ B
        · unfold hB at hk
          rw [if_pos hlt] at hk
          have C0 := hid (show Calls Try.prog 24 #[.pointer (some ⟨b, 0, none⟩), .int .i64 2] wr fun e w' => e = .returned (.bool true) ∧ wr = w' from hk.out 2 (true, z - 1) rfl)
          obtain ⟨z1, hz⟩ : ∃ z1, z1 = z + 1 := ⟨_, rfl⟩
          have HZ := hid hz
          have C : Hid (Calls Try.prog 20 #[.pointer (some ⟨b, 0, none⟩), .slice (some ⟨x, 0, none⟩) 1 1, .int .i64 3] wr (ClosedR w b hb (.slice pu rowP.length cu) rowP x wr (sP A B (hB B z1)) [])) := by
            unfold hB
            by_cases hl : z + 1 ≤ B
            · rw [if_pos (by omega), show z1 - 1 = z - 1 + 1 by omega]
              exact hk.close (by decide) 3 (q_more A B (z - 1) (by omega))
            · rw [if_neg (by omega)]
              exact hk.close (by decide) 3 (q_last A B (z - 1) (by omega))
          clear hk hz K
          go_wp2_with fail
          refine C0.out.mono ?_
          rintro e w5 ⟨rfl, rfl⟩
          clear C0
          go_wp2_with fail
          refine C.out.mono ?_
          rintro e w4 ⟨p4, q4, rfl, -, hk⟩
          have K4 := hid hk
          clear hk C
          go_wp2_with fail
          go_roundw
          case rel => exact ⟨z1, by have := HZ.out; omega, by have := HZ.out; omega, by rw [HZ.out], K4.out⟩
          case measure => have := HZ.out; simp [intOf]; omega
        · unfold hB at hk
          rw [if_neg hlt] at hk
          have G := hid (show Calls Try.prog 21 #[.pointer (some ⟨b, 0, none⟩), .int .i64 2] wr fun e w' => e = .returned (.tuple #[.agg #[.int .i64 0, .int .i64 0, .bool false], .int .i64 0]) ∧ Sr w _ b hb _ rowP x w' ∧ _ from hk.get 2 (false, 0) rfl)
          clear hk K hz1 hz2
          go_wp2_with fail
          refine G.out.mono ?_
          rintro e w5 ⟨rfl, hk, -⟩
          have B5 := hid (std_new w5)
          have K5 := hid (hk.alloc (.cells #[.int .i64 0, .int .i64 0, .bool false] 45))
          clear hk G
          have T := hid (K5.out.told)
          go_wp2_with fail
          refine T.out.mono ?_
          rintro e w6 ⟨rfl, hk, hg⟩
          have K6 := hid hk
          have hb6 := at_grown B5.out hg (by simp)
          have e0 := at_cell hb6 0
          have e1 := at_cell hb6 1
          have e2 := at_cell hb6 2
          have O0 := hid (show Calls Try.prog 24 #[.pointer (some ⟨b, 0, none⟩), .int .i64 0] w6 fun e w' => e = .returned (.bool false) ∧ w6 = w' from hk.out 0 (false, 0) rfl)
          have O1 := hid (show Calls Try.prog 24 #[.pointer (some ⟨b, 0, none⟩), .int .i64 1] w6 fun e w' => e = .returned (.bool false) ∧ w6 = w' from hk.out 1 (false, 0) rfl)
          clear hk hg T K5 B5 hb6
          go_wp2_with fail
          refine O0.out.mono ?_
          rintro e w7 ⟨rfl, rfl⟩
          clear O0
          go_wp2_with fail
          refine O1.out.mono ?_
          rintro e w7 ⟨rfl, rfl⟩
          clear O1
          go_wp2_with fail
          go_ret
          exact ⟨rfl, K6.out.sk.gr⟩
end Go.Proofs.Ytogmibmkkmbgoaa.scprobe
