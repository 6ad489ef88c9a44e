/-
  The walk of the statement ScoreSteps: strikes go up by one an epoch, and down by one in a clean one, never below nothing; without samples they stay. No condition.
-/
import Derived.Test.YtogmibmkkmbgoaaScR
set_option linter.unusedSimpArgs false
set_option linter.unusedVariables false
namespace Go.Proofs.Ytogmibmkkmbgoaa.scsteps
set_option maxRecDepth 100000
open Go.RowKit

def row4 (x : Int) : List Sm := [⟨0, 0, 0, 100⟩, ⟨1, 0, 0, 100⟩, ⟨2, 0, 0, 100⟩, ⟨3, 0, 0, x⟩]
def row3 : List Sm := [⟨0, 0, 0, 100⟩, ⟨1, 0, 0, 100⟩, ⟨2, 0, 0, 100⟩]
def sS (K : Int) (h : Hd) : Sc := ⟨[(false, 0), (false, 0), (false, 0), h], K, 50, 10⟩
theorem sS_ok {K n : Int} (hK : 2 ≤ K ∧ K ≤ 20) (hn : 0 ≤ n ∧ n < K) : (sS K (false, n)).ok :=
  ⟨by simp [sS], by simp [sS], by simp only [sS]; omega, by simp only [sS]; omega, by simp only [sS]; omega, fun x hx => by
    simp only [sS, List.mem_cons, List.not_mem_nil, or_false] at hx
    rcases hx with rfl | rfl | rfl | rfl <;> (dsimp only; omega)⟩
theorem mid4 : midS (row4 111) 3 = (100, true) := midS_is (by decide) (med_is (by decide) (by decide) (by decide) (by decide))
theorem mid4' : midS (row4 110) 3 = (100, true) := midS_is (by decide) (med_is (by decide) (by decide) (by decide) (by decide))
theorem mid3 : midS row3 3 = (100, true) := midS_is (by decide) (med_is (by decide) (by decide) (by decide) (by decide))
theorem m0 (K n : Int) : marksL (sS K (false, n)) 3 [row4 111] = [1, 1, 1, 2] := marks_one (markM_of (r := row4 111) rfl mid4 rfl)
theorem m1 (K n : Int) : marksL (sS K (false, n)) 3 [row4 110] = [1, 1, 1, 1] := marks_one (markM_of (r := row4 110) rfl mid4' rfl)
theorem m2 (K n : Int) : marksL (sS K (false, n)) 3 [row3] = [1, 1, 1, 0] := marks_one (markM_of (r := row3) rfl mid3 rfl)
theorem up_more (K n : Int) (h : n + 1 < K) : (sS K (false, n)).close [row4 111] 3 = sS K (false, n + 1) ∧ (sS K (false, n)).gone [row4 111] 3 = [] :=
  close_of (m0 K n) (by simp [runTo, endH, moreH, sS, h])
theorem up_last (K n : Int) (h : ¬ n + 1 < K) : (sS K (false, n)).close [row4 111] 3 = sS K (true, 0) ∧ (sS K (false, n)).gone [row4 111] 3 = [3] :=
  close_of (m0 K n) (by simp [runTo, endH, moreH, sS, h])
theorem down (K n y : Int) (hn : 0 ≤ n) (hy : y = max (n - 1) 0) : (sS K (false, n)).close [row4 110] 3 = sS K (false, y) ∧ (sS K (false, n)).gone [row4 110] 3 = [] :=
  close_of (m1 K n) (by
    by_cases h : 0 < n
    · have : y = n - 1 := by omega
      simp [runTo, endH, moreH, sS, h, this]
    · have e0 : n = 0 := by omega
      have : y = 0 := by omega
      simp [runTo, endH, moreH, sS, e0, this])
theorem still (K n : Int) : (sS K (false, n)).close [row3] 3 = sS K (false, n) ∧ (sS K (false, n)).gone [row3] 3 = [] :=
  close_of (m2 K n) (by simp [runTo, endH, moreH, sS])

theorem set4 {base g c : Nat} {w : World} (h : OwnZ base w (.slice (some ⟨g, 0, none⟩) 4 c) (row4 100)) (x : Int) : SAt (w.setCell ⟨g, 15, none⟩ (.int .i64 x)) (.slice (some ⟨g, 0, none⟩) 4 c) (row4 x) := by
  have h3 : 3 < (row4 100).length := by decide
  have h1 := (h.setv h3 x).reads
  have e : (row4 100).set 3 ⟨(row4 100)[3].who, (row4 100)[3].met, (row4 100)[3].ep, x⟩ = row4 x := rfl
  rw [e] at h1
  exact h1
theorem cell4 {base g c : Nat} {w : World} (h : OwnZ base w (.slice (some ⟨g, 0, none⟩) 4 c) (row4 100)) : w.cell? ⟨g, 15, none⟩ = some (.int .i64 100) := by
  have h3 : 3 < (row4 100).length := by decide
  obtain ⟨ab', ao', e', -, -, -, -, -, e3'⟩ := h.reads.cells h3
  cases e'; exact e3'
theorem size_setC (W : World) (a : Addr) (v : Value) : (W.setCell a v).heap.size = W.heap.size := by simp [World.setCell]
theorem chg_set (W : World) (a : Addr) (v : Value) : Chg [a.block] W (W.setCell a v) := (chg_refl W [a.block]).set (.inl (by simp)) v
set_option maxHeartbeats 1600000 in
theorem walk {w : World} (a : Int) (l : List Int) (pp : Option Addr) (c : Nat) (hi : IntsAt w (.slice pp l.length c) l) :
    Calls Try.prog 7 #[.int .i64 a, .slice pp l.length c] w fun e w' => e = .returned (.bool true) ∧ w.grownBy w' none := by
  have HI := hid hi
  obtain ⟨k1, k10, k11, m1'⟩ := umod_int a 19 (by omega)
  have m1' : (IntKind.u64.wrap a).tmod 19 = k1 := m1'
  have c1' : IntKind.i64.wrap k1 = k1 := IntWalk.i64_in _ (by omega)
  obtain ⟨K, hK'⟩ : ∃ K, K = 2 + k1 := ⟨_, rfl⟩
  have s1 : IntKind.i64.wrap (2 + k1) = K := by rw [hK']; exact IntWalk.i64_in _ (by omega)
  have hm : MaySc (4 : Nat) K 50 10 := by unfold MaySc; omega
  have HM := hid hm
  have a1 : 2 ≤ K := by omega
  have a5 : K ≤ 20 := by omega
  have HK20 := hid (show 2 ≤ K ∧ K ≤ 20 from ⟨a1, a5⟩)
  obtain ⟨N, hN⟩ : ∃ N, l.length = N := ⟨_, rfl⟩
  have HN := hid hN
  have hNm := hi.len
  unfold maxLen at hNm
  rw [hN] at HI hNm ⊢
  have N0 := hid (show Calls Try.prog 19 #[.int .i64 4, .int .i64 K, .int .i64 50, .int .i64 10] w (MadeS w (newS 4 K 50 10)) from scnew_yes 4 K 50 10 hm w)
  clear hm hK' k10 k11 hi hN
  go_enter Try.func7, Try.ntmps7
  go_wp2_with fail
  refine N0.out.mono ?_
  rintro e w1 hmade
  obtain ⟨b, hb, rfl, hk⟩ := Sk.made (.refl w none) HM.out hmade
  rw [show newS 4 K 50 10 = sS K (false, 0) from rfl] at hk
  have K1 := hid hk
  clear hmade hk N0 HM
  go_wp2_with fail
  go_loopw [7, 8] (fun u i wr => ∃ (n : Int) (j : Nat), u = .int .i64 n ∧ j ≤ N ∧ j ≤ 40 ∧ i = .int .i64 (j : Int) ∧ 0 ≤ n ∧ n < K ∧ Sk w (sS K (false, n)) b hb wr)
    (fun _ i _ => N - (intOf i).toNat)
  case atStart => exact ⟨0, 0, rfl, Nat.zero_le _, by omega, rfl, by omega, by omega, K1.out⟩
  case round =>
    obtain ⟨n, j, rfl, hj, hj40, rfl, hn0, hnK, hk⟩ := hrel
    have K2 := hid hk
    clear hk K1
    by_cases hlt : j < N
    · by_cases h40 : (j : Int) < 40
      · have hjl : j < l.length := by rw [HN.out]; exact hlt
        obtain ⟨ab, ao, rfl, -, hcc, hcell⟩ := (HI.out.grown K2.out.gr).cell hjl
        have hjn : (j : Int) < (N : Int) := by omega
        generalize l[j] = y at *
        obtain ⟨z, z0, z3, ez⟩ := umod_int y 3 (by omega)
        have ez : (IntKind.u64.wrap y).tmod 3 = z := ez
        have I1 := hid (show IntsAt (wr.alloc (.cells #[.int .i64 100, .int .i64 100, .int .i64 100, .int .i64 100] 2)) (.slice (some ⟨wr.heap.size, 0, none⟩) 4 4) [100, 100, 100, 100] from blk_ints (l := [100, 100, 100, 100]) (at_new wr _) (by decide))
        have F1 := hid (of_any12 _ _ _ I1.out (by decide))
        have HN01 := hid (And.intro hn0 hnK)
        have HJ := hid (And.intro hlt h40)
        have hcell2 := hid hcell
        have hlo := K2.out.sat.lt
        have hwl := K2.out.gr.size
        have HLO := hid (show b < (wr.alloc (.cells #[.int .i64 100, .int .i64 100, .int .i64 100, .int .i64 100] 2)).heap.size ∧ hb < (wr.alloc (.cells #[.int .i64 100, .int .i64 100, .int .i64 100, .int .i64 100] 2)).heap.size ∧ w.heap.size ≤ (wr.alloc (.cells #[.int .i64 100, .int .i64 100, .int .i64 100, .int .i64 100] 2)).heap.size by rw [size_alloc']; omega)
        have hcl := (World.grownBy_alloc wr (.cells #[.int .i64 100, .int .i64 100, .int .i64 100, .int .i64 100] 2) none).cell hcell (by simp)
        clear hcell hjl hlo hwl
        go_wp2_with fail
        refine F1.out.mono ?_
        rintro e w2 ⟨u, rfl, hown, hg⟩
        rw [show ofTo [100, 100, 100, 100] ([100, 100, 100, 100] : List Int).length = row4 100 from rfl] at hown
        have K3 := hid ((K2.out.alloc (.cells #[.int .i64 100, .int .i64 100, .int .i64 100, .int .i64 100] 2)).grown hg)
        have hcell := hg.cell hcl (by simp)
        obtain ⟨g, cu, rfl, hgb, hgs, hcu⟩ := hown.some (by decide)
        have hL4 : (row4 100).length = 4 := rfl
        rw [hL4] at hown hcu ⊢
        have O3 := hid hown
        have HLG := hid (show b ≠ g ∧ hb ≠ g ∧ w.heap.size ≤ g by have := HLO.out; omega)
        have f15 := hown.free (j := 15)
        have c15 := cell4 hown
        have hcu4 : (4 : Nat) ≤ cu := hcu
        clear hown hgb hgs hL4 hcu F1 I1 hcl K2 HLO hcell2
        have hz : z = 0 ∨ z = 1 ∨ z = 2 := by omega
        clear z0 z3
        rcases hz with rfl | rfl | rfl
        · obtain ⟨n1, hn1⟩ : ∃ n1, n1 = n + 1 := ⟨_, rfl⟩
          have sn : IntKind.i64.wrap (n + 1) = n1 := by rw [hn1]; exact IntWalk.i64_in _ (by omega)
          have K4 := hid (K3.out.past (chg_set w2 ⟨g, 15, none⟩ (.int .i64 111)) HLG.out.1 HLG.out.2.1 HLG.out.2.2)
          have SA := hid (set4 O3.out 111)
          by_cases hup : n + 1 < K
          · have hup' : ¬ K ≤ n1 := by omega
            have HY := hid (show n1 = n + 1 ∧ n + 1 < K from ⟨hn1, hup⟩)
            have UP := hid (up_more K n hup)
            rw [← hn1] at UP
            clear hn1 hn0 hnK hj hj40 hlt h40 hup
            have RB := hid (rowsS_one (at_new (w2.setCell ⟨g, 15, none⟩ (.int .i64 111)) (.cells #[.slice (some ⟨g, 0, none⟩) 4 cu] 38)) (SA.out.grown (World.grownBy_alloc _ _ none)))
            rw [size_setC] at RB
            have K5 := hid (K4.out.alloc (.cells #[.slice (some ⟨g, 0, none⟩) 4 cu] 38))
            have CL := hid (K5.out.closeN RB.out (by simp) (by intro y hy; rw [List.mem_singleton.1 hy]; exact (show (row4 111).length ≤ 1000 by decide)) 3 UP.out)
            clear RB SA K4 K3 O3
            go_wp2_with fail
            refine CL.out.mono ?_
            rintro e w6 ⟨p6, q6, rfl, -, hk, -⟩
            have K6 := hid hk
            simp only [List.length_nil, List.length_cons, Nat.zero_add]
            have GT := hid (show Calls Try.prog 21 #[.pointer (some ⟨b, 0, none⟩), .int .i64 3] w6 fun e w' => e = .returned (.tuple #[.agg #[.int .i64 n1, .int .i64 0, .bool false], .int .i64 0]) ∧ w6.grownBy w' none from get_in hk.sat 3 (false, n1) rfl)
            clear hk CL K5
            go_wp2_with fail
            refine GT.out.mono ?_
            rintro e w7 ⟨rfl, hg⟩
            have K8 := hid ((K6.out.grown hg).alloc (.cells #[.int .i64 n1, .int .i64 0, .bool false] 45))
            clear hg GT K6
            go_wp2_with fail
            go_roundw
            case rel => exact ⟨n1, j + 1, rfl, by have := HJ.out; omega, by have := HJ.out; omega, by go_num, by have := HN01.out; have := HY.out; omega, by have := HN01.out; have := HY.out; omega, K8.out⟩
            case measure => have := HJ.out; simp [intOf]; omega
          · have hup' : K ≤ n1 := by omega
            have UP := hid (up_last K n hup)
            clear hn1 hn0 hnK hj hj40 hlt h40 hup
            have RB := hid (rowsS_one (at_new (w2.setCell ⟨g, 15, none⟩ (.int .i64 111)) (.cells #[.slice (some ⟨g, 0, none⟩) 4 cu] 38)) (SA.out.grown (World.grownBy_alloc _ _ none)))
            rw [size_setC] at RB
            have K5 := hid (K4.out.alloc (.cells #[.slice (some ⟨g, 0, none⟩) 4 cu] 38))
            have CL := hid (K5.out.closeN RB.out (by simp) (by intro y hy; rw [List.mem_singleton.1 hy]; exact (show (row4 111).length ≤ 1000 by decide)) 3 UP.out)
            clear RB SA K4 K3 O3
            go_wp2_with fail
            refine CL.out.mono ?_
            rintro e w6 ⟨p6, q6, rfl, -, hk, -⟩
            have K6 := hid hk
            simp only [List.length_nil, List.length_cons, Nat.zero_add]
            have GT := hid (show Calls Try.prog 21 #[.pointer (some ⟨b, 0, none⟩), .int .i64 3] w6 fun e w' => e = .returned (.tuple #[.agg #[.int .i64 0, .int .i64 0, .bool true], .int .i64 0]) ∧ w6.grownBy w' none from get_in hk.sat 3 (true, 0) rfl)
            clear hk CL K5
            go_wp2_with fail
            refine GT.out.mono ?_
            rintro e w7 ⟨rfl, hg⟩
            have K8 := hid ((K6.out.grown hg).alloc (.cells #[.int .i64 0, .int .i64 0, .bool true] 45))
            clear hg GT K6
            go_wp2_with fail
            refine (sctold_any _).mono ?_
            rintro e w8 ⟨rfl, hg⟩
            go_wp2_with fail
            go_ret
            exact ⟨rfl, gb_trans K8.out.gr hg (.inl rfl)⟩
        · obtain ⟨n1, hn1⟩ : ∃ n1, n1 = max (n - 1) 0 := ⟨_, rfl⟩
          obtain ⟨n9, hn9⟩ : ∃ n9, n9 = n - 1 := ⟨_, rfl⟩
          have sn : IntKind.i64.wrap (n - 1) = n9 := by rw [hn9]; exact IntWalk.i64_in _ (by omega)
          have UP := hid (down K n n1 hn0 hn1)
          have HY := hid (show 0 ≤ n1 ∧ n1 < K ∧ max n9 0 = n1 by omega)
          have hup' : ¬ K ≤ n1 := by omega
          have hmx : max n9 0 = n1 := HY.out.2.2
          have K4 := hid (K3.out.past (chg_set w2 ⟨g, 15, none⟩ (.int .i64 110)) HLG.out.1 HLG.out.2.1 HLG.out.2.2)
          have SA := hid (set4 O3.out 110)
          clear hn1 hn9 hn0 hnK hj hj40 hlt h40
          have RB := hid (rowsS_one (at_new (w2.setCell ⟨g, 15, none⟩ (.int .i64 110)) (.cells #[.slice (some ⟨g, 0, none⟩) 4 cu] 38)) (SA.out.grown (World.grownBy_alloc _ _ none)))
          rw [size_setC] at RB
          have K5 := hid (K4.out.alloc (.cells #[.slice (some ⟨g, 0, none⟩) 4 cu] 38))
          have CL := hid (K5.out.closeN RB.out (by simp) (by intro y hy; rw [List.mem_singleton.1 hy]; exact (show (row4 110).length ≤ 1000 by decide)) 3 UP.out)
          clear RB SA K4 K3 O3
          go_wp2_with fail
          refine CL.out.mono ?_
          rintro e w6 ⟨p6, q6, rfl, -, hk, -⟩
          have K6 := hid hk
          simp only [List.length_nil, List.length_cons, Nat.zero_add]
          have GT := hid (show Calls Try.prog 21 #[.pointer (some ⟨b, 0, none⟩), .int .i64 3] w6 fun e w' => e = .returned (.tuple #[.agg #[.int .i64 n1, .int .i64 0, .bool false], .int .i64 0]) ∧ w6.grownBy w' none from get_in hk.sat 3 (false, n1) rfl)
          clear hk CL K5
          go_wp2_with fail
          refine GT.out.mono ?_
          rintro e w7 ⟨rfl, hg⟩
          have K8 := hid ((K6.out.grown hg).alloc (.cells #[.int .i64 n1, .int .i64 0, .bool false] 45))
          clear hg GT K6
          go_wp2_with fail
          go_roundw
          case rel => exact ⟨n1, j + 1, rfl, by have := HJ.out; omega, by have := HJ.out; omega, by go_num, by have := HN01.out; have := HY.out; omega, by have := HN01.out; have := HY.out; omega, K8.out⟩
          case measure => have := HJ.out; simp [intOf]; omega
        · have UP := hid (still K n)
          have HY := hid (show 0 ≤ n ∧ n < K from ⟨hn0, hnK⟩)
          have hup' : ¬ K ≤ n := by omega
          have K4 := K3
          have SA := hid (show SAt w2 (.slice (some ⟨g, 0, none⟩) 3 cu) row3 from O3.out.reads.take (k := 3) (by decide))
          clear hn0 hnK hj hj40 hlt h40
          have RB := hid (rowsS_one (at_new (w2) (.cells #[.slice (some ⟨g, 0, none⟩) 3 cu] 38)) (SA.out.grown (World.grownBy_alloc _ _ none)))
          have K5 := hid (K4.out.alloc (.cells #[.slice (some ⟨g, 0, none⟩) 3 cu] 38))
          have CL := hid (K5.out.closeN RB.out (by simp) (by intro y hy; rw [List.mem_singleton.1 hy]; exact (show (row3).length ≤ 1000 by decide)) 3 UP.out)
          clear RB SA K4 K3 O3
          go_wp2_with fail
          refine CL.out.mono ?_
          rintro e w6 ⟨p6, q6, rfl, -, hk, -⟩
          have K6 := hid hk
          simp only [List.length_nil, List.length_cons, Nat.zero_add]
          have GT := hid (show Calls Try.prog 21 #[.pointer (some ⟨b, 0, none⟩), .int .i64 3] w6 fun e w' => e = .returned (.tuple #[.agg #[.int .i64 n, .int .i64 0, .bool false], .int .i64 0]) ∧ w6.grownBy w' none from get_in hk.sat 3 (false, n) rfl)
          clear hk CL K5
          go_wp2_with fail
          refine GT.out.mono ?_
          rintro e w7 ⟨rfl, hg⟩
          have K8 := hid ((K6.out.grown hg).alloc (.cells #[.int .i64 n, .int .i64 0, .bool false] 45))
          clear hg GT K6
          go_wp2_with fail
          go_roundw
          case rel => exact ⟨n, j + 1, rfl, by have := HJ.out; omega, by have := HJ.out; omega, by go_num, by have := HN01.out; have := HY.out; omega, by have := HN01.out; have := HY.out; omega, K8.out⟩
          case measure => have := HJ.out; simp [intOf]; omega
      · have hjn : (j : Int) < (N : Int) := by omega
        clear hj hj40 hlt
        go_wp2_with fail
        refine (sctold_any _).mono ?_
        rintro e w8 ⟨rfl, hg⟩
        go_wp2_with fail
        go_ret
        exact ⟨rfl, gb_trans K2.out.gr hg (.inl rfl)⟩
    · have hjn : ¬ (j : Int) < (N : Int) := by omega
      clear hj hj40 hlt
      go_wp2_with fail
      refine (sctold_any _).mono ?_
      rintro e w8 ⟨rfl, hg⟩
      go_wp2_with fail
      go_ret
      exact ⟨rfl, gb_trans K2.out.gr hg (.inl rfl)⟩
end Go.Proofs.Ytogmibmkkmbgoaa.scsteps
