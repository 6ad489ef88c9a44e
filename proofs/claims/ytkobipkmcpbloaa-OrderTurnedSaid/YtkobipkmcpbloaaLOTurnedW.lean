/-
  The walk of the statement OrderTurned: in whatever order numbers come, the k-th is the same. No condition.
-/
import Derived.Test.YtkobipkmcpbloaaOTold
import Derived.Test.YtkobipkmcpbloaaKl
import Derived.Test.YtkobipkmcpbloaaUmi
set_option linter.unusedSimpArgs false
set_option linter.unusedVariables false
namespace Go.Proofs.Ytkobipkmcpbloaa.oturned
set_option maxRecDepth 100000
open Go.RowKit

set_option maxHeartbeats 800000 in
theorem walk {w : World} (la : List Int) (pa : Option Addr) (ca : Nat) (ia : IntsAt w (.slice pa la.length ca) la) (fa : Fits la) (at' k : Int) :
    Calls Try.prog 6 #[.slice pa la.length ca, .int .i64 at', .int .i64 k] w fun e w' => e = .returned (.bool true) ∧ w.grownBy w' none := by
  have la1 := ia.len
  have K0 := hid ((Kl.start w).add ia)
  obtain ⟨na, hna⟩ : ∃ n, la.length = n := ⟨_, rfl⟩
  rw [hna] at K0 la1 ⊢
  have NA := hid hna
  unfold maxLen at la1
  clear ia fa hna
  by_cases h0 : na < 1
  · have d1 : decide ((na : Int) < 1) = true := by simp; omega
    have d1b : na < 1 := h0
    go_enter Try.func6, Try.ntmps6
    go_wp2_with fail
    refine (otold_any _).mono ?_
    rintro e w1 ⟨rfl, hg⟩
    have G1 := hid hg; clear hg
    go_wp2_with fail
    go_ret
    exact ⟨rfl, G1.out⟩
  have d1 : decide ((na : Int) < 1) = false := by simp; omega
  by_cases h1 : 30 < na
  · have d2 : decide (30 < (na : Int)) = true := by simp; omega
    go_enter Try.func6, Try.ntmps6
    go_wp2_with fail
    refine (otold_any _).mono ?_
    rintro e w1 ⟨rfl, hg⟩
    have G1 := hid hg; clear hg
    go_wp2_with fail
    go_ret
    exact ⟨rfl, G1.out⟩
  have d2 : decide (30 < (na : Int)) = false := by simp; omega
  obtain ⟨i0, i1, i2, ei⟩ := umod_int at' na (by omega)
  obtain ⟨n0, n1, n2, en⟩ := umod_int k na (by omega)
  obtain ⟨i, rfl⟩ := Int.eq_ofNat_of_zero_le i1
  have sw : IntKind.u64.wrap (na : Int) = (na : Int) := by rw [IntKind.wrap_u64]; omega
  have hna : 0 < la.length := by rw [NA.out]; omega
  obtain ⟨ab, ao, hpa, -, hca, _⟩ := K0.out.i0.cell hna
  subst hpa
  have HI := hid (show i ≤ na by omega)
  have hcai : ca ≠ i := by omega
  have q1 : (i : Int) ≤ (na : Int) := by omega
  have q2 : (i : Int) ≤ (ca : Int) := by omega
  have TG := hid (Bag.drew (Bag.start (L := [(.slice (some ⟨ab, ao, none⟩) na ca, la)]) K0.out.gr (by
    intro p hp
    simp only [List.mem_cons, List.not_mem_nil, or_false] at hp
    rcases hp with rfl
    exact K0.out.i0)))
  go_enter Try.func6, Try.ntmps6
  go_wp2_with fail
  refine wp_region_held_drew (S := (fun w' => (w.grownBy w' none))) (by kernel_rfl) TG.out.gr (fun hHeld => ?_)
  try dsimp only at hHeld
  refine' wpAnyH_take (i := 1) (v := _) rfl (by kernel_rfl) (by kernel_rfl) (by kernel_rfl) (fun _ _ _ h => h) (Or.inl ⟨by rfl, ?_⟩) hHeld ?_
  rotate_left
  · (intro w hSw; (try dsimp only at hSw); go_simp; try with_reducible rfl)
  try simp only [Act.put, List.setIfInBounds_toArray, List.set_cons_zero, List.set_cons_succ, List.getElem_toArray, List.getElem_cons_succ, List.getElem_cons_zero]
  refine' wpAnyH_take (i := 2) (v := _) rfl (by kernel_rfl) (by kernel_rfl) (by kernel_rfl) (fun _ _ _ h => h) (Or.inl ⟨by rfl, ?_⟩) hHeld ?_
  rotate_left
  · (intro w hSw; (try dsimp only at hSw); go_simp; try with_reducible rfl)
  try simp only [Act.put, List.setIfInBounds_toArray, List.set_cons_zero, List.set_cons_succ, List.getElem_toArray, List.getElem_cons_succ, List.getElem_cons_zero]
  refine' wpAnyH_take (i := 3) (v := _) rfl (by kernel_rfl) (by kernel_rfl) (by kernel_rfl) (fun _ _ _ h => h) (Or.inl ⟨by rfl, ?_⟩) hHeld ?_
  rotate_left
  · (intro w hSw; (try dsimp only at hSw); go_simp; try with_reducible rfl)
  try simp only [Act.put, List.setIfInBounds_toArray, List.set_cons_zero, List.set_cons_succ, List.getElem_toArray, List.getElem_cons_succ, List.getElem_cons_zero]
  refine' wpAnyH_take (i := 5) (v := _) rfl (by kernel_rfl) (by kernel_rfl) (by kernel_rfl) (fun _ _ _ h => h) (Or.inl ⟨by rfl, ?_⟩) hHeld ?_
  rotate_left
  · (intro w hSw; (try dsimp only at hSw); go_simp; try with_reducible rfl)
  try simp only [Act.put, List.setIfInBounds_toArray, List.set_cons_zero, List.set_cons_succ, List.getElem_toArray, List.getElem_cons_succ, List.getElem_cons_zero]
  refine' wpAnyH_take (i := 6) (v := _) rfl (by kernel_rfl) (by kernel_rfl) (by kernel_rfl) (fun _ _ _ h => h) (Or.inl ⟨by rfl, ?_⟩) hHeld ?_
  rotate_left
  · (intro w hSw; (try dsimp only at hSw); go_simp; try with_reducible rfl)
  try simp only [Act.put, List.setIfInBounds_toArray, List.set_cons_zero, List.set_cons_succ, List.getElem_toArray, List.getElem_cons_succ, List.getElem_cons_zero]
  refine' wpAnyH_take (i := 7) (v := _) rfl (by kernel_rfl) (by kernel_rfl) (by kernel_rfl) (fun _ _ _ h => h) (Or.inl ⟨by rfl, ?_⟩) hHeld ?_
  rotate_left
  · (intro w hSw; (try dsimp only at hSw); go_simp; try with_reducible rfl)
  try simp only [Act.put, List.setIfInBounds_toArray, List.set_cons_zero, List.set_cons_succ, List.getElem_toArray, List.getElem_cons_succ, List.getElem_cons_zero]
  refine wpAnyH_ready (rs := [0]) (by kernel_rfl) (by simp) ?_
  refine AllReadyH.cons (o := _) rfl (fun K hK => ?_) AllReadyH.nil
  have hH2 := hHeld
  have kg := hH2
  have hg : w.drew.grownBy (w.drew.alloc (.cells #[] 2)) none := World.grownBy_alloc _ _ _
  replace TG := hid TG.out.fresh
  have L0 := hid (show (w.grownBy (w.drew.alloc (.cells #[] 2)) none) from gb_trans kg hg (.inl rfl))
  clear hHeld hg kg
  try simp only [List.getElem_toArray, List.getElem_cons_succ, List.getElem_cons_zero]
  go_simp
  refine hK.out _ _ ?_ (fun hHeld => ?_)
  · exact L0.out
  clear hK K
  try dsimp only at hHeld
  try simp only [Act.put, List.setIfInBounds_toArray, List.set_cons_zero, List.set_cons_succ, List.getElem_toArray, List.getElem_cons_succ, List.getElem_cons_zero]
  refine wpAnyH_ready (rs := [4]) (by kernel_rfl) (by simp) ?_
  refine AllReadyH.cons (o := _) rfl (fun K hK => ?_) AllReadyH.nil
  have hH2 := hHeld
  have kg := hH2
  try simp only [List.getElem_toArray, List.getElem_cons_succ, List.getElem_cons_zero]
  rw [if_pos (by rfl)]
  refine wp_append_ints _ _ rfl w.heap.size _ _ rfl TG.out.own _ _ rfl (TG.out.hd.drop HI.out).1 (by have := NA.out; simp only [List.length_append, List.length_nil, List.length_take, List.length_drop]; omega) TG.out.gr.size ?_
  intro v1 w71 hown hgrow hat
  have hg := True.intro
  replace TG := hid (TG.out.app hown hgrow hat)
  clear hown hgrow hat
  have L4 := hid (show (w.grownBy w71 none) from TG.out.gr)
  clear hHeld kg
  refine hK.out _ _ ?_ (fun hHeld => ?_)
  · exact L4.out
  clear hK K
  try dsimp only at hHeld
  try simp only [Act.put, List.setIfInBounds_toArray, List.set_cons_zero, List.set_cons_succ, List.getElem_toArray, List.getElem_cons_succ, List.getElem_cons_zero]
  refine wpAnyH_ready (rs := [8]) (by kernel_rfl) (by simp) ?_
  refine AllReadyH.cons (o := _) rfl (fun K hK => ?_) AllReadyH.nil
  have hH2 := hHeld
  have kg := hH2
  try simp only [List.getElem_toArray, List.getElem_cons_succ, List.getElem_cons_zero]
  rw [if_pos (by rfl)]
  refine wp_append_ints _ _ rfl w.heap.size _ _ rfl TG.out.own _ _ rfl (TG.out.hd.take HI.out).1 (by have := NA.out; simp only [List.length_append, List.length_nil, List.length_take, List.length_drop]; omega) TG.out.gr.size ?_
  intro v2 w72 hown hgrow hat
  have hg := True.intro
  replace TG := hid (TG.out.app hown hgrow hat)
  clear hown hgrow hat
  have L8 := hid (show (w.grownBy w72 none) from TG.out.gr)
  clear hHeld kg
  refine hK.out _ _ ?_ (fun hHeld => ?_)
  · exact L8.out
  clear hK K
  try dsimp only at hHeld
  try simp only [Act.put, List.setIfInBounds_toArray, List.set_cons_zero, List.set_cons_succ, List.getElem_toArray, List.getElem_cons_succ, List.getElem_cons_zero]
  refine' wpAnyH_take (i := 9) (v := _) rfl (by kernel_rfl) (by kernel_rfl) (by kernel_rfl) (fun _ _ _ h => h) (Or.inl ⟨by rfl, ?_⟩) hHeld ?_
  rotate_left
  · (intro w hSw; (try dsimp only at hSw); go_simp; try with_reducible rfl)
  try simp only [Act.put, List.setIfInBounds_toArray, List.set_cons_zero, List.set_cons_succ, List.getElem_toArray, List.getElem_cons_succ, List.getElem_cons_zero]
  refine wpAnyH_done (by kernel_rfl) ?_ _
  have kg := hHeld
  clear kg
  have hper : ([] ++ la.drop i ++ la.take i).Perm la := by
    have h : (la.drop i ++ la.take i).Perm (la.take i ++ la.drop i) := List.perm_append_comm
    rw [List.take_append_drop] at h
    exact h
  have PER := hid hper
  obtain ⟨lb, hlb⟩ : ∃ lb, [] ++ la.drop i ++ la.take i = lb := ⟨_, rfl⟩
  rw [hlb] at TG PER
  clear hlb hper
  have FO := TG.out.own.form
  obtain ⟨pb, cb, rfl⟩ := FO
  have hlbn : lb.length = na := by rw [PER.out.length_eq, NA.out]
  rw [hlbn] at TG ⊢
  obtain ⟨g, rfl, hcb⟩ : ∃ g, pb = some ⟨g, 0, none⟩ ∧ na ≤ cb := by
    rcases TG.out.own.2 with ⟨e, _⟩ | ⟨g, cap, cur, e, _, _, h3, _⟩
    · cases e; omega
    · have e2 := e; cases e2; exact ⟨g, rfl, by rw [← hlbn]; rwa [hlbn] at h3 ⊢⟩
  clear hlbn hcai
  go_wp2_with fail
  go_loopw [9] (fun s wr => ∃ (j : Nat) (l : List Int), j ≤ na + 1 ∧ s = .int .i64 (j : Int) ∧ l.Perm la ∧ Bag w (.slice (some ⟨g, 0, none⟩) na cb) l [(.slice (some ⟨ab, ao, none⟩) na ca, la)] wr) (fun s _ => na + 1 - (intOf s).toNat)
  case atStart => exact ⟨0, lb, Nat.zero_le _, rfl, PER.out, TG.out⟩
  case round =>
    obtain ⟨j, l, hj, rfl, hp, hB⟩ := hrel
    have B1 := hid hB; have HP := hid hp
    have hll := hp.length_eq
    rw [NA.out] at hll
    clear hB hp TG PER
    obtain ⟨j1, ej1⟩ : ∃ j1, j1 = j + 1 := ⟨_, rfl⟩
    obtain ⟨j2, ej2⟩ : ∃ j2, j2 = j + 2 := ⟨_, rfl⟩
    have s1 : IntKind.i64.wrap ((j : Int) + 1) = (j1 : Int) := by rw [show (j : Int) + 1 = (j1 : Int) by omega]; exact IntWalk.i64_in _ (by omega)
    have s2 : IntKind.i64.wrap ((j : Int) + 2) = (j2 : Int) := by rw [show (j : Int) + 2 = (j2 : Int) by omega]; exact IntWalk.i64_in _ (by omega)
    have EJ := hid ej1; have EJ2 := hid ej2
    by_cases hlt : j1 < na
    · have h0 : j < l.length := by omega
      have h1' : j1 < l.length := by omega
      have hx := List.getElem?_eq_getElem h0
      have hy := List.getElem?_eq_getElem h1'
      have hper2 := List.set_set_perm h0 h1'
      generalize l[j] = x at *
      generalize l[j1] = y at *
      have c0 := B1.out.own.ints.cell' hx
      have c1 := B1.out.own.ints.cell' hy
      rw [Nat.zero_add] at c0 c1
      have f0 := B1.out.own.free (j := j)
      have f1 := B1.out.own.free (j := j1)
      have hy2 : (l.set j y)[j1]? = some y := by rw [List.getElem?_set_ne (by omega)]; exact hy
      have c1' := (B1.out.set (j := j) y).own.ints.cell' hy2
      rw [Nat.zero_add] at c1'
      have f1' := (B1.out.set (j := j) y).own.free (j := j1)
      have BS := hid ((B1.out.drew.set (j := j) y).set (j := j1) x)
      have HP2 := hid (hper2.trans HP.out)
      have q3 : (j1 : Int) < (na : Int) := by omega
      have q4 : (j : Int) < (na : Int) := by omega
      clear hx hy hy2 hper2 hll ej1 ej2 B1 HP
      go_wp2_with fail
      go_region
      go_wp2_with fail
      go_roundw
      case rel => exact ⟨j2, _, by have := EJ.out; have := EJ2.out; omega, by go_num, HP2.out, BS.out⟩
      case measure => have := EJ2.out; simp [intOf]; omega
    · have q3 : ¬ (j1 : Int) < (na : Int) := by omega
      have hnn : n0.toNat < na := by omega
      obtain ⟨nn, rfl⟩ := Int.eq_ofNat_of_zero_le n1
      have hn2 : nn < na := by omega
      have hnm : nn < (ms la).length := by rw [ms_len, NA.out]; exact hn2
      have hat := atOf_in la nn hnm
      have hrk := rk_kth la nn hnm
      have hms : ms l = ms la := ms_of_perm HP.out
      have hat2 : atOf l (nn : Int) = ((ms la)[nn], true) := by
        have h2 : nn < (ms l).length := by rw [hms]; exact hnm
        have := atOf_in l nn h2
        simp only [hms] at this
        exact this
      generalize (ms la)[nn] = x at *
      obtain ⟨r, hr⟩ : ∃ r, rk la x = r := ⟨_, rfl⟩
      have hr2 : rk l x = r := by rw [rk_perm HP.out]; exact hr
      rw [hr] at hrk
      have HAT := hid hat; have HAT2 := hid hat2; have RK := hid hr; have RK2 := hid hr2
      have SM := hid (show decide (ms la = ms l) = true from decide_eq_true hms.symm)
      have HLA := hid (show la.length ≤ 1000000 by rw [NA.out]; omega)
      have HLB := hid (show l.length ≤ 1000000 by omega)
      have K1 := hid (Kl.mk (L := [(.slice (some ⟨g, 0, none⟩) na cb, l), (.slice (some ⟨ab, ao, none⟩) na ca, la)]) B1.out.gr (by
        intro p hp
        simp only [List.mem_cons, List.not_mem_nil, or_false] at hp
        rcases hp with rfl | rfl
        · have := B1.out.own.ints; exact this
        · exact B1.out.hd.1))
      have d3 : (x == x) = true := by simp
      have d4 : decide ((r : Int) ≤ (nn : Int)) = true := by simp; omega
      have d4b : r ≤ nn := hrk
      have d5 : ((r : Int) == (r : Int)) = true := by simp
      clear hat hat2 hr hr2 hms hrk B1 hll ej1 ej2 HP hnn hnm
      go_wp2_with fail
      refine (oat_as K1.out.i1 HLA.out HAT.out).mono ?_
      rintro e w1 ⟨rfl, hg⟩
      have K2 := hid (K1.out.grown hg); clear hg K1
      go_wp2_with fail
      refine (oat_as K2.out.i0 HLB.out HAT2.out).mono ?_
      rintro e w2 ⟨rfl, hg⟩
      have K3 := hid (K2.out.grown hg); clear hg K2
      go_wp2_with fail
      refine (otold_any _).mono ?_
      rintro e w3 ⟨rfl, hg⟩
      have K4 := hid (K3.out.grown hg); clear hg K3
      go_wp2_with fail
      refine (orank_as K4.out.i1 HLA.out RK.out).mono ?_
      rintro e w4 ⟨rfl, hg⟩
      have K5 := hid (K4.out.grown hg); clear hg K4
      go_wp2_with fail
      refine (orank_as K5.out.i1 HLA.out RK.out).mono ?_
      rintro e w5 ⟨rfl, hg⟩
      have K6 := hid (K5.out.grown hg); clear hg K5
      go_wp2_with fail
      refine (orank_as K6.out.i0 HLB.out RK2.out).mono ?_
      rintro e w6 ⟨rfl, hg⟩
      have K7 := hid (K6.out.grown hg); clear hg K6
      go_wp2_with fail
      refine (osame_as K7.out.i1 K7.out.i0 HLA.out HLB.out SM.out).mono ?_
      rintro e w7 ⟨rfl, hg⟩
      have K8 := hid (K7.out.grown hg); clear hg K7
      go_wp2_with fail
      go_ret
      exact ⟨rfl, K8.out.gr⟩
end Go.Proofs.Ytkobipkmcpbloaa.oturned
