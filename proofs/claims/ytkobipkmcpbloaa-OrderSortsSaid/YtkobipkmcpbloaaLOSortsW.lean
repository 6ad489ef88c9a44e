/-
  The walk of the statement OrderSorts: a sorted row rises, and has each number as often. No condition.
-/
import Derived.Test.YtkobipkmcpbloaaOTold
import Derived.Test.YtkobipkmcpbloaaKl
import Derived.Test.YtkobipkmcpbloaaCnt
set_option linter.unusedSimpArgs false
set_option linter.unusedVariables false
namespace Go.Proofs.Ytkobipkmcpbloaa.osorts
set_option maxRecDepth 100000
open Go.RowKit

set_option maxHeartbeats 800000 in
theorem walk {w : World} (la : List Int) (pa : Option Addr) (ca : Nat) (ia : IntsAt w (.slice pa la.length ca) la) (fa : Fits la) :
    Calls Try.prog 5 #[.slice pa la.length ca] w fun e w' => e = .returned (.bool true) ∧ w.grownBy w' none := by
  have la1 := ia.len
  have K0 := hid ((Kl.start w).add ia)
  obtain ⟨na, hna⟩ : ∃ n, la.length = n := ⟨_, rfl⟩
  rw [hna] at K0 la1 ⊢
  have NA := hid hna
  unfold maxLen at la1
  clear ia fa hna
  by_cases h1 : 40 < na
  · have d1 : decide (40 < (na : Int)) = true := by simp; omega
    go_enter Try.func5, Try.ntmps5
    go_wp2_with fail
    refine (otold_any _).mono ?_
    rintro e w1 ⟨rfl, hg⟩
    have G1 := hid hg; clear hg
    go_wp2_with fail
    go_ret
    exact ⟨rfl, G1.out⟩
  have d1 : decide (40 < (na : Int)) = false := by simp; omega
  obtain ⟨m, hm⟩ : ∃ m, ms la = m := ⟨_, rfl⟩
  have hml : m.length = na := by rw [← hm, ms_len, NA.out]
  have MM := hid hm; have ML := hid hml
  have CNT := hid (show ∀ x, cnt m x = cnt la x from fun x => by rw [← hm, cnt_perm (ms_perm _)])
  have SRT := hid (show ∀ i j (hij : i ≤ j) (hi : i < m.length) {x : Int} (hx : m[j]? = some x), m[i] ≤ x from fun i j hij hi x hx => by
    obtain ⟨hj, rfl⟩ := List.getElem?_eq_some_iff.1 hx
    subst hm
    exact ms_le hij hj)
  have RKI := hid (show ∀ i (hi : i < m.length) {x : Int} (hx : m[i]? = some x), rk la x ≤ i from fun i hi x hx => by
    obtain ⟨hj, rfl⟩ := List.getElem?_eq_some_iff.1 hx
    subst hm
    exact rk_kth la i hi)
  have S1 := hid (show decide (ms la = ms m) = true from decide_eq_true (by rw [← hm, ms_ms]))
  have S2 := hid (show decide (ms m = ms la) = true from decide_eq_true (by rw [← hm, ms_ms]))
  have HLA := hid (show la.length ≤ 1000000 by rw [NA.out]; omega)
  have HLM := hid (show m.length ≤ 1000000 by rw [ML.out]; omega)
  have TG := hid ((Bag.start (L := [(.slice pa na ca, la)]) K0.out.gr (by
    intro p hp
    simp only [List.mem_cons, List.not_mem_nil, or_false] at hp
    rcases hp with rfl
    exact K0.out.i0)).fresh)
  have HNA := NA.out
  clear hm hml K0
  go_enter Try.func5, Try.ntmps5
  go_wp2_with (refine append_ints_w (by rfl) _ _ rfl w.heap.size _ _ rfl TG.out.own _ _ rfl TG.out.hd.1 (by simp only [List.length_append, List.length_nil, HNA]; omega) TG.out.gr.size ?_; intro v1 w1 hown hgrow hat; replace TG := hid (TG.out.app hown hgrow hat); clear hown hgrow hat)
  have I1 := hid (show IntsAt w1 v1 la from TG.out.own.ints)
  refine (osort_as I1.out HLA.out MM.out).mono ?_
  rintro e w2 ⟨u, rfl, ho, hg⟩
  have K2 := hid (((((Kl.mk TG.out.gr (by intro p hp; cases hp) : Kl w [] w1).add I1.out).add TG.out.hd.1).grown hg).add ho.ints)
  obtain ⟨pu, cu, rfl⟩ := ho.form
  clear ho hg TG I1 HNA
  rw [ML.out] at K2 ⊢
  have d3 : ((na : Int) != (na : Int)) = false := by simp
  go_wp2_with fail
  refine (samelist_any _ _ _ _ _ K2.out.i2 K2.out.i1 HLA.out HLA.out true (by simp)).mono ?_
  rintro e w3 ⟨rfl, hg⟩
  have K3 := hid (Kl.mk (L := [(.slice pu na cu, m), (.slice pa na ca, la)]) (K2.out.grown hg).gr (by
    intro p hp
    simp only [List.mem_cons, List.not_mem_nil, or_false] at hp
    rcases hp with rfl | rfl
    · exact K2.out.i0.grown hg
    · exact K2.out.i1.grown hg))
  clear hg K2
  go_wp2_with fail
  clear d3
  go_loopw [5, 6, 7, 8] (fun i _ _ _ wr => ∃ k : Nat, k ≤ na ∧ i = .int .i64 (k : Int) ∧ Kl w [(.slice pu na cu, m), (.slice pa na ca, la)] wr) (fun i _ _ _ _ => na - (intOf i).toNat)
  case atStart => exact ⟨0, Nat.zero_le _, rfl, K3.out⟩
  case round =>
    obtain ⟨i, hi, rfl, hK⟩ := hrel
    have K6 := hid hK; clear hK K3
    have q0 : (na : Int) ≤ 40 := by omega
    by_cases hltN : i < na
    · have him : i < m.length := by rw [ML.out]; exact hltN
      have hil : i < la.length := by rw [NA.out]; exact hltN
      have hx := List.getElem?_eq_getElem him
      have hri := RKI.out i him hx
      obtain ⟨ub, uo, hpu, -, hcu, _⟩ := K6.out.i0.cell him
      obtain ⟨ab, ao, hpa, -, hca, _⟩ := K6.out.i1.cell hil
      subst hpu; subst hpa
      generalize m[i] = x at *
      obtain ⟨r, hr⟩ : ∃ r, rk la x = r := ⟨_, rfl⟩
      rw [hr] at hri
      have HX := hid hx; have RK := hid hr; have RI := hid hri
      clear hx hr hri
      have qi : (i : Int) < (na : Int) := by omega
      go_wp2_with fail
      go_loopw [6, 7, 8] (fun n k i wr => ∃ (j : Nat) (zn zk : Int), j ≤ na ∧ i = .int .i64 (j : Int) ∧ n = .int .i64 zn ∧ k = .int .i64 zk ∧ zn = ((cnt (m.take j) x : Nat) : Int) ∧ zk = ((cnt (la.take j) x : Nat) : Int) ∧ Kl w [(.slice (some ⟨ub, uo, none⟩) na cu, m), (.slice (some ⟨ab, ao, none⟩) na ca, la)] wr) (fun _ _ i _ => na - (intOf i).toNat)
      case atStart => exact ⟨0, 0, 0, Nat.zero_le _, rfl, rfl, rfl, by rw [cnt_zero]; rfl, by rw [cnt_zero]; rfl, K6.out⟩
      case round =>
        obtain ⟨j, zn, zk, hj, rfl, rfl, rfl, hzn, hzk, hK⟩ := hrel
        have K7 := hid hK; have ZN := hid hzn; have ZK := hid hzk; clear hK hzn hzk K6
        by_cases hlt : j < na
        · have hkm : j < m.length := by rw [ML.out]; exact hlt
          have hkl : j < la.length := by rw [NA.out]; exact hlt
          have c1 := K7.out.i0.cell' HX.out
          have c2 := K7.out.i0.cell' (List.getElem?_eq_getElem hkm)
          have c3 := K7.out.i1.cell' (List.getElem?_eq_getElem hkl)
          have HZL := hid (List.getElem?_eq_getElem hkl)
          have hs1 := cnt_succ m x j hkm
          have hs2 := cnt_succ la x j hkl
          generalize m[j] = y at *
          generalize la[j] = z at *
          have q1 : (j : Int) < (na : Int) := by omega
          have s1 : IntKind.i64.wrap (zn + 1) = zn + 1 := IntWalk.i64_in _ (by have := ZN.out; have := cnt_le m x j; omega)
          have s2 : IntKind.i64.wrap (zk + 1) = zk + 1 := IntWalk.i64_in _ (by have := ZK.out; have := cnt_le la x j; omega)
          have HS1 := hid hs1; have HS2 := hid hs2; clear hs1 hs2
          by_cases hy : y = x
          · by_cases hz : z = x
            · have d0 : (y == x) = true := by simpa using hy
              have d1 : (z == x) = true := by simpa using hz
              have hn2 : zn + 1 = ((cnt (m.take (j + 1)) x : Nat) : Int) := by rw [HS1.out, if_pos hy, ZN.out]; push_cast; rfl
              have hk2 : zk + 1 = ((cnt (la.take (j + 1)) x : Nat) : Int) := by rw [HS2.out, if_pos hz, ZK.out]; push_cast; rfl
              have HN2 := hid hn2; have HK2 := hid hk2
              clear hn2 hk2 HS1 HS2 hy hz
              go_wp2_with fail
              go_quiet (fail)
              have K8 := hid (K7.out.drewN nq)
              clear c1 c2 c3
              have c1 := K8.out.i0.cell' HX.out
              have c3 := K8.out.i1.cell' HZL.out
              clear K7
              generalize World.drewN _ nq = wi at *
              go_wp2_with fail
              go_quiet (fail)
              go_wp2_with fail
              go_roundw
              case rel => exact ⟨j + 1, zn + 1, zk + 1, by omega, by go_num, rfl, rfl, HN2.out, HK2.out, K8.out.drewN _⟩
              case measure => simp [intOf]; omega
            · have d0 : (y == x) = true := by simpa using hy
              have d1 : (z == x) = false := by simpa using hz
              have hn2 : zn + 1 = ((cnt (m.take (j + 1)) x : Nat) : Int) := by rw [HS1.out, if_pos hy, ZN.out]; push_cast; rfl
              have hk2 : zk = ((cnt (la.take (j + 1)) x : Nat) : Int) := by rw [HS2.out, if_neg hz, ZK.out]; rfl
              have HN2 := hid hn2; have HK2 := hid hk2
              clear hn2 hk2 HS1 HS2 hy hz
              go_wp2_with fail
              go_quiet (fail)
              have K8 := hid (K7.out.drewN nq)
              clear c1 c2 c3
              have c1 := K8.out.i0.cell' HX.out
              have c3 := K8.out.i1.cell' HZL.out
              clear K7
              generalize World.drewN _ nq = wi at *
              go_wp2_with fail
              go_quiet (fail)
              go_wp2_with fail
              go_roundw
              case rel => exact ⟨j + 1, zn + 1, zk, by omega, by go_num, rfl, rfl, HN2.out, HK2.out, K8.out.drewN _⟩
              case measure => simp [intOf]; omega
          · by_cases hz : z = x
            · have d0 : (y == x) = false := by simpa using hy
              have d1 : (z == x) = true := by simpa using hz
              have hn2 : zn = ((cnt (m.take (j + 1)) x : Nat) : Int) := by rw [HS1.out, if_neg hy, ZN.out]; rfl
              have hk2 : zk + 1 = ((cnt (la.take (j + 1)) x : Nat) : Int) := by rw [HS2.out, if_pos hz, ZK.out]; push_cast; rfl
              have HN2 := hid hn2; have HK2 := hid hk2
              clear hn2 hk2 HS1 HS2 hy hz
              go_wp2_with fail
              go_quiet (fail)
              have K8 := hid (K7.out.drewN nq)
              clear c1 c2 c3
              have c1 := K8.out.i0.cell' HX.out
              have c3 := K8.out.i1.cell' HZL.out
              clear K7
              generalize World.drewN _ nq = wi at *
              go_wp2_with fail
              go_quiet (fail)
              go_wp2_with fail
              go_roundw
              case rel => exact ⟨j + 1, zn, zk + 1, by omega, by go_num, rfl, rfl, HN2.out, HK2.out, K8.out.drewN _⟩
              case measure => simp [intOf]; omega
            · have d0 : (y == x) = false := by simpa using hy
              have d1 : (z == x) = false := by simpa using hz
              have hn2 : zn = ((cnt (m.take (j + 1)) x : Nat) : Int) := by rw [HS1.out, if_neg hy, ZN.out]; rfl
              have hk2 : zk = ((cnt (la.take (j + 1)) x : Nat) : Int) := by rw [HS2.out, if_neg hz, ZK.out]; rfl
              have HN2 := hid hn2; have HK2 := hid hk2
              clear hn2 hk2 HS1 HS2 hy hz
              go_wp2_with fail
              go_quiet (fail)
              have K8 := hid (K7.out.drewN nq)
              clear c1 c2 c3
              have c1 := K8.out.i0.cell' HX.out
              have c3 := K8.out.i1.cell' HZL.out
              clear K7
              generalize World.drewN _ nq = wi at *
              go_wp2_with fail
              go_quiet (fail)
              go_wp2_with fail
              go_roundw
              case rel => exact ⟨j + 1, zn, zk, by omega, by go_num, rfl, rfl, HN2.out, HK2.out, K8.out.drewN _⟩
              case measure => simp [intOf]; omega
        · have hjn : j = na := by omega
          have hq : ¬ (j : Int) < (na : Int) := by omega
          have hzz : (zn != zk) = false := by
            have h1 := ZN.out; have h2 := ZK.out
            rw [cnt_all m x j (by rw [ML.out]; omega), CNT.out x] at h1
            rw [cnt_all la x j (by rw [NA.out]; omega)] at h2
            simp; omega
          clear hjn ZN ZK hj
          have K8 := hid K7.out; clear K7
          have qi : (i : Int) < (na : Int) := by omega
          have dr : decide ((i : Int) < (r : Int)) = false := by simp; have := RI.out; omega
          have drn : ¬ i < r := by have := RI.out; omega
          by_cases hi0 : i = 0
          · have d1 : decide (0 < (i : Int)) = false := by simp; omega
            have d1b : ¬ 0 < i := by omega
            clear hi0
            go_wp2_with fail
            refine wp_region_held_drew (S := (fun w' => (Kl w [(.slice (some ⟨ub, uo, none⟩) na cu, m), (.slice (some ⟨ab, ao, none⟩) na ca, la)] w'))) (by kernel_rfl) K8.out.drew (fun hHeld => ?_)
            try dsimp only at hHeld
            refine' wpAnyH_take (i := 0) (v := _) rfl (by kernel_rfl) (by kernel_rfl) (by kernel_rfl) (fun _ _ _ h => h) (Or.inl ⟨by rfl, ?_⟩) hHeld ?_
            rotate_left
            · (intro w hSw; (try dsimp only at hSw); go_simp; try with_reducible rfl)
            try simp only [Act.put, List.setIfInBounds_toArray, List.set_cons_zero, List.set_cons_succ, List.getElem_toArray, List.getElem_cons_succ, List.getElem_cons_zero]
            refine' wpAnyH_take (i := 1) (v := _) rfl (by kernel_rfl) (by kernel_rfl) (by kernel_rfl) (fun _ _ _ h => h) (Or.inl ⟨by rfl, ?_⟩) hHeld ?_
            rotate_left
            · (intro w hSw; (try dsimp only at hSw); go_simp; try with_reducible rfl)
            try simp only [Act.put, List.setIfInBounds_toArray, List.set_cons_zero, List.set_cons_succ, List.getElem_toArray, List.getElem_cons_succ, List.getElem_cons_zero]
            refine' wpAnyH_take (i := 2) (v := _) rfl (by kernel_rfl) (by kernel_rfl) (by kernel_rfl) (fun _ _ _ h => h) (Or.inl ⟨by rfl, ?_⟩) hHeld ?_
            rotate_left
            · (intro w hSw; (try dsimp only at hSw); go_simp; try with_reducible rfl)
            try simp only [Act.put, List.setIfInBounds_toArray, List.set_cons_zero, List.set_cons_succ, List.getElem_toArray, List.getElem_cons_succ, List.getElem_cons_zero]
            refine' wpAnyH_take (i := 3) (v := _) rfl (by kernel_rfl) (by kernel_rfl) (by kernel_rfl) (fun _ _ _ h => h) (Or.inl ⟨by rfl, ?_⟩) hHeld ?_
            rotate_left
            · (intro w hSw; (try dsimp only at hSw); go_simp; try with_reducible rfl)
            try simp only [Act.put, List.setIfInBounds_toArray, List.set_cons_zero, List.set_cons_succ, List.getElem_toArray, List.getElem_cons_succ, List.getElem_cons_zero]
            refine' wpAnyH_take (i := 4) (v := _) rfl (by kernel_rfl) (by kernel_rfl) (by kernel_rfl) (fun _ _ _ h => h) (Or.inl ⟨by rfl, ?_⟩) hHeld ?_
            rotate_left
            · (intro w hSw; (try dsimp only at hSw); go_simp; try with_reducible rfl)
            try simp only [Act.put, List.setIfInBounds_toArray, List.set_cons_zero, List.set_cons_succ, List.getElem_toArray, List.getElem_cons_succ, List.getElem_cons_zero]
            refine' wpAnyH_take (i := 5) (v := _) rfl (by kernel_rfl) (by kernel_rfl) (by kernel_rfl) (fun _ _ _ h => h) (Or.inl ⟨by rfl, ?_⟩) hHeld ?_
            rotate_left
            · (intro w hSw; (try dsimp only at hSw); go_simp; try with_reducible rfl)
            try simp only [Act.put, List.setIfInBounds_toArray, List.set_cons_zero, List.set_cons_succ, List.getElem_toArray, List.getElem_cons_succ, List.getElem_cons_zero]
            refine' wpAnyH_take (i := 6) (v := _) rfl (by kernel_rfl) (by kernel_rfl) (by kernel_rfl) (fun _ _ _ h => h) (Or.inl ⟨by rfl, ?_⟩) hHeld ?_
            rotate_left
            · (intro w hSw; (try dsimp only at hSw); go_simp; try with_reducible rfl)
            try simp only [Act.put, List.setIfInBounds_toArray, List.set_cons_zero, List.set_cons_succ, List.getElem_toArray, List.getElem_cons_succ, List.getElem_cons_zero]
            refine' wpAnyH_take (i := 7) (v := undef) rfl (by kernel_rfl) (by kernel_rfl) (by kernel_rfl) (fun _ _ _ h => h) (Or.inr ⟨by rfl, rfl⟩) hHeld ?_
            try simp only [Act.put, List.setIfInBounds_toArray, List.set_cons_zero, List.set_cons_succ, List.getElem_toArray, List.getElem_cons_succ, List.getElem_cons_zero]
            refine' wpAnyH_take (i := 8) (v := undef) rfl (by kernel_rfl) (by kernel_rfl) (by kernel_rfl) (fun _ _ _ h => h) (Or.inr ⟨by rfl, rfl⟩) hHeld ?_
            try simp only [Act.put, List.setIfInBounds_toArray, List.set_cons_zero, List.set_cons_succ, List.getElem_toArray, List.getElem_cons_succ, List.getElem_cons_zero]
            refine' wpAnyH_take (i := 9) (v := undef) rfl (by kernel_rfl) (by kernel_rfl) (by kernel_rfl) (fun _ _ _ h => h) (Or.inr ⟨by rfl, rfl⟩) hHeld ?_
            try simp only [Act.put, List.setIfInBounds_toArray, List.set_cons_zero, List.set_cons_succ, List.getElem_toArray, List.getElem_cons_succ, List.getElem_cons_zero]
            refine' wpAnyH_take (i := 10) (v := undef) rfl (by kernel_rfl) (by kernel_rfl) (by kernel_rfl) (fun _ _ _ h => h) (Or.inr ⟨by rfl, rfl⟩) hHeld ?_
            try simp only [Act.put, List.setIfInBounds_toArray, List.set_cons_zero, List.set_cons_succ, List.getElem_toArray, List.getElem_cons_succ, List.getElem_cons_zero]
            refine' wpAnyH_take (i := 11) (v := undef) rfl (by kernel_rfl) (by kernel_rfl) (by kernel_rfl) (fun _ _ _ h => h) (Or.inr ⟨by rfl, rfl⟩) hHeld ?_
            try simp only [Act.put, List.setIfInBounds_toArray, List.set_cons_zero, List.set_cons_succ, List.getElem_toArray, List.getElem_cons_succ, List.getElem_cons_zero]
            refine' wpAnyH_take (i := 12) (v := undef) rfl (by kernel_rfl) (by kernel_rfl) (by kernel_rfl) (fun _ _ _ h => h) (Or.inr ⟨by rfl, rfl⟩) hHeld ?_
            try simp only [Act.put, List.setIfInBounds_toArray, List.set_cons_zero, List.set_cons_succ, List.getElem_toArray, List.getElem_cons_succ, List.getElem_cons_zero]
            refine' wpAnyH_take (i := 13) (v := undef) rfl (by kernel_rfl) (by kernel_rfl) (by kernel_rfl) (fun _ _ _ h => h) (Or.inr ⟨by rfl, rfl⟩) hHeld ?_
            try simp only [Act.put, List.setIfInBounds_toArray, List.set_cons_zero, List.set_cons_succ, List.getElem_toArray, List.getElem_cons_succ, List.getElem_cons_zero]
            refine' wpAnyH_take (i := 14) (v := undef) rfl (by kernel_rfl) (by kernel_rfl) (by kernel_rfl) (fun _ _ _ h => h) (Or.inr ⟨by rfl, rfl⟩) hHeld ?_
            try simp only [Act.put, List.setIfInBounds_toArray, List.set_cons_zero, List.set_cons_succ, List.getElem_toArray, List.getElem_cons_succ, List.getElem_cons_zero]
            refine' wpAnyH_take (i := 15) (v := undef) rfl (by kernel_rfl) (by kernel_rfl) (by kernel_rfl) (fun _ _ _ h => h) (Or.inr ⟨by rfl, rfl⟩) hHeld ?_
            try simp only [Act.put, List.setIfInBounds_toArray, List.set_cons_zero, List.set_cons_succ, List.getElem_toArray, List.getElem_cons_succ, List.getElem_cons_zero]
            refine' wpAnyH_take (i := 16) (v := undef) rfl (by kernel_rfl) (by kernel_rfl) (by kernel_rfl) (fun _ _ _ h => h) (Or.inr ⟨by rfl, rfl⟩) hHeld ?_
            try simp only [Act.put, List.setIfInBounds_toArray, List.set_cons_zero, List.set_cons_succ, List.getElem_toArray, List.getElem_cons_succ, List.getElem_cons_zero]
            refine' wpAnyH_take (i := 17) (v := _) rfl (by kernel_rfl) (by kernel_rfl) (by kernel_rfl) (fun _ _ _ h => h) (Or.inl ⟨by rfl, ?_⟩) hHeld ?_
            rotate_left
            · (intro w hSw; (try dsimp only at hSw); go_simp; try with_reducible rfl)
            try simp only [Act.put, List.setIfInBounds_toArray, List.set_cons_zero, List.set_cons_succ, List.getElem_toArray, List.getElem_cons_succ, List.getElem_cons_zero]
            refine' wpAnyH_take (i := 18) (v := _) rfl (by kernel_rfl) (by kernel_rfl) (by kernel_rfl) (fun _ _ _ h => h) (Or.inl ⟨by rfl, ?_⟩) hHeld ?_
            rotate_left
            · (intro w hSw; (try dsimp only at hSw); go_simp; try with_reducible rfl)
            try simp only [Act.put, List.setIfInBounds_toArray, List.set_cons_zero, List.set_cons_succ, List.getElem_toArray, List.getElem_cons_succ, List.getElem_cons_zero]
            refine' wpAnyH_take (i := 19) (v := _) rfl (by kernel_rfl) (by kernel_rfl) (by kernel_rfl) (fun _ _ _ h => h) (Or.inl ⟨by rfl, ?_⟩) hHeld ?_
            rotate_left
            · (intro w hSw; (try dsimp only at hSw); go_simp; try with_reducible rfl)
            try simp only [Act.put, List.setIfInBounds_toArray, List.set_cons_zero, List.set_cons_succ, List.getElem_toArray, List.getElem_cons_succ, List.getElem_cons_zero]
            refine' wpAnyH_take (i := 20) (v := _) rfl (by kernel_rfl) (by kernel_rfl) (by kernel_rfl) (fun _ _ _ h => h) (Or.inl ⟨by rfl, ?_⟩) hHeld ?_
            rotate_left
            · (intro w hSw; (try dsimp only at hSw); go_simp; try with_reducible rfl)
            try simp only [Act.put, List.setIfInBounds_toArray, List.set_cons_zero, List.set_cons_succ, List.getElem_toArray, List.getElem_cons_succ, List.getElem_cons_zero]
            refine' wpAnyH_take (i := 21) (v := _) rfl (by kernel_rfl) (by kernel_rfl) (by kernel_rfl) (fun _ _ _ h => h) (Or.inl ⟨by rfl, ?_⟩) hHeld ?_
            rotate_left
            · (intro w hSw; (try dsimp only at hSw); go_simp; try with_reducible rfl)
            try simp only [Act.put, List.setIfInBounds_toArray, List.set_cons_zero, List.set_cons_succ, List.getElem_toArray, List.getElem_cons_succ, List.getElem_cons_zero]
            refine' wpAnyH_take (i := 22) (v := _) rfl (by kernel_rfl) (by kernel_rfl) (by kernel_rfl) (fun _ _ _ h => h) (Or.inl ⟨by rfl, ?_⟩) hHeld ?_
            rotate_left
            · (intro w hSw; (try dsimp only at hSw); go_simp; try with_reducible rfl)
            try simp only [Act.put, List.setIfInBounds_toArray, List.set_cons_zero, List.set_cons_succ, List.getElem_toArray, List.getElem_cons_succ, List.getElem_cons_zero]
            refine' wpAnyH_take (i := 23) (v := _) rfl (by kernel_rfl) (by kernel_rfl) (by kernel_rfl) (fun _ _ _ h => h) (Or.inl ⟨by rfl, ?_⟩) hHeld ?_
            rotate_left
            · (intro w hSw; (try dsimp only at hSw); go_simp; try with_reducible rfl)
            try simp only [Act.put, List.setIfInBounds_toArray, List.set_cons_zero, List.set_cons_succ, List.getElem_toArray, List.getElem_cons_succ, List.getElem_cons_zero]
            refine' wpAnyH_take (i := 24) (v := _) rfl (by kernel_rfl) (by kernel_rfl) (by kernel_rfl) (fun _ _ _ h => h) (Or.inl ⟨by rfl, ?_⟩) hHeld ?_
            rotate_left
            · (intro w hSw; (try dsimp only at hSw); have kl := hSw; have cx := kl.i0.cell' HX.out; go_simp; try with_reducible rfl)
            try simp only [Act.put, List.setIfInBounds_toArray, List.set_cons_zero, List.set_cons_succ, List.getElem_toArray, List.getElem_cons_succ, List.getElem_cons_zero]
            refine' wpAnyH_take (i := 26) (v := _) rfl (by kernel_rfl) (by kernel_rfl) (by kernel_rfl) (fun _ _ _ h => h) (Or.inl ⟨by rfl, ?_⟩) hHeld ?_
            rotate_left
            · (intro w hSw; (try dsimp only at hSw); go_simp; try with_reducible rfl)
            try simp only [Act.put, List.setIfInBounds_toArray, List.set_cons_zero, List.set_cons_succ, List.getElem_toArray, List.getElem_cons_succ, List.getElem_cons_zero]
            refine wpAnyH_ready (rs := [25]) (by kernel_rfl) (by simp) ?_
            refine AllReadyH.cons (o := _) rfl (fun K hK => ?_) AllReadyH.nil
            try simp only [List.getElem_toArray, List.getElem_cons_succ, List.getElem_cons_zero]
            go_simp
            have hH2 := hHeld
            have kl := hH2
            refine (orank_as kl.i1 HLA.out RK.out).mono ?_
            rintro e w1025 ⟨rfl, hg⟩
            have L25 := hid (show (Kl w [(.slice (some ⟨ub, uo, none⟩) na cu, m), (.slice (some ⟨ab, ao, none⟩) na ca, la)] w1025) from kl.grown hg)
            clear hHeld hg kl
            go_wp2_with fail
            refine hK.out _ _ ?_ (fun hHeld => ?_)
            · exact L25.out
            clear hK K
            try dsimp only at hHeld
            try simp only [Act.put, List.setIfInBounds_toArray, List.set_cons_zero, List.set_cons_succ, List.getElem_toArray, List.getElem_cons_succ, List.getElem_cons_zero]
            refine' wpAnyH_take (i := 27) (v := _) rfl (by kernel_rfl) (by kernel_rfl) (by kernel_rfl) (fun _ _ _ h => h) (Or.inl ⟨by rfl, ?_⟩) hHeld ?_
            rotate_left
            · (intro w hSw; (try dsimp only at hSw); go_simp; try with_reducible rfl)
            try simp only [Act.put, List.setIfInBounds_toArray, List.set_cons_zero, List.set_cons_succ, List.getElem_toArray, List.getElem_cons_succ, List.getElem_cons_zero]
            refine' wpAnyH_take (i := 28) (v := _) rfl (by kernel_rfl) (by kernel_rfl) (by kernel_rfl) (fun _ _ _ h => h) (Or.inl ⟨by rfl, ?_⟩) hHeld ?_
            rotate_left
            · (intro w hSw; (try dsimp only at hSw); go_simp; try with_reducible rfl)
            try simp only [Act.put, List.setIfInBounds_toArray, List.set_cons_zero, List.set_cons_succ, List.getElem_toArray, List.getElem_cons_succ, List.getElem_cons_zero]
            refine wpAnyH_done (by kernel_rfl) ?_ _
            have kl := hHeld
            have K9 := hid kl; clear kl
            go_wp2_with fail
            go_roundw
            case rel => exact ⟨i + 1, by omega, by go_num, K9.out⟩
            case measure => simp [intOf]; omega
          · have d1 : decide (0 < (i : Int)) = true := by simp; omega
            have d1b : 0 < i := by omega
            have him1 : i - 1 < m.length := by rw [ML.out]; omega
            have hle : m[i - 1] ≤ x := SRT.out (i - 1) i (by omega) him1 HX.out
            have hy := List.getElem?_eq_getElem him1
            generalize m[i - 1] = y at *
            obtain ⟨i1, hi1⟩ : ∃ i1, i - 1 = i1 := ⟨_, rfl⟩
            rw [hi1] at hy
            have HY := hid hy
            have s1 : IntKind.i64.wrap ((i : Int) - 1) = (i1 : Int) := by rw [show (i : Int) - 1 = (i1 : Int) by omega]; exact IntWalk.i64_in _ (by omega)
            have q2 : (i1 : Int) < (na : Int) := by omega
            have d2 : decide (x < y) = false := by simp; omega
            clear hle hi1 him1 hy
            go_wp2_with fail
            refine wp_region_held_drew (S := (fun w' => (Kl w [(.slice (some ⟨ub, uo, none⟩) na cu, m), (.slice (some ⟨ab, ao, none⟩) na ca, la)] w'))) (by kernel_rfl) K8.out.drew (fun hHeld => ?_)
            try dsimp only at hHeld
            refine' wpAnyH_take (i := 0) (v := _) rfl (by kernel_rfl) (by kernel_rfl) (by kernel_rfl) (fun _ _ _ h => h) (Or.inl ⟨by rfl, ?_⟩) hHeld ?_
            rotate_left
            · (intro w hSw; (try dsimp only at hSw); go_simp; try with_reducible rfl)
            try simp only [Act.put, List.setIfInBounds_toArray, List.set_cons_zero, List.set_cons_succ, List.getElem_toArray, List.getElem_cons_succ, List.getElem_cons_zero]
            refine' wpAnyH_take (i := 1) (v := _) rfl (by kernel_rfl) (by kernel_rfl) (by kernel_rfl) (fun _ _ _ h => h) (Or.inl ⟨by rfl, ?_⟩) hHeld ?_
            rotate_left
            · (intro w hSw; (try dsimp only at hSw); go_simp; try with_reducible rfl)
            try simp only [Act.put, List.setIfInBounds_toArray, List.set_cons_zero, List.set_cons_succ, List.getElem_toArray, List.getElem_cons_succ, List.getElem_cons_zero]
            refine' wpAnyH_take (i := 2) (v := _) rfl (by kernel_rfl) (by kernel_rfl) (by kernel_rfl) (fun _ _ _ h => h) (Or.inl ⟨by rfl, ?_⟩) hHeld ?_
            rotate_left
            · (intro w hSw; (try dsimp only at hSw); go_simp; try with_reducible rfl)
            try simp only [Act.put, List.setIfInBounds_toArray, List.set_cons_zero, List.set_cons_succ, List.getElem_toArray, List.getElem_cons_succ, List.getElem_cons_zero]
            refine' wpAnyH_take (i := 3) (v := _) rfl (by kernel_rfl) (by kernel_rfl) (by kernel_rfl) (fun _ _ _ h => h) (Or.inl ⟨by rfl, ?_⟩) hHeld ?_
            rotate_left
            · (intro w hSw; (try dsimp only at hSw); go_simp; try with_reducible rfl)
            try simp only [Act.put, List.setIfInBounds_toArray, List.set_cons_zero, List.set_cons_succ, List.getElem_toArray, List.getElem_cons_succ, List.getElem_cons_zero]
            refine' wpAnyH_take (i := 4) (v := _) rfl (by kernel_rfl) (by kernel_rfl) (by kernel_rfl) (fun _ _ _ h => h) (Or.inl ⟨by rfl, ?_⟩) hHeld ?_
            rotate_left
            · (intro w hSw; (try dsimp only at hSw); go_simp; try with_reducible rfl)
            try simp only [Act.put, List.setIfInBounds_toArray, List.set_cons_zero, List.set_cons_succ, List.getElem_toArray, List.getElem_cons_succ, List.getElem_cons_zero]
            refine' wpAnyH_take (i := 5) (v := _) rfl (by kernel_rfl) (by kernel_rfl) (by kernel_rfl) (fun _ _ _ h => h) (Or.inl ⟨by rfl, ?_⟩) hHeld ?_
            rotate_left
            · (intro w hSw; (try dsimp only at hSw); go_simp; try with_reducible rfl)
            try simp only [Act.put, List.setIfInBounds_toArray, List.set_cons_zero, List.set_cons_succ, List.getElem_toArray, List.getElem_cons_succ, List.getElem_cons_zero]
            refine' wpAnyH_take (i := 6) (v := _) rfl (by kernel_rfl) (by kernel_rfl) (by kernel_rfl) (fun _ _ _ h => h) (Or.inl ⟨by rfl, ?_⟩) hHeld ?_
            rotate_left
            · (intro w hSw; (try dsimp only at hSw); go_simp; try with_reducible rfl)
            try simp only [Act.put, List.setIfInBounds_toArray, List.set_cons_zero, List.set_cons_succ, List.getElem_toArray, List.getElem_cons_succ, List.getElem_cons_zero]
            refine' wpAnyH_take (i := 7) (v := _) rfl (by kernel_rfl) (by kernel_rfl) (by kernel_rfl) (fun _ _ _ h => h) (Or.inl ⟨by rfl, ?_⟩) hHeld ?_
            rotate_left
            · (intro w hSw; (try dsimp only at hSw); go_simp; try with_reducible rfl)
            try simp only [Act.put, List.setIfInBounds_toArray, List.set_cons_zero, List.set_cons_succ, List.getElem_toArray, List.getElem_cons_succ, List.getElem_cons_zero]
            refine' wpAnyH_take (i := 8) (v := _) rfl (by kernel_rfl) (by kernel_rfl) (by kernel_rfl) (fun _ _ _ h => h) (Or.inl ⟨by rfl, ?_⟩) hHeld ?_
            rotate_left
            · (intro w hSw; (try dsimp only at hSw); go_simp; try with_reducible rfl)
            try simp only [Act.put, List.setIfInBounds_toArray, List.set_cons_zero, List.set_cons_succ, List.getElem_toArray, List.getElem_cons_succ, List.getElem_cons_zero]
            refine' wpAnyH_take (i := 9) (v := _) rfl (by kernel_rfl) (by kernel_rfl) (by kernel_rfl) (fun _ _ _ h => h) (Or.inl ⟨by rfl, ?_⟩) hHeld ?_
            rotate_left
            · (intro w hSw; (try dsimp only at hSw); go_simp; try with_reducible rfl)
            try simp only [Act.put, List.setIfInBounds_toArray, List.set_cons_zero, List.set_cons_succ, List.getElem_toArray, List.getElem_cons_succ, List.getElem_cons_zero]
            refine' wpAnyH_take (i := 10) (v := _) rfl (by kernel_rfl) (by kernel_rfl) (by kernel_rfl) (fun _ _ _ h => h) (Or.inl ⟨by rfl, ?_⟩) hHeld ?_
            rotate_left
            · (intro w hSw; (try dsimp only at hSw); have kl := hSw; have cx := kl.i0.cell' HX.out; have cy := kl.i0.cell' HY.out; go_simp; try with_reducible rfl)
            try simp only [Act.put, List.setIfInBounds_toArray, List.set_cons_zero, List.set_cons_succ, List.getElem_toArray, List.getElem_cons_succ, List.getElem_cons_zero]
            refine' wpAnyH_take (i := 11) (v := _) rfl (by kernel_rfl) (by kernel_rfl) (by kernel_rfl) (fun _ _ _ h => h) (Or.inl ⟨by rfl, ?_⟩) hHeld ?_
            rotate_left
            · (intro w hSw; (try dsimp only at hSw); go_simp; try with_reducible rfl)
            try simp only [Act.put, List.setIfInBounds_toArray, List.set_cons_zero, List.set_cons_succ, List.getElem_toArray, List.getElem_cons_succ, List.getElem_cons_zero]
            refine' wpAnyH_take (i := 12) (v := _) rfl (by kernel_rfl) (by kernel_rfl) (by kernel_rfl) (fun _ _ _ h => h) (Or.inl ⟨by rfl, ?_⟩) hHeld ?_
            rotate_left
            · (intro w hSw; (try dsimp only at hSw); go_simp; try with_reducible rfl)
            try simp only [Act.put, List.setIfInBounds_toArray, List.set_cons_zero, List.set_cons_succ, List.getElem_toArray, List.getElem_cons_succ, List.getElem_cons_zero]
            refine' wpAnyH_take (i := 13) (v := _) rfl (by kernel_rfl) (by kernel_rfl) (by kernel_rfl) (fun _ _ _ h => h) (Or.inl ⟨by rfl, ?_⟩) hHeld ?_
            rotate_left
            · (intro w hSw; (try dsimp only at hSw); go_simp; try with_reducible rfl)
            try simp only [Act.put, List.setIfInBounds_toArray, List.set_cons_zero, List.set_cons_succ, List.getElem_toArray, List.getElem_cons_succ, List.getElem_cons_zero]
            refine' wpAnyH_take (i := 14) (v := _) rfl (by kernel_rfl) (by kernel_rfl) (by kernel_rfl) (fun _ _ _ h => h) (Or.inl ⟨by rfl, ?_⟩) hHeld ?_
            rotate_left
            · (intro w hSw; (try dsimp only at hSw); go_simp; try with_reducible rfl)
            try simp only [Act.put, List.setIfInBounds_toArray, List.set_cons_zero, List.set_cons_succ, List.getElem_toArray, List.getElem_cons_succ, List.getElem_cons_zero]
            refine' wpAnyH_take (i := 15) (v := _) rfl (by kernel_rfl) (by kernel_rfl) (by kernel_rfl) (fun _ _ _ h => h) (Or.inl ⟨by rfl, ?_⟩) hHeld ?_
            rotate_left
            · (intro w hSw; (try dsimp only at hSw); have kl := hSw; have cx := kl.i0.cell' HX.out; have cy := kl.i0.cell' HY.out; go_simp; try with_reducible rfl)
            try simp only [Act.put, List.setIfInBounds_toArray, List.set_cons_zero, List.set_cons_succ, List.getElem_toArray, List.getElem_cons_succ, List.getElem_cons_zero]
            refine' wpAnyH_take (i := 16) (v := _) rfl (by kernel_rfl) (by kernel_rfl) (by kernel_rfl) (fun _ _ _ h => h) (Or.inl ⟨by rfl, ?_⟩) hHeld ?_
            rotate_left
            · (intro w hSw; (try dsimp only at hSw); go_simp; try with_reducible rfl)
            try simp only [Act.put, List.setIfInBounds_toArray, List.set_cons_zero, List.set_cons_succ, List.getElem_toArray, List.getElem_cons_succ, List.getElem_cons_zero]
            refine' wpAnyH_take (i := 17) (v := _) rfl (by kernel_rfl) (by kernel_rfl) (by kernel_rfl) (fun _ _ _ h => h) (Or.inl ⟨by rfl, ?_⟩) hHeld ?_
            rotate_left
            · (intro w hSw; (try dsimp only at hSw); go_simp; try with_reducible rfl)
            try simp only [Act.put, List.setIfInBounds_toArray, List.set_cons_zero, List.set_cons_succ, List.getElem_toArray, List.getElem_cons_succ, List.getElem_cons_zero]
            refine' wpAnyH_take (i := 18) (v := _) rfl (by kernel_rfl) (by kernel_rfl) (by kernel_rfl) (fun _ _ _ h => h) (Or.inl ⟨by rfl, ?_⟩) hHeld ?_
            rotate_left
            · (intro w hSw; (try dsimp only at hSw); go_simp; try with_reducible rfl)
            try simp only [Act.put, List.setIfInBounds_toArray, List.set_cons_zero, List.set_cons_succ, List.getElem_toArray, List.getElem_cons_succ, List.getElem_cons_zero]
            refine' wpAnyH_take (i := 19) (v := _) rfl (by kernel_rfl) (by kernel_rfl) (by kernel_rfl) (fun _ _ _ h => h) (Or.inl ⟨by rfl, ?_⟩) hHeld ?_
            rotate_left
            · (intro w hSw; (try dsimp only at hSw); go_simp; try with_reducible rfl)
            try simp only [Act.put, List.setIfInBounds_toArray, List.set_cons_zero, List.set_cons_succ, List.getElem_toArray, List.getElem_cons_succ, List.getElem_cons_zero]
            refine' wpAnyH_take (i := 20) (v := _) rfl (by kernel_rfl) (by kernel_rfl) (by kernel_rfl) (fun _ _ _ h => h) (Or.inl ⟨by rfl, ?_⟩) hHeld ?_
            rotate_left
            · (intro w hSw; (try dsimp only at hSw); go_simp; try with_reducible rfl)
            try simp only [Act.put, List.setIfInBounds_toArray, List.set_cons_zero, List.set_cons_succ, List.getElem_toArray, List.getElem_cons_succ, List.getElem_cons_zero]
            refine' wpAnyH_take (i := 21) (v := _) rfl (by kernel_rfl) (by kernel_rfl) (by kernel_rfl) (fun _ _ _ h => h) (Or.inl ⟨by rfl, ?_⟩) hHeld ?_
            rotate_left
            · (intro w hSw; (try dsimp only at hSw); go_simp; try with_reducible rfl)
            try simp only [Act.put, List.setIfInBounds_toArray, List.set_cons_zero, List.set_cons_succ, List.getElem_toArray, List.getElem_cons_succ, List.getElem_cons_zero]
            refine' wpAnyH_take (i := 22) (v := _) rfl (by kernel_rfl) (by kernel_rfl) (by kernel_rfl) (fun _ _ _ h => h) (Or.inl ⟨by rfl, ?_⟩) hHeld ?_
            rotate_left
            · (intro w hSw; (try dsimp only at hSw); go_simp; try with_reducible rfl)
            try simp only [Act.put, List.setIfInBounds_toArray, List.set_cons_zero, List.set_cons_succ, List.getElem_toArray, List.getElem_cons_succ, List.getElem_cons_zero]
            refine' wpAnyH_take (i := 23) (v := _) rfl (by kernel_rfl) (by kernel_rfl) (by kernel_rfl) (fun _ _ _ h => h) (Or.inl ⟨by rfl, ?_⟩) hHeld ?_
            rotate_left
            · (intro w hSw; (try dsimp only at hSw); go_simp; try with_reducible rfl)
            try simp only [Act.put, List.setIfInBounds_toArray, List.set_cons_zero, List.set_cons_succ, List.getElem_toArray, List.getElem_cons_succ, List.getElem_cons_zero]
            refine' wpAnyH_take (i := 24) (v := _) rfl (by kernel_rfl) (by kernel_rfl) (by kernel_rfl) (fun _ _ _ h => h) (Or.inl ⟨by rfl, ?_⟩) hHeld ?_
            rotate_left
            · (intro w hSw; (try dsimp only at hSw); have kl := hSw; have cx := kl.i0.cell' HX.out; have cy := kl.i0.cell' HY.out; go_simp; try with_reducible rfl)
            try simp only [Act.put, List.setIfInBounds_toArray, List.set_cons_zero, List.set_cons_succ, List.getElem_toArray, List.getElem_cons_succ, List.getElem_cons_zero]
            refine' wpAnyH_take (i := 26) (v := _) rfl (by kernel_rfl) (by kernel_rfl) (by kernel_rfl) (fun _ _ _ h => h) (Or.inl ⟨by rfl, ?_⟩) hHeld ?_
            rotate_left
            · (intro w hSw; (try dsimp only at hSw); go_simp; try with_reducible rfl)
            try simp only [Act.put, List.setIfInBounds_toArray, List.set_cons_zero, List.set_cons_succ, List.getElem_toArray, List.getElem_cons_succ, List.getElem_cons_zero]
            refine wpAnyH_ready (rs := [25]) (by kernel_rfl) (by simp) ?_
            refine AllReadyH.cons (o := _) rfl (fun K hK => ?_) AllReadyH.nil
            try simp only [List.getElem_toArray, List.getElem_cons_succ, List.getElem_cons_zero]
            go_simp
            have hH2 := hHeld
            have kl := hH2
            refine (orank_as kl.i1 HLA.out RK.out).mono ?_
            rintro e w1025 ⟨rfl, hg⟩
            have L25 := hid (show (Kl w [(.slice (some ⟨ub, uo, none⟩) na cu, m), (.slice (some ⟨ab, ao, none⟩) na ca, la)] w1025) from kl.grown hg)
            clear hHeld hg kl
            go_wp2_with fail
            refine hK.out _ _ ?_ (fun hHeld => ?_)
            · exact L25.out
            clear hK K
            try dsimp only at hHeld
            try simp only [Act.put, List.setIfInBounds_toArray, List.set_cons_zero, List.set_cons_succ, List.getElem_toArray, List.getElem_cons_succ, List.getElem_cons_zero]
            refine' wpAnyH_take (i := 27) (v := _) rfl (by kernel_rfl) (by kernel_rfl) (by kernel_rfl) (fun _ _ _ h => h) (Or.inl ⟨by rfl, ?_⟩) hHeld ?_
            rotate_left
            · (intro w hSw; (try dsimp only at hSw); go_simp; try with_reducible rfl)
            try simp only [Act.put, List.setIfInBounds_toArray, List.set_cons_zero, List.set_cons_succ, List.getElem_toArray, List.getElem_cons_succ, List.getElem_cons_zero]
            refine' wpAnyH_take (i := 28) (v := _) rfl (by kernel_rfl) (by kernel_rfl) (by kernel_rfl) (fun _ _ _ h => h) (Or.inl ⟨by rfl, ?_⟩) hHeld ?_
            rotate_left
            · (intro w hSw; (try dsimp only at hSw); go_simp; try with_reducible rfl)
            try simp only [Act.put, List.setIfInBounds_toArray, List.set_cons_zero, List.set_cons_succ, List.getElem_toArray, List.getElem_cons_succ, List.getElem_cons_zero]
            refine wpAnyH_done (by kernel_rfl) ?_ _
            have kl := hHeld
            have K9 := hid kl; clear kl
            go_wp2_with fail
            go_roundw
            case rel => exact ⟨i + 1, by omega, by go_num, K9.out⟩
            case measure => simp [intOf]; omega
    · have hiN : i = na := by omega
      have hq : ¬ (i : Int) < (na : Int) := by omega
      clear hiN
      go_wp2_with fail
      refine (otold_any _).mono ?_
      rintro e w6 ⟨rfl, hg⟩
      have K7 := hid (K6.out.grown hg); clear hg K6
      go_wp2_with fail
      refine (osame_as K7.out.i1 K7.out.i0 HLA.out HLM.out S1.out).mono ?_
      rintro e w7 ⟨rfl, hg⟩
      have K8 := hid (K7.out.grown hg); clear hg K7
      go_wp2_with fail
      refine (osame_as K8.out.i0 K8.out.i1 HLM.out HLA.out S2.out).mono ?_
      rintro e w8 ⟨rfl, hg⟩
      have K9 := hid (K8.out.grown hg); clear hg K8
      go_wp2_with fail
      go_ret
      exact ⟨rfl, K9.out.gr⟩
end Go.Proofs.Ytkobipkmcpbloaa.osorts
