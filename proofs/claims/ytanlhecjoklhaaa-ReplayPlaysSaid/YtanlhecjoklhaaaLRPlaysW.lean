/-
  The walk of the statement ReplayPlays. No condition.
-/
import Derived.Test.YtanlhecjoklhaaaPQ
import Derived.Deep.CutRange
import Derived.Deep.CutBlock
import Derived.Deep.RegionHeld3
import Derived.Test.YtanlhecjoklhaaaHeld
set_option linter.unusedSimpArgs false
set_option linter.unusedVariables false
namespace Go.Proofs.Ytanlhecjoklhaaa.rplays
set_option maxRecDepth 100000
open Go.RowKit

set_option maxHeartbeats 1600000 in
theorem walk_bad (window : Int) (hb : window < 1 ∨ 64 < window) (v : Value) {w : World} :
    Calls Try.prog 3 #[.int .i64 window, v] w fun e w' => e = .returned (.bool true) ∧ w.grownBy w' none := by
  have H1 := hid (fun w => pnew_nil window hb w)
  have H2 := hid (fun w => qnew_nil window hb w)
  clear hb
  go_enter Try.func3, Try.ntmps3
  go_wp2_with fail
  refine (H1.out _).mono ?_
  rintro e w1 ⟨rfl, rfl⟩
  go_wp2_with fail
  refine (H2.out _).mono ?_
  rintro e w1 ⟨rfl, rfl⟩
  go_wp2_with fail
  refine (rtold_any _).mono ?_
  rintro e w2 ⟨rfl, hg⟩
  have G2 := hid hg; clear hg
  go_wp2_with fail
  go_ret
  exact ⟨rfl, G2.out⟩
set_option maxHeartbeats 12800000 in
theorem walk_good (m : Int) (m0 : 1 ≤ m) (m1 : m ≤ 64) (l : List Int) (len : Nat) (p : Option Addr) (c : Nat) {w : World} (HI : Hid (IntsAt w (.slice p len c) l)) :
    Calls Try.prog 3 #[.int .i64 m, .slice p len c] w fun e w' => e = .returned (.bool true) ∧ w.grownBy w' none := by
  have hmax := HI.out.len.2
  unfold maxLen at hmax
  go_enter Try.func3, Try.ntmps3
  go_wp2_with fail
  refine (tp_new_int (w0 := w) m m0 m1 (.refl w none)).mono ?_
  rintro e w1 ⟨b, rfl, T, _, _⟩
  have T0 := hid T; clear T
  go_wp2_with fail
  refine (pq_new m m0 m1 T0.out).mono ?_
  rintro e w2 ⟨d, rfl, T⟩
  have A0 := hid T; clear T T0
  by_cases h60 : 60 < len
  · have d1 : decide ((60 : Int) < (len : Int)) = true := by simp; omega
    clear h60
    go_wp2_with fail
    refine (rtold_any _).mono ?_
    rintro e w3 ⟨rfl, hg⟩
    have T2 := hid (A0.out.grown hg); clear hg A0
    go_wp2_with fail
    go_ret
    exact ⟨rfl, T2.out.tp.gr⟩
  have d1 : decide ((60 : Int) < (len : Int)) = false := by simp; omega
  have h60' : len ≤ 60 := by omega
  clear h60
  go_wp2_with fail
  go_loopw [7] (fun i wr => ∃ (k : Nat) (r : Rp), k ≤ len ∧ i = .int .i64 (k : Int) ∧ PQ w b d k r r wr) (fun i _ => len - (intOf i).toNat)
  case atStart => exact ⟨0, _, Nat.zero_le _, rfl, A0.out⟩
  case round =>
    obtain ⟨k, r, hk, rfl, hon⟩ := hrel
    have A2 := hid hon
    clear hon A0
    by_cases hlt : k < len
    · have hi2 := HI.out.chg (chg_grown A2.out.tp.gr []) (by simp)
      obtain ⟨ab, ao, z, rfl, hz, hc⟩ := hi2.cell hlt
      obtain ⟨x, x0, x1, ex⟩ := umod_int z 100 (by omega)
      replace ex : (IntKind.u64.wrap z).tmod 100 = x := ex
      replace x1 : x < 100 := x1
      clear hi2 hz
      have q0 : (k : Int) < (len : Int) := by omega
      have q1 : (0 : Int) ≤ (k : Int) := by omega
      have t0 := A2.out.ok.t0; have t1 := A2.out.ok.t1
      obtain ⟨t, ht⟩ : ∃ t, r.top = t := ⟨_, rfl⟩
      have hcell := A2.out.cell
      rw [ht] at t0 t1 hcell
      have s1 : IntKind.i64.wrap x = x := IntWalk.i64_in _ (by omega)
      have HTR := hid ht; clear ht
      go_upto_if 38 with fail
      go_cut [8] from 36 to 48 (fun u wx => ∃ n, u = .int .i64 n ∧ wx = wr)
      case first =>
        by_cases h5 : (k : Int) % 5 < 4
        all_goals
          go_wp2_with fail
          go_meet
          exact ⟨_, rfl, rfl⟩
      case rest =>
        obtain ⟨n, rfl, rfl⟩ := hcut
        have A5 := A2
        clear hcell s1 ex t0 t1 x0 x1 q1
        obtain ⟨z1, hz1⟩ : ∃ z, r.may n = z := ⟨_, rfl⟩
        obtain ⟨c1, hc1⟩ : ∃ c, (r.take n).1 = c := ⟨_, rfl⟩
        obtain ⟨r2, hr2⟩ : ∃ r2, (r.take n).2 = r2 := ⟨_, rfl⟩
        obtain ⟨t2, ht2⟩ : ∃ t, r2.top = t := ⟨_, rfl⟩
        obtain ⟨y2, hy2⟩ : ∃ t, q r2.bits = t := ⟨_, rfl⟩
        have HM := hid hz1; have HT := hid (show r.take n = (c1, r2) by rw [← hc1, ← hr2])
        have HP := hid ht2; have HB := hid hy2
        have HK1 := hid (show k ≤ 1000000 by omega); have HK2 := hid (show k ≤ 999999 by omega); have HK3 := hid (show k + 1 ≤ 1000000 by omega)
        clear hz1 hc1 hr2 ht2 hy2
        clear A2
        go_wp2_with fail
        refine wp_region_held_drew (S := (fun w' => (∃ K r s, PQ w b d K r s w'))) (by kernel_rfl) ⟨_, _, _, A5.out.drew⟩ (fun hHeld => ?_)
        try dsimp only at hHeld
        refine' wpAnyH_take (i := 0) (v := _) rfl (by kernel_rfl) (by kernel_rfl) (by kernel_rfl) (fun _ _ _ h => h) (Or.inl ⟨by rfl, ?_⟩) hHeld ?_
        rotate_left
        · (intro w hSw; (try dsimp only at hSw); go_simp; try with_reducible rfl)
        try simp only [Act.put, List.setIfInBounds_toArray, List.set_cons_zero, List.set_cons_succ, List.getElem_toArray, List.getElem_cons_succ, List.getElem_cons_zero]
        refine' wpAnyH_take (i := 1) (v := _) rfl (by kernel_rfl) (by kernel_rfl) (by kernel_rfl) (fun _ _ _ h => h) (Or.inl ⟨by rfl, ?_⟩) hHeld ?_
        rotate_left
        · (intro w hSw; (try dsimp only at hSw); go_simp; try with_reducible rfl)
        try simp only [Act.put, List.setIfInBounds_toArray, List.set_cons_zero, List.set_cons_succ, List.getElem_toArray, List.getElem_cons_succ, List.getElem_cons_zero]
        refine' wpAnyH_take (i := 3) (v := _) rfl (by kernel_rfl) (by kernel_rfl) (by kernel_rfl) (fun _ _ _ h => h) (Or.inl ⟨by rfl, ?_⟩) hHeld ?_
        rotate_left
        · (intro w hSw; (try dsimp only at hSw); go_simp; try with_reducible rfl)
        try simp only [Act.put, List.setIfInBounds_toArray, List.set_cons_zero, List.set_cons_succ, List.getElem_toArray, List.getElem_cons_succ, List.getElem_cons_zero]
        refine' wpAnyH_take (i := 4) (v := _) rfl (by kernel_rfl) (by kernel_rfl) (by kernel_rfl) (fun _ _ _ h => h) (Or.inl ⟨by rfl, ?_⟩) hHeld ?_
        rotate_left
        · (intro w hSw; (try dsimp only at hSw); go_simp; try with_reducible rfl)
        try simp only [Act.put, List.setIfInBounds_toArray, List.set_cons_zero, List.set_cons_succ, List.getElem_toArray, List.getElem_cons_succ, List.getElem_cons_zero]
        refine wpAnyH_ready (rs := [2]) (by kernel_rfl) (by simp) ?_
        refine AllReadyH.cons (o := _) rfl (fun K hK => ?_) AllReadyH.nil
        try simp only [List.getElem_toArray, List.getElem_cons_succ, List.getElem_cons_zero]
        go_simp
        have hH2 := hHeld
        have po := hH2
        refine (A5.out.drew.mayP n z1 HM.out).mono ?_
        rintro e w1002 ⟨rfl, hg⟩
        have T2 := hid hg
        have L2 := hid (show (∃ K r s, PQ w b d K r s w1002) from ⟨_, _, _, hg⟩)
        clear hHeld hg po
        go_wp2_with fail
        refine hK.out _ _ ?_ (fun hHeld => ?_)
        · exact L2.out
        clear hK K
        try dsimp only at hHeld
        try simp only [Act.put, List.setIfInBounds_toArray, List.set_cons_zero, List.set_cons_succ, List.getElem_toArray, List.getElem_cons_succ, List.getElem_cons_zero]
        refine wpAnyH_ready (rs := [5]) (by kernel_rfl) (by simp) ?_
        refine AllReadyH.cons (o := _) rfl (fun K hK => ?_) AllReadyH.nil
        try simp only [List.getElem_toArray, List.getElem_cons_succ, List.getElem_cons_zero]
        go_simp
        have hH2 := hHeld
        have po := hH2
        refine (T2.out.mayQ HK1.out n z1 HM.out).mono ?_
        rintro e w1005 ⟨rfl, hg⟩
        have T5 := hid hg
        have L5 := hid (show (∃ K r s, PQ w b d K r s w1005) from ⟨_, _, _, hg⟩)
        clear hHeld hg po
        go_wp2_with fail
        refine hK.out _ _ ?_ (fun hHeld => ?_)
        · exact L5.out
        clear hK K
        try dsimp only at hHeld
        try simp only [Act.put, List.setIfInBounds_toArray, List.set_cons_zero, List.set_cons_succ, List.getElem_toArray, List.getElem_cons_succ, List.getElem_cons_zero]
        refine' wpAnyH_take (i := 6) (v := _) rfl (by kernel_rfl) (by kernel_rfl) (by kernel_rfl) (fun _ _ _ h => h) (Or.inl ⟨by rfl, ?_⟩) hHeld ?_
        rotate_left
        · (intro w hSw; (try dsimp only at hSw); go_simp; try with_reducible rfl)
        try simp only [Act.put, List.setIfInBounds_toArray, List.set_cons_zero, List.set_cons_succ, List.getElem_toArray, List.getElem_cons_succ, List.getElem_cons_zero]
        refine' wpAnyH_take (i := 7) (v := _) rfl (by kernel_rfl) (by kernel_rfl) (by kernel_rfl) (fun _ _ _ h => h) (Or.inl ⟨by rfl, ?_⟩) hHeld ?_
        rotate_left
        · (intro w hSw; (try dsimp only at hSw); go_simp; try with_reducible rfl)
        try simp only [Act.put, List.setIfInBounds_toArray, List.set_cons_zero, List.set_cons_succ, List.getElem_toArray, List.getElem_cons_succ, List.getElem_cons_zero]
        refine' wpAnyH_take (i := 8) (v := _) rfl (by kernel_rfl) (by kernel_rfl) (by kernel_rfl) (fun _ _ _ h => h) (Or.inl ⟨by rfl, ?_⟩) hHeld ?_
        rotate_left
        · (intro w hSw; (try dsimp only at hSw); go_simp; try with_reducible rfl)
        try simp only [Act.put, List.setIfInBounds_toArray, List.set_cons_zero, List.set_cons_succ, List.getElem_toArray, List.getElem_cons_succ, List.getElem_cons_zero]
        refine' wpAnyH_take (i := 9) (v := _) rfl (by kernel_rfl) (by kernel_rfl) (by kernel_rfl) (fun _ _ _ h => h) (Or.inl ⟨by rfl, ?_⟩) hHeld ?_
        rotate_left
        · (intro w hSw; (try dsimp only at hSw); go_simp; try with_reducible rfl)
        try simp only [Act.put, List.setIfInBounds_toArray, List.set_cons_zero, List.set_cons_succ, List.getElem_toArray, List.getElem_cons_succ, List.getElem_cons_zero]
        refine' wpAnyH_take (i := 11) (v := _) rfl (by kernel_rfl) (by kernel_rfl) (by kernel_rfl) (fun _ _ _ h => h) (Or.inl ⟨by rfl, ?_⟩) hHeld ?_
        rotate_left
        · (intro w hSw; (try dsimp only at hSw); go_simp; try with_reducible rfl)
        try simp only [Act.put, List.setIfInBounds_toArray, List.set_cons_zero, List.set_cons_succ, List.getElem_toArray, List.getElem_cons_succ, List.getElem_cons_zero]
        refine' wpAnyH_take (i := 12) (v := _) rfl (by kernel_rfl) (by kernel_rfl) (by kernel_rfl) (fun _ _ _ h => h) (Or.inl ⟨by rfl, ?_⟩) hHeld ?_
        rotate_left
        · (intro w hSw; (try dsimp only at hSw); go_simp; try with_reducible rfl)
        try simp only [Act.put, List.setIfInBounds_toArray, List.set_cons_zero, List.set_cons_succ, List.getElem_toArray, List.getElem_cons_succ, List.getElem_cons_zero]
        refine wpAnyH_ready (rs := [10]) (by kernel_rfl) (by simp) ?_
        refine AllReadyH.cons (o := _) rfl (fun K hK => ?_) AllReadyH.nil
        try simp only [List.getElem_toArray, List.getElem_cons_succ, List.getElem_cons_zero]
        go_simp
        have hH2 := hHeld
        have po := hH2
        refine (T5.out.takeP n c1 r2 HT.out).mono ?_
        rintro e w1010 ⟨rfl, hg⟩
        have T10 := hid hg
        have L10 := hid (show (∃ K r s, PQ w b d K r s w1010) from ⟨_, _, _, hg⟩)
        clear hHeld hg po
        go_wp2_with fail
        refine hK.out _ _ ?_ (fun hHeld => ?_)
        · exact L10.out
        clear hK K
        try dsimp only at hHeld
        try simp only [Act.put, List.setIfInBounds_toArray, List.set_cons_zero, List.set_cons_succ, List.getElem_toArray, List.getElem_cons_succ, List.getElem_cons_zero]
        refine wpAnyH_ready (rs := [13]) (by kernel_rfl) (by simp) ?_
        refine AllReadyH.cons (o := _) rfl (fun K hK => ?_) AllReadyH.nil
        try simp only [List.getElem_toArray, List.getElem_cons_succ, List.getElem_cons_zero]
        go_simp
        have hH2 := hHeld
        have po := hH2
        refine (T10.out.takeQ HK2.out n c1 r2 HT.out).mono ?_
        rintro e w1013 ⟨rfl, hg⟩
        have T13 := hid hg
        have L13 := hid (show (∃ K r s, PQ w b d K r s w1013) from ⟨_, _, _, hg⟩)
        have Npq := hid (show ∃ K, PQ w b d K r2 r2 w1013 from ⟨_, hg⟩)
        clear hHeld hg po
        go_wp2_with fail
        refine hK.out _ _ ?_ (fun hHeld => ?_)
        · exact L13.out
        clear hK K
        try dsimp only at hHeld
        try simp only [Act.put, List.setIfInBounds_toArray, List.set_cons_zero, List.set_cons_succ, List.getElem_toArray, List.getElem_cons_succ, List.getElem_cons_zero]
        refine held_stronger (S' := fun w' => (fun w' => ∃ K, PQ w b d K r2 r2 w') w' ∧ ((fun w' => (∃ K r s, PQ w b d K r s w'))) w') (fun _ h => h.2) _ _ _ _ ?_
        replace hHeld := And.intro Npq.out hHeld
        try dsimp only at hHeld
        refine' wpAnyH_take (i := 14) (v := _) rfl (by kernel_rfl) (by kernel_rfl) (by kernel_rfl) (fun _ _ _ h => h) (Or.inl ⟨by rfl, ?_⟩) hHeld ?_
        rotate_left
        · (intro w hSw; (try dsimp only at hSw); go_simp; try with_reducible rfl)
        try simp only [Act.put, List.setIfInBounds_toArray, List.set_cons_zero, List.set_cons_succ, List.getElem_toArray, List.getElem_cons_succ, List.getElem_cons_zero]
        refine' wpAnyH_take (i := 15) (v := _) rfl (by kernel_rfl) (by kernel_rfl) (by kernel_rfl) (fun _ _ _ h => h) (Or.inl ⟨by rfl, ?_⟩) hHeld ?_
        rotate_left
        · (intro w hSw; (try dsimp only at hSw); go_simp; try with_reducible rfl)
        try simp only [Act.put, List.setIfInBounds_toArray, List.set_cons_zero, List.set_cons_succ, List.getElem_toArray, List.getElem_cons_succ, List.getElem_cons_zero]
        refine' wpAnyH_take (i := 16) (v := _) rfl (by kernel_rfl) (by kernel_rfl) (by kernel_rfl) (fun _ _ _ h => h) (Or.inl ⟨by rfl, ?_⟩) hHeld ?_
        rotate_left
        · (intro w hSw; (try dsimp only at hSw); go_simp; try with_reducible rfl)
        try simp only [Act.put, List.setIfInBounds_toArray, List.set_cons_zero, List.set_cons_succ, List.getElem_toArray, List.getElem_cons_succ, List.getElem_cons_zero]
        refine' wpAnyH_take (i := 17) (v := _) rfl (by kernel_rfl) (by kernel_rfl) (by kernel_rfl) (fun _ _ _ h => h) (Or.inl ⟨by rfl, ?_⟩) hHeld ?_
        rotate_left
        · (intro w hSw; (try dsimp only at hSw); go_simp; try with_reducible rfl)
        try simp only [Act.put, List.setIfInBounds_toArray, List.set_cons_zero, List.set_cons_succ, List.getElem_toArray, List.getElem_cons_succ, List.getElem_cons_zero]
        refine' wpAnyH_take (i := 19) (v := _) rfl (by kernel_rfl) (by kernel_rfl) (by kernel_rfl) (fun _ _ _ h => h) (Or.inl ⟨by rfl, ?_⟩) hHeld ?_
        rotate_left
        · (intro w hSw; (try dsimp only at hSw); go_simp; try with_reducible rfl)
        try simp only [Act.put, List.setIfInBounds_toArray, List.set_cons_zero, List.set_cons_succ, List.getElem_toArray, List.getElem_cons_succ, List.getElem_cons_zero]
        refine' wpAnyH_take (i := 20) (v := _) rfl (by kernel_rfl) (by kernel_rfl) (by kernel_rfl) (fun _ _ _ h => h) (Or.inl ⟨by rfl, ?_⟩) hHeld ?_
        rotate_left
        · (intro w hSw; (try dsimp only at hSw); go_simp; try with_reducible rfl)
        try simp only [Act.put, List.setIfInBounds_toArray, List.set_cons_zero, List.set_cons_succ, List.getElem_toArray, List.getElem_cons_succ, List.getElem_cons_zero]
        refine' wpAnyH_take (i := 21) (v := _) rfl (by kernel_rfl) (by kernel_rfl) (by kernel_rfl) (fun _ _ _ h => h) (Or.inl ⟨by rfl, ?_⟩) hHeld ?_
        rotate_left
        · (intro w hSw; (try dsimp only at hSw); go_simp; try with_reducible rfl)
        try simp only [Act.put, List.setIfInBounds_toArray, List.set_cons_zero, List.set_cons_succ, List.getElem_toArray, List.getElem_cons_succ, List.getElem_cons_zero]
        refine' wpAnyH_take (i := 22) (v := _) rfl (by kernel_rfl) (by kernel_rfl) (by kernel_rfl) (fun _ _ _ h => h) (Or.inl ⟨by rfl, ?_⟩) hHeld ?_
        rotate_left
        · (intro w hSw; (try dsimp only at hSw); obtain ⟨pq, po⟩ := hSw; have y1 := (let ⟨_, h⟩ := pq; h.cell); rw [HP.out] at y1; go_simp; try with_reducible rfl)
        try simp only [Act.put, List.setIfInBounds_toArray, List.set_cons_zero, List.set_cons_succ, List.getElem_toArray, List.getElem_cons_succ, List.getElem_cons_zero]
        refine wpAnyH_ready (rs := [18]) (by kernel_rfl) (by simp) ?_
        refine AllReadyH.cons (o := _) rfl (fun K hK => ?_) AllReadyH.nil
        try simp only [List.getElem_toArray, List.getElem_cons_succ, List.getElem_cons_zero]
        go_simp
        have hH2 := hHeld
        obtain ⟨pq, po⟩ := hH2
        refine (T13.out.topP t2 HP.out).mono ?_
        rintro e w1018 ⟨rfl, hg⟩
        have T18 := hid hg
        have L18 := hid (show (∃ K, PQ w b d K r2 r2 w1018) ∧ (∃ K r s, PQ w b d K r s w1018) from ⟨⟨_, hg⟩, ⟨_, _, _, hg⟩⟩)
        clear hHeld hg pq po
        go_wp2_with fail
        refine hK.out _ _ ?_ (fun hHeld => ?_)
        · exact L18.out
        clear hK K
        try dsimp only at hHeld
        try simp only [Act.put, List.setIfInBounds_toArray, List.set_cons_zero, List.set_cons_succ, List.getElem_toArray, List.getElem_cons_succ, List.getElem_cons_zero]
        refine' wpAnyH_take (i := 23) (v := _) rfl (by kernel_rfl) (by kernel_rfl) (by kernel_rfl) (fun _ _ _ h => h) (Or.inl ⟨by rfl, ?_⟩) hHeld ?_
        rotate_left
        · (intro w hSw; (try dsimp only at hSw); go_simp; try with_reducible rfl)
        try simp only [Act.put, List.setIfInBounds_toArray, List.set_cons_zero, List.set_cons_succ, List.getElem_toArray, List.getElem_cons_succ, List.getElem_cons_zero]
        refine' wpAnyH_take (i := 24) (v := _) rfl (by kernel_rfl) (by kernel_rfl) (by kernel_rfl) (fun _ _ _ h => h) (Or.inl ⟨by rfl, ?_⟩) hHeld ?_
        rotate_left
        · (intro w hSw; (try dsimp only at hSw); go_simp; try with_reducible rfl)
        try simp only [Act.put, List.setIfInBounds_toArray, List.set_cons_zero, List.set_cons_succ, List.getElem_toArray, List.getElem_cons_succ, List.getElem_cons_zero]
        refine' wpAnyH_take (i := 25) (v := _) rfl (by kernel_rfl) (by kernel_rfl) (by kernel_rfl) (fun _ _ _ h => h) (Or.inl ⟨by rfl, ?_⟩) hHeld ?_
        rotate_left
        · (intro w hSw; (try dsimp only at hSw); go_simp; try with_reducible rfl)
        try simp only [Act.put, List.setIfInBounds_toArray, List.set_cons_zero, List.set_cons_succ, List.getElem_toArray, List.getElem_cons_succ, List.getElem_cons_zero]
        refine' wpAnyH_take (i := 26) (v := _) rfl (by kernel_rfl) (by kernel_rfl) (by kernel_rfl) (fun _ _ _ h => h) (Or.inl ⟨by rfl, ?_⟩) hHeld ?_
        rotate_left
        · (intro w hSw; (try dsimp only at hSw); go_simp; try with_reducible rfl)
        try simp only [Act.put, List.setIfInBounds_toArray, List.set_cons_zero, List.set_cons_succ, List.getElem_toArray, List.getElem_cons_succ, List.getElem_cons_zero]
        refine' wpAnyH_take (i := 28) (v := _) rfl (by kernel_rfl) (by kernel_rfl) (by kernel_rfl) (fun _ _ _ h => h) (Or.inl ⟨by rfl, ?_⟩) hHeld ?_
        rotate_left
        · (intro w hSw; (try dsimp only at hSw); go_simp; try with_reducible rfl)
        try simp only [Act.put, List.setIfInBounds_toArray, List.set_cons_zero, List.set_cons_succ, List.getElem_toArray, List.getElem_cons_succ, List.getElem_cons_zero]
        refine wpAnyH_ready (rs := [27]) (by kernel_rfl) (by simp) ?_
        refine AllReadyH.cons (o := _) rfl (fun K hK => ?_) AllReadyH.nil
        try simp only [List.getElem_toArray, List.getElem_cons_succ, List.getElem_cons_zero]
        go_simp
        have hH2 := hHeld
        obtain ⟨pq, po⟩ := hH2
        refine (T18.out.bitsP y2 HB.out).mono ?_
        rintro e w1027 ⟨rfl, hg⟩
        have T27 := hid hg
        have L27 := hid (show (∃ K, PQ w b d K r2 r2 w1027) ∧ (∃ K r s, PQ w b d K r s w1027) from ⟨⟨_, hg⟩, ⟨_, _, _, hg⟩⟩)
        clear hHeld hg pq po
        go_wp2_with fail
        refine hK.out _ _ ?_ (fun hHeld => ?_)
        · exact L27.out
        clear hK K
        try dsimp only at hHeld
        try simp only [Act.put, List.setIfInBounds_toArray, List.set_cons_zero, List.set_cons_succ, List.getElem_toArray, List.getElem_cons_succ, List.getElem_cons_zero]
        refine wpAnyH_ready (rs := [29]) (by kernel_rfl) (by simp) ?_
        refine AllReadyH.cons (o := _) rfl (fun K hK => ?_) AllReadyH.nil
        try simp only [List.getElem_toArray, List.getElem_cons_succ, List.getElem_cons_zero]
        go_simp
        have hH2 := hHeld
        obtain ⟨pq, po⟩ := hH2
        refine (T27.out.bitsQ HK3.out y2 HB.out).mono ?_
        rintro e w1029 ⟨rfl, hg⟩
        have T29 := hid hg
        have L29 := hid (show (∃ K, PQ w b d K r2 r2 w1029) ∧ (∃ K r s, PQ w b d K r s w1029) from ⟨⟨_, hg⟩, ⟨_, _, _, hg⟩⟩)
        clear hHeld hg pq po
        go_wp2_with fail
        refine hK.out _ _ ?_ (fun hHeld => ?_)
        · exact L29.out
        clear hK K
        try dsimp only at hHeld
        try simp only [Act.put, List.setIfInBounds_toArray, List.set_cons_zero, List.set_cons_succ, List.getElem_toArray, List.getElem_cons_succ, List.getElem_cons_zero]
        refine' wpAnyH_take (i := 30) (v := _) rfl (by kernel_rfl) (by kernel_rfl) (by kernel_rfl) (fun _ _ _ h => h) (Or.inl ⟨by rfl, ?_⟩) hHeld ?_
        rotate_left
        · (intro w hSw; (try dsimp only at hSw); go_simp; try with_reducible rfl)
        try simp only [Act.put, List.setIfInBounds_toArray, List.set_cons_zero, List.set_cons_succ, List.getElem_toArray, List.getElem_cons_succ, List.getElem_cons_zero]
        refine' wpAnyH_take (i := 31) (v := _) rfl (by kernel_rfl) (by kernel_rfl) (by kernel_rfl) (fun _ _ _ h => h) (Or.inl ⟨by rfl, ?_⟩) hHeld ?_
        rotate_left
        · (intro w hSw; (try dsimp only at hSw); go_simp; try with_reducible rfl)
        try simp only [Act.put, List.setIfInBounds_toArray, List.set_cons_zero, List.set_cons_succ, List.getElem_toArray, List.getElem_cons_succ, List.getElem_cons_zero]
        refine wpAnyH_done (by kernel_rfl) ?_ _
        obtain ⟨pq, po⟩ := hHeld
        clear po pq
        go_wp2_with fail
        go_roundw
        case rel => exact ⟨k + 1, r2, by omega, by go_num, T29.out⟩
        case measure => simp [intOf]; omega
    · have hkl : k = len := by omega
      subst hkl
      go_wp2_with fail
      refine (rtold_any _).mono ?_
      rintro e w3 ⟨rfl, hg⟩
      have T2 := hid (A2.out.grown hg); clear hg A2
      go_wp2_with fail
      go_ret
      exact ⟨rfl, T2.out.tp.gr⟩
theorem walk (window : Int) (l : List Int) (p : Option Addr) (c : Nat) {w : World} (hl : IntsAt w (.slice p l.length c) l) :
    Calls Try.prog 3 #[.int .i64 window, .slice p l.length c] w fun e w' => e = .returned (.bool true) ∧ w.grownBy w' none := by
  by_cases h : 1 ≤ window ∧ window ≤ 64
  · exact walk_good window h.1 h.2 l l.length p c (hid hl)
  · exact walk_bad window (by omega) _
end Go.Proofs.Ytanlhecjoklhaaa.rplays
