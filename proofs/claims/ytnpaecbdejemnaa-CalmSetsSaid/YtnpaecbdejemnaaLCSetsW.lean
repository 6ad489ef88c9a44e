/-
  The walk of the statement CalmSets: what is set is what was kept: two that keep the same go on alike. No condition.
-/
import Derived.Test.YtnpaecbdejemnaaCaF
import Derived.Test.YtnpaecbdejemnaaUmi
import Derived.Test.YtnpaecbdejemnaaHeld
import Derived.Deep.RegionHeld3
set_option linter.unusedSimpArgs false
set_option linter.unusedVariables false
namespace Go.Proofs.Ytnpaecbdejemnaa.csets
set_option maxRecDepth 100000
open Go.RowKit

set_option maxHeartbeats 3200000 in
theorem walk {w : World} (up down : Int) (l : List Int) (p : Option Addr) (c : Nat) (i0 : IntsAt w (.slice p l.length c) l) (r : List Int) (p2 : Option Addr) (c2 : Nat) (i1 : IntsAt w (.slice p2 r.length c2) r) :
    Calls Try.prog 3 #[.int .i64 up, .int .i64 down, .slice p l.length c, .slice p2 r.length c2] w fun e w' => e = .returned (.bool true) ∧ w.grownBy w' none := by
  obtain ⟨u, hu, mu⟩ := umod_small up 7 (by omega)
  have mu : (IntKind.u64.wrap up).tmod 7 = (u : Int) := mu
  have cu : IntKind.i64.wrap (u : Int) = (u : Int) := IntWalk.i64_in _ (by omega)
  obtain ⟨d, hd, md⟩ := umod_small down 7 (by omega)
  have md : (IntKind.u64.wrap down).tmod 7 = (d : Int) := md
  have cd : IntKind.i64.wrap (d : Int) = (d : Int) := IntWalk.i64_in _ (by omega)
  have HU := hid (show u ≤ 60 by omega); have HD := hid (show d ≤ 60 by omega)
  have nl := i0.len
  unfold maxLen at nl
  obtain ⟨n, hn⟩ : ∃ n, l.length = n := ⟨_, rfl⟩
  rw [hn] at i0 nl ⊢
  have Hn := hid hn; have In := hid i0
  clear hn i0
  have hl := i1.len
  unfold maxLen at hl
  obtain ⟨h, hh⟩ : ∃ n, r.length = n := ⟨_, rfl⟩
  rw [hh] at i1 hl ⊢
  have Hh := hid hh; have Ih := hid i1
  clear hh i1
  obtain ⟨m, hm⟩ : ∃ m : Nat, m = min n 20 := ⟨_, rfl⟩
  have HM := hid (show m ≤ n ∧ m ≤ 20 ∧ (m = n ∨ (m < n ∧ m = 20)) by omega)
  obtain ⟨m2, hm2⟩ : ∃ m : Nat, m = min h 10 := ⟨_, rfl⟩
  have HM2 := hid (show m2 ≤ h ∧ m2 ≤ 10 ∧ (m2 = h ∨ (m2 < h ∧ m2 = 10)) by omega)
  clear hm hm2
  go_enter Try.func3, Try.ntmps3
  go_wp2_with fail
  refine (new_ok _ _ HU.out HD.out _).mono ?_
  rintro e w1 ⟨b1, rfl, hc, hg, hb⟩
  have K1 := hid (Ck1.start hc hg hb); clear hc hg hb
  go_wp2_with fail
  refine (new_ok _ _ HU.out HD.out _).mono ?_
  rintro e w2 ⟨b2, rfl, hc, hg, hb⟩
  have K2 := hid (Ck2.start K1.out hc hg hb); clear hc hg hb K1
  go_wp2_with fail
  go_loopw [13] (fun i wr => ∃ k : Nat, k ≤ m ∧ i = .int .i64 (k : Int) ∧ ∃ a : List Int, Ck2 w b1 ⟨u, d, a⟩ b2 ⟨u, d, []⟩ wr) (fun i _ => m - (intOf i).toNat)
  case atStart => exact ⟨0, Nat.zero_le _, rfl, _, K2.out⟩
  case round =>
    obtain ⟨k, hk, rfl, a, hK⟩ := hrel
    have K := hid hK; clear hK
    by_cases hlt : k < m
    · have hkl : k < l.length := by rw [Hn.out]; have := HM.out; omega
      obtain ⟨ab, ao, rfl, -, hcc, hcell⟩ := (In.out.grown K.out.k1.gr).cell hkl
      generalize l[k] = q at *
      have j1 : k < n := by have := HM.out; omega
      have j2 : k < 20 := by have := HM.out; omega
      go_wp2_with fail
      refine (next_any 5 q K.out.k1.at1).mono ?_
      rintro e w3 ⟨rfl, hc, hg⟩
      have K3 := hid (K.out.chg1 hc hg); clear hc hg
      go_wp2_with fail
      go_roundw
      case rel => exact ⟨k + 1, by omega, by go_num, _, K3.out⟩
      case measure => simp [intOf]; omega
    · obtain rfl : k = m := by omega
      clear hlt
      rcases HM.out.2.2 with e | ⟨e1, e2⟩
      · have j1 : ¬ k < n := by omega
        clear e
        clear hk
        go_wp2_with fail
        refine (alls_any K.out.k1.at1).mono ?_
        rintro e w3 ⟨⟨v, rfl, hv⟩, hg⟩
        have V := hid hv.ints; replace K := hid (K.out.grown hg); clear hv hg
        go_wp2_with fail
        have hms : (⟨u, d, []⟩ : Ca).mayset a = true := by
          have hok := K.out.k1.at1.ok
          rw [mayset_eq, Bool.and_eq_true, decide_eq_true_eq, List.all_eq_true]
          exact ⟨hok.n, fun x hx => by have := hok.m x hx; unfold okC; rw [Bool.and_eq_true, decide_eq_true_eq, decide_eq_true_eq]; exact this⟩
        refine (set_yes K.out.k2.at1 V.out hms).mono ?_
        rintro e w4 ⟨rfl, hc, hg⟩
        clear hms
        have K4 := hid (K.out.chg2 hc hg); clear hc hg K V
        go_wp2_with fail
        go_loopw [14] (fun i wr => ∃ k : Nat, k ≤ m2 ∧ i = .int .i64 (k : Int) ∧ ∃ a : List Int, Ck2 w b1 ⟨u, d, a⟩ b2 ⟨u, d, a⟩ wr) (fun i _ => m2 - (intOf i).toNat)
        case atStart => exact ⟨0, Nat.zero_le _, rfl, a, K4.out⟩
        case round =>
          obtain ⟨k, hk, rfl, a, hK⟩ := hrel
          have TG := hid hK; clear hK
          by_cases hlt : k < m2
          · have hkl : k < r.length := by rw [Hh.out]; have := HM2.out; omega
            obtain ⟨ab, ao, rfl, -, hcc, -⟩ := (Ih.out.grown TG.out.k1.gr).cell hkl
            have hx := List.getElem?_eq_getElem hkl
            generalize r[k] = q at *
            have CM := hid (fun (W : World) (hg : w.grownBy W none) => (Ih.out.grown hg).cell' hx)
            clear hx
            have j1 : k < h := by have := HM2.out; omega
            have j2 : k < 10 := by have := HM2.out; omega
            obtain ⟨o, ho⟩ : ∃ o, (Ca.push ⟨u, d, a⟩ q).out 7 = o := ⟨_, rfl⟩
            have HO := hid ho; clear ho
            go_wp2_with fail
            replace TG := hid TG.out.drew
            refine wp_region_held_drew (S := (fun w' => (w.grownBy w' none))) (by kernel_rfl) TG.out.k1.gr (fun hHeld => ?_)
            try dsimp only at hHeld
            refine' wpAnyH_take (i := 0) (v := _) rfl (by kernel_rfl) (by kernel_rfl) (by kernel_rfl) (fun _ _ _ h => h) (Or.inl ⟨by rfl, ?_⟩) hHeld ?_
            rotate_left
            · (intro w hSw; (try dsimp only at hSw); go_simp; try with_reducible rfl)
            try simp only [Act.put, List.setIfInBounds_toArray, List.set_cons_zero, List.set_cons_succ, List.getElem_toArray, List.getElem_cons_succ, List.getElem_cons_zero]
            refine' wpAnyH_take (i := 1) (v := _) rfl (by kernel_rfl) (by kernel_rfl) (by kernel_rfl) (fun _ _ _ h => h) (Or.inl ⟨by rfl, ?_⟩) hHeld ?_
            rotate_left
            · (intro w hSw; (try dsimp only at hSw); go_simp; try with_reducible rfl)
            try simp only [Act.put, List.setIfInBounds_toArray, List.set_cons_zero, List.set_cons_succ, List.getElem_toArray, List.getElem_cons_succ, List.getElem_cons_zero]
            refine' wpAnyH_take (i := 2) (v := _) rfl (by kernel_rfl) (by kernel_rfl) (by kernel_rfl) (fun _ _ _ h => h) (Or.inl ⟨by rfl, ?_⟩) hHeld ?_
            rotate_left
            · (intro w hSw; (try dsimp only at hSw); go_simp; try with_reducible rfl)
            try simp only [Act.put, List.setIfInBounds_toArray, List.set_cons_zero, List.set_cons_succ, List.getElem_toArray, List.getElem_cons_succ, List.getElem_cons_zero]
            refine' wpAnyH_take (i := 3) (v := _) rfl (by kernel_rfl) (by kernel_rfl) (by kernel_rfl) (fun _ _ _ h => h) (Or.inl ⟨by rfl, ?_⟩) hHeld ?_
            rotate_left
            · (intro w hSw; (try dsimp only at hSw); go_simp; try with_reducible rfl)
            try simp only [Act.put, List.setIfInBounds_toArray, List.set_cons_zero, List.set_cons_succ, List.getElem_toArray, List.getElem_cons_succ, List.getElem_cons_zero]
            refine' wpAnyH_take (i := 4) (v := _) rfl (by kernel_rfl) (by kernel_rfl) (by kernel_rfl) (fun _ _ _ h => h) (Or.inl ⟨by rfl, ?_⟩) hHeld ?_
            rotate_left
            · (intro w hSw; (try dsimp only at hSw); have kg := hSw; have q9 := CM.out _ kg; go_simp; try with_reducible rfl)
            try simp only [Act.put, List.setIfInBounds_toArray, List.set_cons_zero, List.set_cons_succ, List.getElem_toArray, List.getElem_cons_succ, List.getElem_cons_zero]
            refine' wpAnyH_take (i := 6) (v := _) rfl (by kernel_rfl) (by kernel_rfl) (by kernel_rfl) (fun _ _ _ h => h) (Or.inl ⟨by rfl, ?_⟩) hHeld ?_
            rotate_left
            · (intro w hSw; (try dsimp only at hSw); go_simp; try with_reducible rfl)
            try simp only [Act.put, List.setIfInBounds_toArray, List.set_cons_zero, List.set_cons_succ, List.getElem_toArray, List.getElem_cons_succ, List.getElem_cons_zero]
            refine' wpAnyH_take (i := 7) (v := _) rfl (by kernel_rfl) (by kernel_rfl) (by kernel_rfl) (fun _ _ _ h => h) (Or.inl ⟨by rfl, ?_⟩) hHeld ?_
            rotate_left
            · (intro w hSw; (try dsimp only at hSw); go_simp; try with_reducible rfl)
            try simp only [Act.put, List.setIfInBounds_toArray, List.set_cons_zero, List.set_cons_succ, List.getElem_toArray, List.getElem_cons_succ, List.getElem_cons_zero]
            refine' wpAnyH_take (i := 8) (v := _) rfl (by kernel_rfl) (by kernel_rfl) (by kernel_rfl) (fun _ _ _ h => h) (Or.inl ⟨by rfl, ?_⟩) hHeld ?_
            rotate_left
            · (intro w hSw; (try dsimp only at hSw); go_simp; try with_reducible rfl)
            try simp only [Act.put, List.setIfInBounds_toArray, List.set_cons_zero, List.set_cons_succ, List.getElem_toArray, List.getElem_cons_succ, List.getElem_cons_zero]
            refine' wpAnyH_take (i := 9) (v := _) rfl (by kernel_rfl) (by kernel_rfl) (by kernel_rfl) (fun _ _ _ h => h) (Or.inl ⟨by rfl, ?_⟩) hHeld ?_
            rotate_left
            · (intro w hSw; (try dsimp only at hSw); go_simp; try with_reducible rfl)
            try simp only [Act.put, List.setIfInBounds_toArray, List.set_cons_zero, List.set_cons_succ, List.getElem_toArray, List.getElem_cons_succ, List.getElem_cons_zero]
            refine' wpAnyH_take (i := 10) (v := _) rfl (by kernel_rfl) (by kernel_rfl) (by kernel_rfl) (fun _ _ _ h => h) (Or.inl ⟨by rfl, ?_⟩) hHeld ?_
            rotate_left
            · (intro w hSw; (try dsimp only at hSw); have kg := hSw; have q9 := CM.out _ kg; go_simp; try with_reducible rfl)
            try simp only [Act.put, List.setIfInBounds_toArray, List.set_cons_zero, List.set_cons_succ, List.getElem_toArray, List.getElem_cons_succ, List.getElem_cons_zero]
            refine wpAnyH_ready (rs := [5]) (by kernel_rfl) (by simp) ?_
            refine AllReadyH.cons (o := _) rfl (fun K hK => ?_) AllReadyH.nil
            try simp only [List.getElem_toArray, List.getElem_cons_succ, List.getElem_cons_zero]
            go_simp
            have hH2 := hHeld
            have kg := hH2
            refine ((next_any 7 q TG.out.k1.at1)).mono ?_
            rintro e w1005 ⟨rfl, hc, hch⟩
            replace TG := hid (TG.out.chg1 hc hch); have kg := TG.out.k1.gr; have hg := World.grownBy.refl w1005 none; rw [HO.out]; clear hc hch
            have L5 := hid (show (w.grownBy w1005 none) from (gb_trans kg hg (.inl rfl)))
            clear hHeld hg kg
            go_wp2_with fail
            refine hK.out _ _ ?_ (fun hHeld => ?_)
            · exact L5.out
            clear hK K
            try dsimp only at hHeld
            try simp only [Act.put, List.setIfInBounds_toArray, List.set_cons_zero, List.set_cons_succ, List.getElem_toArray, List.getElem_cons_succ, List.getElem_cons_zero]
            refine wpAnyH_ready (rs := [11]) (by kernel_rfl) (by simp) ?_
            refine AllReadyH.cons (o := _) rfl (fun K hK => ?_) AllReadyH.nil
            try simp only [List.getElem_toArray, List.getElem_cons_succ, List.getElem_cons_zero]
            go_simp
            have hH2 := hHeld
            have kg := hH2
            refine ((next_any 7 q TG.out.k2.at1)).mono ?_
            rintro e w1011 ⟨rfl, hc, hch⟩
            replace TG := hid (TG.out.chg2 hc hch); have kg := TG.out.k1.gr; have hg := World.grownBy.refl w1011 none; rw [HO.out]; clear hc hch
            have L11 := hid (show (w.grownBy w1011 none) from (gb_trans kg hg (.inl rfl)))
            clear hHeld hg kg
            go_wp2_with fail
            refine hK.out _ _ ?_ (fun hHeld => ?_)
            · exact L11.out
            clear hK K
            try dsimp only at hHeld
            try simp only [Act.put, List.setIfInBounds_toArray, List.set_cons_zero, List.set_cons_succ, List.getElem_toArray, List.getElem_cons_succ, List.getElem_cons_zero]
            refine' wpAnyH_take (i := 12) (v := _) rfl (by kernel_rfl) (by kernel_rfl) (by kernel_rfl) (fun _ _ _ h => h) (Or.inl ⟨by rfl, ?_⟩) hHeld ?_
            rotate_left
            · (intro w hSw; (try dsimp only at hSw); go_simp; try with_reducible rfl)
            try simp only [Act.put, List.setIfInBounds_toArray, List.set_cons_zero, List.set_cons_succ, List.getElem_toArray, List.getElem_cons_succ, List.getElem_cons_zero]
            refine wpAnyH_done (by kernel_rfl) ?_ _
            have kg := hHeld
            clear kg
            go_wp2_with fail
            go_roundw
            case rel => exact ⟨k + 1, by omega, by go_num, _, TG.out⟩
            case measure => simp [intOf]; omega
          · obtain rfl : k = m2 := by omega
            clear hlt
            rcases HM2.out.2.2 with e | ⟨e1, e2⟩
            · have j1 : ¬ k < h := by omega
              clear e
              clear hk
              go_wp2_with fail
              refine (told_any _).mono ?_
              rintro e w5 ⟨rfl, hg⟩
              replace TG := hid (TG.out.grown hg); clear hg
              go_wp2_with fail
              refine (alls_len TG.out.k1.at1 a.length rfl).mono ?_
              rintro e w6 ⟨⟨pp, mm, rfl⟩, hg⟩
              replace TG := hid (TG.out.grown hg); clear hg
              go_wp2_with fail
              refine (alls_len TG.out.k2.at1 a.length rfl).mono ?_
              rintro e w7 ⟨⟨pq, mq, rfl⟩, hg⟩
              replace TG := hid (TG.out.grown hg); clear hg
              go_wp2_with fail
              go_ret
              exact ⟨by simp, TG.out.k1.gr⟩
            · have j1 : k < h := by omega
              have j2 : ¬ k < 10 := by omega
              clear e1 e2
              clear hk
              go_wp2_with fail
              refine (told_any _).mono ?_
              rintro e w5 ⟨rfl, hg⟩
              replace TG := hid (TG.out.grown hg); clear hg
              go_wp2_with fail
              refine (alls_len TG.out.k1.at1 a.length rfl).mono ?_
              rintro e w6 ⟨⟨pp, mm, rfl⟩, hg⟩
              replace TG := hid (TG.out.grown hg); clear hg
              go_wp2_with fail
              refine (alls_len TG.out.k2.at1 a.length rfl).mono ?_
              rintro e w7 ⟨⟨pq, mq, rfl⟩, hg⟩
              replace TG := hid (TG.out.grown hg); clear hg
              go_wp2_with fail
              go_ret
              exact ⟨by simp, TG.out.k1.gr⟩
      · have j1 : k < n := by omega
        have j2 : ¬ k < 20 := by omega
        clear e1 e2
        clear hk
        go_wp2_with fail
        refine (alls_any K.out.k1.at1).mono ?_
        rintro e w3 ⟨⟨v, rfl, hv⟩, hg⟩
        have V := hid hv.ints; replace K := hid (K.out.grown hg); clear hv hg
        go_wp2_with fail
        have hms : (⟨u, d, []⟩ : Ca).mayset a = true := by
          have hok := K.out.k1.at1.ok
          rw [mayset_eq, Bool.and_eq_true, decide_eq_true_eq, List.all_eq_true]
          exact ⟨hok.n, fun x hx => by have := hok.m x hx; unfold okC; rw [Bool.and_eq_true, decide_eq_true_eq, decide_eq_true_eq]; exact this⟩
        refine (set_yes K.out.k2.at1 V.out hms).mono ?_
        rintro e w4 ⟨rfl, hc, hg⟩
        clear hms
        have K4 := hid (K.out.chg2 hc hg); clear hc hg K V
        go_wp2_with fail
        go_loopw [14] (fun i wr => ∃ k : Nat, k ≤ m2 ∧ i = .int .i64 (k : Int) ∧ ∃ a : List Int, Ck2 w b1 ⟨u, d, a⟩ b2 ⟨u, d, a⟩ wr) (fun i _ => m2 - (intOf i).toNat)
        case atStart => exact ⟨0, Nat.zero_le _, rfl, a, K4.out⟩
        case round =>
          obtain ⟨k, hk, rfl, a, hK⟩ := hrel
          have TG := hid hK; clear hK
          by_cases hlt : k < m2
          · have hkl : k < r.length := by rw [Hh.out]; have := HM2.out; omega
            obtain ⟨ab, ao, rfl, -, hcc, -⟩ := (Ih.out.grown TG.out.k1.gr).cell hkl
            have hx := List.getElem?_eq_getElem hkl
            generalize r[k] = q at *
            have CM := hid (fun (W : World) (hg : w.grownBy W none) => (Ih.out.grown hg).cell' hx)
            clear hx
            have j1 : k < h := by have := HM2.out; omega
            have j2 : k < 10 := by have := HM2.out; omega
            obtain ⟨o, ho⟩ : ∃ o, (Ca.push ⟨u, d, a⟩ q).out 7 = o := ⟨_, rfl⟩
            have HO := hid ho; clear ho
            go_wp2_with fail
            replace TG := hid TG.out.drew
            refine wp_region_held_drew (S := (fun w' => (w.grownBy w' none))) (by kernel_rfl) TG.out.k1.gr (fun hHeld => ?_)
            try dsimp only at hHeld
            refine' wpAnyH_take (i := 0) (v := _) rfl (by kernel_rfl) (by kernel_rfl) (by kernel_rfl) (fun _ _ _ h => h) (Or.inl ⟨by rfl, ?_⟩) hHeld ?_
            rotate_left
            · (intro w hSw; (try dsimp only at hSw); go_simp; try with_reducible rfl)
            try simp only [Act.put, List.setIfInBounds_toArray, List.set_cons_zero, List.set_cons_succ, List.getElem_toArray, List.getElem_cons_succ, List.getElem_cons_zero]
            refine' wpAnyH_take (i := 1) (v := _) rfl (by kernel_rfl) (by kernel_rfl) (by kernel_rfl) (fun _ _ _ h => h) (Or.inl ⟨by rfl, ?_⟩) hHeld ?_
            rotate_left
            · (intro w hSw; (try dsimp only at hSw); go_simp; try with_reducible rfl)
            try simp only [Act.put, List.setIfInBounds_toArray, List.set_cons_zero, List.set_cons_succ, List.getElem_toArray, List.getElem_cons_succ, List.getElem_cons_zero]
            refine' wpAnyH_take (i := 2) (v := _) rfl (by kernel_rfl) (by kernel_rfl) (by kernel_rfl) (fun _ _ _ h => h) (Or.inl ⟨by rfl, ?_⟩) hHeld ?_
            rotate_left
            · (intro w hSw; (try dsimp only at hSw); go_simp; try with_reducible rfl)
            try simp only [Act.put, List.setIfInBounds_toArray, List.set_cons_zero, List.set_cons_succ, List.getElem_toArray, List.getElem_cons_succ, List.getElem_cons_zero]
            refine' wpAnyH_take (i := 3) (v := _) rfl (by kernel_rfl) (by kernel_rfl) (by kernel_rfl) (fun _ _ _ h => h) (Or.inl ⟨by rfl, ?_⟩) hHeld ?_
            rotate_left
            · (intro w hSw; (try dsimp only at hSw); go_simp; try with_reducible rfl)
            try simp only [Act.put, List.setIfInBounds_toArray, List.set_cons_zero, List.set_cons_succ, List.getElem_toArray, List.getElem_cons_succ, List.getElem_cons_zero]
            refine' wpAnyH_take (i := 4) (v := _) rfl (by kernel_rfl) (by kernel_rfl) (by kernel_rfl) (fun _ _ _ h => h) (Or.inl ⟨by rfl, ?_⟩) hHeld ?_
            rotate_left
            · (intro w hSw; (try dsimp only at hSw); have kg := hSw; have q9 := CM.out _ kg; go_simp; try with_reducible rfl)
            try simp only [Act.put, List.setIfInBounds_toArray, List.set_cons_zero, List.set_cons_succ, List.getElem_toArray, List.getElem_cons_succ, List.getElem_cons_zero]
            refine' wpAnyH_take (i := 6) (v := _) rfl (by kernel_rfl) (by kernel_rfl) (by kernel_rfl) (fun _ _ _ h => h) (Or.inl ⟨by rfl, ?_⟩) hHeld ?_
            rotate_left
            · (intro w hSw; (try dsimp only at hSw); go_simp; try with_reducible rfl)
            try simp only [Act.put, List.setIfInBounds_toArray, List.set_cons_zero, List.set_cons_succ, List.getElem_toArray, List.getElem_cons_succ, List.getElem_cons_zero]
            refine' wpAnyH_take (i := 7) (v := _) rfl (by kernel_rfl) (by kernel_rfl) (by kernel_rfl) (fun _ _ _ h => h) (Or.inl ⟨by rfl, ?_⟩) hHeld ?_
            rotate_left
            · (intro w hSw; (try dsimp only at hSw); go_simp; try with_reducible rfl)
            try simp only [Act.put, List.setIfInBounds_toArray, List.set_cons_zero, List.set_cons_succ, List.getElem_toArray, List.getElem_cons_succ, List.getElem_cons_zero]
            refine' wpAnyH_take (i := 8) (v := _) rfl (by kernel_rfl) (by kernel_rfl) (by kernel_rfl) (fun _ _ _ h => h) (Or.inl ⟨by rfl, ?_⟩) hHeld ?_
            rotate_left
            · (intro w hSw; (try dsimp only at hSw); go_simp; try with_reducible rfl)
            try simp only [Act.put, List.setIfInBounds_toArray, List.set_cons_zero, List.set_cons_succ, List.getElem_toArray, List.getElem_cons_succ, List.getElem_cons_zero]
            refine' wpAnyH_take (i := 9) (v := _) rfl (by kernel_rfl) (by kernel_rfl) (by kernel_rfl) (fun _ _ _ h => h) (Or.inl ⟨by rfl, ?_⟩) hHeld ?_
            rotate_left
            · (intro w hSw; (try dsimp only at hSw); go_simp; try with_reducible rfl)
            try simp only [Act.put, List.setIfInBounds_toArray, List.set_cons_zero, List.set_cons_succ, List.getElem_toArray, List.getElem_cons_succ, List.getElem_cons_zero]
            refine' wpAnyH_take (i := 10) (v := _) rfl (by kernel_rfl) (by kernel_rfl) (by kernel_rfl) (fun _ _ _ h => h) (Or.inl ⟨by rfl, ?_⟩) hHeld ?_
            rotate_left
            · (intro w hSw; (try dsimp only at hSw); have kg := hSw; have q9 := CM.out _ kg; go_simp; try with_reducible rfl)
            try simp only [Act.put, List.setIfInBounds_toArray, List.set_cons_zero, List.set_cons_succ, List.getElem_toArray, List.getElem_cons_succ, List.getElem_cons_zero]
            refine wpAnyH_ready (rs := [5]) (by kernel_rfl) (by simp) ?_
            refine AllReadyH.cons (o := _) rfl (fun K hK => ?_) AllReadyH.nil
            try simp only [List.getElem_toArray, List.getElem_cons_succ, List.getElem_cons_zero]
            go_simp
            have hH2 := hHeld
            have kg := hH2
            refine ((next_any 7 q TG.out.k1.at1)).mono ?_
            rintro e w1005 ⟨rfl, hc, hch⟩
            replace TG := hid (TG.out.chg1 hc hch); have kg := TG.out.k1.gr; have hg := World.grownBy.refl w1005 none; rw [HO.out]; clear hc hch
            have L5 := hid (show (w.grownBy w1005 none) from (gb_trans kg hg (.inl rfl)))
            clear hHeld hg kg
            go_wp2_with fail
            refine hK.out _ _ ?_ (fun hHeld => ?_)
            · exact L5.out
            clear hK K
            try dsimp only at hHeld
            try simp only [Act.put, List.setIfInBounds_toArray, List.set_cons_zero, List.set_cons_succ, List.getElem_toArray, List.getElem_cons_succ, List.getElem_cons_zero]
            refine wpAnyH_ready (rs := [11]) (by kernel_rfl) (by simp) ?_
            refine AllReadyH.cons (o := _) rfl (fun K hK => ?_) AllReadyH.nil
            try simp only [List.getElem_toArray, List.getElem_cons_succ, List.getElem_cons_zero]
            go_simp
            have hH2 := hHeld
            have kg := hH2
            refine ((next_any 7 q TG.out.k2.at1)).mono ?_
            rintro e w1011 ⟨rfl, hc, hch⟩
            replace TG := hid (TG.out.chg2 hc hch); have kg := TG.out.k1.gr; have hg := World.grownBy.refl w1011 none; rw [HO.out]; clear hc hch
            have L11 := hid (show (w.grownBy w1011 none) from (gb_trans kg hg (.inl rfl)))
            clear hHeld hg kg
            go_wp2_with fail
            refine hK.out _ _ ?_ (fun hHeld => ?_)
            · exact L11.out
            clear hK K
            try dsimp only at hHeld
            try simp only [Act.put, List.setIfInBounds_toArray, List.set_cons_zero, List.set_cons_succ, List.getElem_toArray, List.getElem_cons_succ, List.getElem_cons_zero]
            refine' wpAnyH_take (i := 12) (v := _) rfl (by kernel_rfl) (by kernel_rfl) (by kernel_rfl) (fun _ _ _ h => h) (Or.inl ⟨by rfl, ?_⟩) hHeld ?_
            rotate_left
            · (intro w hSw; (try dsimp only at hSw); go_simp; try with_reducible rfl)
            try simp only [Act.put, List.setIfInBounds_toArray, List.set_cons_zero, List.set_cons_succ, List.getElem_toArray, List.getElem_cons_succ, List.getElem_cons_zero]
            refine wpAnyH_done (by kernel_rfl) ?_ _
            have kg := hHeld
            clear kg
            go_wp2_with fail
            go_roundw
            case rel => exact ⟨k + 1, by omega, by go_num, _, TG.out⟩
            case measure => simp [intOf]; omega
          · obtain rfl : k = m2 := by omega
            clear hlt
            rcases HM2.out.2.2 with e | ⟨e1, e2⟩
            · have j1 : ¬ k < h := by omega
              clear e
              clear hk
              go_wp2_with fail
              refine (told_any _).mono ?_
              rintro e w5 ⟨rfl, hg⟩
              replace TG := hid (TG.out.grown hg); clear hg
              go_wp2_with fail
              refine (alls_len TG.out.k1.at1 a.length rfl).mono ?_
              rintro e w6 ⟨⟨pp, mm, rfl⟩, hg⟩
              replace TG := hid (TG.out.grown hg); clear hg
              go_wp2_with fail
              refine (alls_len TG.out.k2.at1 a.length rfl).mono ?_
              rintro e w7 ⟨⟨pq, mq, rfl⟩, hg⟩
              replace TG := hid (TG.out.grown hg); clear hg
              go_wp2_with fail
              go_ret
              exact ⟨by simp, TG.out.k1.gr⟩
            · have j1 : k < h := by omega
              have j2 : ¬ k < 10 := by omega
              clear e1 e2
              clear hk
              go_wp2_with fail
              refine (told_any _).mono ?_
              rintro e w5 ⟨rfl, hg⟩
              replace TG := hid (TG.out.grown hg); clear hg
              go_wp2_with fail
              refine (alls_len TG.out.k1.at1 a.length rfl).mono ?_
              rintro e w6 ⟨⟨pp, mm, rfl⟩, hg⟩
              replace TG := hid (TG.out.grown hg); clear hg
              go_wp2_with fail
              refine (alls_len TG.out.k2.at1 a.length rfl).mono ?_
              rintro e w7 ⟨⟨pq, mq, rfl⟩, hg⟩
              replace TG := hid (TG.out.grown hg); clear hg
              go_wp2_with fail
              go_ret
              exact ⟨by simp, TG.out.k1.gr⟩
end Go.Proofs.Ytnpaecbdejemnaa.csets
