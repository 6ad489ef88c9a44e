/-
  The walk of the statement TableDrops: what is dropped is all up to an epoch, the rest stays. No condition.
-/
import Derived.Test.YtjjcnojckbeekaaTbN
import Derived.Test.YtjjcnojckbeekaaUmi
import Derived.Test.YtjjcnojckbeekaaGrid
import Derived.Test.YtjjcnojckbeekaaHeld
set_option linter.unusedSimpArgs false
set_option linter.unusedVariables false
namespace Go.Proofs.Ytjjcnojckbeekaa.tbdrops
set_option maxRecDepth 100000
open Go.RowKit

theorem drop_snoc (L : List Sm) (e : Int) (k : Nat) (h : k < L.length) : dropT (L.take (k + 1)) e = dropT (L.take k) e ++ (if e < L[k].ep then [L[k]] else []) := by
  rw [← List.take_append_getElem h]
  unfold dropT
  rw [List.filter_append]
  congr 1
  by_cases he : e < L[k].ep <;> simp [he]
theorem drop_twice (L : List Sm) (e : Int) : dropT (dropT L e) e = dropT L e := by
  unfold dropT
  rw [List.filter_filter]
  simp
set_option maxHeartbeats 6400000 in
theorem walk {w : World} (n : Nat) (f : Nat → Nat → Int) (pa : Option Addr) (ca : Nat) (ga : GridAt w (.slice pa n ca) 4 n f) (b : Int) :
    Calls Try.prog 6 #[.slice pa n ca, .int .i64 b] w fun e w' => e = .returned (.bool true) ∧ w.grownBy w' none := by
  have G := hid ga
  clear ga
  by_cases h30 : n ≤ 30
  · obtain ⟨q0, q1, q2, m9⟩ := umod_int b 10 (by omega)
    have m9 : (IntKind.u64.wrap b).tmod 10 = q0 := m9
    have c9 : IntKind.i64.wrap q0 = q0 := IntWalk.i64_in _ (by omega)
    obtain ⟨E, hE⟩ : ∃ E, E = q0 - 1 := ⟨_, rfl⟩
    have s9 : IntKind.i64.wrap (q0 - 1) = E := by rw [hE]; exact IntWalk.i64_in _ (by omega)
    clear hE q1 q2
    have h30' : ¬ 30 < (n : Int) := by omega
    go_enter Try.func6, Try.ntmps6
    go_wp2_with fail
    refine (Tk.new (by decide) (.refl w none)).mono ?_
    rintro e w0 ⟨rfl, hT, hg⟩
    have T0 := hid hT
    clear hT hg
    generalize w.heap.size + 1 = tb at T0 ⊢
    generalize w.heap.size = mb at T0 ⊢
    go_wp2_with fail
    go_loopw [6] (fun i wr => ∃ (k : Nat) (L : List Sm), k ≤ n ∧ i = .int .i64 (k : Int) ∧ L.length ≤ k ∧ Tk w 6 2 8 L tb mb wr) (fun i _ => n - (intOf i).toNat)
    case atStart => exact ⟨0, [], Nat.zero_le _, rfl, Nat.le_refl _, T0.out⟩
    case round =>
      obtain ⟨k, L, hk, rfl, hL, hT⟩ := hrel
      have T1 := hid hT
      have HL := hid hL
      clear hT hL
      by_cases hlt : k < n
      · have hlt' : (k : Int) < (n : Int) := by omega
        have hk1 : k + 1 ≤ n := hlt
        obtain ⟨ab, ao, rfl, hcc, hab, hcell⟩ := (G.out.grown T1.out.gr).cells hlt (by omega)
        have c0 := hcell 0 (by omega)
        have c1 := hcell 1 (by omega)
        have c2 := hcell 2 (by omega)
        have HAB : Hid (ab ∉ [mb]) := by
          obtain ⟨ab', ao', e', _, hab', _⟩ := G.out.cells hlt (by omega)
          cases e'
          have := T1.out.lo.2
          intro hm
          simp only [List.mem_singleton] at hm
          omega
        obtain ⟨z0, z00, z01, m0⟩ := umod_int (f k 0) 6 (by omega)
        have m0 : (IntKind.u64.wrap (f k 0)).tmod 6 = z0 := m0
        obtain ⟨z1, z10, z11, m1⟩ := umod_int (f k 1) 2 (by omega)
        have m1 : (IntKind.u64.wrap (f k 1)).tmod 2 = z1 := m1
        obtain ⟨z2, z20, z21, m2⟩ := umod_int (f k 2) 8 (by omega)
        have m2 : (IntKind.u64.wrap (f k 2)).tmod 8 = z2 := m2
        have d0 : IntKind.i64.wrap z0 = z0 := IntWalk.i64_in _ (by omega)
        have d1 : IntKind.i64.wrap z1 = z1 := IntWalk.i64_in _ (by omega)
        have d2 : IntKind.i64.wrap z2 = z2 := IntWalk.i64_in _ (by omega)
        have HZ := hid (show wf64 z2 by unfold wf64; omega)
        have HLEN := hid (show L.length ≤ 100000 by have := HL.out; omega)
        have T1d := hid T1.out.drew
        have hao : ao + k * 4 + 0 = ao + k * 4 := rfl
        rw [hao] at c0
        clear hcell hab z00 z01 z10 z11 z20 z21 hao
        generalize f k 0 = y0 at *
        generalize f k 1 = y1 at *
        generalize f k 2 = y2 at *
        go_upto_region 7 with fail
        refine wp_region_held_drew (S := (fun w' => (w'.cell? ⟨ab, ao + k * 4, none⟩ = some (.int .i64 y0)) ∧ (w'.cell? ⟨ab, ao + k * 4 + 1, none⟩ = some (.int .i64 y1)) ∧ (w'.cell? ⟨ab, ao + k * 4 + 2, none⟩ = some (.int .i64 y2)))) (by kernel_rfl) ⟨c0, c1, c2⟩ (fun hHeld => ?_)
        try dsimp only at hHeld
        refine' wpAnyH_take (i := 0) (v := _) rfl (by kernel_rfl) (by kernel_rfl) (by kernel_rfl) (fun _ _ _ h => h) (Or.inl ⟨by rfl, ?_⟩) hHeld ?_
        rotate_left
        · (intro w hSw; (try dsimp only at hSw); go_simp; try with_reducible rfl)
        try simp only [Act.put, List.setIfInBounds_toArray, List.set_cons_zero, List.set_cons_succ, List.getElem_toArray, List.getElem_cons_succ, List.getElem_cons_zero]
        refine' wpAnyH_take (i := 1) (v := _) rfl (by kernel_rfl) (by kernel_rfl) (by kernel_rfl) (fun _ _ _ h => h) (Or.inl ⟨by rfl, ?_⟩) hHeld ?_
        rotate_left
        · (intro w hSw; (try dsimp only at hSw); go_simp; try with_reducible rfl)
        try simp only [Act.put, List.setIfInBounds_toArray, List.set_cons_zero, List.set_cons_succ, List.getElem_toArray, List.getElem_cons_succ, List.getElem_cons_zero]
        refine' wpAnyH_take (i := 2) (v := _) rfl (by kernel_rfl) (by kernel_rfl) (by kernel_rfl) (fun _ _ _ h => h) (Or.inl ⟨by rfl, ?_⟩) hHeld ?_
        rotate_left
        · (intro w hSw; (try dsimp only at hSw); go_simp; try with_reducible rfl)
        try simp only [Act.put, List.setIfInBounds_toArray, List.set_cons_zero, List.set_cons_succ, List.getElem_toArray, List.getElem_cons_succ, List.getElem_cons_zero]
        refine' wpAnyH_take (i := 3) (v := _) rfl (by kernel_rfl) (by kernel_rfl) (by kernel_rfl) (fun _ _ _ h => h) (Or.inl ⟨by rfl, ?_⟩) hHeld ?_
        rotate_left
        · (intro w hSw; (try dsimp only at hSw); go_simp; try with_reducible rfl)
        try simp only [Act.put, List.setIfInBounds_toArray, List.set_cons_zero, List.set_cons_succ, List.getElem_toArray, List.getElem_cons_succ, List.getElem_cons_zero]
        refine' wpAnyH_take (i := 4) (v := _) rfl (by kernel_rfl) (by kernel_rfl) (by kernel_rfl) (fun _ _ _ h => h) (Or.inl ⟨by rfl, ?_⟩) hHeld ?_
        rotate_left
        · (intro w hSw; (try dsimp only at hSw); go_simp; try with_reducible rfl)
        try simp only [Act.put, List.setIfInBounds_toArray, List.set_cons_zero, List.set_cons_succ, List.getElem_toArray, List.getElem_cons_succ, List.getElem_cons_zero]
        refine' wpAnyH_take (i := 5) (v := _) rfl (by kernel_rfl) (by kernel_rfl) (by kernel_rfl) (fun _ _ _ h => h) (Or.inl ⟨by rfl, ?_⟩) hHeld ?_
        rotate_left
        · (intro w hSw; (try dsimp only at hSw); go_simp; try with_reducible rfl)
        try simp only [Act.put, List.setIfInBounds_toArray, List.set_cons_zero, List.set_cons_succ, List.getElem_toArray, List.getElem_cons_succ, List.getElem_cons_zero]
        refine' wpAnyH_take (i := 6) (v := _) rfl (by kernel_rfl) (by kernel_rfl) (by kernel_rfl) (fun _ _ _ h => h) (Or.inl ⟨by rfl, ?_⟩) hHeld ?_
        rotate_left
        · (intro w hSw; (try dsimp only at hSw); go_simp; try with_reducible rfl)
        try simp only [Act.put, List.setIfInBounds_toArray, List.set_cons_zero, List.set_cons_succ, List.getElem_toArray, List.getElem_cons_succ, List.getElem_cons_zero]
        refine' wpAnyH_take (i := 7) (v := _) rfl (by kernel_rfl) (by kernel_rfl) (by kernel_rfl) (fun _ _ _ h => h) (Or.inl ⟨by rfl, ?_⟩) hHeld ?_
        rotate_left
        · (intro w hSw; (try dsimp only at hSw); go_simp; try with_reducible rfl)
        try simp only [Act.put, List.setIfInBounds_toArray, List.set_cons_zero, List.set_cons_succ, List.getElem_toArray, List.getElem_cons_succ, List.getElem_cons_zero]
        refine' wpAnyH_take (i := 8) (v := _) rfl (by kernel_rfl) (by kernel_rfl) (by kernel_rfl) (fun _ _ _ h => h) (Or.inl ⟨by rfl, ?_⟩) hHeld ?_
        rotate_left
        · (intro w hSw; (try dsimp only at hSw); go_simp; try with_reducible rfl)
        try simp only [Act.put, List.setIfInBounds_toArray, List.set_cons_zero, List.set_cons_succ, List.getElem_toArray, List.getElem_cons_succ, List.getElem_cons_zero]
        refine' wpAnyH_take (i := 9) (v := _) rfl (by kernel_rfl) (by kernel_rfl) (by kernel_rfl) (fun _ _ _ h => h) (Or.inl ⟨by rfl, ?_⟩) hHeld ?_
        rotate_left
        · (intro w hSw; (try dsimp only at hSw); go_simp; try with_reducible rfl)
        try simp only [Act.put, List.setIfInBounds_toArray, List.set_cons_zero, List.set_cons_succ, List.getElem_toArray, List.getElem_cons_succ, List.getElem_cons_zero]
        refine' wpAnyH_take (i := 10) (v := _) rfl (by kernel_rfl) (by kernel_rfl) (by kernel_rfl) (fun _ _ _ h => h) (Or.inl ⟨by rfl, ?_⟩) hHeld ?_
        rotate_left
        · (intro w hSw; (try dsimp only at hSw); go_simp; try with_reducible rfl)
        try simp only [Act.put, List.setIfInBounds_toArray, List.set_cons_zero, List.set_cons_succ, List.getElem_toArray, List.getElem_cons_succ, List.getElem_cons_zero]
        refine' wpAnyH_take (i := 11) (v := _) rfl (by kernel_rfl) (by kernel_rfl) (by kernel_rfl) (fun _ _ _ h => h) (Or.inl ⟨by rfl, ?_⟩) hHeld ?_
        rotate_left
        · (intro w hSw; (try dsimp only at hSw); go_simp; try with_reducible rfl)
        try simp only [Act.put, List.setIfInBounds_toArray, List.set_cons_zero, List.set_cons_succ, List.getElem_toArray, List.getElem_cons_succ, List.getElem_cons_zero]
        refine' wpAnyH_take (i := 12) (v := _) rfl (by kernel_rfl) (by kernel_rfl) (by kernel_rfl) (fun _ _ _ h => h) (Or.inl ⟨by rfl, ?_⟩) hHeld ?_
        rotate_left
        · (intro w hSw; (try dsimp only at hSw); go_simp; try with_reducible rfl)
        try simp only [Act.put, List.setIfInBounds_toArray, List.set_cons_zero, List.set_cons_succ, List.getElem_toArray, List.getElem_cons_succ, List.getElem_cons_zero]
        refine' wpAnyH_take (i := 13) (v := _) rfl (by kernel_rfl) (by kernel_rfl) (by kernel_rfl) (fun _ _ _ h => h) (Or.inl ⟨by rfl, ?_⟩) hHeld ?_
        rotate_left
        · (intro w hSw; (try dsimp only at hSw); go_simp; try with_reducible rfl)
        try simp only [Act.put, List.setIfInBounds_toArray, List.set_cons_zero, List.set_cons_succ, List.getElem_toArray, List.getElem_cons_succ, List.getElem_cons_zero]
        refine' wpAnyH_take (i := 14) (v := _) rfl (by kernel_rfl) (by kernel_rfl) (by kernel_rfl) (fun _ _ _ h => h) (Or.inl ⟨by rfl, ?_⟩) hHeld ?_
        rotate_left
        · (intro w hSw; (try dsimp only at hSw); go_simp; try with_reducible rfl)
        try simp only [Act.put, List.setIfInBounds_toArray, List.set_cons_zero, List.set_cons_succ, List.getElem_toArray, List.getElem_cons_succ, List.getElem_cons_zero]
        refine' wpAnyH_take (i := 15) (v := _) rfl (by kernel_rfl) (by kernel_rfl) (by kernel_rfl) (fun _ _ _ h => h) (Or.inl ⟨by rfl, ?_⟩) hHeld ?_
        rotate_left
        · (intro w hSw; (try dsimp only at hSw); go_simp; try with_reducible rfl)
        try simp only [Act.put, List.setIfInBounds_toArray, List.set_cons_zero, List.set_cons_succ, List.getElem_toArray, List.getElem_cons_succ, List.getElem_cons_zero]
        refine' wpAnyH_take (i := 16) (v := _) rfl (by kernel_rfl) (by kernel_rfl) (by kernel_rfl) (fun _ _ _ h => h) (Or.inl ⟨by rfl, ?_⟩) hHeld ?_
        rotate_left
        · (intro w hSw; (try dsimp only at hSw); go_simp; try with_reducible rfl)
        try simp only [Act.put, List.setIfInBounds_toArray, List.set_cons_zero, List.set_cons_succ, List.getElem_toArray, List.getElem_cons_succ, List.getElem_cons_zero]
        refine' wpAnyH_take (i := 17) (v := _) rfl (by kernel_rfl) (by kernel_rfl) (by kernel_rfl) (fun _ _ _ h => h) (Or.inl ⟨by rfl, ?_⟩) hHeld ?_
        rotate_left
        · (intro w hSw; (try dsimp only at hSw); go_simp; try with_reducible rfl)
        try simp only [Act.put, List.setIfInBounds_toArray, List.set_cons_zero, List.set_cons_succ, List.getElem_toArray, List.getElem_cons_succ, List.getElem_cons_zero]
        refine' wpAnyH_take (i := 18) (v := _) rfl (by kernel_rfl) (by kernel_rfl) (by kernel_rfl) (fun _ _ _ h => h) (Or.inl ⟨by rfl, ?_⟩) hHeld ?_
        rotate_left
        · (intro w hSw; (try dsimp only at hSw); go_simp; try with_reducible rfl)
        try simp only [Act.put, List.setIfInBounds_toArray, List.set_cons_zero, List.set_cons_succ, List.getElem_toArray, List.getElem_cons_succ, List.getElem_cons_zero]
        refine' wpAnyH_take (i := 19) (v := _) rfl (by kernel_rfl) (by kernel_rfl) (by kernel_rfl) (fun _ _ _ h => h) (Or.inl ⟨by rfl, ?_⟩) hHeld ?_
        rotate_left
        · (intro w hSw; (try dsimp only at hSw); go_simp; try with_reducible rfl)
        try simp only [Act.put, List.setIfInBounds_toArray, List.set_cons_zero, List.set_cons_succ, List.getElem_toArray, List.getElem_cons_succ, List.getElem_cons_zero]
        refine' wpAnyH_take (i := 20) (v := _) rfl (by kernel_rfl) (by kernel_rfl) (by kernel_rfl) (fun _ _ _ h => h) (Or.inl ⟨by rfl, ?_⟩) hHeld ?_
        rotate_left
        · (intro w hSw; (try dsimp only at hSw); go_simp; try with_reducible rfl)
        try simp only [Act.put, List.setIfInBounds_toArray, List.set_cons_zero, List.set_cons_succ, List.getElem_toArray, List.getElem_cons_succ, List.getElem_cons_zero]
        refine' wpAnyH_take (i := 21) (v := _) rfl (by kernel_rfl) (by kernel_rfl) (by kernel_rfl) (fun _ _ _ h => h) (Or.inl ⟨by rfl, ?_⟩) hHeld ?_
        rotate_left
        · (intro w hSw; (try dsimp only at hSw); go_simp; try with_reducible rfl)
        try simp only [Act.put, List.setIfInBounds_toArray, List.set_cons_zero, List.set_cons_succ, List.getElem_toArray, List.getElem_cons_succ, List.getElem_cons_zero]
        refine' wpAnyH_take (i := 22) (v := _) rfl (by kernel_rfl) (by kernel_rfl) (by kernel_rfl) (fun _ _ _ h => h) (Or.inl ⟨by rfl, ?_⟩) hHeld ?_
        rotate_left
        · (intro w hSw; (try dsimp only at hSw); go_simp; try with_reducible rfl)
        try simp only [Act.put, List.setIfInBounds_toArray, List.set_cons_zero, List.set_cons_succ, List.getElem_toArray, List.getElem_cons_succ, List.getElem_cons_zero]
        refine' wpAnyH_take (i := 23) (v := _) rfl (by kernel_rfl) (by kernel_rfl) (by kernel_rfl) (fun _ _ _ h => h) (Or.inl ⟨by rfl, ?_⟩) hHeld ?_
        rotate_left
        · (intro w hSw; (try dsimp only at hSw); go_simp; try with_reducible rfl)
        try simp only [Act.put, List.setIfInBounds_toArray, List.set_cons_zero, List.set_cons_succ, List.getElem_toArray, List.getElem_cons_succ, List.getElem_cons_zero]
        refine' wpAnyH_take (i := 24) (v := _) rfl (by kernel_rfl) (by kernel_rfl) (by kernel_rfl) (fun _ _ _ h => h) (Or.inl ⟨by rfl, ?_⟩) hHeld ?_
        rotate_left
        · (intro w hSw; (try dsimp only at hSw); go_simp; try with_reducible rfl)
        try simp only [Act.put, List.setIfInBounds_toArray, List.set_cons_zero, List.set_cons_succ, List.getElem_toArray, List.getElem_cons_succ, List.getElem_cons_zero]
        refine' wpAnyH_take (i := 25) (v := _) rfl (by kernel_rfl) (by kernel_rfl) (by kernel_rfl) (fun _ _ _ h => h) (Or.inl ⟨by rfl, ?_⟩) hHeld ?_
        rotate_left
        · (intro w hSw; (try dsimp only at hSw); go_simp; try with_reducible rfl)
        try simp only [Act.put, List.setIfInBounds_toArray, List.set_cons_zero, List.set_cons_succ, List.getElem_toArray, List.getElem_cons_succ, List.getElem_cons_zero]
        refine wpAnyH_ready (rs := [26]) (by kernel_rfl) (by simp) ?_
        refine AllReadyH.cons (o := _) rfl (fun K hK => ?_) AllReadyH.nil
        try simp only [List.getElem_toArray, List.getElem_cons_succ, List.getElem_cons_zero]
        go_simp
        have hH2 := hHeld
        obtain ⟨c0, c1, c2⟩ := hH2
        refine (T1d.out.put HLEN.out ⟨z0, z1, z2, 5⟩ HZ.out (by decide) rfl rfl).mono ?_
        rintro e w1026 ⟨rfl, hT, hc⟩
        have T2 := hid hT
        have HCH := hid hc
        clear hT hc
        have hg := True.intro
        have L26 := hid (show (w1026.cell? ⟨ab, ao + k * 4, none⟩ = some (.int .i64 y0)) ∧ (w1026.cell? ⟨ab, ao + k * 4 + 1, none⟩ = some (.int .i64 y1)) ∧ (w1026.cell? ⟨ab, ao + k * 4 + 2, none⟩ = some (.int .i64 y2)) from ⟨HCH.out.cell c0 HAB.out, HCH.out.cell c1 HAB.out, HCH.out.cell c2 HAB.out⟩)
        clear hHeld hg c0 c1 c2
        go_wp2_with fail
        refine hK.out _ _ ?_ (fun hHeld => ?_)
        · exact L26.out
        clear hK K
        try dsimp only at hHeld
        try simp only [Act.put, List.setIfInBounds_toArray, List.set_cons_zero, List.set_cons_succ, List.getElem_toArray, List.getElem_cons_succ, List.getElem_cons_zero]
        refine wpAnyH_done (by kernel_rfl) ?_ _
        obtain ⟨c0, c1, c2⟩ := hHeld
        clear c0 c1 c2
        go_wp2_with fail
        go_roundw
        case rel => exact ⟨k + 1, _, hk1, by go_num, by have h1 := HL.out; have h2 := putT_len 6 2 8 L ⟨z0, z1, z2, 5⟩ 0; omega, T2.out⟩
        case measure => simp [intOf]; omega
      · obtain rfl : k = n := by omega
        have HL5 := hid (show L.length ≤ 100000 by have := HL.out; omega)
        clear h30 h30' hk HL
        go_wp2_with fail
        refine (all_any T1.out.tb HL5.out).mono ?_
        rintro e w2 ⟨v2, rfl, hown, hg⟩
        have T2 := hid (T1.out.grown hg)
        have HO2 := hid hown
        obtain ⟨p2, c2, rfl⟩ := hown.form
        have HLO := hid (show ∀ g, (Value.slice p2 L.length c2).ownBlock = some g → g ∉ [mb] from fun g hg => by have h1 := (hown.lt g hg).1; have h2 := T1.out.tb.lt.2; simp; omega)
        clear hown hg T1
        go_wp2_with fail
        refine (T2.out.drop HL5.out E (L.length - (dropT L E).length) rfl rfl).mono ?_
        rintro e w3 ⟨rfl, hT, hc⟩
        have T3 := hid hT
        have HO3 := hid (HO2.out.chg hc HLO.out)
        clear hT hc T2 HO2 HLO
        obtain ⟨M, hM⟩ : ∃ M, M = L.length := ⟨_, rfl⟩
        have HM := hid hM
        have HM5 : Hid (M ≤ 100000) := hM ▸ HL5
        have hdl : (dropT L E).length ≤ M := by rw [hM]; exact List.length_filter_le _ _
        obtain ⟨D, hD⟩ : ∃ D, D = (dropT L E).length := ⟨_, rfl⟩
        rw [← hD] at hdl ⊢
        rw [← hM] at HO3 ⊢
        obtain ⟨R, hR⟩ : ∃ R, R = M - D := ⟨_, rfl⟩
        rw [← hR]
        have HS := hid (show IntKind.i64.wrap ((M : Int) - (D : Int)) = (R : Int) by rw [show (M : Int) - (D : Int) = (R : Int) by omega]; have := HM5.out; exact IntWalk.i64_in _ (by omega))
        have HD := hid hD
        clear hM hD hdl hR
        go_wp2_with fail
        go_loopw [10, 11] (fun v i wr => ∃ (k : Nat) (vv : Value), v = vv ∧ k ≤ M ∧ i = .int .i64 (k : Int) ∧ OwnZ w3.heap.size wr vv (dropT (L.take k) E) ∧ w3.grownBy wr none) (fun _ i _ => M - (intOf i).toNat)
        case atStart => exact ⟨0, _, rfl, Nat.zero_le _, rfl, OwnZ.nil _ _, .refl _ _⟩
        case round =>
          obtain ⟨k, v, hv, hk, rfl, hown, hgr⟩ := hrel
          have hv' := hv.symm
          clear hv
          subst hv'
          have HOWN := hid hown
          have HGR := hid hgr
          clear hown hgr
          by_cases hkn : k < M
          · have hkn' : (k : Int) < (M : Int) := by omega
            have hlt1 : k + 1 ≤ M := hkn
            have hkL : k < L.length := by rw [← HM.out]; exact hkn
            have hk6 : k < 100000 := by have := HM5.out; omega
            have hrd := (HO3.out.grown HGR.out).reads
            rw [HM.out] at hrd
            obtain ⟨g, o, rfl, -, hnc, a0, a1, a2, a3⟩ := hrd.cells (i := k) hkL
            rw [← HM.out] at hnc
            have hsn := drop_snoc L E k hkL
            have hle : (dropT (L.take k) E).length ≤ 100000 := Nat.le_trans (List.length_filter_le _ _) (by rw [List.length_take]; omega)
            generalize L[k] = s at *
            have HSN := hid hsn
            have HLE := hid hle
            clear hrd hsn hle
            by_cases he : E < s.ep
            · have HT := hid (show dropT (L.take (k + 1)) E = dropT (L.take k) E ++ [s] by rw [HSN.out, if_pos he])
              go_wp2_with (first
                | (refine append_smp rfl _ _ rfl w3.heap.size _ _ rfl (HOWN.out.grown (World.grownBy_alloc wr (.cells #[.int .i64 s.who, .int .i64 s.met, .int .i64 s.ep, .int .i64 s.val] 29) none)) _ [s] rfl (smp_new _ s) (by have := HLE.out; simp only [List.length_cons, List.length_nil]; omega) (gb_alloc HGR.out _).size ?_; intro v' w5 hown3 hg3 hat3; have HO5 := hid hown3; have HG5 := hid (gb_ownZ (gb_alloc HGR.out _) (HOWN.out.grown (World.grownBy_alloc wr _ none)) (Nat.le_refl _) hg3); obtain ⟨p3, c3', rfl⟩ := hown3.form; clear hown3 hg3 hat3))
              go_roundw
              case rel => exact ⟨k + 1, _, rfl, hlt1, by go_num, by rw [HT.out]; have h := HO5.out; simp only [List.length_append, List.length_cons, List.length_nil, Nat.zero_add] at h; exact h, HG5.out⟩
              case measure => simp [intOf]; omega
            · have HT := hid (show dropT (L.take (k + 1)) E = dropT (L.take k) E by rw [HSN.out, if_neg he, List.append_nil])
              obtain ⟨p3, c3', rfl⟩ := HOWN.out.form
              go_wp2_with fail
              go_roundw
              case rel => exact ⟨k + 1, _, rfl, hlt1, by go_num, by rw [HT.out]; exact HOWN.out, HGR.out⟩
              case measure => simp [intOf]; omega
          · obtain rfl : k = M := by omega
            have hown := HOWN.out
            rw [HM.out, List.take_length] at hown
            have HLF := hid hown
            have hle : (dropT L E).length ≤ 100000 := by rw [← HD.out]; have h1 := HM5.out; have h2 : (dropT L E).length ≤ L.length := List.length_filter_le _ _; rw [← HD.out, ← HM.out] at h2; omega
            have HLE := hid hle
            obtain ⟨p3, c3', rfl⟩ := hown.form
            rw [← HD.out]
            rw [← HD.out] at HLF
            have T4 := hid (T3.out.grown HGR.out)
            have hs5 := HS.out
            clear hown hle hk
            go_wp2_with fail
            refine (tbtold_any _).mono ?_
            rintro e w4 ⟨rfl, hg⟩
            have T5 := hid (T4.out.grown hg)
            have HLF5 := hid (HLF.out.grown hg)
            clear hg T4
            go_wp2_with fail
            refine (all_any T5.out.tb HLE.out).mono ?_
            rintro e w6 ⟨v6, rfl, hown, hg⟩
            have T6 := hid (T5.out.grown hg)
            have HLF6 := hid (HLF5.out.grown hg)
            have HO6 := hid hown.reads
            clear hown hg T5 HLF5
            go_wp2_with fail
            refine (sameS_any _ _ (dropT L E) (dropT L E) _ HO6.out HLF6.out.reads (by have := HLE.out; omega) (by have := HLE.out; omega) true (decide_eq_true rfl)).mono ?_
            rintro e w7 ⟨rfl, hg⟩
            have T7 := hid (T6.out.grown hg)
            clear hg T6
            go_wp2_with fail
            refine (T7.out.drop HLE.out E 0 (drop_twice L E) (Nat.sub_self _)).mono ?_
            rintro e w8 ⟨rfl, hT, hc⟩
            have T8 := hid hT
            clear hT hc T7
            go_wp2_with fail
            go_ret
            exact ⟨by simp, T8.out.gr⟩
  · have h30' : 30 < (n : Int) := by omega
    go_enter Try.func6, Try.ntmps6
    go_wp2_with fail
    refine (Tk.new (by decide) (.refl w none)).mono ?_
    rintro e w0 ⟨rfl, hT, hg⟩
    have T0 := hid hT
    clear hT hg
    go_wp2_with fail
    refine (tbtold_any _).mono ?_
    rintro e w4 ⟨rfl, hg⟩
    have T5 := hid (T0.out.grown hg)
    clear hg T0
    go_wp2_with fail
    go_ret
    exact ⟨by simp, T5.out.gr⟩
end Go.Proofs.Ytjjcnojckbeekaa.tbdrops
