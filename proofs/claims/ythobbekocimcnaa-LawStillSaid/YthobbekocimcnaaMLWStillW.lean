/-
  The walk of the statement LawStill: what is refused changes nothing. No condition.
-/
import Derived.Test.YthobbekocimcnaaZ9
import Derived.Test.YthobbekocimcnaaZ2
import Derived.BigQuiet
import Derived.Deep.QuietTactic
import Derived.Deep.RegionHeld3
set_option linter.unusedSimpArgs false
set_option linter.unusedVariables false
namespace Go.Proofs.Ythobbekocimcnaa.lstill
set_option maxRecDepth 100000
open Go.RowKit

set_option maxHeartbeats 6400000 in
theorem walk {w : World} (l : List Int) (p : Option Addr) (cap : Nat) (i0 : IntsAt w (.slice p l.length cap) l) (lw : List Int) (p1 : Option Addr) (c1 : Nat) (i1 : IntsAt w (.slice p1 lw.length c1) lw) (lr : List Int) (p2 : Option Addr) (c2 : Nat) (i2 : IntsAt w (.slice p2 lr.length c2) lr) :
    Calls Try.prog 6 #[.slice p l.length cap, .slice p1 lw.length c1, .slice p2 lr.length c2] w fun e w' => e = .returned (.bool true) ∧ w.grownBy w' none := by
  have nl := i1.len
  unfold maxLen at nl
  obtain ⟨n, hn⟩ : ∃ n, lw.length = n := ⟨_, rfl⟩
  rw [hn] at i1 nl ⊢
  have Hn := hid hn; have In := hid i1
  clear hn i1
  have nrl := i2.len
  unfold maxLen at nrl
  obtain ⟨nr, hnr⟩ : ∃ n, lr.length = n := ⟨_, rfl⟩
  rw [hnr] at i2 nrl ⊢
  have Hnr := hid hnr; have Inr := hid i2
  clear hnr i2
  obtain ⟨mm, hmm⟩ : ∃ m : Nat, m = min n 20 := ⟨_, rfl⟩
  have HMM := hid (show mm ≤ n ∧ mm ≤ 20 ∧ (mm = n ∨ (mm < n ∧ mm = 20)) by omega)
  clear hmm
  go_enter Try.func6, Try.ntmps6
  go_wp2_with fail
  refine (fit_any l p cap _ i0).mono ?_
  rintro e w1 ⟨c, rfl, hF, hg⟩
  have HF := hid hF; have C0 := hid (cfx_new c hg); clear hg hF
  obtain ⟨m, u, d, hm, hu, hd, hm1, hm2, hu3, hd4, hok, -⟩ := fine_law HF.out
  have HM := hid hm; have HU := hid hu; have HD := hid hd; have HM12 := hid (And.intro hm1 hm2); have HUD := hid (And.intro hu3 hd4); have HOK := hid hok
  clear hm hu hd hm1 hm2 hu3 hd4 hok
  have hx := HF.out.max.1
  have NP1 := hid (lnew_fine HF.out HM.out HU.out HD.out HM12.out.1 HM12.out.2 HUD.out.1 HUD.out.2 (Int.le_refl _) hx (HOK.out _ (Int.le_refl _) hx))
  have NP2 := hid (lnew_fine HF.out HM.out HU.out HD.out HM12.out.1 HM12.out.2 HUD.out.1 HUD.out.2 (Int.le_refl _) hx (HOK.out _ (Int.le_refl _) hx))
  clear hx
  obtain ⟨s0, hs0⟩ : ∃ s, laOf c m u d c.min = s := ⟨_, rfl⟩
  rw [hs0] at NP1 NP2
  have HTG := hid (show s0.tg.length = m by rw [← hs0]; exact tgOf_len c (by have := HM12.out; omega))
  clear hs0 HOK HU HD HUD
  have MY := hid (cmay_any c)
  rw [fine_none HF.out, none_may] at MY
  go_wp2_with (refine wpList_store_new (w := w1) (cs := c.cells) rfl (by kernel_rfl) (by kernel_rfl) (by kernel_rfl) rfl rfl rfl rfl rfl ?_)
  generalize w1.alloc (.cells c.cells 27) = zw at *
  generalize w1.heap.size = xb at *
  have C := hid C0.out
  clear C0
  refine wp_region_held_drew (S := (fun w' => (Cfx w xb c w'))) (by kernel_rfl) C.out.drew (fun hHeld => ?_)
  try dsimp only at hHeld
  refine' wpAnyH_take (i := 0) (v := _) rfl (by kernel_rfl) (by kernel_rfl) (by kernel_rfl) (fun _ _ _ h => h) (Or.inl ⟨by rfl, ?_⟩) hHeld ?_
  rotate_left
  · (intro w hSw; (try dsimp only at hSw); (try simp only [List.getElem_toArray, List.getElem_cons_succ, List.getElem_cons_zero]); refine exec_row (x := .tmp 7) hSw.box Try.underlying27 rfl (by kernel_rfl) ?_ ?_ <;> rfl)
  try simp only [Act.put, List.setIfInBounds_toArray, List.set_cons_zero, List.set_cons_succ, List.getElem_toArray, List.getElem_cons_succ, List.getElem_cons_zero]
  refine' wpAnyH_take (i := 1) (v := _) rfl (by kernel_rfl) (by kernel_rfl) (by kernel_rfl) (fun _ _ _ h => h) (Or.inl ⟨by rfl, ?_⟩) hHeld ?_
  rotate_left
  · (intro w hSw; (try dsimp only at hSw); go_simp; try with_reducible rfl)
  try simp only [Act.put, List.setIfInBounds_toArray, List.set_cons_zero, List.set_cons_succ, List.getElem_toArray, List.getElem_cons_succ, List.getElem_cons_zero]
  refine' wpAnyH_take (i := 2) (v := _) rfl (by kernel_rfl) (by kernel_rfl) (by kernel_rfl) (fun _ _ _ h => h) (Or.inl ⟨by rfl, ?_⟩) hHeld ?_
  rotate_left
  · (intro w hSw; (try dsimp only at hSw); have KC := hSw; have q9 := at_cell KC.box 12; go_simp; try with_reducible rfl)
  try simp only [Act.put, List.setIfInBounds_toArray, List.set_cons_zero, List.set_cons_succ, List.getElem_toArray, List.getElem_cons_succ, List.getElem_cons_zero]
  refine' wpAnyH_take (i := 4) (v := _) rfl (by kernel_rfl) (by kernel_rfl) (by kernel_rfl) (fun _ _ _ h => h) (Or.inl ⟨by rfl, ?_⟩) hHeld ?_
  rotate_left
  · (intro w hSw; (try dsimp only at hSw); (try simp only [List.getElem_toArray, List.getElem_cons_succ, List.getElem_cons_zero]); refine exec_row (x := .tmp 7) hSw.box Try.underlying27 rfl (by kernel_rfl) ?_ ?_ <;> rfl)
  try simp only [Act.put, List.setIfInBounds_toArray, List.set_cons_zero, List.set_cons_succ, List.getElem_toArray, List.getElem_cons_succ, List.getElem_cons_zero]
  refine' wpAnyH_take (i := 5) (v := _) rfl (by kernel_rfl) (by kernel_rfl) (by kernel_rfl) (fun _ _ _ h => h) (Or.inl ⟨by rfl, ?_⟩) hHeld ?_
  rotate_left
  · (intro w hSw; (try dsimp only at hSw); go_simp; try with_reducible rfl)
  try simp only [Act.put, List.setIfInBounds_toArray, List.set_cons_zero, List.set_cons_succ, List.getElem_toArray, List.getElem_cons_succ, List.getElem_cons_zero]
  refine' wpAnyH_take (i := 6) (v := _) rfl (by kernel_rfl) (by kernel_rfl) (by kernel_rfl) (fun _ _ _ h => h) (Or.inl ⟨by rfl, ?_⟩) hHeld ?_
  rotate_left
  · (intro w hSw; (try dsimp only at hSw); have KC := hSw; have q9 := at_cell KC.box 12; go_simp; try with_reducible rfl)
  try simp only [Act.put, List.setIfInBounds_toArray, List.set_cons_zero, List.set_cons_succ, List.getElem_toArray, List.getElem_cons_succ, List.getElem_cons_zero]
  refine wpAnyH_ready (rs := [3]) (by kernel_rfl) (by simp) ?_
  refine AllReadyH.cons (o := _) rfl (fun K hK => ?_) AllReadyH.nil
  try simp only [List.getElem_toArray, List.getElem_cons_succ, List.getElem_cons_zero]
  go_simp
  have hH2 := hHeld
  have KC := hH2
  refine ((NP1.out _)).mono ?_
  rintro e w1003 ⟨B1, rfl, hl, hg, hb⟩
  have K1 := hid (Lk1.start KC hl hg hb)
  have L3 := hid (show (Cfx w xb c w1003) from (KC.grown hg))
  have Nk1 := hid (show Lk1 w xb c B1 s0 w1003 from K1.out)
  clear hHeld hg KC
  go_wp2_with fail
  refine hK.out _ _ ?_ (fun hHeld => ?_)
  · exact L3.out
  clear hK K
  try dsimp only at hHeld
  try simp only [Act.put, List.setIfInBounds_toArray, List.set_cons_zero, List.set_cons_succ, List.getElem_toArray, List.getElem_cons_succ, List.getElem_cons_zero]
  refine held_stronger (S' := fun w' => (fun w' => Lk1 w xb c B1 s0 w') w' ∧ ((fun w' => (Cfx w xb c w'))) w') (fun _ h => h.2) _ _ _ _ ?_
  replace hHeld := And.intro Nk1.out hHeld
  try dsimp only at hHeld
  refine wpAnyH_ready (rs := [7]) (by kernel_rfl) (by simp) ?_
  refine AllReadyH.cons (o := _) rfl (fun K hK => ?_) AllReadyH.nil
  try simp only [List.getElem_toArray, List.getElem_cons_succ, List.getElem_cons_zero]
  go_simp
  have hH2 := hHeld
  obtain ⟨k1, KC⟩ := hH2
  refine ((NP2.out _)).mono ?_
  rintro e w1007 ⟨B2, rfl, hl, hg, hb⟩
  have K2 := hid (Lk2.start k1 hl hg hb)
  have L7 := hid (show (Lk1 w xb c B1 s0 w1007) ∧ (Cfx w xb c w1007) from ⟨k1.grown hg, KC.grown hg⟩)
  have Nk2 := hid (show Lk2 w xb c B1 s0 B2 s0 w1007 from K2.out)
  clear hHeld hg k1 KC
  go_wp2_with fail
  refine hK.out _ _ ?_ (fun hHeld => ?_)
  · exact L7.out
  clear hK K
  try dsimp only at hHeld
  try simp only [Act.put, List.setIfInBounds_toArray, List.set_cons_zero, List.set_cons_succ, List.getElem_toArray, List.getElem_cons_succ, List.getElem_cons_zero]
  refine held_stronger (S' := fun w' => (fun w' => Lk2 w xb c B1 s0 B2 s0 w') w' ∧ ((fun w' => (Lk1 w xb c B1 s0 w') ∧ (Cfx w xb c w'))) w') (fun _ h => h.2) _ _ _ _ ?_
  replace hHeld := And.intro Nk2.out hHeld
  try dsimp only at hHeld
  refine' wpAnyH_take (i := 8) (v := _) rfl (by kernel_rfl) (by kernel_rfl) (by kernel_rfl) (fun _ _ _ h => h) (Or.inl ⟨by rfl, ?_⟩) hHeld ?_
  rotate_left
  · (intro w hSw; (try dsimp only at hSw); go_simp; try with_reducible rfl)
  try simp only [Act.put, List.setIfInBounds_toArray, List.set_cons_zero, List.set_cons_succ, List.getElem_toArray, List.getElem_cons_succ, List.getElem_cons_zero]
  refine' wpAnyH_take (i := 9) (v := _) rfl (by kernel_rfl) (by kernel_rfl) (by kernel_rfl) (fun _ _ _ h => h) (Or.inl ⟨by rfl, ?_⟩) hHeld ?_
  rotate_left
  · (intro w hSw; (try dsimp only at hSw); go_simp; try with_reducible rfl)
  try simp only [Act.put, List.setIfInBounds_toArray, List.set_cons_zero, List.set_cons_succ, List.getElem_toArray, List.getElem_cons_succ, List.getElem_cons_zero]
  refine wpAnyH_done (by kernel_rfl) ?_ _
  obtain ⟨k2, k1, KC⟩ := hHeld
  have K := hid k2; clear KC k1 k2
  go_wp2_with fail
  go_loopw [10] (fun i wr => ∃ k : Nat, k ≤ mm ∧ i = .int .i64 (k : Int) ∧ ∃ s : La, Lk2 w xb c B1 s B2 s wr ∧ s.tg.length = m) (fun i _ => mm - (intOf i).toNat)
  case atStart => exact ⟨0, Nat.zero_le _, rfl, _, K.out, HTG.out⟩
  case round =>
    obtain ⟨k, hk, rfl, s, hK, htg⟩ := hrel
    have K := hid hK; have HS := hid htg; clear hK htg
    by_cases hlt : k < mm
    · have HLT := hid hlt
      have hkl : k < lw.length := by rw [Hn.out]; have := HMM.out; omega
      obtain ⟨ab, ao, rfl, -, hcc, -⟩ := (In.out.grown K.out.k1.k.gr).cell hkl
      have hx0 := List.getElem?_eq_getElem hkl
      generalize lw[k] = q at *
      have CV := hid (fun (W : World) (hg : w.grownBy W none) => (In.out.grown hg).cell' hx0)
      clear hx0 hkl
      obtain ⟨x, x0, x1, mx⟩ := umod_int q 4000 (by omega)
      have mx : (IntKind.u64.wrap q).tmod 4000 = x := mx
      have cx : IntKind.i64.wrap x = x := IntWalk.i64_in _ (by omega)
      obtain ⟨y, y0, y1, my⟩ := umod_int q 3000 (by omega)
      have my : (IntKind.u64.wrap q).tmod 3000 = y := my
      have cy : IntKind.i64.wrap y = y := IntWalk.i64_in _ (by omega)
      have HXY := hid (two_in (m := m) (x := x) (y := y) (by omega) (by omega))
      have j1 : k < n := by have := HMM.out; omega
      have j2 : k < 20 := by have := HMM.out; omega
      have j1' : (k : Int) < (n : Int) := by omega
      clear hlt hk x0 x1 y0 y1
      have m2 : m ≤ 2 := HM12.out.2
      have m2' : (m : Int) ≤ 2 := by omega
      have NB := hid (show ∀ y, y ∈ B1.F ∨ y ∈ B2.F → y ≠ wr.heap.size from fun y hy => Nat.ne_of_lt (by rcases hy with h | h; exact K.out.k1.k.at1.lts y h; exact K.out.k2.k.at1.lts y h))
      go_wp2_with fail
      refine wp_region_held_drew (S := (fun w' => (Lk2 w xb c B1 s B2 s w'))) (by kernel_rfl) K.out.drew (fun hHeld => ?_)
      try dsimp only at hHeld
      refine' wpAnyH_take (i := 0) (v := _) rfl (by kernel_rfl) (by kernel_rfl) (by kernel_rfl) (fun _ _ _ h => h) (Or.inl ⟨by rfl, ?_⟩) hHeld ?_
      rotate_left
      · (intro w hSw; (try dsimp only at hSw); go_simp; try with_reducible rfl)
      try simp only [Act.put, List.setIfInBounds_toArray, List.set_cons_zero, List.set_cons_succ, List.getElem_toArray, List.getElem_cons_succ, List.getElem_cons_zero]
      refine' wpAnyH_take (i := 1) (v := _) rfl (by kernel_rfl) (by kernel_rfl) (by kernel_rfl) (fun _ _ _ h => h) (Or.inl ⟨by rfl, ?_⟩) hHeld ?_
      rotate_left
      · (intro w hSw; (try dsimp only at hSw); go_simp; try with_reducible rfl)
      try simp only [Act.put, List.setIfInBounds_toArray, List.set_cons_zero, List.set_cons_succ, List.getElem_toArray, List.getElem_cons_succ, List.getElem_cons_zero]
      refine' wpAnyH_take (i := 2) (v := _) rfl (by kernel_rfl) (by kernel_rfl) (by kernel_rfl) (fun _ _ _ h => h) (Or.inl ⟨by rfl, ?_⟩) hHeld ?_
      rotate_left
      · (intro w hSw; (try dsimp only at hSw); go_simp; try with_reducible rfl)
      try simp only [Act.put, List.setIfInBounds_toArray, List.set_cons_zero, List.set_cons_succ, List.getElem_toArray, List.getElem_cons_succ, List.getElem_cons_zero]
      refine' wpAnyH_take (i := 3) (v := _) rfl (by kernel_rfl) (by kernel_rfl) (by kernel_rfl) (fun _ _ _ h => h) (Or.inl ⟨by rfl, ?_⟩) hHeld ?_
      rotate_left
      · (intro w hSw; (try dsimp only at hSw); have kk := hSw; have q9 := CV.out _ kk.k1.k.gr; go_simp; try with_reducible rfl)
      try simp only [Act.put, List.setIfInBounds_toArray, List.set_cons_zero, List.set_cons_succ, List.getElem_toArray, List.getElem_cons_succ, List.getElem_cons_zero]
      refine' wpAnyH_take (i := 4) (v := _) rfl (by kernel_rfl) (by kernel_rfl) (by kernel_rfl) (fun _ _ _ h => h) (Or.inl ⟨by rfl, ?_⟩) hHeld ?_
      rotate_left
      · (intro w hSw; (try dsimp only at hSw); go_simp; try with_reducible rfl)
      try simp only [Act.put, List.setIfInBounds_toArray, List.set_cons_zero, List.set_cons_succ, List.getElem_toArray, List.getElem_cons_succ, List.getElem_cons_zero]
      refine' wpAnyH_take (i := 5) (v := _) rfl (by kernel_rfl) (by kernel_rfl) (by kernel_rfl) (fun _ _ _ h => h) (Or.inl ⟨by rfl, ?_⟩) hHeld ?_
      rotate_left
      · (intro w hSw; (try dsimp only at hSw); go_simp; try with_reducible rfl)
      try simp only [Act.put, List.setIfInBounds_toArray, List.set_cons_zero, List.set_cons_succ, List.getElem_toArray, List.getElem_cons_succ, List.getElem_cons_zero]
      refine' wpAnyH_take (i := 6) (v := _) rfl (by kernel_rfl) (by kernel_rfl) (by kernel_rfl) (fun _ _ _ h => h) (Or.inl ⟨by rfl, ?_⟩) hHeld ?_
      rotate_left
      · (intro w hSw; (try dsimp only at hSw); go_simp; try with_reducible rfl)
      try simp only [Act.put, List.setIfInBounds_toArray, List.set_cons_zero, List.set_cons_succ, List.getElem_toArray, List.getElem_cons_succ, List.getElem_cons_zero]
      refine' wpAnyH_take (i := 7) (v := _) rfl (by kernel_rfl) (by kernel_rfl) (by kernel_rfl) (fun _ _ _ h => h) (Or.inl ⟨by rfl, ?_⟩) hHeld ?_
      rotate_left
      · (intro w hSw; (try dsimp only at hSw); go_simp; try with_reducible rfl)
      try simp only [Act.put, List.setIfInBounds_toArray, List.set_cons_zero, List.set_cons_succ, List.getElem_toArray, List.getElem_cons_succ, List.getElem_cons_zero]
      refine' wpAnyH_take (i := 8) (v := _) rfl (by kernel_rfl) (by kernel_rfl) (by kernel_rfl) (fun _ _ _ h => h) (Or.inl ⟨by rfl, ?_⟩) hHeld ?_
      rotate_left
      · (intro w hSw; (try dsimp only at hSw); go_simp; try with_reducible rfl)
      try simp only [Act.put, List.setIfInBounds_toArray, List.set_cons_zero, List.set_cons_succ, List.getElem_toArray, List.getElem_cons_succ, List.getElem_cons_zero]
      refine' wpAnyH_take (i := 9) (v := _) rfl (by kernel_rfl) (by kernel_rfl) (by kernel_rfl) (fun _ _ _ h => h) (Or.inl ⟨by rfl, ?_⟩) hHeld ?_
      rotate_left
      · (intro w hSw; (try dsimp only at hSw); go_simp; try with_reducible rfl)
      try simp only [Act.put, List.setIfInBounds_toArray, List.set_cons_zero, List.set_cons_succ, List.getElem_toArray, List.getElem_cons_succ, List.getElem_cons_zero]
      refine' wpAnyH_take (i := 10) (v := _) rfl (by kernel_rfl) (by kernel_rfl) (by kernel_rfl) (fun _ _ _ h => h) (Or.inl ⟨by rfl, ?_⟩) hHeld ?_
      rotate_left
      · (intro w hSw; (try dsimp only at hSw); have kk := hSw; have q9 := CV.out _ kk.k1.k.gr; go_simp; try with_reducible rfl)
      try simp only [Act.put, List.setIfInBounds_toArray, List.set_cons_zero, List.set_cons_succ, List.getElem_toArray, List.getElem_cons_succ, List.getElem_cons_zero]
      refine' wpAnyH_take (i := 11) (v := _) rfl (by kernel_rfl) (by kernel_rfl) (by kernel_rfl) (fun _ _ _ h => h) (Or.inl ⟨by rfl, ?_⟩) hHeld ?_
      rotate_left
      · (intro w hSw; (try dsimp only at hSw); go_simp; try with_reducible rfl)
      try simp only [Act.put, List.setIfInBounds_toArray, List.set_cons_zero, List.set_cons_succ, List.getElem_toArray, List.getElem_cons_succ, List.getElem_cons_zero]
      refine' wpAnyH_take (i := 12) (v := _) rfl (by kernel_rfl) (by kernel_rfl) (by kernel_rfl) (fun _ _ _ h => h) (Or.inl ⟨by rfl, ?_⟩) hHeld ?_
      rotate_left
      · (intro w hSw; (try dsimp only at hSw); go_simp; try with_reducible rfl)
      try simp only [Act.put, List.setIfInBounds_toArray, List.set_cons_zero, List.set_cons_succ, List.getElem_toArray, List.getElem_cons_succ, List.getElem_cons_zero]
      refine' wpAnyH_take (i := 13) (v := _) rfl (by kernel_rfl) (by kernel_rfl) (by kernel_rfl) (fun _ _ _ h => h) (Or.inl ⟨by rfl, ?_⟩) hHeld ?_
      rotate_left
      · (intro w hSw; (try dsimp only at hSw); go_simp; try with_reducible rfl)
      try simp only [Act.put, List.setIfInBounds_toArray, List.set_cons_zero, List.set_cons_succ, List.getElem_toArray, List.getElem_cons_succ, List.getElem_cons_zero]
      refine' wpAnyH_take (i := 15) (v := _) rfl (by kernel_rfl) (by kernel_rfl) (by kernel_rfl) (fun _ _ _ h => h) (Or.inl ⟨by rfl, ?_⟩) hHeld ?_
      rotate_left
      · (intro w hSw; (try dsimp only at hSw); go_simp; try with_reducible rfl)
      try simp only [Act.put, List.setIfInBounds_toArray, List.set_cons_zero, List.set_cons_succ, List.getElem_toArray, List.getElem_cons_succ, List.getElem_cons_zero]
      refine' wpAnyH_take (i := 16) (v := _) rfl (by kernel_rfl) (by kernel_rfl) (by kernel_rfl) (fun _ _ _ h => h) (Or.inl ⟨by rfl, ?_⟩) hHeld ?_
      rotate_left
      · (intro w hSw; (try dsimp only at hSw); have kk := hSw; have k2 : w.cell? ⟨xb, 2, none⟩ = some (.int .i64 (m : Int)) := (at_cell kk.k1.box 2).trans (congrArg (fun z => some (Value.int .i64 z)) HM.out); go_simp; try with_reducible rfl)
      try simp only [Act.put, List.setIfInBounds_toArray, List.set_cons_zero, List.set_cons_succ, List.getElem_toArray, List.getElem_cons_succ, List.getElem_cons_zero]
      refine wpAnyH_ready (rs := [14]) (by kernel_rfl) (by simp) ?_
      refine AllReadyH.cons (o := _) rfl (fun K hK => ?_) AllReadyH.nil
      have hH2 := hHeld
      have kk := hH2
      have hg : wr.drew.grownBy (wr.drew.alloc (.cells #[.int .i64 x, .int .i64 y] 2)) none := World.grownBy_alloc _ _ _
      have L14 := hid (show (Lk2 w xb c B1 s B2 s ((wr.drew.alloc (.cells #[.int .i64 x, .int .i64 y] 2)))) from (kk.grown hg))
      have Niv2 := hid (show IntsAt ((wr.drew.alloc (.cells #[.int .i64 x, .int .i64 y] 2))) (.slice (some ⟨wr.heap.size, 0, none⟩) 2 2) [x, y] from lit_new _ [x, y] _ rfl 2 rfl (le_max _ (by decide)))
      clear hHeld hg kk
      try simp only [List.getElem_toArray, List.getElem_cons_succ, List.getElem_cons_zero]
      go_simp
      refine hK.out _ _ ?_ (fun hHeld => ?_)
      · exact L14.out
      clear hK K
      try dsimp only at hHeld
      try simp only [Act.put, List.setIfInBounds_toArray, List.set_cons_zero, List.set_cons_succ, List.getElem_toArray, List.getElem_cons_succ, List.getElem_cons_zero]
      refine held_stronger (S' := fun w' => (fun w' => IntsAt w' (.slice (some ⟨wr.heap.size, 0, none⟩) 2 2) [x, y]) w' ∧ ((fun w' => (Lk2 w xb c B1 s B2 s w'))) w') (fun _ h => h.2) _ _ _ _ ?_
      replace hHeld := And.intro Niv2.out hHeld
      try dsimp only at hHeld
      refine' wpAnyH_take (i := 17) (v := _) rfl (by kernel_rfl) (by kernel_rfl) (by kernel_rfl) (fun _ _ _ h => h) (Or.inl ⟨by rfl, ?_⟩) hHeld ?_
      rotate_left
      · (intro w hSw; (try dsimp only at hSw); go_simp; try with_reducible rfl)
      try simp only [Act.put, List.setIfInBounds_toArray, List.set_cons_zero, List.set_cons_succ, List.getElem_toArray, List.getElem_cons_succ, List.getElem_cons_zero]
      refine' wpAnyH_take (i := 18) (v := _) rfl (by kernel_rfl) (by kernel_rfl) (by kernel_rfl) (fun _ _ _ h => h) (Or.inl ⟨by rfl, ?_⟩) hHeld ?_
      rotate_left
      · (intro w hSw; (try dsimp only at hSw); go_simp; try with_reducible rfl)
      try simp only [Act.put, List.setIfInBounds_toArray, List.set_cons_zero, List.set_cons_succ, List.getElem_toArray, List.getElem_cons_succ, List.getElem_cons_zero]
      refine wpAnyH_done (by kernel_rfl) ?_ _
      obtain ⟨iv2, kk⟩ := hHeld
      refine exit_gen (fun wx => (Lk2 w xb c B1 s B2 s wx) ∧ IntsAt wx (.slice (some ⟨wr.heap.size, 0, none⟩) 2 2) [x, y]) ⟨kk, iv2⟩ (fun WV hKx => ?_)
      have K := hid hKx.1; have IV2 := hid hKx.2; clear hKx kk iv2
      generalize wr.heap.size = vb at *
      have HVL := hid (two_len (m := m) (x := x) (y := y) m2)
      have IV := hid (ints_slice0 IV2.out m2)
      obtain ⟨vs, hvs⟩ : ∃ l, [x, y].take m = l := ⟨_, rfl⟩
      rw [hvs] at HVL IV HXY
      clear hvs IV2
      by_cases hr : k < nr
      · have jr : k < nr := hr
        have jr' : (k : Int) < (nr : Int) := by omega
        clear hr
        have hkr : k < lr.length := by rw [Hnr.out]; exact jr
        obtain ⟨rb, ro, rfl, -, hcr, -⟩ := (Inr.out.grown K.out.k1.k.gr).cell hkr
        have hx1 := List.getElem?_eq_getElem hkr
        generalize lr[k] = r at *
        have CR := hid (fun (W : World) (hg : w.grownBy W none) => (Inr.out.grown hg).cell' hx1)
        clear hx1 hkr
        have HE := hid (OwnI.empty WV)
        have IVA := hid (IV.out.alloc (.cells #[] 2))
        have g0 := hid (gb_size (gb_alloc (.refl WV none) (.cells #[] 2)))
        have mp : (0 : Int) < (m : Int) := by have := HM12.out.1; omega
        have mp' : 0 < m := HM12.out.1
        by_cases h0 : 0 ≤ r
        rotate_left
        · go_wp2_with (refine append_ints rfl _ _ rfl WV.heap.size _ [] rfl HE.out _ vs rfl IVA.out (by rw [HVL.out]; simp; omega) g0.out ?_; intro v1 w2 hown hgrow hat; have HOWN := hid hown; have GW := hid (gb_ownI (gb_alloc (.refl WV none) _) HE.out (Nat.le_refl _) hgrow); clear hown hgrow hat; obtain ⟨g, cp, rfl, hgb⟩ := OwnI.made (show OwnI WV.heap.size w2 v1 vs from by simpa using HOWN.out) (show 0 < vs.length by rw [HVL.out]; exact mp'); have OW := hid (show OwnI WV.heap.size w2 (.slice (some ⟨g, 0, none⟩) vs.length cp) vs from by simpa using HOWN.out); clear HOWN HE IVA g0; have G2 := hid (gb_new GW.out (p := ⟨g, 0, none⟩) hgb (.int .i64 r)); have OW2 := hid (OW.out.set (j := 0) r); rw [HVL.out] at OW OW2 ⊢; obtain ⟨x9, qw⟩ := OW.out.cell0 HVL.out mp'; have fw := OW.out.free (j := 0); have qr := CR.out _ (gb_trans K.out.k1.k.gr GW.out (.inl rfl)); have qr2 := CR.out _ (gb_trans K.out.k1.k.gr G2.out (.inl rfl)); have OW3 := hid (OW2.out.grown (World.grownBy_alloc _ (.cells #[.int .i64 5] 2) none) (by simp)); have I5 := hid (show IntsAt ((w2.setCell ⟨g, 0, none⟩ (.int .i64 r)).alloc (.cells #[.int .i64 5] 2)) (.slice (some ⟨w2.heap.size, 0, none⟩) 1 1) [5] from by have h := lit_new (w2.setCell ⟨g, 0, none⟩ (.int .i64 r)) [5] _ rfl 1 rfl (le_max _ (by decide)); rwa [size_lset] at h); have G3 := hid (gb_alloc G2.out (.cells #[.int .i64 5] 2)); clear hgb)
          refine (lnext_no (La.no_set HVL.out mp' (by omega)) (K.out.grown G2.out).k1.k.at1 OW2.out.ints).mono ?_
          rintro e w3 ⟨rfl, hg⟩
          have GF := hid (gb_trans G2.out hg (.inl rfl))
          replace K := hid (K.out.grown GF.out); replace IV := hid (IV.out.grown GF.out); clear hg GF
          go_wp2_with fail
          obtain ⟨hmay, hwant⟩ := La.take K.out.k1.k.at1.ok (HVL.out.trans HS.out.symm) HXY.out
          clear hwant
          obtain ⟨va, hva⟩ : ∃ v, s.come vs = v := ⟨_, rfl⟩
          obtain ⟨vb2, hvb⟩ : ∃ v, s.want vs = v := ⟨_, rfl⟩
          obtain ⟨t, ht⟩ : ∃ v, s.next vs = v := ⟨_, rfl⟩
          have HMAY := hid hmay; have HVA := hid hva; have HVB := hid hvb; have HT := hid ht
          have HTN := hid (show t.n = va by rw [← ht]; exact hva)
          have HTT := hid (show t.tg.length = m by rw [← ht]; exact HS.out)
          clear hmay hva hvb ht
          refine (lnext_as K.out.k1.k.at1 IV.out HMAY.out HVA.out HVB.out HT.out).mono ?_
          rintro e w4 ⟨rfl, hl, hc⟩
          replace K := hid (K.out.chg1 hl hc); replace IV := hid (ints_chg IV.out hc (fun a n c e hm => by cases e; exact NB.out vb (.inl hm) rfl)); clear hl hc
          go_wp2_with fail
          refine (lnext_as K.out.k2.k.at1 IV.out HMAY.out HVA.out HVB.out HT.out).mono ?_
          rintro e w5 ⟨rfl, hl, hc⟩
          replace K := hid (K.out.chg2 hl hc); clear hl hc
          have sa : (va == va) = true := by simp
          have sb : (vb2 == vb2) = true := by simp
          go_wp2_with fail
          refine (lcount_as K.out.k1.k.at1 HTN.out).mono ?_
          rintro e w6 ⟨rfl, rfl⟩
          go_wp2_with fail
          refine (lcount_as K.out.k2.k.at1 HTN.out).mono ?_
          rintro e w7 ⟨rfl, rfl⟩
          go_wp2_with fail
          go_roundw
          case rel => exact ⟨k + 1, by have := HLT.out; omega, by go_num, _, K.out, HTT.out⟩
          case measure => have := HLT.out; simp [intOf]; omega
        by_cases h1 : r ≤ 1099511627776
        rotate_left
        · go_wp2_with (refine append_ints rfl _ _ rfl WV.heap.size _ [] rfl HE.out _ vs rfl IVA.out (by rw [HVL.out]; simp; omega) g0.out ?_; intro v1 w2 hown hgrow hat; have HOWN := hid hown; have GW := hid (gb_ownI (gb_alloc (.refl WV none) _) HE.out (Nat.le_refl _) hgrow); clear hown hgrow hat; obtain ⟨g, cp, rfl, hgb⟩ := OwnI.made (show OwnI WV.heap.size w2 v1 vs from by simpa using HOWN.out) (show 0 < vs.length by rw [HVL.out]; exact mp'); have OW := hid (show OwnI WV.heap.size w2 (.slice (some ⟨g, 0, none⟩) vs.length cp) vs from by simpa using HOWN.out); clear HOWN HE IVA g0; have G2 := hid (gb_new GW.out (p := ⟨g, 0, none⟩) hgb (.int .i64 r)); have OW2 := hid (OW.out.set (j := 0) r); rw [HVL.out] at OW OW2 ⊢; obtain ⟨x9, qw⟩ := OW.out.cell0 HVL.out mp'; have fw := OW.out.free (j := 0); have qr := CR.out _ (gb_trans K.out.k1.k.gr GW.out (.inl rfl)); have qr2 := CR.out _ (gb_trans K.out.k1.k.gr G2.out (.inl rfl)); have OW3 := hid (OW2.out.grown (World.grownBy_alloc _ (.cells #[.int .i64 5] 2) none) (by simp)); have I5 := hid (show IntsAt ((w2.setCell ⟨g, 0, none⟩ (.int .i64 r)).alloc (.cells #[.int .i64 5] 2)) (.slice (some ⟨w2.heap.size, 0, none⟩) 1 1) [5] from by have h := lit_new (w2.setCell ⟨g, 0, none⟩ (.int .i64 r)) [5] _ rfl 1 rfl (le_max _ (by decide)); rwa [size_lset] at h); have G3 := hid (gb_alloc G2.out (.cells #[.int .i64 5] 2)); clear hgb)
          refine (lnext_no (La.no_set HVL.out mp' (by omega)) (K.out.grown G2.out).k1.k.at1 OW2.out.ints).mono ?_
          rintro e w3 ⟨rfl, hg⟩
          have GF := hid (gb_trans G2.out hg (.inl rfl))
          replace K := hid (K.out.grown GF.out); replace IV := hid (IV.out.grown GF.out); clear hg GF
          go_wp2_with fail
          obtain ⟨hmay, hwant⟩ := La.take K.out.k1.k.at1.ok (HVL.out.trans HS.out.symm) HXY.out
          clear hwant
          obtain ⟨va, hva⟩ : ∃ v, s.come vs = v := ⟨_, rfl⟩
          obtain ⟨vb2, hvb⟩ : ∃ v, s.want vs = v := ⟨_, rfl⟩
          obtain ⟨t, ht⟩ : ∃ v, s.next vs = v := ⟨_, rfl⟩
          have HMAY := hid hmay; have HVA := hid hva; have HVB := hid hvb; have HT := hid ht
          have HTN := hid (show t.n = va by rw [← ht]; exact hva)
          have HTT := hid (show t.tg.length = m by rw [← ht]; exact HS.out)
          clear hmay hva hvb ht
          refine (lnext_as K.out.k1.k.at1 IV.out HMAY.out HVA.out HVB.out HT.out).mono ?_
          rintro e w4 ⟨rfl, hl, hc⟩
          replace K := hid (K.out.chg1 hl hc); replace IV := hid (ints_chg IV.out hc (fun a n c e hm => by cases e; exact NB.out vb (.inl hm) rfl)); clear hl hc
          go_wp2_with fail
          refine (lnext_as K.out.k2.k.at1 IV.out HMAY.out HVA.out HVB.out HT.out).mono ?_
          rintro e w5 ⟨rfl, hl, hc⟩
          replace K := hid (K.out.chg2 hl hc); clear hl hc
          have sa : (va == va) = true := by simp
          have sb : (vb2 == vb2) = true := by simp
          go_wp2_with fail
          refine (lcount_as K.out.k1.k.at1 HTN.out).mono ?_
          rintro e w6 ⟨rfl, rfl⟩
          go_wp2_with fail
          refine (lcount_as K.out.k2.k.at1 HTN.out).mono ?_
          rintro e w7 ⟨rfl, rfl⟩
          go_wp2_with fail
          go_roundw
          case rel => exact ⟨k + 1, by have := HLT.out; omega, by go_num, _, K.out, HTT.out⟩
          case measure => have := HLT.out; simp [intOf]; omega
        go_wp2_with (first | (refine append_ints rfl _ _ rfl WV.heap.size _ [] rfl HE.out _ vs rfl IVA.out (by rw [HVL.out]; simp; omega) g0.out ?_; intro v1 w2 hown hgrow hat; have HOWN := hid hown; have GW := hid (gb_ownI (gb_alloc (.refl WV none) _) HE.out (Nat.le_refl _) hgrow); clear hown hgrow hat; obtain ⟨g, cp, rfl, hgb⟩ := OwnI.made (show OwnI WV.heap.size w2 v1 vs from by simpa using HOWN.out) (show 0 < vs.length by rw [HVL.out]; exact mp'); have OW := hid (show OwnI WV.heap.size w2 (.slice (some ⟨g, 0, none⟩) vs.length cp) vs from by simpa using HOWN.out); clear HOWN HE IVA g0; have G2 := hid (gb_new GW.out (p := ⟨g, 0, none⟩) hgb (.int .i64 r)); have OW2 := hid (OW.out.set (j := 0) r); rw [HVL.out] at OW OW2 ⊢; obtain ⟨x9, qw⟩ := OW.out.cell0 HVL.out mp'; have fw := OW.out.free (j := 0); have qr := CR.out _ (gb_trans K.out.k1.k.gr GW.out (.inl rfl)); have qr2 := CR.out _ (gb_trans K.out.k1.k.gr G2.out (.inl rfl)); have OW3 := hid (OW2.out.grown (World.grownBy_alloc _ (.cells #[.int .i64 5] 2) none) (by simp)); have I5 := hid (show IntsAt ((w2.setCell ⟨g, 0, none⟩ (.int .i64 r)).alloc (.cells #[.int .i64 5] 2)) (.slice (some ⟨w2.heap.size, 0, none⟩) 1 1) [5] from by have h := lit_new (w2.setCell ⟨g, 0, none⟩ (.int .i64 r)) [5] _ rfl 1 rfl (le_max _ (by decide)); rwa [size_lset] at h); have G3 := hid (gb_alloc G2.out (.cells #[.int .i64 5] 2)); clear hgb) | (refine append_ints rfl _ _ rfl WV.heap.size _ (vs.set 0 r) rfl OW3.out _ [5] rfl I5.out (by rw [List.length_set, HVL.out]; simp; omega) (gb_size G3.out) ?_; intro v4 w4 hown hgrow hat; have OW4 := hid hown; have G4 := hid (gb_ownI G3.out OW3.out (Nat.le_refl _) hgrow); clear hown hgrow hat))
        refine (lnext_no (La.no_len (by rw [List.length_append, List.length_set, HVL.out, HS.out]; simp)) (K.out.grown G4.out).k1.k.at1 OW4.out.ints).mono ?_
        rintro e w3 ⟨rfl, hg⟩
        have GF := hid (gb_trans G4.out hg (.inl rfl))
        replace K := hid (K.out.grown GF.out); replace IV := hid (IV.out.grown GF.out); clear hg GF
        go_wp2_with fail
        obtain ⟨hmay, hwant⟩ := La.take K.out.k1.k.at1.ok (HVL.out.trans HS.out.symm) HXY.out
        clear hwant
        obtain ⟨va, hva⟩ : ∃ v, s.come vs = v := ⟨_, rfl⟩
        obtain ⟨vb2, hvb⟩ : ∃ v, s.want vs = v := ⟨_, rfl⟩
        obtain ⟨t, ht⟩ : ∃ v, s.next vs = v := ⟨_, rfl⟩
        have HMAY := hid hmay; have HVA := hid hva; have HVB := hid hvb; have HT := hid ht
        have HTN := hid (show t.n = va by rw [← ht]; exact hva)
        have HTT := hid (show t.tg.length = m by rw [← ht]; exact HS.out)
        clear hmay hva hvb ht
        refine (lnext_as K.out.k1.k.at1 IV.out HMAY.out HVA.out HVB.out HT.out).mono ?_
        rintro e w4 ⟨rfl, hl, hc⟩
        replace K := hid (K.out.chg1 hl hc); replace IV := hid (ints_chg IV.out hc (fun a n c e hm => by cases e; exact NB.out vb (.inl hm) rfl)); clear hl hc
        go_wp2_with fail
        refine (lnext_as K.out.k2.k.at1 IV.out HMAY.out HVA.out HVB.out HT.out).mono ?_
        rintro e w5 ⟨rfl, hl, hc⟩
        replace K := hid (K.out.chg2 hl hc); clear hl hc
        have sa : (va == va) = true := by simp
        have sb : (vb2 == vb2) = true := by simp
        go_wp2_with fail
        refine (lcount_as K.out.k1.k.at1 HTN.out).mono ?_
        rintro e w6 ⟨rfl, rfl⟩
        go_wp2_with fail
        refine (lcount_as K.out.k2.k.at1 HTN.out).mono ?_
        rintro e w7 ⟨rfl, rfl⟩
        go_wp2_with fail
        go_roundw
        case rel => exact ⟨k + 1, by have := HLT.out; omega, by go_num, _, K.out, HTT.out⟩
        case measure => have := HLT.out; simp [intOf]; omega
      · have jr : ¬ k < nr := hr
        have jr' : ¬ (k : Int) < (nr : Int) := by omega
        clear hr
        go_wp2_with fail
        obtain ⟨hmay, hwant⟩ := La.take K.out.k1.k.at1.ok (HVL.out.trans HS.out.symm) HXY.out
        clear hwant
        obtain ⟨va, hva⟩ : ∃ v, s.come vs = v := ⟨_, rfl⟩
        obtain ⟨vb2, hvb⟩ : ∃ v, s.want vs = v := ⟨_, rfl⟩
        obtain ⟨t, ht⟩ : ∃ v, s.next vs = v := ⟨_, rfl⟩
        have HMAY := hid hmay; have HVA := hid hva; have HVB := hid hvb; have HT := hid ht
        have HTN := hid (show t.n = va by rw [← ht]; exact hva)
        have HTT := hid (show t.tg.length = m by rw [← ht]; exact HS.out)
        clear hmay hva hvb ht
        refine (lnext_as K.out.k1.k.at1 IV.out HMAY.out HVA.out HVB.out HT.out).mono ?_
        rintro e w4 ⟨rfl, hl, hc⟩
        replace K := hid (K.out.chg1 hl hc); replace IV := hid (ints_chg IV.out hc (fun a n c e hm => by cases e; exact NB.out vb (.inl hm) rfl)); clear hl hc
        go_wp2_with fail
        refine (lnext_as K.out.k2.k.at1 IV.out HMAY.out HVA.out HVB.out HT.out).mono ?_
        rintro e w5 ⟨rfl, hl, hc⟩
        replace K := hid (K.out.chg2 hl hc); clear hl hc
        have sa : (va == va) = true := by simp
        have sb : (vb2 == vb2) = true := by simp
        go_wp2_with fail
        refine (lcount_as K.out.k1.k.at1 HTN.out).mono ?_
        rintro e w6 ⟨rfl, rfl⟩
        go_wp2_with fail
        refine (lcount_as K.out.k2.k.at1 HTN.out).mono ?_
        rintro e w7 ⟨rfl, rfl⟩
        go_wp2_with fail
        go_roundw
        case rel => exact ⟨k + 1, by have := HLT.out; omega, by go_num, _, K.out, HTT.out⟩
        case measure => have := HLT.out; simp [intOf]; omega
    · obtain rfl : k = mm := by omega
      clear hlt
      rcases HMM.out.2.2 with e | ⟨e1, e2⟩
      · have j1 : ¬ k < n := by omega
        clear e
        clear hk
        go_wp2_with fail
        refine (ltold_any _).mono ?_
        rintro e w5 ⟨rfl, hg⟩
        replace K := hid (K.out.grown hg); clear hg
        go_wp2_with (refine wpList_row_w K.out.k1.box Try.underlying27 rfl (by kernel_rfl) (by rfl) rfl rfl rfl ?_)
        refine (MY.out _).mono ?_
        rintro e w6 ⟨rfl, hg⟩
        replace K := hid (K.out.grown hg); clear hg
        go_wp2_with fail
        go_ret
        exact ⟨rfl, K.out.k1.k.gr⟩
      · have j1 : k < n := by omega
        have j2 : ¬ k < 20 := by omega
        clear e1 e2
        clear hk
        go_wp2_with fail
        refine (ltold_any _).mono ?_
        rintro e w5 ⟨rfl, hg⟩
        replace K := hid (K.out.grown hg); clear hg
        go_wp2_with (refine wpList_row_w K.out.k1.box Try.underlying27 rfl (by kernel_rfl) (by rfl) rfl rfl rfl ?_)
        refine (MY.out _).mono ?_
        rintro e w6 ⟨rfl, hg⟩
        replace K := hid (K.out.grown hg); clear hg
        go_wp2_with fail
        go_ret
        exact ⟨rfl, K.out.k1.k.gr⟩
end Go.Proofs.Ythobbekocimcnaa.lstill
