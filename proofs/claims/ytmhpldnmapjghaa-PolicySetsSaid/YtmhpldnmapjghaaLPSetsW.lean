/-
  The walk of the statement PolicySets: two that keep the same limit alike. No condition.
-/
import Derived.Test.YtmhpldnmapjghaaPoG
import Derived.BigQuiet
import Derived.Deep.QuietTactic
import Derived.Test.YtmhpldnmapjghaaHeld
import Derived.Deep.RegionHeld3
set_option linter.unusedSimpArgs false
set_option linter.unusedVariables false
namespace Go.Proofs.Ytmhpldnmapjghaa.psets
set_option maxRecDepth 100000
open Go.RowKit

set_option maxHeartbeats 6400000 in
theorem walk {w : World} (l : List Int) (p : Option Addr) (cap : Nat) (i0 : IntsAt w (.slice p l.length cap) l) (lk : List Int) (p1 : Option Addr) (c1 : Nat) (i1 : IntsAt w (.slice p1 lk.length c1) lk) (lw : List Int) (p2 : Option Addr) (c2 : Nat) (i2 : IntsAt w (.slice p2 lw.length c2) lw) :
    Calls Try.prog 3 #[.slice p l.length cap, .slice p1 lk.length c1, .slice p2 lw.length c2] w fun e w' => e = .returned (.bool true) ∧ w.grownBy w' none := by
  have nl := i1.len
  unfold maxLen at nl
  obtain ⟨n, hn⟩ : ∃ n, lk.length = n := ⟨_, rfl⟩
  rw [hn] at i1 nl ⊢
  have Hn := hid hn; have In := hid i1
  clear hn i1
  have hl := i2.len
  unfold maxLen at hl
  obtain ⟨h, hh⟩ : ∃ n, lw.length = n := ⟨_, rfl⟩
  rw [hh] at i2 hl ⊢
  have Hh := hid hh; have Ih := hid i2
  clear hh i2
  obtain ⟨m, hm⟩ : ∃ m : Nat, m = min n 15 := ⟨_, rfl⟩
  have HM := hid (show m ≤ n ∧ m ≤ 15 ∧ (m = n ∨ (m < n ∧ m = 15)) by omega)
  obtain ⟨m2, hm2⟩ : ∃ m : Nat, m = min h 10 := ⟨_, rfl⟩
  have HM2 := hid (show m2 ≤ h ∧ m2 ≤ 10 ∧ (m2 = h ∨ (m2 < h ∧ m2 = 10)) by omega)
  clear hm hm2
  go_enter Try.func3, Try.ntmps3
  go_wp2_with fail
  refine (fit_any l p cap _ i0).mono ?_
  rintro e w1 ⟨c, rfl, hF, hg⟩
  have HF := hid hF; have C0 := hid (cfx_new c hg); clear hg hF
  have HOK := hid (fine_ok HF.out)
  have fm := HF.out.min; have fx := HF.out.max
  have NP1 := hid (pnew_ok c c.min (fine_may HF.out) (in_of (Int.le_refl _) fx.1))
  have NP2 := hid (pnew_ok c c.max (fine_may HF.out) (in_of fx.1 (Int.le_refl _)))
  clear fm fx
  go_wp2_with (refine wpList_store_new (w := w1) (cs := c.cells) rfl (by kernel_rfl) (by kernel_rfl) (by kernel_rfl) rfl rfl rfl rfl rfl ?_)
  have C := hid C0.out
  generalize w1.alloc (.cells c.cells 26) = WX at *
  generalize w1.heap.size = xb at *
  clear C0
  refine wp_region_held_drew (S := (fun w' => (Cfx w xb c w'))) (by kernel_rfl) C.out.drew (fun hHeld => ?_)
  try dsimp only at hHeld
  refine' wpAnyH_take (i := 0) (v := _) rfl (by kernel_rfl) (by kernel_rfl) (by kernel_rfl) (fun _ _ _ h => h) (Or.inl ⟨by rfl, ?_⟩) hHeld ?_
  rotate_left
  · (intro w hSw; (try dsimp only at hSw); (try simp only [List.getElem_toArray, List.getElem_cons_succ, List.getElem_cons_zero]); refine exec_row (x := .tmp 7) hSw.box Try.underlying26 rfl (by kernel_rfl) ?_ ?_ <;> rfl)
  try simp only [Act.put, List.setIfInBounds_toArray, List.set_cons_zero, List.set_cons_succ, List.getElem_toArray, List.getElem_cons_succ, List.getElem_cons_zero]
  refine' wpAnyH_take (i := 1) (v := _) rfl (by kernel_rfl) (by kernel_rfl) (by kernel_rfl) (fun _ _ _ h => h) (Or.inl ⟨by rfl, ?_⟩) hHeld ?_
  rotate_left
  · (intro w hSw; (try dsimp only at hSw); go_simp; try with_reducible rfl)
  try simp only [Act.put, List.setIfInBounds_toArray, List.set_cons_zero, List.set_cons_succ, List.getElem_toArray, List.getElem_cons_succ, List.getElem_cons_zero]
  refine' wpAnyH_take (i := 2) (v := _) rfl (by kernel_rfl) (by kernel_rfl) (by kernel_rfl) (fun _ _ _ h => h) (Or.inl ⟨by rfl, ?_⟩) hHeld ?_
  rotate_left
  · (intro w hSw; (try dsimp only at hSw); have KC := hSw; have q9 := at_cell KC.box 12; go_simp; try with_reducible rfl)
  try simp only [Act.put, List.setIfInBounds_toArray, List.set_cons_zero, List.set_cons_succ, List.getElem_toArray, List.getElem_cons_succ, List.getElem_cons_zero]
  refine' wpAnyH_take (i := 4) (v := _) rfl (by kernel_rfl) (by kernel_rfl) (by kernel_rfl) (fun _ _ _ h => h) (Or.inl ⟨by rfl, ?_⟩) hHeld ?_
  rotate_left
  · (intro w hSw; (try dsimp only at hSw); (try simp only [List.getElem_toArray, List.getElem_cons_succ, List.getElem_cons_zero]); refine exec_row (x := .tmp 7) hSw.box Try.underlying26 rfl (by kernel_rfl) ?_ ?_ <;> rfl)
  try simp only [Act.put, List.setIfInBounds_toArray, List.set_cons_zero, List.set_cons_succ, List.getElem_toArray, List.getElem_cons_succ, List.getElem_cons_zero]
  refine' wpAnyH_take (i := 5) (v := _) rfl (by kernel_rfl) (by kernel_rfl) (by kernel_rfl) (fun _ _ _ h => h) (Or.inl ⟨by rfl, ?_⟩) hHeld ?_
  rotate_left
  · (intro w hSw; (try dsimp only at hSw); go_simp; try with_reducible rfl)
  try simp only [Act.put, List.setIfInBounds_toArray, List.set_cons_zero, List.set_cons_succ, List.getElem_toArray, List.getElem_cons_succ, List.getElem_cons_zero]
  refine' wpAnyH_take (i := 6) (v := _) rfl (by kernel_rfl) (by kernel_rfl) (by kernel_rfl) (fun _ _ _ h => h) (Or.inl ⟨by rfl, ?_⟩) hHeld ?_
  rotate_left
  · (intro w hSw; (try dsimp only at hSw); have KC := hSw; have q9 := at_cell KC.box 13; go_simp; try with_reducible rfl)
  try simp only [Act.put, List.setIfInBounds_toArray, List.set_cons_zero, List.set_cons_succ, List.getElem_toArray, List.getElem_cons_succ, List.getElem_cons_zero]
  refine wpAnyH_ready (rs := [3]) (by kernel_rfl) (by simp) ?_
  refine AllReadyH.cons (o := _) rfl (fun K hK => ?_) AllReadyH.nil
  try simp only [List.getElem_toArray, List.getElem_cons_succ, List.getElem_cons_zero]
  go_simp
  have hH2 := hHeld
  have KC := hH2
  refine ((NP1.out _)).mono ?_
  rintro e w1003 ⟨b1, rfl, hp, hg, hb⟩
  have K1 := hid (Pc1.start KC hp hg hb)
  have L3 := hid (show (Cfx w xb c w1003) from (KC.grown hg))
  have Nk1 := hid (show Pc1 w xb c b1 ⟨rt c, [c.min]⟩ w1003 from K1.out)
  clear hHeld hg KC
  go_wp2_with fail
  refine hK.out _ _ ?_ (fun hHeld => ?_)
  · exact L3.out
  clear hK K
  try dsimp only at hHeld
  try simp only [Act.put, List.setIfInBounds_toArray, List.set_cons_zero, List.set_cons_succ, List.getElem_toArray, List.getElem_cons_succ, List.getElem_cons_zero]
  refine held_stronger (S' := fun w' => (fun w' => Pc1 w xb c b1 ⟨rt c, [c.min]⟩ w') w' ∧ ((fun w' => (Cfx w xb c w'))) w') (fun _ h => h.2) _ _ _ _ ?_
  replace hHeld := And.intro Nk1.out hHeld
  try dsimp only at hHeld
  refine wpAnyH_ready (rs := [7]) (by kernel_rfl) (by simp) ?_
  refine AllReadyH.cons (o := _) rfl (fun K hK => ?_) AllReadyH.nil
  try simp only [List.getElem_toArray, List.getElem_cons_succ, List.getElem_cons_zero]
  go_simp
  have hH2 := hHeld
  obtain ⟨k1, KC⟩ := hH2
  refine ((NP2.out _)).mono ?_
  rintro e w1007 ⟨b2, rfl, hp, hg, hb⟩
  have K2 := hid (Pc2.start k1 hp hg hb)
  have L7 := hid (show (Pc1 w xb c b1 ⟨rt c, [c.min]⟩ w1007) ∧ (Cfx w xb c w1007) from ⟨k1.grown hg, KC.grown hg⟩)
  have Nk2 := hid (show Pc2 w xb c b1 ⟨rt c, [c.min]⟩ b2 ⟨rt c, [c.max]⟩ w1007 from K2.out)
  clear hHeld hg k1 KC
  go_wp2_with fail
  refine hK.out _ _ ?_ (fun hHeld => ?_)
  · exact L7.out
  clear hK K
  try dsimp only at hHeld
  try simp only [Act.put, List.setIfInBounds_toArray, List.set_cons_zero, List.set_cons_succ, List.getElem_toArray, List.getElem_cons_succ, List.getElem_cons_zero]
  refine held_stronger (S' := fun w' => (fun w' => Pc2 w xb c b1 ⟨rt c, [c.min]⟩ b2 ⟨rt c, [c.max]⟩ w') w' ∧ ((fun w' => (Pc1 w xb c b1 ⟨rt c, [c.min]⟩ w') ∧ (Cfx w xb c w'))) w') (fun _ h => h.2) _ _ _ _ ?_
  replace hHeld := And.intro Nk2.out hHeld
  try dsimp only at hHeld
  refine' wpAnyH_take (i := 8) (v := _) rfl (by kernel_rfl) (by kernel_rfl) (by kernel_rfl) (fun _ _ _ h => h) (Or.inl ⟨by rfl, ?_⟩) hHeld ?_
  rotate_left
  · (intro w hSw; (try dsimp only at hSw); go_simp; try with_reducible rfl)
  try simp only [Act.put, List.setIfInBounds_toArray, List.set_cons_zero, List.set_cons_succ, List.getElem_toArray, List.getElem_cons_succ, List.getElem_cons_zero]
  refine' wpAnyH_take (i := 9) (v := _) rfl (by kernel_rfl) (by kernel_rfl) (by kernel_rfl) (fun _ _ _ h => h) (Or.inl ⟨by rfl, ?_⟩) hHeld ?_
  rotate_left
  · (intro w hSw; (try dsimp only at hSw); go_simp; try with_reducible rfl)
  try simp only [Act.put, List.setIfInBounds_toArray, List.set_cons_zero, List.set_cons_succ, List.getElem_toArray, List.getElem_cons_succ, List.getElem_cons_zero]
  refine wpAnyH_done (by kernel_rfl) ?_ _
  obtain ⟨k2, k1, KC⟩ := hHeld
  have K := hid k2; clear KC k1 k2
  go_wp2_with fail
  go_loopw [10] (fun i wr => ∃ k : Nat, k ≤ m ∧ i = .int .i64 (k : Int) ∧ ∃ a : List Int, Pc2 w xb c b1 ⟨rt c, a⟩ b2 ⟨rt c, [c.max]⟩ wr) (fun i _ => m - (intOf i).toNat)
  case atStart => exact ⟨0, Nat.zero_le _, rfl, _, K.out⟩
  case round =>
    obtain ⟨k, hk, rfl, a, hK⟩ := hrel
    have TG := hid hK; clear hK
    by_cases hlt : k < m
    · have HLT := hid hlt
      have hkl : k < lk.length := by rw [Hn.out]; have := HM.out; omega
      obtain ⟨ab, ao, rfl, -, hcc, -⟩ := (In.out.grown TG.out.k1.gr).cell hkl
      have hx0 := List.getElem?_eq_getElem hkl
      generalize lk[k] = q at *
      have CM := hid (fun (W : World) (hg : w.grownBy W none) => (In.out.grown hg).cell' hx0)
      clear hx0
      have j1 : k < n := by have := HM.out; omega
      have j2 : k < 15 := by have := HM.out; omega
      have j1' : (k : Int) < (n : Int) := by omega
      clear hlt hk
      obtain ⟨d0, D, hd0, hD, hDu, hD0, hx⟩ := draw_in HF.out
      have hDn : ¬ D = 0 := by omega
      obtain ⟨z, f, hz, hzu, hzi, hf, f0, f1⟩ := hx q
      clear hx
      have IN := hid (show (⟨rt c, a⟩ : Po).in f = true from in_of (r := rt c) f0 f1)
      have EA := hid (show ((⟨rt c, a⟩ : Po).put f).2 = ⟨rt c, ((⟨rt c, a⟩ : Po).put f).2.l⟩ by rw [Po.put_yes IN.out])
      clear f0 f1
      go_wp2_with fail
      replace TG := hid TG.out.drew
      refine wp_region_held_drew (S := (fun w' => (Cfx w xb c w'))) (by kernel_rfl) TG.out.k1.cfx (fun hHeld => ?_)
      try dsimp only at hHeld
      refine' wpAnyH_take (i := 0) (v := _) rfl (by kernel_rfl) (by kernel_rfl) (by kernel_rfl) (fun _ _ _ h => h) (Or.inl ⟨by rfl, ?_⟩) hHeld ?_
      rotate_left
      · (intro w hSw; (try dsimp only at hSw); go_simp; try with_reducible rfl)
      try simp only [Act.put, List.setIfInBounds_toArray, List.set_cons_zero, List.set_cons_succ, List.getElem_toArray, List.getElem_cons_succ, List.getElem_cons_zero]
      refine' wpAnyH_take (i := 1) (v := _) rfl (by kernel_rfl) (by kernel_rfl) (by kernel_rfl) (fun _ _ _ h => h) (Or.inl ⟨by rfl, ?_⟩) hHeld ?_
      rotate_left
      · (intro w hSw; (try dsimp only at hSw); go_simp; try with_reducible rfl)
      try simp only [Act.put, List.setIfInBounds_toArray, List.set_cons_zero, List.set_cons_succ, List.getElem_toArray, List.getElem_cons_succ, List.getElem_cons_zero]
      refine' wpAnyH_take (i := 2) (v := _) rfl (by kernel_rfl) (by kernel_rfl) (by kernel_rfl) (fun _ _ _ h => h) (Or.inl ⟨by rfl, ?_⟩) hHeld ?_
      rotate_left
      · (intro w hSw; (try dsimp only at hSw); have KC := hSw; have q9 := at_cell KC.box 12; go_simp; try with_reducible rfl)
      try simp only [Act.put, List.setIfInBounds_toArray, List.set_cons_zero, List.set_cons_succ, List.getElem_toArray, List.getElem_cons_succ, List.getElem_cons_zero]
      refine' wpAnyH_take (i := 3) (v := _) rfl (by kernel_rfl) (by kernel_rfl) (by kernel_rfl) (fun _ _ _ h => h) (Or.inl ⟨by rfl, ?_⟩) hHeld ?_
      rotate_left
      · (intro w hSw; (try dsimp only at hSw); go_simp; try with_reducible rfl)
      try simp only [Act.put, List.setIfInBounds_toArray, List.set_cons_zero, List.set_cons_succ, List.getElem_toArray, List.getElem_cons_succ, List.getElem_cons_zero]
      refine' wpAnyH_take (i := 4) (v := _) rfl (by kernel_rfl) (by kernel_rfl) (by kernel_rfl) (fun _ _ _ h => h) (Or.inl ⟨by rfl, ?_⟩) hHeld ?_
      rotate_left
      · (intro w hSw; (try dsimp only at hSw); go_simp; try with_reducible rfl)
      try simp only [Act.put, List.setIfInBounds_toArray, List.set_cons_zero, List.set_cons_succ, List.getElem_toArray, List.getElem_cons_succ, List.getElem_cons_zero]
      refine' wpAnyH_take (i := 5) (v := _) rfl (by kernel_rfl) (by kernel_rfl) (by kernel_rfl) (fun _ _ _ h => h) (Or.inl ⟨by rfl, ?_⟩) hHeld ?_
      rotate_left
      · (intro w hSw; (try dsimp only at hSw); go_simp; try with_reducible rfl)
      try simp only [Act.put, List.setIfInBounds_toArray, List.set_cons_zero, List.set_cons_succ, List.getElem_toArray, List.getElem_cons_succ, List.getElem_cons_zero]
      refine' wpAnyH_take (i := 6) (v := _) rfl (by kernel_rfl) (by kernel_rfl) (by kernel_rfl) (fun _ _ _ h => h) (Or.inl ⟨by rfl, ?_⟩) hHeld ?_
      rotate_left
      · (intro w hSw; (try dsimp only at hSw); have KC := hSw; have q9 := CM.out _ KC.g; go_simp; try with_reducible rfl)
      try simp only [Act.put, List.setIfInBounds_toArray, List.set_cons_zero, List.set_cons_succ, List.getElem_toArray, List.getElem_cons_succ, List.getElem_cons_zero]
      refine' wpAnyH_take (i := 7) (v := _) rfl (by kernel_rfl) (by kernel_rfl) (by kernel_rfl) (fun _ _ _ h => h) (Or.inl ⟨by rfl, ?_⟩) hHeld ?_
      rotate_left
      · (intro w hSw; (try dsimp only at hSw); go_simp; try with_reducible rfl)
      try simp only [Act.put, List.setIfInBounds_toArray, List.set_cons_zero, List.set_cons_succ, List.getElem_toArray, List.getElem_cons_succ, List.getElem_cons_zero]
      refine' wpAnyH_take (i := 8) (v := _) rfl (by kernel_rfl) (by kernel_rfl) (by kernel_rfl) (fun _ _ _ h => h) (Or.inl ⟨by rfl, ?_⟩) hHeld ?_
      rotate_left
      · (intro w hSw; (try dsimp only at hSw); go_simp; try with_reducible rfl)
      try simp only [Act.put, List.setIfInBounds_toArray, List.set_cons_zero, List.set_cons_succ, List.getElem_toArray, List.getElem_cons_succ, List.getElem_cons_zero]
      refine' wpAnyH_take (i := 9) (v := _) rfl (by kernel_rfl) (by kernel_rfl) (by kernel_rfl) (fun _ _ _ h => h) (Or.inl ⟨by rfl, ?_⟩) hHeld ?_
      rotate_left
      · (intro w hSw; (try dsimp only at hSw); have KC := hSw; have q9 := at_cell KC.box 13; go_simp; try with_reducible rfl)
      try simp only [Act.put, List.setIfInBounds_toArray, List.set_cons_zero, List.set_cons_succ, List.getElem_toArray, List.getElem_cons_succ, List.getElem_cons_zero]
      refine' wpAnyH_take (i := 10) (v := _) rfl (by kernel_rfl) (by kernel_rfl) (by kernel_rfl) (fun _ _ _ h => h) (Or.inl ⟨by rfl, ?_⟩) hHeld ?_
      rotate_left
      · (intro w hSw; (try dsimp only at hSw); go_simp; try with_reducible rfl)
      try simp only [Act.put, List.setIfInBounds_toArray, List.set_cons_zero, List.set_cons_succ, List.getElem_toArray, List.getElem_cons_succ, List.getElem_cons_zero]
      refine' wpAnyH_take (i := 11) (v := _) rfl (by kernel_rfl) (by kernel_rfl) (by kernel_rfl) (fun _ _ _ h => h) (Or.inl ⟨by rfl, ?_⟩) hHeld ?_
      rotate_left
      · (intro w hSw; (try dsimp only at hSw); have KC := hSw; have q9 := at_cell KC.box 12; go_simp; try with_reducible rfl)
      try simp only [Act.put, List.setIfInBounds_toArray, List.set_cons_zero, List.set_cons_succ, List.getElem_toArray, List.getElem_cons_succ, List.getElem_cons_zero]
      refine' wpAnyH_take (i := 12) (v := _) rfl (by kernel_rfl) (by kernel_rfl) (by kernel_rfl) (fun _ _ _ h => h) (Or.inl ⟨by rfl, ?_⟩) hHeld ?_
      rotate_left
      · (intro w hSw; (try dsimp only at hSw); go_simp; try with_reducible rfl)
      try simp only [Act.put, List.setIfInBounds_toArray, List.set_cons_zero, List.set_cons_succ, List.getElem_toArray, List.getElem_cons_succ, List.getElem_cons_zero]
      refine' wpAnyH_take (i := 13) (v := _) rfl (by kernel_rfl) (by kernel_rfl) (by kernel_rfl) (fun _ _ _ h => h) (Or.inl ⟨by rfl, ?_⟩) hHeld ?_
      rotate_left
      · (intro w hSw; (try dsimp only at hSw); go_simp; try with_reducible rfl)
      try simp only [Act.put, List.setIfInBounds_toArray, List.set_cons_zero, List.set_cons_succ, List.getElem_toArray, List.getElem_cons_succ, List.getElem_cons_zero]
      refine' wpAnyH_take (i := 14) (v := _) rfl (by kernel_rfl) (by kernel_rfl) (by kernel_rfl) (fun _ _ _ h => h) (Or.inl ⟨by rfl, ?_⟩) hHeld ?_
      rotate_left
      · (intro w hSw; (try dsimp only at hSw); go_simp; try with_reducible rfl)
      try simp only [Act.put, List.setIfInBounds_toArray, List.set_cons_zero, List.set_cons_succ, List.getElem_toArray, List.getElem_cons_succ, List.getElem_cons_zero]
      refine' wpAnyH_take (i := 15) (v := _) rfl (by kernel_rfl) (by kernel_rfl) (by kernel_rfl) (fun _ _ _ h => h) (Or.inl ⟨by rfl, ?_⟩) hHeld ?_
      rotate_left
      · (intro w hSw; (try dsimp only at hSw); go_simp; try with_reducible rfl)
      try simp only [Act.put, List.setIfInBounds_toArray, List.set_cons_zero, List.set_cons_succ, List.getElem_toArray, List.getElem_cons_succ, List.getElem_cons_zero]
      refine' wpAnyH_take (i := 16) (v := _) rfl (by kernel_rfl) (by kernel_rfl) (by kernel_rfl) (fun _ _ _ h => h) (Or.inl ⟨by rfl, ?_⟩) hHeld ?_
      rotate_left
      · (intro w hSw; (try dsimp only at hSw); go_simp; try with_reducible rfl)
      try simp only [Act.put, List.setIfInBounds_toArray, List.set_cons_zero, List.set_cons_succ, List.getElem_toArray, List.getElem_cons_succ, List.getElem_cons_zero]
      refine' wpAnyH_take (i := 17) (v := _) rfl (by kernel_rfl) (by kernel_rfl) (by kernel_rfl) (fun _ _ _ h => h) (Or.inl ⟨by rfl, ?_⟩) hHeld ?_
      rotate_left
      · (intro w hSw; (try dsimp only at hSw); go_simp; try with_reducible rfl)
      try simp only [Act.put, List.setIfInBounds_toArray, List.set_cons_zero, List.set_cons_succ, List.getElem_toArray, List.getElem_cons_succ, List.getElem_cons_zero]
      refine wpAnyH_ready (rs := [18]) (by kernel_rfl) (by simp) ?_
      refine AllReadyH.cons (o := _) rfl (fun K hK => ?_) AllReadyH.nil
      try simp only [List.getElem_toArray, List.getElem_cons_succ, List.getElem_cons_zero]
      go_simp
      have hH2 := hHeld
      have KC := hH2
      refine ((pput_as TG.out.k1.at1 IN.out EA.out)).mono ?_
      rintro e w1018 ⟨rfl, hc, hch⟩
      replace TG := hid (TG.out.chg1 hc hch); have KC := TG.out.k1.cfx; have hg := World.grownBy.refl w1018 none; clear hc hch
      have L18 := hid (show (Cfx w xb c w1018) from (KC.grown hg))
      clear hHeld hg KC
      go_wp2_with fail
      refine hK.out _ _ ?_ (fun hHeld => ?_)
      · exact L18.out
      clear hK K
      try dsimp only at hHeld
      try simp only [Act.put, List.setIfInBounds_toArray, List.set_cons_zero, List.set_cons_succ, List.getElem_toArray, List.getElem_cons_succ, List.getElem_cons_zero]
      refine wpAnyH_done (by kernel_rfl) ?_ _
      have KC := hHeld
      clear KC
      go_wp2_with fail
      go_roundw
      case rel => exact ⟨k + 1, by have := HLT.out; omega, by go_num, _, TG.out⟩
      case measure => have := HLT.out; simp [intOf]; omega
    · obtain rfl : k = m := by omega
      clear hlt
      rcases HM.out.2.2 with e | ⟨e1, e2⟩
      · have j1 : ¬ k < n := by omega
        clear e
        clear hk
        go_wp2_with fail
        refine (palls_any TG.out.k1.at1).mono ?_
        rintro e w3 ⟨⟨v, rfl, hv⟩, hg⟩
        have V := hid hv.ints; replace TG := hid (TG.out.grown hg); clear hv hg
        go_wp2_with fail
        have hok := TG.out.k1.at1.ok
        have hms : (⟨rt c, [c.max]⟩ : Po).mayset a = true := mayset_yes (by have h1 := hok.n1; have h2 := hok.n; exact ⟨by exact_mod_cast h1, h2⟩) (by rw [List.all_eq_true]; intro x hx; exact in_of (hok.m x hx).1 (hok.m x hx).2)
        clear hok
        refine (pset_yes TG.out.k2.at1 V.out hms).mono ?_
        rintro e w4 ⟨rfl, hc', hg⟩
        clear hms
        replace TG := hid (TG.out.chg2 hc' hg); clear hc' hg V
        go_wp2_with fail
        go_loopw [11] (fun i wr => ∃ k : Nat, k ≤ m2 ∧ i = .int .i64 (k : Int) ∧ ∃ a : List Int, Pc2 w xb c b1 ⟨rt c, a⟩ b2 ⟨rt c, a⟩ wr) (fun i _ => m2 - (intOf i).toNat)
        case atStart => exact ⟨0, Nat.zero_le _, rfl, _, TG.out⟩
        case round =>
          obtain ⟨k, hk, rfl, a, hK⟩ := hrel
          have TG := hid hK; clear hK
          by_cases hlt : k < m2
          · have HLT := hid hlt
            have hkl : k < lw.length := by rw [Hh.out]; have := HM2.out; omega
            obtain ⟨ab, ao, rfl, -, hcc, -⟩ := (Ih.out.grown TG.out.k1.gr).cell hkl
            have hx0 := List.getElem?_eq_getElem hkl
            generalize lw[k] = q at *
            have CM := hid (fun (W : World) (hg : w.grownBy W none) => (Ih.out.grown hg).cell' hx0)
            clear hx0
            have j1 : k < h := by have := HM2.out; omega
            have j2 : k < 10 := by have := HM2.out; omega
            have j1' : (k : Int) < (h : Int) := by omega
            clear hlt hk
            have OA := TG.out.k1.at1.ok
            obtain ⟨o, ho⟩ : ∃ o, (⟨rt c, a⟩ : Po).lim q = o := ⟨_, rfl⟩
            have IO := hid (Po.lim_in OA q)
            rw [ho] at IO
            have HO := hid ho
            clear ho OA
            have EO := hid (show ((⟨rt c, a⟩ : Po).put o).2 = ⟨rt c, ((⟨rt c, a⟩ : Po).put o).2.l⟩ by rw [Po.put_yes IO.out])
            go_wp2_with fail
            replace TG := hid TG.out.drew
            refine wp_region_held_drew (S := (fun w' => (Cfx w xb c w'))) (by kernel_rfl) TG.out.k1.cfx (fun hHeld => ?_)
            try dsimp only at hHeld
            refine' wpAnyH_take (i := 0) (v := _) rfl (by kernel_rfl) (by kernel_rfl) (by kernel_rfl) (fun _ _ _ h => h) (Or.inl ⟨by rfl, ?_⟩) hHeld ?_
            rotate_left
            · (intro w hSw; (try dsimp only at hSw); go_simp; try with_reducible rfl)
            try simp only [Act.put, List.setIfInBounds_toArray, List.set_cons_zero, List.set_cons_succ, List.getElem_toArray, List.getElem_cons_succ, List.getElem_cons_zero]
            refine' wpAnyH_take (i := 1) (v := _) rfl (by kernel_rfl) (by kernel_rfl) (by kernel_rfl) (fun _ _ _ h => h) (Or.inl ⟨by rfl, ?_⟩) hHeld ?_
            rotate_left
            · (intro w hSw; (try dsimp only at hSw); go_simp; try with_reducible rfl)
            try simp only [Act.put, List.setIfInBounds_toArray, List.set_cons_zero, List.set_cons_succ, List.getElem_toArray, List.getElem_cons_succ, List.getElem_cons_zero]
            refine' wpAnyH_take (i := 2) (v := _) rfl (by kernel_rfl) (by kernel_rfl) (by kernel_rfl) (fun _ _ _ h => h) (Or.inl ⟨by rfl, ?_⟩) hHeld ?_
            rotate_left
            · (intro w hSw; (try dsimp only at hSw); go_simp; try with_reducible rfl)
            try simp only [Act.put, List.setIfInBounds_toArray, List.set_cons_zero, List.set_cons_succ, List.getElem_toArray, List.getElem_cons_succ, List.getElem_cons_zero]
            refine' wpAnyH_take (i := 3) (v := _) rfl (by kernel_rfl) (by kernel_rfl) (by kernel_rfl) (fun _ _ _ h => h) (Or.inl ⟨by rfl, ?_⟩) hHeld ?_
            rotate_left
            · (intro w hSw; (try dsimp only at hSw); go_simp; try with_reducible rfl)
            try simp only [Act.put, List.setIfInBounds_toArray, List.set_cons_zero, List.set_cons_succ, List.getElem_toArray, List.getElem_cons_succ, List.getElem_cons_zero]
            refine' wpAnyH_take (i := 4) (v := _) rfl (by kernel_rfl) (by kernel_rfl) (by kernel_rfl) (fun _ _ _ h => h) (Or.inl ⟨by rfl, ?_⟩) hHeld ?_
            rotate_left
            · (intro w hSw; (try dsimp only at hSw); have KC := hSw; have q9 := CM.out _ KC.g; go_simp; try with_reducible rfl)
            try simp only [Act.put, List.setIfInBounds_toArray, List.set_cons_zero, List.set_cons_succ, List.getElem_toArray, List.getElem_cons_succ, List.getElem_cons_zero]
            refine' wpAnyH_take (i := 6) (v := _) rfl (by kernel_rfl) (by kernel_rfl) (by kernel_rfl) (fun _ _ _ h => h) (Or.inl ⟨by rfl, ?_⟩) hHeld ?_
            rotate_left
            · (intro w hSw; (try dsimp only at hSw); go_simp; try with_reducible rfl)
            try simp only [Act.put, List.setIfInBounds_toArray, List.set_cons_zero, List.set_cons_succ, List.getElem_toArray, List.getElem_cons_succ, List.getElem_cons_zero]
            refine' wpAnyH_take (i := 7) (v := _) rfl (by kernel_rfl) (by kernel_rfl) (by kernel_rfl) (fun _ _ _ h => h) (Or.inl ⟨by rfl, ?_⟩) hHeld ?_
            rotate_left
            · (intro w hSw; (try dsimp only at hSw); go_simp; try with_reducible rfl)
            try simp only [Act.put, List.setIfInBounds_toArray, List.set_cons_zero, List.set_cons_succ, List.getElem_toArray, List.getElem_cons_succ, List.getElem_cons_zero]
            refine' wpAnyH_take (i := 8) (v := _) rfl (by kernel_rfl) (by kernel_rfl) (by kernel_rfl) (fun _ _ _ h => h) (Or.inl ⟨by rfl, ?_⟩) hHeld ?_
            rotate_left
            · (intro w hSw; (try dsimp only at hSw); go_simp; try with_reducible rfl)
            try simp only [Act.put, List.setIfInBounds_toArray, List.set_cons_zero, List.set_cons_succ, List.getElem_toArray, List.getElem_cons_succ, List.getElem_cons_zero]
            refine' wpAnyH_take (i := 9) (v := _) rfl (by kernel_rfl) (by kernel_rfl) (by kernel_rfl) (fun _ _ _ h => h) (Or.inl ⟨by rfl, ?_⟩) hHeld ?_
            rotate_left
            · (intro w hSw; (try dsimp only at hSw); go_simp; try with_reducible rfl)
            try simp only [Act.put, List.setIfInBounds_toArray, List.set_cons_zero, List.set_cons_succ, List.getElem_toArray, List.getElem_cons_succ, List.getElem_cons_zero]
            refine' wpAnyH_take (i := 10) (v := _) rfl (by kernel_rfl) (by kernel_rfl) (by kernel_rfl) (fun _ _ _ h => h) (Or.inl ⟨by rfl, ?_⟩) hHeld ?_
            rotate_left
            · (intro w hSw; (try dsimp only at hSw); have KC := hSw; have q9 := CM.out _ KC.g; go_simp; try with_reducible rfl)
            try simp only [Act.put, List.setIfInBounds_toArray, List.set_cons_zero, List.set_cons_succ, List.getElem_toArray, List.getElem_cons_succ, List.getElem_cons_zero]
            refine wpAnyH_ready (rs := [5]) (by kernel_rfl) (by simp) ?_
            refine AllReadyH.cons (o := _) rfl (fun K hK => ?_) AllReadyH.nil
            try simp only [List.getElem_toArray, List.getElem_cons_succ, List.getElem_cons_zero]
            go_simp
            have hH2 := hHeld
            have KC := hH2
            refine ((plim_as TG.out.k1.at1 HO.out)).mono ?_
            rintro e w1005 ⟨rfl, hg⟩
            replace TG := hid (TG.out.grown hg)
            have L5 := hid (show (Cfx w xb c w1005) from (KC.grown hg))
            clear hHeld hg KC
            go_wp2_with fail
            refine hK.out _ _ ?_ (fun hHeld => ?_)
            · exact L5.out
            clear hK K
            try dsimp only at hHeld
            try simp only [Act.put, List.setIfInBounds_toArray, List.set_cons_zero, List.set_cons_succ, List.getElem_toArray, List.getElem_cons_succ, List.getElem_cons_zero]
            refine wpAnyH_ready (rs := [11]) (by kernel_rfl) (by simp) ?_
            refine AllReadyH.cons (o := _) rfl (fun K hK => ?_) AllReadyH.nil
            try simp only [List.getElem_toArray, List.getElem_cons_succ, List.getElem_cons_zero]
            go_simp
            have hH2 := hHeld
            have KC := hH2
            refine ((plim_as TG.out.k2.at1 HO.out)).mono ?_
            rintro e w1011 ⟨rfl, hg⟩
            replace TG := hid (TG.out.grown hg)
            have L11 := hid (show (Cfx w xb c w1011) from (KC.grown hg))
            clear hHeld hg KC
            go_wp2_with fail
            refine hK.out _ _ ?_ (fun hHeld => ?_)
            · exact L11.out
            clear hK K
            try dsimp only at hHeld
            try simp only [Act.put, List.setIfInBounds_toArray, List.set_cons_zero, List.set_cons_succ, List.getElem_toArray, List.getElem_cons_succ, List.getElem_cons_zero]
            refine' wpAnyH_take (i := 12) (v := _) rfl (by kernel_rfl) (by kernel_rfl) (by kernel_rfl) (fun _ _ _ h => h) (Or.inl ⟨by rfl, ?_⟩) hHeld ?_
            rotate_left
            · (intro w hSw; (try dsimp only at hSw); go_simp; try with_reducible rfl)
            try simp only [Act.put, List.setIfInBounds_toArray, List.set_cons_zero, List.set_cons_succ, List.getElem_toArray, List.getElem_cons_succ, List.getElem_cons_zero]
            refine' wpAnyH_take (i := 13) (v := _) rfl (by kernel_rfl) (by kernel_rfl) (by kernel_rfl) (fun _ _ _ h => h) (Or.inl ⟨by rfl, ?_⟩) hHeld ?_
            rotate_left
            · (intro w hSw; (try dsimp only at hSw); go_simp; try with_reducible rfl)
            try simp only [Act.put, List.setIfInBounds_toArray, List.set_cons_zero, List.set_cons_succ, List.getElem_toArray, List.getElem_cons_succ, List.getElem_cons_zero]
            refine wpAnyH_done (by kernel_rfl) ?_ _
            have KC := hHeld
            clear KC
            have so : (o == o) = true := by simp
            go_wp2_with fail
            refine (pput_as TG.out.k1.at1 IO.out EO.out).mono ?_
            rintro e w5 ⟨rfl, hc', hg⟩
            replace TG := hid (TG.out.chg1 hc' hg); clear hc' hg
            go_wp2_with fail
            refine (pput_as TG.out.k2.at1 IO.out EO.out).mono ?_
            rintro e w6 ⟨rfl, hc', hg⟩
            replace TG := hid (TG.out.chg2 hc' hg); clear hc' hg
            obtain ⟨z, hz⟩ : ∃ z, (⟨rt c, ((⟨rt c, a⟩ : Po).put o).2.l⟩ : Po).base = z := ⟨_, rfl⟩
            have HZ := hid hz; clear hz
            go_wp2_with fail
            refine (pbase_as TG.out.k1.at1 HZ.out).mono ?_
            rintro e w7 ⟨rfl, hg⟩
            replace TG := hid (TG.out.grown hg); clear hg
            go_wp2_with fail
            refine (pbase_as TG.out.k2.at1 HZ.out).mono ?_
            rintro e w8 ⟨rfl, hg⟩
            replace TG := hid (TG.out.grown hg); clear hg
            have sz : (z == z) = true := by simp
            go_wp2_with fail
            go_roundw
            case rel => exact ⟨k + 1, by have := HLT.out; omega, by go_num, _, TG.out⟩
            case measure => have := HLT.out; simp [intOf]; omega
          · obtain rfl : k = m2 := by omega
            clear hlt
            rcases HM2.out.2.2 with e | ⟨e1, e2⟩
            · have j1 : ¬ k < h := by omega
              clear e
              clear hk
              go_wp2_with fail
              refine (told_any _).mono ?_
              rintro e w5 ⟨rfl, hg⟩
              replace TG := hid (TG.out.grown hg); clear hg
              go_wp2_with fail
              go_ret
              exact ⟨rfl, TG.out.k1.gr⟩
            · have j1 : k < h := by omega
              have j2 : ¬ k < 10 := by omega
              clear e1 e2
              clear hk
              go_wp2_with fail
              refine (told_any _).mono ?_
              rintro e w5 ⟨rfl, hg⟩
              replace TG := hid (TG.out.grown hg); clear hg
              go_wp2_with fail
              go_ret
              exact ⟨rfl, TG.out.k1.gr⟩
      · have j1 : k < n := by omega
        have j2 : ¬ k < 15 := by omega
        clear e1 e2
        clear hk
        go_wp2_with fail
        refine (palls_any TG.out.k1.at1).mono ?_
        rintro e w3 ⟨⟨v, rfl, hv⟩, hg⟩
        have V := hid hv.ints; replace TG := hid (TG.out.grown hg); clear hv hg
        go_wp2_with fail
        have hok := TG.out.k1.at1.ok
        have hms : (⟨rt c, [c.max]⟩ : Po).mayset a = true := mayset_yes (by have h1 := hok.n1; have h2 := hok.n; exact ⟨by exact_mod_cast h1, h2⟩) (by rw [List.all_eq_true]; intro x hx; exact in_of (hok.m x hx).1 (hok.m x hx).2)
        clear hok
        refine (pset_yes TG.out.k2.at1 V.out hms).mono ?_
        rintro e w4 ⟨rfl, hc', hg⟩
        clear hms
        replace TG := hid (TG.out.chg2 hc' hg); clear hc' hg V
        go_wp2_with fail
        go_loopw [11] (fun i wr => ∃ k : Nat, k ≤ m2 ∧ i = .int .i64 (k : Int) ∧ ∃ a : List Int, Pc2 w xb c b1 ⟨rt c, a⟩ b2 ⟨rt c, a⟩ wr) (fun i _ => m2 - (intOf i).toNat)
        case atStart => exact ⟨0, Nat.zero_le _, rfl, _, TG.out⟩
        case round =>
          obtain ⟨k, hk, rfl, a, hK⟩ := hrel
          have TG := hid hK; clear hK
          by_cases hlt : k < m2
          · have HLT := hid hlt
            have hkl : k < lw.length := by rw [Hh.out]; have := HM2.out; omega
            obtain ⟨ab, ao, rfl, -, hcc, -⟩ := (Ih.out.grown TG.out.k1.gr).cell hkl
            have hx0 := List.getElem?_eq_getElem hkl
            generalize lw[k] = q at *
            have CM := hid (fun (W : World) (hg : w.grownBy W none) => (Ih.out.grown hg).cell' hx0)
            clear hx0
            have j1 : k < h := by have := HM2.out; omega
            have j2 : k < 10 := by have := HM2.out; omega
            have j1' : (k : Int) < (h : Int) := by omega
            clear hlt hk
            have OA := TG.out.k1.at1.ok
            obtain ⟨o, ho⟩ : ∃ o, (⟨rt c, a⟩ : Po).lim q = o := ⟨_, rfl⟩
            have IO := hid (Po.lim_in OA q)
            rw [ho] at IO
            have HO := hid ho
            clear ho OA
            have EO := hid (show ((⟨rt c, a⟩ : Po).put o).2 = ⟨rt c, ((⟨rt c, a⟩ : Po).put o).2.l⟩ by rw [Po.put_yes IO.out])
            go_wp2_with fail
            replace TG := hid TG.out.drew
            refine wp_region_held_drew (S := (fun w' => (Cfx w xb c w'))) (by kernel_rfl) TG.out.k1.cfx (fun hHeld => ?_)
            try dsimp only at hHeld
            refine' wpAnyH_take (i := 0) (v := _) rfl (by kernel_rfl) (by kernel_rfl) (by kernel_rfl) (fun _ _ _ h => h) (Or.inl ⟨by rfl, ?_⟩) hHeld ?_
            rotate_left
            · (intro w hSw; (try dsimp only at hSw); go_simp; try with_reducible rfl)
            try simp only [Act.put, List.setIfInBounds_toArray, List.set_cons_zero, List.set_cons_succ, List.getElem_toArray, List.getElem_cons_succ, List.getElem_cons_zero]
            refine' wpAnyH_take (i := 1) (v := _) rfl (by kernel_rfl) (by kernel_rfl) (by kernel_rfl) (fun _ _ _ h => h) (Or.inl ⟨by rfl, ?_⟩) hHeld ?_
            rotate_left
            · (intro w hSw; (try dsimp only at hSw); go_simp; try with_reducible rfl)
            try simp only [Act.put, List.setIfInBounds_toArray, List.set_cons_zero, List.set_cons_succ, List.getElem_toArray, List.getElem_cons_succ, List.getElem_cons_zero]
            refine' wpAnyH_take (i := 2) (v := _) rfl (by kernel_rfl) (by kernel_rfl) (by kernel_rfl) (fun _ _ _ h => h) (Or.inl ⟨by rfl, ?_⟩) hHeld ?_
            rotate_left
            · (intro w hSw; (try dsimp only at hSw); go_simp; try with_reducible rfl)
            try simp only [Act.put, List.setIfInBounds_toArray, List.set_cons_zero, List.set_cons_succ, List.getElem_toArray, List.getElem_cons_succ, List.getElem_cons_zero]
            refine' wpAnyH_take (i := 3) (v := _) rfl (by kernel_rfl) (by kernel_rfl) (by kernel_rfl) (fun _ _ _ h => h) (Or.inl ⟨by rfl, ?_⟩) hHeld ?_
            rotate_left
            · (intro w hSw; (try dsimp only at hSw); go_simp; try with_reducible rfl)
            try simp only [Act.put, List.setIfInBounds_toArray, List.set_cons_zero, List.set_cons_succ, List.getElem_toArray, List.getElem_cons_succ, List.getElem_cons_zero]
            refine' wpAnyH_take (i := 4) (v := _) rfl (by kernel_rfl) (by kernel_rfl) (by kernel_rfl) (fun _ _ _ h => h) (Or.inl ⟨by rfl, ?_⟩) hHeld ?_
            rotate_left
            · (intro w hSw; (try dsimp only at hSw); have KC := hSw; have q9 := CM.out _ KC.g; go_simp; try with_reducible rfl)
            try simp only [Act.put, List.setIfInBounds_toArray, List.set_cons_zero, List.set_cons_succ, List.getElem_toArray, List.getElem_cons_succ, List.getElem_cons_zero]
            refine' wpAnyH_take (i := 6) (v := _) rfl (by kernel_rfl) (by kernel_rfl) (by kernel_rfl) (fun _ _ _ h => h) (Or.inl ⟨by rfl, ?_⟩) hHeld ?_
            rotate_left
            · (intro w hSw; (try dsimp only at hSw); go_simp; try with_reducible rfl)
            try simp only [Act.put, List.setIfInBounds_toArray, List.set_cons_zero, List.set_cons_succ, List.getElem_toArray, List.getElem_cons_succ, List.getElem_cons_zero]
            refine' wpAnyH_take (i := 7) (v := _) rfl (by kernel_rfl) (by kernel_rfl) (by kernel_rfl) (fun _ _ _ h => h) (Or.inl ⟨by rfl, ?_⟩) hHeld ?_
            rotate_left
            · (intro w hSw; (try dsimp only at hSw); go_simp; try with_reducible rfl)
            try simp only [Act.put, List.setIfInBounds_toArray, List.set_cons_zero, List.set_cons_succ, List.getElem_toArray, List.getElem_cons_succ, List.getElem_cons_zero]
            refine' wpAnyH_take (i := 8) (v := _) rfl (by kernel_rfl) (by kernel_rfl) (by kernel_rfl) (fun _ _ _ h => h) (Or.inl ⟨by rfl, ?_⟩) hHeld ?_
            rotate_left
            · (intro w hSw; (try dsimp only at hSw); go_simp; try with_reducible rfl)
            try simp only [Act.put, List.setIfInBounds_toArray, List.set_cons_zero, List.set_cons_succ, List.getElem_toArray, List.getElem_cons_succ, List.getElem_cons_zero]
            refine' wpAnyH_take (i := 9) (v := _) rfl (by kernel_rfl) (by kernel_rfl) (by kernel_rfl) (fun _ _ _ h => h) (Or.inl ⟨by rfl, ?_⟩) hHeld ?_
            rotate_left
            · (intro w hSw; (try dsimp only at hSw); go_simp; try with_reducible rfl)
            try simp only [Act.put, List.setIfInBounds_toArray, List.set_cons_zero, List.set_cons_succ, List.getElem_toArray, List.getElem_cons_succ, List.getElem_cons_zero]
            refine' wpAnyH_take (i := 10) (v := _) rfl (by kernel_rfl) (by kernel_rfl) (by kernel_rfl) (fun _ _ _ h => h) (Or.inl ⟨by rfl, ?_⟩) hHeld ?_
            rotate_left
            · (intro w hSw; (try dsimp only at hSw); have KC := hSw; have q9 := CM.out _ KC.g; go_simp; try with_reducible rfl)
            try simp only [Act.put, List.setIfInBounds_toArray, List.set_cons_zero, List.set_cons_succ, List.getElem_toArray, List.getElem_cons_succ, List.getElem_cons_zero]
            refine wpAnyH_ready (rs := [5]) (by kernel_rfl) (by simp) ?_
            refine AllReadyH.cons (o := _) rfl (fun K hK => ?_) AllReadyH.nil
            try simp only [List.getElem_toArray, List.getElem_cons_succ, List.getElem_cons_zero]
            go_simp
            have hH2 := hHeld
            have KC := hH2
            refine ((plim_as TG.out.k1.at1 HO.out)).mono ?_
            rintro e w1005 ⟨rfl, hg⟩
            replace TG := hid (TG.out.grown hg)
            have L5 := hid (show (Cfx w xb c w1005) from (KC.grown hg))
            clear hHeld hg KC
            go_wp2_with fail
            refine hK.out _ _ ?_ (fun hHeld => ?_)
            · exact L5.out
            clear hK K
            try dsimp only at hHeld
            try simp only [Act.put, List.setIfInBounds_toArray, List.set_cons_zero, List.set_cons_succ, List.getElem_toArray, List.getElem_cons_succ, List.getElem_cons_zero]
            refine wpAnyH_ready (rs := [11]) (by kernel_rfl) (by simp) ?_
            refine AllReadyH.cons (o := _) rfl (fun K hK => ?_) AllReadyH.nil
            try simp only [List.getElem_toArray, List.getElem_cons_succ, List.getElem_cons_zero]
            go_simp
            have hH2 := hHeld
            have KC := hH2
            refine ((plim_as TG.out.k2.at1 HO.out)).mono ?_
            rintro e w1011 ⟨rfl, hg⟩
            replace TG := hid (TG.out.grown hg)
            have L11 := hid (show (Cfx w xb c w1011) from (KC.grown hg))
            clear hHeld hg KC
            go_wp2_with fail
            refine hK.out _ _ ?_ (fun hHeld => ?_)
            · exact L11.out
            clear hK K
            try dsimp only at hHeld
            try simp only [Act.put, List.setIfInBounds_toArray, List.set_cons_zero, List.set_cons_succ, List.getElem_toArray, List.getElem_cons_succ, List.getElem_cons_zero]
            refine' wpAnyH_take (i := 12) (v := _) rfl (by kernel_rfl) (by kernel_rfl) (by kernel_rfl) (fun _ _ _ h => h) (Or.inl ⟨by rfl, ?_⟩) hHeld ?_
            rotate_left
            · (intro w hSw; (try dsimp only at hSw); go_simp; try with_reducible rfl)
            try simp only [Act.put, List.setIfInBounds_toArray, List.set_cons_zero, List.set_cons_succ, List.getElem_toArray, List.getElem_cons_succ, List.getElem_cons_zero]
            refine' wpAnyH_take (i := 13) (v := _) rfl (by kernel_rfl) (by kernel_rfl) (by kernel_rfl) (fun _ _ _ h => h) (Or.inl ⟨by rfl, ?_⟩) hHeld ?_
            rotate_left
            · (intro w hSw; (try dsimp only at hSw); go_simp; try with_reducible rfl)
            try simp only [Act.put, List.setIfInBounds_toArray, List.set_cons_zero, List.set_cons_succ, List.getElem_toArray, List.getElem_cons_succ, List.getElem_cons_zero]
            refine wpAnyH_done (by kernel_rfl) ?_ _
            have KC := hHeld
            clear KC
            have so : (o == o) = true := by simp
            go_wp2_with fail
            refine (pput_as TG.out.k1.at1 IO.out EO.out).mono ?_
            rintro e w5 ⟨rfl, hc', hg⟩
            replace TG := hid (TG.out.chg1 hc' hg); clear hc' hg
            go_wp2_with fail
            refine (pput_as TG.out.k2.at1 IO.out EO.out).mono ?_
            rintro e w6 ⟨rfl, hc', hg⟩
            replace TG := hid (TG.out.chg2 hc' hg); clear hc' hg
            obtain ⟨z, hz⟩ : ∃ z, (⟨rt c, ((⟨rt c, a⟩ : Po).put o).2.l⟩ : Po).base = z := ⟨_, rfl⟩
            have HZ := hid hz; clear hz
            go_wp2_with fail
            refine (pbase_as TG.out.k1.at1 HZ.out).mono ?_
            rintro e w7 ⟨rfl, hg⟩
            replace TG := hid (TG.out.grown hg); clear hg
            go_wp2_with fail
            refine (pbase_as TG.out.k2.at1 HZ.out).mono ?_
            rintro e w8 ⟨rfl, hg⟩
            replace TG := hid (TG.out.grown hg); clear hg
            have sz : (z == z) = true := by simp
            go_wp2_with fail
            go_roundw
            case rel => exact ⟨k + 1, by have := HLT.out; omega, by go_num, _, TG.out⟩
            case measure => have := HLT.out; simp [intOf]; omega
          · obtain rfl : k = m2 := by omega
            clear hlt
            rcases HM2.out.2.2 with e | ⟨e1, e2⟩
            · have j1 : ¬ k < h := by omega
              clear e
              clear hk
              go_wp2_with fail
              refine (told_any _).mono ?_
              rintro e w5 ⟨rfl, hg⟩
              replace TG := hid (TG.out.grown hg); clear hg
              go_wp2_with fail
              go_ret
              exact ⟨rfl, TG.out.k1.gr⟩
            · have j1 : k < h := by omega
              have j2 : ¬ k < 10 := by omega
              clear e1 e2
              clear hk
              go_wp2_with fail
              refine (told_any _).mono ?_
              rintro e w5 ⟨rfl, hg⟩
              replace TG := hid (TG.out.grown hg); clear hg
              go_wp2_with fail
              go_ret
              exact ⟨rfl, TG.out.k1.gr⟩
end Go.Proofs.Ytmhpldnmapjghaa.psets
