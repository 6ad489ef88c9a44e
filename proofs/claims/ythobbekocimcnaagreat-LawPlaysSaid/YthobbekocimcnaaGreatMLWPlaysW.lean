/-
  The walk of the statement LawPlays: counts and wants are what the document says. No condition.
-/
import Derived.Test.YthobbekocimcnaaGreatZ10
import Derived.Test.YthobbekocimcnaaGreatZ2
import Derived.Deep.CutRange
import Derived.Deep.CutBlock
import Derived.BigQuiet
import Derived.Deep.QuietTactic
import Derived.Deep.RegionHeld3
import Derived.Test.YthobbekocimcnaaGreatZ13
set_option linter.unusedSimpArgs false
set_option linter.unusedVariables false
namespace Go.Proofs.YthobbekocimcnaaGreat.lplays
set_option maxRecDepth 100000
open Go.RowKit

theorem OneAt.at' {w : World} {ab ao c n : Nat} {g : Nat → Value} (h : OneAt w (.slice (some ⟨ab, ao, none⟩) n c) n g) {j : Nat} (hj : j < n) : w.cell? ⟨ab, ao + j, none⟩ = some (g j) := by
  obtain ⟨ab', ao', e, h2⟩ := h.cell hj
  cases e; exact h2 j hj
theorem OwnI.take {base : Nat} {w : World} {g n c j : Nat} {l : List Int} (h : OwnI base w (.slice (some ⟨g, 0, none⟩) n c) l) (hn : n = l.length) (hj : j ≤ n) : OwnI base w (.slice (some ⟨g, 0, none⟩) j c) (l.take j) := by
  obtain ⟨h0, h | ⟨g', cap, cur, e, hb, hh, h1, h2, h3, h4⟩⟩ := h
  · cases h.1
  · cases e
    have hl : (l.take j).length = j := by rw [List.length_take]; omega
    refine ⟨by simp, .inr ⟨g, c, cur, by rw [hl], hb, hh, by rw [hl]; omega, h2, h3, ?_⟩⟩
    rw [hl, Nat.mul_one]
    rw [Nat.mul_one] at h4
    have : (cur.toList.take l.length).take j = (l.map iv).take j := by rw [h4]
    rw [List.take_take, Nat.min_eq_left (by omega)] at this
    rw [this, List.map_take]
section
variable {w : World} {B : LBl} {s : La}
theorem lcount_g (H : LaAt w B s) : Calls Tryz.prog 12 #[.pointer (some ⟨B.b, 0, none⟩)] w fun e w' => e = .returned (.int .i64 s.n) ∧ w.grownBy w' none :=
  (lcount_any H).mono fun e w' ⟨h1, h2⟩ => ⟨h1, h2 ▸ .refl w none⟩
theorem lcalm_g (H : LaAt w B s) : Calls Tryz.prog 13 #[.pointer (some ⟨B.b, 0, none⟩)] w fun e w' => e = .returned (.pointer (some ⟨B.c, 0, none⟩)) ∧ w.grownBy w' none :=
  (lcalm_any H).mono fun e w' ⟨h1, h2⟩ => ⟨h1, h2 ▸ .refl w none⟩
theorem lpolicy_g (H : LaAt w B s) : Calls Tryz.prog 14 #[.pointer (some ⟨B.b, 0, none⟩)] w fun e w' => e = .returned (.pointer (some ⟨B.p, 0, none⟩)) ∧ w.grownBy w' none :=
  (lpolicy_any H).mono fun e w' ⟨h1, h2⟩ => ⟨h1, h2 ▸ .refl w none⟩
end
set_option maxHeartbeats 12800000 in
theorem walk {w : World} (l : List Int) (p : Option Addr) (cap : Nat) (i0 : IntsAt w (.slice p l.length cap) l) (x : Int) (lw : List Int) (p2 : Option Addr) (c2 : Nat) (i2 : IntsAt w (.slice p2 lw.length c2) lw) (fh : Nat → Bool) (lh : Nat) (ph : Option Addr) (ch : Nat) (ih : OneAt w (.slice ph lh ch) lh (fun i => .bool (fh i))) :
    Calls Tryz.prog 3 #[.slice p l.length cap, .int .i64 x, .slice p2 lw.length c2, .slice ph lh ch] w fun e w' => e = .returned (.bool true) ∧ w.grownBy w' none := by
  have nl := i2.len
  unfold maxLen at nl
  obtain ⟨n, hn⟩ : ∃ n, lw.length = n := ⟨_, rfl⟩
  rw [hn] at i2 nl ⊢
  have Hn := hid hn; have In := hid i2
  clear hn i2
  have lhl := ih.len
  unfold maxLen at lhl
  have IH := hid ih; clear ih
  go_enter Tryz.func3, Tryz.ntmps3
  go_wp2_with fail
  refine (fit_any l p cap _ i0).mono ?_
  rintro e w1 ⟨c, rfl, hF, hg⟩
  have HF := hid hF; have C0 := hid (cfx_new c hg); clear hg hF
  obtain ⟨m, u, d, hm, hu, hd, hm1, hm2, hu3, hd4, hok, -⟩ := fine_law HF.out
  have HM := hid hm; have HU := hid hu; have HD := hid hd; have HM12 := hid (And.intro hm1 hm2); have HUD := hid (And.intro hu3 hd4); have HOK := hid hok
  clear hm hu hd hm1 hm2 hu3 hd4 hok
  obtain ⟨d0, D, hd0, hD, hDu, hD0, hx⟩ := draw_in HF.out
  obtain ⟨z, f, hz, hzu, hzi, hf, f0, f1⟩ := hx x
  clear hx
  have hbx := C0.out.box
  have c9 := at_cell hbx 12; have c10 := at_cell hbx 13
  clear hbx
  go_wp2_with (refine wpList_store_new (w := w1) (cs := c.cells) rfl (by kernel_rfl) (by kernel_rfl) (by kernel_rfl) rfl rfl rfl rfl rfl ?_)
  go_quiet (fail)
  refine exit_gen (fun wx => Cfx w w1.heap.size c wx) (C0.out.grown ⟨rfl, rfl, rfl, Nat.le_refl _, fun _ _ _ => rfl⟩) (fun wx hKx => ?_)
  have C := hid hKx
  clear hKx C0 c9 c10 hd0 hD hDu hD0 hz hzu hzi hf
  generalize w1.heap.size = xb at *
  have NP1 := hid (lnew_fine HF.out HM.out HU.out HD.out HM12.out.1 HM12.out.2 HUD.out.1 HUD.out.2 f0 f1 (HOK.out _ f0 f1))
  have NP2 := hid (fun F W hF => lrnew_fine HF.out HM.out HU.out HD.out HM12.out.1 HM12.out.2 HUD.out.1 HUD.out.2 f0 f1 (HOK.out _ f0 f1) F W hF)
  have HLF := hid (lof_new c m u d f)
  obtain ⟨s0, hs0⟩ : ∃ s, laOf c m u d f = s := ⟨_, rfl⟩
  rw [hs0] at NP1 NP2 HLF
  clear hs0 HOK HU HD HUD f0 f1
  go_wp2_with fail
  generalize wx = zw at *
  refine wp_region_held_drew (S := (fun w' => (Cfx w xb c w'))) (by kernel_rfl) C.out.drew (fun hHeld => ?_)
  try dsimp only at hHeld
  refine' wpAnyH_take (i := 0) (v := _) rfl (by kernel_rfl) (by kernel_rfl) (by kernel_rfl) (fun _ _ _ h => h) (Or.inl ⟨by rfl, ?_⟩) hHeld ?_
  rotate_left
  · (intro w hSw; (try dsimp only at hSw); (try simp only [List.getElem_toArray, List.getElem_cons_succ, List.getElem_cons_zero]); refine exec_row (x := .tmp 9) hSw.box Tryz.underlying28 rfl (by kernel_rfl) ?_ ?_ <;> rfl)
  try simp only [Act.put, List.setIfInBounds_toArray, List.set_cons_zero, List.set_cons_succ, List.getElem_toArray, List.getElem_cons_succ, List.getElem_cons_zero]
  refine' wpAnyH_take (i := 1) (v := _) rfl (by kernel_rfl) (by kernel_rfl) (by kernel_rfl) (fun _ _ _ h => h) (Or.inl ⟨by rfl, ?_⟩) hHeld ?_
  rotate_left
  · (intro w hSw; (try dsimp only at hSw); go_simp; try with_reducible rfl)
  try simp only [Act.put, List.setIfInBounds_toArray, List.set_cons_zero, List.set_cons_succ, List.getElem_toArray, List.getElem_cons_succ, List.getElem_cons_zero]
  refine' wpAnyH_take (i := 3) (v := _) rfl (by kernel_rfl) (by kernel_rfl) (by kernel_rfl) (fun _ _ _ h => h) (Or.inl ⟨by rfl, ?_⟩) hHeld ?_
  rotate_left
  · (intro w hSw; (try dsimp only at hSw); (try simp only [List.getElem_toArray, List.getElem_cons_succ, List.getElem_cons_zero]); refine exec_row (x := .tmp 9) hSw.box Tryz.underlying28 rfl (by kernel_rfl) ?_ ?_ <;> rfl)
  try simp only [Act.put, List.setIfInBounds_toArray, List.set_cons_zero, List.set_cons_succ, List.getElem_toArray, List.getElem_cons_succ, List.getElem_cons_zero]
  refine' wpAnyH_take (i := 4) (v := _) rfl (by kernel_rfl) (by kernel_rfl) (by kernel_rfl) (fun _ _ _ h => h) (Or.inl ⟨by rfl, ?_⟩) hHeld ?_
  rotate_left
  · (intro w hSw; (try dsimp only at hSw); go_simp; try with_reducible rfl)
  try simp only [Act.put, List.setIfInBounds_toArray, List.set_cons_zero, List.set_cons_succ, List.getElem_toArray, List.getElem_cons_succ, List.getElem_cons_zero]
  refine wpAnyH_ready (rs := [2]) (by kernel_rfl) (by simp) ?_
  refine AllReadyH.cons (o := _) rfl (fun K hK => ?_) AllReadyH.nil
  try simp only [List.getElem_toArray, List.getElem_cons_succ, List.getElem_cons_zero]
  go_simp
  have hH2 := hHeld
  have KC := hH2
  refine ((NP1.out _)).mono ?_
  rintro e w1002 ⟨B1, rfl, hl, hg, hb⟩
  have K1 := hid (Lk1.start KC hl hg hb)
  have L2 := hid (show (Cfx w xb c w1002) from (KC.grown hg))
  have Nk1 := hid (show Lk1 w xb c B1 s0 w1002 from K1.out)
  clear hHeld hg KC
  go_wp2_with fail
  refine hK.out _ _ ?_ (fun hHeld => ?_)
  · exact L2.out
  clear hK K
  try dsimp only at hHeld
  try simp only [Act.put, List.setIfInBounds_toArray, List.set_cons_zero, List.set_cons_succ, List.getElem_toArray, List.getElem_cons_succ, List.getElem_cons_zero]
  refine held_stronger (S' := fun w' => (fun w' => Lk1 w xb c B1 s0 w') w' ∧ ((fun w' => (Cfx w xb c w'))) w') (fun _ h => h.2) _ _ _ _ ?_
  replace hHeld := And.intro Nk1.out hHeld
  try dsimp only at hHeld
  refine wpAnyH_ready (rs := [5]) (by kernel_rfl) (by simp) ?_
  refine AllReadyH.cons (o := _) rfl (fun K hK => ?_) AllReadyH.nil
  try simp only [List.getElem_toArray, List.getElem_cons_succ, List.getElem_cons_zero]
  go_simp
  have hH2 := hHeld
  obtain ⟨k1, KC⟩ := hH2
  refine ((NP2.out _ _ k1.ltx)).mono ?_
  rintro e w1005 ⟨R1, rfl, hl, hg, hb⟩
  have K2 := hid (Lp.start k1 hl hg hb)
  have L5 := hid (show (Lk1 w xb c B1 s0 w1005) ∧ (Cfx w xb c w1005) from ⟨k1.grown hg, KC.grown hg⟩)
  have Nk2 := hid (show Lp w xb c m B1 s0 R1 s0 w1005 from K2.out)
  clear hHeld hg k1 KC
  go_wp2_with fail
  refine hK.out _ _ ?_ (fun hHeld => ?_)
  · exact L5.out
  clear hK K
  try dsimp only at hHeld
  try simp only [Act.put, List.setIfInBounds_toArray, List.set_cons_zero, List.set_cons_succ, List.getElem_toArray, List.getElem_cons_succ, List.getElem_cons_zero]
  refine held_stronger (S' := fun w' => (fun w' => Lp w xb c m B1 s0 R1 s0 w') w' ∧ ((fun w' => (Lk1 w xb c B1 s0 w') ∧ (Cfx w xb c w'))) w') (fun _ h => h.2) _ _ _ _ ?_
  replace hHeld := And.intro Nk2.out hHeld
  try dsimp only at hHeld
  refine' wpAnyH_take (i := 6) (v := _) rfl (by kernel_rfl) (by kernel_rfl) (by kernel_rfl) (fun _ _ _ h => h) (Or.inl ⟨by rfl, ?_⟩) hHeld ?_
  rotate_left
  · (intro w hSw; (try dsimp only at hSw); go_simp; try with_reducible rfl)
  try simp only [Act.put, List.setIfInBounds_toArray, List.set_cons_zero, List.set_cons_succ, List.getElem_toArray, List.getElem_cons_succ, List.getElem_cons_zero]
  refine' wpAnyH_take (i := 7) (v := _) rfl (by kernel_rfl) (by kernel_rfl) (by kernel_rfl) (fun _ _ _ h => h) (Or.inl ⟨by rfl, ?_⟩) hHeld ?_
  rotate_left
  · (intro w hSw; (try dsimp only at hSw); go_simp; try with_reducible rfl)
  try simp only [Act.put, List.setIfInBounds_toArray, List.set_cons_zero, List.set_cons_succ, List.getElem_toArray, List.getElem_cons_succ, List.getElem_cons_zero]
  refine wpAnyH_done (by kernel_rfl) ?_ _
  obtain ⟨k2, k1, KC⟩ := hHeld
  have K := hid k2; clear KC k1 k2
  by_cases h80 : 80 < n
  · have i80 : (80 : Int) < (n : Int) := by omega
    clear h80
    go_wp2_with fail
    refine (ltold_any _).mono ?_
    rintro e w5 ⟨rfl, hg⟩
    replace K := hid (K.out.grown hg); clear hg
    go_wp2_with fail
    go_ret
    exact ⟨rfl, K.out.k1.k.gr⟩
  have i80 : ¬ (80 : Int) < (n : Int) := by omega
  have H80 := hid h80
  go_wp2_with fail
  clear i80
  go_loopw [13] (fun i wr => ∃ k : Nat, k ≤ n ∧ i = .int .i64 (k : Int) ∧ ∃ s : La, Lp w xb c m B1 s R1 s wr ∧ Lof c m s) (fun i _ => n - (intOf i).toNat)
  case atStart => exact ⟨0, Nat.zero_le _, rfl, _, K.out, HLF.out⟩
  case round =>
    obtain ⟨k, hk, rfl, s, hK, hlf⟩ := hrel
    have K := hid hK; have LF := hid hlf; clear hK hlf
    by_cases hlt : k < n
    · have HLT := hid hlt
      obtain ⟨WZ, hWZ⟩ : ∃ x, x = wr := ⟨_, rfl⟩
      subst hWZ
      have hkl : k < lw.length := by rw [Hn.out]; exact hlt
      obtain ⟨ab, ao, rfl, -, hcc, -⟩ := (In.out.grown K.out.k1.k.gr).cell hkl
      have hx0 := List.getElem?_eq_getElem hkl
      generalize lw[k] = q0 at hx0
      have CV0 := hid (fun (W : World) (hg : w.grownBy W none) => (In.out.grown hg).cell' hx0)
      clear hx0 hkl
      obtain ⟨k1, hk1⟩ : ∃ x : Nat, x = k + 1 := ⟨_, rfl⟩
      have e1 : IntKind.i64.wrap ((k : Int) + 1) = (k1 : Int) := by rw [IntWalk.i64_in _ (by omega)]; omega
      obtain ⟨r, hr⟩ : ∃ x : Nat, x = k1 % n := ⟨_, rfl⟩
      have hrn : r < n := by rw [hr]; exact Nat.mod_lt _ (by omega)
      have e2 : (k1 : Int) % (n : Int) = (r : Int) := by rw [hr]; exact (Int.natCast_emod k1 n).symm
      have e2' : (k1 : Int).tmod (n : Int) = (r : Int) := by rw [Int.tmod_eq_emod_of_nonneg (by omega)]; exact e2
      have hkr : r < lw.length := by rw [Hn.out]; exact hrn
      have hx1 := List.getElem?_eq_getElem hkr
      generalize lw[r] = q1 at hx1
      have CV1 := hid (fun (W : World) (hg : w.grownBy W none) => (In.out.grown hg).cell' hx1)
      clear hx1 hkr hr hk1
      have n0 : ¬ (n : Int) = 0 := by omega
      have n0' : ¬ n = 0 := by omega
      have n1 : (1 : Int) ≤ (n : Int) := by omega
      have rn' : (r : Int) < (n : Int) := by omega
      have j1 : k < n := hlt
      have j1' : (k : Int) < (n : Int) := by omega
      have k80 : (k : Int) ≤ 80 := by omega
      have m2 : m ≤ 2 := HM12.out.2
      have m2' : (m : Int) ≤ 2 := by omega
      clear hlt hk
      go_wp2_with fail
      have KZ := hid K.out
      refine wp_region_held_drew (S := (fun w' => (Lk1 w xb c B1 s w') ∧ (WZ.grownBy w' none))) (by kernel_rfl) ⟨K.out.k1.drew, gb_drew (.refl WZ none)⟩ (fun hHeld => ?_)
      try dsimp only at hHeld
      refine' wpAnyH_take (i := 0) (v := _) rfl (by kernel_rfl) (by kernel_rfl) (by kernel_rfl) (fun _ _ _ h => h) (Or.inl ⟨by rfl, ?_⟩) hHeld ?_
      rotate_left
      · (intro w hSw; (try dsimp only at hSw); go_simp; try with_reducible rfl)
      try simp only [Act.put, List.setIfInBounds_toArray, List.set_cons_zero, List.set_cons_succ, List.getElem_toArray, List.getElem_cons_succ, List.getElem_cons_zero]
      refine' wpAnyH_take (i := 1) (v := _) rfl (by kernel_rfl) (by kernel_rfl) (by kernel_rfl) (fun _ _ _ h => h) (Or.inl ⟨by rfl, ?_⟩) hHeld ?_
      rotate_left
      · (intro w hSw; (try dsimp only at hSw); go_simp; try with_reducible rfl)
      try simp only [Act.put, List.setIfInBounds_toArray, List.set_cons_zero, List.set_cons_succ, List.getElem_toArray, List.getElem_cons_succ, List.getElem_cons_zero]
      refine' wpAnyH_take (i := 2) (v := _) rfl (by kernel_rfl) (by kernel_rfl) (by kernel_rfl) (fun _ _ _ h => h) (Or.inl ⟨by rfl, ?_⟩) hHeld ?_
      rotate_left
      · (intro w hSw; (try dsimp only at hSw); go_simp; try with_reducible rfl)
      try simp only [Act.put, List.setIfInBounds_toArray, List.set_cons_zero, List.set_cons_succ, List.getElem_toArray, List.getElem_cons_succ, List.getElem_cons_zero]
      refine' wpAnyH_take (i := 3) (v := _) rfl (by kernel_rfl) (by kernel_rfl) (by kernel_rfl) (fun _ _ _ h => h) (Or.inl ⟨by rfl, ?_⟩) hHeld ?_
      rotate_left
      · (intro w hSw; (try dsimp only at hSw); obtain ⟨kk, kg⟩ := hSw; have q9 := CV0.out _ kk.k.gr; go_simp; try with_reducible rfl)
      try simp only [Act.put, List.setIfInBounds_toArray, List.set_cons_zero, List.set_cons_succ, List.getElem_toArray, List.getElem_cons_succ, List.getElem_cons_zero]
      refine' wpAnyH_take (i := 4) (v := _) rfl (by kernel_rfl) (by kernel_rfl) (by kernel_rfl) (fun _ _ _ h => h) (Or.inl ⟨by rfl, ?_⟩) hHeld ?_
      rotate_left
      · (intro w hSw; (try dsimp only at hSw); go_simp; try with_reducible rfl)
      try simp only [Act.put, List.setIfInBounds_toArray, List.set_cons_zero, List.set_cons_succ, List.getElem_toArray, List.getElem_cons_succ, List.getElem_cons_zero]
      refine' wpAnyH_take (i := 5) (v := _) rfl (by kernel_rfl) (by kernel_rfl) (by kernel_rfl) (fun _ _ _ h => h) (Or.inl ⟨by rfl, ?_⟩) hHeld ?_
      rotate_left
      · (intro w hSw; (try dsimp only at hSw); go_simp; try with_reducible rfl)
      try simp only [Act.put, List.setIfInBounds_toArray, List.set_cons_zero, List.set_cons_succ, List.getElem_toArray, List.getElem_cons_succ, List.getElem_cons_zero]
      refine' wpAnyH_take (i := 6) (v := _) rfl (by kernel_rfl) (by kernel_rfl) (by kernel_rfl) (fun _ _ _ h => h) (Or.inl ⟨by rfl, ?_⟩) hHeld ?_
      rotate_left
      · (intro w hSw; (try dsimp only at hSw); go_simp; try with_reducible rfl)
      try simp only [Act.put, List.setIfInBounds_toArray, List.set_cons_zero, List.set_cons_succ, List.getElem_toArray, List.getElem_cons_succ, List.getElem_cons_zero]
      refine' wpAnyH_take (i := 7) (v := _) rfl (by kernel_rfl) (by kernel_rfl) (by kernel_rfl) (fun _ _ _ h => h) (Or.inl ⟨by rfl, ?_⟩) hHeld ?_
      rotate_left
      · (intro w hSw; (try dsimp only at hSw); go_simp; try with_reducible rfl)
      try simp only [Act.put, List.setIfInBounds_toArray, List.set_cons_zero, List.set_cons_succ, List.getElem_toArray, List.getElem_cons_succ, List.getElem_cons_zero]
      refine' wpAnyH_take (i := 8) (v := _) rfl (by kernel_rfl) (by kernel_rfl) (by kernel_rfl) (fun _ _ _ h => h) (Or.inl ⟨by rfl, ?_⟩) hHeld ?_
      rotate_left
      · (intro w hSw; (try dsimp only at hSw); go_simp; try with_reducible rfl)
      try simp only [Act.put, List.setIfInBounds_toArray, List.set_cons_zero, List.set_cons_succ, List.getElem_toArray, List.getElem_cons_succ, List.getElem_cons_zero]
      refine' wpAnyH_take (i := 9) (v := _) rfl (by kernel_rfl) (by kernel_rfl) (by kernel_rfl) (fun _ _ _ h => h) (Or.inl ⟨by rfl, ?_⟩) hHeld ?_
      rotate_left
      · (intro w hSw; (try dsimp only at hSw); go_simp; try with_reducible rfl)
      try simp only [Act.put, List.setIfInBounds_toArray, List.set_cons_zero, List.set_cons_succ, List.getElem_toArray, List.getElem_cons_succ, List.getElem_cons_zero]
      refine' wpAnyH_take (i := 10) (v := _) rfl (by kernel_rfl) (by kernel_rfl) (by kernel_rfl) (fun _ _ _ h => h) (Or.inl ⟨by rfl, ?_⟩) hHeld ?_
      rotate_left
      · (intro w hSw; (try dsimp only at hSw); go_simp; try with_reducible rfl)
      try simp only [Act.put, List.setIfInBounds_toArray, List.set_cons_zero, List.set_cons_succ, List.getElem_toArray, List.getElem_cons_succ, List.getElem_cons_zero]
      refine' wpAnyH_take (i := 11) (v := _) rfl (by kernel_rfl) (by kernel_rfl) (by kernel_rfl) (fun _ _ _ h => h) (Or.inl ⟨by rfl, ?_⟩) hHeld ?_
      rotate_left
      · (intro w hSw; (try dsimp only at hSw); obtain ⟨kk, kg⟩ := hSw; have q9 := CV1.out _ kk.k.gr; go_simp; try with_reducible rfl)
      try simp only [Act.put, List.setIfInBounds_toArray, List.set_cons_zero, List.set_cons_succ, List.getElem_toArray, List.getElem_cons_succ, List.getElem_cons_zero]
      refine' wpAnyH_take (i := 13) (v := _) rfl (by kernel_rfl) (by kernel_rfl) (by kernel_rfl) (fun _ _ _ h => h) (Or.inl ⟨by rfl, ?_⟩) hHeld ?_
      rotate_left
      · (intro w hSw; (try dsimp only at hSw); go_simp; try with_reducible rfl)
      try simp only [Act.put, List.setIfInBounds_toArray, List.set_cons_zero, List.set_cons_succ, List.getElem_toArray, List.getElem_cons_succ, List.getElem_cons_zero]
      refine' wpAnyH_take (i := 14) (v := _) rfl (by kernel_rfl) (by kernel_rfl) (by kernel_rfl) (fun _ _ _ h => h) (Or.inl ⟨by rfl, ?_⟩) hHeld ?_
      rotate_left
      · (intro w hSw; (try dsimp only at hSw); obtain ⟨kk, kg⟩ := hSw; have k2 : w.cell? ⟨xb, 2, none⟩ = some (.int .i64 (m : Int)) := (at_cell kk.box 2).trans (congrArg (fun z => some (Value.int .i64 z)) HM.out); go_simp; try with_reducible rfl)
      try simp only [Act.put, List.setIfInBounds_toArray, List.set_cons_zero, List.set_cons_succ, List.getElem_toArray, List.getElem_cons_succ, List.getElem_cons_zero]
      refine wpAnyH_ready (rs := [12]) (by kernel_rfl) (by simp) ?_
      refine AllReadyH.cons (o := _) rfl (fun K hK => ?_) AllReadyH.nil
      have hH2 := hHeld
      obtain ⟨kk, kg⟩ := hH2
      have hg : WZ.drew.grownBy (WZ.drew.alloc (.cells #[.int .i64 q0, .int .i64 q1] 2)) none := World.grownBy_alloc _ _ _
      have L12 := hid (show (Lk1 w xb c B1 s ((WZ.drew.alloc (.cells #[.int .i64 q0, .int .i64 q1] 2)))) ∧ (WZ.grownBy ((WZ.drew.alloc (.cells #[.int .i64 q0, .int .i64 q1] 2))) none) from ⟨kk.grown hg, gb_trans kg hg (.inl rfl)⟩)
      have Nov := hid (show OwnI WZ.heap.size ((WZ.drew.alloc (.cells #[.int .i64 q0, .int .i64 q1] 2))) (.slice (some ⟨WZ.heap.size, 0, none⟩) 2 2) [q0, q1] from own_ints [q0, q1] (at_new _ _) (le_max _ (by simp)) (Nat.le_refl _))
      clear hHeld hg kk kg
      try simp only [List.getElem_toArray, List.getElem_cons_succ, List.getElem_cons_zero]
      go_simp
      refine hK.out _ _ ?_ (fun hHeld => ?_)
      · exact L12.out
      clear hK K
      try dsimp only at hHeld
      try simp only [Act.put, List.setIfInBounds_toArray, List.set_cons_zero, List.set_cons_succ, List.getElem_toArray, List.getElem_cons_succ, List.getElem_cons_zero]
      refine held_stronger (S' := fun w' => (fun w' => OwnI WZ.heap.size w' (.slice (some ⟨WZ.heap.size, 0, none⟩) 2 2) [q0, q1]) w' ∧ ((fun w' => (Lk1 w xb c B1 s w') ∧ (WZ.grownBy w' none))) w') (fun _ h => h.2) _ _ _ _ ?_
      replace hHeld := And.intro Nov.out hHeld
      try dsimp only at hHeld
      refine' wpAnyH_take (i := 15) (v := _) rfl (by kernel_rfl) (by kernel_rfl) (by kernel_rfl) (fun _ _ _ h => h) (Or.inl ⟨by rfl, ?_⟩) hHeld ?_
      rotate_left
      · (intro w hSw; (try dsimp only at hSw); go_simp; try with_reducible rfl)
      try simp only [Act.put, List.setIfInBounds_toArray, List.set_cons_zero, List.set_cons_succ, List.getElem_toArray, List.getElem_cons_succ, List.getElem_cons_zero]
      refine' wpAnyH_take (i := 16) (v := _) rfl (by kernel_rfl) (by kernel_rfl) (by kernel_rfl) (fun _ _ _ h => h) (Or.inl ⟨by rfl, ?_⟩) hHeld ?_
      rotate_left
      · (intro w hSw; (try dsimp only at hSw); go_simp; try with_reducible rfl)
      try simp only [Act.put, List.setIfInBounds_toArray, List.set_cons_zero, List.set_cons_succ, List.getElem_toArray, List.getElem_cons_succ, List.getElem_cons_zero]
      refine wpAnyH_done (by kernel_rfl) ?_ _
      obtain ⟨ov, kk, kg⟩ := hHeld
      refine exit_gen (fun wx => WZ.grownBy wx none ∧ OwnI WZ.heap.size wx (.slice (some ⟨WZ.heap.size, 0, none⟩) 2 2) [q0, q1]) ⟨kg, ov⟩ (fun WV hKx => ?_)
      have GV := hid hKx.1; have OV2 := hid hKx.2
      clear hKx kk kg ov
      have OV := hid (OwnI.take OV2.out rfl m2)
      have hlen := two_len (m := m) (x := q0) (y := q1) m2
      obtain ⟨L0, hL0⟩ : ∃ l, [q0, q1].take m = l := ⟨_, rfl⟩
      rw [hL0] at OV hlen
      have HL0 := hid hlen
      clear hL0 hlen OV2 CV0 CV1 e1 e2 e2' n0 n0' n1 rn' hrn m2 m2'
      obtain ⟨vb, hvb⟩ : ∃ b, WZ.heap.size = b := ⟨_, rfl⟩
      rw [hvb] at OV ⊢
      have HVB := hid hvb; clear hvb
      obtain ⟨b3, hb3⟩ : ∃ b, decide (0 < (k : Int) % 3) = b := ⟨_, rfl⟩
      go_upto_if 84 with fail
      clear hb3
      go_cut [15] from 60 to 187 (fun v15 wx => ∃ L : List Int, L.length = m ∧ OwnI vb wx (.slice (some ⟨vb, 0, none⟩) m 2) L ∧ WZ.grownBy wx none)
      case first =>
        cases b3 with
        | false =>
          go_wp2_with fail
          go_meet
          exact ⟨_, HL0.out, OV.out, GV.out⟩
        | true =>
          go_wp2_with fail
          go_loopw [15] (fun j wr => ∃ (jj : Nat) (L : List Int), jj ≤ m ∧ j = .int .i64 (jj : Int) ∧ L.length = m ∧ OwnI vb wr (.slice (some ⟨vb, 0, none⟩) m 2) L ∧ WZ.grownBy wr none) (fun j _ => m - (intOf j).toNat)
          case atStart => exact ⟨0, _, Nat.zero_le _, rfl, HL0.out, OV.out, GV.out⟩
          case round =>
            obtain ⟨jj, L, hj, rfl, hL, hown, hgr⟩ := hrel
            have HL := hid hL; have OW := hid hown; have GR := hid hgr; clear hL hown hgr
            by_cases hjt : jj < m
            · have HJT := hid hjt
              have hjl : jj < L.length := by rw [HL.out]; exact hjt
              obtain ⟨ab', ao', e', -, -, hcell⟩ := OW.out.ints.cell hjl
              cases e'
              generalize L[jj] = z at hcell
              rw [Nat.zero_add] at hcell
              have hfz := OW.out.free (j := jj)
              obtain ⟨Z, Z0, Z1, mZ⟩ := umod_int z 4000 (by omega)
              have mZ : (IntKind.u64.wrap z).tmod 4000 = Z := mZ
              have cZ : IntKind.i64.wrap Z = Z := IntWalk.i64_in _ (by omega)
              have OW2 := hid (OW.out.set (j := jj) Z)
              have GR2 := hid (gb_new GR.out (p := ⟨vb, jj, none⟩) (Nat.le_of_eq HVB.out) (.int .i64 Z))
              have HL2 := hid (show (L.set jj Z).length = m by rw [List.length_set]; exact HL.out)
              have i1 : (jj : Int) < (m : Int) := by omega
              have jb : (jj : Int) ≤ 4 := by have := HM12.out.2; omega
              clear Z0 Z1 hj hjl
              go_wp2_with fail
              go_roundw
              case rel => exact ⟨jj + 1, _, by have := HJT.out; omega, by go_num, HL2.out, OW2.out, GR2.out⟩
              case measure => have := HJT.out; simp [intOf]; omega
            · obtain rfl : jj = m := by omega
              clear hj hjt
              go_wp2_with fail
              go_meet
              exact ⟨L, HL.out, OW.out, GR.out⟩
      case rest =>
        obtain ⟨L, hL, hown, hg⟩ := hcut
        have HL := hid hL; have OW := hid hown.ints; have K2 := hid (K.out.grown hg)
        clear hL hown hg OV HL0 GV K
        go_upto_region 15 with fail
        go_cut [110] from 60 to 187 (fun b wx => (∃ bb : Bool, b = .bool bb) ∧ wx = wc)
        case first =>
          by_cases hh : k < lh
          · have jh' : (k : Int) < (lh : Int) := by omega
            obtain ⟨hb, ho, rfl, -⟩ := (IH.out.grown K2.out.k1.k.gr).cell hh
            have qh := OneAt.at' (IH.out.grown K2.out.k1.k.gr) hh
            generalize fh k = bh at qh
            go_wp2_with fail
            go_meet
            exact ⟨⟨_, rfl⟩, rfl⟩
          · have jh' : ¬ (k : Int) < (lh : Int) := by omega
            go_wp2_with fail
            go_meet
            exact ⟨⟨_, rfl⟩, rfl⟩
        case rest =>
          obtain ⟨⟨bb, rfl⟩, rfl⟩ := hcut
          go_upto_if 110 with fail
          go_cut [16, 17, 18, 19, 20, 21] from 60 to 187 (fun _ _ _ _ _ _ wx => ∃ t : La, Lp w xb c m B1 t R1 t wx ∧ Lof c m t)
          case first =>
            cases bb with
            | true =>
              obtain ⟨y, hy⟩ : ∃ v, s.n = v := ⟨_, rfl⟩
              have HY := hid hy; clear hy
              have sy : (y == y) = true := by simp
              have HLF2 := hid (LF.out.hold K2.out.k1.k.at1.ok)
              obtain ⟨t, ht⟩ : ∃ t, s.hold = t := ⟨_, rfl⟩
              have HT := hid ht
              rw [ht] at HLF2
              clear ht
              go_wp2_with fail
              refine (lhold_as K2.out.k1.k.at1 HY.out HT.out).mono ?_
              rintro e w3 ⟨rfl, hl, hc⟩
              have K3 := hid (K2.out.chg1 hl hc); clear hl hc
              go_wp2_with fail
              refine (lrhold_as K3.out.k2 HY.out HT.out).mono ?_
              rintro e w4 ⟨rfl, hl, hc⟩
              have K4 := hid (K3.out.chg2 hl hc); clear hl hc
              go_wp2_with fail
              go_meet
              exact ⟨t, K4.out, HLF2.out⟩
            | false =>
              cases hmy : s.may L with
              | true =>
                have HMY := hid hmy; clear hmy
                obtain ⟨y, hy⟩ : ∃ v, s.come L = v := ⟨_, rfl⟩
                obtain ⟨z, hz⟩ : ∃ v, s.want L = v := ⟨_, rfl⟩
                obtain ⟨t, ht⟩ : ∃ t, s.next L = t := ⟨_, rfl⟩
                have HLF2 := hid (LF.out.next K2.out.k1.k.at1.ok L)
                rw [ht] at HLF2
                have HY := hid hy; have HZ := hid hz; have HT := hid ht; clear hy hz ht
                have sy : (y == y) = true := by simp
                have sz : (z == z) = true := by simp
                have NB := hid (show vb ∉ B1.F from fun hm => Nat.lt_irrefl _ (Nat.lt_of_lt_of_le (KZ.out.k1.k.at1.lts vb hm) (Nat.le_of_eq HVB.out)))
                go_wp2_with fail
                refine (lnext_as K2.out.k1.k.at1 OW.out HMY.out HY.out HZ.out HT.out).mono ?_
                rintro e w3 ⟨rfl, hl, hc⟩
                have K3 := hid (K2.out.chg1 hl hc); replace OW := hid (ints_chg OW.out hc (fun a n c e hm => by cases e; exact NB.out hm)); clear hl hc
                go_wp2_with fail
                refine (lrnext_as K3.out.k2 OW.out HMY.out HY.out HZ.out HT.out).mono ?_
                rintro e w4 ⟨rfl, hl, hc⟩
                have K4 := hid (K3.out.chg2 hl hc); clear hl hc
                go_wp2_with fail
                go_meet
                exact ⟨t, K4.out, HLF2.out⟩
              | false =>
                have HMY := hid hmy; clear hmy
                go_wp2_with fail
                refine (lnext_no HMY.out K2.out.k1.k.at1 OW.out).mono ?_
                rintro e w3 ⟨rfl, hg⟩
                have K3 := hid (K2.out.grown hg); replace OW := hid (OW.out.grown hg); clear hg
                go_wp2_with fail
                refine (lrnext_no HMY.out K3.out.k2 OW.out).mono ?_
                rintro e w4 ⟨rfl, hg⟩
                have K4 := hid (K3.out.grown hg); clear hg
                go_wp2_with fail
                go_meet
                exact ⟨s, K4.out, LF.out⟩
          case rest =>
            obtain ⟨t, hK, hlg⟩ := hcut
            have LG := hid hlg; clear hlg K2
            go_wp2_with fail
            have TG := hid hK.drew; clear hK
            obtain ⟨pc, kc, hrowc, hic, -⟩ := TG.out.k2.ca.row
            obtain ⟨pp, kp, hrowp, hip, -⟩ := TG.out.k2.po.row
            have CC0 := at_cell hrowc 2; have PC0 := at_cell hrowp 26
            have IC := hid hic; have IP := hid hip
            clear hrowc hrowp hic hip
            refine wp_region_held_drew (S := (fun w' => (w'.heap[R1.b]? = some (.cells (lrCells c R1.c R1.r t.n) 42)) ∧ (w'.cell? ⟨R1.c, 2, none⟩ = some (.slice pc t.ca.l.length kc)) ∧ (w'.cell? ⟨R1.r, 26, none⟩ = some (.slice pp t.po.l.length kp)))) (by kernel_rfl) ⟨TG.out.k2.row, CC0, PC0⟩ (fun hHeld => ?_)
            try dsimp only at hHeld
            refine' wpAnyH_take (i := 0) (v := _) rfl (by kernel_rfl) (by kernel_rfl) (by kernel_rfl) (fun _ _ _ h => h) (Or.inl ⟨by rfl, ?_⟩) hHeld ?_
            rotate_left
            · (intro w hSw; (try dsimp only at hSw); go_simp; try with_reducible rfl)
            try simp only [Act.put, List.setIfInBounds_toArray, List.set_cons_zero, List.set_cons_succ, List.getElem_toArray, List.getElem_cons_succ, List.getElem_cons_zero]
            refine' wpAnyH_take (i := 2) (v := _) rfl (by kernel_rfl) (by kernel_rfl) (by kernel_rfl) (fun _ _ _ h => h) (Or.inl ⟨by rfl, ?_⟩) hHeld ?_
            rotate_left
            · (intro w hSw; (try dsimp only at hSw); go_simp; try with_reducible rfl)
            try simp only [Act.put, List.setIfInBounds_toArray, List.set_cons_zero, List.set_cons_succ, List.getElem_toArray, List.getElem_cons_succ, List.getElem_cons_zero]
            refine' wpAnyH_take (i := 3) (v := _) rfl (by kernel_rfl) (by kernel_rfl) (by kernel_rfl) (fun _ _ _ h => h) (Or.inl ⟨by rfl, ?_⟩) hHeld ?_
            rotate_left
            · (intro w hSw; (try dsimp only at hSw); go_simp; try with_reducible rfl)
            try simp only [Act.put, List.setIfInBounds_toArray, List.set_cons_zero, List.set_cons_succ, List.getElem_toArray, List.getElem_cons_succ, List.getElem_cons_zero]
            refine' wpAnyH_take (i := 4) (v := _) rfl (by kernel_rfl) (by kernel_rfl) (by kernel_rfl) (fun _ _ _ h => h) (Or.inl ⟨by rfl, ?_⟩) hHeld ?_
            rotate_left
            · (intro w hSw; (try dsimp only at hSw); go_simp; try with_reducible rfl)
            try simp only [Act.put, List.setIfInBounds_toArray, List.set_cons_zero, List.set_cons_succ, List.getElem_toArray, List.getElem_cons_succ, List.getElem_cons_zero]
            refine' wpAnyH_take (i := 5) (v := _) rfl (by kernel_rfl) (by kernel_rfl) (by kernel_rfl) (fun _ _ _ h => h) (Or.inl ⟨by rfl, ?_⟩) hHeld ?_
            rotate_left
            · (intro w hSw; (try dsimp only at hSw); obtain ⟨RW, CC, PC⟩ := hSw; have k28 := at_cell RW 28; go_simp; try with_reducible rfl)
            try simp only [Act.put, List.setIfInBounds_toArray, List.set_cons_zero, List.set_cons_succ, List.getElem_toArray, List.getElem_cons_succ, List.getElem_cons_zero]
            refine wpAnyH_ready (rs := [1]) (by kernel_rfl) (by simp) ?_
            refine AllReadyH.cons (o := _) rfl (fun K hK => ?_) AllReadyH.nil
            try simp only [List.getElem_toArray, List.getElem_cons_succ, List.getElem_cons_zero]
            go_simp
            have hH2 := hHeld
            obtain ⟨RW, CC, PC⟩ := hH2
            refine ((lcount_g TG.out.k1.k.at1)).mono ?_
            rintro e w1001 ⟨rfl, hg⟩
            replace TG := hid (TG.out.grown hg); replace IC := hid (IC.out.grown hg); replace IP := hid (IP.out.grown hg)
            have L1 := hid (show (w1001.heap[R1.b]? = some (.cells (lrCells c R1.c R1.r t.n) 42)) ∧ (w1001.cell? ⟨R1.c, 2, none⟩ = some (.slice pc t.ca.l.length kc)) ∧ (w1001.cell? ⟨R1.r, 26, none⟩ = some (.slice pp t.po.l.length kp)) from ⟨at_grown RW hg (by simp), hg.cell CC (by simp), hg.cell PC (by simp)⟩)
            clear hHeld hg RW CC PC
            go_wp2_with fail
            refine hK.out _ _ ?_ (fun hHeld => ?_)
            · exact L1.out
            clear hK K
            try dsimp only at hHeld
            try simp only [Act.put, List.setIfInBounds_toArray, List.set_cons_zero, List.set_cons_succ, List.getElem_toArray, List.getElem_cons_succ, List.getElem_cons_zero]
            refine' wpAnyH_take (i := 6) (v := _) rfl (by kernel_rfl) (by kernel_rfl) (by kernel_rfl) (fun _ _ _ h => h) (Or.inl ⟨by rfl, ?_⟩) hHeld ?_
            rotate_left
            · (intro w hSw; (try dsimp only at hSw); go_simp; try with_reducible rfl)
            try simp only [Act.put, List.setIfInBounds_toArray, List.set_cons_zero, List.set_cons_succ, List.getElem_toArray, List.getElem_cons_succ, List.getElem_cons_zero]
            refine' wpAnyH_take (i := 7) (v := _) rfl (by kernel_rfl) (by kernel_rfl) (by kernel_rfl) (fun _ _ _ h => h) (Or.inl ⟨by rfl, ?_⟩) hHeld ?_
            rotate_left
            · (intro w hSw; (try dsimp only at hSw); go_simp; try with_reducible rfl)
            try simp only [Act.put, List.setIfInBounds_toArray, List.set_cons_zero, List.set_cons_succ, List.getElem_toArray, List.getElem_cons_succ, List.getElem_cons_zero]
            refine' wpAnyH_take (i := 8) (v := _) rfl (by kernel_rfl) (by kernel_rfl) (by kernel_rfl) (fun _ _ _ h => h) (Or.inl ⟨by rfl, ?_⟩) hHeld ?_
            rotate_left
            · (intro w hSw; (try dsimp only at hSw); go_simp; try with_reducible rfl)
            try simp only [Act.put, List.setIfInBounds_toArray, List.set_cons_zero, List.set_cons_succ, List.getElem_toArray, List.getElem_cons_succ, List.getElem_cons_zero]
            refine wpAnyH_ready (rs := [9]) (by kernel_rfl) (by simp) ?_
            refine AllReadyH.cons (o := _) rfl (fun K hK => ?_) AllReadyH.nil
            try simp only [List.getElem_toArray, List.getElem_cons_succ, List.getElem_cons_zero]
            go_simp
            have hH2 := hHeld
            obtain ⟨RW, CC, PC⟩ := hH2
            refine ((lcalm_g TG.out.k1.k.at1)).mono ?_
            rintro e w1009 ⟨rfl, hg⟩
            replace TG := hid (TG.out.grown hg); replace IC := hid (IC.out.grown hg); replace IP := hid (IP.out.grown hg)
            have L9 := hid (show (w1009.heap[R1.b]? = some (.cells (lrCells c R1.c R1.r t.n) 42)) ∧ (w1009.cell? ⟨R1.c, 2, none⟩ = some (.slice pc t.ca.l.length kc)) ∧ (w1009.cell? ⟨R1.r, 26, none⟩ = some (.slice pp t.po.l.length kp)) from ⟨at_grown RW hg (by simp), hg.cell CC (by simp), hg.cell PC (by simp)⟩)
            clear hHeld hg RW CC PC
            go_wp2_with fail
            refine hK.out _ _ ?_ (fun hHeld => ?_)
            · exact L9.out
            clear hK K
            try dsimp only at hHeld
            try simp only [Act.put, List.setIfInBounds_toArray, List.set_cons_zero, List.set_cons_succ, List.getElem_toArray, List.getElem_cons_succ, List.getElem_cons_zero]
            refine' wpAnyH_take (i := 10) (v := _) rfl (by kernel_rfl) (by kernel_rfl) (by kernel_rfl) (fun _ _ _ h => h) (Or.inl ⟨by rfl, ?_⟩) hHeld ?_
            rotate_left
            · (intro w hSw; (try dsimp only at hSw); go_simp; try with_reducible rfl)
            try simp only [Act.put, List.setIfInBounds_toArray, List.set_cons_zero, List.set_cons_succ, List.getElem_toArray, List.getElem_cons_succ, List.getElem_cons_zero]
            refine' wpAnyH_take (i := 11) (v := _) rfl (by kernel_rfl) (by kernel_rfl) (by kernel_rfl) (fun _ _ _ h => h) (Or.inl ⟨by rfl, ?_⟩) hHeld ?_
            rotate_left
            · (intro w hSw; (try dsimp only at hSw); go_simp; try with_reducible rfl)
            try simp only [Act.put, List.setIfInBounds_toArray, List.set_cons_zero, List.set_cons_succ, List.getElem_toArray, List.getElem_cons_succ, List.getElem_cons_zero]
            refine' wpAnyH_take (i := 12) (v := _) rfl (by kernel_rfl) (by kernel_rfl) (by kernel_rfl) (fun _ _ _ h => h) (Or.inl ⟨by rfl, ?_⟩) hHeld ?_
            rotate_left
            · (intro w hSw; (try dsimp only at hSw); go_simp; try with_reducible rfl)
            try simp only [Act.put, List.setIfInBounds_toArray, List.set_cons_zero, List.set_cons_succ, List.getElem_toArray, List.getElem_cons_succ, List.getElem_cons_zero]
            refine' wpAnyH_take (i := 13) (v := _) rfl (by kernel_rfl) (by kernel_rfl) (by kernel_rfl) (fun _ _ _ h => h) (Or.inl ⟨by rfl, ?_⟩) hHeld ?_
            rotate_left
            · (intro w hSw; (try dsimp only at hSw); go_simp; try with_reducible rfl)
            try simp only [Act.put, List.setIfInBounds_toArray, List.set_cons_zero, List.set_cons_succ, List.getElem_toArray, List.getElem_cons_succ, List.getElem_cons_zero]
            refine wpAnyH_ready (rs := [14]) (by kernel_rfl) (by simp) ?_
            refine AllReadyH.cons (o := _) rfl (fun K hK => ?_) AllReadyH.nil
            try simp only [List.getElem_toArray, List.getElem_cons_succ, List.getElem_cons_zero]
            go_simp
            have hH2 := hHeld
            obtain ⟨RW, CC, PC⟩ := hH2
            refine ((lpolicy_g TG.out.k1.k.at1)).mono ?_
            rintro e w1014 ⟨rfl, hg⟩
            replace TG := hid (TG.out.grown hg); replace IC := hid (IC.out.grown hg); replace IP := hid (IP.out.grown hg)
            have L14 := hid (show (w1014.heap[R1.b]? = some (.cells (lrCells c R1.c R1.r t.n) 42)) ∧ (w1014.cell? ⟨R1.c, 2, none⟩ = some (.slice pc t.ca.l.length kc)) ∧ (w1014.cell? ⟨R1.r, 26, none⟩ = some (.slice pp t.po.l.length kp)) from ⟨at_grown RW hg (by simp), hg.cell CC (by simp), hg.cell PC (by simp)⟩)
            clear hHeld hg RW CC PC
            go_wp2_with fail
            refine hK.out _ _ ?_ (fun hHeld => ?_)
            · exact L14.out
            clear hK K
            try dsimp only at hHeld
            try simp only [Act.put, List.setIfInBounds_toArray, List.set_cons_zero, List.set_cons_succ, List.getElem_toArray, List.getElem_cons_succ, List.getElem_cons_zero]
            refine' wpAnyH_take (i := 15) (v := _) rfl (by kernel_rfl) (by kernel_rfl) (by kernel_rfl) (fun _ _ _ h => h) (Or.inl ⟨by rfl, ?_⟩) hHeld ?_
            rotate_left
            · (intro w hSw; (try dsimp only at hSw); go_simp; try with_reducible rfl)
            try simp only [Act.put, List.setIfInBounds_toArray, List.set_cons_zero, List.set_cons_succ, List.getElem_toArray, List.getElem_cons_succ, List.getElem_cons_zero]
            refine' wpAnyH_take (i := 16) (v := _) rfl (by kernel_rfl) (by kernel_rfl) (by kernel_rfl) (fun _ _ _ h => h) (Or.inl ⟨by rfl, ?_⟩) hHeld ?_
            rotate_left
            · (intro w hSw; (try dsimp only at hSw); go_simp; try with_reducible rfl)
            try simp only [Act.put, List.setIfInBounds_toArray, List.set_cons_zero, List.set_cons_succ, List.getElem_toArray, List.getElem_cons_succ, List.getElem_cons_zero]
            refine' wpAnyH_take (i := 17) (v := _) rfl (by kernel_rfl) (by kernel_rfl) (by kernel_rfl) (fun _ _ _ h => h) (Or.inl ⟨by rfl, ?_⟩) hHeld ?_
            rotate_left
            · (intro w hSw; (try dsimp only at hSw); go_simp; try with_reducible rfl)
            try simp only [Act.put, List.setIfInBounds_toArray, List.set_cons_zero, List.set_cons_succ, List.getElem_toArray, List.getElem_cons_succ, List.getElem_cons_zero]
            refine' wpAnyH_take (i := 18) (v := _) rfl (by kernel_rfl) (by kernel_rfl) (by kernel_rfl) (fun _ _ _ h => h) (Or.inl ⟨by rfl, ?_⟩) hHeld ?_
            rotate_left
            · (intro w hSw; (try dsimp only at hSw); go_simp; try with_reducible rfl)
            try simp only [Act.put, List.setIfInBounds_toArray, List.set_cons_zero, List.set_cons_succ, List.getElem_toArray, List.getElem_cons_succ, List.getElem_cons_zero]
            refine' wpAnyH_take (i := 21) (v := _) rfl (by kernel_rfl) (by kernel_rfl) (by kernel_rfl) (fun _ _ _ h => h) (Or.inl ⟨by rfl, ?_⟩) hHeld ?_
            rotate_left
            · (intro w hSw; (try dsimp only at hSw); go_simp; try with_reducible rfl)
            try simp only [Act.put, List.setIfInBounds_toArray, List.set_cons_zero, List.set_cons_succ, List.getElem_toArray, List.getElem_cons_succ, List.getElem_cons_zero]
            refine' wpAnyH_take (i := 22) (v := _) rfl (by kernel_rfl) (by kernel_rfl) (by kernel_rfl) (fun _ _ _ h => h) (Or.inl ⟨by rfl, ?_⟩) hHeld ?_
            rotate_left
            · (intro w hSw; (try dsimp only at hSw); go_simp; try with_reducible rfl)
            try simp only [Act.put, List.setIfInBounds_toArray, List.set_cons_zero, List.set_cons_succ, List.getElem_toArray, List.getElem_cons_succ, List.getElem_cons_zero]
            refine' wpAnyH_take (i := 23) (v := _) rfl (by kernel_rfl) (by kernel_rfl) (by kernel_rfl) (fun _ _ _ h => h) (Or.inl ⟨by rfl, ?_⟩) hHeld ?_
            rotate_left
            · (intro w hSw; (try dsimp only at hSw); go_simp; try with_reducible rfl)
            try simp only [Act.put, List.setIfInBounds_toArray, List.set_cons_zero, List.set_cons_succ, List.getElem_toArray, List.getElem_cons_succ, List.getElem_cons_zero]
            refine' wpAnyH_take (i := 24) (v := _) rfl (by kernel_rfl) (by kernel_rfl) (by kernel_rfl) (fun _ _ _ h => h) (Or.inl ⟨by rfl, ?_⟩) hHeld ?_
            rotate_left
            · (intro w hSw; (try dsimp only at hSw); obtain ⟨RW, CC, PC⟩ := hSw; have k26 := at_cell RW 26; go_simp; try with_reducible rfl)
            try simp only [Act.put, List.setIfInBounds_toArray, List.set_cons_zero, List.set_cons_succ, List.getElem_toArray, List.getElem_cons_succ, List.getElem_cons_zero]
            refine' wpAnyH_take (i := 25) (v := _) rfl (by kernel_rfl) (by kernel_rfl) (by kernel_rfl) (fun _ _ _ h => h) (Or.inl ⟨by rfl, ?_⟩) hHeld ?_
            rotate_left
            · (intro w hSw; (try dsimp only at hSw); go_simp; try with_reducible rfl)
            try simp only [Act.put, List.setIfInBounds_toArray, List.set_cons_zero, List.set_cons_succ, List.getElem_toArray, List.getElem_cons_succ, List.getElem_cons_zero]
            refine' wpAnyH_take (i := 26) (v := _) rfl (by kernel_rfl) (by kernel_rfl) (by kernel_rfl) (fun _ _ _ h => h) (Or.inl ⟨by rfl, ?_⟩) hHeld ?_
            rotate_left
            · (intro w hSw; (try dsimp only at hSw); go_simp; try with_reducible rfl)
            try simp only [Act.put, List.setIfInBounds_toArray, List.set_cons_zero, List.set_cons_succ, List.getElem_toArray, List.getElem_cons_succ, List.getElem_cons_zero]
            refine' wpAnyH_take (i := 27) (v := _) rfl (by kernel_rfl) (by kernel_rfl) (by kernel_rfl) (fun _ _ _ h => h) (Or.inl ⟨by rfl, ?_⟩) hHeld ?_
            rotate_left
            · (intro w hSw; (try dsimp only at hSw); obtain ⟨RW, CC, PC⟩ := hSw; have kc2 := CC; go_simp; try with_reducible rfl)
            try simp only [Act.put, List.setIfInBounds_toArray, List.set_cons_zero, List.set_cons_succ, List.getElem_toArray, List.getElem_cons_succ, List.getElem_cons_zero]
            refine wpAnyH_ready (rs := [19]) (by kernel_rfl) (by simp) ?_
            refine AllReadyH.cons (o := _) rfl (fun K hK => ?_) AllReadyH.nil
            try simp only [List.getElem_toArray, List.getElem_cons_succ, List.getElem_cons_zero]
            go_simp
            have hH2 := hHeld
            obtain ⟨RW, CC, PC⟩ := hH2
            refine ((lcalm_g TG.out.k1.k.at1)).mono ?_
            rintro e w1019 ⟨rfl, hg⟩
            replace TG := hid (TG.out.grown hg); replace IC := hid (IC.out.grown hg); replace IP := hid (IP.out.grown hg)
            have L19 := hid (show (w1019.heap[R1.b]? = some (.cells (lrCells c R1.c R1.r t.n) 42)) ∧ (w1019.cell? ⟨R1.c, 2, none⟩ = some (.slice pc t.ca.l.length kc)) ∧ (w1019.cell? ⟨R1.r, 26, none⟩ = some (.slice pp t.po.l.length kp)) from ⟨at_grown RW hg (by simp), hg.cell CC (by simp), hg.cell PC (by simp)⟩)
            clear hHeld hg RW CC PC
            go_wp2_with fail
            refine hK.out _ _ ?_ (fun hHeld => ?_)
            · exact L19.out
            clear hK K
            try dsimp only at hHeld
            try simp only [Act.put, List.setIfInBounds_toArray, List.set_cons_zero, List.set_cons_succ, List.getElem_toArray, List.getElem_cons_succ, List.getElem_cons_zero]
            refine wpAnyH_ready (rs := [20]) (by kernel_rfl) (by simp) ?_
            refine AllReadyH.cons (o := _) rfl (fun K hK => ?_) AllReadyH.nil
            try simp only [List.getElem_toArray, List.getElem_cons_succ, List.getElem_cons_zero]
            go_simp
            have hH2 := hHeld
            obtain ⟨RW, CC, PC⟩ := hH2
            refine ((alls_any TG.out.k1.k.at1.ca)).mono ?_
            rintro e w1020 ⟨⟨va, rfl, hva⟩, hg⟩
            have VA := hid hva.ints
            replace TG := hid (TG.out.grown hg); replace IC := hid (IC.out.grown hg); replace IP := hid (IP.out.grown hg)
            clear hva
            have L20 := hid (show (w1020.heap[R1.b]? = some (.cells (lrCells c R1.c R1.r t.n) 42)) ∧ (w1020.cell? ⟨R1.c, 2, none⟩ = some (.slice pc t.ca.l.length kc)) ∧ (w1020.cell? ⟨R1.r, 26, none⟩ = some (.slice pp t.po.l.length kp)) from ⟨at_grown RW hg (by simp), hg.cell CC (by simp), hg.cell PC (by simp)⟩)
            clear hHeld hg RW CC PC
            go_wp2_with fail
            refine hK.out _ _ ?_ (fun hHeld => ?_)
            · exact L20.out
            clear hK K
            try dsimp only at hHeld
            try simp only [Act.put, List.setIfInBounds_toArray, List.set_cons_zero, List.set_cons_succ, List.getElem_toArray, List.getElem_cons_succ, List.getElem_cons_zero]
            refine wpAnyH_ready (rs := [28]) (by kernel_rfl) (by simp) ?_
            refine AllReadyH.cons (o := _) rfl (fun K hK => ?_) AllReadyH.nil
            try simp only [List.getElem_toArray, List.getElem_cons_succ, List.getElem_cons_zero]
            go_simp
            have hH2 := hHeld
            obtain ⟨RW, CC, PC⟩ := hH2
            refine ((sameInts_yes _ _ _ _ VA.out IC.out)).mono ?_
            rintro e w1028 ⟨rfl, hg⟩
            replace TG := hid (TG.out.grown hg); replace IC := hid (IC.out.grown hg); replace IP := hid (IP.out.grown hg)
            have L28 := hid (show (w1028.heap[R1.b]? = some (.cells (lrCells c R1.c R1.r t.n) 42)) ∧ (w1028.cell? ⟨R1.c, 2, none⟩ = some (.slice pc t.ca.l.length kc)) ∧ (w1028.cell? ⟨R1.r, 26, none⟩ = some (.slice pp t.po.l.length kp)) from ⟨at_grown RW hg (by simp), hg.cell CC (by simp), hg.cell PC (by simp)⟩)
            clear hHeld hg RW CC PC
            go_wp2_with fail
            refine hK.out _ _ ?_ (fun hHeld => ?_)
            · exact L28.out
            clear hK K
            try dsimp only at hHeld
            try simp only [Act.put, List.setIfInBounds_toArray, List.set_cons_zero, List.set_cons_succ, List.getElem_toArray, List.getElem_cons_succ, List.getElem_cons_zero]
            refine' wpAnyH_take (i := 29) (v := _) rfl (by kernel_rfl) (by kernel_rfl) (by kernel_rfl) (fun _ _ _ h => h) (Or.inl ⟨by rfl, ?_⟩) hHeld ?_
            rotate_left
            · (intro w hSw; (try dsimp only at hSw); go_simp; try with_reducible rfl)
            try simp only [Act.put, List.setIfInBounds_toArray, List.set_cons_zero, List.set_cons_succ, List.getElem_toArray, List.getElem_cons_succ, List.getElem_cons_zero]
            refine' wpAnyH_take (i := 30) (v := _) rfl (by kernel_rfl) (by kernel_rfl) (by kernel_rfl) (fun _ _ _ h => h) (Or.inl ⟨by rfl, ?_⟩) hHeld ?_
            rotate_left
            · (intro w hSw; (try dsimp only at hSw); go_simp; try with_reducible rfl)
            try simp only [Act.put, List.setIfInBounds_toArray, List.set_cons_zero, List.set_cons_succ, List.getElem_toArray, List.getElem_cons_succ, List.getElem_cons_zero]
            refine' wpAnyH_take (i := 31) (v := _) rfl (by kernel_rfl) (by kernel_rfl) (by kernel_rfl) (fun _ _ _ h => h) (Or.inl ⟨by rfl, ?_⟩) hHeld ?_
            rotate_left
            · (intro w hSw; (try dsimp only at hSw); go_simp; try with_reducible rfl)
            try simp only [Act.put, List.setIfInBounds_toArray, List.set_cons_zero, List.set_cons_succ, List.getElem_toArray, List.getElem_cons_succ, List.getElem_cons_zero]
            refine' wpAnyH_take (i := 32) (v := _) rfl (by kernel_rfl) (by kernel_rfl) (by kernel_rfl) (fun _ _ _ h => h) (Or.inl ⟨by rfl, ?_⟩) hHeld ?_
            rotate_left
            · (intro w hSw; (try dsimp only at hSw); go_simp; try with_reducible rfl)
            try simp only [Act.put, List.setIfInBounds_toArray, List.set_cons_zero, List.set_cons_succ, List.getElem_toArray, List.getElem_cons_succ, List.getElem_cons_zero]
            refine' wpAnyH_take (i := 35) (v := _) rfl (by kernel_rfl) (by kernel_rfl) (by kernel_rfl) (fun _ _ _ h => h) (Or.inl ⟨by rfl, ?_⟩) hHeld ?_
            rotate_left
            · (intro w hSw; (try dsimp only at hSw); go_simp; try with_reducible rfl)
            try simp only [Act.put, List.setIfInBounds_toArray, List.set_cons_zero, List.set_cons_succ, List.getElem_toArray, List.getElem_cons_succ, List.getElem_cons_zero]
            refine' wpAnyH_take (i := 36) (v := _) rfl (by kernel_rfl) (by kernel_rfl) (by kernel_rfl) (fun _ _ _ h => h) (Or.inl ⟨by rfl, ?_⟩) hHeld ?_
            rotate_left
            · (intro w hSw; (try dsimp only at hSw); go_simp; try with_reducible rfl)
            try simp only [Act.put, List.setIfInBounds_toArray, List.set_cons_zero, List.set_cons_succ, List.getElem_toArray, List.getElem_cons_succ, List.getElem_cons_zero]
            refine' wpAnyH_take (i := 37) (v := _) rfl (by kernel_rfl) (by kernel_rfl) (by kernel_rfl) (fun _ _ _ h => h) (Or.inl ⟨by rfl, ?_⟩) hHeld ?_
            rotate_left
            · (intro w hSw; (try dsimp only at hSw); go_simp; try with_reducible rfl)
            try simp only [Act.put, List.setIfInBounds_toArray, List.set_cons_zero, List.set_cons_succ, List.getElem_toArray, List.getElem_cons_succ, List.getElem_cons_zero]
            refine' wpAnyH_take (i := 38) (v := _) rfl (by kernel_rfl) (by kernel_rfl) (by kernel_rfl) (fun _ _ _ h => h) (Or.inl ⟨by rfl, ?_⟩) hHeld ?_
            rotate_left
            · (intro w hSw; (try dsimp only at hSw); obtain ⟨RW, CC, PC⟩ := hSw; have k27 := at_cell RW 27; go_simp; try with_reducible rfl)
            try simp only [Act.put, List.setIfInBounds_toArray, List.set_cons_zero, List.set_cons_succ, List.getElem_toArray, List.getElem_cons_succ, List.getElem_cons_zero]
            refine' wpAnyH_take (i := 39) (v := _) rfl (by kernel_rfl) (by kernel_rfl) (by kernel_rfl) (fun _ _ _ h => h) (Or.inl ⟨by rfl, ?_⟩) hHeld ?_
            rotate_left
            · (intro w hSw; (try dsimp only at hSw); go_simp; try with_reducible rfl)
            try simp only [Act.put, List.setIfInBounds_toArray, List.set_cons_zero, List.set_cons_succ, List.getElem_toArray, List.getElem_cons_succ, List.getElem_cons_zero]
            refine' wpAnyH_take (i := 40) (v := _) rfl (by kernel_rfl) (by kernel_rfl) (by kernel_rfl) (fun _ _ _ h => h) (Or.inl ⟨by rfl, ?_⟩) hHeld ?_
            rotate_left
            · (intro w hSw; (try dsimp only at hSw); go_simp; try with_reducible rfl)
            try simp only [Act.put, List.setIfInBounds_toArray, List.set_cons_zero, List.set_cons_succ, List.getElem_toArray, List.getElem_cons_succ, List.getElem_cons_zero]
            refine' wpAnyH_take (i := 41) (v := _) rfl (by kernel_rfl) (by kernel_rfl) (by kernel_rfl) (fun _ _ _ h => h) (Or.inl ⟨by rfl, ?_⟩) hHeld ?_
            rotate_left
            · (intro w hSw; (try dsimp only at hSw); obtain ⟨RW, CC, PC⟩ := hSw; have kp26 := PC; go_simp; try with_reducible rfl)
            try simp only [Act.put, List.setIfInBounds_toArray, List.set_cons_zero, List.set_cons_succ, List.getElem_toArray, List.getElem_cons_succ, List.getElem_cons_zero]
            refine wpAnyH_ready (rs := [33]) (by kernel_rfl) (by simp) ?_
            refine AllReadyH.cons (o := _) rfl (fun K hK => ?_) AllReadyH.nil
            try simp only [List.getElem_toArray, List.getElem_cons_succ, List.getElem_cons_zero]
            go_simp
            have hH2 := hHeld
            obtain ⟨RW, CC, PC⟩ := hH2
            refine ((lpolicy_g TG.out.k1.k.at1)).mono ?_
            rintro e w1033 ⟨rfl, hg⟩
            replace TG := hid (TG.out.grown hg); replace IC := hid (IC.out.grown hg); replace IP := hid (IP.out.grown hg)
            have L33 := hid (show (w1033.heap[R1.b]? = some (.cells (lrCells c R1.c R1.r t.n) 42)) ∧ (w1033.cell? ⟨R1.c, 2, none⟩ = some (.slice pc t.ca.l.length kc)) ∧ (w1033.cell? ⟨R1.r, 26, none⟩ = some (.slice pp t.po.l.length kp)) from ⟨at_grown RW hg (by simp), hg.cell CC (by simp), hg.cell PC (by simp)⟩)
            clear hHeld hg RW CC PC
            go_wp2_with fail
            refine hK.out _ _ ?_ (fun hHeld => ?_)
            · exact L33.out
            clear hK K
            try dsimp only at hHeld
            try simp only [Act.put, List.setIfInBounds_toArray, List.set_cons_zero, List.set_cons_succ, List.getElem_toArray, List.getElem_cons_succ, List.getElem_cons_zero]
            refine wpAnyH_ready (rs := [34]) (by kernel_rfl) (by simp) ?_
            refine AllReadyH.cons (o := _) rfl (fun K hK => ?_) AllReadyH.nil
            try simp only [List.getElem_toArray, List.getElem_cons_succ, List.getElem_cons_zero]
            go_simp
            have hH2 := hHeld
            obtain ⟨RW, CC, PC⟩ := hH2
            refine ((palls_any TG.out.k1.k.at1.po)).mono ?_
            rintro e w1034 ⟨⟨vb', rfl, hva⟩, hg⟩
            have VB := hid hva.ints
            replace TG := hid (TG.out.grown hg); replace IC := hid (IC.out.grown hg); replace IP := hid (IP.out.grown hg)
            clear hva
            have L34 := hid (show (w1034.heap[R1.b]? = some (.cells (lrCells c R1.c R1.r t.n) 42)) ∧ (w1034.cell? ⟨R1.c, 2, none⟩ = some (.slice pc t.ca.l.length kc)) ∧ (w1034.cell? ⟨R1.r, 26, none⟩ = some (.slice pp t.po.l.length kp)) from ⟨at_grown RW hg (by simp), hg.cell CC (by simp), hg.cell PC (by simp)⟩)
            clear hHeld hg RW CC PC
            go_wp2_with fail
            refine hK.out _ _ ?_ (fun hHeld => ?_)
            · exact L34.out
            clear hK K
            try dsimp only at hHeld
            try simp only [Act.put, List.setIfInBounds_toArray, List.set_cons_zero, List.set_cons_succ, List.getElem_toArray, List.getElem_cons_succ, List.getElem_cons_zero]
            refine wpAnyH_ready (rs := [42]) (by kernel_rfl) (by simp) ?_
            refine AllReadyH.cons (o := _) rfl (fun K hK => ?_) AllReadyH.nil
            try simp only [List.getElem_toArray, List.getElem_cons_succ, List.getElem_cons_zero]
            go_simp
            have hH2 := hHeld
            obtain ⟨RW, CC, PC⟩ := hH2
            refine ((sameInts_yes _ _ _ _ VB.out IP.out)).mono ?_
            rintro e w1042 ⟨rfl, hg⟩
            replace TG := hid (TG.out.grown hg); replace IC := hid (IC.out.grown hg); replace IP := hid (IP.out.grown hg)
            have L42 := hid (show (w1042.heap[R1.b]? = some (.cells (lrCells c R1.c R1.r t.n) 42)) ∧ (w1042.cell? ⟨R1.c, 2, none⟩ = some (.slice pc t.ca.l.length kc)) ∧ (w1042.cell? ⟨R1.r, 26, none⟩ = some (.slice pp t.po.l.length kp)) from ⟨at_grown RW hg (by simp), hg.cell CC (by simp), hg.cell PC (by simp)⟩)
            clear hHeld hg RW CC PC
            go_wp2_with fail
            refine hK.out _ _ ?_ (fun hHeld => ?_)
            · exact L42.out
            clear hK K
            try dsimp only at hHeld
            try simp only [Act.put, List.setIfInBounds_toArray, List.set_cons_zero, List.set_cons_succ, List.getElem_toArray, List.getElem_cons_succ, List.getElem_cons_zero]
            refine' wpAnyH_take (i := 43) (v := _) rfl (by kernel_rfl) (by kernel_rfl) (by kernel_rfl) (fun _ _ _ h => h) (Or.inl ⟨by rfl, ?_⟩) hHeld ?_
            rotate_left
            · (intro w hSw; (try dsimp only at hSw); go_simp; try with_reducible rfl)
            try simp only [Act.put, List.setIfInBounds_toArray, List.set_cons_zero, List.set_cons_succ, List.getElem_toArray, List.getElem_cons_succ, List.getElem_cons_zero]
            refine' wpAnyH_take (i := 44) (v := _) rfl (by kernel_rfl) (by kernel_rfl) (by kernel_rfl) (fun _ _ _ h => h) (Or.inl ⟨by rfl, ?_⟩) hHeld ?_
            rotate_left
            · (intro w hSw; (try dsimp only at hSw); go_simp; try with_reducible rfl)
            try simp only [Act.put, List.setIfInBounds_toArray, List.set_cons_zero, List.set_cons_succ, List.getElem_toArray, List.getElem_cons_succ, List.getElem_cons_zero]
            refine wpAnyH_done (by kernel_rfl) ?_ _
            obtain ⟨RW, CC, PC⟩ := hHeld
            clear RW CC PC
            go_wp2_with fail
            go_roundw
            case rel => exact ⟨k + 1, by have := HLT.out; omega, by go_num, _, TG.out, LG.out⟩
            case measure => have := HLT.out; simp [intOf]; omega
    · obtain rfl : k = n := by omega
      have j1 : ¬ k < k := by omega
      clear hk hlt
      go_wp2_with fail
      refine (ltold_any _).mono ?_
      rintro e w5 ⟨rfl, hg⟩
      replace K := hid (K.out.grown hg); clear hg
      go_wp2_with fail
      go_ret
      exact ⟨rfl, K.out.k1.k.gr⟩
end Go.Proofs.YthobbekocimcnaaGreat.lplays
