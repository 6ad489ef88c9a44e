/-
  The walk of VerifyFresh: whatever the configuration, the epoch now and the epoch near it. No condition.
-/
import Derived.Test.YtfhifnhnkgdnlaaGreatZ12
import Derived.Deep.CutRange
import Derived.Deep.RegionHeld3
set_option linter.unusedSimpArgs false
set_option linter.unusedVariables false
namespace Go.Proofs.YtfhifnhnkgdnlaaGreat.vfresh
set_option maxRecDepth 100000
open Go.RowKit

theorem told_of (c : Conf) (h : Fine c) (hn : 2 ≤ c.n) (e t : Int) (e0 : 0 ≤ e) (e1 : e ≤ 1099511627776) :
    (gOf c).check (sealOf (ofOf (sdOf c) 1 0).a (ofOf (sdOf c) 1 0).b ⟨1, 1, 0, 1, e, 5, 0⟩) t nobody = if t ≤ e ∧ e < t + c.fresh then (⟨1, 1, 0, 1, e, 5, 0⟩, 0) else (zeroM, 7) := by
  have hf := h.fresh
  have hm := h.m
  have hh := first_of (sdOf c) c.n.toNat c.grace.toNat c.window.toNat c.m.toNat c.fresh.toNat (by omega) 1 e 5 t nobody (by decide) (by omega) (by decide) e0 e1 (by decide) (by decide)
  rw [if_neg (by simp [nobody]), show ((c.fresh.toNat : Nat) : Int) = c.fresh by omega] at hh
  exact hh
theorem samp_e {c : Conf} {e : Int} (e0 : 0 ≤ e) (e1 : e ≤ 1099511627776) {w : World} {b : Nat} (H : SlAt 145 w b (.new (sdOf c) 1)) :
    Calls Tryz.prog 31 #[.pointer (some ⟨b, 0, none⟩), .int .i64 0, .int .i64 e, .int .i64 5] w (LeavesS w b (sealOf (ofOf (sdOf c) 1 0).a (ofOf (sdOf c) 1 0).b ⟨1, 1, 0, 1, e, 5, 0⟩) 0 ⟨sdOf c, 1, 0, 1⟩) :=
  first_samp (by decide) (by decide) e0 e1 (by decide) (by decide) H
set_option maxHeartbeats 6400000 in
theorem walk (l : List Int) (p : Option Addr) (cap : Nat) (now byn : Int) {w : World} (hl : IntsAt w (.slice p l.length cap) l) :
    Calls Tryz.prog 7 #[.slice p l.length cap, .int .i64 now, .int .i64 byn] w fun e w' => e = .returned (.bool true) ∧ w.grownBy w' none := by
  have HF := hid (fit_any l p cap w hl); clear hl
  obtain ⟨k, k0, k1, ek⟩ := umod_int now 100000 (by omega)
  obtain ⟨y, y0, y1, ey⟩ := umod_int byn 21 (by omega)
  replace ek : (IntKind.u64.wrap now).tmod 100000 = k := ek
  replace ey : (IntKind.u64.wrap byn).tmod 21 = y := ey
  replace k1 : k < 100000 := k1
  replace y1 : y < 21 := y1
  obtain ⟨t, ht⟩ : ∃ t, 20 + k = t := ⟨_, rfl⟩
  obtain ⟨e, he⟩ : ∃ e, t - 10 + y = e := ⟨_, rfl⟩
  have sk : IntKind.i64.wrap k = k := IntWalk.i64_in _ (by omega)
  have sy : IntKind.i64.wrap y = y := IntWalk.i64_in _ (by omega)
  have st : IntKind.i64.wrap (20 + k) = t := by rw [ht]; exact IntWalk.i64_in _ (by omega)
  have sm : IntKind.i64.wrap (t - 10) = t - 10 := IntWalk.i64_in _ (by omega)
  have se : IntKind.i64.wrap (t - 10 + y) = e := by rw [he]; exact IntWalk.i64_in _ (by omega)
  have t0 : 20 ≤ t := by omega
  have t1 : t < 100020 := by omega
  have e0 : 0 ≤ e := by omega
  have e1 : e < 100040 := by omega
  have HET := hid (And.intro e0 (And.intro e1 (And.intro t0 t1)))
  clear ht he k0 k1 y0 y1
  go_enter Tryz.func7, Tryz.ntmps7
  go_wp2_with fail
  refine HF.out.mono ?_
  rintro e w1 ⟨c, rfl, hfine, hg⟩
  have G1 := hid hg; have FN := hid hfine; clear hg HF hfine
  go_upto_region 2 with (refine wpList_store_new (w := w1) (cs := c.cells) rfl (by kernel_rfl) (by kernel_rfl) (by kernel_rfl) rfl rfl rfl rfl rfl ?_)
  have C1 := hid (cfx_new c G1.out)
  have hlow : w.heap.size ≤ w1.heap.size := gb_size G1.out
  clear G1
  refine wp_gen (fun wx => Cfx w w1.heap.size c wx) C1.out ?_
  clear C1
  generalize w1.heap.size = x at hlow ⊢
  have HLOW := hid hlow; clear hlow
  intro w2 h2
  have C2 := hid h2; clear h2
  go_wp2_with fail
  refine wp_region_held_drew (S := (fun w' => (Cfx w x c w'))) (by kernel_rfl) C2.out.drew (fun hHeld => ?_)
  try dsimp only at hHeld
  refine' wpAnyH_take (i := 0) (v := _) rfl (by kernel_rfl) (by kernel_rfl) (by kernel_rfl) (fun _ _ _ h => h) (Or.inl ⟨by rfl, ?_⟩) hHeld ?_
  rotate_left
  · (intro w hSw; (try dsimp only at hSw); (try simp only [List.getElem_toArray, List.getElem_cons_succ, List.getElem_cons_zero]); refine exec_row (x := .tmp 7) hSw.box Tryz.underlying27 rfl (by kernel_rfl) ?_ ?_ <;> rfl)
  try simp only [Act.put, List.setIfInBounds_toArray, List.set_cons_zero, List.set_cons_succ, List.getElem_toArray, List.getElem_cons_succ, List.getElem_cons_zero]
  refine' wpAnyH_take (i := 2) (v := _) rfl (by kernel_rfl) (by kernel_rfl) (by kernel_rfl) (fun _ _ _ h => h) (Or.inl ⟨by rfl, ?_⟩) hHeld ?_
  rotate_left
  · (intro w hSw; (try dsimp only at hSw); go_simp; try with_reducible rfl)
  try simp only [Act.put, List.setIfInBounds_toArray, List.set_cons_zero, List.set_cons_succ, List.getElem_toArray, List.getElem_cons_succ, List.getElem_cons_zero]
  refine' wpAnyH_take (i := 3) (v := _) rfl (by kernel_rfl) (by kernel_rfl) (by kernel_rfl) (fun _ _ _ h => h) (Or.inl ⟨by rfl, ?_⟩) hHeld ?_
  rotate_left
  · (intro w hSw; (try dsimp only at hSw); have bb := hSw; have c25 : w.cell? ⟨x, 25, none⟩ = some (Value.int IntKind.u64 c.seed) := at_cell bb.box 25; go_simp; try with_reducible rfl)
  try simp only [Act.put, List.setIfInBounds_toArray, List.set_cons_zero, List.set_cons_succ, List.getElem_toArray, List.getElem_cons_succ, List.getElem_cons_zero]
  refine wpAnyH_ready (rs := [1]) (by kernel_rfl) (by simp) ?_
  refine AllReadyH.cons (o := _) rfl (fun K hK => ?_) AllReadyH.nil
  try simp only [List.getElem_toArray, List.getElem_cons_succ, List.getElem_cons_zero]
  go_simp
  have hH2 := hHeld
  have bb := hH2
  refine (gnew_fine FN.out _).mono ?_
  rintro e w1001 ⟨F, B, rfl, hk, hg, hlo⟩
  have HLO := hid (show ∀ y ∈ F, w.heap.size ≤ y from fun y hy => Nat.le_trans (gb_size bb.g) (hlo y hy))
  have HXF := hid (show x ∉ F from fun h => by have := hlo _ h; have := at_lt bb.box; omega); clear hlo
  have L1 := hid (show (Cfx w x c w1001) from bb.grown hg)
  have Nkg := hid (show GtAt w1001 F B (gOf c) from hk)
  clear hHeld hg bb
  go_wp2_with fail
  refine hK.out _ _ ?_ (fun hHeld => ?_)
  · exact L1.out
  clear hK K
  try dsimp only at hHeld
  try simp only [Act.put, List.setIfInBounds_toArray, List.set_cons_zero, List.set_cons_succ, List.getElem_toArray, List.getElem_cons_succ, List.getElem_cons_zero]
  refine held_stronger (S' := fun w' => (fun w' => GtAt w' F B (gOf c)) w' ∧ ((fun w' => (Cfx w x c w'))) w') (fun _ h => h.2) _ _ _ _ ?_
  replace hHeld := And.intro Nkg.out hHeld
  try dsimp only at hHeld
  refine wpAnyH_ready (rs := [4]) (by kernel_rfl) (by simp) ?_
  refine AllReadyH.cons (o := _) rfl (fun K hK => ?_) AllReadyH.nil
  try simp only [List.getElem_toArray, List.getElem_cons_succ, List.getElem_cons_zero]
  go_simp
  have hH2 := hHeld
  obtain ⟨kg, bb⟩ := hH2
  refine (snew_fine FN.out (1) (by omega) (by omega) _).mono ?_
  rintro e w1004 ⟨b, rfl, hs, hg, hbz⟩
  have HBZ := hid (show w.heap.size ≤ b from Nat.le_trans (gb_size bb.g) hbz)
  have HBF := hid (show b ∉ F from fun h => by have := kg.lt _ h; omega); clear hbz
  have L4 := hid (show (GtAt w1004 F B (gOf c)) ∧ (Cfx w x c w1004) from ⟨kg.grown hg, bb.grown hg⟩)
  have Nso := hid (show SlAt 145 w1004 b (.new (sdOf c) (1)) from hs)
  clear hHeld hg kg bb
  go_wp2_with fail
  refine hK.out _ _ ?_ (fun hHeld => ?_)
  · exact L4.out
  clear hK K
  try dsimp only at hHeld
  try simp only [Act.put, List.setIfInBounds_toArray, List.set_cons_zero, List.set_cons_succ, List.getElem_toArray, List.getElem_cons_succ, List.getElem_cons_zero]
  refine held_stronger (S' := fun w' => (fun w' => SlAt 145 w' b (.new (sdOf c) (1))) w' ∧ ((fun w' => (GtAt w' F B (gOf c)) ∧ (Cfx w x c w'))) w') (fun _ h => h.2) _ _ _ _ ?_
  replace hHeld := And.intro Nso.out hHeld
  try dsimp only at hHeld
  refine' wpAnyH_take (i := 5) (v := _) rfl (by kernel_rfl) (by kernel_rfl) (by kernel_rfl) (fun _ _ _ h => h) (Or.inl ⟨by rfl, ?_⟩) hHeld ?_
  rotate_left
  · (intro w hSw; (try dsimp only at hSw); go_simp; try with_reducible rfl)
  try simp only [Act.put, List.setIfInBounds_toArray, List.set_cons_zero, List.set_cons_succ, List.getElem_toArray, List.getElem_cons_succ, List.getElem_cons_zero]
  refine' wpAnyH_take (i := 6) (v := _) rfl (by kernel_rfl) (by kernel_rfl) (by kernel_rfl) (fun _ _ _ h => h) (Or.inl ⟨by rfl, ?_⟩) hHeld ?_
  rotate_left
  · (intro w hSw; (try dsimp only at hSw); go_simp; try with_reducible rfl)
  try simp only [Act.put, List.setIfInBounds_toArray, List.set_cons_zero, List.set_cons_succ, List.getElem_toArray, List.getElem_cons_succ, List.getElem_cons_zero]
  refine wpAnyH_done (by kernel_rfl) ?_ _
  obtain ⟨so, kg, bb⟩ := hHeld
  refine exit_gen (fun wx => Kv w F B (gOf c) b (.new (sdOf c) (1)) [(x, confObj c)] [] wx) (kv_conf (w := w) (w1 := w) kg so HLO.out HBZ.out HBF.out HXF.out bb.g bb.box) ?_
  clear kg so bb HLO HBZ HBF HXF C2
  intro w3 h3
  have K3 := hid h3; clear h3
  have c0 : w3.cell? ⟨x, 0, none⟩ = some (.int .i64 c.n) := at_cell K3.out.b0 0
  by_cases hn : 2 ≤ c.n
  · have dn : decide (c.n < 2) = false := by simp; omega
    have TO := hid (told_of c FN.out hn e t e0 (by omega))
    have SA := hid (fun u b (h : SlAt 145 u b (.new (sdOf c) 1)) => samp_e (c := c) (e := e) e0 (by omega) h)
    have hfr := FN.out.fresh
    clear hn
    obtain ⟨n, hnn⟩ : ∃ n, c.n = n := ⟨_, rfl⟩
    rw [hnn] at c0 dn
    clear hnn
    generalize sealOf (ofOf (sdOf c) 1 0).a (ofOf (sdOf c) 1 0).b ⟨1, 1, 0, 1, e, 5, 0⟩ = ls at TO SA
    obtain ⟨fr, hfrr⟩ : ∃ fr, c.fresh = fr := ⟨_, rfl⟩
    rw [hfrr] at TO hfr
    have HFR := hid hfrr; clear hfrr
    go_wp2_with fail
    refine (SA.out _ _ K3.out.ob).mono ?_
    rintro e4 w4 ⟨v, rfl, ho, hs, hc⟩
    have K4 := hid (K3.out.sealed ho hs hc); clear ho hs hc K3 SA c0
    by_cases hin : t ≤ e ∧ e < t + fr
    · have d1 : decide (t ≤ e) = true := by simpa using hin.1
      have d2 : decide (e < t + fr) = true := by simpa using hin.2
      go_wp2_with fail
      refine (tv_check rfl _ _ t _ _ (show (gOf c).check ls t nobody = (⟨1, 1, 0, 1, e, 5, 0⟩, 0) from TO.out.trans (if_pos hin)) (by omega) _ K4.out.gt K4.out.y0).mono ?_
      rintro e5 w5 ⟨rfl, hg⟩
      have k5 := (K4.out.grown hg).alloc (msgObj ⟨1, 1, 0, 1, e, 5, 0⟩)
      have K5 := hid k5; clear k5 hg K4 TO
      go_upto_region 9 with fail
      refine wp_gen (fun wx => Kv w F B (gOf c) b ⟨sdOf c, 1, 0, 1⟩ [(w5.heap.size, msgObj ⟨1, 1, 0, 1, e, 5, 0⟩), (x, confObj c)] [(v, ls)] wx) K5.out ?_
      clear K5
      generalize w5.heap.size = tm
      intro w6 h6
      have K6 := hid h6; clear h6
      have c4 : w6.cell? ⟨x, 4, none⟩ = some (.int .i64 fr) := (at_cell K6.out.b1 4).trans (by rw [← HFR.out]; rfl)
      have sfr : IntKind.i64.wrap (t + fr) = t + fr := IntWalk.i64_in _ (by omega)
      go_wp2_with fail
      refine (vtold_any _).mono ?_
      rintro e7 w7 ⟨rfl, hg⟩
      have K7 := hid (K6.out.grown hg); clear hg K6 c4
      have m4 : w7.cell? ⟨tm, 4, none⟩ = some (.int .i64 e) := at_cell K7.out.b0 4
      go_wp2_with fail
      go_ret
      exact ⟨rfl, K7.out.g⟩
    · by_cases hle : t ≤ e
      · have d1 : decide (t ≤ e) = true := by simpa using hle
        have d2 : decide (e < t + fr) = false := by simp; omega
        go_wp2_with fail
        refine (tv_check rfl _ _ t _ _ (show (gOf c).check ls t nobody = (zeroM, 7) from TO.out.trans (if_neg hin)) (by omega) _ K4.out.gt K4.out.y0).mono ?_
        rintro e5 w5 ⟨rfl, hg⟩
        have k5 := (K4.out.grown hg).alloc (msgObj zeroM)
        have K5 := hid k5; clear k5 hg K4 TO
        go_upto_region 9 with fail
        refine wp_gen (fun wx => Kv w F B (gOf c) b ⟨sdOf c, 1, 0, 1⟩ [(w5.heap.size, msgObj zeroM), (x, confObj c)] [(v, ls)] wx) K5.out ?_
        clear K5
        generalize w5.heap.size = tm
        intro w6 h6
        have K6 := hid h6; clear h6
        have c4 : w6.cell? ⟨x, 4, none⟩ = some (.int .i64 fr) := (at_cell K6.out.b1 4).trans (by rw [← HFR.out]; rfl)
        have sfr : IntKind.i64.wrap (t + fr) = t + fr := IntWalk.i64_in _ (by omega)
        go_wp2_with fail
        refine (vtold_any _).mono ?_
        rintro e7 w7 ⟨rfl, hg⟩
        have K7 := hid (K6.out.grown hg); clear hg K6 c4
        have m4 : w7.cell? ⟨tm, 4, none⟩ = some (.int .i64 0) := at_cell K7.out.b0 4
        go_wp2_with fail
        go_ret
        exact ⟨rfl, K7.out.g⟩
      · have d1 : decide (t ≤ e) = false := by simpa using hle
        go_wp2_with fail
        refine (tv_check rfl _ _ t _ _ (show (gOf c).check ls t nobody = (zeroM, 7) from TO.out.trans (if_neg hin)) (by omega) _ K4.out.gt K4.out.y0).mono ?_
        rintro e5 w5 ⟨rfl, hg⟩
        have k5 := (K4.out.grown hg).alloc (msgObj zeroM)
        have K5 := hid k5; clear k5 hg K4 TO
        go_upto_region 9 with fail
        refine wp_gen (fun wx => Kv w F B (gOf c) b ⟨sdOf c, 1, 0, 1⟩ [(w5.heap.size, msgObj zeroM), (x, confObj c)] [(v, ls)] wx) K5.out ?_
        clear K5
        generalize w5.heap.size = tm
        intro w6 h6
        have K6 := hid h6; clear h6
        have c4 : w6.cell? ⟨x, 4, none⟩ = some (.int .i64 fr) := (at_cell K6.out.b1 4).trans (by rw [← HFR.out]; rfl)
        have sfr : IntKind.i64.wrap (t + fr) = t + fr := IntWalk.i64_in _ (by omega)
        go_wp2_with fail
        refine (vtold_any _).mono ?_
        rintro e7 w7 ⟨rfl, hg⟩
        have K7 := hid (K6.out.grown hg); clear hg K6 c4
        have m4 : w7.cell? ⟨tm, 4, none⟩ = some (.int .i64 0) := at_cell K7.out.b0 4
        go_wp2_with fail
        go_ret
        exact ⟨rfl, K7.out.g⟩
  · have dn : decide (c.n < 2) = true := by simp; omega
    clear hn
    generalize c.n = n at c0 dn
    go_wp2_with fail
    refine (vtold_any _).mono ?_
    rintro e9 w9 ⟨rfl, hg⟩
    have G9 := hid (K3.out.grown hg).g; clear hg c0 K3
    go_wp2_with fail
    go_ret
    exact ⟨rfl, G9.out⟩
end Go.Proofs.YtfhifnhnkgdnlaaGreat.vfresh
