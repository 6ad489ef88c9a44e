/-
  The walk of the statement PolicyRises: of greater counts and wants there comes no lesser one. No condition.
-/
import Derived.Test.YtmhpldnmapjghaaPoG
import Derived.BigQuiet
import Derived.Deep.QuietTactic
import Derived.Test.YtmhpldnmapjghaaHeld
import Derived.Deep.RegionHeld3
set_option linter.unusedSimpArgs false
set_option linter.unusedVariables false
namespace Go.Proofs.Ytmhpldnmapjghaa.prises
set_option maxRecDepth 100000
open Go.RowKit

theorem under_one {x y : Int} (h : x ≤ y) : Under [x] [y] :=
  ⟨rfl, fun i a b ha hb => by
    match i, ha, hb with
    | 0, ha, hb => cases ha; cases hb; exact h⟩
set_option maxHeartbeats 6400000 in
theorem walk {w : World} (l : List Int) (p : Option Addr) (cap : Nat) (i0 : IntsAt w (.slice p l.length cap) l) (xa xc : Int) (lw : List Int) (p1 : Option Addr) (c1 : Nat) (i1 : IntsAt w (.slice p1 lw.length c1) lw) (lm : List Int) (p2 : Option Addr) (c2 : Nat) (i2 : IntsAt w (.slice p2 lm.length c2) lm) :
    Calls Try.prog 6 #[.slice p l.length cap, .int .i64 xa, .int .i64 xc, .slice p1 lw.length c1, .slice p2 lm.length c2] w fun e w' => e = .returned (.bool true) ∧ w.grownBy w' none := by
  have nl := i1.len
  unfold maxLen at nl
  obtain ⟨n, hn⟩ : ∃ n, lw.length = n := ⟨_, rfl⟩
  rw [hn] at i1 nl ⊢
  have Hn := hid hn; have In := hid i1
  clear hn i1
  have nml := i2.len
  unfold maxLen at nml
  obtain ⟨nm, hnm⟩ : ∃ n, lm.length = n := ⟨_, rfl⟩
  rw [hnm] at i2 nml ⊢
  have Hnm := hid hnm; have Inm := hid i2
  clear hnm i2
  obtain ⟨m, hm⟩ : ∃ m : Nat, m = min n 20 := ⟨_, rfl⟩
  have HM := hid (show m ≤ n ∧ m ≤ 20 ∧ (m = n ∨ (m < n ∧ m = 20)) by omega)
  clear hm
  obtain ⟨ya, ya0, ya1, mya⟩ := umod_int xa 10001 (by omega)
  have mya : (IntKind.u64.wrap xa).tmod 10001 = ya := mya
  have cya : IntKind.i64.wrap ya = ya := IntWalk.i64_in _ (by omega)
  obtain ⟨yc, yc0, yc1, myc⟩ := umod_int xc 10001 (by omega)
  have myc : (IntKind.u64.wrap xc).tmod 10001 = yc := myc
  have cyc : IntKind.i64.wrap yc = yc := IntWalk.i64_in _ (by omega)
  go_enter Try.func6, Try.ntmps6
  go_wp2_with fail
  refine (fit_any l p cap _ i0).mono ?_
  rintro e w1 ⟨c, rfl, hF, hg⟩
  have HF := hid hF; have C0 := hid (cfx_new c hg); clear hg hF
  have HOK := hid (fine_ok HF.out)
  by_cases hs : yc < ya
  · have s1 : yc < ya := hs
    clear hs
    have XY := hid (show 0 ≤ yc ∧ yc ≤ ya ∧ ya ≤ 10000 by omega)
    have s0 : decide (yc < ya) = true := by simp; omega
    clear ya0 ya1 yc0 yc1
    have BX := hid (bounds_in HOK.out XY.out.1 (Int.le_trans XY.out.2.1 XY.out.2.2))
    have BY := hid (bounds_in HOK.out (Int.le_trans XY.out.1 XY.out.2.1) XY.out.2.2)
    go_wp2_with (first | refine wpList_store_new (w := w1) (cs := c.cells) rfl (by kernel_rfl) (by kernel_rfl) (by kernel_rfl) rfl rfl rfl rfl rfl ?_ | refine wpList_conf C0.out.box rfl rfl rfl rfl ?_)
    refine (pb_as BX.out _).mono ?_
    rintro e w2 ⟨rfl, hg⟩
    have C := hid (C0.out.grown hg); clear hg
    go_wp2_with (refine wpList_conf C.out.box rfl rfl rfl rfl ?_)
    refine (pb_as BY.out _).mono ?_
    rintro e WX ⟨rfl, hg⟩
    replace C := hid (C.out.grown hg); clear hg C0 BX BY
    have g1 := Rt.lo_mono HOK.out XY.out.2.1
    have g2 := Rt.hi_mono HOK.out XY.out.2.1
    have g3 := (Rt.lo_le HOK.out XY.out.1).2
    have g4 := Rt.hi_ge HOK.out (b := yc)
    generalize w1.heap.size = xb at *
    generalize (rt c).lo yc = lx at *
    generalize (rt c).hi yc = hx at *
    generalize (rt c).lo ya = ly at *
    generalize (rt c).hi ya = hy at *
    have t1 : decide (ly < lx) = false := by simp; omega
    have t2 : decide (hy < hx) = false := by simp; omega
    have t3 : decide (yc < lx) = false := by simp; omega
    have t4 : decide (hx < yc) = false := by simp; omega
    have u1 : lx ≤ ly := g1
    have u2 : hx ≤ hy := g2
    have u3 : lx ≤ yc := g3
    have u4 : yc ≤ hx := by omega
    clear g1 g2 g3 g4
    have fm := HF.out.min; have fx := HF.out.max
    have NP1 := hid (pnew_ok c c.min (fine_may HF.out) (in_of (Int.le_refl _) fx.1))
    have NP2 := hid (pnew_ok c c.max (fine_may HF.out) (in_of fx.1 (Int.le_refl _)))
    clear fm fx
    go_wp2_with fail
    clear t1 t2 t3 t4 u1 u2 u3 u4 s0
    refine wp_region_held_drew (S := (fun w' => (Cfx w xb c w'))) (by kernel_rfl) C.out.drew (fun hHeld => ?_)
    try dsimp only at hHeld
    refine' wpAnyH_take (i := 0) (v := _) rfl (by kernel_rfl) (by kernel_rfl) (by kernel_rfl) (fun _ _ _ h => h) (Or.inl ⟨by rfl, ?_⟩) hHeld ?_
    rotate_left
    · (intro w hSw; (try dsimp only at hSw); (try simp only [List.getElem_toArray, List.getElem_cons_succ, List.getElem_cons_zero]); refine exec_row (x := .tmp 11) hSw.box Try.underlying26 rfl (by kernel_rfl) ?_ ?_ <;> rfl)
    try simp only [Act.put, List.setIfInBounds_toArray, List.set_cons_zero, List.set_cons_succ, List.getElem_toArray, List.getElem_cons_succ, List.getElem_cons_zero]
    refine' wpAnyH_take (i := 1) (v := _) rfl (by kernel_rfl) (by kernel_rfl) (by kernel_rfl) (fun _ _ _ h => h) (Or.inl ⟨by rfl, ?_⟩) hHeld ?_
    rotate_left
    · (intro w hSw; (try dsimp only at hSw); go_simp; try with_reducible rfl)
    try simp only [Act.put, List.setIfInBounds_toArray, List.set_cons_zero, List.set_cons_succ, List.getElem_toArray, List.getElem_cons_succ, List.getElem_cons_zero]
    refine' wpAnyH_take (i := 2) (v := _) rfl (by kernel_rfl) (by kernel_rfl) (by kernel_rfl) (fun _ _ _ h => h) (Or.inl ⟨by rfl, ?_⟩) hHeld ?_
    rotate_left
    · (intro w hSw; (try dsimp only at hSw); have KC := hSw; have q9 := at_cell KC.box 12; go_simp; try with_reducible rfl)
    try simp only [Act.put, List.setIfInBounds_toArray, List.set_cons_zero, List.set_cons_succ, List.getElem_toArray, List.getElem_cons_succ, List.getElem_cons_zero]
    refine' wpAnyH_take (i := 4) (v := _) rfl (by kernel_rfl) (by kernel_rfl) (by kernel_rfl) (fun _ _ _ h => h) (Or.inl ⟨by rfl, ?_⟩) hHeld ?_
    rotate_left
    · (intro w hSw; (try dsimp only at hSw); (try simp only [List.getElem_toArray, List.getElem_cons_succ, List.getElem_cons_zero]); refine exec_row (x := .tmp 11) hSw.box Try.underlying26 rfl (by kernel_rfl) ?_ ?_ <;> rfl)
    try simp only [Act.put, List.setIfInBounds_toArray, List.set_cons_zero, List.set_cons_succ, List.getElem_toArray, List.getElem_cons_succ, List.getElem_cons_zero]
    refine' wpAnyH_take (i := 5) (v := _) rfl (by kernel_rfl) (by kernel_rfl) (by kernel_rfl) (fun _ _ _ h => h) (Or.inl ⟨by rfl, ?_⟩) hHeld ?_
    rotate_left
    · (intro w hSw; (try dsimp only at hSw); go_simp; try with_reducible rfl)
    try simp only [Act.put, List.setIfInBounds_toArray, List.set_cons_zero, List.set_cons_succ, List.getElem_toArray, List.getElem_cons_succ, List.getElem_cons_zero]
    refine' wpAnyH_take (i := 6) (v := _) rfl (by kernel_rfl) (by kernel_rfl) (by kernel_rfl) (fun _ _ _ h => h) (Or.inl ⟨by rfl, ?_⟩) hHeld ?_
    rotate_left
    · (intro w hSw; (try dsimp only at hSw); have KC := hSw; have q9 := at_cell KC.box 13; go_simp; try with_reducible rfl)
    try simp only [Act.put, List.setIfInBounds_toArray, List.set_cons_zero, List.set_cons_succ, List.getElem_toArray, List.getElem_cons_succ, List.getElem_cons_zero]
    refine wpAnyH_ready (rs := [3]) (by kernel_rfl) (by simp) ?_
    refine AllReadyH.cons (o := _) rfl (fun K hK => ?_) AllReadyH.nil
    try simp only [List.getElem_toArray, List.getElem_cons_succ, List.getElem_cons_zero]
    go_simp
    have hH2 := hHeld
    have KC := hH2
    refine ((NP1.out _)).mono ?_
    rintro e w1003 ⟨b1, rfl, hp, hg, hb⟩
    have K1 := hid (Pc1.start KC hp hg hb)
    have L3 := hid (show (Cfx w xb c w1003) from (KC.grown hg))
    have Nk1 := hid (show Pc1 w xb c b1 ⟨rt c, [c.min]⟩ w1003 from K1.out)
    clear hHeld hg KC
    go_wp2_with fail
    refine hK.out _ _ ?_ (fun hHeld => ?_)
    · exact L3.out
    clear hK K
    try dsimp only at hHeld
    try simp only [Act.put, List.setIfInBounds_toArray, List.set_cons_zero, List.set_cons_succ, List.getElem_toArray, List.getElem_cons_succ, List.getElem_cons_zero]
    refine held_stronger (S' := fun w' => (fun w' => Pc1 w xb c b1 ⟨rt c, [c.min]⟩ w') w' ∧ ((fun w' => (Cfx w xb c w'))) w') (fun _ h => h.2) _ _ _ _ ?_
    replace hHeld := And.intro Nk1.out hHeld
    try dsimp only at hHeld
    refine wpAnyH_ready (rs := [7]) (by kernel_rfl) (by simp) ?_
    refine AllReadyH.cons (o := _) rfl (fun K hK => ?_) AllReadyH.nil
    try simp only [List.getElem_toArray, List.getElem_cons_succ, List.getElem_cons_zero]
    go_simp
    have hH2 := hHeld
    obtain ⟨k1, KC⟩ := hH2
    refine ((NP2.out _)).mono ?_
    rintro e w1007 ⟨b2, rfl, hp, hg, hb⟩
    have K2 := hid (Pc2.start k1 hp hg hb)
    have L7 := hid (show (Pc1 w xb c b1 ⟨rt c, [c.min]⟩ w1007) ∧ (Cfx w xb c w1007) from ⟨k1.grown hg, KC.grown hg⟩)
    have Nk2 := hid (show Pc2 w xb c b1 ⟨rt c, [c.min]⟩ b2 ⟨rt c, [c.max]⟩ w1007 from K2.out)
    clear hHeld hg k1 KC
    go_wp2_with fail
    refine hK.out _ _ ?_ (fun hHeld => ?_)
    · exact L7.out
    clear hK K
    try dsimp only at hHeld
    try simp only [Act.put, List.setIfInBounds_toArray, List.set_cons_zero, List.set_cons_succ, List.getElem_toArray, List.getElem_cons_succ, List.getElem_cons_zero]
    refine held_stronger (S' := fun w' => (fun w' => Pc2 w xb c b1 ⟨rt c, [c.min]⟩ b2 ⟨rt c, [c.max]⟩ w') w' ∧ ((fun w' => (Pc1 w xb c b1 ⟨rt c, [c.min]⟩ w') ∧ (Cfx w xb c w'))) w') (fun _ h => h.2) _ _ _ _ ?_
    replace hHeld := And.intro Nk2.out hHeld
    try dsimp only at hHeld
    refine' wpAnyH_take (i := 8) (v := _) rfl (by kernel_rfl) (by kernel_rfl) (by kernel_rfl) (fun _ _ _ h => h) (Or.inl ⟨by rfl, ?_⟩) hHeld ?_
    rotate_left
    · (intro w hSw; (try dsimp only at hSw); go_simp; try with_reducible rfl)
    try simp only [Act.put, List.setIfInBounds_toArray, List.set_cons_zero, List.set_cons_succ, List.getElem_toArray, List.getElem_cons_succ, List.getElem_cons_zero]
    refine' wpAnyH_take (i := 9) (v := _) rfl (by kernel_rfl) (by kernel_rfl) (by kernel_rfl) (fun _ _ _ h => h) (Or.inl ⟨by rfl, ?_⟩) hHeld ?_
    rotate_left
    · (intro w hSw; (try dsimp only at hSw); go_simp; try with_reducible rfl)
    try simp only [Act.put, List.setIfInBounds_toArray, List.set_cons_zero, List.set_cons_succ, List.getElem_toArray, List.getElem_cons_succ, List.getElem_cons_zero]
    refine wpAnyH_done (by kernel_rfl) ?_ _
    obtain ⟨k2, k1, KC⟩ := hHeld
    have K := hid k2; clear KC k1 k2
    go_wp2_with fail
    go_loopw [20] (fun i wr => ∃ k : Nat, k ≤ m ∧ i = .int .i64 (k : Int) ∧ ∃ a b : List Int, Pc2 w xb c b1 ⟨rt c, a⟩ b2 ⟨rt c, b⟩ wr ∧ Under a b) (fun i _ => m - (intOf i).toNat)
    case atStart => exact ⟨0, Nat.zero_le _, rfl, _, _, K.out, under_one HF.out.max.1⟩
    case round =>
      obtain ⟨k, hk, rfl, a, b, hK, hUN⟩ := hrel
      have K := hid hK; have HUN := hid hUN; clear hK hUN
      by_cases hlt : k < m
      · have HLT := hid hlt
        have hkl : k < lw.length := by rw [Hn.out]; have := HM.out; omega
        obtain ⟨ab, ao, rfl, -, hcc, -⟩ := (In.out.grown K.out.k1.gr).cell hkl
        have hx0 := List.getElem?_eq_getElem hkl
        generalize lw[k] = q at *
        have hq := (In.out.grown K.out.k1.gr).cell' hx0
        clear hx0
        obtain ⟨z, z0, z1, mz⟩ := umod_int q 100 (by omega)
        have mz : (IntKind.u64.wrap q).tmod 100 = z := mz
        have cz : IntKind.i64.wrap z = z := IntWalk.i64_in _ (by omega)
        have j1 : k < n := by have := HM.out; omega
        have j2 : k < 20 := by have := HM.out; omega
        have j1' : (k : Int) < (n : Int) := by omega
        clear hlt hk
        by_cases hx : k < nm
        · have jx : (k : Int) < (nm : Int) := by omega
          have hkm : k < lm.length := by rw [Hnm.out]; exact hx
          obtain ⟨xb', xo, rfl, -, hcc3, -⟩ := (Inm.out.grown K.out.k1.gr).cell hkm
          have hxm := List.getElem?_eq_getElem hkm
          generalize lm[k] = qm at *
          have hqm := (Inm.out.grown K.out.k1.gr).cell' hxm
          clear hxm
          obtain ⟨Z, Z0, Z1, mZ⟩ := umod_int qm 50 (by omega)
          have mZ : (IntKind.u64.wrap qm).tmod 50 = Z := mZ
          have cZ : IntKind.i64.wrap Z = Z := IntWalk.i64_in _ (by omega)
          obtain ⟨Q, hQ⟩ : ∃ Q : Int, Q = z + Z := ⟨_, rfl⟩
          have HQ := hid (show z ≤ Q by omega)
          have sQ : IntKind.i64.wrap (z + Z) = Q := by rw [← hQ]; exact IntWalk.i64_in _ (by omega)
          clear hQ
          have OA := K.out.k1.at1.ok; have OB := K.out.k2.at1.ok
          have HLE := hid (Po.lim_mono (p := ⟨rt c, a⟩) (s := ⟨rt c, b⟩) OA rfl HUN.out HQ.out)
          have IA := hid (Po.lim_in OA z)
          have IB := hid (Po.lim_in OB Q)
          have HUN2 := hid (Po.put_under (p := ⟨rt c, a⟩) (s := ⟨rt c, b⟩) rfl HUN.out IA.out IB.out HLE.out)
          clear OA OB
          have EA := hid (show ((⟨rt c, a⟩ : Po).put ((⟨rt c, a⟩ : Po).lim z)).2 = ⟨rt c, ((⟨rt c, a⟩ : Po).put ((⟨rt c, a⟩ : Po).lim z)).2.l⟩ by rw [Po.put_yes IA.out])
          have EB := hid (show ((⟨rt c, b⟩ : Po).put ((⟨rt c, b⟩ : Po).lim Q)).2 = ⟨rt c, ((⟨rt c, b⟩ : Po).put ((⟨rt c, b⟩ : Po).lim Q)).2.l⟩ by rw [Po.put_yes IB.out])
          obtain ⟨va, hva⟩ : ∃ v, (⟨rt c, a⟩ : Po).lim z = v := ⟨_, rfl⟩
          obtain ⟨vb, hvb⟩ : ∃ v, (⟨rt c, b⟩ : Po).lim Q = v := ⟨_, rfl⟩
          have HVA := hid hva; have HVB := hid hvb
          rw [hva] at HLE IA HUN2 EA; rw [hvb] at HLE IB HUN2 EB
          clear hva hvb
          go_wp2_with fail
          refine (plim_as K.out.k1.at1 HVA.out).mono ?_
          rintro e w3 ⟨rfl, hg⟩
          replace K := hid (K.out.grown hg); clear hg
          go_wp2_with fail
          refine (plim_as K.out.k2.at1 HVB.out).mono ?_
          rintro e w4 ⟨rfl, hg⟩
          replace K := hid (K.out.grown hg); clear hg
          have d9 : decide (vb < va) = false := by have := HLE.out; simp; omega
          have d9' : va ≤ vb := HLE.out
          go_wp2_with fail
          refine (pput_as K.out.k1.at1 IA.out EA.out).mono ?_
          rintro e w5 ⟨rfl, hc', hg⟩
          replace K := hid (K.out.chg1 hc' hg); clear hc' hg
          go_wp2_with fail
          refine (pput_as K.out.k2.at1 IB.out EB.out).mono ?_
          rintro e w6 ⟨rfl, hc', hg⟩
          replace K := hid (K.out.chg2 hc' hg); clear hc' hg
          go_wp2_with fail
          go_roundw
          case rel => exact ⟨k + 1, by have := HLT.out; omega, by go_num, _, _, K.out, HUN2.out⟩
          case measure => have := HLT.out; simp [intOf]; omega
        · have jx : ¬ (k : Int) < (nm : Int) := by omega
          have HQ := hid (Int.le_refl z)
          have OA := K.out.k1.at1.ok; have OB := K.out.k2.at1.ok
          have HLE := hid (Po.lim_mono (p := ⟨rt c, a⟩) (s := ⟨rt c, b⟩) OA rfl HUN.out HQ.out)
          have IA := hid (Po.lim_in OA z)
          have IB := hid (Po.lim_in OB z)
          have HUN2 := hid (Po.put_under (p := ⟨rt c, a⟩) (s := ⟨rt c, b⟩) rfl HUN.out IA.out IB.out HLE.out)
          clear OA OB
          have EA := hid (show ((⟨rt c, a⟩ : Po).put ((⟨rt c, a⟩ : Po).lim z)).2 = ⟨rt c, ((⟨rt c, a⟩ : Po).put ((⟨rt c, a⟩ : Po).lim z)).2.l⟩ by rw [Po.put_yes IA.out])
          have EB := hid (show ((⟨rt c, b⟩ : Po).put ((⟨rt c, b⟩ : Po).lim z)).2 = ⟨rt c, ((⟨rt c, b⟩ : Po).put ((⟨rt c, b⟩ : Po).lim z)).2.l⟩ by rw [Po.put_yes IB.out])
          obtain ⟨va, hva⟩ : ∃ v, (⟨rt c, a⟩ : Po).lim z = v := ⟨_, rfl⟩
          obtain ⟨vb, hvb⟩ : ∃ v, (⟨rt c, b⟩ : Po).lim z = v := ⟨_, rfl⟩
          have HVA := hid hva; have HVB := hid hvb
          rw [hva] at HLE IA HUN2 EA; rw [hvb] at HLE IB HUN2 EB
          clear hva hvb
          go_wp2_with fail
          refine (plim_as K.out.k1.at1 HVA.out).mono ?_
          rintro e w3 ⟨rfl, hg⟩
          replace K := hid (K.out.grown hg); clear hg
          go_wp2_with fail
          refine (plim_as K.out.k2.at1 HVB.out).mono ?_
          rintro e w4 ⟨rfl, hg⟩
          replace K := hid (K.out.grown hg); clear hg
          have d9 : decide (vb < va) = false := by have := HLE.out; simp; omega
          have d9' : va ≤ vb := HLE.out
          go_wp2_with fail
          refine (pput_as K.out.k1.at1 IA.out EA.out).mono ?_
          rintro e w5 ⟨rfl, hc', hg⟩
          replace K := hid (K.out.chg1 hc' hg); clear hc' hg
          go_wp2_with fail
          refine (pput_as K.out.k2.at1 IB.out EB.out).mono ?_
          rintro e w6 ⟨rfl, hc', hg⟩
          replace K := hid (K.out.chg2 hc' hg); clear hc' hg
          go_wp2_with fail
          go_roundw
          case rel => exact ⟨k + 1, by have := HLT.out; omega, by go_num, _, _, K.out, HUN2.out⟩
          case measure => have := HLT.out; simp [intOf]; omega
      · obtain rfl : k = m := by omega
        clear hlt
        rcases HM.out.2.2 with e | ⟨e1, e2⟩
        · have j1 : ¬ k < n := by omega
          clear e
          clear hk
          go_wp2_with fail
          refine (told_any _).mono ?_
          rintro e w5 ⟨rfl, hg⟩
          replace K := hid (K.out.grown hg); clear hg
          go_wp2_with fail
          go_ret
          exact ⟨rfl, K.out.k1.gr⟩
        · have j1 : k < n := by omega
          have j2 : ¬ k < 20 := by omega
          clear e1 e2
          clear hk
          go_wp2_with fail
          refine (told_any _).mono ?_
          rintro e w5 ⟨rfl, hg⟩
          replace K := hid (K.out.grown hg); clear hg
          go_wp2_with fail
          go_ret
          exact ⟨rfl, K.out.k1.gr⟩
  · have s1 : ¬ yc < ya := hs
    clear hs
    have XY := hid (show 0 ≤ ya ∧ ya ≤ yc ∧ yc ≤ 10000 by omega)
    have s0 : decide (yc < ya) = false := by simp; omega
    clear ya0 ya1 yc0 yc1
    have BX := hid (bounds_in HOK.out XY.out.1 (Int.le_trans XY.out.2.1 XY.out.2.2))
    have BY := hid (bounds_in HOK.out (Int.le_trans XY.out.1 XY.out.2.1) XY.out.2.2)
    go_wp2_with (first | refine wpList_store_new (w := w1) (cs := c.cells) rfl (by kernel_rfl) (by kernel_rfl) (by kernel_rfl) rfl rfl rfl rfl rfl ?_ | refine wpList_conf C0.out.box rfl rfl rfl rfl ?_)
    refine (pb_as BX.out _).mono ?_
    rintro e w2 ⟨rfl, hg⟩
    have C := hid (C0.out.grown hg); clear hg
    go_wp2_with (refine wpList_conf C.out.box rfl rfl rfl rfl ?_)
    refine (pb_as BY.out _).mono ?_
    rintro e WX ⟨rfl, hg⟩
    replace C := hid (C.out.grown hg); clear hg C0 BX BY
    have g1 := Rt.lo_mono HOK.out XY.out.2.1
    have g2 := Rt.hi_mono HOK.out XY.out.2.1
    have g3 := (Rt.lo_le HOK.out XY.out.1).2
    have g4 := Rt.hi_ge HOK.out (b := ya)
    generalize w1.heap.size = xb at *
    generalize (rt c).lo ya = lx at *
    generalize (rt c).hi ya = hx at *
    generalize (rt c).lo yc = ly at *
    generalize (rt c).hi yc = hy at *
    have t1 : decide (ly < lx) = false := by simp; omega
    have t2 : decide (hy < hx) = false := by simp; omega
    have t3 : decide (ya < lx) = false := by simp; omega
    have t4 : decide (hx < ya) = false := by simp; omega
    have u1 : lx ≤ ly := g1
    have u2 : hx ≤ hy := g2
    have u3 : lx ≤ ya := g3
    have u4 : ya ≤ hx := by omega
    clear g1 g2 g3 g4
    have fm := HF.out.min; have fx := HF.out.max
    have NP1 := hid (pnew_ok c c.min (fine_may HF.out) (in_of (Int.le_refl _) fx.1))
    have NP2 := hid (pnew_ok c c.max (fine_may HF.out) (in_of fx.1 (Int.le_refl _)))
    clear fm fx
    go_wp2_with fail
    clear t1 t2 t3 t4 u1 u2 u3 u4 s0
    refine wp_region_held_drew (S := (fun w' => (Cfx w xb c w'))) (by kernel_rfl) C.out.drew (fun hHeld => ?_)
    try dsimp only at hHeld
    refine' wpAnyH_take (i := 0) (v := _) rfl (by kernel_rfl) (by kernel_rfl) (by kernel_rfl) (fun _ _ _ h => h) (Or.inl ⟨by rfl, ?_⟩) hHeld ?_
    rotate_left
    · (intro w hSw; (try dsimp only at hSw); (try simp only [List.getElem_toArray, List.getElem_cons_succ, List.getElem_cons_zero]); refine exec_row (x := .tmp 11) hSw.box Try.underlying26 rfl (by kernel_rfl) ?_ ?_ <;> rfl)
    try simp only [Act.put, List.setIfInBounds_toArray, List.set_cons_zero, List.set_cons_succ, List.getElem_toArray, List.getElem_cons_succ, List.getElem_cons_zero]
    refine' wpAnyH_take (i := 1) (v := _) rfl (by kernel_rfl) (by kernel_rfl) (by kernel_rfl) (fun _ _ _ h => h) (Or.inl ⟨by rfl, ?_⟩) hHeld ?_
    rotate_left
    · (intro w hSw; (try dsimp only at hSw); go_simp; try with_reducible rfl)
    try simp only [Act.put, List.setIfInBounds_toArray, List.set_cons_zero, List.set_cons_succ, List.getElem_toArray, List.getElem_cons_succ, List.getElem_cons_zero]
    refine' wpAnyH_take (i := 2) (v := _) rfl (by kernel_rfl) (by kernel_rfl) (by kernel_rfl) (fun _ _ _ h => h) (Or.inl ⟨by rfl, ?_⟩) hHeld ?_
    rotate_left
    · (intro w hSw; (try dsimp only at hSw); have KC := hSw; have q9 := at_cell KC.box 12; go_simp; try with_reducible rfl)
    try simp only [Act.put, List.setIfInBounds_toArray, List.set_cons_zero, List.set_cons_succ, List.getElem_toArray, List.getElem_cons_succ, List.getElem_cons_zero]
    refine' wpAnyH_take (i := 4) (v := _) rfl (by kernel_rfl) (by kernel_rfl) (by kernel_rfl) (fun _ _ _ h => h) (Or.inl ⟨by rfl, ?_⟩) hHeld ?_
    rotate_left
    · (intro w hSw; (try dsimp only at hSw); (try simp only [List.getElem_toArray, List.getElem_cons_succ, List.getElem_cons_zero]); refine exec_row (x := .tmp 11) hSw.box Try.underlying26 rfl (by kernel_rfl) ?_ ?_ <;> rfl)
    try simp only [Act.put, List.setIfInBounds_toArray, List.set_cons_zero, List.set_cons_succ, List.getElem_toArray, List.getElem_cons_succ, List.getElem_cons_zero]
    refine' wpAnyH_take (i := 5) (v := _) rfl (by kernel_rfl) (by kernel_rfl) (by kernel_rfl) (fun _ _ _ h => h) (Or.inl ⟨by rfl, ?_⟩) hHeld ?_
    rotate_left
    · (intro w hSw; (try dsimp only at hSw); go_simp; try with_reducible rfl)
    try simp only [Act.put, List.setIfInBounds_toArray, List.set_cons_zero, List.set_cons_succ, List.getElem_toArray, List.getElem_cons_succ, List.getElem_cons_zero]
    refine' wpAnyH_take (i := 6) (v := _) rfl (by kernel_rfl) (by kernel_rfl) (by kernel_rfl) (fun _ _ _ h => h) (Or.inl ⟨by rfl, ?_⟩) hHeld ?_
    rotate_left
    · (intro w hSw; (try dsimp only at hSw); have KC := hSw; have q9 := at_cell KC.box 13; go_simp; try with_reducible rfl)
    try simp only [Act.put, List.setIfInBounds_toArray, List.set_cons_zero, List.set_cons_succ, List.getElem_toArray, List.getElem_cons_succ, List.getElem_cons_zero]
    refine wpAnyH_ready (rs := [3]) (by kernel_rfl) (by simp) ?_
    refine AllReadyH.cons (o := _) rfl (fun K hK => ?_) AllReadyH.nil
    try simp only [List.getElem_toArray, List.getElem_cons_succ, List.getElem_cons_zero]
    go_simp
    have hH2 := hHeld
    have KC := hH2
    refine ((NP1.out _)).mono ?_
    rintro e w1003 ⟨b1, rfl, hp, hg, hb⟩
    have K1 := hid (Pc1.start KC hp hg hb)
    have L3 := hid (show (Cfx w xb c w1003) from (KC.grown hg))
    have Nk1 := hid (show Pc1 w xb c b1 ⟨rt c, [c.min]⟩ w1003 from K1.out)
    clear hHeld hg KC
    go_wp2_with fail
    refine hK.out _ _ ?_ (fun hHeld => ?_)
    · exact L3.out
    clear hK K
    try dsimp only at hHeld
    try simp only [Act.put, List.setIfInBounds_toArray, List.set_cons_zero, List.set_cons_succ, List.getElem_toArray, List.getElem_cons_succ, List.getElem_cons_zero]
    refine held_stronger (S' := fun w' => (fun w' => Pc1 w xb c b1 ⟨rt c, [c.min]⟩ w') w' ∧ ((fun w' => (Cfx w xb c w'))) w') (fun _ h => h.2) _ _ _ _ ?_
    replace hHeld := And.intro Nk1.out hHeld
    try dsimp only at hHeld
    refine wpAnyH_ready (rs := [7]) (by kernel_rfl) (by simp) ?_
    refine AllReadyH.cons (o := _) rfl (fun K hK => ?_) AllReadyH.nil
    try simp only [List.getElem_toArray, List.getElem_cons_succ, List.getElem_cons_zero]
    go_simp
    have hH2 := hHeld
    obtain ⟨k1, KC⟩ := hH2
    refine ((NP2.out _)).mono ?_
    rintro e w1007 ⟨b2, rfl, hp, hg, hb⟩
    have K2 := hid (Pc2.start k1 hp hg hb)
    have L7 := hid (show (Pc1 w xb c b1 ⟨rt c, [c.min]⟩ w1007) ∧ (Cfx w xb c w1007) from ⟨k1.grown hg, KC.grown hg⟩)
    have Nk2 := hid (show Pc2 w xb c b1 ⟨rt c, [c.min]⟩ b2 ⟨rt c, [c.max]⟩ w1007 from K2.out)
    clear hHeld hg k1 KC
    go_wp2_with fail
    refine hK.out _ _ ?_ (fun hHeld => ?_)
    · exact L7.out
    clear hK K
    try dsimp only at hHeld
    try simp only [Act.put, List.setIfInBounds_toArray, List.set_cons_zero, List.set_cons_succ, List.getElem_toArray, List.getElem_cons_succ, List.getElem_cons_zero]
    refine held_stronger (S' := fun w' => (fun w' => Pc2 w xb c b1 ⟨rt c, [c.min]⟩ b2 ⟨rt c, [c.max]⟩ w') w' ∧ ((fun w' => (Pc1 w xb c b1 ⟨rt c, [c.min]⟩ w') ∧ (Cfx w xb c w'))) w') (fun _ h => h.2) _ _ _ _ ?_
    replace hHeld := And.intro Nk2.out hHeld
    try dsimp only at hHeld
    refine' wpAnyH_take (i := 8) (v := _) rfl (by kernel_rfl) (by kernel_rfl) (by kernel_rfl) (fun _ _ _ h => h) (Or.inl ⟨by rfl, ?_⟩) hHeld ?_
    rotate_left
    · (intro w hSw; (try dsimp only at hSw); go_simp; try with_reducible rfl)
    try simp only [Act.put, List.setIfInBounds_toArray, List.set_cons_zero, List.set_cons_succ, List.getElem_toArray, List.getElem_cons_succ, List.getElem_cons_zero]
    refine' wpAnyH_take (i := 9) (v := _) rfl (by kernel_rfl) (by kernel_rfl) (by kernel_rfl) (fun _ _ _ h => h) (Or.inl ⟨by rfl, ?_⟩) hHeld ?_
    rotate_left
    · (intro w hSw; (try dsimp only at hSw); go_simp; try with_reducible rfl)
    try simp only [Act.put, List.setIfInBounds_toArray, List.set_cons_zero, List.set_cons_succ, List.getElem_toArray, List.getElem_cons_succ, List.getElem_cons_zero]
    refine wpAnyH_done (by kernel_rfl) ?_ _
    obtain ⟨k2, k1, KC⟩ := hHeld
    have K := hid k2; clear KC k1 k2
    go_wp2_with fail
    go_loopw [20] (fun i wr => ∃ k : Nat, k ≤ m ∧ i = .int .i64 (k : Int) ∧ ∃ a b : List Int, Pc2 w xb c b1 ⟨rt c, a⟩ b2 ⟨rt c, b⟩ wr ∧ Under a b) (fun i _ => m - (intOf i).toNat)
    case atStart => exact ⟨0, Nat.zero_le _, rfl, _, _, K.out, under_one HF.out.max.1⟩
    case round =>
      obtain ⟨k, hk, rfl, a, b, hK, hUN⟩ := hrel
      have K := hid hK; have HUN := hid hUN; clear hK hUN
      by_cases hlt : k < m
      · have HLT := hid hlt
        have hkl : k < lw.length := by rw [Hn.out]; have := HM.out; omega
        obtain ⟨ab, ao, rfl, -, hcc, -⟩ := (In.out.grown K.out.k1.gr).cell hkl
        have hx0 := List.getElem?_eq_getElem hkl
        generalize lw[k] = q at *
        have hq := (In.out.grown K.out.k1.gr).cell' hx0
        clear hx0
        obtain ⟨z, z0, z1, mz⟩ := umod_int q 100 (by omega)
        have mz : (IntKind.u64.wrap q).tmod 100 = z := mz
        have cz : IntKind.i64.wrap z = z := IntWalk.i64_in _ (by omega)
        have j1 : k < n := by have := HM.out; omega
        have j2 : k < 20 := by have := HM.out; omega
        have j1' : (k : Int) < (n : Int) := by omega
        clear hlt hk
        by_cases hx : k < nm
        · have jx : (k : Int) < (nm : Int) := by omega
          have hkm : k < lm.length := by rw [Hnm.out]; exact hx
          obtain ⟨xb', xo, rfl, -, hcc3, -⟩ := (Inm.out.grown K.out.k1.gr).cell hkm
          have hxm := List.getElem?_eq_getElem hkm
          generalize lm[k] = qm at *
          have hqm := (Inm.out.grown K.out.k1.gr).cell' hxm
          clear hxm
          obtain ⟨Z, Z0, Z1, mZ⟩ := umod_int qm 50 (by omega)
          have mZ : (IntKind.u64.wrap qm).tmod 50 = Z := mZ
          have cZ : IntKind.i64.wrap Z = Z := IntWalk.i64_in _ (by omega)
          obtain ⟨Q, hQ⟩ : ∃ Q : Int, Q = z + Z := ⟨_, rfl⟩
          have HQ := hid (show z ≤ Q by omega)
          have sQ : IntKind.i64.wrap (z + Z) = Q := by rw [← hQ]; exact IntWalk.i64_in _ (by omega)
          clear hQ
          have OA := K.out.k1.at1.ok; have OB := K.out.k2.at1.ok
          have HLE := hid (Po.lim_mono (p := ⟨rt c, a⟩) (s := ⟨rt c, b⟩) OA rfl HUN.out HQ.out)
          have IA := hid (Po.lim_in OA z)
          have IB := hid (Po.lim_in OB Q)
          have HUN2 := hid (Po.put_under (p := ⟨rt c, a⟩) (s := ⟨rt c, b⟩) rfl HUN.out IA.out IB.out HLE.out)
          clear OA OB
          have EA := hid (show ((⟨rt c, a⟩ : Po).put ((⟨rt c, a⟩ : Po).lim z)).2 = ⟨rt c, ((⟨rt c, a⟩ : Po).put ((⟨rt c, a⟩ : Po).lim z)).2.l⟩ by rw [Po.put_yes IA.out])
          have EB := hid (show ((⟨rt c, b⟩ : Po).put ((⟨rt c, b⟩ : Po).lim Q)).2 = ⟨rt c, ((⟨rt c, b⟩ : Po).put ((⟨rt c, b⟩ : Po).lim Q)).2.l⟩ by rw [Po.put_yes IB.out])
          obtain ⟨va, hva⟩ : ∃ v, (⟨rt c, a⟩ : Po).lim z = v := ⟨_, rfl⟩
          obtain ⟨vb, hvb⟩ : ∃ v, (⟨rt c, b⟩ : Po).lim Q = v := ⟨_, rfl⟩
          have HVA := hid hva; have HVB := hid hvb
          rw [hva] at HLE IA HUN2 EA; rw [hvb] at HLE IB HUN2 EB
          clear hva hvb
          go_wp2_with fail
          refine (plim_as K.out.k1.at1 HVA.out).mono ?_
          rintro e w3 ⟨rfl, hg⟩
          replace K := hid (K.out.grown hg); clear hg
          go_wp2_with fail
          refine (plim_as K.out.k2.at1 HVB.out).mono ?_
          rintro e w4 ⟨rfl, hg⟩
          replace K := hid (K.out.grown hg); clear hg
          have d9 : decide (vb < va) = false := by have := HLE.out; simp; omega
          have d9' : va ≤ vb := HLE.out
          go_wp2_with fail
          refine (pput_as K.out.k1.at1 IA.out EA.out).mono ?_
          rintro e w5 ⟨rfl, hc', hg⟩
          replace K := hid (K.out.chg1 hc' hg); clear hc' hg
          go_wp2_with fail
          refine (pput_as K.out.k2.at1 IB.out EB.out).mono ?_
          rintro e w6 ⟨rfl, hc', hg⟩
          replace K := hid (K.out.chg2 hc' hg); clear hc' hg
          go_wp2_with fail
          go_roundw
          case rel => exact ⟨k + 1, by have := HLT.out; omega, by go_num, _, _, K.out, HUN2.out⟩
          case measure => have := HLT.out; simp [intOf]; omega
        · have jx : ¬ (k : Int) < (nm : Int) := by omega
          have HQ := hid (Int.le_refl z)
          have OA := K.out.k1.at1.ok; have OB := K.out.k2.at1.ok
          have HLE := hid (Po.lim_mono (p := ⟨rt c, a⟩) (s := ⟨rt c, b⟩) OA rfl HUN.out HQ.out)
          have IA := hid (Po.lim_in OA z)
          have IB := hid (Po.lim_in OB z)
          have HUN2 := hid (Po.put_under (p := ⟨rt c, a⟩) (s := ⟨rt c, b⟩) rfl HUN.out IA.out IB.out HLE.out)
          clear OA OB
          have EA := hid (show ((⟨rt c, a⟩ : Po).put ((⟨rt c, a⟩ : Po).lim z)).2 = ⟨rt c, ((⟨rt c, a⟩ : Po).put ((⟨rt c, a⟩ : Po).lim z)).2.l⟩ by rw [Po.put_yes IA.out])
          have EB := hid (show ((⟨rt c, b⟩ : Po).put ((⟨rt c, b⟩ : Po).lim z)).2 = ⟨rt c, ((⟨rt c, b⟩ : Po).put ((⟨rt c, b⟩ : Po).lim z)).2.l⟩ by rw [Po.put_yes IB.out])
          obtain ⟨va, hva⟩ : ∃ v, (⟨rt c, a⟩ : Po).lim z = v := ⟨_, rfl⟩
          obtain ⟨vb, hvb⟩ : ∃ v, (⟨rt c, b⟩ : Po).lim z = v := ⟨_, rfl⟩
          have HVA := hid hva; have HVB := hid hvb
          rw [hva] at HLE IA HUN2 EA; rw [hvb] at HLE IB HUN2 EB
          clear hva hvb
          go_wp2_with fail
          refine (plim_as K.out.k1.at1 HVA.out).mono ?_
          rintro e w3 ⟨rfl, hg⟩
          replace K := hid (K.out.grown hg); clear hg
          go_wp2_with fail
          refine (plim_as K.out.k2.at1 HVB.out).mono ?_
          rintro e w4 ⟨rfl, hg⟩
          replace K := hid (K.out.grown hg); clear hg
          have d9 : decide (vb < va) = false := by have := HLE.out; simp; omega
          have d9' : va ≤ vb := HLE.out
          go_wp2_with fail
          refine (pput_as K.out.k1.at1 IA.out EA.out).mono ?_
          rintro e w5 ⟨rfl, hc', hg⟩
          replace K := hid (K.out.chg1 hc' hg); clear hc' hg
          go_wp2_with fail
          refine (pput_as K.out.k2.at1 IB.out EB.out).mono ?_
          rintro e w6 ⟨rfl, hc', hg⟩
          replace K := hid (K.out.chg2 hc' hg); clear hc' hg
          go_wp2_with fail
          go_roundw
          case rel => exact ⟨k + 1, by have := HLT.out; omega, by go_num, _, _, K.out, HUN2.out⟩
          case measure => have := HLT.out; simp [intOf]; omega
      · obtain rfl : k = m := by omega
        clear hlt
        rcases HM.out.2.2 with e | ⟨e1, e2⟩
        · have j1 : ¬ k < n := by omega
          clear e
          clear hk
          go_wp2_with fail
          refine (told_any _).mono ?_
          rintro e w5 ⟨rfl, hg⟩
          replace K := hid (K.out.grown hg); clear hg
          go_wp2_with fail
          go_ret
          exact ⟨rfl, K.out.k1.gr⟩
        · have j1 : k < n := by omega
          have j2 : ¬ k < 20 := by omega
          clear e1 e2
          clear hk
          go_wp2_with fail
          refine (told_any _).mono ?_
          rintro e w5 ⟨rfl, hg⟩
          replace K := hid (K.out.grown hg); clear hg
          go_wp2_with fail
          go_ret
          exact ⟨rfl, K.out.k1.gr⟩
end Go.Proofs.Ytmhpldnmapjghaa.prises
