/-
  The walk of the statement LawRises: of greater counts and values there comes no lesser count. No condition.
-/
import Derived.Test.YthobbekocimcnaaZ9
import Derived.Test.YthobbekocimcnaaZ2
import Derived.BigQuiet
import Derived.Deep.QuietTactic
import Derived.Deep.RegionHeld3
set_option linter.unusedSimpArgs false
set_option linter.unusedVariables false
namespace Go.Proofs.Ythobbekocimcnaa.lrises
set_option maxRecDepth 100000
open Go.RowKit

theorem OneAt.at' {w : World} {ab ao c n : Nat} {g : Nat → Value} (h : OneAt w (.slice (some ⟨ab, ao, none⟩) n c) n g) {j : Nat} (hj : j < n) : w.cell? ⟨ab, ao + j, none⟩ = some (g j) := by
  obtain ⟨ab', ao', e, h2⟩ := h.cell hj
  cases e; exact h2 j hj
theorem bag_apart {w WZ W : World} {x : Nat} {c : Conf} {B1 B2 : LBl} {s t : La} {u : Value} {pu : Option Addr} {m ku : Nat} {va vb : List Int} (h : Bag2 WZ u va (.slice pu m ku) vb [] W) (K : Lk2 w x c B1 s B2 t WZ) (hm : 1 ≤ m) (hl : vb.length = m) : ∀ a, pu = some a → a.block ∉ B1.F := by
  intro a e hb
  subst e
  have h1 := (h.o2.at a.block (by simp [ownL, Value.ownBlock])).1
  have h2 := K.k1.k.at1.lts a.block hb
  omega
set_option maxHeartbeats 12800000 in
theorem walk {w : World} (l : List Int) (p : Option Addr) (cap : Nat) (i0 : IntsAt w (.slice p l.length cap) l) (xa xc : Int) (lw : List Int) (p3 : Option Addr) (c3 : Nat) (i3 : IntsAt w (.slice p3 lw.length c3) lw) (lm : List Int) (p4 : Option Addr) (c4 : Nat) (i4 : IntsAt w (.slice p4 lm.length c4) lm) (fh : Nat → Bool) (lh : Nat) (ph : Option Addr) (ch : Nat) (ih : OneAt w (.slice ph lh ch) lh (fun i => .bool (fh i))) :
    Calls Try.prog 4 #[.slice p l.length cap, .int .i64 xa, .int .i64 xc, .slice p3 lw.length c3, .slice p4 lm.length c4, .slice ph lh ch] w fun e w' => e = .returned (.bool true) ∧ w.grownBy w' none := by
  have nl := i3.len
  unfold maxLen at nl
  obtain ⟨n, hn⟩ : ∃ n, lw.length = n := ⟨_, rfl⟩
  rw [hn] at i3 nl ⊢
  have Hn := hid hn; have In := hid i3
  clear hn i3
  have nml := i4.len
  unfold maxLen at nml
  obtain ⟨nm, hnm⟩ : ∃ n, lm.length = n := ⟨_, rfl⟩
  rw [hnm] at i4 nml ⊢
  have Hnm := hid hnm; have Inm := hid i4
  clear hnm i4
  have lhl := ih.len
  unfold maxLen at lhl
  have IH := hid ih; clear ih
  obtain ⟨mm, hmm⟩ : ∃ m : Nat, m = min n 40 := ⟨_, rfl⟩
  have HMM := hid (show mm ≤ n ∧ mm ≤ 40 ∧ (mm = n ∨ (mm < n ∧ mm = 40)) by omega)
  clear hmm
  go_enter Try.func4, Try.ntmps4
  go_wp2_with fail
  refine (fit_any l p cap _ i0).mono ?_
  rintro e w1 ⟨c, rfl, hF, hg⟩
  have HF := hid hF; have C0 := hid (cfx_new c hg); clear hg hF
  obtain ⟨m, u, d, hm, hu, hd, hm1, hm2, hu3, hd4, hok, -⟩ := fine_law HF.out
  have HM := hid hm; have HU := hid hu; have HD := hid hd; have HM12 := hid (And.intro hm1 hm2); have HUD := hid (And.intro hu3 hd4); have HOK := hid hok
  clear hm hu hd hm1 hm2 hu3 hd4 hok
  obtain ⟨d0, D, hd0, hD, hDu, hD0, hx⟩ := draw_in HF.out
  obtain ⟨z1, f1, hz1, hzu1, hzi1, hf1, f10, f11⟩ := hx xa
  obtain ⟨z2, f2, hz2, hzu2, hzi2, hf2, f20, f21⟩ := hx xc
  clear hx
  have hbx := C0.out.box
  have c9 := at_cell hbx 12; have c10 := at_cell hbx 13
  clear hbx
  go_wp2_with (refine wpList_store_new (w := w1) (cs := c.cells) rfl (by kernel_rfl) (by kernel_rfl) (by kernel_rfl) rfl rfl rfl rfl rfl ?_)
  go_quiet (fail)
  refine exit_gen (fun wx => Cfx w w1.heap.size c wx) (C0.out.grown ⟨rfl, rfl, rfl, Nat.le_refl _, fun _ _ _ => rfl⟩) (fun wx hKx => ?_)
  have C := hid hKx
  clear hKx C0 c9 c10 hd0 hD hDu hD0 hz1 hzu1 hzi1 hf1 hz2 hzu2 hzi2 hf2
  generalize w1.heap.size = xb at *
  by_cases hs : f2 < f1
  · have s1 : f2 < f1 := hs
    have hle : f2 ≤ f1 := by omega
    have NP1 := hid (lnew_fine HF.out HM.out HU.out HD.out HM12.out.1 HM12.out.2 HUD.out.1 HUD.out.2 f20 f21 (HOK.out _ f20 f21))
    have NP2 := hid (lnew_fine HF.out HM.out HU.out HD.out HM12.out.1 HM12.out.2 HUD.out.1 HUD.out.2 f10 f11 (HOK.out _ f10 f11))
    have HL1 := hid (lof_new c m u d f2); have HL2 := hid (lof_new c m u d f1); have HB0 := hid (below_new c m u d hle)
    obtain ⟨sa, hsa⟩ : ∃ s, laOf c m u d f2 = s := ⟨_, rfl⟩
    obtain ⟨sb, hsb⟩ : ∃ s, laOf c m u d f1 = s := ⟨_, rfl⟩
    rw [hsa] at NP1 HL1 HB0
    rw [hsb] at NP2 HL2 HB0
    clear hsa hsb hle f10 f11 f20 f21 HOK HU HD HUD
    go_wp2_with fail
    generalize wx = zw at *
    refine wp_region_held_drew (S := (fun w' => (Cfx w xb c w'))) (by kernel_rfl) C.out.drew (fun hHeld => ?_)
    try dsimp only at hHeld
    refine' wpAnyH_take (i := 0) (v := _) rfl (by kernel_rfl) (by kernel_rfl) (by kernel_rfl) (fun _ _ _ h => h) (Or.inl ⟨by rfl, ?_⟩) hHeld ?_
    rotate_left
    · (intro w hSw; (try dsimp only at hSw); (try simp only [List.getElem_toArray, List.getElem_cons_succ, List.getElem_cons_zero]); refine exec_row (x := .tmp 13) hSw.box Try.underlying27 rfl (by kernel_rfl) ?_ ?_ <;> rfl)
    try simp only [Act.put, List.setIfInBounds_toArray, List.set_cons_zero, List.set_cons_succ, List.getElem_toArray, List.getElem_cons_succ, List.getElem_cons_zero]
    refine' wpAnyH_take (i := 1) (v := _) rfl (by kernel_rfl) (by kernel_rfl) (by kernel_rfl) (fun _ _ _ h => h) (Or.inl ⟨by rfl, ?_⟩) hHeld ?_
    rotate_left
    · (intro w hSw; (try dsimp only at hSw); go_simp; try with_reducible rfl)
    try simp only [Act.put, List.setIfInBounds_toArray, List.set_cons_zero, List.set_cons_succ, List.getElem_toArray, List.getElem_cons_succ, List.getElem_cons_zero]
    refine' wpAnyH_take (i := 3) (v := _) rfl (by kernel_rfl) (by kernel_rfl) (by kernel_rfl) (fun _ _ _ h => h) (Or.inl ⟨by rfl, ?_⟩) hHeld ?_
    rotate_left
    · (intro w hSw; (try dsimp only at hSw); (try simp only [List.getElem_toArray, List.getElem_cons_succ, List.getElem_cons_zero]); refine exec_row (x := .tmp 13) hSw.box Try.underlying27 rfl (by kernel_rfl) ?_ ?_ <;> rfl)
    try simp only [Act.put, List.setIfInBounds_toArray, List.set_cons_zero, List.set_cons_succ, List.getElem_toArray, List.getElem_cons_succ, List.getElem_cons_zero]
    refine' wpAnyH_take (i := 4) (v := _) rfl (by kernel_rfl) (by kernel_rfl) (by kernel_rfl) (fun _ _ _ h => h) (Or.inl ⟨by rfl, ?_⟩) hHeld ?_
    rotate_left
    · (intro w hSw; (try dsimp only at hSw); go_simp; try with_reducible rfl)
    try simp only [Act.put, List.setIfInBounds_toArray, List.set_cons_zero, List.set_cons_succ, List.getElem_toArray, List.getElem_cons_succ, List.getElem_cons_zero]
    refine wpAnyH_ready (rs := [2]) (by kernel_rfl) (by simp) ?_
    refine AllReadyH.cons (o := _) rfl (fun K hK => ?_) AllReadyH.nil
    try simp only [List.getElem_toArray, List.getElem_cons_succ, List.getElem_cons_zero]
    go_simp
    have hH2 := hHeld
    have KC := hH2
    refine ((NP1.out _)).mono ?_
    rintro e w1002 ⟨B1, rfl, hl, hg, hb⟩
    have K1 := hid (Lk1.start KC hl hg hb)
    have L2 := hid (show (Cfx w xb c w1002) from (KC.grown hg))
    have Nk1 := hid (show Lk1 w xb c B1 sa w1002 from K1.out)
    clear hHeld hg KC
    go_wp2_with fail
    refine hK.out _ _ ?_ (fun hHeld => ?_)
    · exact L2.out
    clear hK K
    try dsimp only at hHeld
    try simp only [Act.put, List.setIfInBounds_toArray, List.set_cons_zero, List.set_cons_succ, List.getElem_toArray, List.getElem_cons_succ, List.getElem_cons_zero]
    refine held_stronger (S' := fun w' => (fun w' => Lk1 w xb c B1 sa w') w' ∧ ((fun w' => (Cfx w xb c w'))) w') (fun _ h => h.2) _ _ _ _ ?_
    replace hHeld := And.intro Nk1.out hHeld
    try dsimp only at hHeld
    refine wpAnyH_ready (rs := [5]) (by kernel_rfl) (by simp) ?_
    refine AllReadyH.cons (o := _) rfl (fun K hK => ?_) AllReadyH.nil
    try simp only [List.getElem_toArray, List.getElem_cons_succ, List.getElem_cons_zero]
    go_simp
    have hH2 := hHeld
    obtain ⟨k1, KC⟩ := hH2
    refine ((NP2.out _)).mono ?_
    rintro e w1005 ⟨B2, rfl, hl, hg, hb⟩
    have K2 := hid (Lk2.start k1 hl hg hb)
    have L5 := hid (show (Lk1 w xb c B1 sa w1005) ∧ (Cfx w xb c w1005) from ⟨k1.grown hg, KC.grown hg⟩)
    have Nk2 := hid (show Lk2 w xb c B1 sa B2 sb w1005 from K2.out)
    clear hHeld hg k1 KC
    go_wp2_with fail
    refine hK.out _ _ ?_ (fun hHeld => ?_)
    · exact L5.out
    clear hK K
    try dsimp only at hHeld
    try simp only [Act.put, List.setIfInBounds_toArray, List.set_cons_zero, List.set_cons_succ, List.getElem_toArray, List.getElem_cons_succ, List.getElem_cons_zero]
    refine held_stronger (S' := fun w' => (fun w' => Lk2 w xb c B1 sa B2 sb w') w' ∧ ((fun w' => (Lk1 w xb c B1 sa w') ∧ (Cfx w xb c w'))) w') (fun _ h => h.2) _ _ _ _ ?_
    replace hHeld := And.intro Nk2.out hHeld
    try dsimp only at hHeld
    refine' wpAnyH_take (i := 6) (v := _) rfl (by kernel_rfl) (by kernel_rfl) (by kernel_rfl) (fun _ _ _ h => h) (Or.inl ⟨by rfl, ?_⟩) hHeld ?_
    rotate_left
    · (intro w hSw; (try dsimp only at hSw); go_simp; try with_reducible rfl)
    try simp only [Act.put, List.setIfInBounds_toArray, List.set_cons_zero, List.set_cons_succ, List.getElem_toArray, List.getElem_cons_succ, List.getElem_cons_zero]
    refine' wpAnyH_take (i := 7) (v := _) rfl (by kernel_rfl) (by kernel_rfl) (by kernel_rfl) (fun _ _ _ h => h) (Or.inl ⟨by rfl, ?_⟩) hHeld ?_
    rotate_left
    · (intro w hSw; (try dsimp only at hSw); go_simp; try with_reducible rfl)
    try simp only [Act.put, List.setIfInBounds_toArray, List.set_cons_zero, List.set_cons_succ, List.getElem_toArray, List.getElem_cons_succ, List.getElem_cons_zero]
    refine wpAnyH_done (by kernel_rfl) ?_ _
    obtain ⟨k2, k1, KC⟩ := hHeld
    have K := hid k2; clear KC k1 k2
    go_wp2_with fail
    go_loopw [18] (fun i wr => ∃ k : Nat, k ≤ mm ∧ i = .int .i64 (k : Int) ∧ ∃ s t : La, Lk2 w xb c B1 s B2 t wr ∧ Lof c m s ∧ Lof c m t ∧ Below2 s t) (fun i _ => mm - (intOf i).toNat)
    case atStart => exact ⟨0, Nat.zero_le _, rfl, _, _, K.out, HL1.out, HL2.out, HB0.out⟩
    case round =>
      obtain ⟨k, hk, rfl, s, t, hK, hlf, hlg, hbl⟩ := hrel
      have K := hid hK; have LF := hid hlf; have LG := hid hlg; have BL := hid hbl; clear hK hlf hlg hbl
      by_cases hlt : k < mm
      · have HLT := hid hlt
        have j1 : k < n := by have := HMM.out; omega
        have j2 : k < 40 := by have := HMM.out; omega
        have j1' : (k : Int) < (n : Int) := by omega
        have j2' : (k : Int) < 40 := by omega
        clear hlt hk
        by_cases hh : k < lh
        · have jh : k < lh := hh
          have jh' : (k : Int) < (lh : Int) := by omega
          clear hh
          obtain ⟨hb, ho, rfl, -⟩ := (IH.out.grown K.out.k1.k.gr).cell jh
          have qh := OneAt.at' (IH.out.grown K.out.k1.k.gr) jh
          generalize fh k = bh at qh
          cases bh with
          | false =>
            go_wp2_with fail
            obtain ⟨WZ, hWZ⟩ : ∃ x, x = wr := ⟨_, rfl⟩
            subst hWZ
            have HT1 := hid (show s.tg.length = m by rw [LF.out.tg]; exact tgOf_len c (by have := HM12.out; omega))
            have HT2 := hid (show t.tg.length = m by rw [LG.out.tg]; exact tgOf_len c (by have := HM12.out; omega))
            go_loopw [19, 20, 21] (fun x' y' j wr => ∃ (jj : Nat) (va vb : List Int), jj ≤ m ∧ j = .int .i64 (jj : Int) ∧ Uv jj va vb ∧ Bag2 WZ x' va y' vb [] wr) (fun _ _ j _ => m - (intOf j).toNat)
            case atStart => exact ⟨0, [], [], Nat.zero_le _, rfl, .nil, .start _⟩
            case round =>
              obtain ⟨jj, va, vb, hj, rfl, huv, hbag⟩ := hrel
              have UV := hid huv; have TG := hid hbag; clear huv
              have K2 := hid (K.out.grown TG.out.gr)
              have cm : wr.cell? ⟨xb, 2, none⟩ = some (.int .i64 (m : Int)) := (at_cell K2.out.k1.box 2).trans (congrArg (fun z => some (Value.int .i64 z)) HM.out)
              obtain ⟨pv, kv, rfl⟩ := hbag.o1.form
              obtain ⟨pu, ku, rfl⟩ := hbag.o2.form
              clear hbag
              rw [UV.out.la, UV.out.lb] at TG ⊢
              have m2 : m ≤ 2 := HM12.out.2
              by_cases hjt : jj < m
              · have HJT := hid hjt
                have i1 : (jj : Int) < (m : Int) := by omega
                clear hjt
                obtain ⟨kj, hkj⟩ : ∃ x : Nat, x = k + jj := ⟨_, rfl⟩
                have e1 : IntKind.i64.wrap ((k : Int) + (jj : Int)) = (kj : Int) := by rw [IntWalk.i64_in _ (by omega)]; omega
                obtain ⟨r, hr⟩ : ∃ x : Nat, x = kj % n := ⟨_, rfl⟩
                have hrn : r < n := by rw [hr]; exact Nat.mod_lt _ (by omega)
                have HR := hid hr
                have e2 : (kj : Int) % (n : Int) = (r : Int) := by rw [hr]; exact (Int.natCast_emod kj n).symm
                have e2' : (kj : Int).tmod (n : Int) = (r : Int) := by rw [Int.tmod_eq_emod_of_nonneg (by omega)]; exact e2
                have n0 : ¬ (n : Int) = 0 := by omega
                have n0' : ¬ n = 0 := by omega
                have n1 : (1 : Int) ≤ (n : Int) := by omega
                have rn' : (r : Int) < (n : Int) := by omega
                have hkl : r < lw.length := by rw [Hn.out]; exact hrn
                obtain ⟨ab, ao, rfl, -, hcc, -⟩ := (In.out.grown K2.out.k1.k.gr).cell hkl
                have hx0 := List.getElem?_eq_getElem hkl
                generalize lw[r] = q at *
                have qx := (In.out.grown K2.out.k1.k.gr).cell' hx0
                clear hx0 hkl hr
                obtain ⟨x, x0, x1, mx⟩ := umod_int q 4000 (by omega)
                have mx : (IntKind.u64.wrap q).tmod 4000 = x := mx
                have cx : IntKind.i64.wrap x = x := IntWalk.i64_in _ (by omega)
                have kj0 : (0 : Int) ≤ (kj : Int) := by omega
                have HKJ := hid hkj; clear hkj
                have k42 : kj ≤ 42 := by have := HKJ.out; omega
                have k42' : (kj : Int) ≤ 42 := by omega
                by_cases hm : kj < nm
                · have jm : kj < nm := hm
                  have jm' : (kj : Int) < (nm : Int) := by omega
                  clear hm
                  have hkm : kj < lm.length := by rw [Hnm.out]; exact jm
                  obtain ⟨bb, bo, rfl, -, hcm, -⟩ := (Inm.out.grown K2.out.k1.k.gr).cell hkm
                  have hx1 := List.getElem?_eq_getElem hkm
                  generalize lm[kj] = qm at *
                  have qy := (Inm.out.grown K2.out.k1.k.gr).cell' hx1
                  clear hx1 hkm
                  obtain ⟨Z, Z0, Z1, mZ⟩ := umod_int qm 2000 (by omega)
                  have mZ : (IntKind.u64.wrap qm).tmod 2000 = Z := mZ
                  have cZ : IntKind.i64.wrap Z = Z := IntWalk.i64_in _ (by omega)
                  obtain ⟨Q, hQ⟩ : ∃ Q : Int, Q = x + Z := ⟨_, rfl⟩
                  have sQ : IntKind.i64.wrap (x + Z) = Q := by rw [← hQ]; exact IntWalk.i64_in _ (by omega)
                  have UV2 := hid (UV.out.snoc (x := x) (y := Q) (by omega) (by omega) (by omega))
                  clear hQ Z0 Z1 x0 x1
                  have TA := hid (TG.out.one x)
                  clear hj
                  go_wp2_with (first | (refine append_ints rfl _ _ rfl WZ.heap.size _ va rfl TA.out.o1 _ [x] rfl TA.out.hd (by rw [UV.out.la]; show jj + 1 ≤ 1000000; omega) TA.out.gr.size ?_; intro v7 w7 hown hgrow hat; have TB := hid ((TA.out.app hown hgrow hat).none.one Q); clear hown hgrow hat) | (refine append_ints rfl _ _ rfl WZ.heap.size _ vb rfl TB.out.o2 _ [Q] rfl TB.out.hd (by rw [UV.out.lb]; show jj + 1 ≤ 1000000; omega) TB.out.gr.size ?_; intro v8 w8 hown hgrow hat; have TC := hid (TB.out.app2 hown hgrow hat).none; clear hown hgrow hat))
                  go_roundw
                  case rel => exact ⟨jj + 1, _, _, by have := HJT.out; omega, by go_num, UV2.out, TC.out⟩
                  case measure => have := HJT.out; simp [intOf]; omega
                · have jm : ¬ kj < nm := hm
                  have jm' : ¬ (kj : Int) < (nm : Int) := by omega
                  clear hm
                  have UV2 := hid (UV.out.snoc (x := x) (y := x) (by omega) (Int.le_refl _) (by omega))
                  clear x0 x1
                  have sQ : IntKind.i64.wrap (x + 0) = x := by rw [Int.add_zero]; exact cx
                  have TA := hid (TG.out.one x)
                  clear hj
                  go_wp2_with (first | (refine append_ints rfl _ _ rfl WZ.heap.size _ va rfl TA.out.o1 _ [x] rfl TA.out.hd (by rw [UV.out.la]; show jj + 1 ≤ 1000000; omega) TA.out.gr.size ?_; intro v7 w7 hown hgrow hat; have TB := hid ((TA.out.app hown hgrow hat).none.one x); clear hown hgrow hat) | (refine append_ints rfl _ _ rfl WZ.heap.size _ vb rfl TB.out.o2 _ [x] rfl TB.out.hd (by rw [UV.out.lb]; show jj + 1 ≤ 1000000; omega) TB.out.gr.size ?_; intro v8 w8 hown hgrow hat; have TC := hid (TB.out.app2 hown hgrow hat).none; clear hown hgrow hat))
                  go_roundw
                  case rel => exact ⟨jj + 1, _, _, by have := HJT.out; omega, by go_num, UV2.out, TC.out⟩
                  case measure => have := HJT.out; simp [intOf]; omega
              · obtain rfl : jj = m := by omega
                clear hj hjt
                obtain ⟨hm1, hm2, hbl, hle⟩ := Below2.epoch K.out.k1.k.at1.ok K.out.k2.k.at1.ok BL.out UV.out HT1.out HT2.out
                have HM1 := hid hm1; have HM2 := hid hm2; have HBL := hid hbl
                have HTF := hid (LF.out.next K.out.k1.k.at1.ok va); have HTG := hid (LG.out.next K.out.k2.k.at1.ok vb)
                obtain ⟨ya, hya⟩ : ∃ v, s.come va = v := ⟨_, rfl⟩
                obtain ⟨yb, hyb⟩ : ∃ v, t.come vb = v := ⟨_, rfl⟩
                rw [hya, hyb] at hle
                have HYA := hid hya; have HYB := hid hyb
                have dg : decide (yb < ya) = false := by simp; omega
                clear hm1 hm2 hbl hya hyb
                obtain ⟨za, hza⟩ : ∃ v, s.want va = v := ⟨_, rfl⟩
                obtain ⟨zb, hzb⟩ : ∃ v, t.want vb = v := ⟨_, rfl⟩
                have HZA := hid hza; have HZB := hid hzb; clear hza hzb
                have I2 := hid (show IntsAt wr (.slice pu jj ku) vb from TG.out.o2.ints)
                have NB := hid (bag_apart TG.out K.out HM12.out.1 UV.out.lb)
                go_wp2_with fail
                refine (lnext_as K2.out.k1.k.at1 (show IntsAt wr (.slice pv jj kv) va from TG.out.o1.ints) HM1.out HYA.out HZA.out rfl).mono ?_
                rintro e w4 ⟨rfl, hl, hc⟩
                replace K2 := hid (K2.out.chg1 hl hc); replace I2 := hid (ints_chg I2.out hc (fun a n c e hm => by cases e; exact NB.out _ rfl hm)); clear hl hc cm
                go_wp2_with fail
                refine (lnext_as K2.out.k2.k.at1 I2.out HM2.out HYB.out HZB.out rfl).mono ?_
                rintro e w5 ⟨rfl, hl, hc⟩
                replace K2 := hid (K2.out.chg2 hl hc); clear hl hc
                generalize s.next va = s' at *
                generalize t.next vb = t' at *
                go_wp2_with fail
                go_roundw
                case rel => exact ⟨k + 1, by have := HLT.out; omega, by go_num, _, _, K2.out, HTF.out, HTG.out, HBL.out⟩
                case measure => have := HLT.out; simp [intOf]; omega
          | true =>
            obtain ⟨na, hna⟩ : ∃ v, s.n = v := ⟨_, rfl⟩
            obtain ⟨nb, hnb⟩ : ∃ v, t.n = v := ⟨_, rfl⟩
            have hle := BL.out.n
            rw [hna, hnb] at hle
            have HNA := hid hna; have HNB := hid hnb; clear hna hnb
            have dg : decide (nb < na) = false := by simp; omega
            go_wp2_with fail
            refine (lhold_as K.out.k1.k.at1 HNA.out rfl).mono ?_
            rintro e w3 ⟨rfl, hl, hc⟩
            have HTF := hid (LF.out.hold K.out.k1.k.at1.ok); have HTG := hid (LG.out.hold K.out.k2.k.at1.ok); have HBL := hid (Below2.hold K.out.k1.k.at1.ok K.out.k2.k.at1.ok BL.out)
            replace K := hid (K.out.chg1 hl hc); clear hl hc
            go_wp2_with fail
            refine (lhold_as K.out.k2.k.at1 HNB.out rfl).mono ?_
            rintro e w4 ⟨rfl, hl, hc⟩
            replace K := hid (K.out.chg2 hl hc); clear hl hc
            generalize s.hold = s' at *
            generalize t.hold = t' at *
            go_wp2_with fail
            go_roundw
            case rel => exact ⟨k + 1, by have := HLT.out; omega, by go_num, _, _, K.out, HTF.out, HTG.out, HBL.out⟩
            case measure => have := HLT.out; simp [intOf]; omega
        · have jh : ¬ k < lh := hh
          have jh' : ¬ (k : Int) < (lh : Int) := by omega
          clear hh
          go_wp2_with fail
          obtain ⟨WZ, hWZ⟩ : ∃ x, x = wr := ⟨_, rfl⟩
          subst hWZ
          have HT1 := hid (show s.tg.length = m by rw [LF.out.tg]; exact tgOf_len c (by have := HM12.out; omega))
          have HT2 := hid (show t.tg.length = m by rw [LG.out.tg]; exact tgOf_len c (by have := HM12.out; omega))
          go_loopw [19, 20, 21] (fun x' y' j wr => ∃ (jj : Nat) (va vb : List Int), jj ≤ m ∧ j = .int .i64 (jj : Int) ∧ Uv jj va vb ∧ Bag2 WZ x' va y' vb [] wr) (fun _ _ j _ => m - (intOf j).toNat)
          case atStart => exact ⟨0, [], [], Nat.zero_le _, rfl, .nil, .start _⟩
          case round =>
            obtain ⟨jj, va, vb, hj, rfl, huv, hbag⟩ := hrel
            have UV := hid huv; have TG := hid hbag; clear huv
            have K2 := hid (K.out.grown TG.out.gr)
            have cm : wr.cell? ⟨xb, 2, none⟩ = some (.int .i64 (m : Int)) := (at_cell K2.out.k1.box 2).trans (congrArg (fun z => some (Value.int .i64 z)) HM.out)
            obtain ⟨pv, kv, rfl⟩ := hbag.o1.form
            obtain ⟨pu, ku, rfl⟩ := hbag.o2.form
            clear hbag
            rw [UV.out.la, UV.out.lb] at TG ⊢
            have m2 : m ≤ 2 := HM12.out.2
            by_cases hjt : jj < m
            · have HJT := hid hjt
              have i1 : (jj : Int) < (m : Int) := by omega
              clear hjt
              obtain ⟨kj, hkj⟩ : ∃ x : Nat, x = k + jj := ⟨_, rfl⟩
              have e1 : IntKind.i64.wrap ((k : Int) + (jj : Int)) = (kj : Int) := by rw [IntWalk.i64_in _ (by omega)]; omega
              obtain ⟨r, hr⟩ : ∃ x : Nat, x = kj % n := ⟨_, rfl⟩
              have hrn : r < n := by rw [hr]; exact Nat.mod_lt _ (by omega)
              have HR := hid hr
              have e2 : (kj : Int) % (n : Int) = (r : Int) := by rw [hr]; exact (Int.natCast_emod kj n).symm
              have e2' : (kj : Int).tmod (n : Int) = (r : Int) := by rw [Int.tmod_eq_emod_of_nonneg (by omega)]; exact e2
              have n0 : ¬ (n : Int) = 0 := by omega
              have n0' : ¬ n = 0 := by omega
              have n1 : (1 : Int) ≤ (n : Int) := by omega
              have rn' : (r : Int) < (n : Int) := by omega
              have hkl : r < lw.length := by rw [Hn.out]; exact hrn
              obtain ⟨ab, ao, rfl, -, hcc, -⟩ := (In.out.grown K2.out.k1.k.gr).cell hkl
              have hx0 := List.getElem?_eq_getElem hkl
              generalize lw[r] = q at *
              have qx := (In.out.grown K2.out.k1.k.gr).cell' hx0
              clear hx0 hkl hr
              obtain ⟨x, x0, x1, mx⟩ := umod_int q 4000 (by omega)
              have mx : (IntKind.u64.wrap q).tmod 4000 = x := mx
              have cx : IntKind.i64.wrap x = x := IntWalk.i64_in _ (by omega)
              have kj0 : (0 : Int) ≤ (kj : Int) := by omega
              have HKJ := hid hkj; clear hkj
              have k42 : kj ≤ 42 := by have := HKJ.out; omega
              have k42' : (kj : Int) ≤ 42 := by omega
              by_cases hm : kj < nm
              · have jm : kj < nm := hm
                have jm' : (kj : Int) < (nm : Int) := by omega
                clear hm
                have hkm : kj < lm.length := by rw [Hnm.out]; exact jm
                obtain ⟨bb, bo, rfl, -, hcm, -⟩ := (Inm.out.grown K2.out.k1.k.gr).cell hkm
                have hx1 := List.getElem?_eq_getElem hkm
                generalize lm[kj] = qm at *
                have qy := (Inm.out.grown K2.out.k1.k.gr).cell' hx1
                clear hx1 hkm
                obtain ⟨Z, Z0, Z1, mZ⟩ := umod_int qm 2000 (by omega)
                have mZ : (IntKind.u64.wrap qm).tmod 2000 = Z := mZ
                have cZ : IntKind.i64.wrap Z = Z := IntWalk.i64_in _ (by omega)
                obtain ⟨Q, hQ⟩ : ∃ Q : Int, Q = x + Z := ⟨_, rfl⟩
                have sQ : IntKind.i64.wrap (x + Z) = Q := by rw [← hQ]; exact IntWalk.i64_in _ (by omega)
                have UV2 := hid (UV.out.snoc (x := x) (y := Q) (by omega) (by omega) (by omega))
                clear hQ Z0 Z1 x0 x1
                have TA := hid (TG.out.one x)
                clear hj
                go_wp2_with (first | (refine append_ints rfl _ _ rfl WZ.heap.size _ va rfl TA.out.o1 _ [x] rfl TA.out.hd (by rw [UV.out.la]; show jj + 1 ≤ 1000000; omega) TA.out.gr.size ?_; intro v7 w7 hown hgrow hat; have TB := hid ((TA.out.app hown hgrow hat).none.one Q); clear hown hgrow hat) | (refine append_ints rfl _ _ rfl WZ.heap.size _ vb rfl TB.out.o2 _ [Q] rfl TB.out.hd (by rw [UV.out.lb]; show jj + 1 ≤ 1000000; omega) TB.out.gr.size ?_; intro v8 w8 hown hgrow hat; have TC := hid (TB.out.app2 hown hgrow hat).none; clear hown hgrow hat))
                go_roundw
                case rel => exact ⟨jj + 1, _, _, by have := HJT.out; omega, by go_num, UV2.out, TC.out⟩
                case measure => have := HJT.out; simp [intOf]; omega
              · have jm : ¬ kj < nm := hm
                have jm' : ¬ (kj : Int) < (nm : Int) := by omega
                clear hm
                have UV2 := hid (UV.out.snoc (x := x) (y := x) (by omega) (Int.le_refl _) (by omega))
                clear x0 x1
                have sQ : IntKind.i64.wrap (x + 0) = x := by rw [Int.add_zero]; exact cx
                have TA := hid (TG.out.one x)
                clear hj
                go_wp2_with (first | (refine append_ints rfl _ _ rfl WZ.heap.size _ va rfl TA.out.o1 _ [x] rfl TA.out.hd (by rw [UV.out.la]; show jj + 1 ≤ 1000000; omega) TA.out.gr.size ?_; intro v7 w7 hown hgrow hat; have TB := hid ((TA.out.app hown hgrow hat).none.one x); clear hown hgrow hat) | (refine append_ints rfl _ _ rfl WZ.heap.size _ vb rfl TB.out.o2 _ [x] rfl TB.out.hd (by rw [UV.out.lb]; show jj + 1 ≤ 1000000; omega) TB.out.gr.size ?_; intro v8 w8 hown hgrow hat; have TC := hid (TB.out.app2 hown hgrow hat).none; clear hown hgrow hat))
                go_roundw
                case rel => exact ⟨jj + 1, _, _, by have := HJT.out; omega, by go_num, UV2.out, TC.out⟩
                case measure => have := HJT.out; simp [intOf]; omega
            · obtain rfl : jj = m := by omega
              clear hj hjt
              obtain ⟨hm1, hm2, hbl, hle⟩ := Below2.epoch K.out.k1.k.at1.ok K.out.k2.k.at1.ok BL.out UV.out HT1.out HT2.out
              have HM1 := hid hm1; have HM2 := hid hm2; have HBL := hid hbl
              have HTF := hid (LF.out.next K.out.k1.k.at1.ok va); have HTG := hid (LG.out.next K.out.k2.k.at1.ok vb)
              obtain ⟨ya, hya⟩ : ∃ v, s.come va = v := ⟨_, rfl⟩
              obtain ⟨yb, hyb⟩ : ∃ v, t.come vb = v := ⟨_, rfl⟩
              rw [hya, hyb] at hle
              have HYA := hid hya; have HYB := hid hyb
              have dg : decide (yb < ya) = false := by simp; omega
              clear hm1 hm2 hbl hya hyb
              obtain ⟨za, hza⟩ : ∃ v, s.want va = v := ⟨_, rfl⟩
              obtain ⟨zb, hzb⟩ : ∃ v, t.want vb = v := ⟨_, rfl⟩
              have HZA := hid hza; have HZB := hid hzb; clear hza hzb
              have I2 := hid (show IntsAt wr (.slice pu jj ku) vb from TG.out.o2.ints)
              have NB := hid (bag_apart TG.out K.out HM12.out.1 UV.out.lb)
              go_wp2_with fail
              refine (lnext_as K2.out.k1.k.at1 (show IntsAt wr (.slice pv jj kv) va from TG.out.o1.ints) HM1.out HYA.out HZA.out rfl).mono ?_
              rintro e w4 ⟨rfl, hl, hc⟩
              replace K2 := hid (K2.out.chg1 hl hc); replace I2 := hid (ints_chg I2.out hc (fun a n c e hm => by cases e; exact NB.out _ rfl hm)); clear hl hc cm
              go_wp2_with fail
              refine (lnext_as K2.out.k2.k.at1 I2.out HM2.out HYB.out HZB.out rfl).mono ?_
              rintro e w5 ⟨rfl, hl, hc⟩
              replace K2 := hid (K2.out.chg2 hl hc); clear hl hc
              generalize s.next va = s' at *
              generalize t.next vb = t' at *
              go_wp2_with fail
              go_roundw
              case rel => exact ⟨k + 1, by have := HLT.out; omega, by go_num, _, _, K2.out, HTF.out, HTG.out, HBL.out⟩
              case measure => have := HLT.out; simp [intOf]; omega
      · obtain rfl : k = mm := by omega
        clear hlt
        rcases HMM.out.2.2 with e | ⟨e1, e2⟩
        · have j1 : ¬ k < n := by omega
          clear e
          clear hk
          go_wp2_with fail
          refine (ltold_any _).mono ?_
          rintro e w5 ⟨rfl, hg⟩
          replace K := hid (K.out.grown hg); clear hg
          go_wp2_with fail
          go_ret
          exact ⟨rfl, K.out.k1.k.gr⟩
        · have j1 : k < n := by omega
          have j2 : ¬ k < 40 := by omega
          clear e1 e2
          clear hk
          go_wp2_with fail
          refine (ltold_any _).mono ?_
          rintro e w5 ⟨rfl, hg⟩
          replace K := hid (K.out.grown hg); clear hg
          go_wp2_with fail
          go_ret
          exact ⟨rfl, K.out.k1.k.gr⟩
  · have s1 : ¬ f2 < f1 := hs
    have hle : f1 ≤ f2 := by omega
    have NP1 := hid (lnew_fine HF.out HM.out HU.out HD.out HM12.out.1 HM12.out.2 HUD.out.1 HUD.out.2 f10 f11 (HOK.out _ f10 f11))
    have NP2 := hid (lnew_fine HF.out HM.out HU.out HD.out HM12.out.1 HM12.out.2 HUD.out.1 HUD.out.2 f20 f21 (HOK.out _ f20 f21))
    have HL1 := hid (lof_new c m u d f1); have HL2 := hid (lof_new c m u d f2); have HB0 := hid (below_new c m u d hle)
    obtain ⟨sa, hsa⟩ : ∃ s, laOf c m u d f1 = s := ⟨_, rfl⟩
    obtain ⟨sb, hsb⟩ : ∃ s, laOf c m u d f2 = s := ⟨_, rfl⟩
    rw [hsa] at NP1 HL1 HB0
    rw [hsb] at NP2 HL2 HB0
    clear hsa hsb hle f10 f11 f20 f21 HOK HU HD HUD
    go_wp2_with fail
    generalize wx = zw at *
    refine wp_region_held_drew (S := (fun w' => (Cfx w xb c w'))) (by kernel_rfl) C.out.drew (fun hHeld => ?_)
    try dsimp only at hHeld
    refine' wpAnyH_take (i := 0) (v := _) rfl (by kernel_rfl) (by kernel_rfl) (by kernel_rfl) (fun _ _ _ h => h) (Or.inl ⟨by rfl, ?_⟩) hHeld ?_
    rotate_left
    · (intro w hSw; (try dsimp only at hSw); (try simp only [List.getElem_toArray, List.getElem_cons_succ, List.getElem_cons_zero]); refine exec_row (x := .tmp 13) hSw.box Try.underlying27 rfl (by kernel_rfl) ?_ ?_ <;> rfl)
    try simp only [Act.put, List.setIfInBounds_toArray, List.set_cons_zero, List.set_cons_succ, List.getElem_toArray, List.getElem_cons_succ, List.getElem_cons_zero]
    refine' wpAnyH_take (i := 1) (v := _) rfl (by kernel_rfl) (by kernel_rfl) (by kernel_rfl) (fun _ _ _ h => h) (Or.inl ⟨by rfl, ?_⟩) hHeld ?_
    rotate_left
    · (intro w hSw; (try dsimp only at hSw); go_simp; try with_reducible rfl)
    try simp only [Act.put, List.setIfInBounds_toArray, List.set_cons_zero, List.set_cons_succ, List.getElem_toArray, List.getElem_cons_succ, List.getElem_cons_zero]
    refine' wpAnyH_take (i := 3) (v := _) rfl (by kernel_rfl) (by kernel_rfl) (by kernel_rfl) (fun _ _ _ h => h) (Or.inl ⟨by rfl, ?_⟩) hHeld ?_
    rotate_left
    · (intro w hSw; (try dsimp only at hSw); (try simp only [List.getElem_toArray, List.getElem_cons_succ, List.getElem_cons_zero]); refine exec_row (x := .tmp 13) hSw.box Try.underlying27 rfl (by kernel_rfl) ?_ ?_ <;> rfl)
    try simp only [Act.put, List.setIfInBounds_toArray, List.set_cons_zero, List.set_cons_succ, List.getElem_toArray, List.getElem_cons_succ, List.getElem_cons_zero]
    refine' wpAnyH_take (i := 4) (v := _) rfl (by kernel_rfl) (by kernel_rfl) (by kernel_rfl) (fun _ _ _ h => h) (Or.inl ⟨by rfl, ?_⟩) hHeld ?_
    rotate_left
    · (intro w hSw; (try dsimp only at hSw); go_simp; try with_reducible rfl)
    try simp only [Act.put, List.setIfInBounds_toArray, List.set_cons_zero, List.set_cons_succ, List.getElem_toArray, List.getElem_cons_succ, List.getElem_cons_zero]
    refine wpAnyH_ready (rs := [2]) (by kernel_rfl) (by simp) ?_
    refine AllReadyH.cons (o := _) rfl (fun K hK => ?_) AllReadyH.nil
    try simp only [List.getElem_toArray, List.getElem_cons_succ, List.getElem_cons_zero]
    go_simp
    have hH2 := hHeld
    have KC := hH2
    refine ((NP1.out _)).mono ?_
    rintro e w1002 ⟨B1, rfl, hl, hg, hb⟩
    have K1 := hid (Lk1.start KC hl hg hb)
    have L2 := hid (show (Cfx w xb c w1002) from (KC.grown hg))
    have Nk1 := hid (show Lk1 w xb c B1 sa w1002 from K1.out)
    clear hHeld hg KC
    go_wp2_with fail
    refine hK.out _ _ ?_ (fun hHeld => ?_)
    · exact L2.out
    clear hK K
    try dsimp only at hHeld
    try simp only [Act.put, List.setIfInBounds_toArray, List.set_cons_zero, List.set_cons_succ, List.getElem_toArray, List.getElem_cons_succ, List.getElem_cons_zero]
    refine held_stronger (S' := fun w' => (fun w' => Lk1 w xb c B1 sa w') w' ∧ ((fun w' => (Cfx w xb c w'))) w') (fun _ h => h.2) _ _ _ _ ?_
    replace hHeld := And.intro Nk1.out hHeld
    try dsimp only at hHeld
    refine wpAnyH_ready (rs := [5]) (by kernel_rfl) (by simp) ?_
    refine AllReadyH.cons (o := _) rfl (fun K hK => ?_) AllReadyH.nil
    try simp only [List.getElem_toArray, List.getElem_cons_succ, List.getElem_cons_zero]
    go_simp
    have hH2 := hHeld
    obtain ⟨k1, KC⟩ := hH2
    refine ((NP2.out _)).mono ?_
    rintro e w1005 ⟨B2, rfl, hl, hg, hb⟩
    have K2 := hid (Lk2.start k1 hl hg hb)
    have L5 := hid (show (Lk1 w xb c B1 sa w1005) ∧ (Cfx w xb c w1005) from ⟨k1.grown hg, KC.grown hg⟩)
    have Nk2 := hid (show Lk2 w xb c B1 sa B2 sb w1005 from K2.out)
    clear hHeld hg k1 KC
    go_wp2_with fail
    refine hK.out _ _ ?_ (fun hHeld => ?_)
    · exact L5.out
    clear hK K
    try dsimp only at hHeld
    try simp only [Act.put, List.setIfInBounds_toArray, List.set_cons_zero, List.set_cons_succ, List.getElem_toArray, List.getElem_cons_succ, List.getElem_cons_zero]
    refine held_stronger (S' := fun w' => (fun w' => Lk2 w xb c B1 sa B2 sb w') w' ∧ ((fun w' => (Lk1 w xb c B1 sa w') ∧ (Cfx w xb c w'))) w') (fun _ h => h.2) _ _ _ _ ?_
    replace hHeld := And.intro Nk2.out hHeld
    try dsimp only at hHeld
    refine' wpAnyH_take (i := 6) (v := _) rfl (by kernel_rfl) (by kernel_rfl) (by kernel_rfl) (fun _ _ _ h => h) (Or.inl ⟨by rfl, ?_⟩) hHeld ?_
    rotate_left
    · (intro w hSw; (try dsimp only at hSw); go_simp; try with_reducible rfl)
    try simp only [Act.put, List.setIfInBounds_toArray, List.set_cons_zero, List.set_cons_succ, List.getElem_toArray, List.getElem_cons_succ, List.getElem_cons_zero]
    refine' wpAnyH_take (i := 7) (v := _) rfl (by kernel_rfl) (by kernel_rfl) (by kernel_rfl) (fun _ _ _ h => h) (Or.inl ⟨by rfl, ?_⟩) hHeld ?_
    rotate_left
    · (intro w hSw; (try dsimp only at hSw); go_simp; try with_reducible rfl)
    try simp only [Act.put, List.setIfInBounds_toArray, List.set_cons_zero, List.set_cons_succ, List.getElem_toArray, List.getElem_cons_succ, List.getElem_cons_zero]
    refine wpAnyH_done (by kernel_rfl) ?_ _
    obtain ⟨k2, k1, KC⟩ := hHeld
    have K := hid k2; clear KC k1 k2
    go_wp2_with fail
    go_loopw [18] (fun i wr => ∃ k : Nat, k ≤ mm ∧ i = .int .i64 (k : Int) ∧ ∃ s t : La, Lk2 w xb c B1 s B2 t wr ∧ Lof c m s ∧ Lof c m t ∧ Below2 s t) (fun i _ => mm - (intOf i).toNat)
    case atStart => exact ⟨0, Nat.zero_le _, rfl, _, _, K.out, HL1.out, HL2.out, HB0.out⟩
    case round =>
      obtain ⟨k, hk, rfl, s, t, hK, hlf, hlg, hbl⟩ := hrel
      have K := hid hK; have LF := hid hlf; have LG := hid hlg; have BL := hid hbl; clear hK hlf hlg hbl
      by_cases hlt : k < mm
      · have HLT := hid hlt
        have j1 : k < n := by have := HMM.out; omega
        have j2 : k < 40 := by have := HMM.out; omega
        have j1' : (k : Int) < (n : Int) := by omega
        have j2' : (k : Int) < 40 := by omega
        clear hlt hk
        by_cases hh : k < lh
        · have jh : k < lh := hh
          have jh' : (k : Int) < (lh : Int) := by omega
          clear hh
          obtain ⟨hb, ho, rfl, -⟩ := (IH.out.grown K.out.k1.k.gr).cell jh
          have qh := OneAt.at' (IH.out.grown K.out.k1.k.gr) jh
          generalize fh k = bh at qh
          cases bh with
          | false =>
            go_wp2_with fail
            obtain ⟨WZ, hWZ⟩ : ∃ x, x = wr := ⟨_, rfl⟩
            subst hWZ
            have HT1 := hid (show s.tg.length = m by rw [LF.out.tg]; exact tgOf_len c (by have := HM12.out; omega))
            have HT2 := hid (show t.tg.length = m by rw [LG.out.tg]; exact tgOf_len c (by have := HM12.out; omega))
            go_loopw [19, 20, 21] (fun x' y' j wr => ∃ (jj : Nat) (va vb : List Int), jj ≤ m ∧ j = .int .i64 (jj : Int) ∧ Uv jj va vb ∧ Bag2 WZ x' va y' vb [] wr) (fun _ _ j _ => m - (intOf j).toNat)
            case atStart => exact ⟨0, [], [], Nat.zero_le _, rfl, .nil, .start _⟩
            case round =>
              obtain ⟨jj, va, vb, hj, rfl, huv, hbag⟩ := hrel
              have UV := hid huv; have TG := hid hbag; clear huv
              have K2 := hid (K.out.grown TG.out.gr)
              have cm : wr.cell? ⟨xb, 2, none⟩ = some (.int .i64 (m : Int)) := (at_cell K2.out.k1.box 2).trans (congrArg (fun z => some (Value.int .i64 z)) HM.out)
              obtain ⟨pv, kv, rfl⟩ := hbag.o1.form
              obtain ⟨pu, ku, rfl⟩ := hbag.o2.form
              clear hbag
              rw [UV.out.la, UV.out.lb] at TG ⊢
              have m2 : m ≤ 2 := HM12.out.2
              by_cases hjt : jj < m
              · have HJT := hid hjt
                have i1 : (jj : Int) < (m : Int) := by omega
                clear hjt
                obtain ⟨kj, hkj⟩ : ∃ x : Nat, x = k + jj := ⟨_, rfl⟩
                have e1 : IntKind.i64.wrap ((k : Int) + (jj : Int)) = (kj : Int) := by rw [IntWalk.i64_in _ (by omega)]; omega
                obtain ⟨r, hr⟩ : ∃ x : Nat, x = kj % n := ⟨_, rfl⟩
                have hrn : r < n := by rw [hr]; exact Nat.mod_lt _ (by omega)
                have HR := hid hr
                have e2 : (kj : Int) % (n : Int) = (r : Int) := by rw [hr]; exact (Int.natCast_emod kj n).symm
                have e2' : (kj : Int).tmod (n : Int) = (r : Int) := by rw [Int.tmod_eq_emod_of_nonneg (by omega)]; exact e2
                have n0 : ¬ (n : Int) = 0 := by omega
                have n0' : ¬ n = 0 := by omega
                have n1 : (1 : Int) ≤ (n : Int) := by omega
                have rn' : (r : Int) < (n : Int) := by omega
                have hkl : r < lw.length := by rw [Hn.out]; exact hrn
                obtain ⟨ab, ao, rfl, -, hcc, -⟩ := (In.out.grown K2.out.k1.k.gr).cell hkl
                have hx0 := List.getElem?_eq_getElem hkl
                generalize lw[r] = q at *
                have qx := (In.out.grown K2.out.k1.k.gr).cell' hx0
                clear hx0 hkl hr
                obtain ⟨x, x0, x1, mx⟩ := umod_int q 4000 (by omega)
                have mx : (IntKind.u64.wrap q).tmod 4000 = x := mx
                have cx : IntKind.i64.wrap x = x := IntWalk.i64_in _ (by omega)
                have kj0 : (0 : Int) ≤ (kj : Int) := by omega
                have HKJ := hid hkj; clear hkj
                have k42 : kj ≤ 42 := by have := HKJ.out; omega
                have k42' : (kj : Int) ≤ 42 := by omega
                by_cases hm : kj < nm
                · have jm : kj < nm := hm
                  have jm' : (kj : Int) < (nm : Int) := by omega
                  clear hm
                  have hkm : kj < lm.length := by rw [Hnm.out]; exact jm
                  obtain ⟨bb, bo, rfl, -, hcm, -⟩ := (Inm.out.grown K2.out.k1.k.gr).cell hkm
                  have hx1 := List.getElem?_eq_getElem hkm
                  generalize lm[kj] = qm at *
                  have qy := (Inm.out.grown K2.out.k1.k.gr).cell' hx1
                  clear hx1 hkm
                  obtain ⟨Z, Z0, Z1, mZ⟩ := umod_int qm 2000 (by omega)
                  have mZ : (IntKind.u64.wrap qm).tmod 2000 = Z := mZ
                  have cZ : IntKind.i64.wrap Z = Z := IntWalk.i64_in _ (by omega)
                  obtain ⟨Q, hQ⟩ : ∃ Q : Int, Q = x + Z := ⟨_, rfl⟩
                  have sQ : IntKind.i64.wrap (x + Z) = Q := by rw [← hQ]; exact IntWalk.i64_in _ (by omega)
                  have UV2 := hid (UV.out.snoc (x := x) (y := Q) (by omega) (by omega) (by omega))
                  clear hQ Z0 Z1 x0 x1
                  have TA := hid (TG.out.one x)
                  clear hj
                  go_wp2_with (first | (refine append_ints rfl _ _ rfl WZ.heap.size _ va rfl TA.out.o1 _ [x] rfl TA.out.hd (by rw [UV.out.la]; show jj + 1 ≤ 1000000; omega) TA.out.gr.size ?_; intro v7 w7 hown hgrow hat; have TB := hid ((TA.out.app hown hgrow hat).none.one Q); clear hown hgrow hat) | (refine append_ints rfl _ _ rfl WZ.heap.size _ vb rfl TB.out.o2 _ [Q] rfl TB.out.hd (by rw [UV.out.lb]; show jj + 1 ≤ 1000000; omega) TB.out.gr.size ?_; intro v8 w8 hown hgrow hat; have TC := hid (TB.out.app2 hown hgrow hat).none; clear hown hgrow hat))
                  go_roundw
                  case rel => exact ⟨jj + 1, _, _, by have := HJT.out; omega, by go_num, UV2.out, TC.out⟩
                  case measure => have := HJT.out; simp [intOf]; omega
                · have jm : ¬ kj < nm := hm
                  have jm' : ¬ (kj : Int) < (nm : Int) := by omega
                  clear hm
                  have UV2 := hid (UV.out.snoc (x := x) (y := x) (by omega) (Int.le_refl _) (by omega))
                  clear x0 x1
                  have sQ : IntKind.i64.wrap (x + 0) = x := by rw [Int.add_zero]; exact cx
                  have TA := hid (TG.out.one x)
                  clear hj
                  go_wp2_with (first | (refine append_ints rfl _ _ rfl WZ.heap.size _ va rfl TA.out.o1 _ [x] rfl TA.out.hd (by rw [UV.out.la]; show jj + 1 ≤ 1000000; omega) TA.out.gr.size ?_; intro v7 w7 hown hgrow hat; have TB := hid ((TA.out.app hown hgrow hat).none.one x); clear hown hgrow hat) | (refine append_ints rfl _ _ rfl WZ.heap.size _ vb rfl TB.out.o2 _ [x] rfl TB.out.hd (by rw [UV.out.lb]; show jj + 1 ≤ 1000000; omega) TB.out.gr.size ?_; intro v8 w8 hown hgrow hat; have TC := hid (TB.out.app2 hown hgrow hat).none; clear hown hgrow hat))
                  go_roundw
                  case rel => exact ⟨jj + 1, _, _, by have := HJT.out; omega, by go_num, UV2.out, TC.out⟩
                  case measure => have := HJT.out; simp [intOf]; omega
              · obtain rfl : jj = m := by omega
                clear hj hjt
                obtain ⟨hm1, hm2, hbl, hle⟩ := Below2.epoch K.out.k1.k.at1.ok K.out.k2.k.at1.ok BL.out UV.out HT1.out HT2.out
                have HM1 := hid hm1; have HM2 := hid hm2; have HBL := hid hbl
                have HTF := hid (LF.out.next K.out.k1.k.at1.ok va); have HTG := hid (LG.out.next K.out.k2.k.at1.ok vb)
                obtain ⟨ya, hya⟩ : ∃ v, s.come va = v := ⟨_, rfl⟩
                obtain ⟨yb, hyb⟩ : ∃ v, t.come vb = v := ⟨_, rfl⟩
                rw [hya, hyb] at hle
                have HYA := hid hya; have HYB := hid hyb
                have dg : decide (yb < ya) = false := by simp; omega
                clear hm1 hm2 hbl hya hyb
                obtain ⟨za, hza⟩ : ∃ v, s.want va = v := ⟨_, rfl⟩
                obtain ⟨zb, hzb⟩ : ∃ v, t.want vb = v := ⟨_, rfl⟩
                have HZA := hid hza; have HZB := hid hzb; clear hza hzb
                have I2 := hid (show IntsAt wr (.slice pu jj ku) vb from TG.out.o2.ints)
                have NB := hid (bag_apart TG.out K.out HM12.out.1 UV.out.lb)
                go_wp2_with fail
                refine (lnext_as K2.out.k1.k.at1 (show IntsAt wr (.slice pv jj kv) va from TG.out.o1.ints) HM1.out HYA.out HZA.out rfl).mono ?_
                rintro e w4 ⟨rfl, hl, hc⟩
                replace K2 := hid (K2.out.chg1 hl hc); replace I2 := hid (ints_chg I2.out hc (fun a n c e hm => by cases e; exact NB.out _ rfl hm)); clear hl hc cm
                go_wp2_with fail
                refine (lnext_as K2.out.k2.k.at1 I2.out HM2.out HYB.out HZB.out rfl).mono ?_
                rintro e w5 ⟨rfl, hl, hc⟩
                replace K2 := hid (K2.out.chg2 hl hc); clear hl hc
                generalize s.next va = s' at *
                generalize t.next vb = t' at *
                go_wp2_with fail
                go_roundw
                case rel => exact ⟨k + 1, by have := HLT.out; omega, by go_num, _, _, K2.out, HTF.out, HTG.out, HBL.out⟩
                case measure => have := HLT.out; simp [intOf]; omega
          | true =>
            obtain ⟨na, hna⟩ : ∃ v, s.n = v := ⟨_, rfl⟩
            obtain ⟨nb, hnb⟩ : ∃ v, t.n = v := ⟨_, rfl⟩
            have hle := BL.out.n
            rw [hna, hnb] at hle
            have HNA := hid hna; have HNB := hid hnb; clear hna hnb
            have dg : decide (nb < na) = false := by simp; omega
            go_wp2_with fail
            refine (lhold_as K.out.k1.k.at1 HNA.out rfl).mono ?_
            rintro e w3 ⟨rfl, hl, hc⟩
            have HTF := hid (LF.out.hold K.out.k1.k.at1.ok); have HTG := hid (LG.out.hold K.out.k2.k.at1.ok); have HBL := hid (Below2.hold K.out.k1.k.at1.ok K.out.k2.k.at1.ok BL.out)
            replace K := hid (K.out.chg1 hl hc); clear hl hc
            go_wp2_with fail
            refine (lhold_as K.out.k2.k.at1 HNB.out rfl).mono ?_
            rintro e w4 ⟨rfl, hl, hc⟩
            replace K := hid (K.out.chg2 hl hc); clear hl hc
            generalize s.hold = s' at *
            generalize t.hold = t' at *
            go_wp2_with fail
            go_roundw
            case rel => exact ⟨k + 1, by have := HLT.out; omega, by go_num, _, _, K.out, HTF.out, HTG.out, HBL.out⟩
            case measure => have := HLT.out; simp [intOf]; omega
        · have jh : ¬ k < lh := hh
          have jh' : ¬ (k : Int) < (lh : Int) := by omega
          clear hh
          go_wp2_with fail
          obtain ⟨WZ, hWZ⟩ : ∃ x, x = wr := ⟨_, rfl⟩
          subst hWZ
          have HT1 := hid (show s.tg.length = m by rw [LF.out.tg]; exact tgOf_len c (by have := HM12.out; omega))
          have HT2 := hid (show t.tg.length = m by rw [LG.out.tg]; exact tgOf_len c (by have := HM12.out; omega))
          go_loopw [19, 20, 21] (fun x' y' j wr => ∃ (jj : Nat) (va vb : List Int), jj ≤ m ∧ j = .int .i64 (jj : Int) ∧ Uv jj va vb ∧ Bag2 WZ x' va y' vb [] wr) (fun _ _ j _ => m - (intOf j).toNat)
          case atStart => exact ⟨0, [], [], Nat.zero_le _, rfl, .nil, .start _⟩
          case round =>
            obtain ⟨jj, va, vb, hj, rfl, huv, hbag⟩ := hrel
            have UV := hid huv; have TG := hid hbag; clear huv
            have K2 := hid (K.out.grown TG.out.gr)
            have cm : wr.cell? ⟨xb, 2, none⟩ = some (.int .i64 (m : Int)) := (at_cell K2.out.k1.box 2).trans (congrArg (fun z => some (Value.int .i64 z)) HM.out)
            obtain ⟨pv, kv, rfl⟩ := hbag.o1.form
            obtain ⟨pu, ku, rfl⟩ := hbag.o2.form
            clear hbag
            rw [UV.out.la, UV.out.lb] at TG ⊢
            have m2 : m ≤ 2 := HM12.out.2
            by_cases hjt : jj < m
            · have HJT := hid hjt
              have i1 : (jj : Int) < (m : Int) := by omega
              clear hjt
              obtain ⟨kj, hkj⟩ : ∃ x : Nat, x = k + jj := ⟨_, rfl⟩
              have e1 : IntKind.i64.wrap ((k : Int) + (jj : Int)) = (kj : Int) := by rw [IntWalk.i64_in _ (by omega)]; omega
              obtain ⟨r, hr⟩ : ∃ x : Nat, x = kj % n := ⟨_, rfl⟩
              have hrn : r < n := by rw [hr]; exact Nat.mod_lt _ (by omega)
              have HR := hid hr
              have e2 : (kj : Int) % (n : Int) = (r : Int) := by rw [hr]; exact (Int.natCast_emod kj n).symm
              have e2' : (kj : Int).tmod (n : Int) = (r : Int) := by rw [Int.tmod_eq_emod_of_nonneg (by omega)]; exact e2
              have n0 : ¬ (n : Int) = 0 := by omega
              have n0' : ¬ n = 0 := by omega
              have n1 : (1 : Int) ≤ (n : Int) := by omega
              have rn' : (r : Int) < (n : Int) := by omega
              have hkl : r < lw.length := by rw [Hn.out]; exact hrn
              obtain ⟨ab, ao, rfl, -, hcc, -⟩ := (In.out.grown K2.out.k1.k.gr).cell hkl
              have hx0 := List.getElem?_eq_getElem hkl
              generalize lw[r] = q at *
              have qx := (In.out.grown K2.out.k1.k.gr).cell' hx0
              clear hx0 hkl hr
              obtain ⟨x, x0, x1, mx⟩ := umod_int q 4000 (by omega)
              have mx : (IntKind.u64.wrap q).tmod 4000 = x := mx
              have cx : IntKind.i64.wrap x = x := IntWalk.i64_in _ (by omega)
              have kj0 : (0 : Int) ≤ (kj : Int) := by omega
              have HKJ := hid hkj; clear hkj
              have k42 : kj ≤ 42 := by have := HKJ.out; omega
              have k42' : (kj : Int) ≤ 42 := by omega
              by_cases hm : kj < nm
              · have jm : kj < nm := hm
                have jm' : (kj : Int) < (nm : Int) := by omega
                clear hm
                have hkm : kj < lm.length := by rw [Hnm.out]; exact jm
                obtain ⟨bb, bo, rfl, -, hcm, -⟩ := (Inm.out.grown K2.out.k1.k.gr).cell hkm
                have hx1 := List.getElem?_eq_getElem hkm
                generalize lm[kj] = qm at *
                have qy := (Inm.out.grown K2.out.k1.k.gr).cell' hx1
                clear hx1 hkm
                obtain ⟨Z, Z0, Z1, mZ⟩ := umod_int qm 2000 (by omega)
                have mZ : (IntKind.u64.wrap qm).tmod 2000 = Z := mZ
                have cZ : IntKind.i64.wrap Z = Z := IntWalk.i64_in _ (by omega)
                obtain ⟨Q, hQ⟩ : ∃ Q : Int, Q = x + Z := ⟨_, rfl⟩
                have sQ : IntKind.i64.wrap (x + Z) = Q := by rw [← hQ]; exact IntWalk.i64_in _ (by omega)
                have UV2 := hid (UV.out.snoc (x := x) (y := Q) (by omega) (by omega) (by omega))
                clear hQ Z0 Z1 x0 x1
                have TA := hid (TG.out.one x)
                clear hj
                go_wp2_with (first | (refine append_ints rfl _ _ rfl WZ.heap.size _ va rfl TA.out.o1 _ [x] rfl TA.out.hd (by rw [UV.out.la]; show jj + 1 ≤ 1000000; omega) TA.out.gr.size ?_; intro v7 w7 hown hgrow hat; have TB := hid ((TA.out.app hown hgrow hat).none.one Q); clear hown hgrow hat) | (refine append_ints rfl _ _ rfl WZ.heap.size _ vb rfl TB.out.o2 _ [Q] rfl TB.out.hd (by rw [UV.out.lb]; show jj + 1 ≤ 1000000; omega) TB.out.gr.size ?_; intro v8 w8 hown hgrow hat; have TC := hid (TB.out.app2 hown hgrow hat).none; clear hown hgrow hat))
                go_roundw
                case rel => exact ⟨jj + 1, _, _, by have := HJT.out; omega, by go_num, UV2.out, TC.out⟩
                case measure => have := HJT.out; simp [intOf]; omega
              · have jm : ¬ kj < nm := hm
                have jm' : ¬ (kj : Int) < (nm : Int) := by omega
                clear hm
                have UV2 := hid (UV.out.snoc (x := x) (y := x) (by omega) (Int.le_refl _) (by omega))
                clear x0 x1
                have sQ : IntKind.i64.wrap (x + 0) = x := by rw [Int.add_zero]; exact cx
                have TA := hid (TG.out.one x)
                clear hj
                go_wp2_with (first | (refine append_ints rfl _ _ rfl WZ.heap.size _ va rfl TA.out.o1 _ [x] rfl TA.out.hd (by rw [UV.out.la]; show jj + 1 ≤ 1000000; omega) TA.out.gr.size ?_; intro v7 w7 hown hgrow hat; have TB := hid ((TA.out.app hown hgrow hat).none.one x); clear hown hgrow hat) | (refine append_ints rfl _ _ rfl WZ.heap.size _ vb rfl TB.out.o2 _ [x] rfl TB.out.hd (by rw [UV.out.lb]; show jj + 1 ≤ 1000000; omega) TB.out.gr.size ?_; intro v8 w8 hown hgrow hat; have TC := hid (TB.out.app2 hown hgrow hat).none; clear hown hgrow hat))
                go_roundw
                case rel => exact ⟨jj + 1, _, _, by have := HJT.out; omega, by go_num, UV2.out, TC.out⟩
                case measure => have := HJT.out; simp [intOf]; omega
            · obtain rfl : jj = m := by omega
              clear hj hjt
              obtain ⟨hm1, hm2, hbl, hle⟩ := Below2.epoch K.out.k1.k.at1.ok K.out.k2.k.at1.ok BL.out UV.out HT1.out HT2.out
              have HM1 := hid hm1; have HM2 := hid hm2; have HBL := hid hbl
              have HTF := hid (LF.out.next K.out.k1.k.at1.ok va); have HTG := hid (LG.out.next K.out.k2.k.at1.ok vb)
              obtain ⟨ya, hya⟩ : ∃ v, s.come va = v := ⟨_, rfl⟩
              obtain ⟨yb, hyb⟩ : ∃ v, t.come vb = v := ⟨_, rfl⟩
              rw [hya, hyb] at hle
              have HYA := hid hya; have HYB := hid hyb
              have dg : decide (yb < ya) = false := by simp; omega
              clear hm1 hm2 hbl hya hyb
              obtain ⟨za, hza⟩ : ∃ v, s.want va = v := ⟨_, rfl⟩
              obtain ⟨zb, hzb⟩ : ∃ v, t.want vb = v := ⟨_, rfl⟩
              have HZA := hid hza; have HZB := hid hzb; clear hza hzb
              have I2 := hid (show IntsAt wr (.slice pu jj ku) vb from TG.out.o2.ints)
              have NB := hid (bag_apart TG.out K.out HM12.out.1 UV.out.lb)
              go_wp2_with fail
              refine (lnext_as K2.out.k1.k.at1 (show IntsAt wr (.slice pv jj kv) va from TG.out.o1.ints) HM1.out HYA.out HZA.out rfl).mono ?_
              rintro e w4 ⟨rfl, hl, hc⟩
              replace K2 := hid (K2.out.chg1 hl hc); replace I2 := hid (ints_chg I2.out hc (fun a n c e hm => by cases e; exact NB.out _ rfl hm)); clear hl hc cm
              go_wp2_with fail
              refine (lnext_as K2.out.k2.k.at1 I2.out HM2.out HYB.out HZB.out rfl).mono ?_
              rintro e w5 ⟨rfl, hl, hc⟩
              replace K2 := hid (K2.out.chg2 hl hc); clear hl hc
              generalize s.next va = s' at *
              generalize t.next vb = t' at *
              go_wp2_with fail
              go_roundw
              case rel => exact ⟨k + 1, by have := HLT.out; omega, by go_num, _, _, K2.out, HTF.out, HTG.out, HBL.out⟩
              case measure => have := HLT.out; simp [intOf]; omega
      · obtain rfl : k = mm := by omega
        clear hlt
        rcases HMM.out.2.2 with e | ⟨e1, e2⟩
        · have j1 : ¬ k < n := by omega
          clear e
          clear hk
          go_wp2_with fail
          refine (ltold_any _).mono ?_
          rintro e w5 ⟨rfl, hg⟩
          replace K := hid (K.out.grown hg); clear hg
          go_wp2_with fail
          go_ret
          exact ⟨rfl, K.out.k1.k.gr⟩
        · have j1 : k < n := by omega
          have j2 : ¬ k < 40 := by omega
          clear e1 e2
          clear hk
          go_wp2_with fail
          refine (ltold_any _).mono ?_
          rintro e w5 ⟨rfl, hg⟩
          replace K := hid (K.out.grown hg); clear hg
          go_wp2_with fail
          go_ret
          exact ⟨rfl, K.out.k1.k.gr⟩
end Go.Proofs.Ythobbekocimcnaa.lrises
