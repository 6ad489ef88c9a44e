/-
  The walk of the statement LawBand: while all values stay within their bands the count stays. No condition.
-/
import Derived.Test.YthobbekocimcnaaZ9
import Derived.Test.YthobbekocimcnaaZ2
import Derived.BigQuiet
import Derived.Deep.QuietTactic
import Derived.Deep.RegionHeld3
set_option linter.unusedSimpArgs false
set_option linter.unusedVariables false
namespace Go.Proofs.Ythobbekocimcnaa.lband
set_option maxRecDepth 100000
open Go.RowKit

theorem OneAt.at' {w : World} {ab ao c n : Nat} {g : Nat → Value} (h : OneAt w (.slice (some ⟨ab, ao, none⟩) n c) n g) {j : Nat} (hj : j < n) : w.cell? ⟨ab, ao + j, none⟩ = some (g j) := by
  obtain ⟨ab', ao', e, h2⟩ := h.cell hj
  cases e; exact h2 j hj
theorem fine_tg {c : Conf} (h : Fine c) {m : Nat} (hm : c.m = (m : Int)) {j : Nat} (hj : j < (tgOf c m).length) : 1 ≤ (tgOf c m)[j] ∧ (tgOf c m)[j] ≤ 2000 := by
  have h0 := h.t0
  rcases h.m with ⟨h1, h2⟩ | ⟨h1, h2, h3⟩
  · obtain rfl : m = 1 := by omega
    match j, hj with
    | 0, _ => exact h0
  · obtain rfl : m = 2 := by omega
    match j, hj with
    | 0, _ => exact h0
    | 1, _ => exact ⟨h2, h3⟩
set_option maxHeartbeats 6400000 in
theorem walk {w : World} (l : List Int) (p : Option Addr) (cap : Nat) (i0 : IntsAt w (.slice p l.length cap) l) (x : Int) (lw : List Int) (p2 : Option Addr) (c2 : Nat) (i2 : IntsAt w (.slice p2 lw.length c2) lw) (fh : Nat → Bool) (lh : Nat) (ph : Option Addr) (ch : Nat) (ih : OneAt w (.slice ph lh ch) lh (fun i => .bool (fh i))) :
    Calls Try.prog 5 #[.slice p l.length cap, .int .i64 x, .slice p2 lw.length c2, .slice ph lh ch] w fun e w' => e = .returned (.bool true) ∧ w.grownBy w' none := by
  have nl := i2.len
  unfold maxLen at nl
  obtain ⟨n, hn⟩ : ∃ n, lw.length = n := ⟨_, rfl⟩
  rw [hn] at i2 nl ⊢
  have Hn := hid hn; have In := hid i2
  clear hn i2
  have lhl := ih.len
  unfold maxLen at lhl
  have IH := hid ih; clear ih
  obtain ⟨mm, hmm⟩ : ∃ m : Nat, m = min n 30 := ⟨_, rfl⟩
  have HMM := hid (show mm ≤ n ∧ mm ≤ 30 ∧ (mm = n ∨ (mm < n ∧ mm = 30)) by omega)
  clear hmm
  go_enter Try.func5, Try.ntmps5
  go_wp2_with fail
  refine (fit_any l p cap _ i0).mono ?_
  rintro e w1 ⟨c, rfl, hF, hg⟩
  have HF := hid hF; have C0 := hid (cfx_new c hg); clear hg hF
  obtain ⟨m, u, d, hm, hu, hd, hm1, hm2, hu3, hd4, hok, -⟩ := fine_law HF.out
  have HM := hid hm; have HU := hid hu; have HD := hid hd; have HM12 := hid (And.intro hm1 hm2); have HUD := hid (And.intro hu3 hd4); have HOK := hid hok
  clear hm hu hd hm1 hm2 hu3 hd4 hok
  obtain ⟨d0, D, hd0, hD, hDu, hD0, hx⟩ := draw_in HF.out
  obtain ⟨z, f, hz, hzu, hzi, hf, f0, f1⟩ := hx x
  clear hx
  have hbx := C0.out.box
  have c9 := at_cell hbx 12; have c10 := at_cell hbx 13
  clear hbx
  go_wp2_with (refine wpList_store_new (w := w1) (cs := c.cells) rfl (by kernel_rfl) (by kernel_rfl) (by kernel_rfl) rfl rfl rfl rfl rfl ?_)
  go_quiet (fail)
  refine exit_gen (fun wx => Cfx w w1.heap.size c wx) (C0.out.grown ⟨rfl, rfl, rfl, Nat.le_refl _, fun _ _ _ => rfl⟩) (fun wx hKx => ?_)
  have C := hid hKx
  clear hKx C0 c9 c10 hd0 hD hDu hD0 hz hzu hzi hf
  generalize w1.heap.size = xb at *
  have NP1 := hid (lnew_fine HF.out HM.out HU.out HD.out HM12.out.1 HM12.out.2 HUD.out.1 HUD.out.2 f0 f1 (HOK.out _ f0 f1))
  have HLF := hid (lof_new c m u d f)
  have HFL := hid (lof_flat (c := c) (m := m) (u := u) (d := d) (f := f))
  obtain ⟨s0, hs0⟩ : ∃ s, laOf c m u d f = s := ⟨_, rfl⟩
  rw [hs0] at NP1 HLF HFL
  clear hs0 HOK HU HD HUD f0 f1
  go_wp2_with (refine wpList_conf C.out.box rfl rfl rfl rfl ?_)
  refine (NP1.out _).mono ?_
  rintro e w2 ⟨B1, rfl, hl, hg, hb⟩
  have K := hid (Lk1.start C.out hl hg hb); clear hl hg hb C NP1
  go_wp2_with fail
  go_loopw [12] (fun i wr => ∃ k : Nat, k ≤ mm ∧ i = .int .i64 (k : Int) ∧ ∃ s : La, Lk1 w xb c B1 s wr ∧ Lof c m s ∧ Flat s f) (fun i _ => mm - (intOf i).toNat)
  case atStart => exact ⟨0, Nat.zero_le _, rfl, _, K.out, HLF.out, HFL.out⟩
  case round =>
    obtain ⟨k, hk, rfl, s, hK, hlf, hfl⟩ := hrel
    have K := hid hK; have LF := hid hlf; have FL := hid hfl; clear hK hlf hfl
    by_cases hlt : k < mm
    · have HLT := hid hlt
      have j1 : k < n := by have := HMM.out; omega
      have j2 : k < 30 := by have := HMM.out; omega
      have j1' : (k : Int) < (n : Int) := by omega
      have j2' : (k : Int) < 30 := by omega
      have hkl : k < lw.length := by rw [Hn.out]; exact j1
      obtain ⟨ab, ao, rfl, -, hcc, -⟩ := (In.out.grown K.out.k.gr).cell hkl
      have hx0 := List.getElem?_eq_getElem hkl
      generalize lw[k] = q at *
      have CV := hid (fun (W : World) (hg : w.grownBy W none) => (In.out.grown hg).cell' hx0)
      clear hx0 hkl hlt hk
      by_cases hh : k < lh
      · have jh : k < lh := hh
        have jh' : (k : Int) < (lh : Int) := by omega
        clear hh
        obtain ⟨hb, ho, rfl, -⟩ := (IH.out.grown K.out.k.gr).cell jh
        have qh := OneAt.at' (IH.out.grown K.out.k.gr) jh
        generalize fh k = bh at qh
        cases bh with
        | false =>
          go_wp2_with fail
          obtain ⟨WZ, hWZ⟩ : ∃ x, x = wr := ⟨_, rfl⟩
          subst hWZ
          have HTGL := hid (show s.tg.length = m by rw [LF.out.tg]; exact tgOf_len c (by have := HM12.out; omega))
          go_loopw [13, 14] (fun x' j wr => ∃ (jj : Nat) (vs : List Int), jj ≤ m ∧ j = .int .i64 (jj : Int) ∧ Bv s.tg s.tol jj vs ∧ OwnI WZ.heap.size wr x' vs ∧ WZ.grownBy wr none) (fun _ j _ => m - (intOf j).toNat)
          case atStart => exact ⟨0, [], Nat.zero_le _, rfl, .nil _ _, .nil _ _, .refl _ _⟩
          case round =>
            obtain ⟨jj, vs, hj, rfl, hbv, hown, hgr⟩ := hrel
            have BV := hid hbv; have OW := hid hown; have GR := hid hgr; clear hbv hgr
            have K2 := hid (K.out.grown GR.out)
            have cm : wr.cell? ⟨xb, 2, none⟩ = some (.int .i64 (m : Int)) := (at_cell K2.out.box 2).trans (congrArg (fun z => some (Value.int .i64 z)) HM.out)
            obtain ⟨pv, kv, rfl⟩ := hown.form
            clear hown
            rw [BV.out.len] at OW ⊢
            have m2 : m ≤ 2 := HM12.out.2
            by_cases hjt : jj < m
            · have HJT := hid hjt
              have hjg : jj < (tgOf c m).length := by rw [tgOf_len c (by omega)]; exact hjt
              have hy := List.getElem?_eq_getElem hjg
              have ht := fine_tg HF.out HM.out hjg
              generalize (tgOf c m)[jj] = Y at hy ht
              have qy := tg_cell K2.out.box (by omega) hy
              have qt := at_cell K2.out.box 11
              have qx := CV.out _ K2.out.k.gr
              have HY := hid (show s.tg[jj]? = some Y by rw [LF.out.tg]; exact hy)
              clear hy hjg
              obtain ⟨A, P, P9, lo, Bq, Q, hi, d0', D', eA, eP, eP9, elo, elo', elw, eB, eQ, ehi, ehi', ehw, ed, eD, eDu, eD0, eD0', b0, b1, b2, b3, b4, b5, b6, hall⟩ := band_draw ht HF.out.tol
              obtain ⟨z', v, ez, ezu, ezi, ev, v0, v1, hin⟩ := hall q
              clear hall ht
              have HIN := hid (And.intro v0 (And.intro v1 hin))
              clear hin v0 v1
              have LFT := hid LF.out.tol
              have BV2 := hid (BV.out.snoc HY.out HIN.out.1 HIN.out.2.1 (by rw [LF.out.tol]; exact HIN.out.2.2))
              have j4 : jj < 4 := by omega
              have i1 : (jj : Int) < (m : Int) := by omega
              have i2 : (jj : Int) < 4 := by omega
              clear hj hjt
              go_wp2_with fail
              have G17 := hid (show WZ.grownBy wr none from GR.out)
              go_quiet (fail)
              refine exit_gen (fun wx => WZ.grownBy wx none ∧ OwnI WZ.heap.size wx (.slice pv jj kv) vs) ⟨gb_trans GR.out ⟨rfl, rfl, rfl, Nat.le_refl _, fun _ _ _ => rfl⟩ (.inl rfl), OW.out⟩ (fun WY hKx => ?_)
              have GY := hid hKx.1; have OY := hid hKx.2
              clear hKx cm qy qt qx
              have K3 := hid (K.out.grown GY.out)
              have qx := CV.out _ K3.out.k.gr
              have O2 := hid (OY.out.grown (World.grownBy_alloc WY (.cells #[.int .i64 v] 2) none) (by simp))
              have G2 := hid (gb_alloc GY.out (.cells #[.int .i64 v] 2))
              have CY := hid (at_cell (at_new WY (.cells #[.int .i64 v] 2)) 0)
              go_wp2_with (refine append_int rfl _ _ rfl WZ.heap.size _ vs rfl O2.out _ v rfl CY.out (by rw [BV.out.len]; omega) (gb_size G2.out) ?_; intro v9 w9 hown hgrow hat; have O3 := hid hown; have G3 := hid (gb_ownI G2.out O2.out (Nat.le_refl _) hgrow); clear hown hgrow hat)
              go_roundw
              case rel => exact ⟨jj + 1, _, by have := HJT.out; omega, by go_num, BV2.out, O3.out, G3.out⟩
              case measure => have := HJT.out; simp [intOf]; omega
            · obtain rfl : jj = m := by omega
              clear hj hjt
              obtain ⟨hmay, hwant⟩ := BV.out.want K.out.k.at1.ok FL.out HTGL.out HM12.out.1
              have HMAY := hid hmay; have HW := hid hwant; clear hmay hwant
              obtain ⟨hfl, hcome⟩ := FL.out.next K.out.k.at1.ok HW.out
              have HC := hid hcome; have HTL := hid hfl; have HTF := hid (LF.out.next K.out.k.at1.ok vs); clear hfl hcome
              have sf : (f == f) = true := by simp
              go_wp2_with fail
              refine (lnext_as K2.out.k.at1 (show IntsAt wr (.slice pv jj kv) vs from by have h := OW.out.ints; exact h) HMAY.out HC.out HW.out rfl).mono ?_
              rintro e w4 ⟨rfl, hl, hc⟩
              replace K2 := hid (K2.out.chg hl hc); clear hl hc cm
              generalize s.next vs = t at *
              go_wp2_with fail
              go_roundw
              case rel => exact ⟨k + 1, by have := HLT.out; omega, by go_num, _, K2.out, HTF.out, HTL.out⟩
              case measure => have := HLT.out; simp [intOf]; omega
        | true =>
          have sf : (f == f) = true := by simp
          go_wp2_with fail
          refine (lhold_as K.out.k.at1 FL.out.n rfl).mono ?_
          rintro e w3 ⟨rfl, hl, hc⟩
          have HTF := hid (LF.out.hold K.out.k.at1.ok); have HTL := hid (FL.out.hold K.out.k.at1.ok)
          replace K := hid (K.out.chg hl hc); clear hl hc
          generalize s.hold = t at *
          go_wp2_with fail
          go_roundw
          case rel => exact ⟨k + 1, by have := HLT.out; omega, by go_num, _, K.out, HTF.out, HTL.out⟩
          case measure => have := HLT.out; simp [intOf]; omega
      · have jh : ¬ k < lh := hh
        have jh' : ¬ (k : Int) < (lh : Int) := by omega
        clear hh
        go_wp2_with fail
        obtain ⟨WZ, hWZ⟩ : ∃ x, x = wr := ⟨_, rfl⟩
        subst hWZ
        have HTGL := hid (show s.tg.length = m by rw [LF.out.tg]; exact tgOf_len c (by have := HM12.out; omega))
        go_loopw [13, 14] (fun x' j wr => ∃ (jj : Nat) (vs : List Int), jj ≤ m ∧ j = .int .i64 (jj : Int) ∧ Bv s.tg s.tol jj vs ∧ OwnI WZ.heap.size wr x' vs ∧ WZ.grownBy wr none) (fun _ j _ => m - (intOf j).toNat)
        case atStart => exact ⟨0, [], Nat.zero_le _, rfl, .nil _ _, .nil _ _, .refl _ _⟩
        case round =>
          obtain ⟨jj, vs, hj, rfl, hbv, hown, hgr⟩ := hrel
          have BV := hid hbv; have OW := hid hown; have GR := hid hgr; clear hbv hgr
          have K2 := hid (K.out.grown GR.out)
          have cm : wr.cell? ⟨xb, 2, none⟩ = some (.int .i64 (m : Int)) := (at_cell K2.out.box 2).trans (congrArg (fun z => some (Value.int .i64 z)) HM.out)
          obtain ⟨pv, kv, rfl⟩ := hown.form
          clear hown
          rw [BV.out.len] at OW ⊢
          have m2 : m ≤ 2 := HM12.out.2
          by_cases hjt : jj < m
          · have HJT := hid hjt
            have hjg : jj < (tgOf c m).length := by rw [tgOf_len c (by omega)]; exact hjt
            have hy := List.getElem?_eq_getElem hjg
            have ht := fine_tg HF.out HM.out hjg
            generalize (tgOf c m)[jj] = Y at hy ht
            have qy := tg_cell K2.out.box (by omega) hy
            have qt := at_cell K2.out.box 11
            have qx := CV.out _ K2.out.k.gr
            have HY := hid (show s.tg[jj]? = some Y by rw [LF.out.tg]; exact hy)
            clear hy hjg
            obtain ⟨A, P, P9, lo, Bq, Q, hi, d0', D', eA, eP, eP9, elo, elo', elw, eB, eQ, ehi, ehi', ehw, ed, eD, eDu, eD0, eD0', b0, b1, b2, b3, b4, b5, b6, hall⟩ := band_draw ht HF.out.tol
            obtain ⟨z', v, ez, ezu, ezi, ev, v0, v1, hin⟩ := hall q
            clear hall ht
            have HIN := hid (And.intro v0 (And.intro v1 hin))
            clear hin v0 v1
            have LFT := hid LF.out.tol
            have BV2 := hid (BV.out.snoc HY.out HIN.out.1 HIN.out.2.1 (by rw [LF.out.tol]; exact HIN.out.2.2))
            have j4 : jj < 4 := by omega
            have i1 : (jj : Int) < (m : Int) := by omega
            have i2 : (jj : Int) < 4 := by omega
            clear hj hjt
            go_wp2_with fail
            have G17 := hid (show WZ.grownBy wr none from GR.out)
            go_quiet (fail)
            refine exit_gen (fun wx => WZ.grownBy wx none ∧ OwnI WZ.heap.size wx (.slice pv jj kv) vs) ⟨gb_trans GR.out ⟨rfl, rfl, rfl, Nat.le_refl _, fun _ _ _ => rfl⟩ (.inl rfl), OW.out⟩ (fun WY hKx => ?_)
            have GY := hid hKx.1; have OY := hid hKx.2
            clear hKx cm qy qt qx
            have K3 := hid (K.out.grown GY.out)
            have qx := CV.out _ K3.out.k.gr
            have O2 := hid (OY.out.grown (World.grownBy_alloc WY (.cells #[.int .i64 v] 2) none) (by simp))
            have G2 := hid (gb_alloc GY.out (.cells #[.int .i64 v] 2))
            have CY := hid (at_cell (at_new WY (.cells #[.int .i64 v] 2)) 0)
            go_wp2_with (refine append_int rfl _ _ rfl WZ.heap.size _ vs rfl O2.out _ v rfl CY.out (by rw [BV.out.len]; omega) (gb_size G2.out) ?_; intro v9 w9 hown hgrow hat; have O3 := hid hown; have G3 := hid (gb_ownI G2.out O2.out (Nat.le_refl _) hgrow); clear hown hgrow hat)
            go_roundw
            case rel => exact ⟨jj + 1, _, by have := HJT.out; omega, by go_num, BV2.out, O3.out, G3.out⟩
            case measure => have := HJT.out; simp [intOf]; omega
          · obtain rfl : jj = m := by omega
            clear hj hjt
            obtain ⟨hmay, hwant⟩ := BV.out.want K.out.k.at1.ok FL.out HTGL.out HM12.out.1
            have HMAY := hid hmay; have HW := hid hwant; clear hmay hwant
            obtain ⟨hfl, hcome⟩ := FL.out.next K.out.k.at1.ok HW.out
            have HC := hid hcome; have HTL := hid hfl; have HTF := hid (LF.out.next K.out.k.at1.ok vs); clear hfl hcome
            have sf : (f == f) = true := by simp
            go_wp2_with fail
            refine (lnext_as K2.out.k.at1 (show IntsAt wr (.slice pv jj kv) vs from by have h := OW.out.ints; exact h) HMAY.out HC.out HW.out rfl).mono ?_
            rintro e w4 ⟨rfl, hl, hc⟩
            replace K2 := hid (K2.out.chg hl hc); clear hl hc cm
            generalize s.next vs = t at *
            go_wp2_with fail
            go_roundw
            case rel => exact ⟨k + 1, by have := HLT.out; omega, by go_num, _, K2.out, HTF.out, HTL.out⟩
            case measure => have := HLT.out; simp [intOf]; omega
    · obtain rfl : k = mm := by omega
      clear hlt
      rcases HMM.out.2.2 with e | ⟨e1, e2⟩
      · have j1 : ¬ k < n := by omega
        clear e
        clear hk
        have sf : (f == f) = true := by simp
        go_wp2_with fail
        refine (ltold_any _).mono ?_
        rintro e w5 ⟨rfl, hg⟩
        replace K := hid (K.out.grown hg); clear hg
        go_wp2_with fail
        refine (lcount_as K.out.k.at1 FL.out.n).mono ?_
        rintro e w6 ⟨rfl, rfl⟩
        go_wp2_with fail
        go_ret
        exact ⟨by simp, K.out.k.gr⟩
      · have j1 : k < n := by omega
        have j2 : ¬ k < 30 := by omega
        clear e1 e2
        clear hk
        have sf : (f == f) = true := by simp
        go_wp2_with fail
        refine (ltold_any _).mono ?_
        rintro e w5 ⟨rfl, hg⟩
        replace K := hid (K.out.grown hg); clear hg
        go_wp2_with fail
        refine (lcount_as K.out.k.at1 FL.out.n).mono ?_
        rintro e w6 ⟨rfl, rfl⟩
        go_wp2_with fail
        go_ret
        exact ⟨by simp, K.out.k.gr⟩
end Go.Proofs.Ythobbekocimcnaa.lband
