/-
  The walk of the statement CalmBetween: what comes is never above all that was wanted in the window for down and the count, nor below all in the window for up. No condition.
-/
import Derived.Test.YtnpaecbdejemnaaCaF
import Derived.Test.YtnpaecbdejemnaaUmi
import Derived.Test.YtnpaecbdejemnaaCaW
import Derived.Test.YtnpaecbdejemnaaSmi
set_option linter.unusedSimpArgs false
set_option linter.unusedVariables false
namespace Go.Proofs.Ytnpaecbdejemnaa.cbetween
set_option maxRecDepth 100000
open Go.RowKit

set_option maxHeartbeats 6400000 in
theorem walk {w : World} (up down : Int) (lc : List Int) (p : Option Addr) (c : Nat) (i0 : IntsAt w (.slice p lc.length c) lc) (lw : List Int) (p1 : Option Addr) (c1 : Nat) (i1 : IntsAt w (.slice p1 lw.length c1) lw) :
    Calls Try.prog 7 #[.int .i64 up, .int .i64 down, .slice p lc.length c, .slice p1 lw.length c1] w fun e w' => e = .returned (.bool true) ∧ w.grownBy w' none := by
  obtain ⟨u, hu, mu⟩ := umod_small up 7 (by omega)
  have mu : (IntKind.u64.wrap up).tmod 7 = (u : Int) := mu
  have cu : IntKind.i64.wrap (u : Int) = (u : Int) := IntWalk.i64_in _ (by omega)
  obtain ⟨d, hd, md⟩ := umod_small down 7 (by omega)
  have md : (IntKind.u64.wrap down).tmod 7 = (d : Int) := md
  have cd : IntKind.i64.wrap (d : Int) = (d : Int) := IntWalk.i64_in _ (by omega)
  have HU := hid (show u ≤ 60 by omega); have HD := hid (show d ≤ 60 by omega)
  have ncl := i0.len
  unfold maxLen at ncl
  obtain ⟨nc, hnc⟩ : ∃ n, lc.length = n := ⟨_, rfl⟩
  rw [hnc] at i0 ncl ⊢
  have Hnc := hid hnc; have Inc := hid i0
  clear hnc i0
  have nl := i1.len
  unfold maxLen at nl
  obtain ⟨n, hn⟩ : ∃ n, lw.length = n := ⟨_, rfl⟩
  rw [hn] at i1 nl ⊢
  have Hn := hid hn; have In := hid i1
  clear hn i1
  obtain ⟨m, hm⟩ : ∃ m : Nat, m = min n 30 := ⟨_, rfl⟩
  have HM := hid (show m ≤ n ∧ m ≤ 30 ∧ (m = n ∨ (m < n ∧ m = 30)) by omega)
  obtain ⟨M, hM⟩ : ∃ M : Nat, M = max u d + 1 := ⟨_, rfl⟩
  have HMM := hid (show 1 ≤ M ∧ M ≤ 7 ∧ M = max u d + 1 by omega)
  clear hm hM
  go_enter Try.func7, Try.ntmps7
  go_wp2_with fail
  refine (new_ok _ _ HU.out HD.out _).mono ?_
  rintro e w1 ⟨b, rfl, hc, hg, hb⟩
  have K1 := hid (Ck1.start hc hg hb); clear hc hg hb
  go_wp2_with fail
  go_loopw [12] (fun i wr => ∃ k : Nat, k ≤ m ∧ i = .int .i64 (k : Int) ∧ ∃ a : List Int, Ck1 w b ⟨u, d, a⟩ wr ∧ a.length = min k M) (fun i _ => m - (intOf i).toNat)
  case atStart => exact ⟨0, Nat.zero_le _, rfl, _, K1.out, by simp⟩
  case round =>
    obtain ⟨k, hk, rfl, a, hK, hA⟩ := hrel
    have K := hid hK; have HA := hid hA; clear hK hA
    by_cases hlt : k < m
    · have HLT := hid hlt
      have hkl : k < lw.length := by rw [Hn.out]; have := HM.out; omega
      obtain ⟨ab, ao, rfl, -, hcc, -⟩ := (In.out.grown K.out.gr).cell hkl
      have hx0 := List.getElem?_eq_getElem hkl
      generalize lw[k] = q at *
      have CW := hid (fun (W : World) (hg : w.grownBy W none) => (In.out.grown hg).cell' hx0)
      clear hx0
      obtain ⟨z, z0, z1, mz⟩ := umod_int q 100 (by omega)
      have mz : (IntKind.u64.wrap q).tmod 100 = z := mz
      have cz : IntKind.i64.wrap z = z := IntWalk.i64_in _ (by omega)
      have MZ := hid (show mill z = z from mill_id (by omega))
      have j1 : k < n := by have := HM.out; omega
      have j2 : k < 30 := by have := HM.out; omega
      have j1' : (k : Int) < (n : Int) := by omega
      have k30 : k ≤ 30 := by omega
      clear hlt hk
      by_cases hc : k < nc
      · have jc : (k : Int) < (nc : Int) := by omega
        have hkc : k < lc.length := by rw [Hnc.out]; exact hc
        obtain ⟨cb, co, rfl, -, hcc2, -⟩ := (Inc.out.grown K.out.gr).cell hkc
        have hxc := List.getElem?_eq_getElem hkc
        generalize lc[k] = qc at *
        have CC := hid (fun (W : World) (hg : w.grownBy W none) => (Inc.out.grown hg).cell' hxc)
        clear hxc
        obtain ⟨N, N0, N1, mN⟩ := umod_int qc 100 (by omega)
        have mN : (IntKind.u64.wrap qc).tmod 100 = N := mN
        have cN : IntKind.i64.wrap N = N := IntWalk.i64_in _ (by omega)
        have MN := hid (show mill N = N from mill_id (by omega))
        go_wp2_with fail
        have hq := CW.out _ K.out.gr
        go_quiet (fail)
        refine exit_gen (fun wx => Ck1 w b ⟨u, d, a⟩ wx) (K.out.grown ⟨rfl, rfl, rfl, Nat.le_refl _, fun _ _ _ => rfl⟩) (fun wx hKx => ?_)
        clear hq
        replace K := hid hKx; clear hKx
        have hqc := CC.out _ K.out.gr
        go_wp2_with fail
        refine (next_any N z K.out.at1).mono ?_
        rintro e w3 ⟨rfl, hc', hg⟩
        replace K := hid (K.out.chg hc' hg); clear hc' hg
        have hne := Ca.push_ne ⟨u, d, a⟩ z
        have hok := K.out.at1.ok
        have HL := hid (show (Ca.push ⟨u, d, a⟩ z).l.length = min (k + 1) M by rw [Ca.push_len, show (⟨u, d, a⟩ : Ca).most = max u d + 1 from rfl, show (⟨u, d, a⟩ : Ca).l.length = min k M from HA.out]; have := HMM.out; omega)
        obtain ⟨c2, hc2⟩ : ∃ c2, Ca.push ⟨u, d, a⟩ z = c2 := ⟨_, rfl⟩
        have eu : c2.up = u := by rw [← hc2]; rfl
        have ed : c2.down = d := by rw [← hc2]; rfl
        have HC2 := hid (show c2 = ⟨u, d, c2.l⟩ by rw [← hc2]; rfl)
        have hmid := Ca.push_mid ⟨u, d, a⟩ z
        have hat := fun n hn => push_at ⟨u, d, a⟩ z n hn
        rw [hc2] at K HL hne hok hmid hat ⊢
        rw [MZ.out] at hmid hat
        have hin := Ca.out_in (Int.le_trans hmid.1 hmid.2) N
        rw [MN.out] at hin
        have hh := Ca.his hok hne
        have hl := Ca.los hok hne
        rw [ed] at hh; rw [eu] at hl
        obtain ⟨e, nh⟩ : ∃ e : Nat, c2.l.length = e := ⟨_, rfl⟩
        have he1 : 1 ≤ e := by have := List.length_pos_iff.2 hne; omega
        have hlast := hat (e - 1) (by omega)
        rw [nh] at hh hl
        generalize c2.out N = o at *
        generalize c2.hi = H at *
        generalize c2.lo = Lo at *
        have HIN := hid hin; have HLO := hid (Int.le_trans hmid.1 hmid.2); have HH := hid hh; have HLw := hid hl; have HNH := hid nh; have HLAST := hid hlast
        have A2 := hid (fun (W : World) (h : CaAt W b c2) => alls_any h)
        generalize c2.l = l2 at *
        clear hin hmid hh hl nh hlast hat hne hok hc2 eu ed
        go_wp2_with fail
        refine (A2.out _ K.out.at1).mono ?_
        rintro e w4 ⟨⟨v, rfl, hv⟩, hg⟩
        have V := hid hv.ints; replace K := hid (K.out.grown hg); clear hg
        have hf := hv.ints.form
        clear hv
        obtain ⟨pv, cv, rfl⟩ := hf
        rw [HNH.out] at V ⊢
        obtain ⟨vb, vo, rfl, -, hcv, -⟩ := V.out.cell (i := e - 1) (by rw [HNH.out]; omega)
        have HCV := hid (fun (j : Nat) (x : Int) (hx : l2[j]? = some x) => V.out.cell' hx)
        have hcl := HCV.out (e - 1) z HLAST.out
        have hl7 : e ≤ 7 := by rw [← HNH.out, HL.out]; have := HMM.out; omega
        have e9 : min ((k : Int) + 1) (max (u : Int) (d : Int) + 1) = (e : Int) := by have h1 := HL.out; have h2 := HNH.out; have h3 := HMM.out; omega
        have s9 : IntKind.i64.wrap ((e : Int) - 1) = (e : Int) - 1 := IntWalk.i64_in _ (by omega)
        have sz : (z == z) = true := by simp
        go_wp2_with fail
        go_loopw [17, 18, 19] (fun hi lo j wr => ∃ jj : Nat, jj ≤ e ∧ j = .int .i64 (jj : Int) ∧ hi = .int .i64 (hiK l2 d jj) ∧ lo = .int .i64 (loK l2 u jj) ∧ w4 = wr) (fun _ _ j _ => e - (intOf j).toNat)
        case atStart => exact ⟨0, Nat.zero_le _, rfl, rfl, rfl, rfl⟩
        case round =>
          obtain ⟨jj, hjj, rfl, rfl, rfl, rfl⟩ := hrel
          clear hcl e9 s9
          by_cases hj : jj < e
          · have hjl : jj < l2.length := by rw [HNH.out]; exact hj
            have hy := List.getElem?_eq_getElem hjl
            generalize l2[jj] = x at *
            have hcx := HCV.out jj x hy
            have HJ := hid hj
            have ij : (jj : Int) < (e : Int) := by omega
            clear hjj
            have sj : IntKind.i64.wrap ((e : Int) - (jj : Int)) = (e : Int) - (jj : Int) := IntWalk.i64_in _ (by omega)
            by_cases hp : e ≤ d + 1 + jj
            · by_cases hq : e ≤ u + 1 + jj
              · have HX := hid (hiK_yes (l := l2) (d := d) (k := jj) hy (by rw [HNH.out]; exact hp))
                have LX := hid (loK_yes (l := l2) (d := u) (k := jj) hy (by rw [HNH.out]; exact hq))
                have ip : (e : Int) - (jj : Int) ≤ (d : Int) + 1 := by omega
                have iq : (e : Int) - (jj : Int) ≤ (u : Int) + 1 := by omega
                clear hy hp hq
                generalize hiK l2 d jj = g at *
                generalize loK l2 u jj = f at *
                go_wp2_with fail
                all_goals go_roundw
                all_goals first | (case measure => have := HJ.out; simp [intOf]; omega) | (case rel => exact ⟨jj + 1, HJ.out, by go_num, congrArg (Value.int .i64) (by have := HX.out; omega), congrArg (Value.int .i64) (by have := LX.out; omega), trivial⟩)
              · have HX := hid (hiK_yes (l := l2) (d := d) (k := jj) hy (by rw [HNH.out]; exact hp))
                have LX := hid (loK_no (l := l2) (d := u) (k := jj) (by rw [HNH.out]; exact hq))
                have ip : (e : Int) - (jj : Int) ≤ (d : Int) + 1 := by omega
                have iq : ¬ (e : Int) - (jj : Int) ≤ (u : Int) + 1 := by omega
                clear hy hp hq
                generalize hiK l2 d jj = g at *
                generalize loK l2 u jj = f at *
                go_wp2_with fail
                all_goals go_roundw
                all_goals first | (case measure => have := HJ.out; simp [intOf]; omega) | (case rel => exact ⟨jj + 1, HJ.out, by go_num, congrArg (Value.int .i64) (by have := HX.out; omega), congrArg (Value.int .i64) (by have := LX.out; omega), trivial⟩)
            · by_cases hq : e ≤ u + 1 + jj
              · have HX := hid (hiK_no (l := l2) (d := d) (k := jj) (by rw [HNH.out]; exact hp))
                have LX := hid (loK_yes (l := l2) (d := u) (k := jj) hy (by rw [HNH.out]; exact hq))
                have ip : ¬ (e : Int) - (jj : Int) ≤ (d : Int) + 1 := by omega
                have iq : (e : Int) - (jj : Int) ≤ (u : Int) + 1 := by omega
                clear hy hp hq
                generalize hiK l2 d jj = g at *
                generalize loK l2 u jj = f at *
                go_wp2_with fail
                all_goals go_roundw
                all_goals first | (case measure => have := HJ.out; simp [intOf]; omega) | (case rel => exact ⟨jj + 1, HJ.out, by go_num, congrArg (Value.int .i64) (by have := HX.out; omega), congrArg (Value.int .i64) (by have := LX.out; omega), trivial⟩)
              · have HX := hid (hiK_no (l := l2) (d := d) (k := jj) (by rw [HNH.out]; exact hp))
                have LX := hid (loK_no (l := l2) (d := u) (k := jj) (by rw [HNH.out]; exact hq))
                have ip : ¬ (e : Int) - (jj : Int) ≤ (d : Int) + 1 := by omega
                have iq : ¬ (e : Int) - (jj : Int) ≤ (u : Int) + 1 := by omega
                clear hy hp hq
                generalize hiK l2 d jj = g at *
                generalize loK l2 u jj = f at *
                go_wp2_with fail
                all_goals go_roundw
                all_goals first | (case measure => have := HJ.out; simp [intOf]; omega) | (case rel => exact ⟨jj + 1, HJ.out, by go_num, congrArg (Value.int .i64) (by have := HX.out; omega), congrArg (Value.int .i64) (by have := LX.out; omega), trivial⟩)
          · obtain rfl : jj = e := by omega
            clear hj hjj
            rw [HH.out, HLw.out]
            obtain ⟨h1, h2, h3⟩ := HIN.out
            have hlo := HLO.out
            have i6 : decide (H < o) = false := by simp; omega
            have i7 : min Lo H = Lo := by omega
            have i8 : decide (o < Lo) = false := by simp; omega
            have HK2 := hid (show l2.length = min (k + 1) M from HL.out)
            have i6' : o ≤ H := h2
            have i8' : Lo ≤ o := h1
            have H3 := hid h3
            clear h1 h2 h3 hlo
            go_wp2_with fail
            all_goals first | exact ⟨⟨k + 1, by have := HLT.out; omega, by go_num, l2, by rw [← HC2.out]; exact K.out, HK2.out⟩, by have := HLT.out; simp [intOf]; omega⟩ | (exfalso; rename_i hx; have h3 := H3.out; simp only [bne_iff_ne, ne_eq] at hx; omega)
      · have jc : ¬ (k : Int) < (nc : Int) := by omega
        have MN := hid (show mill 5 = 5 from mill_id (by omega))
        go_wp2_with fail
        have hq := CW.out _ K.out.gr
        go_quiet (fail)
        refine exit_gen (fun wx => Ck1 w b ⟨u, d, a⟩ wx) (K.out.grown ⟨rfl, rfl, rfl, Nat.le_refl _, fun _ _ _ => rfl⟩) (fun wx hKx => ?_)
        clear hq
        replace K := hid hKx; clear hKx
        go_wp2_with fail
        refine (next_any 5 z K.out.at1).mono ?_
        rintro e w3 ⟨rfl, hc', hg⟩
        replace K := hid (K.out.chg hc' hg); clear hc' hg
        have hne := Ca.push_ne ⟨u, d, a⟩ z
        have hok := K.out.at1.ok
        have HL := hid (show (Ca.push ⟨u, d, a⟩ z).l.length = min (k + 1) M by rw [Ca.push_len, show (⟨u, d, a⟩ : Ca).most = max u d + 1 from rfl, show (⟨u, d, a⟩ : Ca).l.length = min k M from HA.out]; have := HMM.out; omega)
        obtain ⟨c2, hc2⟩ : ∃ c2, Ca.push ⟨u, d, a⟩ z = c2 := ⟨_, rfl⟩
        have eu : c2.up = u := by rw [← hc2]; rfl
        have ed : c2.down = d := by rw [← hc2]; rfl
        have HC2 := hid (show c2 = ⟨u, d, c2.l⟩ by rw [← hc2]; rfl)
        have hmid := Ca.push_mid ⟨u, d, a⟩ z
        have hat := fun n hn => push_at ⟨u, d, a⟩ z n hn
        rw [hc2] at K HL hne hok hmid hat ⊢
        rw [MZ.out] at hmid hat
        have hin := Ca.out_in (Int.le_trans hmid.1 hmid.2) 5
        rw [MN.out] at hin
        have hh := Ca.his hok hne
        have hl := Ca.los hok hne
        rw [ed] at hh; rw [eu] at hl
        obtain ⟨e, nh⟩ : ∃ e : Nat, c2.l.length = e := ⟨_, rfl⟩
        have he1 : 1 ≤ e := by have := List.length_pos_iff.2 hne; omega
        have hlast := hat (e - 1) (by omega)
        rw [nh] at hh hl
        generalize c2.out 5 = o at *
        generalize c2.hi = H at *
        generalize c2.lo = Lo at *
        have HIN := hid hin; have HLO := hid (Int.le_trans hmid.1 hmid.2); have HH := hid hh; have HLw := hid hl; have HNH := hid nh; have HLAST := hid hlast
        have A2 := hid (fun (W : World) (h : CaAt W b c2) => alls_any h)
        generalize c2.l = l2 at *
        clear hin hmid hh hl nh hlast hat hne hok hc2 eu ed
        go_wp2_with fail
        refine (A2.out _ K.out.at1).mono ?_
        rintro e w4 ⟨⟨v, rfl, hv⟩, hg⟩
        have V := hid hv.ints; replace K := hid (K.out.grown hg); clear hg
        have hf := hv.ints.form
        clear hv
        obtain ⟨pv, cv, rfl⟩ := hf
        rw [HNH.out] at V ⊢
        obtain ⟨vb, vo, rfl, -, hcv, -⟩ := V.out.cell (i := e - 1) (by rw [HNH.out]; omega)
        have HCV := hid (fun (j : Nat) (x : Int) (hx : l2[j]? = some x) => V.out.cell' hx)
        have hcl := HCV.out (e - 1) z HLAST.out
        have hl7 : e ≤ 7 := by rw [← HNH.out, HL.out]; have := HMM.out; omega
        have e9 : min ((k : Int) + 1) (max (u : Int) (d : Int) + 1) = (e : Int) := by have h1 := HL.out; have h2 := HNH.out; have h3 := HMM.out; omega
        have s9 : IntKind.i64.wrap ((e : Int) - 1) = (e : Int) - 1 := IntWalk.i64_in _ (by omega)
        have sz : (z == z) = true := by simp
        go_wp2_with fail
        go_loopw [17, 18, 19] (fun hi lo j wr => ∃ jj : Nat, jj ≤ e ∧ j = .int .i64 (jj : Int) ∧ hi = .int .i64 (hiK l2 d jj) ∧ lo = .int .i64 (loK l2 u jj) ∧ w4 = wr) (fun _ _ j _ => e - (intOf j).toNat)
        case atStart => exact ⟨0, Nat.zero_le _, rfl, rfl, rfl, rfl⟩
        case round =>
          obtain ⟨jj, hjj, rfl, rfl, rfl, rfl⟩ := hrel
          clear hcl e9 s9
          by_cases hj : jj < e
          · have hjl : jj < l2.length := by rw [HNH.out]; exact hj
            have hy := List.getElem?_eq_getElem hjl
            generalize l2[jj] = x at *
            have hcx := HCV.out jj x hy
            have HJ := hid hj
            have ij : (jj : Int) < (e : Int) := by omega
            clear hjj
            have sj : IntKind.i64.wrap ((e : Int) - (jj : Int)) = (e : Int) - (jj : Int) := IntWalk.i64_in _ (by omega)
            by_cases hp : e ≤ d + 1 + jj
            · by_cases hq : e ≤ u + 1 + jj
              · have HX := hid (hiK_yes (l := l2) (d := d) (k := jj) hy (by rw [HNH.out]; exact hp))
                have LX := hid (loK_yes (l := l2) (d := u) (k := jj) hy (by rw [HNH.out]; exact hq))
                have ip : (e : Int) - (jj : Int) ≤ (d : Int) + 1 := by omega
                have iq : (e : Int) - (jj : Int) ≤ (u : Int) + 1 := by omega
                clear hy hp hq
                generalize hiK l2 d jj = g at *
                generalize loK l2 u jj = f at *
                go_wp2_with fail
                all_goals go_roundw
                all_goals first | (case measure => have := HJ.out; simp [intOf]; omega) | (case rel => exact ⟨jj + 1, HJ.out, by go_num, congrArg (Value.int .i64) (by have := HX.out; omega), congrArg (Value.int .i64) (by have := LX.out; omega), trivial⟩)
              · have HX := hid (hiK_yes (l := l2) (d := d) (k := jj) hy (by rw [HNH.out]; exact hp))
                have LX := hid (loK_no (l := l2) (d := u) (k := jj) (by rw [HNH.out]; exact hq))
                have ip : (e : Int) - (jj : Int) ≤ (d : Int) + 1 := by omega
                have iq : ¬ (e : Int) - (jj : Int) ≤ (u : Int) + 1 := by omega
                clear hy hp hq
                generalize hiK l2 d jj = g at *
                generalize loK l2 u jj = f at *
                go_wp2_with fail
                all_goals go_roundw
                all_goals first | (case measure => have := HJ.out; simp [intOf]; omega) | (case rel => exact ⟨jj + 1, HJ.out, by go_num, congrArg (Value.int .i64) (by have := HX.out; omega), congrArg (Value.int .i64) (by have := LX.out; omega), trivial⟩)
            · by_cases hq : e ≤ u + 1 + jj
              · have HX := hid (hiK_no (l := l2) (d := d) (k := jj) (by rw [HNH.out]; exact hp))
                have LX := hid (loK_yes (l := l2) (d := u) (k := jj) hy (by rw [HNH.out]; exact hq))
                have ip : ¬ (e : Int) - (jj : Int) ≤ (d : Int) + 1 := by omega
                have iq : (e : Int) - (jj : Int) ≤ (u : Int) + 1 := by omega
                clear hy hp hq
                generalize hiK l2 d jj = g at *
                generalize loK l2 u jj = f at *
                go_wp2_with fail
                all_goals go_roundw
                all_goals first | (case measure => have := HJ.out; simp [intOf]; omega) | (case rel => exact ⟨jj + 1, HJ.out, by go_num, congrArg (Value.int .i64) (by have := HX.out; omega), congrArg (Value.int .i64) (by have := LX.out; omega), trivial⟩)
              · have HX := hid (hiK_no (l := l2) (d := d) (k := jj) (by rw [HNH.out]; exact hp))
                have LX := hid (loK_no (l := l2) (d := u) (k := jj) (by rw [HNH.out]; exact hq))
                have ip : ¬ (e : Int) - (jj : Int) ≤ (d : Int) + 1 := by omega
                have iq : ¬ (e : Int) - (jj : Int) ≤ (u : Int) + 1 := by omega
                clear hy hp hq
                generalize hiK l2 d jj = g at *
                generalize loK l2 u jj = f at *
                go_wp2_with fail
                all_goals go_roundw
                all_goals first | (case measure => have := HJ.out; simp [intOf]; omega) | (case rel => exact ⟨jj + 1, HJ.out, by go_num, congrArg (Value.int .i64) (by have := HX.out; omega), congrArg (Value.int .i64) (by have := LX.out; omega), trivial⟩)
          · obtain rfl : jj = e := by omega
            clear hj hjj
            rw [HH.out, HLw.out]
            obtain ⟨h1, h2, h3⟩ := HIN.out
            have hlo := HLO.out
            have i6 : decide (H < o) = false := by simp; omega
            have i7 : min Lo H = Lo := by omega
            have i8 : decide (o < Lo) = false := by simp; omega
            have HK2 := hid (show l2.length = min (k + 1) M from HL.out)
            have i6' : o ≤ H := h2
            have i8' : Lo ≤ o := h1
            have H3 := hid h3
            clear h1 h2 h3 hlo
            go_wp2_with fail
            all_goals first | exact ⟨⟨k + 1, by have := HLT.out; omega, by go_num, l2, by rw [← HC2.out]; exact K.out, HK2.out⟩, by have := HLT.out; simp [intOf]; omega⟩ | (exfalso; rename_i hx; have h3 := H3.out; simp only [bne_iff_ne, ne_eq] at hx; omega)
    · obtain rfl : k = m := by omega
      clear hlt
      rcases HM.out.2.2 with e | ⟨e1, e2⟩
      · have j1 : ¬ k < n := by omega
        clear e
        clear hk
        go_wp2_with fail
        refine (told_any _).mono ?_
        rintro e w5 ⟨rfl, hg⟩
        replace K := hid (K.out.grown hg); clear hg
        go_wp2_with fail
        refine (alls_any K.out.at1).mono ?_
        rintro e w6 ⟨⟨v, rfl, hv⟩, hg⟩
        have V := hid hv.ints; replace K := hid (K.out.grown hg); clear hv hg
        go_wp2_with fail
        refine (alls_any K.out.at1).mono ?_
        rintro e w7 ⟨⟨v2, rfl, hv⟩, hg⟩
        have V2 := hid hv.ints; replace V := hid (V.out.grown hg); replace K := hid (K.out.grown hg); clear hv hg
        go_wp2_with fail
        refine (sameInts_yes _ _ _ _ V.out V2.out).mono ?_
        rintro e w8 ⟨rfl, hg⟩
        replace K := hid (K.out.grown hg); clear hg
        go_wp2_with fail
        go_ret
        exact ⟨rfl, K.out.gr⟩
      · have j1 : k < n := by omega
        have j2 : ¬ k < 30 := by omega
        clear e1 e2
        clear hk
        go_wp2_with fail
        refine (told_any _).mono ?_
        rintro e w5 ⟨rfl, hg⟩
        replace K := hid (K.out.grown hg); clear hg
        go_wp2_with fail
        refine (alls_any K.out.at1).mono ?_
        rintro e w6 ⟨⟨v, rfl, hv⟩, hg⟩
        have V := hid hv.ints; replace K := hid (K.out.grown hg); clear hv hg
        go_wp2_with fail
        refine (alls_any K.out.at1).mono ?_
        rintro e w7 ⟨⟨v2, rfl, hv⟩, hg⟩
        have V2 := hid hv.ints; replace V := hid (V.out.grown hg); replace K := hid (K.out.grown hg); clear hv hg
        go_wp2_with fail
        refine (sameInts_yes _ _ _ _ V.out V2.out).mono ?_
        rintro e w8 ⟨rfl, hg⟩
        replace K := hid (K.out.grown hg); clear hg
        go_wp2_with fail
        go_ret
        exact ⟨rfl, K.out.gr⟩
end Go.Proofs.Ytnpaecbdejemnaa.cbetween
