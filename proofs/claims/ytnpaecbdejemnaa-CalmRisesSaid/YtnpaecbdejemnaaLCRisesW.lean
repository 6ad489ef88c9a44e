/-
  The walk of the statement CalmRises: of greater counts and wants there comes no lesser one. No condition.
-/
import Derived.Test.YtnpaecbdejemnaaCaF
import Derived.Test.YtnpaecbdejemnaaUmi
import Derived.Test.YtnpaecbdejemnaaUq
set_option linter.unusedSimpArgs false
set_option linter.unusedVariables false
namespace Go.Proofs.Ytnpaecbdejemnaa.crises
set_option maxRecDepth 100000
open Go.RowKit

set_option maxHeartbeats 6400000 in
theorem walk {w : World} (up down : Int) (lc : List Int) (p : Option Addr) (c : Nat) (i0 : IntsAt w (.slice p lc.length c) lc) (lw : List Int) (p1 : Option Addr) (c1 : Nat) (i1 : IntsAt w (.slice p1 lw.length c1) lw) (lm : List Int) (p2 : Option Addr) (c2 : Nat) (i2 : IntsAt w (.slice p2 lm.length c2) lm) :
    Calls Try.prog 5 #[.int .i64 up, .int .i64 down, .slice p lc.length c, .slice p1 lw.length c1, .slice p2 lm.length c2] w fun e w' => e = .returned (.bool true) ∧ w.grownBy w' none := by
  obtain ⟨u, hu, mu⟩ := umod_small up 7 (by omega)
  have mu : (IntKind.u64.wrap up).tmod 7 = (u : Int) := mu
  have cu : IntKind.i64.wrap (u : Int) = (u : Int) := IntWalk.i64_in _ (by omega)
  obtain ⟨d, hd, md⟩ := umod_small down 7 (by omega)
  have md : (IntKind.u64.wrap down).tmod 7 = (d : Int) := md
  have cd : IntKind.i64.wrap (d : Int) = (d : Int) := IntWalk.i64_in _ (by omega)
  have HU := hid (show u ≤ 60 by omega); have HD := hid (show d ≤ 60 by omega)
  have ncl := i0.len
  unfold maxLen at ncl
  obtain ⟨nc, hnc⟩ : ∃ n, lc.length = n := ⟨_, rfl⟩
  rw [hnc] at i0 ncl ⊢
  have Hnc := hid hnc; have Inc := hid i0
  clear hnc i0
  have nl := i1.len
  unfold maxLen at nl
  obtain ⟨n, hn⟩ : ∃ n, lw.length = n := ⟨_, rfl⟩
  rw [hn] at i1 nl ⊢
  have Hn := hid hn; have In := hid i1
  clear hn i1
  have nml := i2.len
  unfold maxLen at nml
  obtain ⟨nm, hnm⟩ : ∃ n, lm.length = n := ⟨_, rfl⟩
  rw [hnm] at i2 nml ⊢
  have Hnm := hid hnm; have Inm := hid i2
  clear hnm i2
  obtain ⟨m, hm⟩ : ∃ m : Nat, m = min n 30 := ⟨_, rfl⟩
  have HM := hid (show m ≤ n ∧ m ≤ 30 ∧ (m = n ∨ (m < n ∧ m = 30)) by omega)
  clear hm
  go_enter Try.func5, Try.ntmps5
  go_wp2_with fail
  refine (new_ok _ _ HU.out HD.out _).mono ?_
  rintro e w1 ⟨b1, rfl, hc, hg, hb⟩
  have K1 := hid (Ck1.start hc hg hb); clear hc hg hb
  go_wp2_with fail
  refine (new_ok _ _ HU.out HD.out _).mono ?_
  rintro e w2 ⟨b2, rfl, hc, hg, hb⟩
  have K2 := hid (Ck2.start K1.out hc hg hb); clear hc hg hb K1
  go_wp2_with fail
  go_loopw [15] (fun i wr => ∃ k : Nat, k ≤ m ∧ i = .int .i64 (k : Int) ∧ ∃ a b : List Int, Ck2 w b1 ⟨u, d, a⟩ b2 ⟨u, d, b⟩ wr ∧ Under a b) (fun i _ => m - (intOf i).toNat)
  case atStart => exact ⟨0, Nat.zero_le _, rfl, _, _, K2.out, Under.nil⟩
  case round =>
    obtain ⟨k, hk, rfl, a, b, hK, hUN⟩ := hrel
    have K := hid hK; have HUN := hid hUN; clear hK hUN
    by_cases hlt : k < m
    · have HLT := hid hlt
      have hkl : k < lw.length := by rw [Hn.out]; have := HM.out; omega
      obtain ⟨ab, ao, rfl, -, hcc, -⟩ := (In.out.grown K.out.k1.gr).cell hkl
      have hx0 := List.getElem?_eq_getElem hkl
      generalize lw[k] = q at *
      have CW := hid (fun (W : World) (hg : w.grownBy W none) => (In.out.grown hg).cell' hx0)
      clear hx0
      obtain ⟨z, z0, z1, mz⟩ := umod_int q 100 (by omega)
      have mz : (IntKind.u64.wrap q).tmod 100 = z := mz
      have cz : IntKind.i64.wrap z = z := IntWalk.i64_in _ (by omega)
      have j1 : k < n := by have := HM.out; omega
      have j2 : k < 30 := by have := HM.out; omega
      have j1' : (k : Int) < (n : Int) := by omega
      clear hlt hk
      by_cases hc : k < nc
      · have jc : (k : Int) < (nc : Int) := by omega
        by_cases hx : k < nm
        · have jx : (k : Int) < (nm : Int) := by omega
          have hkc : k < lc.length := by rw [Hnc.out]; exact hc
          obtain ⟨cb, co, rfl, -, hcc2, -⟩ := (Inc.out.grown K.out.k1.gr).cell hkc
          have hxc := List.getElem?_eq_getElem hkc
          generalize lc[k] = qc at *
          have CC := hid (fun (W : World) (hg : w.grownBy W none) => (Inc.out.grown hg).cell' hxc)
          clear hxc
          obtain ⟨N, N0, N1, mN⟩ := umod_int qc 100 (by omega)
          have mN : (IntKind.u64.wrap qc).tmod 100 = N := mN
          have cN : IntKind.i64.wrap N = N := IntWalk.i64_in _ (by omega)
          have hkm : k < lm.length := by rw [Hnm.out]; exact hx
          obtain ⟨xb, xo, rfl, -, hcc3, -⟩ := (Inm.out.grown K.out.k1.gr).cell hkm
          have hxm := List.getElem?_eq_getElem hkm
          generalize lm[k] = qm at *
          have CX := hid (fun (W : World) (hg : w.grownBy W none) => (Inm.out.grown hg).cell' hxm)
          clear hxm
          obtain ⟨X, X0, X1, mX⟩ := umod_int qm 20 (by omega)
          have mX : (IntKind.u64.wrap qm).tmod 20 = X := mX
          have cX : IntKind.i64.wrap X = X := IntWalk.i64_in _ (by omega)
          obtain ⟨t, Y, Y0, Y1, mt, mY⟩ := uquo_int qm 20 20 (by omega)
          have mt : (IntKind.u64.wrap qm).tdiv 20 = t := mt
          have mY : t.tmod 20 = Y := mY
          have ct : IntKind.u64.wrap t = t := by rw [← mt]; exact uquo_fit qm 20
          have cY : IntKind.i64.wrap Y = Y := IntWalk.i64_in _ (by omega)
          obtain ⟨P, hP⟩ : ∃ P : Int, P = N + X := ⟨_, rfl⟩
          have HP := hid (show N ≤ P by omega)
          have sP : IntKind.i64.wrap (N + X) = P := by rw [← hP]; exact IntWalk.i64_in _ (by omega)
          obtain ⟨Q, hQ⟩ : ∃ Q : Int, Q = z + Y := ⟨_, rfl⟩
          have HQ := hid (show z ≤ Q by omega)
          have sQ : IntKind.i64.wrap (z + Y) = Q := by rw [← hQ]; exact IntWalk.i64_in _ (by omega)
          clear hP hQ
          have HLE := hid (Ca.out_rises (A := Ca.push ⟨u, d, a⟩ z) (B := Ca.push ⟨u, d, b⟩ Q) rfl rfl (Ca.push_under (A := ⟨u, d, a⟩) (B := ⟨u, d, b⟩) rfl rfl HUN.out (HQ.out)) (Ca.push_ne _ _) (show (N : Int) ≤ P from HP.out))
          have HUN2 := hid (Ca.push_under (A := ⟨u, d, a⟩) (B := ⟨u, d, b⟩) rfl rfl HUN.out (show z ≤ Q from HQ.out))
          go_wp2_with fail
          have hq := CW.out _ K.out.k1.gr
          go_quiet (fail)
          refine exit_gen (fun wx => Ck2 w b1 ⟨u, d, a⟩ b2 ⟨u, d, b⟩ wx) (K.out.grown ⟨rfl, rfl, rfl, Nat.le_refl _, fun _ _ _ => rfl⟩) (fun wx hKx => ?_)
          clear hq
          replace K := hid hKx; clear hKx
          have hqc := CC.out _ K.out.k1.gr
          go_wp2_with fail
          have hqm := CX.out _ K.out.k1.gr
          go_quiet (fail)
          refine exit_gen (fun wx => Ck2 w b1 ⟨u, d, a⟩ b2 ⟨u, d, b⟩ wx) (K.out.grown ⟨rfl, rfl, rfl, Nat.le_refl _, fun _ _ _ => rfl⟩) (fun wx hKx => ?_)
          clear hqm
          replace K := hid hKx; clear hKx
          go_wp2_with fail
          refine (next_any N z K.out.k1.at1).mono ?_
          rintro e w3 ⟨rfl, hc', hg⟩
          replace K := hid (K.out.chg1 hc' hg); clear hc' hg
          generalize (Ca.push ⟨u, d, a⟩ z).out N = o1 at *
          go_wp2_with fail
          refine (next_any P Q K.out.k2.at1).mono ?_
          rintro e w4 ⟨rfl, hc', hg⟩
          replace K := hid (K.out.chg2 hc' hg); clear hc' hg
          generalize (Ca.push ⟨u, d, b⟩ Q).out P = o2 at *
          have d9 : decide (o2 < o1) = false := by have := HLE.out; simp; omega
          go_wp2_with fail
          go_roundw
          case rel => exact ⟨k + 1, by have := HLT.out; omega, by go_num, _, _, K.out, HUN2.out⟩
          case measure => have := HLT.out; simp [intOf]; omega
        · have jx : ¬ (k : Int) < (nm : Int) := by omega
          have hkc : k < lc.length := by rw [Hnc.out]; exact hc
          obtain ⟨cb, co, rfl, -, hcc2, -⟩ := (Inc.out.grown K.out.k1.gr).cell hkc
          have hxc := List.getElem?_eq_getElem hkc
          generalize lc[k] = qc at *
          have CC := hid (fun (W : World) (hg : w.grownBy W none) => (Inc.out.grown hg).cell' hxc)
          clear hxc
          obtain ⟨N, N0, N1, mN⟩ := umod_int qc 100 (by omega)
          have mN : (IntKind.u64.wrap qc).tmod 100 = N := mN
          have cN : IntKind.i64.wrap N = N := IntWalk.i64_in _ (by omega)
          have HLE := hid (Ca.out_rises (A := Ca.push ⟨u, d, a⟩ z) (B := Ca.push ⟨u, d, b⟩ z) rfl rfl (Ca.push_under (A := ⟨u, d, a⟩) (B := ⟨u, d, b⟩) rfl rfl HUN.out (Int.le_refl _)) (Ca.push_ne _ _) (show (N : Int) ≤ N from Int.le_refl _))
          have HUN2 := hid (Ca.push_under (A := ⟨u, d, a⟩) (B := ⟨u, d, b⟩) rfl rfl HUN.out (show z ≤ z from Int.le_refl _))
          go_wp2_with fail
          have hq := CW.out _ K.out.k1.gr
          go_quiet (fail)
          refine exit_gen (fun wx => Ck2 w b1 ⟨u, d, a⟩ b2 ⟨u, d, b⟩ wx) (K.out.grown ⟨rfl, rfl, rfl, Nat.le_refl _, fun _ _ _ => rfl⟩) (fun wx hKx => ?_)
          clear hq
          replace K := hid hKx; clear hKx
          have hqc := CC.out _ K.out.k1.gr
          go_wp2_with fail
          refine (next_any N z K.out.k1.at1).mono ?_
          rintro e w3 ⟨rfl, hc', hg⟩
          replace K := hid (K.out.chg1 hc' hg); clear hc' hg
          generalize (Ca.push ⟨u, d, a⟩ z).out N = o1 at *
          go_wp2_with fail
          refine (next_any N z K.out.k2.at1).mono ?_
          rintro e w4 ⟨rfl, hc', hg⟩
          replace K := hid (K.out.chg2 hc' hg); clear hc' hg
          generalize (Ca.push ⟨u, d, b⟩ z).out N = o2 at *
          have d9 : decide (o2 < o1) = false := by have := HLE.out; simp; omega
          go_wp2_with fail
          go_roundw
          case rel => exact ⟨k + 1, by have := HLT.out; omega, by go_num, _, _, K.out, HUN2.out⟩
          case measure => have := HLT.out; simp [intOf]; omega
      · have jc : ¬ (k : Int) < (nc : Int) := by omega
        by_cases hx : k < nm
        · have jx : (k : Int) < (nm : Int) := by omega
          have hkm : k < lm.length := by rw [Hnm.out]; exact hx
          obtain ⟨xb, xo, rfl, -, hcc3, -⟩ := (Inm.out.grown K.out.k1.gr).cell hkm
          have hxm := List.getElem?_eq_getElem hkm
          generalize lm[k] = qm at *
          have CX := hid (fun (W : World) (hg : w.grownBy W none) => (Inm.out.grown hg).cell' hxm)
          clear hxm
          obtain ⟨X, X0, X1, mX⟩ := umod_int qm 20 (by omega)
          have mX : (IntKind.u64.wrap qm).tmod 20 = X := mX
          have cX : IntKind.i64.wrap X = X := IntWalk.i64_in _ (by omega)
          obtain ⟨t, Y, Y0, Y1, mt, mY⟩ := uquo_int qm 20 20 (by omega)
          have mt : (IntKind.u64.wrap qm).tdiv 20 = t := mt
          have mY : t.tmod 20 = Y := mY
          have ct : IntKind.u64.wrap t = t := by rw [← mt]; exact uquo_fit qm 20
          have cY : IntKind.i64.wrap Y = Y := IntWalk.i64_in _ (by omega)
          obtain ⟨P, hP⟩ : ∃ P : Int, P = 5 + X := ⟨_, rfl⟩
          have HP := hid (show 5 ≤ P by omega)
          have sP : IntKind.i64.wrap (5 + X) = P := by rw [← hP]; exact IntWalk.i64_in _ (by omega)
          obtain ⟨Q, hQ⟩ : ∃ Q : Int, Q = z + Y := ⟨_, rfl⟩
          have HQ := hid (show z ≤ Q by omega)
          have sQ : IntKind.i64.wrap (z + Y) = Q := by rw [← hQ]; exact IntWalk.i64_in _ (by omega)
          clear hP hQ
          have HLE := hid (Ca.out_rises (A := Ca.push ⟨u, d, a⟩ z) (B := Ca.push ⟨u, d, b⟩ Q) rfl rfl (Ca.push_under (A := ⟨u, d, a⟩) (B := ⟨u, d, b⟩) rfl rfl HUN.out (HQ.out)) (Ca.push_ne _ _) (show (5 : Int) ≤ P from HP.out))
          have HUN2 := hid (Ca.push_under (A := ⟨u, d, a⟩) (B := ⟨u, d, b⟩) rfl rfl HUN.out (show z ≤ Q from HQ.out))
          go_wp2_with fail
          have hq := CW.out _ K.out.k1.gr
          go_quiet (fail)
          refine exit_gen (fun wx => Ck2 w b1 ⟨u, d, a⟩ b2 ⟨u, d, b⟩ wx) (K.out.grown ⟨rfl, rfl, rfl, Nat.le_refl _, fun _ _ _ => rfl⟩) (fun wx hKx => ?_)
          clear hq
          replace K := hid hKx; clear hKx
          go_wp2_with fail
          have hqm := CX.out _ K.out.k1.gr
          go_quiet (fail)
          refine exit_gen (fun wx => Ck2 w b1 ⟨u, d, a⟩ b2 ⟨u, d, b⟩ wx) (K.out.grown ⟨rfl, rfl, rfl, Nat.le_refl _, fun _ _ _ => rfl⟩) (fun wx hKx => ?_)
          clear hqm
          replace K := hid hKx; clear hKx
          go_wp2_with fail
          refine (next_any 5 z K.out.k1.at1).mono ?_
          rintro e w3 ⟨rfl, hc', hg⟩
          replace K := hid (K.out.chg1 hc' hg); clear hc' hg
          generalize (Ca.push ⟨u, d, a⟩ z).out 5 = o1 at *
          go_wp2_with fail
          refine (next_any P Q K.out.k2.at1).mono ?_
          rintro e w4 ⟨rfl, hc', hg⟩
          replace K := hid (K.out.chg2 hc' hg); clear hc' hg
          generalize (Ca.push ⟨u, d, b⟩ Q).out P = o2 at *
          have d9 : decide (o2 < o1) = false := by have := HLE.out; simp; omega
          go_wp2_with fail
          go_roundw
          case rel => exact ⟨k + 1, by have := HLT.out; omega, by go_num, _, _, K.out, HUN2.out⟩
          case measure => have := HLT.out; simp [intOf]; omega
        · have jx : ¬ (k : Int) < (nm : Int) := by omega
          have HLE := hid (Ca.out_rises (A := Ca.push ⟨u, d, a⟩ z) (B := Ca.push ⟨u, d, b⟩ z) rfl rfl (Ca.push_under (A := ⟨u, d, a⟩) (B := ⟨u, d, b⟩) rfl rfl HUN.out (Int.le_refl _)) (Ca.push_ne _ _) (show (5 : Int) ≤ 5 from Int.le_refl _))
          have HUN2 := hid (Ca.push_under (A := ⟨u, d, a⟩) (B := ⟨u, d, b⟩) rfl rfl HUN.out (show z ≤ z from Int.le_refl _))
          go_wp2_with fail
          have hq := CW.out _ K.out.k1.gr
          go_quiet (fail)
          refine exit_gen (fun wx => Ck2 w b1 ⟨u, d, a⟩ b2 ⟨u, d, b⟩ wx) (K.out.grown ⟨rfl, rfl, rfl, Nat.le_refl _, fun _ _ _ => rfl⟩) (fun wx hKx => ?_)
          clear hq
          replace K := hid hKx; clear hKx
          go_wp2_with fail
          refine (next_any 5 z K.out.k1.at1).mono ?_
          rintro e w3 ⟨rfl, hc', hg⟩
          replace K := hid (K.out.chg1 hc' hg); clear hc' hg
          generalize (Ca.push ⟨u, d, a⟩ z).out 5 = o1 at *
          go_wp2_with fail
          refine (next_any 5 z K.out.k2.at1).mono ?_
          rintro e w4 ⟨rfl, hc', hg⟩
          replace K := hid (K.out.chg2 hc' hg); clear hc' hg
          generalize (Ca.push ⟨u, d, b⟩ z).out 5 = o2 at *
          have d9 : decide (o2 < o1) = false := by have := HLE.out; simp; omega
          go_wp2_with fail
          go_roundw
          case rel => exact ⟨k + 1, by have := HLT.out; omega, by go_num, _, _, K.out, HUN2.out⟩
          case measure => have := HLT.out; simp [intOf]; omega
    · obtain rfl : k = m := by omega
      clear hlt
      rcases HM.out.2.2 with e | ⟨e1, e2⟩
      · have j1 : ¬ k < n := by omega
        clear e
        clear hk
        go_wp2_with fail
        refine (told_any _).mono ?_
        rintro e w5 ⟨rfl, hg⟩
        replace K := hid (K.out.grown hg); clear hg
        go_wp2_with fail
        go_ret
        exact ⟨rfl, K.out.k1.gr⟩
      · have j1 : k < n := by omega
        have j2 : ¬ k < 30 := by omega
        clear e1 e2
        clear hk
        go_wp2_with fail
        refine (told_any _).mono ?_
        rintro e w5 ⟨rfl, hg⟩
        replace K := hid (K.out.grown hg); clear hg
        go_wp2_with fail
        go_ret
        exact ⟨rfl, K.out.k1.gr⟩
end Go.Proofs.Ytnpaecbdejemnaa.crises
