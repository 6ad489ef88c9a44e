/-
  The walk of the statement TrimRises: greater numbers have no lesser median, mean, span. No condition.
-/
import Derived.Test.YtopeceicmpblkaaTTold
import Derived.Test.YtopeceicmpblkaaTf
import Derived.Test.YtopeceicmpblkaaTn
set_option linter.unusedSimpArgs false
set_option linter.unusedVariables false
namespace Go.Proofs.Ytopeceicmpblkaa.trises
set_option maxRecDepth 100000
open Go.RowKit

/-- all that is compared -/
theorem all_of {A B : List Int} {n : Nat} (hb : Below A B) (ha : mayL A = true) (hB : mayL B = true) (h : 2 * n + 1 ≤ A.length) :
    ∃ p u v c q x y d, meanL (midL A (n : Int)) = (p, true) ∧ spanL (midL A (n : Int)) = (u, v, true) ∧ medOf A = (c, true) ∧
      meanL (midL B (n : Int)) = (q, true) ∧ spanL (midL B (n : Int)) = (x, y, true) ∧ medOf B = (d, true) ∧ p ≤ q ∧ u ≤ x ∧ v ≤ y ∧ c ≤ d := by
  have hl := hb.1
  obtain ⟨p, u, v, c, m1, m2, m3, i1, i2, i3, -, -, -, -, -, hp⟩ := told_of (k := n) ha h
  obtain ⟨q, x, y, d, n1, n2, n3, j1, j2, j3, -, -, -, -, -, hq⟩ := told_of (k := n) hB (by omega)
  have hm := ms_below hb
  rw [← hl] at j2 j3 hq
  refine ⟨p, u, v, c, q, x, y, d, m1, m2, m3, n1, n2, n3, ?_, hm.2 _ _ _ i1 j1, hm.2 _ _ _ i2 j2, hm.2 _ _ _ i3 j3⟩
  rw [hp, hq]
  exact Int.ediv_le_ediv (by omega) (sum_below _ _ (cut_below hb n))
theorem below_set {A B : List Int} {k : Nat} {x s : Int} (hb : Below A B) (hx : B[k]? = some x) (hs : x ≤ s) : Below A (B.set k s) := by
  refine ⟨by rw [List.length_set]; exact hb.1, fun i a y ha hy => ?_⟩
  rw [List.getElem?_set] at hy
  split at hy
  · next e =>
    subst e
    split at hy
    · cases hy; have := hb.2 _ _ _ ha hx; omega
    · cases hy
  · exact hb.2 _ _ _ ha hy

set_option maxHeartbeats 3200000 in
theorem walk {w : World} (la : List Int) (pa : Option Addr) (ca : Nat) (ia : IntsAt w (.slice pa la.length ca) la) (fa : Fits la) (lb : List Int) (pb : Option Addr) (cb : Nat) (ib : IntsAt w (.slice pb lb.length cb) lb) (fb : Fits lb) (f : Int) :
    Calls Try.prog 5 #[.slice pa la.length ca, .slice pb lb.length cb, .int .i64 f] w fun e w' => e = .returned (.bool true) ∧ w.grownBy w' none := by
  have K0 := hid (((Kl.start w).add ib).add ia)
  have hgl := fitL_len la 20
  have hgok := fitL_ok la 20
  have FG := hid (fun (W : World) (h : IntsAt W (.slice pa la.length ca) la) => fit_any _ la 20 W h (by decide))
  generalize fitL la 20 = A at *
  obtain ⟨n0, hn0⟩ : ∃ n, la.length = n := ⟨_, rfl⟩
  obtain ⟨nm, hnm⟩ : ∃ n, lb.length = n := ⟨_, rfl⟩
  have hnm1 := ib.len
  unfold maxLen at hnm1
  have NM := hid hnm
  rw [hn0] at K0 FG hgl ⊢
  rw [hnm] at K0 hnm1 ⊢
  clear ia fa ib fb hn0 hnm
  obtain ⟨na, hna⟩ : ∃ n, A.length = n := ⟨_, rfl⟩
  have hna20 : na ≤ 20 := by omega
  have NA := hid hna
  obtain ⟨n, hn5, e2'⟩ := umod_small f 5 (by decide)
  have e2 : (IntKind.u64.wrap f).tmod 5 = (n : Int) := e2'
  obtain ⟨T, hT⟩ : ∃ T, T = 2 * n := ⟨_, rfl⟩
  have e4 : IntKind.i64.wrap (2 * (n : Int)) = (T : Int) := by rw [show 2 * (n : Int) = (T : Int) by omega]; exact IntWalk.i64_in _ (by omega)
  obtain ⟨T1, hT1⟩ : ∃ T1, T1 = T + 1 := ⟨_, rfl⟩
  have e5 : IntKind.i64.wrap ((T : Int) + 1) = (T1 : Int) := by rw [show (T : Int) + 1 = (T1 : Int) by omega]; exact IntWalk.i64_in _ (by omega)
  have hok : mayL A = true := (mayL_iff _).2 ⟨by omega, hgok⟩
  have HOK := hid hok
  have HGOK := hid hgok
  have BN := hid (show (-9223372036854775808 : Int) ≤ (n : Int) ∧ (n : Int) ≤ 9223372036854775807 by omega)
  have HEQ := hid (show T = 2 * n ∧ T1 = T + 1 from ⟨hT, hT1⟩)
  have hT1p : 1 ≤ T1 := by omega
  clear hok hgok hgl e2' hT hT1
  go_enter Try.func5, Try.ntmps5
  go_wp2_with fail
  refine (FG.out _ K0.out.i0).mono ?_
  rintro e w1 ⟨u, rfl, ho, hg⟩
  have K1 := hid ((Kl.mk (L := [(.slice pb nm cb, lb)]) (K0.out.grown hg).gr (by intro p hp; simp only [List.mem_cons, List.not_mem_nil, or_false] at hp; subst hp; exact K0.out.i1.grown hg)).add ho.ints)
  obtain ⟨pg, cg, rfl⟩ := ho.form
  rw [hna] at K1 ⊢
  clear ho hg FG K0 hna
  by_cases h1 : na < T1
  · have d1 : decide (na < T1) = true := by simpa using h1
    go_wp2_with fail
    refine (ttold_any _).mono ?_
    rintro e w5 ⟨rfl, hg⟩
    have K5 := hid (K1.out.grown hg); clear hg K1
    go_wp2_with fail
    go_ret
    exact ⟨rfl, K5.out.gr⟩
  have d1 : decide (na < T1) = false := by simpa using h1
  have TG := hid ((Bag.start (L := [(.slice pg na cg, A), (.slice pb nm cb, lb)]) K1.out.gr (by
    intro p hp
    simp only [List.mem_cons, List.not_mem_nil, or_false] at hp
    rcases hp with rfl | rfl
    · exact K1.out.i0
    · exact K1.out.i1)).fresh)
  go_upto_region 6 with (at_builtin; refine append_ints rfl _ _ rfl w.heap.size _ _ rfl TG.out.own _ _ rfl TG.out.hd.1 (by rw [NA.out]; show 0 + na ≤ 1000000; omega) TG.out.gr.size ?_; intro v1 w3 hown hgrow hat; replace TG := hid (TG.out.app hown hgrow hat); clear hown hgrow hat)
  rw [List.nil_append] at TG
  obtain ⟨g, c, rfl, hcap, -⟩ := TG.out.own.cells (i := 0) (by rw [NA.out]; omega)
  rw [NA.out] at TG hcap ⊢
  go_wp2_with fail
  go_loopw [10] (fun i wr => ∃ (k : Nat) (B : List Int), k ≤ na ∧ i = .int .i64 (k : Int) ∧ Bag w (.slice (some ⟨g, 0, none⟩) na c) B [(.slice pg na cg, A), (.slice pb nm cb, lb)] wr ∧ Below A B ∧ (∀ z ∈ B, 0 ≤ z ∧ z ≤ 1099511627776)) (fun i _ => na - (intOf i).toNat)
  case atStart => exact ⟨0, A, Nat.zero_le _, rfl, TG.out, ⟨rfl, fun i x y hx hy => by rw [hx] at hy; cases hy; exact Int.le_refl _⟩, HGOK.out⟩
  case round =>
    obtain ⟨k, B, hk, rfl, hbag, hbel, hbok⟩ := hrel
    have BG := hid hbag; have BEL := hid hbel; have BOK := hid hbok
    clear hbag TG K1
    have hBl : B.length = na := by rw [← hbel.1, NA.out]
    have NB := hid hBl
    by_cases hlt : k < na
    · by_cases hltm : k < nm
      · have hx := List.getElem?_eq_getElem (show k < B.length by omega)
        have hy := List.getElem?_eq_getElem (show k < lb.length by rw [NM.out]; exact hltm)
        have hxb := hbok _ (List.getElem_mem (show k < B.length by omega))
        generalize B[k]'(show k < B.length by omega) = x at hx hxb
        generalize lb[k]'(show k < lb.length by rw [NM.out]; exact hltm) = y at hy
        have cx := BG.out.own.ints.cell' hx
        obtain ⟨ab, ao, rfl, -, -, -⟩ := BG.out.tl.hd.1.cell (i := k) (by rw [NM.out]; exact hltm)
        have cy := BG.out.tl.hd.at hy
        have fx := BG.out.own.free (j := k)
        rw [Nat.zero_add] at cx
        obtain ⟨D1, hD1⟩ : ∃ D : Int, 1099511627776 - x = D := ⟨_, rfl⟩
        obtain ⟨Dn, hDn⟩ : ∃ D : Nat, D = (1099511627776 - x + 1).toNat := ⟨_, rfl⟩
        have hDb : 1 ≤ Dn ∧ Dn ≤ 1099511627777 := by omega
        have hDe : (Dn : Int) = 1099511627776 - x + 1 := by omega
        obtain ⟨z, hz0, hz1, e6⟩ := umod_int y Dn (by omega)
        obtain ⟨s, hs⟩ : ∃ s, x + z = s := ⟨_, rfl⟩
        have w1 : IntKind.i64.wrap (1099511627776 - x) = D1 := by rw [hD1]; exact IntWalk.i64_in _ (by omega)
        have w2 : IntKind.i64.wrap (D1 + 1) = (Dn : Int) := by rw [show D1 + 1 = (Dn : Int) by omega]; exact IntWalk.i64_in _ (by omega)
        have w3 : IntKind.i64.wrap (x + z) = s := by rw [hs]; exact IntWalk.i64_in _ (by omega)
        have hz2 : z ≤ 1099511627777 := by omega
        have HS := hid (show x ≤ s ∧ 0 ≤ s ∧ s ≤ 1099511627776 by omega)
        have HX := hid hx
        have hkn : (k : Int) < (na : Int) := by omega
        have hkm : (k : Int) < (nm : Int) := by omega
        clear hxb hD1 hDn hDe hz1 hs hx hy hbel hbok hBl
        go_wp2_with fail
        go_region
        go_wp2_with fail
        go_roundw
        case rel => exact ⟨k + 1, B.set k s, by omega, by go_num, (BG.out.set s).grown ⟨rfl, rfl, rfl, Nat.le_refl _, fun _ _ _ => rfl⟩, below_set BEL.out HX.out HS.out.1, fun v hv => by
          rcases List.mem_or_eq_of_mem_set hv with h | h
          · exact BOK.out v h
          · subst h; exact HS.out.2⟩
        case measure => simp [intOf]; omega
      · have hkm : decide ((k : Int) < (nm : Int)) = false := by simp; omega
        obtain ⟨p, u, v, cc, q, x, y, d, m1, m2, m3, n1, n2, n3, q1, q2, q3, q4⟩ := all_of (n := n) BEL.out HOK.out ((mayL_iff B).2 ⟨by omega, BOK.out⟩) (by have := HEQ.out; rw [NA.out]; omega)
        have M1 := hid m1; have M2 := hid m2; have M3 := hid m3; have N1 := hid n1; have N2 := hid n2; have N3 := hid n3
        have z1 : decide (p ≤ q) = true := by simpa using q1
        have z2 : decide (u ≤ x) = true := by simpa using q2
        have z3 : decide (v ≤ y) = true := by simpa using q3
        have z4 : decide (cc ≤ d) = true := by simpa using q4
        have K3 := hid (((Kl.mk BG.out.gr (by intro p hp; cases hp) : Kl w [] wr).add BG.out.own.ints).add BG.out.hd.1)
        clear m1 m2 m3 n1 n2 n3 q1 q2 q3 q4 BG BEL BOK hbel hbok hBl
        go_wp2_with fail
        refine (mean_as K3.out.i0 BN.out M1.out).mono ?_
        rintro e w4 ⟨rfl, hg⟩
        have K4 := hid (K3.out.grown hg); clear hg K3
        go_wp2_with fail
        refine (mean_as K4.out.i1 BN.out N1.out).mono ?_
        rintro e w5 ⟨rfl, hg⟩
        have K5 := hid (K4.out.grown hg); clear hg K4
        go_wp2_with fail
        refine (span_as K5.out.i0 BN.out M2.out).mono ?_
        rintro e w6 ⟨rfl, hg⟩
        have K6 := hid (K5.out.grown hg); clear hg K5
        go_wp2_with fail
        refine (span_as K6.out.i1 BN.out N2.out).mono ?_
        rintro e w7 ⟨rfl, hg⟩
        have K7 := hid (K6.out.grown hg); clear hg K6
        go_wp2_with fail
        refine (median_as K7.out.i0 M3.out).mono ?_
        rintro e w8 ⟨rfl, hg⟩
        have K8 := hid (K7.out.grown hg); clear hg K7
        go_wp2_with fail
        refine (median_as K8.out.i1 N3.out).mono ?_
        rintro e w9 ⟨rfl, hg⟩
        have K9 := hid (K8.out.grown hg); clear hg K8
        go_wp2_with fail
        refine (ttold_any _).mono ?_
        rintro e w10 ⟨rfl, hg⟩
        have K10 := hid (K9.out.grown hg); clear hg K9
        go_wp2_with fail
        go_ret
        exact ⟨rfl, K10.out.gr⟩
    · have hkn : k = na := by omega
      subst hkn
      obtain ⟨p, u, v, cc, q, x, y, d, m1, m2, m3, n1, n2, n3, q1, q2, q3, q4⟩ := all_of (n := n) BEL.out HOK.out ((mayL_iff B).2 ⟨by omega, BOK.out⟩) (by have := HEQ.out; rw [NA.out]; omega)
      have M1 := hid m1; have M2 := hid m2; have M3 := hid m3; have N1 := hid n1; have N2 := hid n2; have N3 := hid n3
      have z1 : decide (p ≤ q) = true := by simpa using q1
      have z2 : decide (u ≤ x) = true := by simpa using q2
      have z3 : decide (v ≤ y) = true := by simpa using q3
      have z4 : decide (cc ≤ d) = true := by simpa using q4
      have K3 := hid (((Kl.mk BG.out.gr (by intro p hp; cases hp) : Kl w [] wr).add BG.out.own.ints).add BG.out.hd.1)
      clear m1 m2 m3 n1 n2 n3 q1 q2 q3 q4 BG BEL BOK hbel hbok hBl
      go_wp2_with fail
      refine (mean_as K3.out.i0 BN.out M1.out).mono ?_
      rintro e w4 ⟨rfl, hg⟩
      have K4 := hid (K3.out.grown hg); clear hg K3
      go_wp2_with fail
      refine (mean_as K4.out.i1 BN.out N1.out).mono ?_
      rintro e w5 ⟨rfl, hg⟩
      have K5 := hid (K4.out.grown hg); clear hg K4
      go_wp2_with fail
      refine (span_as K5.out.i0 BN.out M2.out).mono ?_
      rintro e w6 ⟨rfl, hg⟩
      have K6 := hid (K5.out.grown hg); clear hg K5
      go_wp2_with fail
      refine (span_as K6.out.i1 BN.out N2.out).mono ?_
      rintro e w7 ⟨rfl, hg⟩
      have K7 := hid (K6.out.grown hg); clear hg K6
      go_wp2_with fail
      refine (median_as K7.out.i0 M3.out).mono ?_
      rintro e w8 ⟨rfl, hg⟩
      have K8 := hid (K7.out.grown hg); clear hg K7
      go_wp2_with fail
      refine (median_as K8.out.i1 N3.out).mono ?_
      rintro e w9 ⟨rfl, hg⟩
      have K9 := hid (K8.out.grown hg); clear hg K8
      go_wp2_with fail
      refine (ttold_any _).mono ?_
      rintro e w10 ⟨rfl, hg⟩
      have K10 := hid (K9.out.grown hg); clear hg K9
      go_wp2_with fail
      go_ret
      exact ⟨rfl, K10.out.gr⟩
end Go.Proofs.Ytopeceicmpblkaa.trises
