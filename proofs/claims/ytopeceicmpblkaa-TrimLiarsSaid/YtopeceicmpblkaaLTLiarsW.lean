/-
  The walk of the statement TrimLiars: with at most f of the numbers put in place of others, the mean, the span and the median lie among those that were not. No condition.
-/
import Derived.Test.YtopeceicmpblkaaTTold
import Derived.Test.YtopeceicmpblkaaTf
import Derived.Test.YtopeceicmpblkaaTn
set_option linter.unusedSimpArgs false
set_option linter.unusedVariables false
namespace Go.Proofs.Ytopeceicmpblkaa.tliars
set_option maxRecDepth 100000
open Go.RowKit

theorem sized {A : List Int} {n : Nat} (h : A.length = n) {w : World} {p : Option Addr} {c : Nat} (hi : IntsAt w (.slice p A.length c) A) : IntsAt w (.slice p n c) A := h ▸ hi

set_option maxHeartbeats 3200000 in
theorem walk {w : World} (la : List Int) (pa : Option Addr) (ca : Nat) (ia : IntsAt w (.slice pa la.length ca) la) (fa : Fits la) (lb : List Int) (pb : Option Addr) (cb : Nat) (ib : IntsAt w (.slice pb lb.length cb) lb) (fb : Fits lb) (f : Int) :
    Calls Try.prog 4 #[.slice pa la.length ca, .slice pb lb.length cb, .int .i64 f] w fun e w' => e = .returned (.bool true) ∧ w.grownBy w' none := by
  have K0 := hid (((Kl.start w).add ib).add ia)
  have hgl := fitL_len la 20
  have hgok := fitL_ok la 20
  have hbl := fitL_len lb 5
  have hbok := fitL_ok lb 5
  have FG := hid (fun (W : World) (h : IntsAt W (.slice pa la.length ca) la) => fit_any _ la 20 W h (by decide))
  have FB := hid (fun (W : World) (h : IntsAt W (.slice pb lb.length cb) lb) => fit_any _ lb 5 W h (by decide))
  generalize fitL la 20 = G at *
  generalize fitL lb 5 = B at *
  obtain ⟨n0, hn0⟩ : ∃ n, la.length = n := ⟨_, rfl⟩
  obtain ⟨n1, hn1⟩ : ∃ n, lb.length = n := ⟨_, rfl⟩
  rw [hn0] at K0 FG hgl ⊢
  rw [hn1] at K0 FB hbl ⊢
  clear ia fa ib fb hn0 hn1
  obtain ⟨ng, hng⟩ : ∃ n, G.length = n := ⟨_, rfl⟩
  obtain ⟨nb, hnb⟩ : ∃ n, B.length = n := ⟨_, rfl⟩
  have hng20 : ng ≤ 20 := by omega
  have hnb5 : nb ≤ 5 := by omega
  have NG := hid hng; have NB := hid hnb
  obtain ⟨k3, hk3, e2'⟩ := umod_small f 3 (by decide)
  have e2 : (IntKind.u64.wrap f).tmod 3 = (k3 : Int) := e2'
  obtain ⟨n, hn⟩ : ∃ n, n = nb + k3 := ⟨_, rfl⟩
  have e3 : IntKind.i64.wrap ((nb : Int) + (k3 : Int)) = (n : Int) := by rw [show (nb : Int) + (k3 : Int) = (n : Int) by omega]; exact IntWalk.i64_in _ (by omega)
  obtain ⟨T, hT⟩ : ∃ T, T = 2 * n := ⟨_, rfl⟩
  have e4 : IntKind.i64.wrap (2 * (n : Int)) = (T : Int) := by rw [show 2 * (n : Int) = (T : Int) by omega]; exact IntWalk.i64_in _ (by omega)
  obtain ⟨T1, hT1⟩ : ∃ T1, T1 = T + 1 := ⟨_, rfl⟩
  have e5 : IntKind.i64.wrap ((T : Int) + 1) = (T1 : Int) := by rw [show (T : Int) + 1 = (T1 : Int) by omega]; exact IntWalk.i64_in _ (by omega)
  obtain ⟨na, hna⟩ : ∃ n, n = nb + ng := ⟨_, rfl⟩
  have hal : (B ++ G).length = na := by rw [List.length_append, hng, hnb, hna]
  have AL := hid hal
  have hok : mayL (B ++ G) = true := (mayL_iff _).2 ⟨by omega, fun x hx => (List.mem_append.1 hx).elim (hbok x) (hgok x)⟩
  have LOW := hid (fun (k : Nat) (X z : Int) (hk : n ≤ k) (hX : ∀ x ∈ G, X ≤ x) (hz : (ms (B ++ G))[k]? = some z) => liar_low (B := B) (G := G) (n := n) (by omega) hk hX hz)
  have HIGH := hid (fun (k : Nat) (Y z : Int) (hk : k < na - n) (hY : ∀ x ∈ G, x ≤ Y) (hz : (ms (B ++ G))[k]? = some z) => liar_high (B := B) (G := G) (n := n) (by omega) (by rw [hal]; exact hk) hY hz)
  have TOLD := hid (fun (h : T1 ≤ na) => told_of (k := n) hok (by omega))
  have BN := hid (show (-9223372036854775808 : Int) ≤ (n : Int) ∧ (n : Int) ≤ 9223372036854775807 by omega)
  have HEQ := hid (show n = nb + k3 ∧ T = 2 * n ∧ T1 = T + 1 ∧ na = nb + ng from ⟨hn, hT, hT1, hna⟩)
  clear hok hbok hgok hgl hbl e2'
  rw [hal] at TOLD
  clear hn hT hT1 hna
  go_enter Try.func4, Try.ntmps4
  go_wp2_with fail
  refine (FG.out _ K0.out.i0).mono ?_
  rintro e w1 ⟨u, rfl, ho, hg⟩
  have K1 := hid ((K0.out.grown hg).add ho.ints)
  obtain ⟨pg, cg, rfl⟩ := ho.form
  rw [hng] at K1 ⊢
  clear ho hg FG K0
  go_wp2_with fail
  refine (FB.out _ K1.out.i2).mono ?_
  rintro e w2 ⟨u, rfl, ho, hg⟩
  have K2 := hid ((Kl.mk (L := [(.slice pg ng cg, G)]) (K1.out.grown hg).gr (by intro p hp; simp only [List.mem_cons, List.not_mem_nil, or_false] at hp; subst hp; exact K1.out.i0.grown hg)).add ho.ints)
  obtain ⟨pbb, cbb, rfl⟩ := ho.form
  rw [hnb] at K2 ⊢
  clear ho hg FB K1 hng hnb hal
  have hs2 : w2.heap.size ≤ (w2.alloc (.cells #[] 2)).heap.size := by rw [size_alloc']; omega
  go_upto_region 4 with (at_builtin; first | (refine append_ints rfl _ _ rfl w2.heap.size _ _ rfl (OwnI.empty w2) _ _ rfl (K2.out.i0.alloc _) (by rw [NB.out]; show 0 + nb ≤ 1000000; omega) hs2 ?_; intro v1 w3 o1 gg1 a1; rw [List.nil_append] at o1; have G3 := hid (gb_ownI (World.grownBy_alloc w2 _ none) (OwnI.empty w2) (Nat.le_refl _) gg1); have O3 := hid o1; have hs3 := gb_size G3.out; obtain ⟨p3, c3, rfl⟩ := o1.form; clear o1 gg1 a1) | (refine append_ints rfl _ _ rfl w2.heap.size _ _ rfl O3.out _ _ rfl (K2.out.grown G3.out).i1 (by rw [NB.out, NG.out]; omega) hs3 ?_; intro v2 w4 o2 gg2 a2; have K4 := hid ((K2.out.grown (gb_ownI G3.out O3.out (Nat.le_refl _) gg2)).add o2.ints); obtain ⟨p4, c4, rfl⟩ := o2.form; rw [AL.out] at K4; rw [AL.out]; clear o2 gg2 a2 G3 O3 K2))
  by_cases h1 : na < T1
  · have d1 : decide (na < T1) = true := by simpa using h1
    go_wp2_with fail
    refine (ttold_any _).mono ?_
    rintro e w5 ⟨rfl, hg⟩
    have K5 := hid (K4.out.grown hg); clear hg K4
    go_wp2_with fail
    go_ret
    exact ⟨rfl, K5.out.gr⟩
  have d1 : decide (na < T1) = false := by simpa using h1
  rcases Nat.eq_zero_or_pos ng with h0 | h0
  · subst h0
    go_wp2_with fail
    refine (ttold_any _).mono ?_
    rintro e w5 ⟨rfl, hg⟩
    have K5 := hid (K4.out.grown hg); clear hg K4
    go_wp2_with fail
    go_ret
    exact ⟨rfl, K5.out.gr⟩
  have d0 : ((ng : Int) == 0) = false := by simp; omega
  obtain ⟨q, x, y, d, t1, t2, t3, t4, t5, t6, u1, u2, u3, u4, u5, -⟩ := TOLD.out (by omega)
  have M1 := hid t1; have M2 := hid t2; have M3 := hid t3; have P4 := hid t4; have P5 := hid t5; have P6 := hid t6
  have HU := hid (show x ≤ q ∧ q ≤ y ∧ x ≤ d ∧ d ≤ y ∧ x ≤ y from ⟨u1, u2, u3, u4, u5⟩)
  clear t1 t2 t3 t4 t5 t6 u1 u2 u3 u4 u5 TOLD
  obtain ⟨ab, ao, rfl, -, hcc, hcell⟩ := K4.out.i2.cell (i := 0) (by rw [NG.out]; exact h0)
  rw [Nat.add_zero] at hcell
  have hz := List.getElem?_eq_getElem (show 0 < G.length by rw [NG.out]; exact h0)
  generalize G[0]'(show 0 < G.length by rw [NG.out]; exact h0) = z0 at hcell hz
  clear hz
  go_wp2_with fail
  go_quiet (fail)
  go_wp2_with fail
  go_loopw [11, 12, 13] (fun lo hi i wr => ∃ (k : Nat) (X Y : Int), k ≤ ng ∧ lo = .int .i64 X ∧ hi = .int .i64 Y ∧ i = .int .i64 (k : Int) ∧ (∀ (j : Nat) (z : Int), j < k → G[j]? = some z → X ≤ z ∧ z ≤ Y) ∧ Kl w [(.slice p4 na c4, B ++ G), (.slice pbb nb cbb, B), (.slice (some ⟨ab, ao, none⟩) ng cg, G)] wr) (fun _ _ i _ => ng - (intOf i).toNat)
  case atStart => exact ⟨0, z0, z0, Nat.zero_le _, rfl, rfl, rfl, fun j z hj => absurd hj (Nat.not_lt_zero _), K4.out.drewN _⟩
  case round =>
    obtain ⟨k, X, Y, hk, rfl, rfl, rfl, ha, hk4⟩ := hrel
    have HA := hid ha; have K5 := hid hk4
    clear ha hk4 K4 hcell
    by_cases hlt : k < ng
    · have hkl : k < G.length := by rw [NG.out]; exact hlt
      have hx := List.getElem?_eq_getElem hkl
      generalize G[k] = g at hx
      have hcell := K5.out.i2.cell' hx
      have HX := hid hx; clear hx
      have hkn : (k : Int) < (ng : Int) := by omega
      go_wp2_with fail
      go_quiet (fail)
      go_wp2_with fail
      go_roundw
      case rel => exact ⟨k + 1, min X g, max Y g, by omega, rfl, rfl, by go_num, fun j z hj hz => by
        rcases Nat.lt_or_ge j k with h1 | h1
        · have := HA.out j z h1 hz; omega
        · obtain rfl : j = k := by omega
          rw [HX.out] at hz; cases hz; omega, K5.out.drewN _⟩
      case measure => simp [intOf]; omega
    · obtain rfl : k = ng := by omega
      have HLO := hid (show ∀ x ∈ G, X ≤ x from fun x hx => by
        obtain ⟨j, hj, rfl⟩ := List.mem_iff_getElem.1 hx
        exact (HA.out j _ (by rw [← NG.out]; exact hj) (List.getElem?_eq_getElem hj)).1)
      have HHI := hid (show ∀ x ∈ G, x ≤ Y from fun x hx => by
        obtain ⟨j, hj, rfl⟩ := List.mem_iff_getElem.1 hx
        exact (HA.out j _ (by rw [← NG.out]; exact hj) (List.getElem?_eq_getElem hj)).2)
      obtain ⟨q1, q2, q3, q4⟩ := HEQ.out
      have b1 := LOW.out n X x (Nat.le_refl _) HLO.out P4.out
      have b2 := HIGH.out (na - 1 - n) Y y (by omega) HHI.out P5.out
      obtain ⟨u1, u2, u3, u4, u5⟩ := HU.out
      have z1 : decide (X ≤ q) = true := by simp; omega
      have z2 : decide (q ≤ Y) = true := by simp; omega
      have z3 : decide (X ≤ x) = true := by simp; omega
      have z4 : decide (y ≤ Y) = true := by simp; omega
      have z5 : decide (x ≤ y) = true := by simp; omega
      have z6 : decide (x ≤ q) = true := by simp; omega
      have z7 : decide (q ≤ y) = true := by simp; omega
      have z8 : decide (x ≤ d) = true := by simp; omega
      have z9 : decide (d ≤ y) = true := by simp; omega
      clear q1 q2 q3 q4 b1 b2 u1 u2 u3 u4 u5
      go_wp2_with fail
      refine (mean_as K5.out.i0 BN.out M1.out).mono ?_
      rintro e w6 ⟨rfl, hg⟩
      have K6 := hid (K5.out.grown hg); clear hg K5
      go_wp2_with fail
      refine (span_as K6.out.i0 BN.out M2.out).mono ?_
      rintro e w7 ⟨rfl, hg⟩
      have K7 := hid (K6.out.grown hg); clear hg K6
      go_wp2_with fail
      refine (median_as K7.out.i0 M3.out).mono ?_
      rintro e w8 ⟨rfl, hg⟩
      have K8 := hid (K7.out.grown hg); clear hg K7
      go_wp2_with fail
      refine (ttold_any _).mono ?_
      rintro e w9 ⟨rfl, hg⟩
      have K9 := hid (K8.out.grown hg); clear hg K8
      go_wp2_with fail
      go_ret
      exact ⟨rfl, K9.out.gr⟩
end Go.Proofs.Ytopeceicmpblkaa.tliars
