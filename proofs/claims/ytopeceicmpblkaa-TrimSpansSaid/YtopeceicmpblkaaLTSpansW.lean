/-
  The walk of the statement TrimSpans: the mean and the span are of just those places that are left, by size. No condition.
-/
import Derived.Test.YtopeceicmpblkaaTTold
import Derived.Test.YtopeceicmpblkaaTf
set_option linter.unusedSimpArgs false
set_option linter.unusedVariables false
namespace Go.Proofs.Ytopeceicmpblkaa.tspans
set_option maxRecDepth 100000
open Go.RowKit

set_option maxHeartbeats 3200000 in
theorem walk {w : World} (la : List Int) (pa : Option Addr) (ca : Nat) (ia : IntsAt w (.slice pa la.length ca) la) (fa : Fits la) (f : Int) :
    Calls Try.prog 7 #[.slice pa la.length ca, .int .i64 f] w fun e w' => e = .returned (.bool true) ∧ w.grownBy w' none := by
  have F0 := hid (fit_any _ la 30 w ia (by decide))
  have hl := fitL_len la 30
  have hok := fitL_ok la 30
  generalize fitL la 30 = A at *
  generalize la.length = n0 at *
  clear ia fa
  obtain ⟨na, hna⟩ : ∃ n, A.length = n := ⟨_, rfl⟩
  have NA := hid hna
  rw [hna] at hl
  rcases Nat.eq_zero_or_pos na with h0 | h0
  · subst h0
    go_enter Try.func7, Try.ntmps7
    go_wp2_with fail
    refine F0.out.mono ?_
    rintro e w1 ⟨u, rfl, ho, hg⟩
    have G1 := hid hg
    obtain ⟨pu, cu, rfl⟩ := ho.form
    rw [hna]
    clear ho hg F0
    go_wp2_with fail
    refine (ttold_any _).mono ?_
    rintro e w2 ⟨rfl, hg⟩
    have G2 := hid (gb_trans G1.out hg (.inl rfl))
    clear hg G1
    go_wp2_with fail
    go_ret
    exact ⟨rfl, G2.out⟩
  have hna30 : na ≤ 30 := by omega
  obtain ⟨K2, hK2⟩ : ∃ K, K = na + 1 := ⟨_, rfl⟩
  obtain ⟨H, hH⟩ : ∃ H : Nat, H = K2 / 2 := ⟨_, rfl⟩
  have e4 : IntKind.i64.wrap ((na : Int) + 1) = (K2 : Int) := by rw [show (na : Int) + 1 = (K2 : Int) by omega]; exact IntWalk.i64_in _ (by omega)
  have e7 : IntKind.i64.wrap ((K2 : Int) / 2) = (H : Int) := by rw [show (K2 : Int) / 2 = (H : Int) by omega]; exact IntWalk.i64_in _ (by omega)
  obtain ⟨c, hc, e6⟩ := umod_small f H (by omega)
  have h2c : 2 * c < na := by omega
  have hmay : mayL A = true := (mayL_iff A).2 ⟨by omega, hok⟩
  obtain ⟨S, hS⟩ : ∃ S, ms A = S := ⟨_, rfl⟩
  have hSl : S.length = na := by rw [← hS, ms_len, hna]
  obtain ⟨C, hC⟩ : ∃ C, cutL A c = C := ⟨_, rfl⟩
  have hCl : C.length = na - c - c := by rw [← hC, cutL_len, hna]
  have hCok : ∀ x ∈ C, 0 ≤ x ∧ x ≤ 1099511627776 := by rw [← hC]; exact cutL_ok hmay c
  have hCg : ∀ i, i < na - c - c → C[i]? = S[c + i]? := fun i hi => by rw [← hC, cutL_get A c i (by rw [hna]; exact hi), hS]
  have hmid : midL A (c : Int) = C := by rw [midL_in ⟨hmay, by omega, by rw [hna]; omega⟩, hC]
  obtain ⟨D, hD⟩ : ∃ D, D = na - c - c := ⟨_, rfl⟩
  obtain ⟨sm, hsm⟩ : ∃ s, C.sum = s := ⟨_, rfl⟩
  have hmd := mean_div (m := C) (by omega) hCok (by omega) hsm
  rw [hCl, ← hD] at hmd
  obtain ⟨Qt, hQ⟩ : ∃ q, sm / (D : Int) = q := ⟨_, rfl⟩
  rw [hQ] at hmd
  have M2 := hid (show meanL (midL A (c : Int)) = (Qt, true) by rw [hmid, meanL_in (by omega) hsm, hCl, ← hD, hQ])
  obtain ⟨E1, hE1⟩ : ∃ E, E = na - 1 := ⟨_, rfl⟩
  obtain ⟨E2, hE2⟩ : ∃ E, E = E1 - c := ⟨_, rfl⟩
  obtain ⟨E3, hE3⟩ : ∃ E, E = E1 / 2 := ⟨_, rfl⟩
  obtain ⟨T, hT⟩ : ∃ T, T = 2 * c := ⟨_, rfl⟩
  obtain ⟨U, hU⟩ : ∃ U, U = na - c := ⟨_, rfl⟩
  have x1 := List.getElem?_eq_getElem (show c < S.length by omega)
  have x2 := List.getElem?_eq_getElem (show E2 < S.length by omega)
  have x3 := List.getElem?_eq_getElem (show E3 < S.length by omega)
  generalize S[c]'(show c < S.length by omega) = y1 at x1
  generalize S[E2]'(show E2 < S.length by omega) = y2 at x2
  generalize S[E3]'(show E3 < S.length by omega) = y3 at x3
  have M3 := hid (show spanL (midL A (c : Int)) = (y1, y2, true) by
    rw [hmid]; exact spanL_in (by omega) (by rw [hCg 0 (by omega)]; exact x1) (by rw [hCl, hCg _ (by omega), show c + (na - c - c - 1) = E2 by omega]; exact x2))
  have M1 := hid (show medOf A = (y3, true) by
    unfold medOf
    rw [if_pos hmay, hna, show ((na : Int) - 1).tdiv 2 = ((E3 : Nat) : Int) by rw [Int.tdiv_eq_ediv_of_nonneg (by omega)]; omega, atOf_in _ _ (by rw [hS]; omega)]
    subst hS
    have := List.getElem?_eq_some_iff.1 x3
    rw [this.2])
  have M4 := hid (show meanL (midL (A ++ [1099511627777]) (c : Int)) = (0, false) by
    rw [midL_out (fun e => by have := ((mayL_iff _).1 e.1).2 1099511627777 (by simp); omega)]; rfl)
  have BC := hid (show (-9223372036854775808 : Int) ≤ (c : Int) ∧ (c : Int) ≤ 9223372036854775807 by omega)
  have X1 := hid x1; have X2 := hid x2; have X3 := hid x3
  have f1 : IntKind.i64.wrap ((na : Int) - 1) = (E1 : Int) := by rw [show (na : Int) - 1 = (E1 : Int) by omega]; exact IntWalk.i64_in _ (by omega)
  have f2 : IntKind.i64.wrap ((E1 : Int) - (c : Int)) = (E2 : Int) := by rw [show (E1 : Int) - (c : Int) = (E2 : Int) by omega]; exact IntWalk.i64_in _ (by omega)
  have f3 : IntKind.i64.wrap ((E1 : Int) / 2) = (E3 : Int) := by rw [show (E1 : Int) / 2 = (E3 : Int) by omega]; exact IntWalk.i64_in _ (by omega)
  have f4 : IntKind.i64.wrap (2 * (c : Int)) = (T : Int) := by rw [show 2 * (c : Int) = (T : Int) by omega]; exact IntWalk.i64_in _ (by omega)
  have f5 : IntKind.i64.wrap ((na : Int) - (T : Int)) = (D : Int) := by rw [show (na : Int) - (T : Int) = (D : Int) by omega]; exact IntWalk.i64_in _ (by omega)
  have f6 : IntKind.i64.wrap ((na : Int) - (c : Int)) = (U : Int) := by rw [show (na : Int) - (c : Int) = (U : Int) by omega]; exact IntWalk.i64_in _ (by omega)
  have f7 : ((D : Int) == 0) = false := by simp; omega
  have f8 := hmd.1
  have hsb := hmd.2
  have HB := hid (sumTo_bounds (l := C) (by omega) hCok)
  have HALL := hid (show sumTo C D = sm by rw [hD, ← hCl, sumTo_all, hsm])
  have HCG := hid (show ∀ j, c ≤ j → j < U → ∀ y, S[j]? = some y → C[j - c]? = some y from fun j h1 h2 y hy => by rw [hCg _ (by omega), show c + (j - c) = j by omega]; exact hy)
  have SS := hid hS; have SL := hid hSl
  have HA1 := hid (show A.length ≤ 1000000 by omega)
  have b0 : (na : Int) ≤ 30 := by omega
  have b1 : c ≤ U ∧ U ≤ na ∧ U - c = D := by omega
  have b2 : c < na ∧ E2 < na ∧ E3 < na := by omega
  have g1 : (c : Int) < (na : Int) := by omega
  have g2 : (E2 : Int) < (na : Int) := by omega
  have g3 : (E3 : Int) < (na : Int) := by omega
  have hH1 : 1 ≤ H ∧ H ≤ 21 := by omega
  have hD1 : 1 ≤ D ∧ D ≤ 30 := by omega
  clear hK2 hH hE1 hE2 hE3 hT hU hD hmd x1 x2 x3 hC hCl hCok hCg hmid hsm hS hSl hok hmay hQ h2c hc hl
  go_enter Try.func7, Try.ntmps7
  go_wp2_with fail
  refine F0.out.mono ?_
  rintro e w1 ⟨u, rfl, ho, hg⟩
  have K1 := hid ((Kl.mk hg (by intro p hp; cases hp) : Kl w [] w1).add ho.ints)
  obtain ⟨pu, cu, rfl⟩ := ho.form
  rw [hna] at K1 ⊢
  clear ho hg F0 hna
  have d0 : ((na : Int) == 0) = false := by simp; omega
  go_wp2_with fail
  refine (osort_any _ _ _ K1.out.i0 HA1.out).mono ?_
  rintro e w2 ⟨us, rfl, ho, hg⟩
  rw [SS.out] at ho
  have K2' := hid ((K1.out.grown hg).add ho.ints)
  obtain ⟨ps, cs, rfl⟩ := ho.form
  rw [SL.out] at K2' ⊢
  clear ho hg K1
  have d1 : ((na : Int) != (na : Int)) = false := by simp
  go_wp2_with fail
  go_loopw [8, 9] (fun s i wr => ∃ j : Nat, c ≤ j ∧ j ≤ U ∧ i = .int .i64 (j : Int) ∧ s = .int .i64 (sumTo C (j - c)) ∧ Kl w [(.slice ps na cs, S), (.slice pu na cu, A)] wr) (fun _ i _ => U - (intOf i).toNat)
  case atStart => exact ⟨c, Nat.le_refl _, b1.1, rfl, by rw [Nat.sub_self, sumTo_zero], K2'.out⟩
  case round =>
    obtain ⟨j, hcj, hjU, rfl, rfl, hk⟩ := hrel
    have K3 := hid hk
    clear hk K2'
    obtain ⟨ab, ao, rfl, -, hcc, -⟩ := K3.out.i0.cell (i := 0) (by rw [SL.out]; omega)
    by_cases hlt : j < U
    · have hjl : j < S.length := by rw [SL.out]; omega
      have hx := List.getElem?_eq_getElem hjl
      generalize S[j] = y at hx
      have hcell := K3.out.i0.cell' hx
      have hs := sumTo_succ (HCG.out j hcj hlt y hx)
      rw [show j - c + 1 = j + 1 - c by omega] at hs
      have q1 := HB.out (j - c)
      have q2 := HB.out (j + 1 - c)
      rw [hs] at q2
      have HS := hid hs
      clear hs hx
      generalize sumTo C (j - c) = r at *
      have hw : IntKind.i64.wrap (r + y) = r + y := IntWalk.i64_in _ (by omega)
      have hjn : (j : Int) < (na : Int) := by omega
      go_wp2_with fail
      go_roundw
      case rel => exact ⟨j + 1, by omega, by omega, by go_num, by rw [HS.out], K3.out⟩
      case measure => simp [intOf]; omega
    · obtain rfl : j = U := by omega
      rw [b1.2.2, HALL.out]
      clear HB HCG
      go_wp2_with fail
      refine (mean_as K3.out.i1 BC.out M2.out).mono ?_
      rintro e w3 ⟨rfl, hg⟩
      have K4 := hid (K3.out.grown hg); clear hg K3
      go_wp2_with fail
      refine (span_as K4.out.i1 BC.out M3.out).mono ?_
      rintro e w4 ⟨rfl, hg⟩
      have K5 := hid (K4.out.grown hg); clear hg K4
      go_wp2_with fail
      refine (median_as K5.out.i1 M1.out).mono ?_
      rintro e w5 ⟨rfl, hg⟩
      have K6 := hid (K5.out.grown hg); clear hg K5
      have hs5 : w5.heap.size ≤ (w5.alloc (.cells #[] 2)).heap.size := by rw [size_alloc']; omega
      go_wp2_with (at_builtin; first | (refine append_ints rfl _ _ rfl w5.heap.size _ _ rfl (OwnI.empty w5) _ _ rfl (K6.out.i1.alloc _) (by rw [NA.out]; show 0 + na ≤ 1000000; omega) hs5 ?_; intro v1 w6 o1 gg1 a1; rw [List.nil_append] at o1; have G7 := hid (gb_ownI (World.grownBy_alloc w5 _ none) (OwnI.empty w5) (Nat.le_refl _) gg1); have O7 := hid o1; have hs6 := gb_size G7.out; obtain ⟨p7, c7, rfl⟩ := o1.form; clear o1 gg1 a1) | (refine append_int rfl _ _ rfl w5.heap.size _ _ (by rfl) (O7.out.grown (World.grownBy_alloc w6 _ none) (by simp)) w6.heap.size 1099511627777 (by rfl) (at_cell (at_new w6 _) 0) (by rw [NA.out]; omega) (by rw [size_alloc']; omega) ?_; intro v2 w7 o2 gg2 a2; have K8 := hid (K6.out.grown (gb_ownI (gb_alloc G7.out _) (O7.out.grown (World.grownBy_alloc w6 _ none) (by simp)) (Nat.le_refl _) gg2)); have O8 := hid o2.ints; obtain ⟨p8, c8, rfl⟩ := O8.out.form; clear o2 gg2 a2 G7 O7))
      have O9 : IntsAt w7 (.slice p8 (A.length + 1) c8) (A ++ [1099511627777]) := by
        have := O8.out
        rw [List.length_append] at this
        exact this
      refine (mean_as O9 BC.out M4.out).mono ?_
      rintro e w8 ⟨rfl, hg⟩
      have K9 := hid (K8.out.grown hg); clear hg K8 O9 O8
      go_wp2_with fail
      refine (ttold_any _).mono ?_
      rintro e w9 ⟨rfl, hg⟩
      have K10 := hid (K9.out.grown hg); clear hg K9
      have cx1 := K10.out.i0.cell' X1.out
      have cx2 := K10.out.i0.cell' X2.out
      have cx3 := K10.out.i0.cell' X3.out
      have z1 : (Qt == Qt) = true := by simp
      have z2 : (y1 == y1) = true := by simp
      have z3 : (y2 == y2) = true := by simp
      have z4 : (y3 == y3) = true := by simp
      go_wp2_with fail
      go_ret
      exact ⟨rfl, K10.out.gr⟩
end Go.Proofs.Ytopeceicmpblkaa.tspans
