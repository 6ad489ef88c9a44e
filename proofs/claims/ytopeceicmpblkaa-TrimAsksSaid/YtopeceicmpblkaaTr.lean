/-
  Contracts for the document's own Median, Mean, Span. The condition: slices that read as numbers.
-/
import Derived.Test.YtopeceicmpblkaaTs
import Derived.Test.YtopeceicmpblkaaRs
set_option linter.unusedSimpArgs false
set_option linter.unusedVariables false
namespace Go.Proofs.Ytopeceicmpblkaa
set_option maxRecDepth 100000
open Go.RowKit

set_option maxHeartbeats 800000 in
theorem rmay_any (v : Value) (l : List Int) (w : World) (h : IntsAt w v l) :
    Calls Try.prog 20 #[v] w fun e w' => e = .returned (.bool (mayL l)) ∧ w.grownBy w' none := by
  have HI := hid h
  obtain ⟨p, c, rfl⟩ := h.form
  obtain ⟨n, hn⟩ : ∃ n, l.length = n := ⟨_, rfl⟩
  have HN := hid hn
  have hlen := h.len
  have hm : mayL l = (decide (l.length ≤ 1000) && l.all okV) := rfl
  have HM := hid hm
  rw [hn] at HI hlen ⊢
  unfold maxLen at hlen
  clear h hn hm
  go_enter Try.func20, Try.ntmps20
  go_wp2_with fail
  go_loopw [3] (fun i wr => ∃ k : Nat, k ≤ n ∧ i = .int .i64 (k : Int) ∧ (∀ (j : Nat) (x : Int), j < k → l[j]? = some x → okV x = true) ∧ w.grownBy wr none) (fun i _ => n - (intOf i).toNat)
  case atStart => exact ⟨0, Nat.zero_le _, rfl, fun j x hj => absurd hj (Nat.not_lt_zero _), .refl w none⟩
  case round =>
    obtain ⟨k, hk, rfl, ha, hgr⟩ := hrel
    have HA := hid ha; have HGR := hid hgr
    clear ha hgr
    by_cases hlt : k < n
    · have hkl : k < l.length := by rw [HN.out]; exact hlt
      obtain ⟨ab, ao, rfl, -, hcc, hcell⟩ := (HI.out.grown HGR.out).cell hkl
      have hx := List.getElem?_eq_getElem hkl
      generalize l[k] = y at *
      have HX := hid hx; clear hx
      by_cases h0 : y < 0
      · have d0 : decide (y < 0) = true := by simpa using h0
        have HALL := hid (all_hit HX.out ((okV_false y).2 (.inl h0)))
        clear h0
        go_wp2_with fail
        go_ret
        exact ⟨by rw [HM.out, HALL.out]; simp, HGR.out⟩
      · have d0 : decide (y < 0) = false := by simpa using h0
        by_cases h1 : 1099511627776 < y
        · have d1 : decide (1099511627776 < y) = true := by simpa using h1
          have HALL := hid (all_hit HX.out ((okV_false y).2 (.inr h1)))
          clear h0 h1
          go_wp2_with fail
          go_ret
          exact ⟨by rw [HM.out, HALL.out]; simp, HGR.out⟩
        · have d1 : decide (1099511627776 < y) = false := by simpa using h1
          have HY := hid ((okV_iff y).2 ⟨by omega, by omega⟩)
          clear h0 h1
          go_wp2_with fail
          go_roundw
          case rel => exact ⟨k + 1, by omega, by go_num, fun j x hj hjx => by
            rcases Nat.lt_or_ge j k with h1 | h1
            · exact HA.out j x h1 hjx
            · obtain rfl : j = k := by omega
              rw [HX.out] at hjx; cases hjx; exact HY.out, HGR.out⟩
          case measure => simp [intOf]; omega
    · obtain rfl : k = n := by omega
      have HALL := hid (all_none fun i x hi => HA.out i x (by rw [← HN.out]; exact hi))
      go_wp2_with fail
      go_ret
      refine ⟨?_, HGR.out⟩
      rw [HM.out, HALL.out, HN.out, Bool.and_true]
      congr 2
      simp; omega

theorem rmedian_any (v : Value) (l : List Int) (w : World) (h : IntsAt w v l) :
    Calls Try.prog 10 #[v] w fun e w' => e = .returned (.tuple #[.int .i64 (medOf l).1, .bool (medOf l).2]) ∧ w.grownBy w' none := by
  have C1 := hid (rmay_any v l w h)
  have HI := hid h
  obtain ⟨p, c, rfl⟩ := h.form
  have hn := h.len
  unfold maxLen at hn
  rcases Nat.eq_zero_or_pos l.length with h0 | h0
  · have hm : l = [] := List.eq_nil_of_length_eq_zero h0
    subst hm
    have e0 : medOf [] = (0, false) := by
      unfold medOf
      rw [if_pos (by decide)]
      exact atOf_out _ _ (by simp)
    rw [e0]
    clear h C1 e0 h0
    go_enter Try.func10, Try.ntmps10
    go_wp2_with fail
    go_ret2
    exact ⟨rfl, .refl w none⟩
  unfold medOf
  have dz : ((l.length : Int) == 0) = false := by simp; intro e; subst e; simp at h0
  cases hm : mayL l with
  | false =>
    rw [hm] at C1
    rw [if_neg (by decide)]
    generalize l.length = n at *
    clear hm h
    go_enter Try.func10, Try.ntmps10
    go_wp2_with fail
    refine C1.out.mono ?_
    rintro e w1 ⟨rfl, hg⟩
    have G1 := hid hg; clear hg C1
    go_wp2_with fail
    go_ret2
    exact ⟨rfl, G1.out⟩
  | true =>
    rw [hm] at C1
    rw [if_pos rfl]
    have hl := ((mayL_iff l).1 hm).1
    have HL := hid (show l.length ≤ 400000 by omega)
    obtain ⟨n, hnn⟩ : ∃ n, l.length = n := ⟨_, rfl⟩
    have e0 : ((l.length : Int) - 1).tdiv 2 = (((n - 1) / 2 : Nat) : Int) := by
      rw [Int.tdiv_eq_ediv_of_nonneg (by omega)]; omega
    rw [e0]
    obtain ⟨m, hmm⟩ : ∃ m, ms l = m := ⟨_, rfl⟩
    have hml : m.length = n := by rw [← hmm, ms_len, hnn]
    have hkm : (n - 1) / 2 < m.length := by omega
    have hat : atOf l (((n - 1) / 2 : Nat) : Int) = (m[(n - 1) / 2], true) := by
      subst hmm; exact atOf_in l _ hkm
    rw [hat]
    have hx := List.getElem?_eq_getElem hkm
    generalize m[(n - 1) / 2] = x at hx ⊢
    have HX := hid hx; have MM := hid hmm
    rw [hnn] at C1 HI hn HL hl h0 dz e0 ⊢
    have HN := hid hnn
    have ML := hid hml
    clear hm h hx hmm hnn hat hml hkm
    have e1 : IntKind.i64.wrap ((n : Int) - 1) = (n : Int) - 1 := IntWalk.i64_in _ (by omega)
    have e2 : IntKind.i64.wrap (((n : Int) - 1).tdiv 2) = (((n - 1) / 2 : Nat) : Int) := by rw [e0]; exact IntWalk.i64_in _ (by omega)
    have d1 : (((n - 1) / 2 : Nat) : Int) < (n : Int) := by omega
    clear e0
    generalize hk : (n - 1) / 2 = k at *
    go_enter Try.func10, Try.ntmps10
    go_wp2_with fail
    refine C1.out.mono ?_
    rintro e w1 ⟨rfl, hg⟩
    have I1 := hid (HI.out.grown hg)
    have G1 := hid hg; clear hg C1 HI
    go_wp2_with fail
    refine (rsort_any _ _ _ I1.out (by rw [HN.out]; exact HL.out)).mono ?_
    rintro e w2 ⟨u, rfl, ho, hg⟩
    rw [MM.out] at ho
    have G2 := hid (gb_trans G1.out hg (.inl rfl))
    obtain ⟨pu, cu, rfl⟩ := ho.form
    obtain ⟨ab, ao, rfl, -, hcc, -⟩ := ho.ints.cell (i := 0) (by rw [ML.out]; omega)
    have hc := ho.ints.cell' HX.out
    rw [ML.out]
    clear hg G1 I1 ho hcc
    go_wp2_with fail
    go_ret2
    exact ⟨rfl, G2.out⟩

theorem middle_any (v : Value) (l : List Int) (f : Int) (w : World) (h : IntsAt w v l) (hf : -9223372036854775808 ≤ f ∧ f ≤ 9223372036854775807) :
    Calls Try.prog 25 #[v, .int .i64 f] w (Tells w (midL l f)) := by
  have C1 := hid (rmay_any v l w h)
  have HI := hid h
  obtain ⟨p, c, rfl⟩ := h.form
  have hn := h.len
  unfold maxLen at hn
  obtain ⟨n, hnn⟩ : ∃ n, l.length = n := ⟨_, rfl⟩
  have HN := hid hnn
  rw [hnn] at C1 HI hn ⊢
  clear h hnn
  by_cases h0 : f < 0
  · have d0 : decide (f < 0) = true := by simpa using h0
    rw [midL_out (fun e => by have := e.2.1; omega)]
    clear h0
    go_enter Try.func25, Try.ntmps25
    go_wp2_with fail
    go_ret
    exact ⟨_, rfl, .nil _, .refl w none⟩
  have d0 : decide (f < 0) = false := by simpa using h0
  by_cases h1 : 1000 < f
  · have d1 : decide (1000 < f) = true := by simpa using h1
    rw [midL_out (fun e => by have h2 := e.2.2; have h3 := ((mayL_iff l).1 e.1).1; omega)]
    clear h0 h1
    go_enter Try.func25, Try.ntmps25
    go_wp2_with fail
    go_ret
    exact ⟨_, rfl, .nil _, .refl w none⟩
  have d1 : decide (1000 < f) = false := by simpa using h1
  obtain ⟨k, rfl⟩ := Int.eq_ofNat_of_zero_le (show 0 ≤ f by omega)
  have hw2 : IntKind.i64.wrap (2 * (k : Int)) = 2 * (k : Int) := IntWalk.i64_in _ (by omega)
  by_cases h2 : (n : Int) ≤ 2 * (k : Int)
  · have d2 : decide ((n : Int) ≤ 2 * (k : Int)) = true := by simpa using h2
    rw [midL_out (fun e => by have := e.2.2; rw [HN.out] at this; omega)]
    go_enter Try.func25, Try.ntmps25
    go_wp2_with fail
    go_ret
    exact ⟨_, rfl, .nil _, .refl w none⟩
  have d2 : decide ((n : Int) ≤ 2 * (k : Int)) = false := by simpa using h2
  cases hm : mayL l with
  | false =>
    rw [hm] at C1
    rw [midL_out (fun e => absurd (hm.symm.trans e.1) (by decide))]
    clear hm
    go_enter Try.func25, Try.ntmps25
    go_wp2_with fail
    refine C1.out.mono ?_
    rintro e w1 ⟨rfl, hg⟩
    have G1 := hid hg; clear hg C1
    go_wp2_with fail
    go_ret
    exact ⟨_, rfl, .nil _, G1.out⟩
  | true =>
    rw [hm] at C1
    have HM := hid hm
    clear hm
    have hn1 : l.length ≤ 400000 := Nat.le_trans ((mayL_iff l).1 HM.out).1 (by decide)
    rw [midL_in ⟨HM.out, by omega, by rw [HN.out]; omega⟩]
    obtain ⟨m, hmm⟩ : ∃ m, ms l = m := ⟨_, rfl⟩
    have hml : m.length = n := by rw [← hmm, ms_len, HN.out]
    have MM := hid hmm; have ML := hid hml
    have HN1 := hid hn1
    clear hmm hml hn1
    have hw : IntKind.i64.wrap ((n : Int) - (k : Int)) = (n : Int) - (k : Int) := IntWalk.i64_in _ (by omega)
    go_enter Try.func25, Try.ntmps25
    go_wp2_with fail
    refine C1.out.mono ?_
    rintro e w1 ⟨rfl, hg⟩
    have I1 := hid (HI.out.grown hg)
    have G1 := hid hg; clear hg C1 HI
    go_wp2_with fail
    refine (rsort_any _ _ _ I1.out HN1.out).mono ?_
    rintro e w2 ⟨u, rfl, ho, hg⟩
    rw [MM.out] at ho
    have G2 := hid (gb_trans G1.out hg (.inl rfl)); have O2 := hid ho.ints
    obtain ⟨pu, cu, rfl⟩ := ho.form
    clear ho hg G1 I1
    obtain ⟨ab, ao, rfl, -, hcc, -⟩ := O2.out.cell (i := 0) (by rw [ML.out]; omega)
    rw [ML.out] at O2 hcc ⊢
    have b1 : k ≤ n - k := by omega
    have b2 : n - k ≤ cu := by omega
    have b3 : ¬ cu = k := by omega
    have b4 : ((n : Int) - (k : Int)) = ((n - k : Nat) : Int) := by omega
    go_wp2_with fail
    go_ret
    refine ⟨_, rfl, ?_, G2.out⟩
    rw [show cutL l k = (m.take (n - k)).drop k from by unfold cutL; rw [MM.out, HN.out]]
    exact ints_slice1 (ints_slice0 O2.out (show n - k ≤ n by omega)) b1

set_option maxHeartbeats 800000 in
theorem rmean_any (v : Value) (l : List Int) (f : Int) (w : World) (h : IntsAt w v l) (hf : -9223372036854775808 ≤ f ∧ f ≤ 9223372036854775807) :
    Calls Try.prog 12 #[v, .int .i64 f] w fun e w' => e = .returned (.tuple #[.int .i64 (meanL (midL l f)).1, .bool (meanL (midL l f)).2]) ∧ w.grownBy w' none := by
  have C1 := hid (middle_any v l f w h hf)
  have hok := midL_ok l f
  generalize midL l f = m at *
  obtain ⟨p, c, rfl⟩ := h.form
  generalize l.length = n0 at *
  clear h hf
  obtain ⟨n, hnn⟩ : ∃ n, m.length = n := ⟨_, rfl⟩
  have HN := hid hnn
  rcases Nat.eq_zero_or_pos n with h0 | h0
  · subst h0
    have hm : m = [] := List.eq_nil_of_length_eq_zero hnn
    subst hm
    clear hok hnn HN
    go_enter Try.func12, Try.ntmps12
    go_wp2_with fail
    refine C1.out.mono ?_
    rintro e w1 ⟨u, rfl, hi, hg⟩
    have G1 := hid hg
    obtain ⟨pu, cu, rfl⟩ := hi.form
    clear hg C1 hi
    go_wp2_with fail
    go_ret2
    exact ⟨rfl, G1.out⟩
  obtain ⟨S, hS⟩ : ∃ S, m.sum = S := ⟨_, rfl⟩
  have hd := mean_div hok.1 hok.2 (by omega) hS
  rw [meanL_in (by omega) hS, hnn]
  rw [hnn] at hd
  have HALL := hid (show sumTo m n = S by rw [← hnn, sumTo_all, hS])
  have HB := hid (sumTo_bounds hok.1 hok.2)
  have hE := hd.1
  have hn1 : n ≤ 1000 := hnn ▸ hok.1
  clear hok hS hd
  have hnz : ((n : Int) == 0) = false := by simp; omega
  go_enter Try.func12, Try.ntmps12
  go_wp2_with fail
  refine C1.out.mono ?_
  rintro e w1 ⟨u, rfl, hi, hg⟩
  have G1 := hid hg; have I1 := hid hi
  obtain ⟨pu, cu, rfl⟩ := hi.form
  rw [hnn] at I1 ⊢
  clear hg C1 hi hnn
  go_wp2_with fail
  go_loopw [7, 8] (fun s i wr => ∃ k : Nat, k ≤ n ∧ i = .int .i64 (k : Int) ∧ s = .int .i64 (sumTo m k) ∧ w1.grownBy wr none) (fun _ i _ => n - (intOf i).toNat)
  case atStart => exact ⟨0, Nat.zero_le _, rfl, rfl, .refl _ _⟩
  case round =>
    obtain ⟨k, hk, rfl, rfl, hgr⟩ := hrel
    have HGR := hid hgr
    clear hgr
    by_cases hlt : k < n
    · have hkl : k < m.length := by rw [HN.out]; exact hlt
      obtain ⟨ab, ao, rfl, -, hcc, hcell⟩ := (I1.out.grown HGR.out).cell hkl
      have hx := List.getElem?_eq_getElem hkl
      generalize m[k] = y at *
      have hs := sumTo_succ hx
      have b1 := HB.out k
      have b2 := HB.out (k + 1)
      rw [hs] at b2
      have HS := hid hs; clear hs hx
      generalize sumTo m k = r at *
      have hw : IntKind.i64.wrap (r + y) = r + y := IntWalk.i64_in _ (by omega)
      go_wp2_with fail
      go_roundw
      case rel => exact ⟨k + 1, by omega, by go_num, by rw [HS.out], HGR.out⟩
      case measure => simp [intOf]; omega
    · obtain rfl : k = n := by omega
      rw [HALL.out]
      clear HB
      go_wp2_with fail
      go_ret2
      exact ⟨rfl, gb_trans G1.out HGR.out (.inl rfl)⟩

set_option maxHeartbeats 800000 in
theorem rspan_any (v : Value) (l : List Int) (f : Int) (w : World) (h : IntsAt w v l) (hf : -9223372036854775808 ≤ f ∧ f ≤ 9223372036854775807) :
    Calls Try.prog 14 #[v, .int .i64 f] w fun e w' => e = .returned (.tuple #[.int .i64 (spanL (midL l f)).1, .int .i64 (spanL (midL l f)).2.1, .bool (spanL (midL l f)).2.2]) ∧ w.grownBy w' none := by
  have C1 := hid (middle_any v l f w h hf)
  have hok := (midL_ok l f).1
  generalize midL l f = m at *
  obtain ⟨p, c, rfl⟩ := h.form
  generalize l.length = n0 at *
  clear h hf
  obtain ⟨n, hnn⟩ : ∃ n, m.length = n := ⟨_, rfl⟩
  have HN := hid hnn
  rcases Nat.eq_zero_or_pos n with h0 | h0
  · subst h0
    have hm : m = [] := List.eq_nil_of_length_eq_zero hnn
    subst hm
    clear hok hnn HN
    go_enter Try.func14, Try.ntmps14
    go_wp2_with fail
    refine C1.out.mono ?_
    rintro e w1 ⟨u, rfl, hi, hg⟩
    have G1 := hid hg
    obtain ⟨pu, cu, rfl⟩ := hi.form
    clear hg C1 hi
    go_wp2_with fail
    go_ret3
    exact ⟨rfl, G1.out⟩
  have hx := List.getElem?_eq_getElem (show 0 < m.length by omega)
  have hy := List.getElem?_eq_getElem (show m.length - 1 < m.length by omega)
  generalize m[0]'(show 0 < m.length by omega) = x at hx
  generalize m[m.length - 1]'(show m.length - 1 < m.length by omega) = y at hy
  rw [spanL_in (by omega) hx hy]
  rw [hnn] at hok hy
  have HX := hid hx; have HY := hid hy
  clear hx hy
  have hnz : ((n : Int) == 0) = false := by simp; omega
  go_enter Try.func14, Try.ntmps14
  go_wp2_with fail
  refine C1.out.mono ?_
  rintro e w1 ⟨u, rfl, hi, hg⟩
  have G1 := hid hg; have I1 := hid hi
  obtain ⟨pu, cu, rfl⟩ := hi.form
  rw [hnn] at I1 ⊢
  clear hg C1 hi
  obtain ⟨ab, ao, rfl, -, hcc, -⟩ := I1.out.cell (i := 0) (by omega)
  have cx := I1.out.cell' HX.out
  have cy := I1.out.cell' HY.out
  rw [Nat.add_zero] at cx
  have e1 : IntKind.i64.wrap ((n : Int) - 1) = ((n - 1 : Nat) : Int) := by rw [show (n : Int) - 1 = ((n - 1 : Nat) : Int) by omega]; exact IntWalk.i64_in _ (by omega)
  have d1 : ((n - 1 : Nat) : Int) < (n : Int) := by omega
  clear hnn I1
  go_wp2_with fail
  go_quiet (fail)
  go_wp2_with fail
  go_ret3
  exact ⟨rfl, gb_trans G1.out ⟨rfl, rfl, rfl, Nat.le_refl _, fun _ _ _ => rfl⟩ (.inl rfl)⟩
end Go.Proofs.Ytopeceicmpblkaa
