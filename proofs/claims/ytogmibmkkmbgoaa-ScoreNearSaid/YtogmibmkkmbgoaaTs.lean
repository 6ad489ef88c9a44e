/-
  Contracts for package trim: Median, Mean, Span. The condition: slices that read as numbers.
-/
import Derived.Test.YtogmibmkkmbgoaaTq
set_option linter.unusedSimpArgs false
set_option linter.unusedVariables false
namespace Go.Proofs.Ytogmibmkkmbgoaa
set_option maxRecDepth 100000
open Go.RowKit

theorem median_any (v : Value) (l : List Int) (w : World) (h : IntsAt w v l) :
    Calls Try.prog 10 #[v] w fun e w' => e = .returned (.tuple #[.int .i64 (medOf l).1, .bool (medOf l).2]) ∧ w.grownBy w' none := by
  have C1 := hid (tmay_any v l w h)
  have HI := hid h
  obtain ⟨p, c, rfl⟩ := h.form
  have hn := h.len
  unfold maxLen at hn
  unfold medOf
  cases hm : mayL l with
  | false =>
    rw [hm] at C1
    rw [if_neg (by decide)]
    generalize l.length = n at *
    clear hm h
    go_enter Try.func10, Try.ntmps10
    go_wp2_with fail
    refine C1.out.mono ?_
    rintro e w1 ⟨rfl, hg⟩
    have G1 := hid hg; clear hg C1
    go_wp2_with fail
    go_ret2
    exact ⟨rfl, G1.out⟩
  | true =>
    rw [hm] at C1
    rw [if_pos rfl]
    have hl := ((mayL_iff l).1 hm).1
    have HL := hid (show l.length ≤ 1000000 by omega)
    obtain ⟨z, hz⟩ : ∃ z, atOf l (((l.length : Int) - 1).tdiv 2) = z := ⟨_, rfl⟩
    rw [hz]
    have HZ := hid hz
    obtain ⟨n, hnn⟩ : ∃ n, l.length = n := ⟨_, rfl⟩
    rw [hnn] at C1 HI hn HL HZ hl ⊢
    have HN := hid hnn
    clear hm h hz hnn
    have e1 : IntKind.i64.wrap ((n : Int) - 1) = (n : Int) - 1 := IntWalk.i64_in _ (by omega)
    have e2 : IntKind.i64.wrap (((n : Int) - 1).tdiv 2) = ((n : Int) - 1).tdiv 2 := IntWalk.i64_in _ (by
      rcases Nat.eq_zero_or_pos n with h0 | h0
      · subst h0; decide
      · rw [Int.tdiv_eq_ediv_of_nonneg (by omega)]; omega)
    generalize hk : ((n : Int) - 1).tdiv 2 = k at *
    go_enter Try.func10, Try.ntmps10
    go_wp2_with fail
    refine C1.out.mono ?_
    rintro e w1 ⟨rfl, hg⟩
    have I1 := hid (HI.out.grown hg)
    have G1 := hid hg; clear hg C1 HI
    go_wp2_with fail
    refine (oat_any _ _ _ _ I1.out (by rw [HN.out]; exact HL.out)).mono ?_
    rintro e w2 ⟨rfl, hg⟩
    rw [HZ.out]
    have G2 := hid (gb_trans G1.out hg (.inl rfl))
    clear hg G1 I1
    go_wp2_with fail
    go_ret2
    exact ⟨rfl, G2.out⟩

theorem mean_div {m : List Int} (hl : m.length ≤ 1000) (h : ∀ x ∈ m, 0 ≤ x ∧ x ≤ 1099511627776) (hp : 0 < m.length) {s : Int} (hs : m.sum = s) :
    IntKind.i64.wrap (s.tdiv (m.length : Int)) = s / (m.length : Int) ∧ 0 ≤ s ∧ s ≤ 1099511627776000 := by
  have hb := sumTo_bounds hl h m.length
  rw [sumTo_all, hs] at hb
  have hd : s / (m.length : Int) ≤ s := Int.ediv_le_self _ hb.1
  have hd0 : 0 ≤ s / (m.length : Int) := Int.ediv_nonneg hb.1 (by omega)
  refine ⟨?_, hb⟩
  rw [Int.tdiv_eq_ediv_of_nonneg hb.1]
  exact IntWalk.i64_in _ (by omega)

set_option maxHeartbeats 800000 in
theorem mean_any (v : Value) (l : List Int) (f : Int) (w : World) (h : IntsAt w v l) (hf : -9223372036854775808 ≤ f ∧ f ≤ 9223372036854775807) :
    Calls Try.prog 12 #[v, .int .i64 f] w fun e w' => e = .returned (.tuple #[.int .i64 (meanL (midL l f)).1, .bool (meanL (midL l f)).2]) ∧ w.grownBy w' none := by
  have C1 := hid (left_any v l f w h hf)
  have hok := midL_ok l f
  generalize midL l f = m at *
  obtain ⟨p, c, rfl⟩ := h.form
  generalize l.length = n0 at *
  clear h hf
  obtain ⟨n, hnn⟩ : ∃ n, m.length = n := ⟨_, rfl⟩
  have HN := hid hnn
  rcases Nat.eq_zero_or_pos n with h0 | h0
  · subst h0
    have hm : m = [] := List.eq_nil_of_length_eq_zero hnn
    subst hm
    clear hok hnn HN
    go_enter Try.func12, Try.ntmps12
    go_wp2_with fail
    refine C1.out.mono ?_
    rintro e w1 ⟨u, rfl, hi, hg⟩
    have G1 := hid hg
    obtain ⟨pu, cu, rfl⟩ := hi.form
    clear hg C1 hi
    go_wp2_with fail
    go_ret2
    exact ⟨rfl, G1.out⟩
  obtain ⟨S, hS⟩ : ∃ S, m.sum = S := ⟨_, rfl⟩
  have hd := mean_div hok.1 hok.2 (by omega) hS
  rw [meanL_in (by omega) hS, hnn]
  rw [hnn] at hd
  have HALL := hid (show sumTo m n = S by rw [← hnn, sumTo_all, hS])
  have HB := hid (sumTo_bounds hok.1 hok.2)
  have hE := hd.1
  have hS0 := hd.2
  have hn1 : n ≤ 1000 := hnn ▸ hok.1
  clear hok hS hd
  have hnz : ((n : Int) == 0) = false := by simp; omega
  go_enter Try.func12, Try.ntmps12
  go_wp2_with fail
  refine C1.out.mono ?_
  rintro e w1 ⟨u, rfl, hi, hg⟩
  have G1 := hid hg; have I1 := hid hi
  obtain ⟨pu, cu, rfl⟩ := hi.form
  rw [hnn] at I1 ⊢
  clear hg C1 hi hnn
  have HC := hid (at_new w1 (.cells #[.int .i64 0] 60))
  have HG := hid (World.grownBy_alloc w1 (.cells #[.int .i64 0] 60) none)
  go_wp2_with fail
  go_loopw [9, 18] (fun _ i wr => ∃ k : Nat, k ≤ n ∧ i = .int .i64 (k : Int) ∧ wr.heap[w1.heap.size]? = some (.cells #[.int .i64 (sumTo m k)] 60) ∧ w1.grownBy wr none) (fun _ i _ => n - (intOf i).toNat)
  case atStart => exact ⟨0, Nat.zero_le _, rfl, by rw [sumTo_zero]; exact HC.out, HG.out⟩
  case round =>
    obtain ⟨k, hk, rfl, hb, hgr⟩ := hrel
    have HBL := hid hb; have HGR := hid hgr
    have c0 := at_cell hb 0
    have f0 := at_free hb 0
    clear hb hgr HC HG
    by_cases hlt : k < n
    · have hkl : k < m.length := by rw [HN.out]; exact hlt
      obtain ⟨ab, ao, rfl, -, hcc, hcell⟩ := (I1.out.grown HGR.out).cell hkl
      have hx := List.getElem?_eq_getElem hkl
      generalize m[k] = y at *
      have hs := sumTo_succ hx
      have b1 := HB.out k
      have b2 := HB.out (k + 1)
      rw [hs] at b2
      have HS := hid hs; clear hs hx
      generalize sumTo m k = r at *
      have A0 := hid (addn_i64 _ _ y (r + y) _ c0 f0 (IntWalk.i64_in _ (by omega)))
      have ht := hid (at_set HBL.out 0 (.int .i64 (r + y)))
      have hg2 := hid (gb_new HGR.out (p := ⟨w1.heap.size, 0, none⟩) (Nat.le_refl _) (.int .i64 (r + y)))
      clear HBL HGR
      go_wp2_with fail
      refine A0.out.mono ?_
      rintro e w2 ⟨rfl, hw⟩
      subst hw
      clear A0
      go_wp2_with fail
      go_roundw
      case rel => exact ⟨k + 1, by omega, by go_num, by rw [HS.out]; exact ht.out, hg2.out⟩
      case measure => simp [intOf]; omega
    · obtain rfl : k = n := by omega
      rw [HALL.out] at c0
      have L0 := hid (load_i64 _ _ _ c0)
      clear HBL HB c0 f0
      go_wp2_with fail
      refine L0.out.mono ?_
      rintro e w2 ⟨rfl, rfl⟩
      clear L0
      go_wp2_with fail
      go_ret2
      exact ⟨rfl, gb_trans G1.out HGR.out (.inl rfl)⟩

set_option maxHeartbeats 800000 in
theorem span_any (v : Value) (l : List Int) (f : Int) (w : World) (h : IntsAt w v l) (hf : -9223372036854775808 ≤ f ∧ f ≤ 9223372036854775807) :
    Calls Try.prog 14 #[v, .int .i64 f] w fun e w' => e = .returned (.tuple #[.int .i64 (spanL (midL l f)).1, .int .i64 (spanL (midL l f)).2.1, .bool (spanL (midL l f)).2.2]) ∧ w.grownBy w' none := by
  have C1 := hid (left_any v l f w h hf)
  have hok := (midL_ok l f).1
  generalize midL l f = m at *
  obtain ⟨p, c, rfl⟩ := h.form
  generalize l.length = n0 at *
  clear h hf
  obtain ⟨n, hnn⟩ : ∃ n, m.length = n := ⟨_, rfl⟩
  have HN := hid hnn
  rcases Nat.eq_zero_or_pos n with h0 | h0
  · subst h0
    have hm : m = [] := List.eq_nil_of_length_eq_zero hnn
    subst hm
    clear hok hnn HN
    go_enter Try.func14, Try.ntmps14
    go_wp2_with fail
    refine C1.out.mono ?_
    rintro e w1 ⟨u, rfl, hi, hg⟩
    have G1 := hid hg
    obtain ⟨pu, cu, rfl⟩ := hi.form
    clear hg C1 hi
    go_wp2_with fail
    go_ret3
    exact ⟨rfl, G1.out⟩
  have hx := List.getElem?_eq_getElem (show 0 < m.length by omega)
  have hy := List.getElem?_eq_getElem (show m.length - 1 < m.length by omega)
  generalize m[0]'(show 0 < m.length by omega) = x at hx
  generalize m[m.length - 1]'(show m.length - 1 < m.length by omega) = y at hy
  rw [spanL_in (by omega) hx hy]
  rw [hnn] at hok hy
  have HX := hid hx; have HY := hid hy
  clear hx hy
  have hnz : ((n : Int) == 0) = false := by simp; omega
  go_enter Try.func14, Try.ntmps14
  go_wp2_with fail
  refine C1.out.mono ?_
  rintro e w1 ⟨u, rfl, hi, hg⟩
  have G1 := hid hg; have I1 := hid hi
  obtain ⟨pu, cu, rfl⟩ := hi.form
  rw [hnn] at I1 ⊢
  clear hg C1 hi
  obtain ⟨ab, ao, rfl, -, hcc, -⟩ := I1.out.cell (i := 0) (by omega)
  have cx := I1.out.cell' HX.out
  have cy := I1.out.cell' HY.out
  rw [Nat.add_zero] at cx
  have e1 : IntKind.i64.wrap ((n : Int) - 1) = ((n - 1 : Nat) : Int) := by rw [show (n : Int) - 1 = ((n - 1 : Nat) : Int) by omega]; exact IntWalk.i64_in _ (by omega)
  have d1 : ((n - 1 : Nat) : Int) < (n : Int) := by omega
  clear hnn I1
  go_wp2_with fail
  go_quiet (fail)
  go_wp2_with fail
  go_ret3
  exact ⟨rfl, gb_trans G1.out ⟨rfl, rfl, rfl, Nat.le_refl _, fun _ _ _ => rfl⟩ (.inl rfl)⟩
end Go.Proofs.Ytogmibmkkmbgoaa
