/-
  Contracts for package ratio, and for the document's own: which numbers may be, the band, shares, what is wanted. No condition, but for numbers that may be.
-/
import Derived.Test.YtfobddicokogpaaRaP
import Derived.Test.YtfobddicokogpaaI64
set_option linter.unusedSimpArgs false
set_option linter.unusedVariables false
namespace Go.Proofs.Ytfobddicokogpaa
set_option maxRecDepth 100000
open Go.RowKit

theorem rmay_any (v t l : Int) (w : World) :
    Calls Try.prog 22 #[.int .i64 v, .int .i64 t, .int .i64 l] w fun e w' => e = .returned (.bool (raMay v t l)) ∧ w = w' := by
  unfold raMay
  cases d0 : decide (0 ≤ v) with
  | false =>
    simp only [Bool.false_and, Bool.and_false, Bool.true_and]
    go_enter Try.func22, Try.ntmps22
    go_wp2_with fail
    go_ret
    exact ⟨rfl, rfl⟩
  | true =>
    cases d1 : decide (v ≤ 1099511627776) with
    | false =>
      simp only [Bool.false_and, Bool.and_false, Bool.true_and]
      go_enter Try.func22, Try.ntmps22
      go_wp2_with fail
      go_ret
      exact ⟨rfl, rfl⟩
    | true =>
      cases d2 : decide (1 ≤ t) with
      | false =>
        simp only [Bool.false_and, Bool.and_false, Bool.true_and]
        go_enter Try.func22, Try.ntmps22
        go_wp2_with fail
        go_ret
        exact ⟨rfl, rfl⟩
      | true =>
        cases d3 : decide (t ≤ 1099511627776) with
        | false =>
          simp only [Bool.false_and, Bool.and_false, Bool.true_and]
          go_enter Try.func22, Try.ntmps22
          go_wp2_with fail
          go_ret
          exact ⟨rfl, rfl⟩
        | true =>
          cases d4 : decide (0 ≤ l) with
          | false =>
            simp only [Bool.false_and, Bool.and_false, Bool.true_and]
            go_enter Try.func22, Try.ntmps22
            go_wp2_with fail
            go_ret
            exact ⟨rfl, rfl⟩
          | true =>
            cases d5 : decide (l ≤ 1000) with
            | false =>
              simp only [Bool.false_and, Bool.and_false, Bool.true_and]
              go_enter Try.func22, Try.ntmps22
              go_wp2_with fail
              go_ret
              exact ⟨rfl, rfl⟩
            | true =>
              simp only [Bool.true_and, Bool.and_true]
              go_enter Try.func22, Try.ntmps22
              go_wp2_with fail
              go_ret
              exact ⟨rfl, rfl⟩

theorem rrmay_any (v t l : Int) (w : World) :
    Calls Try.prog 21 #[.int .i64 v, .int .i64 t, .int .i64 l] w fun e w' => e = .returned (.bool (raMay v t l)) ∧ w = w' := by
  unfold raMay
  cases d0 : decide (0 ≤ v) with
  | false =>
    simp only [Bool.false_and, Bool.and_false, Bool.true_and]
    go_enter Try.func21, Try.ntmps21
    go_wp2_with fail
    go_ret
    exact ⟨rfl, rfl⟩
  | true =>
    cases d1 : decide (v ≤ 1099511627776) with
    | false =>
      simp only [Bool.false_and, Bool.and_false, Bool.true_and]
      go_enter Try.func21, Try.ntmps21
      go_wp2_with fail
      go_ret
      exact ⟨rfl, rfl⟩
    | true =>
      cases d2 : decide (1 ≤ t) with
      | false =>
        simp only [Bool.false_and, Bool.and_false, Bool.true_and]
        go_enter Try.func21, Try.ntmps21
        go_wp2_with fail
        go_ret
        exact ⟨rfl, rfl⟩
      | true =>
        cases d3 : decide (t ≤ 1099511627776) with
        | false =>
          simp only [Bool.false_and, Bool.and_false, Bool.true_and]
          go_enter Try.func21, Try.ntmps21
          go_wp2_with fail
          go_ret
          exact ⟨rfl, rfl⟩
        | true =>
          cases d4 : decide (0 ≤ l) with
          | false =>
            simp only [Bool.false_and, Bool.and_false, Bool.true_and]
            go_enter Try.func21, Try.ntmps21
            go_wp2_with fail
            go_ret
            exact ⟨rfl, rfl⟩
          | true =>
            cases d5 : decide (l ≤ 1000) with
            | false =>
              simp only [Bool.false_and, Bool.and_false, Bool.true_and]
              go_enter Try.func21, Try.ntmps21
              go_wp2_with fail
              go_ret
              exact ⟨rfl, rfl⟩
            | true =>
              simp only [Bool.true_and, Bool.and_true]
              go_enter Try.func21, Try.ntmps21
              go_wp2_with fail
              go_ret
              exact ⟨rfl, rfl⟩

set_option maxHeartbeats 800000 in
theorem near_any (v t l : Int) (w : World) (hv : 0 ≤ v ∧ v ≤ 1099511627776) (ht : 1 ≤ t ∧ t ≤ 1099511627776) (hl : 0 ≤ l ∧ l ≤ 1000) :
    Calls Try.prog 23 #[.int .i64 v, .int .i64 t, .int .i64 l] w fun e w' => e = .returned (.bool (raNear v t l)) ∧ w = w' := by
  obtain ⟨A, hA⟩ : ∃ A, v * 1000 = A := ⟨_, rfl⟩
  obtain ⟨B, hB⟩ : ∃ B, 1000 - l = B := ⟨_, rfl⟩
  obtain ⟨D, hD⟩ : ∃ D, 1000 + l = D := ⟨_, rfl⟩
  have b1 := ra_low ht hl
  have b2 := ra_high ht hl
  unfold raNear
  rw [hA, hB, hD]
  rw [hB] at b1
  rw [hD] at b2
  obtain ⟨C, hC⟩ : ∃ C, t * B = C := ⟨_, rfl⟩
  obtain ⟨E, hE⟩ : ∃ E, t * D = E := ⟨_, rfl⟩
  rw [hC] at b1 ⊢
  rw [hE] at b2 ⊢
  have e1 : IntKind.i64.wrap (v * 1000) = A := by rw [hA]; exact IntWalk.i64_in _ (by omega)
  have e2 : IntKind.i64.wrap (1000 - l) = B := by rw [hB]; exact IntWalk.i64_in _ (by omega)
  have e3 : IntKind.i64.wrap (1000 + l) = D := by rw [hD]; exact IntWalk.i64_in _ (by omega)
  have e4 : IntKind.i64.wrap (t * B) = C := by rw [hC]; exact IntWalk.i64_in _ (by omega)
  have e5 : IntKind.i64.wrap (t * D) = E := by rw [hE]; exact IntWalk.i64_in _ (by omega)
  clear hA hB hD hC hE b1 b2
  clear hv ht hl
  cases d0 : decide (C ≤ A) with
  | false =>
    simp only [Bool.false_and]
    go_enter Try.func23, Try.ntmps23
    go_wp2_with fail
    go_ret
    exact ⟨rfl, rfl⟩
  | true =>
    cases d1 : decide (A ≤ E) with
    | false =>
      simp only [Bool.and_false]
      go_enter Try.func23, Try.ntmps23
      go_wp2_with fail
      go_ret
      exact ⟨rfl, rfl⟩
    | true =>
      simp only [Bool.and_true]
      go_enter Try.func23, Try.ntmps23
      go_wp2_with fail
      go_ret
      exact ⟨rfl, rfl⟩

theorem shares_any (x t : Int) (w : World) (hx : 0 ≤ x ∧ x ≤ 10995116277760000) (ht : 1 ≤ t ∧ t ≤ 1099511627776) :
    Calls Try.prog 25 #[.int .i64 x, .int .i64 t] w fun e w' => e = .returned (.int .i64 (raShares x t)) ∧ w = w' := by
  have hq := raShares_tdiv hx.1 ht.1
  have hs := raShares_spec hx.1 ht.1
  have hle : raShares x t ≤ x := raShares_least ht.1 (by have := Int.mul_le_mul_of_nonneg_left ht.1 hx.1; omega)
  obtain ⟨A, hA⟩ : ∃ A, x + t = A := ⟨_, rfl⟩
  obtain ⟨B, hB⟩ : ∃ B, A - 1 = B := ⟨_, rfl⟩
  obtain ⟨S, hS⟩ : ∃ S, raShares x t = S := ⟨_, rfl⟩
  rw [hA, hB, hS] at hq
  rw [hS] at hs hle ⊢
  have e1 : IntKind.i64.wrap (x + t) = A := by rw [hA]; exact IntWalk.i64_in _ (by omega)
  have e2 : IntKind.i64.wrap (A - 1) = B := by rw [hB]; exact IntWalk.i64_in _ (by omega)
  have e3 : IntKind.i64.wrap (B.tdiv t) = S := by rw [hq]; exact IntWalk.i64_in _ (by omega)
  have n0 : ¬ t = 0 := by omega
  have n1 : (1 : Int) ≤ t := ht.1
  clear hA hB hS hq hs hle hx ht
  go_enter Try.func25, Try.ntmps25
  go_wp2_with fail
  go_ret
  exact ⟨rfl, rfl⟩

theorem rin_any (v t l : Int) (w : World) :
    Calls Try.prog 12 #[.int .i64 v, .int .i64 t, .int .i64 l] w fun e w' => e = .returned (.bool (raIn v t l)) ∧ w = w' := by
  have M := rmay_any v t l w
  unfold raIn
  cases hm : raMay v t l with
  | false =>
    rw [hm] at M
    have M := hid M
    simp only [Bool.false_and]
    clear hm
    go_enter Try.func12, Try.ntmps12
    go_wp2_with fail
    refine M.out.mono ?_
    rintro e w1 ⟨rfl, rfl⟩
    clear M
    go_wp2_with fail
    go_ret
    exact ⟨rfl, rfl⟩
  | true =>
    rw [hm] at M
    have M := hid M
    have HM := hid (raMay_iff.1 hm)
    simp only [Bool.true_and]
    clear hm
    go_enter Try.func12, Try.ntmps12
    go_wp2_with fail
    refine M.out.mono ?_
    rintro e w1 ⟨rfl, rfl⟩
    clear M
    go_wp2_with fail
    refine (near_any v t l _ HM.out.1 HM.out.2.1 HM.out.2.2).mono ?_
    rintro e w2 ⟨rfl, rfl⟩
    go_wp2_with fail
    go_ret
    exact ⟨rfl, rfl⟩

set_option maxHeartbeats 800000 in
theorem rrin_any (v t l : Int) (w : World) :
    Calls Try.prog 13 #[.int .i64 v, .int .i64 t, .int .i64 l] w fun e w' => e = .returned (.bool (raIn v t l)) ∧ w = w' := by
  have M := rrmay_any v t l w
  unfold raIn
  cases hm : raMay v t l with
  | false =>
    rw [hm] at M
    have M := hid M
    simp only [Bool.false_and]
    clear hm
    go_enter Try.func13, Try.ntmps13
    go_wp2_with fail
    refine M.out.mono ?_
    rintro e w1 ⟨rfl, rfl⟩
    clear M
    go_wp2_with fail
    go_ret
    exact ⟨rfl, rfl⟩
  | true =>
    rw [hm] at M
    have M := hid M
    obtain ⟨hv, ht, hl⟩ := raMay_iff.1 hm
    simp only [Bool.true_and]
    clear hm
    obtain ⟨A, hA⟩ : ∃ A, v * 1000 = A := ⟨_, rfl⟩
    obtain ⟨B, hB⟩ : ∃ B, 1000 - l = B := ⟨_, rfl⟩
    obtain ⟨D, hD⟩ : ∃ D, 1000 + l = D := ⟨_, rfl⟩
    have b1 := ra_low ht hl
    have b2 := ra_high ht hl
    unfold raNear
    rw [hA, hB, hD]
    rw [hB] at b1
    rw [hD] at b2
    obtain ⟨C, hC⟩ : ∃ C, t * B = C := ⟨_, rfl⟩
    obtain ⟨E, hE⟩ : ∃ E, t * D = E := ⟨_, rfl⟩
    rw [hC] at b1 ⊢
    rw [hE] at b2 ⊢
    have e1 : IntKind.i64.wrap (v * 1000) = A := by rw [hA]; exact IntWalk.i64_in _ (by omega)
    have e2 : IntKind.i64.wrap (1000 - l) = B := by rw [hB]; exact IntWalk.i64_in _ (by omega)
    have e3 : IntKind.i64.wrap (1000 + l) = D := by rw [hD]; exact IntWalk.i64_in _ (by omega)
    have e4 : IntKind.i64.wrap (t * B) = C := by rw [hC]; exact IntWalk.i64_in _ (by omega)
    have e5 : IntKind.i64.wrap (t * D) = E := by rw [hE]; exact IntWalk.i64_in _ (by omega)
    clear hA hB hD hC hE b1 b2
    clear hv ht hl
    cases d0 : decide (C ≤ A) with
    | false =>
      simp only [Bool.false_and]
      go_enter Try.func13, Try.ntmps13
      go_wp2_with fail
      refine M.out.mono ?_
      rintro e w1 ⟨rfl, rfl⟩
      clear M
      go_wp2_with fail
      go_ret
      exact ⟨rfl, rfl⟩
    | true =>
      cases d1 : decide (A ≤ E) with
      | false =>
        simp only [Bool.and_false]
        go_enter Try.func13, Try.ntmps13
        go_wp2_with fail
        refine M.out.mono ?_
        rintro e w1 ⟨rfl, rfl⟩
        clear M
        go_wp2_with fail
        go_ret
        exact ⟨rfl, rfl⟩
      | true =>
        simp only [Bool.and_true]
        go_enter Try.func13, Try.ntmps13
        go_wp2_with fail
        refine M.out.mono ?_
        rintro e w1 ⟨rfl, rfl⟩
        clear M
        go_wp2_with fail
        go_ret
        exact ⟨rfl, rfl⟩

set_option maxHeartbeats 800000 in
theorem wanted_any (c v t l : Int) (w : World) :
    Calls Try.prog 18 #[.int .i64 c, .int .i64 v, .int .i64 t, .int .i64 l] w fun e w' => e = .returned (.tuple #[.int .i64 (raWant c v t l), .bool (raOk c v t l)]) ∧ w = w' := by
  have M := rmay_any v t l w
  cases d0 : decide (c < 0) with
  | true =>
    have h0 : c < 0 := by simpa using d0
    have ho : raOk c v t l = false := by cases h : raOk c v t l with | false => rfl | true => have := (raOk_iff.1 h).1; omega
    rw [raWant_not ho, ho]
    clear M ho h0
    go_enter Try.func18, Try.ntmps18
    go_wp2_with fail
    go_ret2
    exact ⟨rfl, rfl⟩
  | false =>
  have h0 : ¬ c < 0 := by simpa using d0
  cases d1 : decide (10000 < c) with
  | true =>
    have h1 : 10000 < c := by simpa using d1
    have ho : raOk c v t l = false := by cases h : raOk c v t l with | false => rfl | true => have := (raOk_iff.1 h).1; omega
    rw [raWant_not ho, ho]
    clear M ho h0 h1
    go_enter Try.func18, Try.ntmps18
    go_wp2_with fail
    go_ret2
    exact ⟨rfl, rfl⟩
  | false =>
  have h1 : ¬ 10000 < c := by simpa using d1
  cases hm : raMay v t l with
  | false =>
    rw [hm] at M
    have M := hid M
    have ho : raOk c v t l = false := by unfold raOk; rw [hm, Bool.and_false]
    rw [raWant_not ho, ho]
    clear ho h0 h1 hm
    go_enter Try.func18, Try.ntmps18
    go_wp2_with fail
    refine M.out.mono ?_
    rintro e w1 ⟨rfl, rfl⟩
    clear M
    go_wp2_with fail
    go_ret2
    exact ⟨rfl, rfl⟩
  | true =>
  rw [hm] at M
  have M := hid M
  obtain ⟨hv, ht, hl⟩ := raMay_iff.1 hm
  have ho : raOk c v t l = true := raOk_iff.2 ⟨by omega, hv, ht, hl⟩
  have hin := raIn_near ho
  rw [ho]
  have N := fun w => near_any v t l w hv ht hl
  cases hn : raNear v t l with
  | true =>
    rw [hn] at N
    have N := hid N
    rw [raWant_in (by omega) (by rw [hin, hn])]
    clear ho h0 h1 hm hin hn hv ht hl
    go_enter Try.func18, Try.ntmps18
    go_wp2_with fail
    refine M.out.mono ?_
    rintro e w1 ⟨rfl, rfl⟩
    clear M
    go_wp2_with fail
    refine (N.out _).mono ?_
    rintro e w2 ⟨rfl, rfl⟩
    clear N
    go_wp2_with fail
    go_ret2
    exact ⟨rfl, rfl⟩
  | false =>
  rw [hn] at N
  have N := hid N
  rw [raWant_out ho (by rw [hin, hn])]
  have hb := ra_load (c := c) (v := v) (by omega) hv
  obtain ⟨X, hX⟩ : ∃ X, c * v = X := ⟨_, rfl⟩
  rw [hX] at hb ⊢
  have e1 : IntKind.i64.wrap (c * v) = X := by rw [hX]; exact IntWalk.i64_in _ (by omega)
  have S := hid (fun w => shares_any X t w hb ht)
  obtain ⟨Z, hZ⟩ : ∃ Z, raShares X t = Z := ⟨_, rfl⟩
  rw [hZ] at S ⊢
  obtain ⟨Y, hY⟩ : ∃ Y, min 1000000 Z = Y := ⟨_, rfl⟩
  rw [hY]
  have HY := hid hY; clear hY
  clear ho h0 h1 hm hin hn hv ht hl hX hb hZ
  go_enter Try.func18, Try.ntmps18
  go_wp2_with fail
  refine M.out.mono ?_
  rintro e w1 ⟨rfl, rfl⟩
  clear M
  go_wp2_with fail
  refine (N.out _).mono ?_
  rintro e w2 ⟨rfl, rfl⟩
  clear N
  go_wp2_with fail
  refine (S.out _).mono ?_
  rintro e w3 ⟨rfl, rfl⟩
  clear S
  go_wp2_with fail
  all_goals go_ret2
  all_goals refine ⟨?_, rfl⟩
  all_goals first | (obtain rfl : Y = Z := (by have := HY.out; omega); rfl) | (obtain rfl : Y = 1000000 := (by have := HY.out; omega); rfl)

set_option maxHeartbeats 800000 in
theorem rrwant_any (c v t l : Int) (w : World) :
    Calls Try.prog 15 #[.int .i64 c, .int .i64 v, .int .i64 t, .int .i64 l] w fun e w' => e = .returned (.int .i64 (raWant c v t l)) ∧ w = w' := by
  have M := rrmay_any v t l w
  cases d0 : decide (c < 0) with
  | true =>
    have h0 : c < 0 := by simpa using d0
    have ho : raOk c v t l = false := by cases h : raOk c v t l with | false => rfl | true => have := (raOk_iff.1 h).1; omega
    rw [raWant_not ho]
    clear M ho h0
    go_enter Try.func15, Try.ntmps15
    go_wp2_with fail
    go_ret
    exact ⟨rfl, rfl⟩
  | false =>
  have h0 : ¬ c < 0 := by simpa using d0
  cases d1 : decide (10000 < c) with
  | true =>
    have h1 : 10000 < c := by simpa using d1
    have ho : raOk c v t l = false := by cases h : raOk c v t l with | false => rfl | true => have := (raOk_iff.1 h).1; omega
    rw [raWant_not ho]
    clear M ho h0 h1
    go_enter Try.func15, Try.ntmps15
    go_wp2_with fail
    go_ret
    exact ⟨rfl, rfl⟩
  | false =>
  have h1 : ¬ 10000 < c := by simpa using d1
  cases hm : raMay v t l with
  | false =>
    rw [hm] at M
    have M := hid M
    have ho : raOk c v t l = false := by unfold raOk; rw [hm, Bool.and_false]
    rw [raWant_not ho]
    clear ho h0 h1 hm
    go_enter Try.func15, Try.ntmps15
    go_wp2_with fail
    refine M.out.mono ?_
    rintro e w1 ⟨rfl, rfl⟩
    clear M
    go_wp2_with fail
    go_ret
    exact ⟨rfl, rfl⟩
  | true =>
  rw [hm] at M
  have M := hid M
  obtain ⟨hv, ht, hl⟩ := raMay_iff.1 hm
  have ho : raOk c v t l = true := raOk_iff.2 ⟨by omega, hv, ht, hl⟩
  have hin := raIn_near ho

  have N := fun w => rrin_any v t l w
  cases hn : raNear v t l with
  | true =>
    rw [hin, hn] at N
    have N := hid N
    rw [raWant_in (by omega) (by rw [hin, hn])]
    clear ho h0 h1 hm hin hn hv ht hl
    go_enter Try.func15, Try.ntmps15
    go_wp2_with fail
    refine M.out.mono ?_
    rintro e w1 ⟨rfl, rfl⟩
    clear M
    go_wp2_with fail
    refine (N.out _).mono ?_
    rintro e w2 ⟨rfl, rfl⟩
    clear N
    go_wp2_with fail
    go_ret
    exact ⟨rfl, rfl⟩
  | false =>
  rw [hin, hn] at N
  have N := hid N
  rw [raWant_out ho (by rw [hin, hn])]
  have hb := ra_load (c := c) (v := v) (by omega) hv
  obtain ⟨X, hX⟩ : ∃ X, c * v = X := ⟨_, rfl⟩
  rw [hX] at hb ⊢
  have e1 : IntKind.i64.wrap (c * v) = X := by rw [hX]; exact IntWalk.i64_in _ (by omega)
  obtain ⟨hx, hxm⟩ := hb
  have hq := raShares_tdiv hx ht.1
  have hs := raShares_spec hx ht.1
  have hle : raShares X t ≤ X := raShares_least ht.1 (by have := Int.mul_le_mul_of_nonneg_left ht.1 hx; omega)
  obtain ⟨A, hA⟩ : ∃ A, X + t = A := ⟨_, rfl⟩
  obtain ⟨B, hB⟩ : ∃ B, A - 1 = B := ⟨_, rfl⟩
  obtain ⟨S, hS⟩ : ∃ S, raShares X t = S := ⟨_, rfl⟩
  rw [hA, hB, hS] at hq
  rw [hS] at hs hle ⊢
  obtain ⟨Y, hY⟩ : ∃ Y, min 1000000 S = Y := ⟨_, rfl⟩
  rw [hY]
  have HY := hid hY; clear hY
  have e2 : IntKind.i64.wrap (X + t) = A := by rw [hA]; exact IntWalk.i64_in _ (by omega)
  have e3 : IntKind.i64.wrap (A - 1) = B := by rw [hB]; exact IntWalk.i64_in _ (by omega)
  have e4 : IntKind.i64.wrap (B.tdiv t) = S := by rw [hq]; exact IntWalk.i64_in _ (by omega)
  have n0 : ¬ t = 0 := by omega
  have n1 : (1 : Int) ≤ t := ht.1
  clear hA hB hS hq hs hle hx hxm ho h0 h1 hm hin hn hv ht hl hX
  go_enter Try.func15, Try.ntmps15
  go_wp2_with fail
  refine M.out.mono ?_
  rintro e w1 ⟨rfl, rfl⟩
  clear M
  go_wp2_with fail
  refine (N.out _).mono ?_
  rintro e w2 ⟨rfl, rfl⟩
  clear N
  go_wp2_with fail
  all_goals go_ret
  all_goals refine ⟨?_, rfl⟩
  all_goals first | (obtain rfl : Y = S := (by have := HY.out; omega); rfl) | (obtain rfl : Y = 1000000 := (by have := HY.out; omega); rfl)

theorem rwant_any (c v t l : Int) (w : World) :
    Calls Try.prog 14 #[.int .i64 c, .int .i64 v, .int .i64 t, .int .i64 l] w fun e w' => e = .returned (.int .i64 (raWant c v t l)) ∧ w = w' := by
  have M := hid (wanted_any c v t l w)
  generalize raWant c v t l = x at *
  generalize raOk c v t l = b at *
  go_enter Try.func14, Try.ntmps14
  go_wp2_with fail
  refine M.out.mono ?_
  rintro e w1 ⟨rfl, rfl⟩
  clear M
  go_wp2_with fail
  go_ret
  exact ⟨rfl, rfl⟩

end Go.Proofs.Ytfobddicokogpaa
