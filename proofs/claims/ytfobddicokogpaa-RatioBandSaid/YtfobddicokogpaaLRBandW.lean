/-
  The walk of the statement RatioBand: within the band nothing is wanted but what is there; above it at least that, below at most that. No condition.
-/
import Derived.Test.YtfobddicokogpaaRaV
import Derived.Test.YtfobddicokogpaaUmi
set_option linter.unusedSimpArgs false
set_option linter.unusedVariables false
namespace Go.Proofs.Ytfobddicokogpaa.rband
set_option maxRecDepth 100000
open Go.RowKit

set_option maxHeartbeats 3200000 in
theorem walk {w : World} (c v t l : Int) :
    Calls Try.prog 5 #[.int .i64 c, .int .i64 v, .int .i64 t, .int .i64 l] w fun e w' => e = .returned (.bool true) ∧ w.grownBy w' none := by
  obtain ⟨n, n0, n1, mn⟩ := umod_int c 10001 (by omega)
  have mn : (IntKind.u64.wrap c).tmod 10001 = n := mn
  have cn : IntKind.i64.wrap n = n := IntWalk.i64_in _ (by omega)
  obtain ⟨x, x0, x1, mx⟩ := umod_int v 1099511627777 (by omega)
  have mx : (IntKind.u64.wrap v).tmod 1099511627777 = x := mx
  have cx : IntKind.i64.wrap x = x := IntWalk.i64_in _ (by omega)
  obtain ⟨g, g0, g1, mg⟩ := umod_int t 1099511627776 (by omega)
  have mg : (IntKind.u64.wrap t).tmod 1099511627776 = g := mg
  have cg : IntKind.i64.wrap g = g := IntWalk.i64_in _ (by omega)
  obtain ⟨k, k0, k1, mk⟩ := umod_int l 1001 (by omega)
  have mk : (IntKind.u64.wrap l).tmod 1001 = k := mk
  have ck : IntKind.i64.wrap k = k := IntWalk.i64_in _ (by omega)
  obtain ⟨G, hG⟩ : ∃ G, 1 + g = G := ⟨_, rfl⟩
  have sG : IntKind.i64.wrap (1 + g) = G := by rw [hG]; exact IntWalk.i64_in _ (by omega)
  have hg : 1 ≤ G ∧ G ≤ 1099511627776 := by omega
  have hk : 0 ≤ k ∧ k ≤ 1000 := by omega
  have ho : raOk n x G k = true := raOk_iff.2 ⟨by omega, by omega, hg, hk⟩
  have W1 := fun w => rwant_any n x G k w
  have I1 := fun w => rin_any x G k w
  cases hi : raIn x G k with
  | true =>
    rw [raWant_in (by omega) hi] at W1
    rw [hi] at I1
    have I2 := fun w => rin_any G G k w
    rw [show raIn G G k = true by unfold raIn; rw [raMay_iff.2 ⟨by omega, hg, hk⟩, raNear_self hg.1 hk.1]; rfl] at I2
    have W1 := hid W1; have I1 := hid I1; have I2 := hid I2
    have e1 : (n == n) = true := by simp
    clear hi ho hg hk n0 n1 x0 x1 g0 g1 k0 k1 hG
    go_enter Try.func5, Try.ntmps5
    go_wp2_with fail
    refine (W1.out _).mono ?_
    rintro e w9 ⟨rfl, rfl⟩
    go_wp2_with fail
    refine (I1.out _).mono ?_
    rintro e w9 ⟨rfl, rfl⟩
    go_wp2_with fail
    refine (told_any _).mono ?_
    rintro e w1 ⟨rfl, hg⟩
    have G1 := hid hg; clear hg
    go_wp2_with fail
    refine (I2.out _).mono ?_
    rintro e w9 ⟨rfl, rfl⟩
    go_wp2_with fail
    go_ret
    exact ⟨rfl, G1.out⟩
  | false =>
  rw [raWant_out ho hi] at W1
  rw [hi] at I1
  have hnear := (raIn_near ho).symm.trans hi
  have hside := ra_side hnear
  have b1 := ra_low hg hk
  have b2 := ra_high hg hk
  have sp := (raShares_spec (x := n * x) (t := G) (ra_load (by omega) (by omega)).1 hg.1).1
  have po := raShares_pos (x := n * x) (t := G) (ra_load (by omega) (by omega)).1 hg.1
  obtain ⟨A, hA⟩ : ∃ A, x * 1000 = A := ⟨_, rfl⟩
  obtain ⟨B, hB⟩ : ∃ B, 1000 - k = B := ⟨_, rfl⟩
  obtain ⟨D, hD⟩ : ∃ D, 1000 + k = D := ⟨_, rfl⟩
  have e1 : IntKind.i64.wrap (x * 1000) = A := by rw [hA]; exact IntWalk.i64_in _ (by omega)
  have e2 : IntKind.i64.wrap (1000 - k) = B := by rw [hB]; exact IntWalk.i64_in _ (by omega)
  have e3 : IntKind.i64.wrap (1000 + k) = D := by rw [hD]; exact IntWalk.i64_in _ (by omega)
  have lo := fun h => ra_low_le (v := x) (t := G) (l := k) hg.1 hk.1 h
  have hi2 := fun h => ra_high_ge (v := x) (t := G) (l := k) hg.1 hk.1 h
  rw [hB, hA] at lo
  rw [hD, hA] at hi2
  rw [hA, hB, hD] at hside
  rw [hB] at b1
  rw [hD] at b2
  obtain ⟨C, hC⟩ : ∃ C, G * B = C := ⟨_, rfl⟩
  obtain ⟨E, hE⟩ : ∃ E, G * D = E := ⟨_, rfl⟩
  rw [hC] at b1 lo
  rw [hE] at b2 hi2
  rw [hC, hE] at hside
  have e4 : IntKind.i64.wrap (G * B) = C := by rw [hC]; exact IntWalk.i64_in _ (by omega)
  have e5 : IntKind.i64.wrap (G * D) = E := by rw [hE]; exact IntWalk.i64_in _ (by omega)
  have ab := fun h => ra_above (c := n) (v := x) (t := G) (by omega) hg.1 h
  have be := fun h => ra_below (c := n) (v := x) (t := G) (by omega) hg.1 h
  generalize raShares (n * x) G = Z at *
  obtain ⟨Y, hY⟩ : ∃ Y, min 1000000 Z = Y := ⟨_, rfl⟩
  rw [hY] at W1
  have W1 := hid W1; have I1 := hid I1
  have HX := hid (show 0 < n * x ↔ (0 < n ∧ 0 < x) from ⟨fun h => by
    rcases Int.lt_or_le 0 n with h1 | h1
    · rcases Int.lt_or_le 0 x with h2 | h2
      · exact ⟨h1, h2⟩
      · rw [show x = 0 by omega] at h; simp at h
    · rw [show n = 0 by omega] at h; simp at h, fun h => Int.mul_pos h.1 h.2⟩)
  have PO := hid (po.trans HX.out)
  clear hi ho hnear po HX
  by_cases hgx : G < x
  · have d1 : decide (G < x) = true := by simpa using hgx
    have d2 : decide (n ≤ Y) = true := by simp; have := ab (by omega); omega
    have d3 : decide (E < A) = true := by
      simp
      rcases hside with h | h
      · have := lo h; omega
      · exact h
    clear hg hk n0 n1 x0 x1 g0 g1 k0 k1 hG hside b1 b2 sp lo hi2 ab be hA hB hD hC hE PO hY hgx
    go_enter Try.func5, Try.ntmps5
    go_wp2_with fail
    refine (W1.out _).mono ?_
    rintro e w9 ⟨rfl, rfl⟩
    go_wp2_with fail
    refine (I1.out _).mono ?_
    rintro e w9 ⟨rfl, rfl⟩
    go_wp2_with fail
    refine (told_any _).mono ?_
    rintro e w1 ⟨rfl, hg⟩
    have G1 := hid hg; clear hg
    go_wp2_with fail
    go_ret
    exact ⟨rfl, G1.out⟩
  · have d1 : decide (G < x) = false := by simpa using hgx
    have d2 : decide (Y ≤ n) = true := by simp; have := be (by omega); omega
    have d3 : decide (A < C) = true := by
      simp
      rcases hside with h | h
      · exact h
      · have := hi2 h; omega
    by_cases hn : 0 < n
    · have d4 : decide (0 < n) = true := by simpa using hn
      by_cases hx : 0 < x
      · have d5 : decide (0 < x) = true := by simpa using hx
        have d6 : decide (0 < Y) = true := by simp; have := PO.out.2 ⟨hn, hx⟩; omega
        clear hg hk n0 n1 x0 x1 g0 g1 k0 k1 hG hside b1 b2 sp lo hi2 ab be hA hB hD hC hE PO hY hgx hn hx
        go_enter Try.func5, Try.ntmps5
        go_wp2_with fail
        refine (W1.out _).mono ?_
        rintro e w9 ⟨rfl, rfl⟩
        go_wp2_with fail
        refine (I1.out _).mono ?_
        rintro e w9 ⟨rfl, rfl⟩
        go_wp2_with fail
        refine (told_any _).mono ?_
        rintro e w1 ⟨rfl, hg⟩
        have G1 := hid hg; clear hg
        go_wp2_with fail
        go_ret
        exact ⟨rfl, G1.out⟩
      · have d5 : decide (0 < x) = false := by simpa using hx
        have d6 : decide (0 < Y) = false := by
          simp
          rcases Int.lt_or_le 0 Z with h | h
          · exact absurd (PO.out.1 h).2 hx
          · omega
        clear hg hk n0 n1 x0 x1 g0 g1 k0 k1 hG hside b1 b2 sp lo hi2 ab be hA hB hD hC hE PO hY hgx hn hx
        go_enter Try.func5, Try.ntmps5
        go_wp2_with fail
        refine (W1.out _).mono ?_
        rintro e w9 ⟨rfl, rfl⟩
        go_wp2_with fail
        refine (I1.out _).mono ?_
        rintro e w9 ⟨rfl, rfl⟩
        go_wp2_with fail
        refine (told_any _).mono ?_
        rintro e w1 ⟨rfl, hg⟩
        have G1 := hid hg; clear hg
        go_wp2_with fail
        go_ret
        exact ⟨rfl, G1.out⟩
    · have d4 : decide (0 < n) = false := by simpa using hn
      have d6 : decide (0 < Y) = false := by
        simp
        rcases Int.lt_or_le 0 Z with h | h
        · exact absurd (PO.out.1 h).1 hn
        · omega
      clear hg hk n0 n1 x0 x1 g0 g1 k0 k1 hG hside b1 b2 sp lo hi2 ab be hA hB hD hC hE PO hY hgx hn
      go_enter Try.func5, Try.ntmps5
      go_wp2_with fail
      refine (W1.out _).mono ?_
      rintro e w9 ⟨rfl, rfl⟩
      go_wp2_with fail
      refine (I1.out _).mono ?_
      rintro e w9 ⟨rfl, rfl⟩
      go_wp2_with fail
      refine (told_any _).mono ?_
      rintro e w1 ⟨rfl, hg⟩
      have G1 := hid hg; clear hg
      go_wp2_with fail
      go_ret
      exact ⟨rfl, G1.out⟩
end Go.Proofs.Ytfobddicokogpaa.rband
