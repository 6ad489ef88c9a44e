/-
  The walk of the statement RatioCeil: what is wanted beyond the band is the least count of which the load for each is not above the target. No condition.
-/
import Derived.Test.YtfobddicokogpaaRaV
import Derived.Test.YtfobddicokogpaaUmi
set_option linter.unusedSimpArgs false
set_option linter.unusedVariables false
namespace Go.Proofs.Ytfobddicokogpaa.rceil
set_option maxRecDepth 100000
open Go.RowKit

set_option maxHeartbeats 3200000 in
theorem walk {w : World} (c v t : Int) :
    Calls Try.prog 7 #[.int .i64 c, .int .i64 v, .int .i64 t] w fun e w' => e = .returned (.bool true) ∧ w.grownBy w' none := by
  obtain ⟨n, n0, n1, mn⟩ := umod_int c 1001 (by omega)
  have mn : (IntKind.u64.wrap c).tmod 1001 = n := mn
  have cn : IntKind.i64.wrap n = n := IntWalk.i64_in _ (by omega)
  obtain ⟨x, x0, x1, mx⟩ := umod_int v 100001 (by omega)
  have mx : (IntKind.u64.wrap v).tmod 100001 = x := mx
  have cx : IntKind.i64.wrap x = x := IntWalk.i64_in _ (by omega)
  obtain ⟨g, g0, g1, mg⟩ := umod_int t 100000 (by omega)
  have mg : (IntKind.u64.wrap t).tmod 100000 = g := mg
  have cg : IntKind.i64.wrap g = g := IntWalk.i64_in _ (by omega)
  obtain ⟨G, hG⟩ : ∃ G, 1 + g = G := ⟨_, rfl⟩
  have sG : IntKind.i64.wrap (1 + g) = G := by rw [hG]; exact IntWalk.i64_in _ (by omega)
  have ho : raOk n x G 50 = true := raOk_iff.2 ⟨by omega, by omega, by omega, by omega⟩
  have I1 := fun w => rin_any x G 50 w
  have W1 := fun w => rwant_any n x G 50 w
  cases hi : raIn x G 50 with
  | true =>
    rw [raWant_in (by omega) hi] at W1
    rw [hi] at I1
    have W1 := hid W1; have I1 := hid I1
    have e1 : (n == n) = true := by simp
    clear hi ho n0 n1 x0 x1 g0 g1 hG
    go_enter Try.func7, Try.ntmps7
    go_wp2_with fail
    refine (I1.out _).mono ?_
    rintro e w9 ⟨rfl, rfl⟩
    go_wp2_with fail
    refine (told_any _).mono ?_
    rintro e w1 ⟨rfl, hg⟩
    have G1 := hid hg; clear hg
    go_wp2_with fail
    refine (W1.out _).mono ?_
    rintro e w9 ⟨rfl, rfl⟩
    go_wp2_with fail
    go_ret
    exact ⟨rfl, G1.out⟩
  | false =>
  rw [raWant_out ho hi] at W1
  rw [hi] at I1
  have hl := mul_le' (a := n) (b := x) (x := 1000) (y := 100000) n0 (by omega) x0 (by omega)
  obtain ⟨X, hX⟩ : ∃ X, n * x = X := ⟨_, rfl⟩
  rw [hX] at hl W1
  have sp := raShares_spec (x := X) (t := G) hl.1 (by omega)
  generalize raShares X G = Z at *
  obtain ⟨Y, hY⟩ : ∃ Y, min 1000000 Z = Y := ⟨_, rfl⟩
  rw [hY] at W1
  have W1 := hid W1; have I1 := hid I1
  have hlw := mul_le' (a := Y) (b := G) (x := 1000000) (y := 100000) (by omega) (by omega) (by omega) (by omega)
  have cY : IntKind.i64.wrap Y = Y := IntWalk.i64_in _ (by omega)
  have e1 : IntKind.i64.wrap (n * x) = X := by rw [hX]; exact IntWalk.i64_in _ (by omega)
  obtain ⟨T, hT⟩ : ∃ T, 999999 * G = T := ⟨_, rfl⟩
  have e2 : IntKind.i64.wrap (999999 * G) = T := by rw [hT]; exact IntWalk.i64_in _ (by omega)
  obtain ⟨V, hV⟩ : ∃ V, Y * G = V := ⟨_, rfl⟩
  have e3 : IntKind.i64.wrap (Y * G) = V := by rw [hV]; exact IntWalk.i64_in _ (by omega)
  obtain ⟨P, hP⟩ : ∃ P, Y - 1 = P := ⟨_, rfl⟩
  have e4 : IntKind.i64.wrap (Y - 1) = P := by rw [hP]; exact IntWalk.i64_in _ (by omega)
  obtain ⟨R, hR⟩ : ∃ R, P * G = R := ⟨_, rfl⟩
  have hRV : R = V - G := by rw [← hR, ← hP, ← hV, Int.sub_mul]; omega
  have e5 : IntKind.i64.wrap (P * G) = R := by rw [hR]; exact IntWalk.i64_in _ (by omega)
  by_cases hm : Y = 1000000
  · have d1 : (Y == 1000000) = true := by simpa using hm
    have d2 : decide (T < X) = true := by
      simp
      have h1 := sp.2.2 (by omega)
      have h2 : 999999 * G ≤ (Z - 1) * G := Int.mul_le_mul_of_nonneg_right (by omega) (by omega)
      omega
    clear hm hi ho n0 n1 x0 x1 g0 g1 hG hl sp hY hlw hX hT hV hP hR hRV
    go_enter Try.func7, Try.ntmps7
    go_wp2_with fail
    refine (I1.out _).mono ?_
    rintro e w9 ⟨rfl, rfl⟩
    go_wp2_with fail
    refine (W1.out _).mono ?_
    rintro e w9 ⟨rfl, rfl⟩
    go_wp2_with fail
    refine (told_any _).mono ?_
    rintro e w1 ⟨rfl, hg⟩
    have G1 := hid hg; clear hg
    go_wp2_with fail
    go_ret
    exact ⟨rfl, G1.out⟩
  · have d1 : (Y == 1000000) = false := by simpa using hm
    have hYZ : Y = Z := by omega
    subst hYZ
    have d2 : decide (X ≤ V) = true := by simp; omega
    by_cases h0 : Y = 0
    · have d3 : (Y == 0) = true := by simpa using h0
      clear hm hi ho n0 n1 x0 x1 g0 g1 hG hl sp hY hlw hX hT hV hP hR hRV h0
      go_enter Try.func7, Try.ntmps7
      go_wp2_with fail
      refine (I1.out _).mono ?_
      rintro e w9 ⟨rfl, rfl⟩
      go_wp2_with fail
      refine (W1.out _).mono ?_
      rintro e w9 ⟨rfl, rfl⟩
      go_wp2_with fail
      refine (told_any _).mono ?_
      rintro e w1 ⟨rfl, hg⟩
      have G1 := hid hg; clear hg
      go_wp2_with fail
      go_ret
      exact ⟨rfl, G1.out⟩
    · have d3 : (Y == 0) = false := by simpa using h0
      have d4 : decide (R < X) = true := by
        simp
        have h1 := sp.2.2 (by omega)
        rw [Int.sub_mul] at h1
        omega
      clear hm hi ho n0 n1 x0 x1 g0 g1 hG hl sp hY hlw hX hT hV hP hR hRV h0
      go_enter Try.func7, Try.ntmps7
      go_wp2_with fail
      refine (I1.out _).mono ?_
      rintro e w9 ⟨rfl, rfl⟩
      go_wp2_with fail
      refine (W1.out _).mono ?_
      rintro e w9 ⟨rfl, rfl⟩
      go_wp2_with fail
      refine (told_any _).mono ?_
      rintro e w1 ⟨rfl, hg⟩
      have G1 := hid hg; clear hg
      go_wp2_with fail
      go_ret
      exact ⟨rfl, G1.out⟩
end Go.Proofs.Ytfobddicokogpaa.rceil
