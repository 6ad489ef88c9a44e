/-
  The walk of the statement RatioRises: more load, or more of what is there, never wants fewer. No condition.
-/
import Derived.Test.YtfobddicokogpaaRaV
import Derived.Test.YtfobddicokogpaaUmi
set_option linter.unusedSimpArgs false
set_option linter.unusedVariables false
namespace Go.Proofs.Ytfobddicokogpaa.rrises
set_option maxRecDepth 100000
open Go.RowKit

set_option maxHeartbeats 3200000 in
theorem walk {w : World} (a b v u t l : Int) :
    Calls Try.prog 4 #[.int .i64 a, .int .i64 b, .int .i64 v, .int .i64 u, .int .i64 t, .int .i64 l] w fun e w' => e = .returned (.bool true) ∧ w.grownBy w' none := by
  obtain ⟨x, x0, x1, mx⟩ := umod_int a 10001 (by omega)
  have mx : (IntKind.u64.wrap a).tmod 10001 = x := mx
  have cx : IntKind.i64.wrap x = x := IntWalk.i64_in _ (by omega)
  obtain ⟨y, y0, y1, my⟩ := umod_int b 10001 (by omega)
  have my : (IntKind.u64.wrap b).tmod 10001 = y := my
  have cy : IntKind.i64.wrap y = y := IntWalk.i64_in _ (by omega)
  obtain ⟨p, p0, p1, mp⟩ := umod_int v 1099511627777 (by omega)
  have mp : (IntKind.u64.wrap v).tmod 1099511627777 = p := mp
  have cp : IntKind.i64.wrap p = p := IntWalk.i64_in _ (by omega)
  obtain ⟨r, r0, r1, mr⟩ := umod_int u 1099511627777 (by omega)
  have mr : (IntKind.u64.wrap u).tmod 1099511627777 = r := mr
  have cr : IntKind.i64.wrap r = r := IntWalk.i64_in _ (by omega)
  obtain ⟨g, g0, g1, mg⟩ := umod_int t 1099511627776 (by omega)
  have mg : (IntKind.u64.wrap t).tmod 1099511627776 = g := mg
  have cg : IntKind.i64.wrap g = g := IntWalk.i64_in _ (by omega)
  obtain ⟨k, k0, k1, mk⟩ := umod_int l 1001 (by omega)
  have mk : (IntKind.u64.wrap l).tmod 1001 = k := mk
  have ck : IntKind.i64.wrap k = k := IntWalk.i64_in _ (by omega)
  obtain ⟨G, hG⟩ : ∃ G, 1 + g = G := ⟨_, rfl⟩
  have sG : IntKind.i64.wrap (1 + g) = G := by rw [hG]; exact IntWalk.i64_in _ (by omega)
  have RI := hid (fun (x y p r : Int) (h1 : 0 ≤ x) (h2 : x ≤ y) (h3 : y ≤ 10000) (h4 : 0 ≤ p) (h5 : p ≤ r) (h6 : r ≤ 1099511627776) => raWant_rises (t := G) (l := k) h1 h2 h3 h4 h5 h6 (by omega) (by omega))
  by_cases h1 : y < x
  · have d1 : decide (y < x) = true := by simpa using h1
    by_cases h2 : r < p
    · have d2 : decide (r < p) = true := by simpa using h2
      have dd : decide (raWant y r G k ≤ raWant x p G k) = true := decide_eq_true (RI.out _ _ _ _ (by omega) (by omega) (by omega) (by omega) (by omega) (by omega))
      have W1 := hid (fun w => rwant_any y r G k w)
      have W2 := hid (fun w => rwant_any x p G k w)
      generalize raWant y r G k = z1 at *
      generalize raWant x p G k = z2 at *
      clear x0 x1 y0 y1 p0 p1 r0 r1 g0 g1 k0 k1 hG RI h1 h2
      go_enter Try.func4, Try.ntmps4
      go_wp2_with fail
      refine (told_any _).mono ?_
      rintro e w1 ⟨rfl, hg⟩
      have G1 := hid hg; clear hg
      go_wp2_with fail
      refine (W1.out _).mono ?_
      rintro e w9 ⟨rfl, rfl⟩
      go_wp2_with fail
      refine (W2.out _).mono ?_
      rintro e w9 ⟨rfl, rfl⟩
      go_wp2_with fail
      go_ret
      exact ⟨rfl, G1.out⟩
    · have d2 : decide (r < p) = false := by simpa using h2
      have dd : decide (raWant y p G k ≤ raWant x r G k) = true := decide_eq_true (RI.out _ _ _ _ (by omega) (by omega) (by omega) (by omega) (by omega) (by omega))
      have W1 := hid (fun w => rwant_any y p G k w)
      have W2 := hid (fun w => rwant_any x r G k w)
      generalize raWant y p G k = z1 at *
      generalize raWant x r G k = z2 at *
      clear x0 x1 y0 y1 p0 p1 r0 r1 g0 g1 k0 k1 hG RI h1 h2
      go_enter Try.func4, Try.ntmps4
      go_wp2_with fail
      refine (told_any _).mono ?_
      rintro e w1 ⟨rfl, hg⟩
      have G1 := hid hg; clear hg
      go_wp2_with fail
      refine (W1.out _).mono ?_
      rintro e w9 ⟨rfl, rfl⟩
      go_wp2_with fail
      refine (W2.out _).mono ?_
      rintro e w9 ⟨rfl, rfl⟩
      go_wp2_with fail
      go_ret
      exact ⟨rfl, G1.out⟩
  · have d1 : decide (y < x) = false := by simpa using h1
    by_cases h2 : r < p
    · have d2 : decide (r < p) = true := by simpa using h2
      have dd : decide (raWant x r G k ≤ raWant y p G k) = true := decide_eq_true (RI.out _ _ _ _ (by omega) (by omega) (by omega) (by omega) (by omega) (by omega))
      have W1 := hid (fun w => rwant_any x r G k w)
      have W2 := hid (fun w => rwant_any y p G k w)
      generalize raWant x r G k = z1 at *
      generalize raWant y p G k = z2 at *
      clear x0 x1 y0 y1 p0 p1 r0 r1 g0 g1 k0 k1 hG RI h1 h2
      go_enter Try.func4, Try.ntmps4
      go_wp2_with fail
      refine (told_any _).mono ?_
      rintro e w1 ⟨rfl, hg⟩
      have G1 := hid hg; clear hg
      go_wp2_with fail
      refine (W1.out _).mono ?_
      rintro e w9 ⟨rfl, rfl⟩
      go_wp2_with fail
      refine (W2.out _).mono ?_
      rintro e w9 ⟨rfl, rfl⟩
      go_wp2_with fail
      go_ret
      exact ⟨rfl, G1.out⟩
    · have d2 : decide (r < p) = false := by simpa using h2
      have dd : decide (raWant x p G k ≤ raWant y r G k) = true := decide_eq_true (RI.out _ _ _ _ (by omega) (by omega) (by omega) (by omega) (by omega) (by omega))
      have W1 := hid (fun w => rwant_any x p G k w)
      have W2 := hid (fun w => rwant_any y r G k w)
      generalize raWant x p G k = z1 at *
      generalize raWant y r G k = z2 at *
      clear x0 x1 y0 y1 p0 p1 r0 r1 g0 g1 k0 k1 hG RI h1 h2
      go_enter Try.func4, Try.ntmps4
      go_wp2_with fail
      refine (told_any _).mono ?_
      rintro e w1 ⟨rfl, hg⟩
      have G1 := hid hg; clear hg
      go_wp2_with fail
      refine (W1.out _).mono ?_
      rintro e w9 ⟨rfl, rfl⟩
      go_wp2_with fail
      refine (W2.out _).mono ?_
      rintro e w9 ⟨rfl, rfl⟩
      go_wp2_with fail
      go_ret
      exact ⟨rfl, G1.out⟩
end Go.Proofs.Ytfobddicokogpaa.rrises
