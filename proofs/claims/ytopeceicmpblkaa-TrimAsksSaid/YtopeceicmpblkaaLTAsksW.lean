/-
  The walk of the statement TrimAsks: medians, means, spans, quorums, are what the document says. No condition.
-/
import Derived.Test.YtopeceicmpblkaaTTold
import Derived.Test.YtopeceicmpblkaaTr
import Derived.Test.YtopeceicmpblkaaKl
set_option linter.unusedSimpArgs false
set_option linter.unusedVariables false
namespace Go.Proofs.Ytopeceicmpblkaa
theorem wf_i64 {n : Int} (h : (Lit.int .i64 n).wf = true) : -9223372036854775808 ≤ n ∧ n ≤ 9223372036854775807 := by
  simpa [Lit.wf, IntKind.min, IntKind.max, IntKind.signed, IntKind.bits] using h
end Go.Proofs.Ytopeceicmpblkaa
namespace Go.Proofs.Ytopeceicmpblkaa.tasks
set_option maxRecDepth 100000
open Go.RowKit

section
variable {v : Value} {l : List Int} {w : World} {f x y : Int} {b : Bool}
theorem rmedian_as (h : IntsAt w v l) (hz : medOf l = (x, b)) : Calls Try.prog 10 #[v] w fun e w' => e = .returned (.tuple #[.int .i64 x, .bool b]) ∧ w.grownBy w' none := by
  have r := rmedian_any v l w h
  rw [hz] at r; exact r
theorem rmean_as (h : IntsAt w v l) (hf : -9223372036854775808 ≤ f ∧ f ≤ 9223372036854775807) (hz : meanL (midL l f) = (x, b)) : Calls Try.prog 12 #[v, .int .i64 f] w fun e w' => e = .returned (.tuple #[.int .i64 x, .bool b]) ∧ w.grownBy w' none := by
  have r := rmean_any v l f w h hf
  rw [hz] at r; exact r
theorem rspan_as (h : IntsAt w v l) (hf : -9223372036854775808 ≤ f ∧ f ≤ 9223372036854775807) (hz : spanL (midL l f) = (x, y, b)) : Calls Try.prog 14 #[v, .int .i64 f] w fun e w' => e = .returned (.tuple #[.int .i64 x, .int .i64 y, .bool b]) ∧ w.grownBy w' none := by
  have r := rspan_any v l f w h hf
  rw [hz] at r; exact r
end

set_option maxHeartbeats 1600000 in
theorem walk {w : World} (la : List Int) (pa : Option Addr) (ca : Nat) (ia : IntsAt w (.slice pa la.length ca) la) (fa : Fits la) (f : Int) (wf : (Lit.int .i64 f).wf = true) (n : Int) (wn : (Lit.int .i64 n).wf = true) (q : Int) (wq : (Lit.int .i64 q).wf = true) :
    Calls Try.prog 3 #[.slice pa la.length ca, .int .i64 f, .int .i64 n, .int .i64 q] w fun e w' => e = .returned (.bool true) ∧ w.grownBy w' none := by
  have la1 := ia.len
  have K0 := hid ((Kl.start w).add ia)
  have HF := hid (wf_i64 wf)
  obtain ⟨na, hna⟩ : ∃ n, la.length = n := ⟨_, rfl⟩
  rw [hna] at K0 la1 ⊢
  unfold maxLen at la1
  clear ia fa hna wf wn wq
  by_cases h1 : 40 < na
  · have d1 : decide (40 < (na : Int)) = true := by simp; omega
    go_enter Try.func3, Try.ntmps3
    go_wp2_with fail
    refine (ttold_any _).mono ?_
    rintro e w1 ⟨rfl, hg⟩
    have G1 := hid hg; clear hg
    go_wp2_with fail
    go_ret
    exact ⟨rfl, G1.out⟩
  have d1 : decide (40 < (na : Int)) = false := by simp; omega
  obtain ⟨⟨x1, b1⟩, hz1⟩ : ∃ z, medOf la = z := ⟨_, rfl⟩
  obtain ⟨⟨x2, b2⟩, hz2⟩ : ∃ z, meanL (midL la f) = z := ⟨_, rfl⟩
  obtain ⟨⟨x3, y3, b3⟩, hz3⟩ : ∃ z, spanL (midL la f) = z := ⟨_, rfl⟩
  have Z1 := hid hz1; have Z2 := hid hz2; have Z3 := hid hz3
  clear hz1 hz2 hz3 h1
  go_enter Try.func3, Try.ntmps3
  go_wp2_with fail
  refine (median_as K0.out.i0 Z1.out).mono ?_
  rintro e w1 ⟨rfl, hg⟩
  have K1 := hid (K0.out.grown hg); clear hg K0
  go_wp2_with fail
  refine (rmedian_as K1.out.i0 Z1.out).mono ?_
  rintro e w2 ⟨rfl, hg⟩
  have K2 := hid (K1.out.grown hg); clear hg K1
  go_wp2_with fail
  refine (mean_as K2.out.i0 HF.out Z2.out).mono ?_
  rintro e w3 ⟨rfl, hg⟩
  have K3 := hid (K2.out.grown hg); clear hg K2
  go_wp2_with fail
  refine (rmean_as K3.out.i0 HF.out Z2.out).mono ?_
  rintro e w4 ⟨rfl, hg⟩
  have K4 := hid (K3.out.grown hg); clear hg K3
  go_wp2_with fail
  refine (span_as K4.out.i0 HF.out Z3.out).mono ?_
  rintro e w5 ⟨rfl, hg⟩
  have K5 := hid (K4.out.grown hg); clear hg K4
  go_wp2_with fail
  refine (rspan_as K5.out.i0 HF.out Z3.out).mono ?_
  rintro e w6 ⟨rfl, hg⟩
  have K6 := hid (K5.out.grown hg); clear hg K5
  go_wp2_with fail
  refine (ttold_any _).mono ?_
  rintro e w7 ⟨rfl, hg⟩
  have K7 := hid (K6.out.grown hg); clear hg K6
  have e1 : (x1 == x1) = true := by simp
  have e2 : (x2 == x2) = true := by simp
  have e3 : (x3 == x3) = true := by simp
  have e4 : (y3 == y3) = true := by simp
  have e5 : (b1 == b1) = true := by simp
  have e6 : (b2 == b2) = true := by simp
  have e7 : (b3 == b3) = true := by simp
  by_cases hq : q ≤ n
  · have dq : decide (q ≤ n) = true := by simpa using hq
    by_cases hn : 0 < n
    · have dn : decide (0 < n) = true := by simpa using hn
      go_wp2_with fail
      refine (quorum_as (b := true) (by rw [dq, dn]; rfl)).mono ?_
      rintro e w8 ⟨rfl, hg⟩
      have K8 := hid (K7.out.grown hg); clear hg K7
      go_wp2_with fail
      go_ret
      exact ⟨rfl, K8.out.gr⟩
    · have dn : decide (0 < n) = false := by simpa using hn
      go_wp2_with fail
      refine (quorum_as (b := false) (by rw [dq, dn]; rfl)).mono ?_
      rintro e w8 ⟨rfl, hg⟩
      have K8 := hid (K7.out.grown hg); clear hg K7
      go_wp2_with fail
      go_ret
      exact ⟨rfl, K8.out.gr⟩
  · have dq : decide (q ≤ n) = false := by simpa using hq
    go_wp2_with fail
    refine (quorum_as (b := false) (by rw [dq]; rfl)).mono ?_
    rintro e w8 ⟨rfl, hg⟩
    have K8 := hid (K7.out.grown hg); clear hg K7
    go_wp2_with fail
    go_ret
    exact ⟨rfl, K8.out.gr⟩
end Go.Proofs.Ytopeceicmpblkaa.tasks
