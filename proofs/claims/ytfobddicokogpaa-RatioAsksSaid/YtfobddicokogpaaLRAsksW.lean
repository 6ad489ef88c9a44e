/-
  The walk of the statement RatioAsks: bands, wants, the greatest of several, are what the document says. No condition.
-/
import Derived.Test.YtfobddicokogpaaRaV
import Derived.Test.YtfobddicokogpaaRaN
set_option linter.unusedSimpArgs false
set_option linter.unusedVariables false
namespace Go.Proofs.Ytfobddicokogpaa.rasks
set_option maxRecDepth 100000
open Go.RowKit

theorem rmost_as {v u : Value} {vs ts : List Int} {w : World} {c l z : Int} {b : Bool} (h : IntsAt w v vs) (h2 : IntsAt w u ts) (hz : raMost c vs ts l = (z, b)) : Calls Try.prog 11 #[.int .i64 c, v, u, .int .i64 l] w fun e w' => e = .returned (.tuple #[.int .i64 z, .bool b]) ∧ w.grownBy w' none := by
  have r := rrmost_any c l v u vs ts w h h2
  rw [hz] at r; exact r

set_option maxHeartbeats 3200000 in
theorem walk {w : World} (c v t l : Int) (la : List Int) (pa : Option Addr) (ca : Nat) (ia : IntsAt w (.slice pa la.length ca) la) (lb : List Int) (pb : Option Addr) (cb : Nat) (ib : IntsAt w (.slice pb lb.length cb) lb) :
    Calls Try.prog 3 #[.int .i64 c, .int .i64 v, .int .i64 t, .int .i64 l, .slice pa la.length ca, .slice pb lb.length cb] w fun e w' => e = .returned (.bool true) ∧ w.grownBy w' none := by
  have K0 := hid (((Kl.start w).add ib).add ia)
  obtain ⟨⟨z, bb⟩, hR⟩ : ∃ R, raMost c la lb l = R := ⟨_, rfl⟩
  have HR := hid hR
  obtain ⟨na, hna⟩ : ∃ n, la.length = n := ⟨_, rfl⟩
  obtain ⟨nb, hnb⟩ : ∃ n, lb.length = n := ⟨_, rfl⟩
  rw [hna, hnb] at K0 ⊢
  clear hna hnb hR ia ib
  by_cases h1 : 6 < na
  · have d1 : decide (6 < (na : Int)) = true := by simp; omega
    go_enter Try.func3, Try.ntmps3
    go_wp2_with fail
    refine (told_any _).mono ?_
    rintro e w1 ⟨rfl, hg⟩
    have G1 := hid hg; clear hg
    go_wp2_with fail
    go_ret
    exact ⟨rfl, G1.out⟩
  have d1 : decide (6 < (na : Int)) = false := by simp; omega
  by_cases h2 : 6 < nb
  · have d2 : decide (6 < (nb : Int)) = true := by simp; omega
    go_enter Try.func3, Try.ntmps3
    go_wp2_with fail
    refine (told_any _).mono ?_
    rintro e w1 ⟨rfl, hg⟩
    have G1 := hid hg; clear hg
    go_wp2_with fail
    go_ret
    exact ⟨rfl, G1.out⟩
  have d2 : decide (6 < (nb : Int)) = false := by simp; omega
  have I1 := hid (fun w => rin_any v t l w)
  have I2 := hid (fun w => rrin_any v t l w)
  have W1 := hid (fun w => rwant_any c v t l w)
  have W2 := hid (fun w => rrwant_any c v t l w)
  generalize raIn v t l = b1 at *
  generalize raWant c v t l = z1 at *
  have e1 : (z == z) = true := by simp
  have e2 : (bb == bb) = true := by simp
  have e3 : (b1 == b1) = true := by simp
  have e4 : (z1 == z1) = true := by simp
  clear h1 h2
  go_enter Try.func3, Try.ntmps3
  go_wp2_with fail
  refine (most_as K0.out.i0 K0.out.i1 HR.out).mono ?_
  rintro e w1 ⟨rfl, hg⟩
  have K1 := hid (K0.out.grown hg); clear hg K0
  go_wp2_with fail
  refine (rmost_as K1.out.i0 K1.out.i1 HR.out).mono ?_
  rintro e w2 ⟨rfl, hg⟩
  have K2 := hid (K1.out.grown hg); clear hg K1
  go_wp2_with fail
  refine (told_any _).mono ?_
  rintro e w3 ⟨rfl, hg⟩
  have K3 := hid (K2.out.grown hg); clear hg K2
  go_wp2_with fail
  refine (I1.out _).mono ?_
  rintro e w9 ⟨rfl, rfl⟩
  go_wp2_with fail
  refine (I2.out _).mono ?_
  rintro e w9 ⟨rfl, rfl⟩
  go_wp2_with fail
  refine (W1.out _).mono ?_
  rintro e w9 ⟨rfl, rfl⟩
  go_wp2_with fail
  refine (W2.out _).mono ?_
  rintro e w9 ⟨rfl, rfl⟩
  go_wp2_with fail
  go_ret
  exact ⟨rfl, K3.out.gr⟩
end Go.Proofs.Ytfobddicokogpaa.rasks
