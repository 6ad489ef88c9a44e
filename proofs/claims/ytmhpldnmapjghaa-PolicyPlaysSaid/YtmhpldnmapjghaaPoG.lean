/-
  What the laws of policy have in common: a made configuration's rates may be; a number that is made one within its ends. No condition.
-/
import Derived.Test.YtmhpldnmapjghaaPoF
import Derived.Test.YtmhpldnmapjghaaCfFit
import Derived.Test.YtmhpldnmapjghaaUmi
set_option linter.unusedSimpArgs false
set_option linter.unusedVariables false
namespace Go.Proofs.Ytmhpldnmapjghaa
set_option maxRecDepth 100000
open Go.RowKit

theorem fine_ok {c : Conf} (h : Fine c) : (rt c).Ok := by
  have a1 := h.podsup; have a2 := h.pctup; have a3 := h.podsdown; have a4 := h.pctdown; have a5 := h.period; have a6 := h.min; have a7 := h.max
  exact ⟨by show 1 ≤ c.podsup ∧ c.podsup ≤ 1000; omega, by show 1 ≤ c.pctup ∧ c.pctup ≤ 1000; omega, by show 1 ≤ c.podsdown ∧ c.podsdown ≤ 1000; omega, by show 1 ≤ c.pctdown ∧ c.pctdown ≤ 100; omega, by show 1 ≤ c.period ∧ c.period ≤ 60; omega, by show 1 ≤ c.min ∧ c.min ≤ 10000; omega, by show c.min ≤ c.max ∧ c.max ≤ 10000; omega⟩
theorem fine_may {c : Conf} (h : Fine c) : (rt c).may = true := Rt.may_iff.2 (fine_ok h)
theorem in_of {r : Rt} {x : Int} (h1 : r.mn ≤ x) (h2 : x ≤ r.mx) : inR r x = true := by
  unfold inR; rw [decide_eq_true h1, decide_eq_true h2]; rfl
theorem in_le {r : Rt} {x : Int} (h : inR r x = true) : r.mn ≤ x ∧ x ≤ r.mx := by
  unfold inR at h
  simpa using h
/-- what 'c.Min + int(uint(x) % uint(c.Max - c.Min + 1))' is reckoned from -/
theorem draw_in {c : Conf} (h : Fine c) : ∃ (d0 : Int) (D : Nat), IntKind.i64.wrap (c.max - c.min) = d0 ∧ IntKind.i64.wrap (d0 + 1) = (D : Int) ∧ IntKind.u64.wrap (D : Int) = (D : Int) ∧ ¬ (D : Int) = 0 ∧
    ∀ x : Int, ∃ z f : Int, (IntKind.u64.wrap x).tmod (D : Int) = z ∧ IntKind.u64.wrap z = z ∧ IntKind.i64.wrap z = z ∧ IntKind.i64.wrap (c.min + z) = f ∧ c.min ≤ f ∧ f ≤ c.max := by
  have a6 := h.min; have a7 := h.max
  obtain ⟨D, hD⟩ : ∃ D : Nat, c.max - c.min + 1 = (D : Int) := ⟨(c.max - c.min + 1).toNat, by omega⟩
  refine ⟨c.max - c.min, D, IntWalk.i64_in _ (by omega), ?_, IntWalk.u64_in _ (by omega), by omega, fun x => ?_⟩
  · rw [hD]; exact IntWalk.i64_in _ (by omega)
  · obtain ⟨z, z0, z1, hz⟩ := umod_int x D (by omega)
    exact ⟨z, c.min + z, hz, IntWalk.u64_in _ (by omega), IntWalk.i64_in _ (by omega), IntWalk.i64_in _ (by omega), by omega, by omega⟩
theorem bounds_in {r : Rt} (h : r.Ok) {x : Int} (h1 : 0 ≤ x) (h2 : x ≤ 10000) : r.bounds x = (r.lo x, r.hi x) := if_pos ⟨Rt.may_iff.2 h, h1, h2⟩
end Go.Proofs.Ytmhpldnmapjghaa
