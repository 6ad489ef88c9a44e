/-
  A number that came in, taken as one without a sign, divided by a small one, and that modulo a small one. No condition. Nothing of the program is named here.
-/
import Derived.Test.YtnpaecbdejemnaaUmi
namespace Go.Proofs.Ytnpaecbdejemnaa
set_option maxRecDepth 100000
open Go.RowKit
theorem uwrap_in (x : Int) : 0 ≤ IntKind.u64.wrap x ∧ IntKind.u64.wrap x < 18446744073709551616 := by
  have e : IntKind.u64.wrap x = x % 18446744073709551616 := rfl
  rw [e]
  exact ⟨Int.emod_nonneg _ (by decide), Int.emod_lt_of_pos _ (by decide)⟩
theorem uquo_in (x : Int) (m : Nat) : 0 ≤ (IntKind.u64.wrap x).tdiv (m : Int) ∧ (IntKind.u64.wrap x).tdiv (m : Int) < 18446744073709551616 := by
  obtain ⟨h0, h1⟩ := uwrap_in x
  generalize IntKind.u64.wrap x = y at *
  rw [Int.tdiv_eq_ediv_of_nonneg h0]
  exact ⟨Int.ediv_nonneg h0 (by omega), Int.lt_of_le_of_lt (Int.ediv_le_self _ h0) h1⟩
theorem uquo_fit (x : Int) (m : Nat) : IntKind.u64.wrap ((IntKind.u64.wrap x).tdiv (m : Int)) = (IntKind.u64.wrap x).tdiv (m : Int) := by
  obtain ⟨h0, h1⟩ := uquo_in x m
  generalize (IntKind.u64.wrap x).tdiv (m : Int) = y at *
  show y % 18446744073709551616 = y
  exact Int.emod_eq_of_lt h0 h1
theorem uquo_int (x : Int) (m k : Nat) (hk : 0 < k) : ∃ t y : Int, 0 ≤ y ∧ y < (k : Int) ∧ (IntKind.u64.wrap x).tdiv (m : Int) = t ∧ t.tmod (k : Int) = y := by
  obtain ⟨h0, _⟩ := uquo_in x m
  refine ⟨_, _, ?_, ?_, rfl, rfl⟩
  · rw [Int.tmod_eq_emod_of_nonneg h0]; exact Int.emod_nonneg _ (by omega)
  · rw [Int.tmod_eq_emod_of_nonneg h0]; exact Int.emod_lt_of_pos _ (by omega)
end Go.Proofs.Ytnpaecbdejemnaa
