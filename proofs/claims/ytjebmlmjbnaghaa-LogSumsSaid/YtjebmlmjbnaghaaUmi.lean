/-
  A number that came in, taken as one without a sign, modulo a small one, as an integer. No condition. Nothing of the program is named here.
-/
import Derived.Test.YtjebmlmjbnaghaaUmod
namespace Go.Proofs.Ytjebmlmjbnaghaa
set_option maxRecDepth 100000
open Go.RowKit
theorem umod_int (x : Int) (m : Nat) (h0 : 0 < m) : ∃ k : Int, 0 ≤ k ∧ k < (m : Int) ∧ (IntKind.u64.wrap x).tmod (m : Int) = k := by
  obtain ⟨k, h1, h2⟩ := umod_small x m h0
  exact ⟨k, by omega, by omega, h2⟩
end Go.Proofs.Ytjebmlmjbnaghaa
