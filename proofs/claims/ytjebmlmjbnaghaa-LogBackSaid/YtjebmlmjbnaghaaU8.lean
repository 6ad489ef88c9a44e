/-
  A byte that came in. No condition. Nothing of the program is named here.
-/
import Derived.Test.YtjebmlmjbnaghaaQ
namespace Go.Proofs.Ytjebmlmjbnaghaa
set_option maxRecDepth 100000
open Go.RowKit
theorem u8_of {n : Int} (h : (Lit.int .u8 n).wf = true) : ∃ t : UInt8, n = (t.toNat : Int) := by
  obtain ⟨x, rfl⟩ := qb_of h
  exact ⟨⟨x⟩, rfl⟩
end Go.Proofs.Ytjebmlmjbnaghaa
