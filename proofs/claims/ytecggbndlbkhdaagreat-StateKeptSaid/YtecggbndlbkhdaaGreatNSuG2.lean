/-
  Contract for package state: the check. The condition: the state lies there, the bytes read as bytes.
-/
import Derived.Test.YtecggbndlbkhdaaGreatY29
set_option linter.unusedSimpArgs false
set_option linter.unusedVariables false
namespace Go.Proofs.YtecggbndlbkhdaaGreat
set_option maxRecDepth 100000
open Go.RowKit
theorem wf_small {x : Int} (h : 0 ≤ x ∧ x ≤ 1099511627776) : wf64 x := by unfold wf64; omega
end Go.Proofs.YtecggbndlbkhdaaGreat
