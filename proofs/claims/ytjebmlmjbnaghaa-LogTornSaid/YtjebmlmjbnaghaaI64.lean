/-
  Contracts for sync/atomic's Int64: Load, Add, Store of a number that lies in a cell that may be stored to.
-/
import Derived.Test.YtjebmlmjbnaghaaGrow
import Derived.Test.YtjebmlmjbnaghaaRows
import Derived.WalkSpells
import Derived.WalkLawsBesides
set_option linter.unusedSimpArgs false
namespace Go.Proofs.Ytjebmlmjbnaghaa
set_option maxRecDepth 100000
open Go.RowKit

theorem still_of {f : FuncId} {args : Array Value} {w : World} {v : Value} (h : Calls Try.prog f args w fun e w' => e = .returned v ∧ w = w') : Calls Try.prog f args w fun e w' => e = .returned v ∧ w' = w := h.mono fun _ _ ⟨h1, h2⟩ => ⟨h1, h2.symm⟩
end Go.Proofs.Ytjebmlmjbnaghaa
