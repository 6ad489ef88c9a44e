/-
  Contracts for slices.Equal at []int64 and package order's Same; and for the document's SameList and Rank. The condition: slices that read as numbers, of a modest length.
-/
import Derived.Test.YtopeceicmpblkaaOrd
import Derived.LoopTactic
set_option linter.unusedSimpArgs false
set_option linter.unusedVariables false
namespace Go.Proofs.Ytopeceicmpblkaa
set_option maxRecDepth 100000
open Go.RowKit

theorem gb_drewM (w : World) (n : Nat) : w.grownBy (w.drewN n) none := ⟨rfl, rfl, rfl, Nat.le_refl _, fun _ _ _ => rfl⟩
end Go.Proofs.Ytopeceicmpblkaa
