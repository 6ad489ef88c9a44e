/-
  A configuration of the law's own, in a block. No condition.
-/
import Derived.Test.YtmhpldnmapjghaaCfDef
import Derived.Test.YtmhpldnmapjghaaGen
import Derived.Test.YtmhpldnmapjghaaHeld
set_option linter.unusedSimpArgs false
namespace Go.Proofs.Ytmhpldnmapjghaa
set_option maxRecDepth 100000
open Go.RowKit

/-- the block x holds the configuration c; all else as it was, or new -/
structure Cfx (w0 : World) (x : Nat) (c : Conf) (w : World) : Prop where
  box : w.heap[x]? = some (.cells c.cells 26)
  g : w0.grownBy w none
theorem Cfx.grown {w0 : World} {x : Nat} {c : Conf} {w1 w2 : World} (h : Cfx w0 x c w1) (hg : w1.grownBy w2 none) : Cfx w0 x c w2 := ⟨at_grown h.box hg (by simp), gb_trans h.g hg (.inl rfl)⟩
theorem Cfx.drew {w0 : World} {x : Nat} {c : Conf} {w1 : World} (h : Cfx w0 x c w1) : Cfx w0 x c w1.drew := ⟨h.box, gb_drew h.g⟩
theorem cfx_new {w0 w1 : World} (c : Conf) (h : w0.grownBy w1 none) : Cfx w0 w1.heap.size c (w1.alloc (.cells c.cells 26)) := ⟨at_new w1 _, gb_alloc h _⟩

/-- a number out of 'int(uint(x) % m)' -/
theorem mod_small (x : Int) {m : Int} (h0 : 0 < m) (h1 : m ≤ 4611686018427387904) : 0 ≤ wrap64 ((IntKind.u64.wrap x).tmod m) ∧ wrap64 ((IntKind.u64.wrap x).tmod m) < m := by
  have h : 0 ≤ IntKind.u64.wrap x := by
    show 0 ≤ x % _
    exact Int.emod_nonneg _ (by decide)
  rw [Int.tmod_eq_emod_of_nonneg h]
  have a := Int.emod_nonneg (IntKind.u64.wrap x) (Int.ne_of_gt h0)
  have b := Int.emod_lt_of_pos (IntKind.u64.wrap x) h0
  rw [wrap_small (by omega) (by omega)]
  exact ⟨a, b⟩
end Go.Proofs.Ytmhpldnmapjghaa
