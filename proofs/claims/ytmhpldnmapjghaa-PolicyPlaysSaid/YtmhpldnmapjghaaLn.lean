/-
  Literals of numbers: what a new block of them reads as. No condition. Nothing of the program's functions is named here.
-/
import Derived.Test.YtmhpldnmapjghaaIntL
set_option linter.unusedSimpArgs false
set_option linter.unusedVariables false
namespace Go.Proofs.Ytmhpldnmapjghaa
set_option maxRecDepth 100000
open Go.RowKit

theorem size_ln (w : World) (o : Obj) : (w.alloc o).heap.size = w.heap.size + 1 := by show (w.heap.push o).size = _; simp
theorem ints_new (w : World) (l : List Int) (hl : l.length ≤ maxLen) : IntsAt (w.alloc (.cells (l.map iv).toArray 2)) (.slice (some ⟨w.heap.size, 0, none⟩) l.length l.length) l := ints_of_cells l (at_new w _) hl
theorem lit_new (w : World) (l : List Int) (c : Array Value) (hc : (l.map iv).toArray = c) (n : Nat) (hn : l.length = n) (hl : n ≤ maxLen) : IntsAt (w.alloc (.cells c 2)) (.slice (some ⟨w.heap.size, 0, none⟩) n n) l := by
  subst hc; subst hn; exact ints_new w l hl
theorem lit_new2 (w : World) (o : Obj) (l : List Int) (c : Array Value) (hc : (l.map iv).toArray = c) (n : Nat) (hn : l.length = n) (hl : n ≤ maxLen) : IntsAt ((w.alloc o).alloc (.cells c 2)) (.slice (some ⟨w.heap.size + 1, 0, none⟩) n n) l := by
  have h := lit_new (w.alloc o) l c hc n hn hl
  rw [size_ln] at h
  exact h
theorem le_max (n : Nat) (h : n ≤ 100) : n ≤ maxLen := by unfold maxLen; omega
end Go.Proofs.Ytmhpldnmapjghaa
