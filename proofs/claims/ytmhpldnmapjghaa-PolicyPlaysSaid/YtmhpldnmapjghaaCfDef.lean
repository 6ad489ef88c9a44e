/-
  Contracts: the default, of the program and of the document. No condition.
-/
import Derived.Test.YtmhpldnmapjghaaCf
import Derived.Test.YtmhpldnmapjghaaOps
set_option linter.unusedSimpArgs false
namespace Go.Proofs.Ytmhpldnmapjghaa
set_option maxRecDepth 100000
open Go.RowKit

/-- the default -/
@[reducible] def dflt : Conf := ⟨4, 1, 1, 3, 2, 2, 32, 1000, 0, 0, 0, 100, 1, 100, 0, 3, 4, 100, 4, 50, 2, 100, 3, 4, 256, 1⟩
@[reducible] def zeroC : Conf := ⟨0, 0, 0, 0, 0, 0, 0, 0, 0, 0, 0, 0, 0, 0, 0, 0, 0, 0, 0, 0, 0, 0, 0, 0, 0, 0⟩

theorem default_any (w : World) :
    Calls Try.prog 36 #[] w fun e w' => e = .returned (cf dflt) ∧ w.grownBy w' none := by
  go_enter Try.func36, Try.ntmps36
  go_wp2_with (first | refine wpList_buildTo (ty := 23) (cs := #[.int .i64 1000, .int .i64 0, .int .i64 0, .int .i64 0]) rfl rfl rfl (by kernel_rfl) ?_ | refine wpList_buildTo (ty := 26) (cs := dflt.cells) rfl rfl rfl (by kernel_rfl) ?_ | refine wpList_store_new (cs := dflt.cells) rfl (by kernel_rfl) (by kernel_rfl) (by kernel_rfl) rfl rfl rfl rfl rfl ?_)
  refine bodyPost_ret (v := cf dflt) ?_ rfl ⟨rfl, gb_alloc (.refl w none) _⟩
  exact results_cell_row rfl _ _ w.heap.size 26 dflt.cells (0, 0) _ rfl (heap_alloc_last _ _) Try.underlying26 rfl (by kernel_rfl)
theorem refdefault_any (w : World) :
    Calls Try.prog 24 #[] w fun e w' => e = .returned (cf dflt) ∧ w.grownBy w' none := by
  go_enter Try.func24, Try.ntmps24
  go_wp2_with (first | refine wpList_buildTo (ty := 23) (cs := #[.int .i64 1000, .int .i64 0, .int .i64 0, .int .i64 0]) rfl rfl rfl (by kernel_rfl) ?_ | refine wpList_buildTo (ty := 26) (cs := dflt.cells) rfl rfl rfl (by kernel_rfl) ?_ | refine wpList_store_new (cs := dflt.cells) rfl (by kernel_rfl) (by kernel_rfl) (by kernel_rfl) rfl rfl rfl rfl rfl ?_)
  refine bodyPost_ret (v := cf dflt) ?_ rfl ⟨rfl, gb_alloc (.refl w none) _⟩
  exact results_cell_row rfl _ _ w.heap.size 26 dflt.cells (0, 0) _ rfl (heap_alloc_last _ _) Try.underlying26 rfl (by kernel_rfl)
end Go.Proofs.Ytmhpldnmapjghaa
