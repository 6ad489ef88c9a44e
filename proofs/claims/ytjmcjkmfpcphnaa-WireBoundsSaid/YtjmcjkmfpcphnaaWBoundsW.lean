/-
  The walk of the statement WireBounds: each part of a message has its bounds, on both sides. No condition.
-/
import Derived.Test.YtjmcjkmfpcphnaaWBounds0W
import Derived.Test.YtjmcjkmfpcphnaaWBounds1W
import Derived.Test.YtjmcjkmfpcphnaaWBounds2W
import Derived.Test.YtjmcjkmfpcphnaaWBounds3W
import Derived.Test.YtjmcjkmfpcphnaaWBounds4W
import Derived.Test.YtjmcjkmfpcphnaaWBounds5W
import Derived.Test.YtjmcjkmfpcphnaaWBounds6W
namespace Go.Proofs.Ytjmcjkmfpcphnaa.bounds
open Go.RowKit
theorem walk (part ed kind : Int) {w : World} :
    Calls Try.prog 6 #[.int .i64 part, .int .i64 ed, .int .i64 kind] w fun e w' => e = .returned (.bool true) ∧ w.grownBy w' none := by
  obtain ⟨k, hk, ek⟩ := umod_small part 7 (by omega)
  have ek' : (IntKind.u64.wrap part).tmod 7 = (k : Int) := ek
  rcases (by omega : k = 0 ∨ k = 1 ∨ k = 2 ∨ k = 3 ∨ k = 4 ∨ k = 5 ∨ k = 6) with rfl | rfl | rfl | rfl | rfl | rfl | rfl
  · exact walk_0 part ed kind ek'
  · exact walk_1 part ed kind ek'
  · exact walk_2 part ed kind ek'
  · exact walk_3 part ed kind ek'
  · exact walk_4 part ed kind ek'
  · exact walk_5 part ed kind ek'
  · exact walk_6 part ed kind ek'
end Go.Proofs.Ytjmcjkmfpcphnaa.bounds
