/-
  Contracts for sync.Once as the program uses it, in one goroutine: the lock that is free is taken and given back; what was not yet done is done once. The conditions are told of the cells: the lock's word is 0.
-/
import Derived.Test.YtfobddicokogpaaRows
import Derived.Test.YtfobddicokogpaaQ
import Derived.Test.YtfobddicokogpaaGrow
import Derived.WalkKit
import Derived.WalkSpells
import Derived.WalkLawsBesides
import Derived.Defers
import Derived.Laws.Pointers
import Derived.Laws.LoneSync
import Derived.RegionTactic
import Derived.RegionCalls
import Derived.ChangeAlike
namespace Go.Proofs.Ytfobddicokogpaa
set_option maxRecDepth 100000
open Go.RowKit

end Go.Proofs.Ytfobddicokogpaa
