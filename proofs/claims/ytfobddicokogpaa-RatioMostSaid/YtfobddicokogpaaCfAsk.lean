/-
  Contracts for the answer of package conf, which is made once: a part that may not be makes it, if no part ahead of it did. The condition: the answer's block is as the program makes it, its lock free.
-/
import Derived.Test.YtfobddicokogpaaOnce
import Derived.Test.YtfobddicokogpaaCf
set_option linter.unusedSimpArgs false
namespace Go.Proofs.Ytfobddicokogpaa
set_option maxRecDepth 100000
open Go.RowKit

def ask1 (st : Option ByteArray) (s : ByteArray) (may : Bool) : Option ByteArray :=
  match st with
  | some r => some r
  | none => if may then none else some s

end Go.Proofs.Ytfobddicokogpaa
