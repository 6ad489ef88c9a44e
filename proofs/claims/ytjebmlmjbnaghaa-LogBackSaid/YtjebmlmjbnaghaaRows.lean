/-
  No cell of these rows narrows 'for every input' (looked for: loops, veiled, ifaces, maps, wideKeys, modest, calm, conditions, laid).
  DERIVED. THE GIVEN ROWS OF THIS SEAT. 6 by the template 'for every input the law returns true; each argument reads behind the call as it read before'; 0 by the template 'total and deterministic' (their statements: YtjebmlmjbnaghaaTotals.lean).
  GIVEN WITH THE SEED: the statements are not yours to turn. If you find one false, say at which input.
  Laid BY PROGRAM, IN A SANDBOX (cutbox-rows.mjs): the forced cells as the released guide's own fill.sh prints them over the translation cbc4e2d590d15d91… (all of the seat's roots in one cut). By AI agents, Wed Nov 11 2026. No macro, syntax, notation, axiom, sorry.
-/
import Derived.Test.YtjebmlmjbnaghaaChecked
import GoSem.Claim
import GoSem.ClaimJoined
import GoSem.ClaimMapViews
import Derived.JoinedTies
import Derived.KernelRfl
namespace Go.Proofs.Ytjebmlmjbnaghaa
/- THE CELL 'sum', in the pinned program and in every row, IS THE sha256 OF THE DUMP (.gsa) THAT YtjebmlmjbnaghaaProg.lean LOADS. Nothing in Lean hashes anything: it is a label: what it is worth is what the hold of that sum in a sandbox is worth. -/
noncomputable def Try.pinned : Pinned := { name := "ytjebmlmjbnaghaa", sum := "cbc4e2d590d15d9169c0c125381663c748578d413273348858d0b359acb1db1a", checked := Try.checked }
namespace Rows
def none {H : Type} : Left H := { results := [], args := [] }

/-- 'quorumitelaw18.LogAsks': WHATEVER THE INPUT: true; the input reads as it did. -/
def logAsksSpec : ChangeSpec := { name := "logAsks", fn := fun _ => fun
  | [d1, d2, d3] => { results := [.lit (.bool true)], args := [d1, d2, d3] }
  | _ => none }
def logAsksRow : OpenClaim := { program := "ytjebmlmjbnaghaa", sum := "cbc4e2d590d15d9169c0c125381663c748578d413273348858d0b359acb1db1a", func := "quorumite/quorumitelaw18.LogAsks", spec := "logAsks", inPlace := ["sync/atomic.AddUint32", "sync/atomic.LoadUint32"], apart := false }
def LogAsksSaid : Prop := logAsksRow.holds Try.pinned (OpenSpec.ofChange logAsksSpec)

/-- ITS FALSE NEIGHBOUR: 'it returns false'. Refute it at one input. -/
def logAsksWrong : ChangeSpec := { name := "logAsks", fn := fun _ => fun
  | [d1, d2, d3] => { results := [.lit (.bool false)], args := [d1, d2, d3] }
  | _ => none }
def LogAsksWrongFalsely : Prop := logAsksRow.holds Try.pinned (OpenSpec.ofChange logAsksWrong)

/-- 'quorumitelaw18.LogBack': WHATEVER THE INPUT: true; the input reads as it did. -/
def logBackSpec : ChangeSpec := { name := "logBack", fn := fun _ => fun
  | [d1, d2, d3] => { results := [.lit (.bool true)], args := [d1, d2, d3] }
  | _ => none }
def logBackRow : OpenClaim := { program := "ytjebmlmjbnaghaa", sum := "cbc4e2d590d15d9169c0c125381663c748578d413273348858d0b359acb1db1a", func := "quorumite/quorumitelaw18.LogBack", spec := "logBack", inPlace := ["sync/atomic.AddUint32", "sync/atomic.LoadUint32"], apart := false }
def LogBackSaid : Prop := logBackRow.holds Try.pinned (OpenSpec.ofChange logBackSpec)

/-- ITS FALSE NEIGHBOUR: 'it returns false'. Refute it at one input. -/
def logBackWrong : ChangeSpec := { name := "logBack", fn := fun _ => fun
  | [d1, d2, d3] => { results := [.lit (.bool false)], args := [d1, d2, d3] }
  | _ => none }
def LogBackWrongFalsely : Prop := logBackRow.holds Try.pinned (OpenSpec.ofChange logBackWrong)

/-- 'quorumitelaw18.LogTorn': WHATEVER THE INPUT: true; the input reads as it did. -/
def logTornSpec : ChangeSpec := { name := "logTorn", fn := fun _ => fun
  | [d1, d2, d3, d4] => { results := [.lit (.bool true)], args := [d1, d2, d3, d4] }
  | _ => none }
def logTornRow : OpenClaim := { program := "ytjebmlmjbnaghaa", sum := "cbc4e2d590d15d9169c0c125381663c748578d413273348858d0b359acb1db1a", func := "quorumite/quorumitelaw18.LogTorn", spec := "logTorn", inPlace := ["sync/atomic.AddUint32", "sync/atomic.LoadUint32"], apart := false }
def LogTornSaid : Prop := logTornRow.holds Try.pinned (OpenSpec.ofChange logTornSpec)

/-- ITS FALSE NEIGHBOUR: 'it returns false'. Refute it at one input. -/
def logTornWrong : ChangeSpec := { name := "logTorn", fn := fun _ => fun
  | [d1, d2, d3, d4] => { results := [.lit (.bool false)], args := [d1, d2, d3, d4] }
  | _ => none }
def LogTornWrongFalsely : Prop := logTornRow.holds Try.pinned (OpenSpec.ofChange logTornWrong)

/-- 'quorumitelaw18.LogSums': WHATEVER THE INPUT: true; the input reads as it did. -/
def logSumsSpec : ChangeSpec := { name := "logSums", fn := fun _ => fun
  | [d1, d2, d3] => { results := [.lit (.bool true)], args := [d1, d2, d3] }
  | _ => none }
def logSumsRow : OpenClaim := { program := "ytjebmlmjbnaghaa", sum := "cbc4e2d590d15d9169c0c125381663c748578d413273348858d0b359acb1db1a", func := "quorumite/quorumitelaw18.LogSums", spec := "logSums", inPlace := ["sync/atomic.AddUint32", "sync/atomic.LoadUint32"], apart := false }
def LogSumsSaid : Prop := logSumsRow.holds Try.pinned (OpenSpec.ofChange logSumsSpec)

/-- ITS FALSE NEIGHBOUR: 'it returns false'. Refute it at one input. -/
def logSumsWrong : ChangeSpec := { name := "logSums", fn := fun _ => fun
  | [d1, d2, d3] => { results := [.lit (.bool false)], args := [d1, d2, d3] }
  | _ => none }
def LogSumsWrongFalsely : Prop := logSumsRow.holds Try.pinned (OpenSpec.ofChange logSumsWrong)

/-- 'quorumitelaw18.LogCells': WHATEVER THE INPUT: true; the input reads as it did. -/
def logCellsSpec : ChangeSpec := { name := "logCells", fn := fun _ => fun
  | [d1, d2] => { results := [.lit (.bool true)], args := [d1, d2] }
  | _ => none }
def logCellsRow : OpenClaim := { program := "ytjebmlmjbnaghaa", sum := "cbc4e2d590d15d9169c0c125381663c748578d413273348858d0b359acb1db1a", func := "quorumite/quorumitelaw18.LogCells", spec := "logCells", inPlace := ["sync/atomic.AddUint32", "sync/atomic.LoadUint32"], apart := false }
def LogCellsSaid : Prop := logCellsRow.holds Try.pinned (OpenSpec.ofChange logCellsSpec)

/-- ITS FALSE NEIGHBOUR: 'it returns false'. Refute it at one input. -/
def logCellsWrong : ChangeSpec := { name := "logCells", fn := fun _ => fun
  | [d1, d2] => { results := [.lit (.bool false)], args := [d1, d2] }
  | _ => none }
def LogCellsWrongFalsely : Prop := logCellsRow.holds Try.pinned (OpenSpec.ofChange logCellsWrong)

/-- 'quorumitelaw18.LogBounds': WHATEVER THE INPUT: true; the input reads as it did. -/
def logBoundsSpec : ChangeSpec := { name := "logBounds", fn := fun _ => fun
  | [d1, d2] => { results := [.lit (.bool true)], args := [d1, d2] }
  | _ => none }
def logBoundsRow : OpenClaim := { program := "ytjebmlmjbnaghaa", sum := "cbc4e2d590d15d9169c0c125381663c748578d413273348858d0b359acb1db1a", func := "quorumite/quorumitelaw18.LogBounds", spec := "logBounds", inPlace := ["sync/atomic.AddUint32", "sync/atomic.LoadUint32"], apart := false }
def LogBoundsSaid : Prop := logBoundsRow.holds Try.pinned (OpenSpec.ofChange logBoundsSpec)

/-- ITS FALSE NEIGHBOUR: 'it returns false'. Refute it at one input. -/
def logBoundsWrong : ChangeSpec := { name := "logBounds", fn := fun _ => fun
  | [d1, d2] => { results := [.lit (.bool false)], args := [d1, d2] }
  | _ => none }
def LogBoundsWrongFalsely : Prop := logBoundsRow.holds Try.pinned (OpenSpec.ofChange logBoundsWrong)

/- THE SECOND FORM. 'bulk': how many values and letters a reading holds, each counted each time it is reached (what is shared counts as often as it is met; a slice's spare places count too). A statement '..UptoSaid' is the law's where the arguments, and the package variables that the reading takes, are together of bulk at most 1048576: NARROWER than '..Said'. Prove '..Said' where nothing that the law and all that it calls make is longer than what came in: it says more and counts as full. Else prove '..UptoSaid'. A law counts once. -/
mutual
def uptoBulk {H : Type} : DataW H → Nat
  | .lit (.string bytes) => bytes.length + 1
  | .lit _ => 1
  | .nil => 1
  | .ptr d => uptoBulk d + 1
  | .slice elems spare => uptoBulkAll elems + uptoBulkAll spare + 1
  | .agg parts => uptoBulkAll parts + 1
  | .iface _ d => uptoBulk d + 1
  | .map entries => uptoBulkEntries entries + 1
  | .held _ => 1
def uptoBulkAll {H : Type} : List (DataW H) → Nat
  | [] => 0
  | d :: r => uptoBulk d + uptoBulkAll r
def uptoBulkEntries {H : Type} : List (Lit × DataW H) → Nat
  | [] => 0
  | x :: r => uptoBulkEntry x + uptoBulkEntries r
def uptoBulkEntry {H : Type} : Lit × DataW H → Nat
  | (.string bytes, d) => bytes.length + uptoBulk d + 1
  | (_, d) => uptoBulk d + 1
 end
def uptoSmall : (H : Type) → List (DataW H) → Bool := fun _ ds => decide (uptoBulkAll ds ≤ 1048576)
def OpenSpec.upto (s : _root_.Go.ChangeSpec) : _root_.Go.OpenSpec := { _root_.Go.OpenSpec.ofChange s with cond := some uptoSmall }

/-- 'quorumitelaw18.LogAsks', WHERE WHAT IT READS IS OF BULK AT MOST 1048576: true; the input reads as it did. -/
def logAsksUptoRow : OpenClaim := { program := "ytjebmlmjbnaghaa", sum := "cbc4e2d590d15d9169c0c125381663c748578d413273348858d0b359acb1db1a", func := "quorumite/quorumitelaw18.LogAsks", spec := "logAsks", inPlace := ["sync/atomic.AddUint32", "sync/atomic.LoadUint32"], apart := false, narrowed := true }
def LogAsksUptoSaid : Prop := logAsksUptoRow.holds Try.pinned (OpenSpec.upto logAsksSpec)

/-- 'quorumitelaw18.LogBack', WHERE WHAT IT READS IS OF BULK AT MOST 1048576: true; the input reads as it did. -/
def logBackUptoRow : OpenClaim := { program := "ytjebmlmjbnaghaa", sum := "cbc4e2d590d15d9169c0c125381663c748578d413273348858d0b359acb1db1a", func := "quorumite/quorumitelaw18.LogBack", spec := "logBack", inPlace := ["sync/atomic.AddUint32", "sync/atomic.LoadUint32"], apart := false, narrowed := true }
def LogBackUptoSaid : Prop := logBackUptoRow.holds Try.pinned (OpenSpec.upto logBackSpec)

/-- 'quorumitelaw18.LogTorn', WHERE WHAT IT READS IS OF BULK AT MOST 1048576: true; the input reads as it did. -/
def logTornUptoRow : OpenClaim := { program := "ytjebmlmjbnaghaa", sum := "cbc4e2d590d15d9169c0c125381663c748578d413273348858d0b359acb1db1a", func := "quorumite/quorumitelaw18.LogTorn", spec := "logTorn", inPlace := ["sync/atomic.AddUint32", "sync/atomic.LoadUint32"], apart := false, narrowed := true }
def LogTornUptoSaid : Prop := logTornUptoRow.holds Try.pinned (OpenSpec.upto logTornSpec)

/-- 'quorumitelaw18.LogSums', WHERE WHAT IT READS IS OF BULK AT MOST 1048576: true; the input reads as it did. -/
def logSumsUptoRow : OpenClaim := { program := "ytjebmlmjbnaghaa", sum := "cbc4e2d590d15d9169c0c125381663c748578d413273348858d0b359acb1db1a", func := "quorumite/quorumitelaw18.LogSums", spec := "logSums", inPlace := ["sync/atomic.AddUint32", "sync/atomic.LoadUint32"], apart := false, narrowed := true }
def LogSumsUptoSaid : Prop := logSumsUptoRow.holds Try.pinned (OpenSpec.upto logSumsSpec)

/-- 'quorumitelaw18.LogCells', WHERE WHAT IT READS IS OF BULK AT MOST 1048576: true; the input reads as it did. -/
def logCellsUptoRow : OpenClaim := { program := "ytjebmlmjbnaghaa", sum := "cbc4e2d590d15d9169c0c125381663c748578d413273348858d0b359acb1db1a", func := "quorumite/quorumitelaw18.LogCells", spec := "logCells", inPlace := ["sync/atomic.AddUint32", "sync/atomic.LoadUint32"], apart := false, narrowed := true }
def LogCellsUptoSaid : Prop := logCellsUptoRow.holds Try.pinned (OpenSpec.upto logCellsSpec)

/-- 'quorumitelaw18.LogBounds', WHERE WHAT IT READS IS OF BULK AT MOST 1048576: true; the input reads as it did. -/
def logBoundsUptoRow : OpenClaim := { program := "ytjebmlmjbnaghaa", sum := "cbc4e2d590d15d9169c0c125381663c748578d413273348858d0b359acb1db1a", func := "quorumite/quorumitelaw18.LogBounds", spec := "logBounds", inPlace := ["sync/atomic.AddUint32", "sync/atomic.LoadUint32"], apart := false, narrowed := true }
def LogBoundsUptoSaid : Prop := logBoundsUptoRow.holds Try.pinned (OpenSpec.upto logBoundsSpec)

end Rows
end Go.Proofs.Ytjebmlmjbnaghaa
