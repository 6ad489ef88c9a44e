/-
  No cell of these rows narrows 'for every input' (looked for: loops, veiled, ifaces, maps, wideKeys, modest, calm, conditions, laid).
  DERIVED. THE GIVEN ROWS OF THIS SEAT. 5 by the template 'for every input the law returns true; each argument reads behind the call as it read before'; 0 by the template 'total and deterministic' (their statements: YtkobipkmcpbloaaTotals.lean).
  GIVEN WITH THE SEED: the statements are not yours to turn. If you find one false, say at which input.
  Laid BY PROGRAM, IN A SANDBOX (cutbox-rows.mjs): the forced cells as the released guide's own fill.sh prints them over the translation b63fc7dcd1ed32de… (all of the seat's roots in one cut). By AI agents, Wed Nov 11 2026. No macro, syntax, notation, axiom, sorry.
-/
import Derived.Test.YtkobipkmcpbloaaChecked
import GoSem.Claim
import GoSem.ClaimJoined
import GoSem.ClaimMapViews
import Derived.JoinedTies
import Derived.KernelRfl
namespace Go.Proofs.Ytkobipkmcpbloaa
/- THE CELL 'sum', in the pinned program and in every row, IS THE sha256 OF THE DUMP (.gsa) THAT YtkobipkmcpbloaaProg.lean LOADS. Nothing in Lean hashes anything: it is a label: what it is worth is what the hold of that sum in a sandbox is worth. -/
noncomputable def Try.pinned : Pinned := { name := "ytkobipkmcpbloaa", sum := "b63fc7dcd1ed32de82ce6d7bd35dddc7d78b9966d0b52dba657bad8809d2c9ff", checked := Try.checked }
namespace Rows
def none {H : Type} : Left H := { results := [], args := [] }

/-- 'quorumitelaw9.OrderUnion': WHATEVER THE INPUT: true; the input reads as it did. -/
def orderUnionSpec : ChangeSpec := { name := "orderUnion", fn := fun _ => fun
  | [d1, d2] => { results := [.lit (.bool true)], args := [d1, d2] }
  | _ => none }
def orderUnionRow : OpenClaim := { program := "ytkobipkmcpbloaa", sum := "b63fc7dcd1ed32de82ce6d7bd35dddc7d78b9966d0b52dba657bad8809d2c9ff", func := "quorumite/quorumitelaw9.OrderUnion", spec := "orderUnion", inPlace := ["sync/atomic.AddInt64", "sync/atomic.LoadInt64"], recurses := true, apart := false }
def OrderUnionSaid : Prop := orderUnionRow.holds Try.pinned (OpenSpec.ofChange orderUnionSpec)

/-- ITS FALSE NEIGHBOUR: 'it returns false'. Refute it at one input. -/
def orderUnionWrong : ChangeSpec := { name := "orderUnion", fn := fun _ => fun
  | [d1, d2] => { results := [.lit (.bool false)], args := [d1, d2] }
  | _ => none }
def OrderUnionWrongFalsely : Prop := orderUnionRow.holds Try.pinned (OpenSpec.ofChange orderUnionWrong)

/-- 'quorumitelaw9.OrderAsks': WHATEVER THE INPUT: true; the input reads as it did. -/
def orderAsksSpec : ChangeSpec := { name := "orderAsks", fn := fun _ => fun
  | [d1, d2, d3, d4] => { results := [.lit (.bool true)], args := [d1, d2, d3, d4] }
  | _ => none }
def orderAsksRow : OpenClaim := { program := "ytkobipkmcpbloaa", sum := "b63fc7dcd1ed32de82ce6d7bd35dddc7d78b9966d0b52dba657bad8809d2c9ff", func := "quorumite/quorumitelaw9.OrderAsks", spec := "orderAsks", inPlace := ["sync/atomic.AddInt64", "sync/atomic.LoadInt64"], recurses := true, apart := false }
def OrderAsksSaid : Prop := orderAsksRow.holds Try.pinned (OpenSpec.ofChange orderAsksSpec)

/-- ITS FALSE NEIGHBOUR: 'it returns false'. Refute it at one input. -/
def orderAsksWrong : ChangeSpec := { name := "orderAsks", fn := fun _ => fun
  | [d1, d2, d3, d4] => { results := [.lit (.bool false)], args := [d1, d2, d3, d4] }
  | _ => none }
def OrderAsksWrongFalsely : Prop := orderAsksRow.holds Try.pinned (OpenSpec.ofChange orderAsksWrong)

/-- 'quorumitelaw9.OrderSorts': WHATEVER THE INPUT: true; the input reads as it did. -/
def orderSortsSpec : ChangeSpec := { name := "orderSorts", fn := fun _ => fun
  | [d] => { results := [.lit (.bool true)], args := [d] }
  | _ => none }
def orderSortsRow : OpenClaim := { program := "ytkobipkmcpbloaa", sum := "b63fc7dcd1ed32de82ce6d7bd35dddc7d78b9966d0b52dba657bad8809d2c9ff", func := "quorumite/quorumitelaw9.OrderSorts", spec := "orderSorts", inPlace := ["sync/atomic.AddInt64", "sync/atomic.LoadInt64"], recurses := true, apart := false }
def OrderSortsSaid : Prop := orderSortsRow.holds Try.pinned (OpenSpec.ofChange orderSortsSpec)

/-- ITS FALSE NEIGHBOUR: 'it returns false'. Refute it at one input. -/
def orderSortsWrong : ChangeSpec := { name := "orderSorts", fn := fun _ => fun
  | [d] => { results := [.lit (.bool false)], args := [d] }
  | _ => none }
def OrderSortsWrongFalsely : Prop := orderSortsRow.holds Try.pinned (OpenSpec.ofChange orderSortsWrong)

/-- 'quorumitelaw9.OrderTurned': WHATEVER THE INPUT: true; the input reads as it did. -/
def orderTurnedSpec : ChangeSpec := { name := "orderTurned", fn := fun _ => fun
  | [d1, d2, d3] => { results := [.lit (.bool true)], args := [d1, d2, d3] }
  | _ => none }
def orderTurnedRow : OpenClaim := { program := "ytkobipkmcpbloaa", sum := "b63fc7dcd1ed32de82ce6d7bd35dddc7d78b9966d0b52dba657bad8809d2c9ff", func := "quorumite/quorumitelaw9.OrderTurned", spec := "orderTurned", inPlace := ["sync/atomic.AddInt64", "sync/atomic.LoadInt64"], recurses := true, apart := false }
def OrderTurnedSaid : Prop := orderTurnedRow.holds Try.pinned (OpenSpec.ofChange orderTurnedSpec)

/-- ITS FALSE NEIGHBOUR: 'it returns false'. Refute it at one input. -/
def orderTurnedWrong : ChangeSpec := { name := "orderTurned", fn := fun _ => fun
  | [d1, d2, d3] => { results := [.lit (.bool false)], args := [d1, d2, d3] }
  | _ => none }
def OrderTurnedWrongFalsely : Prop := orderTurnedRow.holds Try.pinned (OpenSpec.ofChange orderTurnedWrong)

/-- 'quorumitelaw9.OrderRanks': WHATEVER THE INPUT: true; the input reads as it did. -/
def orderRanksSpec : ChangeSpec := { name := "orderRanks", fn := fun _ => fun
  | [d1, d2, d3] => { results := [.lit (.bool true)], args := [d1, d2, d3] }
  | _ => none }
def orderRanksRow : OpenClaim := { program := "ytkobipkmcpbloaa", sum := "b63fc7dcd1ed32de82ce6d7bd35dddc7d78b9966d0b52dba657bad8809d2c9ff", func := "quorumite/quorumitelaw9.OrderRanks", spec := "orderRanks", inPlace := ["sync/atomic.AddInt64", "sync/atomic.LoadInt64"], recurses := true, apart := false }
def OrderRanksSaid : Prop := orderRanksRow.holds Try.pinned (OpenSpec.ofChange orderRanksSpec)

/-- ITS FALSE NEIGHBOUR: 'it returns false'. Refute it at one input. -/
def orderRanksWrong : ChangeSpec := { name := "orderRanks", fn := fun _ => fun
  | [d1, d2, d3] => { results := [.lit (.bool false)], args := [d1, d2, d3] }
  | _ => none }
def OrderRanksWrongFalsely : Prop := orderRanksRow.holds Try.pinned (OpenSpec.ofChange orderRanksWrong)

/- THE SECOND FORM. 'bulk': how many values and letters a reading holds, each counted each time it is reached (what is shared counts as often as it is met; a slice's spare places count too). A statement '..UptoSaid' is the law's where the arguments, and the package variables that the reading takes, are together of bulk at most 1048576: NARROWER than '..Said'. Prove '..Said' where nothing that the law and all that it calls make is longer than what came in: it says more and counts as full. Else prove '..UptoSaid'. A law counts once. -/
mutual
def uptoBulk {H : Type} : DataW H → Nat
  | .lit (.string bytes) => bytes.length + 1
  | .lit _ => 1
  | .nil => 1
  | .ptr d => uptoBulk d + 1
  | .slice elems spare => uptoBulkAll elems + uptoBulkAll spare + 1
  | .agg parts => uptoBulkAll parts + 1
  | .iface _ d => uptoBulk d + 1
  | .map entries => uptoBulkEntries entries + 1
  | .held _ => 1
def uptoBulkAll {H : Type} : List (DataW H) → Nat
  | [] => 0
  | d :: r => uptoBulk d + uptoBulkAll r
def uptoBulkEntries {H : Type} : List (Lit × DataW H) → Nat
  | [] => 0
  | x :: r => uptoBulkEntry x + uptoBulkEntries r
def uptoBulkEntry {H : Type} : Lit × DataW H → Nat
  | (.string bytes, d) => bytes.length + uptoBulk d + 1
  | (_, d) => uptoBulk d + 1
 end
def uptoSmall : (H : Type) → List (DataW H) → Bool := fun _ ds => decide (uptoBulkAll ds ≤ 1048576)
def OpenSpec.upto (s : _root_.Go.ChangeSpec) : _root_.Go.OpenSpec := { _root_.Go.OpenSpec.ofChange s with cond := some uptoSmall }

/-- 'quorumitelaw9.OrderUnion', WHERE WHAT IT READS IS OF BULK AT MOST 1048576: true; the input reads as it did. -/
def orderUnionUptoRow : OpenClaim := { program := "ytkobipkmcpbloaa", sum := "b63fc7dcd1ed32de82ce6d7bd35dddc7d78b9966d0b52dba657bad8809d2c9ff", func := "quorumite/quorumitelaw9.OrderUnion", spec := "orderUnion", inPlace := ["sync/atomic.AddInt64", "sync/atomic.LoadInt64"], recurses := true, apart := false, narrowed := true }
def OrderUnionUptoSaid : Prop := orderUnionUptoRow.holds Try.pinned (OpenSpec.upto orderUnionSpec)

/-- 'quorumitelaw9.OrderAsks', WHERE WHAT IT READS IS OF BULK AT MOST 1048576: true; the input reads as it did. -/
def orderAsksUptoRow : OpenClaim := { program := "ytkobipkmcpbloaa", sum := "b63fc7dcd1ed32de82ce6d7bd35dddc7d78b9966d0b52dba657bad8809d2c9ff", func := "quorumite/quorumitelaw9.OrderAsks", spec := "orderAsks", inPlace := ["sync/atomic.AddInt64", "sync/atomic.LoadInt64"], recurses := true, apart := false, narrowed := true }
def OrderAsksUptoSaid : Prop := orderAsksUptoRow.holds Try.pinned (OpenSpec.upto orderAsksSpec)

/-- 'quorumitelaw9.OrderSorts', WHERE WHAT IT READS IS OF BULK AT MOST 1048576: true; the input reads as it did. -/
def orderSortsUptoRow : OpenClaim := { program := "ytkobipkmcpbloaa", sum := "b63fc7dcd1ed32de82ce6d7bd35dddc7d78b9966d0b52dba657bad8809d2c9ff", func := "quorumite/quorumitelaw9.OrderSorts", spec := "orderSorts", inPlace := ["sync/atomic.AddInt64", "sync/atomic.LoadInt64"], recurses := true, apart := false, narrowed := true }
def OrderSortsUptoSaid : Prop := orderSortsUptoRow.holds Try.pinned (OpenSpec.upto orderSortsSpec)

/-- 'quorumitelaw9.OrderTurned', WHERE WHAT IT READS IS OF BULK AT MOST 1048576: true; the input reads as it did. -/
def orderTurnedUptoRow : OpenClaim := { program := "ytkobipkmcpbloaa", sum := "b63fc7dcd1ed32de82ce6d7bd35dddc7d78b9966d0b52dba657bad8809d2c9ff", func := "quorumite/quorumitelaw9.OrderTurned", spec := "orderTurned", inPlace := ["sync/atomic.AddInt64", "sync/atomic.LoadInt64"], recurses := true, apart := false, narrowed := true }
def OrderTurnedUptoSaid : Prop := orderTurnedUptoRow.holds Try.pinned (OpenSpec.upto orderTurnedSpec)

/-- 'quorumitelaw9.OrderRanks', WHERE WHAT IT READS IS OF BULK AT MOST 1048576: true; the input reads as it did. -/
def orderRanksUptoRow : OpenClaim := { program := "ytkobipkmcpbloaa", sum := "b63fc7dcd1ed32de82ce6d7bd35dddc7d78b9966d0b52dba657bad8809d2c9ff", func := "quorumite/quorumitelaw9.OrderRanks", spec := "orderRanks", inPlace := ["sync/atomic.AddInt64", "sync/atomic.LoadInt64"], recurses := true, apart := false, narrowed := true }
def OrderRanksUptoSaid : Prop := orderRanksUptoRow.holds Try.pinned (OpenSpec.upto orderRanksSpec)

end Rows
end Go.Proofs.Ytkobipkmcpbloaa
