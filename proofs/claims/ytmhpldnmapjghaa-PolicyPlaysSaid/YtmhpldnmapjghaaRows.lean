/-
  No cell of these rows narrows 'for every input' (looked for: loops, veiled, ifaces, maps, wideKeys, modest, calm, conditions, laid).
  DERIVED. THE GIVEN ROWS OF THIS SEAT. 6 by the template 'for every input the law returns true; each argument reads behind the call as it read before'; 0 by the template 'total and deterministic' (their statements: YtmhpldnmapjghaaTotals.lean).
  GIVEN WITH THE SEED: the statements are not yours to turn. If you find one false, say at which input.
  Laid BY PROGRAM, IN A SANDBOX (cutbox-rows.mjs): the forced cells as the released guide's own fill.sh prints them over the translation 62a07a08c6aeb00b… (all of the seat's roots in one cut). By AI agents, Wed Nov 11 2026. No macro, syntax, notation, axiom, sorry.
-/
import Derived.Test.YtmhpldnmapjghaaChecked
import GoSem.Claim
import GoSem.ClaimJoined
import GoSem.ClaimMapViews
import Derived.JoinedTies
import Derived.KernelRfl
namespace Go.Proofs.Ytmhpldnmapjghaa
/- THE CELL 'sum', in the pinned program and in every row, IS THE sha256 OF THE DUMP (.gsa) THAT YtmhpldnmapjghaaProg.lean LOADS. Nothing in Lean hashes anything: it is a label: what it is worth is what the hold of that sum in a sandbox is worth. -/
noncomputable def Try.pinned : Pinned := { name := "ytmhpldnmapjghaa", sum := "62a07a08c6aeb00b9075c5229015aade1b9e0afe638618267abac83da59138bf", checked := Try.checked }
namespace Rows
def none {H : Type} : Left H := { results := [], args := [] }

/-- 'quorumitelaw15.PolicySets': WHATEVER THE INPUT: true; the input reads as it did. -/
def policySetsSpec : ChangeSpec := { name := "policySets", fn := fun _ => fun
  | [d1, d2, d3] => { results := [.lit (.bool true)], args := [d1, d2, d3] }
  | _ => none }
def policySetsRow : OpenClaim := { program := "ytmhpldnmapjghaa", sum := "62a07a08c6aeb00b9075c5229015aade1b9e0afe638618267abac83da59138bf", func := "quorumite/quorumitelaw15.PolicySets", spec := "policySets", inPlace := ["sync/atomic.LoadInt64", "sync/atomic.StoreInt64", "sync/atomic.AddInt64"], unfollowed := true, recurses := true, apart := false }
def PolicySetsSaid : Prop := policySetsRow.holds Try.pinned (OpenSpec.ofChange policySetsSpec)

/-- ITS FALSE NEIGHBOUR: 'it returns false'. Refute it at one input. -/
def policySetsWrong : ChangeSpec := { name := "policySets", fn := fun _ => fun
  | [d1, d2, d3] => { results := [.lit (.bool false)], args := [d1, d2, d3] }
  | _ => none }
def PolicySetsWrongFalsely : Prop := policySetsRow.holds Try.pinned (OpenSpec.ofChange policySetsWrong)

/-- 'quorumitelaw15.PolicyPlays': WHATEVER THE INPUT: true; the input reads as it did. -/
def policyPlaysSpec : ChangeSpec := { name := "policyPlays", fn := fun _ => fun
  | [d1, d2, d3, d4, d5] => { results := [.lit (.bool true)], args := [d1, d2, d3, d4, d5] }
  | _ => none }
def policyPlaysRow : OpenClaim := { program := "ytmhpldnmapjghaa", sum := "62a07a08c6aeb00b9075c5229015aade1b9e0afe638618267abac83da59138bf", func := "quorumite/quorumitelaw15.PolicyPlays", spec := "policyPlays", inPlace := ["sync/atomic.LoadInt64", "sync/atomic.StoreInt64", "sync/atomic.AddInt64"], unfollowed := true, recurses := true, apart := false }
def PolicyPlaysSaid : Prop := policyPlaysRow.holds Try.pinned (OpenSpec.ofChange policyPlaysSpec)

/-- ITS FALSE NEIGHBOUR: 'it returns false'. Refute it at one input. -/
def policyPlaysWrong : ChangeSpec := { name := "policyPlays", fn := fun _ => fun
  | [d1, d2, d3, d4, d5] => { results := [.lit (.bool false)], args := [d1, d2, d3, d4, d5] }
  | _ => none }
def PolicyPlaysWrongFalsely : Prop := policyPlaysRow.holds Try.pinned (OpenSpec.ofChange policyPlaysWrong)

/-- 'quorumitelaw15.PolicyRaw': WHATEVER THE INPUT: true; the input reads as it did. -/
def policyRawSpec : ChangeSpec := { name := "policyRaw", fn := fun _ => fun
  | [d1, d2, d3] => { results := [.lit (.bool true)], args := [d1, d2, d3] }
  | _ => none }
def policyRawRow : OpenClaim := { program := "ytmhpldnmapjghaa", sum := "62a07a08c6aeb00b9075c5229015aade1b9e0afe638618267abac83da59138bf", func := "quorumite/quorumitelaw15.PolicyRaw", spec := "policyRaw", inPlace := ["sync/atomic.LoadInt64", "sync/atomic.StoreInt64", "sync/atomic.AddInt64"], unfollowed := true, recurses := true, apart := false }
def PolicyRawSaid : Prop := policyRawRow.holds Try.pinned (OpenSpec.ofChange policyRawSpec)

/-- ITS FALSE NEIGHBOUR: 'it returns false'. Refute it at one input. -/
def policyRawWrong : ChangeSpec := { name := "policyRaw", fn := fun _ => fun
  | [d1, d2, d3] => { results := [.lit (.bool false)], args := [d1, d2, d3] }
  | _ => none }
def PolicyRawWrongFalsely : Prop := policyRawRow.holds Try.pinned (OpenSpec.ofChange policyRawWrong)

/-- 'quorumitelaw15.PolicyRises': WHATEVER THE INPUT: true; the input reads as it did. -/
def policyRisesSpec : ChangeSpec := { name := "policyRises", fn := fun _ => fun
  | [d1, d2, d3, d4, d5] => { results := [.lit (.bool true)], args := [d1, d2, d3, d4, d5] }
  | _ => none }
def policyRisesRow : OpenClaim := { program := "ytmhpldnmapjghaa", sum := "62a07a08c6aeb00b9075c5229015aade1b9e0afe638618267abac83da59138bf", func := "quorumite/quorumitelaw15.PolicyRises", spec := "policyRises", inPlace := ["sync/atomic.LoadInt64", "sync/atomic.StoreInt64", "sync/atomic.AddInt64"], unfollowed := true, recurses := true, apart := false }
def PolicyRisesSaid : Prop := policyRisesRow.holds Try.pinned (OpenSpec.ofChange policyRisesSpec)

/-- ITS FALSE NEIGHBOUR: 'it returns false'. Refute it at one input. -/
def policyRisesWrong : ChangeSpec := { name := "policyRises", fn := fun _ => fun
  | [d1, d2, d3, d4, d5] => { results := [.lit (.bool false)], args := [d1, d2, d3, d4, d5] }
  | _ => none }
def PolicyRisesWrongFalsely : Prop := policyRisesRow.holds Try.pinned (OpenSpec.ofChange policyRisesWrong)

/-- 'quorumitelaw15.PolicyBase': WHATEVER THE INPUT: true; the input reads as it did. -/
def policyBaseSpec : ChangeSpec := { name := "policyBase", fn := fun _ => fun
  | [d1, d2] => { results := [.lit (.bool true)], args := [d1, d2] }
  | _ => none }
def policyBaseRow : OpenClaim := { program := "ytmhpldnmapjghaa", sum := "62a07a08c6aeb00b9075c5229015aade1b9e0afe638618267abac83da59138bf", func := "quorumite/quorumitelaw15.PolicyBase", spec := "policyBase", inPlace := ["sync/atomic.LoadInt64", "sync/atomic.StoreInt64", "sync/atomic.AddInt64"], unfollowed := true, recurses := true, apart := false }
def PolicyBaseSaid : Prop := policyBaseRow.holds Try.pinned (OpenSpec.ofChange policyBaseSpec)

/-- ITS FALSE NEIGHBOUR: 'it returns false'. Refute it at one input. -/
def policyBaseWrong : ChangeSpec := { name := "policyBase", fn := fun _ => fun
  | [d1, d2] => { results := [.lit (.bool false)], args := [d1, d2] }
  | _ => none }
def PolicyBaseWrongFalsely : Prop := policyBaseRow.holds Try.pinned (OpenSpec.ofChange policyBaseWrong)

/-- 'quorumitelaw15.PolicyWithin': WHATEVER THE INPUT: true; the input reads as it did. -/
def policyWithinSpec : ChangeSpec := { name := "policyWithin", fn := fun _ => fun
  | [d1, d2, d3] => { results := [.lit (.bool true)], args := [d1, d2, d3] }
  | _ => none }
def policyWithinRow : OpenClaim := { program := "ytmhpldnmapjghaa", sum := "62a07a08c6aeb00b9075c5229015aade1b9e0afe638618267abac83da59138bf", func := "quorumite/quorumitelaw15.PolicyWithin", spec := "policyWithin", inPlace := ["sync/atomic.LoadInt64", "sync/atomic.StoreInt64", "sync/atomic.AddInt64"], unfollowed := true, recurses := true, apart := false }
def PolicyWithinSaid : Prop := policyWithinRow.holds Try.pinned (OpenSpec.ofChange policyWithinSpec)

/-- ITS FALSE NEIGHBOUR: 'it returns false'. Refute it at one input. -/
def policyWithinWrong : ChangeSpec := { name := "policyWithin", fn := fun _ => fun
  | [d1, d2, d3] => { results := [.lit (.bool false)], args := [d1, d2, d3] }
  | _ => none }
def PolicyWithinWrongFalsely : Prop := policyWithinRow.holds Try.pinned (OpenSpec.ofChange policyWithinWrong)

/- THE SECOND FORM. 'bulk': how many values and letters a reading holds, each counted each time it is reached (what is shared counts as often as it is met; a slice's spare places count too). A statement '..UptoSaid' is the law's where the arguments, and the package variables that the reading takes, are together of bulk at most 1048576: NARROWER than '..Said'. Prove '..Said' where nothing that the law and all that it calls make is longer than what came in: it says more and counts as full. Else prove '..UptoSaid'. A law counts once. -/
mutual
def uptoBulk {H : Type} : DataW H → Nat
  | .lit (.string bytes) => bytes.length + 1
  | .lit _ => 1
  | .nil => 1
  | .ptr d => uptoBulk d + 1
  | .slice elems spare => uptoBulkAll elems + uptoBulkAll spare + 1
  | .agg parts => uptoBulkAll parts + 1
  | .iface _ d => uptoBulk d + 1
  | .map entries => uptoBulkEntries entries + 1
  | .held _ => 1
def uptoBulkAll {H : Type} : List (DataW H) → Nat
  | [] => 0
  | d :: r => uptoBulk d + uptoBulkAll r
def uptoBulkEntries {H : Type} : List (Lit × DataW H) → Nat
  | [] => 0
  | x :: r => uptoBulkEntry x + uptoBulkEntries r
def uptoBulkEntry {H : Type} : Lit × DataW H → Nat
  | (.string bytes, d) => bytes.length + uptoBulk d + 1
  | (_, d) => uptoBulk d + 1
 end
def uptoSmall : (H : Type) → List (DataW H) → Bool := fun _ ds => decide (uptoBulkAll ds ≤ 1048576)
def OpenSpec.upto (s : _root_.Go.ChangeSpec) : _root_.Go.OpenSpec := { _root_.Go.OpenSpec.ofChange s with cond := some uptoSmall }

/-- 'quorumitelaw15.PolicySets', WHERE WHAT IT READS IS OF BULK AT MOST 1048576: true; the input reads as it did. -/
def policySetsUptoRow : OpenClaim := { program := "ytmhpldnmapjghaa", sum := "62a07a08c6aeb00b9075c5229015aade1b9e0afe638618267abac83da59138bf", func := "quorumite/quorumitelaw15.PolicySets", spec := "policySets", inPlace := ["sync/atomic.LoadInt64", "sync/atomic.StoreInt64", "sync/atomic.AddInt64"], unfollowed := true, recurses := true, apart := false, narrowed := true }
def PolicySetsUptoSaid : Prop := policySetsUptoRow.holds Try.pinned (OpenSpec.upto policySetsSpec)

/-- 'quorumitelaw15.PolicyPlays', WHERE WHAT IT READS IS OF BULK AT MOST 1048576: true; the input reads as it did. -/
def policyPlaysUptoRow : OpenClaim := { program := "ytmhpldnmapjghaa", sum := "62a07a08c6aeb00b9075c5229015aade1b9e0afe638618267abac83da59138bf", func := "quorumite/quorumitelaw15.PolicyPlays", spec := "policyPlays", inPlace := ["sync/atomic.LoadInt64", "sync/atomic.StoreInt64", "sync/atomic.AddInt64"], unfollowed := true, recurses := true, apart := false, narrowed := true }
def PolicyPlaysUptoSaid : Prop := policyPlaysUptoRow.holds Try.pinned (OpenSpec.upto policyPlaysSpec)

/-- 'quorumitelaw15.PolicyRaw', WHERE WHAT IT READS IS OF BULK AT MOST 1048576: true; the input reads as it did. -/
def policyRawUptoRow : OpenClaim := { program := "ytmhpldnmapjghaa", sum := "62a07a08c6aeb00b9075c5229015aade1b9e0afe638618267abac83da59138bf", func := "quorumite/quorumitelaw15.PolicyRaw", spec := "policyRaw", inPlace := ["sync/atomic.LoadInt64", "sync/atomic.StoreInt64", "sync/atomic.AddInt64"], unfollowed := true, recurses := true, apart := false, narrowed := true }
def PolicyRawUptoSaid : Prop := policyRawUptoRow.holds Try.pinned (OpenSpec.upto policyRawSpec)

/-- 'quorumitelaw15.PolicyRises', WHERE WHAT IT READS IS OF BULK AT MOST 1048576: true; the input reads as it did. -/
def policyRisesUptoRow : OpenClaim := { program := "ytmhpldnmapjghaa", sum := "62a07a08c6aeb00b9075c5229015aade1b9e0afe638618267abac83da59138bf", func := "quorumite/quorumitelaw15.PolicyRises", spec := "policyRises", inPlace := ["sync/atomic.LoadInt64", "sync/atomic.StoreInt64", "sync/atomic.AddInt64"], unfollowed := true, recurses := true, apart := false, narrowed := true }
def PolicyRisesUptoSaid : Prop := policyRisesUptoRow.holds Try.pinned (OpenSpec.upto policyRisesSpec)

/-- 'quorumitelaw15.PolicyBase', WHERE WHAT IT READS IS OF BULK AT MOST 1048576: true; the input reads as it did. -/
def policyBaseUptoRow : OpenClaim := { program := "ytmhpldnmapjghaa", sum := "62a07a08c6aeb00b9075c5229015aade1b9e0afe638618267abac83da59138bf", func := "quorumite/quorumitelaw15.PolicyBase", spec := "policyBase", inPlace := ["sync/atomic.LoadInt64", "sync/atomic.StoreInt64", "sync/atomic.AddInt64"], unfollowed := true, recurses := true, apart := false, narrowed := true }
def PolicyBaseUptoSaid : Prop := policyBaseUptoRow.holds Try.pinned (OpenSpec.upto policyBaseSpec)

/-- 'quorumitelaw15.PolicyWithin', WHERE WHAT IT READS IS OF BULK AT MOST 1048576: true; the input reads as it did. -/
def policyWithinUptoRow : OpenClaim := { program := "ytmhpldnmapjghaa", sum := "62a07a08c6aeb00b9075c5229015aade1b9e0afe638618267abac83da59138bf", func := "quorumite/quorumitelaw15.PolicyWithin", spec := "policyWithin", inPlace := ["sync/atomic.LoadInt64", "sync/atomic.StoreInt64", "sync/atomic.AddInt64"], unfollowed := true, recurses := true, apart := false, narrowed := true }
def PolicyWithinUptoSaid : Prop := policyWithinUptoRow.holds Try.pinned (OpenSpec.upto policyWithinSpec)

end Rows
end Go.Proofs.Ytmhpldnmapjghaa
