/-
  No cell of these rows narrows 'for every input' (looked for: loops, veiled, ifaces, maps, wideKeys, modest, calm, conditions, laid).
  DERIVED. THE GIVEN ROWS OF THIS SEAT. 5 by the template 'for every input the law returns true; each argument reads behind the call as it read before'; 0 by the template 'total and deterministic' (their statements: YtnpaecbdejemnaaTotals.lean).
  GIVEN WITH THE SEED: the statements are not yours to turn. If you find one false, say at which input.
  Laid BY PROGRAM, IN A SANDBOX (cutbox-rows.mjs): the forced cells as the released guide's own fill.sh prints them over the translation fdf917af29bf82d8… (all of the seat's roots in one cut). By AI agents, Wed Nov 11 2026. No macro, syntax, notation, axiom, sorry.
-/
import Derived.Test.YtnpaecbdejemnaaChecked
import GoSem.Claim
import GoSem.ClaimJoined
import GoSem.ClaimMapViews
import Derived.JoinedTies
import Derived.KernelRfl
namespace Go.Proofs.Ytnpaecbdejemnaa
/- THE CELL 'sum', in the pinned program and in every row, IS THE sha256 OF THE DUMP (.gsa) THAT YtnpaecbdejemnaaProg.lean LOADS. Nothing in Lean hashes anything: it is a label: what it is worth is what the hold of that sum in a sandbox is worth. -/
noncomputable def Try.pinned : Pinned := { name := "ytnpaecbdejemnaa", sum := "fdf917af29bf82d88f33d30d844be5db63a55c289a780572c0cfc8beecbf2688", checked := Try.checked }
namespace Rows
def none {H : Type} : Left H := { results := [], args := [] }

/-- 'quorumitelaw14.CalmSets': WHATEVER THE INPUT: true; the input reads as it did. -/
def calmSetsSpec : ChangeSpec := { name := "calmSets", fn := fun _ => fun
  | [d1, d2, d3, d4] => { results := [.lit (.bool true)], args := [d1, d2, d3, d4] }
  | _ => none }
def calmSetsRow : OpenClaim := { program := "ytnpaecbdejemnaa", sum := "fdf917af29bf82d88f33d30d844be5db63a55c289a780572c0cfc8beecbf2688", func := "quorumite/quorumitelaw14.CalmSets", spec := "calmSets", inPlace := ["sync/atomic.LoadInt64", "sync/atomic.AddInt64", "sync/atomic.StoreInt64"], unfollowed := true, recurses := true, apart := false }
def CalmSetsSaid : Prop := calmSetsRow.holds Try.pinned (OpenSpec.ofChange calmSetsSpec)

/-- ITS FALSE NEIGHBOUR: 'it returns false'. Refute it at one input. -/
def calmSetsWrong : ChangeSpec := { name := "calmSets", fn := fun _ => fun
  | [d1, d2, d3, d4] => { results := [.lit (.bool false)], args := [d1, d2, d3, d4] }
  | _ => none }
def CalmSetsWrongFalsely : Prop := calmSetsRow.holds Try.pinned (OpenSpec.ofChange calmSetsWrong)

/-- 'quorumitelaw14.CalmPlays': WHATEVER THE INPUT: true; the input reads as it did. -/
def calmPlaysSpec : ChangeSpec := { name := "calmPlays", fn := fun _ => fun
  | [d1, d2, d3, d4, d5] => { results := [.lit (.bool true)], args := [d1, d2, d3, d4, d5] }
  | _ => none }
def calmPlaysRow : OpenClaim := { program := "ytnpaecbdejemnaa", sum := "fdf917af29bf82d88f33d30d844be5db63a55c289a780572c0cfc8beecbf2688", func := "quorumite/quorumitelaw14.CalmPlays", spec := "calmPlays", inPlace := ["sync/atomic.LoadInt64", "sync/atomic.AddInt64", "sync/atomic.StoreInt64"], unfollowed := true, recurses := true, apart := false }
def CalmPlaysSaid : Prop := calmPlaysRow.holds Try.pinned (OpenSpec.ofChange calmPlaysSpec)

/-- ITS FALSE NEIGHBOUR: 'it returns false'. Refute it at one input. -/
def calmPlaysWrong : ChangeSpec := { name := "calmPlays", fn := fun _ => fun
  | [d1, d2, d3, d4, d5] => { results := [.lit (.bool false)], args := [d1, d2, d3, d4, d5] }
  | _ => none }
def CalmPlaysWrongFalsely : Prop := calmPlaysRow.holds Try.pinned (OpenSpec.ofChange calmPlaysWrong)

/-- 'quorumitelaw14.CalmRises': WHATEVER THE INPUT: true; the input reads as it did. -/
def calmRisesSpec : ChangeSpec := { name := "calmRises", fn := fun _ => fun
  | [d1, d2, d3, d4, d5] => { results := [.lit (.bool true)], args := [d1, d2, d3, d4, d5] }
  | _ => none }
def calmRisesRow : OpenClaim := { program := "ytnpaecbdejemnaa", sum := "fdf917af29bf82d88f33d30d844be5db63a55c289a780572c0cfc8beecbf2688", func := "quorumite/quorumitelaw14.CalmRises", spec := "calmRises", inPlace := ["sync/atomic.LoadInt64", "sync/atomic.AddInt64", "sync/atomic.StoreInt64"], unfollowed := true, recurses := true, apart := false }
def CalmRisesSaid : Prop := calmRisesRow.holds Try.pinned (OpenSpec.ofChange calmRisesSpec)

/-- ITS FALSE NEIGHBOUR: 'it returns false'. Refute it at one input. -/
def calmRisesWrong : ChangeSpec := { name := "calmRises", fn := fun _ => fun
  | [d1, d2, d3, d4, d5] => { results := [.lit (.bool false)], args := [d1, d2, d3, d4, d5] }
  | _ => none }
def CalmRisesWrongFalsely : Prop := calmRisesRow.holds Try.pinned (OpenSpec.ofChange calmRisesWrong)

/-- 'quorumitelaw14.CalmSteady': WHATEVER THE INPUT: true; the input reads as it did. -/
def calmSteadySpec : ChangeSpec := { name := "calmSteady", fn := fun _ => fun
  | [d1, d2, d3, d4] => { results := [.lit (.bool true)], args := [d1, d2, d3, d4] }
  | _ => none }
def calmSteadyRow : OpenClaim := { program := "ytnpaecbdejemnaa", sum := "fdf917af29bf82d88f33d30d844be5db63a55c289a780572c0cfc8beecbf2688", func := "quorumite/quorumitelaw14.CalmSteady", spec := "calmSteady", inPlace := ["sync/atomic.LoadInt64", "sync/atomic.AddInt64", "sync/atomic.StoreInt64"], unfollowed := true, recurses := true, apart := false }
def CalmSteadySaid : Prop := calmSteadyRow.holds Try.pinned (OpenSpec.ofChange calmSteadySpec)

/-- ITS FALSE NEIGHBOUR: 'it returns false'. Refute it at one input. -/
def calmSteadyWrong : ChangeSpec := { name := "calmSteady", fn := fun _ => fun
  | [d1, d2, d3, d4] => { results := [.lit (.bool false)], args := [d1, d2, d3, d4] }
  | _ => none }
def CalmSteadyWrongFalsely : Prop := calmSteadyRow.holds Try.pinned (OpenSpec.ofChange calmSteadyWrong)

/-- 'quorumitelaw14.CalmBetween': WHATEVER THE INPUT: true; the input reads as it did. -/
def calmBetweenSpec : ChangeSpec := { name := "calmBetween", fn := fun _ => fun
  | [d1, d2, d3, d4] => { results := [.lit (.bool true)], args := [d1, d2, d3, d4] }
  | _ => none }
def calmBetweenRow : OpenClaim := { program := "ytnpaecbdejemnaa", sum := "fdf917af29bf82d88f33d30d844be5db63a55c289a780572c0cfc8beecbf2688", func := "quorumite/quorumitelaw14.CalmBetween", spec := "calmBetween", inPlace := ["sync/atomic.LoadInt64", "sync/atomic.AddInt64", "sync/atomic.StoreInt64"], unfollowed := true, recurses := true, apart := false }
def CalmBetweenSaid : Prop := calmBetweenRow.holds Try.pinned (OpenSpec.ofChange calmBetweenSpec)

/-- ITS FALSE NEIGHBOUR: 'it returns false'. Refute it at one input. -/
def calmBetweenWrong : ChangeSpec := { name := "calmBetween", fn := fun _ => fun
  | [d1, d2, d3, d4] => { results := [.lit (.bool false)], args := [d1, d2, d3, d4] }
  | _ => none }
def CalmBetweenWrongFalsely : Prop := calmBetweenRow.holds Try.pinned (OpenSpec.ofChange calmBetweenWrong)

/- THE SECOND FORM. 'bulk': how many values and letters a reading holds, each counted each time it is reached (what is shared counts as often as it is met; a slice's spare places count too). A statement '..UptoSaid' is the law's where the arguments, and the package variables that the reading takes, are together of bulk at most 1048576: NARROWER than '..Said'. Prove '..Said' where nothing that the law and all that it calls make is longer than what came in: it says more and counts as full. Else prove '..UptoSaid'. A law counts once. -/
mutual
def uptoBulk {H : Type} : DataW H → Nat
  | .lit (.string bytes) => bytes.length + 1
  | .lit _ => 1
  | .nil => 1
  | .ptr d => uptoBulk d + 1
  | .slice elems spare => uptoBulkAll elems + uptoBulkAll spare + 1
  | .agg parts => uptoBulkAll parts + 1
  | .iface _ d => uptoBulk d + 1
  | .map entries => uptoBulkEntries entries + 1
  | .held _ => 1
def uptoBulkAll {H : Type} : List (DataW H) → Nat
  | [] => 0
  | d :: r => uptoBulk d + uptoBulkAll r
def uptoBulkEntries {H : Type} : List (Lit × DataW H) → Nat
  | [] => 0
  | x :: r => uptoBulkEntry x + uptoBulkEntries r
def uptoBulkEntry {H : Type} : Lit × DataW H → Nat
  | (.string bytes, d) => bytes.length + uptoBulk d + 1
  | (_, d) => uptoBulk d + 1
 end
def uptoSmall : (H : Type) → List (DataW H) → Bool := fun _ ds => decide (uptoBulkAll ds ≤ 1048576)
def OpenSpec.upto (s : _root_.Go.ChangeSpec) : _root_.Go.OpenSpec := { _root_.Go.OpenSpec.ofChange s with cond := some uptoSmall }

/-- 'quorumitelaw14.CalmSets', WHERE WHAT IT READS IS OF BULK AT MOST 1048576: true; the input reads as it did. -/
def calmSetsUptoRow : OpenClaim := { program := "ytnpaecbdejemnaa", sum := "fdf917af29bf82d88f33d30d844be5db63a55c289a780572c0cfc8beecbf2688", func := "quorumite/quorumitelaw14.CalmSets", spec := "calmSets", inPlace := ["sync/atomic.LoadInt64", "sync/atomic.AddInt64", "sync/atomic.StoreInt64"], unfollowed := true, recurses := true, apart := false, narrowed := true }
def CalmSetsUptoSaid : Prop := calmSetsUptoRow.holds Try.pinned (OpenSpec.upto calmSetsSpec)

/-- 'quorumitelaw14.CalmPlays', WHERE WHAT IT READS IS OF BULK AT MOST 1048576: true; the input reads as it did. -/
def calmPlaysUptoRow : OpenClaim := { program := "ytnpaecbdejemnaa", sum := "fdf917af29bf82d88f33d30d844be5db63a55c289a780572c0cfc8beecbf2688", func := "quorumite/quorumitelaw14.CalmPlays", spec := "calmPlays", inPlace := ["sync/atomic.LoadInt64", "sync/atomic.AddInt64", "sync/atomic.StoreInt64"], unfollowed := true, recurses := true, apart := false, narrowed := true }
def CalmPlaysUptoSaid : Prop := calmPlaysUptoRow.holds Try.pinned (OpenSpec.upto calmPlaysSpec)

/-- 'quorumitelaw14.CalmRises', WHERE WHAT IT READS IS OF BULK AT MOST 1048576: true; the input reads as it did. -/
def calmRisesUptoRow : OpenClaim := { program := "ytnpaecbdejemnaa", sum := "fdf917af29bf82d88f33d30d844be5db63a55c289a780572c0cfc8beecbf2688", func := "quorumite/quorumitelaw14.CalmRises", spec := "calmRises", inPlace := ["sync/atomic.LoadInt64", "sync/atomic.AddInt64", "sync/atomic.StoreInt64"], unfollowed := true, recurses := true, apart := false, narrowed := true }
def CalmRisesUptoSaid : Prop := calmRisesUptoRow.holds Try.pinned (OpenSpec.upto calmRisesSpec)

/-- 'quorumitelaw14.CalmSteady', WHERE WHAT IT READS IS OF BULK AT MOST 1048576: true; the input reads as it did. -/
def calmSteadyUptoRow : OpenClaim := { program := "ytnpaecbdejemnaa", sum := "fdf917af29bf82d88f33d30d844be5db63a55c289a780572c0cfc8beecbf2688", func := "quorumite/quorumitelaw14.CalmSteady", spec := "calmSteady", inPlace := ["sync/atomic.LoadInt64", "sync/atomic.AddInt64", "sync/atomic.StoreInt64"], unfollowed := true, recurses := true, apart := false, narrowed := true }
def CalmSteadyUptoSaid : Prop := calmSteadyUptoRow.holds Try.pinned (OpenSpec.upto calmSteadySpec)

/-- 'quorumitelaw14.CalmBetween', WHERE WHAT IT READS IS OF BULK AT MOST 1048576: true; the input reads as it did. -/
def calmBetweenUptoRow : OpenClaim := { program := "ytnpaecbdejemnaa", sum := "fdf917af29bf82d88f33d30d844be5db63a55c289a780572c0cfc8beecbf2688", func := "quorumite/quorumitelaw14.CalmBetween", spec := "calmBetween", inPlace := ["sync/atomic.LoadInt64", "sync/atomic.AddInt64", "sync/atomic.StoreInt64"], unfollowed := true, recurses := true, apart := false, narrowed := true }
def CalmBetweenUptoSaid : Prop := calmBetweenUptoRow.holds Try.pinned (OpenSpec.upto calmBetweenSpec)

end Rows
end Go.Proofs.Ytnpaecbdejemnaa
