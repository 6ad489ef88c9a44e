/-
  No cell of these rows narrows 'for every input' (looked for: loops, veiled, ifaces, maps, wideKeys, modest, calm, conditions, laid).
  DERIVED. THE GIVEN ROWS OF THIS SEAT. 5 by the template 'for every input the law returns true; each argument reads behind the call as it read before'; 0 by the template 'total and deterministic' (their statements: YtopeceicmpblkaaTotals.lean).
  GIVEN WITH THE SEED: the statements are not yours to turn. If you find one false, say at which input.
  Laid BY PROGRAM, IN A SANDBOX (cutbox-rows.mjs): the forced cells as the released guide's own fill.sh prints them over the translation f2b3bd126bbbbac2… (all of the seat's roots in one cut). By AI agents, Wed Nov 11 2026. No macro, syntax, notation, axiom, sorry.
-/
import Derived.Test.YtopeceicmpblkaaChecked
import GoSem.Claim
import GoSem.ClaimJoined
import GoSem.ClaimMapViews
import Derived.JoinedTies
import Derived.KernelRfl
namespace Go.Proofs.Ytopeceicmpblkaa
/- THE CELL 'sum', in the pinned program and in every row, IS THE sha256 OF THE DUMP (.gsa) THAT YtopeceicmpblkaaProg.lean LOADS. Nothing in Lean hashes anything: it is a label: what it is worth is what the hold of that sum in a sandbox is worth. -/
noncomputable def Try.pinned : Pinned := { name := "ytopeceicmpblkaa", sum := "f2b3bd126bbbbac24c271adfb03106d7d15fa8572aa089673b18e4287983c568", checked := Try.checked }
namespace Rows
def none {H : Type} : Left H := { results := [], args := [] }

/-- 'quorumitelaw10.TrimAsks': WHATEVER THE INPUT: true; the input reads as it did. -/
def trimAsksSpec : ChangeSpec := { name := "trimAsks", fn := fun _ => fun
  | [d1, d2, d3, d4] => { results := [.lit (.bool true)], args := [d1, d2, d3, d4] }
  | _ => none }
def trimAsksRow : OpenClaim := { program := "ytopeceicmpblkaa", sum := "f2b3bd126bbbbac24c271adfb03106d7d15fa8572aa089673b18e4287983c568", func := "quorumite/quorumitelaw10.TrimAsks", spec := "trimAsks", inPlace := ["sync/atomic.AddInt64", "sync/atomic.LoadInt64"], unfollowed := true, recurses := true, apart := false }
def TrimAsksSaid : Prop := trimAsksRow.holds Try.pinned (OpenSpec.ofChange trimAsksSpec)

/-- ITS FALSE NEIGHBOUR: 'it returns false'. Refute it at one input. -/
def trimAsksWrong : ChangeSpec := { name := "trimAsks", fn := fun _ => fun
  | [d1, d2, d3, d4] => { results := [.lit (.bool false)], args := [d1, d2, d3, d4] }
  | _ => none }
def TrimAsksWrongFalsely : Prop := trimAsksRow.holds Try.pinned (OpenSpec.ofChange trimAsksWrong)

/-- 'quorumitelaw10.TrimLiars': WHATEVER THE INPUT: true; the input reads as it did. -/
def trimLiarsSpec : ChangeSpec := { name := "trimLiars", fn := fun _ => fun
  | [d1, d2, d3] => { results := [.lit (.bool true)], args := [d1, d2, d3] }
  | _ => none }
def trimLiarsRow : OpenClaim := { program := "ytopeceicmpblkaa", sum := "f2b3bd126bbbbac24c271adfb03106d7d15fa8572aa089673b18e4287983c568", func := "quorumite/quorumitelaw10.TrimLiars", spec := "trimLiars", inPlace := ["sync/atomic.AddInt64", "sync/atomic.LoadInt64"], unfollowed := true, recurses := true, apart := false }
def TrimLiarsSaid : Prop := trimLiarsRow.holds Try.pinned (OpenSpec.ofChange trimLiarsSpec)

/-- ITS FALSE NEIGHBOUR: 'it returns false'. Refute it at one input. -/
def trimLiarsWrong : ChangeSpec := { name := "trimLiars", fn := fun _ => fun
  | [d1, d2, d3] => { results := [.lit (.bool false)], args := [d1, d2, d3] }
  | _ => none }
def TrimLiarsWrongFalsely : Prop := trimLiarsRow.holds Try.pinned (OpenSpec.ofChange trimLiarsWrong)

/-- 'quorumitelaw10.TrimRises': WHATEVER THE INPUT: true; the input reads as it did. -/
def trimRisesSpec : ChangeSpec := { name := "trimRises", fn := fun _ => fun
  | [d1, d2, d3] => { results := [.lit (.bool true)], args := [d1, d2, d3] }
  | _ => none }
def trimRisesRow : OpenClaim := { program := "ytopeceicmpblkaa", sum := "f2b3bd126bbbbac24c271adfb03106d7d15fa8572aa089673b18e4287983c568", func := "quorumite/quorumitelaw10.TrimRises", spec := "trimRises", inPlace := ["sync/atomic.AddInt64", "sync/atomic.LoadInt64"], unfollowed := true, recurses := true, apart := false }
def TrimRisesSaid : Prop := trimRisesRow.holds Try.pinned (OpenSpec.ofChange trimRisesSpec)

/-- ITS FALSE NEIGHBOUR: 'it returns false'. Refute it at one input. -/
def trimRisesWrong : ChangeSpec := { name := "trimRises", fn := fun _ => fun
  | [d1, d2, d3] => { results := [.lit (.bool false)], args := [d1, d2, d3] }
  | _ => none }
def TrimRisesWrongFalsely : Prop := trimRisesRow.holds Try.pinned (OpenSpec.ofChange trimRisesWrong)

/-- 'quorumitelaw10.TrimLike': WHATEVER THE INPUT: true; the input reads as it did. -/
def trimLikeSpec : ChangeSpec := { name := "trimLike", fn := fun _ => fun
  | [d1, d2, d3] => { results := [.lit (.bool true)], args := [d1, d2, d3] }
  | _ => none }
def trimLikeRow : OpenClaim := { program := "ytopeceicmpblkaa", sum := "f2b3bd126bbbbac24c271adfb03106d7d15fa8572aa089673b18e4287983c568", func := "quorumite/quorumitelaw10.TrimLike", spec := "trimLike", inPlace := ["sync/atomic.AddInt64", "sync/atomic.LoadInt64"], unfollowed := true, recurses := true, apart := false }
def TrimLikeSaid : Prop := trimLikeRow.holds Try.pinned (OpenSpec.ofChange trimLikeSpec)

/-- ITS FALSE NEIGHBOUR: 'it returns false'. Refute it at one input. -/
def trimLikeWrong : ChangeSpec := { name := "trimLike", fn := fun _ => fun
  | [d1, d2, d3] => { results := [.lit (.bool false)], args := [d1, d2, d3] }
  | _ => none }
def TrimLikeWrongFalsely : Prop := trimLikeRow.holds Try.pinned (OpenSpec.ofChange trimLikeWrong)

/-- 'quorumitelaw10.TrimSpans': WHATEVER THE INPUT: true; the input reads as it did. -/
def trimSpansSpec : ChangeSpec := { name := "trimSpans", fn := fun _ => fun
  | [d1, d2] => { results := [.lit (.bool true)], args := [d1, d2] }
  | _ => none }
def trimSpansRow : OpenClaim := { program := "ytopeceicmpblkaa", sum := "f2b3bd126bbbbac24c271adfb03106d7d15fa8572aa089673b18e4287983c568", func := "quorumite/quorumitelaw10.TrimSpans", spec := "trimSpans", inPlace := ["sync/atomic.AddInt64", "sync/atomic.LoadInt64"], unfollowed := true, recurses := true, apart := false }
def TrimSpansSaid : Prop := trimSpansRow.holds Try.pinned (OpenSpec.ofChange trimSpansSpec)

/-- ITS FALSE NEIGHBOUR: 'it returns false'. Refute it at one input. -/
def trimSpansWrong : ChangeSpec := { name := "trimSpans", fn := fun _ => fun
  | [d1, d2] => { results := [.lit (.bool false)], args := [d1, d2] }
  | _ => none }
def TrimSpansWrongFalsely : Prop := trimSpansRow.holds Try.pinned (OpenSpec.ofChange trimSpansWrong)

/- THE SECOND FORM. 'bulk': how many values and letters a reading holds, each counted each time it is reached (what is shared counts as often as it is met; a slice's spare places count too). A statement '..UptoSaid' is the law's where the arguments, and the package variables that the reading takes, are together of bulk at most 1048576: NARROWER than '..Said'. Prove '..Said' where nothing that the law and all that it calls make is longer than what came in: it says more and counts as full. Else prove '..UptoSaid'. A law counts once. -/
mutual
def uptoBulk {H : Type} : DataW H → Nat
  | .lit (.string bytes) => bytes.length + 1
  | .lit _ => 1
  | .nil => 1
  | .ptr d => uptoBulk d + 1
  | .slice elems spare => uptoBulkAll elems + uptoBulkAll spare + 1
  | .agg parts => uptoBulkAll parts + 1
  | .iface _ d => uptoBulk d + 1
  | .map entries => uptoBulkEntries entries + 1
  | .held _ => 1
def uptoBulkAll {H : Type} : List (DataW H) → Nat
  | [] => 0
  | d :: r => uptoBulk d + uptoBulkAll r
def uptoBulkEntries {H : Type} : List (Lit × DataW H) → Nat
  | [] => 0
  | x :: r => uptoBulkEntry x + uptoBulkEntries r
def uptoBulkEntry {H : Type} : Lit × DataW H → Nat
  | (.string bytes, d) => bytes.length + uptoBulk d + 1
  | (_, d) => uptoBulk d + 1
 end
def uptoSmall : (H : Type) → List (DataW H) → Bool := fun _ ds => decide (uptoBulkAll ds ≤ 1048576)
def OpenSpec.upto (s : _root_.Go.ChangeSpec) : _root_.Go.OpenSpec := { _root_.Go.OpenSpec.ofChange s with cond := some uptoSmall }

/-- 'quorumitelaw10.TrimAsks', WHERE WHAT IT READS IS OF BULK AT MOST 1048576: true; the input reads as it did. -/
def trimAsksUptoRow : OpenClaim := { program := "ytopeceicmpblkaa", sum := "f2b3bd126bbbbac24c271adfb03106d7d15fa8572aa089673b18e4287983c568", func := "quorumite/quorumitelaw10.TrimAsks", spec := "trimAsks", inPlace := ["sync/atomic.AddInt64", "sync/atomic.LoadInt64"], unfollowed := true, recurses := true, apart := false, narrowed := true }
def TrimAsksUptoSaid : Prop := trimAsksUptoRow.holds Try.pinned (OpenSpec.upto trimAsksSpec)

/-- 'quorumitelaw10.TrimLiars', WHERE WHAT IT READS IS OF BULK AT MOST 1048576: true; the input reads as it did. -/
def trimLiarsUptoRow : OpenClaim := { program := "ytopeceicmpblkaa", sum := "f2b3bd126bbbbac24c271adfb03106d7d15fa8572aa089673b18e4287983c568", func := "quorumite/quorumitelaw10.TrimLiars", spec := "trimLiars", inPlace := ["sync/atomic.AddInt64", "sync/atomic.LoadInt64"], unfollowed := true, recurses := true, apart := false, narrowed := true }
def TrimLiarsUptoSaid : Prop := trimLiarsUptoRow.holds Try.pinned (OpenSpec.upto trimLiarsSpec)

/-- 'quorumitelaw10.TrimRises', WHERE WHAT IT READS IS OF BULK AT MOST 1048576: true; the input reads as it did. -/
def trimRisesUptoRow : OpenClaim := { program := "ytopeceicmpblkaa", sum := "f2b3bd126bbbbac24c271adfb03106d7d15fa8572aa089673b18e4287983c568", func := "quorumite/quorumitelaw10.TrimRises", spec := "trimRises", inPlace := ["sync/atomic.AddInt64", "sync/atomic.LoadInt64"], unfollowed := true, recurses := true, apart := false, narrowed := true }
def TrimRisesUptoSaid : Prop := trimRisesUptoRow.holds Try.pinned (OpenSpec.upto trimRisesSpec)

/-- 'quorumitelaw10.TrimLike', WHERE WHAT IT READS IS OF BULK AT MOST 1048576: true; the input reads as it did. -/
def trimLikeUptoRow : OpenClaim := { program := "ytopeceicmpblkaa", sum := "f2b3bd126bbbbac24c271adfb03106d7d15fa8572aa089673b18e4287983c568", func := "quorumite/quorumitelaw10.TrimLike", spec := "trimLike", inPlace := ["sync/atomic.AddInt64", "sync/atomic.LoadInt64"], unfollowed := true, recurses := true, apart := false, narrowed := true }
def TrimLikeUptoSaid : Prop := trimLikeUptoRow.holds Try.pinned (OpenSpec.upto trimLikeSpec)

/-- 'quorumitelaw10.TrimSpans', WHERE WHAT IT READS IS OF BULK AT MOST 1048576: true; the input reads as it did. -/
def trimSpansUptoRow : OpenClaim := { program := "ytopeceicmpblkaa", sum := "f2b3bd126bbbbac24c271adfb03106d7d15fa8572aa089673b18e4287983c568", func := "quorumite/quorumitelaw10.TrimSpans", spec := "trimSpans", inPlace := ["sync/atomic.AddInt64", "sync/atomic.LoadInt64"], unfollowed := true, recurses := true, apart := false, narrowed := true }
def TrimSpansUptoSaid : Prop := trimSpansUptoRow.holds Try.pinned (OpenSpec.upto trimSpansSpec)

end Rows
end Go.Proofs.Ytopeceicmpblkaa
