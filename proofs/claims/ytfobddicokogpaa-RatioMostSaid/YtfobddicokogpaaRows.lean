/-
  No cell of these rows narrows 'for every input' (looked for: loops, veiled, ifaces, maps, wideKeys, modest, calm, conditions, laid).
  DERIVED. THE GIVEN ROWS OF THIS SEAT. 6 by the template 'for every input the law returns true; each argument reads behind the call as it read before'; 0 by the template 'total and deterministic' (their statements: YtfobddicokogpaaTotals.lean).
  GIVEN WITH THE SEED: the statements are not yours to turn. If you find one false, say at which input.
  Laid BY PROGRAM, IN A SANDBOX (cutbox-rows.mjs): the forced cells as the released guide's own fill.sh prints them over the translation 2979d6f734ab1a1d… (all of the seat's roots in one cut). By AI agents, Wed Nov 11 2026. No macro, syntax, notation, axiom, sorry.
-/
import Derived.Test.YtfobddicokogpaaChecked
import GoSem.Claim
import GoSem.ClaimJoined
import GoSem.ClaimMapViews
import Derived.JoinedTies
import Derived.KernelRfl
namespace Go.Proofs.Ytfobddicokogpaa
/- THE CELL 'sum', in the pinned program and in every row, IS THE sha256 OF THE DUMP (.gsa) THAT YtfobddicokogpaaProg.lean LOADS. Nothing in Lean hashes anything: it is a label: what it is worth is what the hold of that sum in a sandbox is worth. -/
noncomputable def Try.pinned : Pinned := { name := "ytfobddicokogpaa", sum := "2979d6f734ab1a1d10f342abdf5103092d8cf0a902c90a24b079cc6f6719eb44", checked := Try.checked }
namespace Rows
def none {H : Type} : Left H := { results := [], args := [] }

/-- 'quorumitelaw13.RatioAsks': WHATEVER THE INPUT: true; the input reads as it did. -/
def ratioAsksSpec : ChangeSpec := { name := "ratioAsks", fn := fun _ => fun
  | [d1, d2, d3, d4, d5, d6] => { results := [.lit (.bool true)], args := [d1, d2, d3, d4, d5, d6] }
  | _ => none }
def ratioAsksRow : OpenClaim := { program := "ytfobddicokogpaa", sum := "2979d6f734ab1a1d10f342abdf5103092d8cf0a902c90a24b079cc6f6719eb44", func := "quorumite/quorumitelaw13.RatioAsks", spec := "ratioAsks", inPlace := ["sync/atomic.LoadInt64", "sync/atomic.AddInt64"], apart := false }
def RatioAsksSaid : Prop := ratioAsksRow.holds Try.pinned (OpenSpec.ofChange ratioAsksSpec)

/-- ITS FALSE NEIGHBOUR: 'it returns false'. Refute it at one input. -/
def ratioAsksWrong : ChangeSpec := { name := "ratioAsks", fn := fun _ => fun
  | [d1, d2, d3, d4, d5, d6] => { results := [.lit (.bool false)], args := [d1, d2, d3, d4, d5, d6] }
  | _ => none }
def RatioAsksWrongFalsely : Prop := ratioAsksRow.holds Try.pinned (OpenSpec.ofChange ratioAsksWrong)

/-- 'quorumitelaw13.RatioRises': WHATEVER THE INPUT: true; the input reads as it did. -/
def ratioRisesSpec : ChangeSpec := { name := "ratioRises", fn := fun _ => fun
  | [d1, d2, d3, d4, d5, d6] => { results := [.lit (.bool true)], args := [d1, d2, d3, d4, d5, d6] }
  | _ => none }
def ratioRisesRow : OpenClaim := { program := "ytfobddicokogpaa", sum := "2979d6f734ab1a1d10f342abdf5103092d8cf0a902c90a24b079cc6f6719eb44", func := "quorumite/quorumitelaw13.RatioRises", spec := "ratioRises", inPlace := ["sync/atomic.LoadInt64", "sync/atomic.AddInt64"], apart := false }
def RatioRisesSaid : Prop := ratioRisesRow.holds Try.pinned (OpenSpec.ofChange ratioRisesSpec)

/-- ITS FALSE NEIGHBOUR: 'it returns false'. Refute it at one input. -/
def ratioRisesWrong : ChangeSpec := { name := "ratioRises", fn := fun _ => fun
  | [d1, d2, d3, d4, d5, d6] => { results := [.lit (.bool false)], args := [d1, d2, d3, d4, d5, d6] }
  | _ => none }
def RatioRisesWrongFalsely : Prop := ratioRisesRow.holds Try.pinned (OpenSpec.ofChange ratioRisesWrong)

/-- 'quorumitelaw13.RatioBand': WHATEVER THE INPUT: true; the input reads as it did. -/
def ratioBandSpec : ChangeSpec := { name := "ratioBand", fn := fun _ => fun
  | [d1, d2, d3, d4] => { results := [.lit (.bool true)], args := [d1, d2, d3, d4] }
  | _ => none }
def ratioBandRow : OpenClaim := { program := "ytfobddicokogpaa", sum := "2979d6f734ab1a1d10f342abdf5103092d8cf0a902c90a24b079cc6f6719eb44", func := "quorumite/quorumitelaw13.RatioBand", spec := "ratioBand", inPlace := ["sync/atomic.LoadInt64", "sync/atomic.AddInt64"], apart := false }
def RatioBandSaid : Prop := ratioBandRow.holds Try.pinned (OpenSpec.ofChange ratioBandSpec)

/-- ITS FALSE NEIGHBOUR: 'it returns false'. Refute it at one input. -/
def ratioBandWrong : ChangeSpec := { name := "ratioBand", fn := fun _ => fun
  | [d1, d2, d3, d4] => { results := [.lit (.bool false)], args := [d1, d2, d3, d4] }
  | _ => none }
def RatioBandWrongFalsely : Prop := ratioBandRow.holds Try.pinned (OpenSpec.ofChange ratioBandWrong)

/-- 'quorumitelaw13.RatioMost': WHATEVER THE INPUT: true; the input reads as it did. -/
def ratioMostSpec : ChangeSpec := { name := "ratioMost", fn := fun _ => fun
  | [d1, d2, d3, d4] => { results := [.lit (.bool true)], args := [d1, d2, d3, d4] }
  | _ => none }
def ratioMostRow : OpenClaim := { program := "ytfobddicokogpaa", sum := "2979d6f734ab1a1d10f342abdf5103092d8cf0a902c90a24b079cc6f6719eb44", func := "quorumite/quorumitelaw13.RatioMost", spec := "ratioMost", inPlace := ["sync/atomic.LoadInt64", "sync/atomic.AddInt64"], apart := false }
def RatioMostSaid : Prop := ratioMostRow.holds Try.pinned (OpenSpec.ofChange ratioMostSpec)

/-- ITS FALSE NEIGHBOUR: 'it returns false'. Refute it at one input. -/
def ratioMostWrong : ChangeSpec := { name := "ratioMost", fn := fun _ => fun
  | [d1, d2, d3, d4] => { results := [.lit (.bool false)], args := [d1, d2, d3, d4] }
  | _ => none }
def RatioMostWrongFalsely : Prop := ratioMostRow.holds Try.pinned (OpenSpec.ofChange ratioMostWrong)

/-- 'quorumitelaw13.RatioCeil': WHATEVER THE INPUT: true; the input reads as it did. -/
def ratioCeilSpec : ChangeSpec := { name := "ratioCeil", fn := fun _ => fun
  | [d1, d2, d3] => { results := [.lit (.bool true)], args := [d1, d2, d3] }
  | _ => none }
def ratioCeilRow : OpenClaim := { program := "ytfobddicokogpaa", sum := "2979d6f734ab1a1d10f342abdf5103092d8cf0a902c90a24b079cc6f6719eb44", func := "quorumite/quorumitelaw13.RatioCeil", spec := "ratioCeil", inPlace := ["sync/atomic.LoadInt64", "sync/atomic.AddInt64"], apart := false }
def RatioCeilSaid : Prop := ratioCeilRow.holds Try.pinned (OpenSpec.ofChange ratioCeilSpec)

/-- ITS FALSE NEIGHBOUR: 'it returns false'. Refute it at one input. -/
def ratioCeilWrong : ChangeSpec := { name := "ratioCeil", fn := fun _ => fun
  | [d1, d2, d3] => { results := [.lit (.bool false)], args := [d1, d2, d3] }
  | _ => none }
def RatioCeilWrongFalsely : Prop := ratioCeilRow.holds Try.pinned (OpenSpec.ofChange ratioCeilWrong)

/-- 'quorumitelaw13.RatioRaw': WHATEVER THE INPUT: true; the input reads as it did. -/
def ratioRawSpec : ChangeSpec := { name := "ratioRaw", fn := fun _ => fun
  | [d1, d2] => { results := [.lit (.bool true)], args := [d1, d2] }
  | _ => none }
def ratioRawRow : OpenClaim := { program := "ytfobddicokogpaa", sum := "2979d6f734ab1a1d10f342abdf5103092d8cf0a902c90a24b079cc6f6719eb44", func := "quorumite/quorumitelaw13.RatioRaw", spec := "ratioRaw", inPlace := ["sync/atomic.LoadInt64", "sync/atomic.AddInt64"], apart := false }
def RatioRawSaid : Prop := ratioRawRow.holds Try.pinned (OpenSpec.ofChange ratioRawSpec)

/-- ITS FALSE NEIGHBOUR: 'it returns false'. Refute it at one input. -/
def ratioRawWrong : ChangeSpec := { name := "ratioRaw", fn := fun _ => fun
  | [d1, d2] => { results := [.lit (.bool false)], args := [d1, d2] }
  | _ => none }
def RatioRawWrongFalsely : Prop := ratioRawRow.holds Try.pinned (OpenSpec.ofChange ratioRawWrong)

/- THE SECOND FORM. 'bulk': how many values and letters a reading holds, each counted each time it is reached (what is shared counts as often as it is met; a slice's spare places count too). A statement '..UptoSaid' is the law's where the arguments, and the package variables that the reading takes, are together of bulk at most 1048576: NARROWER than '..Said'. Prove '..Said' where nothing that the law and all that it calls make is longer than what came in: it says more and counts as full. Else prove '..UptoSaid'. A law counts once. -/
mutual
def uptoBulk {H : Type} : DataW H → Nat
  | .lit (.string bytes) => bytes.length + 1
  | .lit _ => 1
  | .nil => 1
  | .ptr d => uptoBulk d + 1
  | .slice elems spare => uptoBulkAll elems + uptoBulkAll spare + 1
  | .agg parts => uptoBulkAll parts + 1
  | .iface _ d => uptoBulk d + 1
  | .map entries => uptoBulkEntries entries + 1
  | .held _ => 1
def uptoBulkAll {H : Type} : List (DataW H) → Nat
  | [] => 0
  | d :: r => uptoBulk d + uptoBulkAll r
def uptoBulkEntries {H : Type} : List (Lit × DataW H) → Nat
  | [] => 0
  | x :: r => uptoBulkEntry x + uptoBulkEntries r
def uptoBulkEntry {H : Type} : Lit × DataW H → Nat
  | (.string bytes, d) => bytes.length + uptoBulk d + 1
  | (_, d) => uptoBulk d + 1
 end
def uptoSmall : (H : Type) → List (DataW H) → Bool := fun _ ds => decide (uptoBulkAll ds ≤ 1048576)
def OpenSpec.upto (s : _root_.Go.ChangeSpec) : _root_.Go.OpenSpec := { _root_.Go.OpenSpec.ofChange s with cond := some uptoSmall }

/-- 'quorumitelaw13.RatioAsks', WHERE WHAT IT READS IS OF BULK AT MOST 1048576: true; the input reads as it did. -/
def ratioAsksUptoRow : OpenClaim := { program := "ytfobddicokogpaa", sum := "2979d6f734ab1a1d10f342abdf5103092d8cf0a902c90a24b079cc6f6719eb44", func := "quorumite/quorumitelaw13.RatioAsks", spec := "ratioAsks", inPlace := ["sync/atomic.LoadInt64", "sync/atomic.AddInt64"], apart := false, narrowed := true }
def RatioAsksUptoSaid : Prop := ratioAsksUptoRow.holds Try.pinned (OpenSpec.upto ratioAsksSpec)

/-- 'quorumitelaw13.RatioRises', WHERE WHAT IT READS IS OF BULK AT MOST 1048576: true; the input reads as it did. -/
def ratioRisesUptoRow : OpenClaim := { program := "ytfobddicokogpaa", sum := "2979d6f734ab1a1d10f342abdf5103092d8cf0a902c90a24b079cc6f6719eb44", func := "quorumite/quorumitelaw13.RatioRises", spec := "ratioRises", inPlace := ["sync/atomic.LoadInt64", "sync/atomic.AddInt64"], apart := false, narrowed := true }
def RatioRisesUptoSaid : Prop := ratioRisesUptoRow.holds Try.pinned (OpenSpec.upto ratioRisesSpec)

/-- 'quorumitelaw13.RatioBand', WHERE WHAT IT READS IS OF BULK AT MOST 1048576: true; the input reads as it did. -/
def ratioBandUptoRow : OpenClaim := { program := "ytfobddicokogpaa", sum := "2979d6f734ab1a1d10f342abdf5103092d8cf0a902c90a24b079cc6f6719eb44", func := "quorumite/quorumitelaw13.RatioBand", spec := "ratioBand", inPlace := ["sync/atomic.LoadInt64", "sync/atomic.AddInt64"], apart := false, narrowed := true }
def RatioBandUptoSaid : Prop := ratioBandUptoRow.holds Try.pinned (OpenSpec.upto ratioBandSpec)

/-- 'quorumitelaw13.RatioMost', WHERE WHAT IT READS IS OF BULK AT MOST 1048576: true; the input reads as it did. -/
def ratioMostUptoRow : OpenClaim := { program := "ytfobddicokogpaa", sum := "2979d6f734ab1a1d10f342abdf5103092d8cf0a902c90a24b079cc6f6719eb44", func := "quorumite/quorumitelaw13.RatioMost", spec := "ratioMost", inPlace := ["sync/atomic.LoadInt64", "sync/atomic.AddInt64"], apart := false, narrowed := true }
def RatioMostUptoSaid : Prop := ratioMostUptoRow.holds Try.pinned (OpenSpec.upto ratioMostSpec)

/-- 'quorumitelaw13.RatioCeil', WHERE WHAT IT READS IS OF BULK AT MOST 1048576: true; the input reads as it did. -/
def ratioCeilUptoRow : OpenClaim := { program := "ytfobddicokogpaa", sum := "2979d6f734ab1a1d10f342abdf5103092d8cf0a902c90a24b079cc6f6719eb44", func := "quorumite/quorumitelaw13.RatioCeil", spec := "ratioCeil", inPlace := ["sync/atomic.LoadInt64", "sync/atomic.AddInt64"], apart := false, narrowed := true }
def RatioCeilUptoSaid : Prop := ratioCeilUptoRow.holds Try.pinned (OpenSpec.upto ratioCeilSpec)

/-- 'quorumitelaw13.RatioRaw', WHERE WHAT IT READS IS OF BULK AT MOST 1048576: true; the input reads as it did. -/
def ratioRawUptoRow : OpenClaim := { program := "ytfobddicokogpaa", sum := "2979d6f734ab1a1d10f342abdf5103092d8cf0a902c90a24b079cc6f6719eb44", func := "quorumite/quorumitelaw13.RatioRaw", spec := "ratioRaw", inPlace := ["sync/atomic.LoadInt64", "sync/atomic.AddInt64"], apart := false, narrowed := true }
def RatioRawUptoSaid : Prop := ratioRawUptoRow.holds Try.pinned (OpenSpec.upto ratioRawSpec)

end Rows
end Go.Proofs.Ytfobddicokogpaa
