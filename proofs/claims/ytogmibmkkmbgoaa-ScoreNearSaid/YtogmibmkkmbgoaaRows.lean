/-
  No cell of these rows narrows 'for every input' (looked for: loops, veiled, ifaces, maps, wideKeys, modest, calm, conditions, laid).
  DERIVED. THE GIVEN ROWS OF THIS SEAT. 6 by the template 'for every input the law returns true; each argument reads behind the call as it read before'; 0 by the template 'total and deterministic' (their statements: YtogmibmkkmbgoaaTotals.lean).
  GIVEN WITH THE SEED: the statements are not yours to turn. If you find one false, say at which input.
  Laid BY PROGRAM, IN A SANDBOX (cutbox-rows.mjs): the forced cells as the released guide's own fill.sh prints them over the translation cbdae3bc50b5a5bc… (all of the seat's roots in one cut). By AI agents, Wed Nov 11 2026. No macro, syntax, notation, axiom, sorry.
-/
import Derived.Test.YtogmibmkkmbgoaaChecked
import GoSem.Claim
import GoSem.ClaimJoined
import GoSem.ClaimMapViews
import Derived.JoinedTies
import Derived.KernelRfl
namespace Go.Proofs.Ytogmibmkkmbgoaa
/- THE CELL 'sum', in the pinned program and in every row, IS THE sha256 OF THE DUMP (.gsa) THAT YtogmibmkkmbgoaaProg.lean LOADS. Nothing in Lean hashes anything: it is a label: what it is worth is what the hold of that sum in a sandbox is worth. -/
noncomputable def Try.pinned : Pinned := { name := "ytogmibmkkmbgoaa", sum := "cbdae3bc50b5a5bc11988a5cbf7f085b6c0799defa9334be532586023b316507", checked := Try.checked }
namespace Rows
def none {H : Type} : Left H := { results := [], args := [] }

/-- 'quorumitelaw10.TrimAsks': WHATEVER THE INPUT: true; the input reads as it did. -/
def trimAsksSpec : ChangeSpec := { name := "trimAsks", fn := fun _ => fun
  | [d1, d2, d3, d4] => { results := [.lit (.bool true)], args := [d1, d2, d3, d4] }
  | _ => none }
def trimAsksRow : OpenClaim := { program := "ytogmibmkkmbgoaa", sum := "cbdae3bc50b5a5bc11988a5cbf7f085b6c0799defa9334be532586023b316507", func := "quorumite/quorumitelaw10.TrimAsks", spec := "trimAsks", inPlace := ["sync/atomic.AddInt64", "sync/atomic.LoadInt64"], unfollowed := true, recurses := true, apart := false }
def TrimAsksSaid : Prop := trimAsksRow.holds Try.pinned (OpenSpec.ofChange trimAsksSpec)

/-- ITS FALSE NEIGHBOUR: 'it returns false'. Refute it at one input. -/
def trimAsksWrong : ChangeSpec := { name := "trimAsks", fn := fun _ => fun
  | [d1, d2, d3, d4] => { results := [.lit (.bool false)], args := [d1, d2, d3, d4] }
  | _ => none }
def TrimAsksWrongFalsely : Prop := trimAsksRow.holds Try.pinned (OpenSpec.ofChange trimAsksWrong)

/-- 'quorumitelaw10.TrimSpans': WHATEVER THE INPUT: true; the input reads as it did. -/
def trimSpansSpec : ChangeSpec := { name := "trimSpans", fn := fun _ => fun
  | [d1, d2] => { results := [.lit (.bool true)], args := [d1, d2] }
  | _ => none }
def trimSpansRow : OpenClaim := { program := "ytogmibmkkmbgoaa", sum := "cbdae3bc50b5a5bc11988a5cbf7f085b6c0799defa9334be532586023b316507", func := "quorumite/quorumitelaw10.TrimSpans", spec := "trimSpans", inPlace := ["sync/atomic.AddInt64", "sync/atomic.LoadInt64"], unfollowed := true, recurses := true, apart := false }
def TrimSpansSaid : Prop := trimSpansRow.holds Try.pinned (OpenSpec.ofChange trimSpansSpec)

/-- ITS FALSE NEIGHBOUR: 'it returns false'. Refute it at one input. -/
def trimSpansWrong : ChangeSpec := { name := "trimSpans", fn := fun _ => fun
  | [d1, d2] => { results := [.lit (.bool false)], args := [d1, d2] }
  | _ => none }
def TrimSpansWrongFalsely : Prop := trimSpansRow.holds Try.pinned (OpenSpec.ofChange trimSpansWrong)

/-- 'quorumitelaw12.ScoreNear': WHATEVER THE INPUT: true; the input reads as it did. -/
def scoreNearSpec : ChangeSpec := { name := "scoreNear", fn := fun _ => fun
  | [d1, d2, d3, d4, d5] => { results := [.lit (.bool true)], args := [d1, d2, d3, d4, d5] }
  | _ => none }
def scoreNearRow : OpenClaim := { program := "ytogmibmkkmbgoaa", sum := "cbdae3bc50b5a5bc11988a5cbf7f085b6c0799defa9334be532586023b316507", func := "quorumite/quorumitelaw12.ScoreNear", spec := "scoreNear", inPlace := ["sync/atomic.AddInt64", "sync/atomic.StoreInt64", "sync/atomic.LoadInt64"], unfollowed := true, recurses := true, apart := false }
def ScoreNearSaid : Prop := scoreNearRow.holds Try.pinned (OpenSpec.ofChange scoreNearSpec)

/-- ITS FALSE NEIGHBOUR: 'it returns false'. Refute it at one input. -/
def scoreNearWrong : ChangeSpec := { name := "scoreNear", fn := fun _ => fun
  | [d1, d2, d3, d4, d5] => { results := [.lit (.bool false)], args := [d1, d2, d3, d4, d5] }
  | _ => none }
def ScoreNearWrongFalsely : Prop := scoreNearRow.holds Try.pinned (OpenSpec.ofChange scoreNearWrong)

/-- 'quorumitelaw12.ScoreProbe': WHATEVER THE INPUT: true; the input reads as it did. -/
def scoreProbeSpec : ChangeSpec := { name := "scoreProbe", fn := fun _ => fun
  | [d1, d2] => { results := [.lit (.bool true)], args := [d1, d2] }
  | _ => none }
def scoreProbeRow : OpenClaim := { program := "ytogmibmkkmbgoaa", sum := "cbdae3bc50b5a5bc11988a5cbf7f085b6c0799defa9334be532586023b316507", func := "quorumite/quorumitelaw12.ScoreProbe", spec := "scoreProbe", inPlace := ["sync/atomic.AddInt64", "sync/atomic.StoreInt64", "sync/atomic.LoadInt64"], unfollowed := true, recurses := true, apart := false }
def ScoreProbeSaid : Prop := scoreProbeRow.holds Try.pinned (OpenSpec.ofChange scoreProbeSpec)

/-- ITS FALSE NEIGHBOUR: 'it returns false'. Refute it at one input. -/
def scoreProbeWrong : ChangeSpec := { name := "scoreProbe", fn := fun _ => fun
  | [d1, d2] => { results := [.lit (.bool false)], args := [d1, d2] }
  | _ => none }
def ScoreProbeWrongFalsely : Prop := scoreProbeRow.holds Try.pinned (OpenSpec.ofChange scoreProbeWrong)

/-- 'quorumitelaw12.ScoreSteps': WHATEVER THE INPUT: true; the input reads as it did. -/
def scoreStepsSpec : ChangeSpec := { name := "scoreSteps", fn := fun _ => fun
  | [d1, d2] => { results := [.lit (.bool true)], args := [d1, d2] }
  | _ => none }
def scoreStepsRow : OpenClaim := { program := "ytogmibmkkmbgoaa", sum := "cbdae3bc50b5a5bc11988a5cbf7f085b6c0799defa9334be532586023b316507", func := "quorumite/quorumitelaw12.ScoreSteps", spec := "scoreSteps", inPlace := ["sync/atomic.AddInt64", "sync/atomic.StoreInt64", "sync/atomic.LoadInt64"], unfollowed := true, recurses := true, apart := false }
def ScoreStepsSaid : Prop := scoreStepsRow.holds Try.pinned (OpenSpec.ofChange scoreStepsSpec)

/-- ITS FALSE NEIGHBOUR: 'it returns false'. Refute it at one input. -/
def scoreStepsWrong : ChangeSpec := { name := "scoreSteps", fn := fun _ => fun
  | [d1, d2] => { results := [.lit (.bool false)], args := [d1, d2] }
  | _ => none }
def ScoreStepsWrongFalsely : Prop := scoreStepsRow.holds Try.pinned (OpenSpec.ofChange scoreStepsWrong)

/-- 'quorumitelaw12.ScoreMetrics': WHATEVER THE INPUT: true; the input reads as it did. -/
def scoreMetricsSpec : ChangeSpec := { name := "scoreMetrics", fn := fun _ => fun
  | [d1, d2] => { results := [.lit (.bool true)], args := [d1, d2] }
  | _ => none }
def scoreMetricsRow : OpenClaim := { program := "ytogmibmkkmbgoaa", sum := "cbdae3bc50b5a5bc11988a5cbf7f085b6c0799defa9334be532586023b316507", func := "quorumite/quorumitelaw12.ScoreMetrics", spec := "scoreMetrics", inPlace := ["sync/atomic.AddInt64", "sync/atomic.StoreInt64", "sync/atomic.LoadInt64"], unfollowed := true, recurses := true, apart := false }
def ScoreMetricsSaid : Prop := scoreMetricsRow.holds Try.pinned (OpenSpec.ofChange scoreMetricsSpec)

/-- ITS FALSE NEIGHBOUR: 'it returns false'. Refute it at one input. -/
def scoreMetricsWrong : ChangeSpec := { name := "scoreMetrics", fn := fun _ => fun
  | [d1, d2] => { results := [.lit (.bool false)], args := [d1, d2] }
  | _ => none }
def ScoreMetricsWrongFalsely : Prop := scoreMetricsRow.holds Try.pinned (OpenSpec.ofChange scoreMetricsWrong)

/- THE SECOND FORM. 'bulk': how many values and letters a reading holds, each counted each time it is reached (what is shared counts as often as it is met; a slice's spare places count too). A statement '..UptoSaid' is the law's where the arguments, and the package variables that the reading takes, are together of bulk at most 1048576: NARROWER than '..Said'. Prove '..Said' where nothing that the law and all that it calls make is longer than what came in: it says more and counts as full. Else prove '..UptoSaid'. A law counts once. -/
mutual
def uptoBulk {H : Type} : DataW H → Nat
  | .lit (.string bytes) => bytes.length + 1
  | .lit _ => 1
  | .nil => 1
  | .ptr d => uptoBulk d + 1
  | .slice elems spare => uptoBulkAll elems + uptoBulkAll spare + 1
  | .agg parts => uptoBulkAll parts + 1
  | .iface _ d => uptoBulk d + 1
  | .map entries => uptoBulkEntries entries + 1
  | .held _ => 1
def uptoBulkAll {H : Type} : List (DataW H) → Nat
  | [] => 0
  | d :: r => uptoBulk d + uptoBulkAll r
def uptoBulkEntries {H : Type} : List (Lit × DataW H) → Nat
  | [] => 0
  | x :: r => uptoBulkEntry x + uptoBulkEntries r
def uptoBulkEntry {H : Type} : Lit × DataW H → Nat
  | (.string bytes, d) => bytes.length + uptoBulk d + 1
  | (_, d) => uptoBulk d + 1
 end
def uptoSmall : (H : Type) → List (DataW H) → Bool := fun _ ds => decide (uptoBulkAll ds ≤ 1048576)
def OpenSpec.upto (s : _root_.Go.ChangeSpec) : _root_.Go.OpenSpec := { _root_.Go.OpenSpec.ofChange s with cond := some uptoSmall }

/-- 'quorumitelaw10.TrimAsks', WHERE WHAT IT READS IS OF BULK AT MOST 1048576: true; the input reads as it did. -/
def trimAsksUptoRow : OpenClaim := { program := "ytogmibmkkmbgoaa", sum := "cbdae3bc50b5a5bc11988a5cbf7f085b6c0799defa9334be532586023b316507", func := "quorumite/quorumitelaw10.TrimAsks", spec := "trimAsks", inPlace := ["sync/atomic.AddInt64", "sync/atomic.LoadInt64"], unfollowed := true, recurses := true, apart := false, narrowed := true }
def TrimAsksUptoSaid : Prop := trimAsksUptoRow.holds Try.pinned (OpenSpec.upto trimAsksSpec)

/-- 'quorumitelaw10.TrimSpans', WHERE WHAT IT READS IS OF BULK AT MOST 1048576: true; the input reads as it did. -/
def trimSpansUptoRow : OpenClaim := { program := "ytogmibmkkmbgoaa", sum := "cbdae3bc50b5a5bc11988a5cbf7f085b6c0799defa9334be532586023b316507", func := "quorumite/quorumitelaw10.TrimSpans", spec := "trimSpans", inPlace := ["sync/atomic.AddInt64", "sync/atomic.LoadInt64"], unfollowed := true, recurses := true, apart := false, narrowed := true }
def TrimSpansUptoSaid : Prop := trimSpansUptoRow.holds Try.pinned (OpenSpec.upto trimSpansSpec)

/-- 'quorumitelaw12.ScoreNear', WHERE WHAT IT READS IS OF BULK AT MOST 1048576: true; the input reads as it did. -/
def scoreNearUptoRow : OpenClaim := { program := "ytogmibmkkmbgoaa", sum := "cbdae3bc50b5a5bc11988a5cbf7f085b6c0799defa9334be532586023b316507", func := "quorumite/quorumitelaw12.ScoreNear", spec := "scoreNear", inPlace := ["sync/atomic.AddInt64", "sync/atomic.StoreInt64", "sync/atomic.LoadInt64"], unfollowed := true, recurses := true, apart := false, narrowed := true }
def ScoreNearUptoSaid : Prop := scoreNearUptoRow.holds Try.pinned (OpenSpec.upto scoreNearSpec)

/-- 'quorumitelaw12.ScoreProbe', WHERE WHAT IT READS IS OF BULK AT MOST 1048576: true; the input reads as it did. -/
def scoreProbeUptoRow : OpenClaim := { program := "ytogmibmkkmbgoaa", sum := "cbdae3bc50b5a5bc11988a5cbf7f085b6c0799defa9334be532586023b316507", func := "quorumite/quorumitelaw12.ScoreProbe", spec := "scoreProbe", inPlace := ["sync/atomic.AddInt64", "sync/atomic.StoreInt64", "sync/atomic.LoadInt64"], unfollowed := true, recurses := true, apart := false, narrowed := true }
def ScoreProbeUptoSaid : Prop := scoreProbeUptoRow.holds Try.pinned (OpenSpec.upto scoreProbeSpec)

/-- 'quorumitelaw12.ScoreSteps', WHERE WHAT IT READS IS OF BULK AT MOST 1048576: true; the input reads as it did. -/
def scoreStepsUptoRow : OpenClaim := { program := "ytogmibmkkmbgoaa", sum := "cbdae3bc50b5a5bc11988a5cbf7f085b6c0799defa9334be532586023b316507", func := "quorumite/quorumitelaw12.ScoreSteps", spec := "scoreSteps", inPlace := ["sync/atomic.AddInt64", "sync/atomic.StoreInt64", "sync/atomic.LoadInt64"], unfollowed := true, recurses := true, apart := false, narrowed := true }
def ScoreStepsUptoSaid : Prop := scoreStepsUptoRow.holds Try.pinned (OpenSpec.upto scoreStepsSpec)

/-- 'quorumitelaw12.ScoreMetrics', WHERE WHAT IT READS IS OF BULK AT MOST 1048576: true; the input reads as it did. -/
def scoreMetricsUptoRow : OpenClaim := { program := "ytogmibmkkmbgoaa", sum := "cbdae3bc50b5a5bc11988a5cbf7f085b6c0799defa9334be532586023b316507", func := "quorumite/quorumitelaw12.ScoreMetrics", spec := "scoreMetrics", inPlace := ["sync/atomic.AddInt64", "sync/atomic.StoreInt64", "sync/atomic.LoadInt64"], unfollowed := true, recurses := true, apart := false, narrowed := true }
def ScoreMetricsUptoSaid : Prop := scoreMetricsUptoRow.holds Try.pinned (OpenSpec.upto scoreMetricsSpec)

end Rows
end Go.Proofs.Ytogmibmkkmbgoaa
