/-
  Samples as cells. No condition. Nothing of the program is named here.
-/
import Derived.Test.YtogmibmkkmbgoaaTbP
namespace Go.Proofs.Ytogmibmkkmbgoaa
set_option maxRecDepth 100000
open Go.RowKit

def cellsS (s : Sm) : List Value := [.int .i64 s.who, .int .i64 s.met, .int .i64 s.ep, .int .i64 s.val]
def encS (s : Sm) : Value := .agg #[.int .i64 s.who, .int .i64 s.met, .int .i64 s.ep, .int .i64 s.val]
def wf64 (n : Int) : Prop := -9223372036854775808 ≤ n ∧ n ≤ 9223372036854775807
theorem wf64_iff (n : Int) : (Lit.int .i64 n).wf = true ↔ wf64 n := by
  simp [Lit.wf, IntKind.min, IntKind.max, IntKind.signed, IntKind.bits, wf64]
end Go.Proofs.Ytogmibmkkmbgoaa
