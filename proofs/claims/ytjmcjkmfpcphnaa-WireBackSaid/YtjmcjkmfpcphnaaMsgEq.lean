/-
  '==' of two messages: part for part. No condition.
-/
import Derived.Test.YtjmcjkmfpcphnaaWMay
import Derived.Laws.StructEq
set_option linter.unusedSimpArgs false
namespace Go.Proofs.Ytjmcjkmfpcphnaa
set_option maxRecDepth 100000
open Go.RowKit

def msgEq (a b : Mg) : Bool := a.kind == b.kind && a.who == b.who && a.gen == b.gen && a.seq == b.seq && a.epoch == b.epoch && a.value == b.value && a.metric == b.metric
theorem msgEq_iff (a b : Mg) : msgEq a b = true ↔ a = b := by
  cases a; cases b; simp [msgEq, and_assoc]
theorem msgEq_self (a : Mg) : msgEq a a = true := (msgEq_iff a a).2 rfl
theorem msgEq_ne {a b : Mg} (h : a ≠ b) : msgEq a b = false := by
  cases e : msgEq a b
  · rfl
  · exact absurd ((msgEq_iff a b).1 e) h
set_option maxHeartbeats 1600000 in
theorem msg_equal (a b : Mg) (w : World) : (Op.equalIn 10000 23 (mg a) (mg b)).run Try.prog w = .ok (msgEq a b) w := by
  unfold msgEq
  rw [run_equalIn_agg w 9999 23 a.cells b.cells (by kernel_rfl) (by kernel_rfl)]
  simp [go_sem]
  (repeat' split) <;> simp [*]
end Go.Proofs.Ytjmcjkmfpcphnaa
