/-
  A configuration as the walks see it: 26 numbers, which are its cells. Whether a number lies within bounds. No condition.
-/
import Derived.Test.YtmhpldnmapjghaaRows
import Derived.Test.YtmhpldnmapjghaaQ
import Derived.Test.YtmhpldnmapjghaaGrow
import Derived.WalkKit
import Derived.WalkSpells
import Derived.WalkLawsBesides
import Derived.Laws.Rows
import Derived.Great.Walk
set_option linter.unusedSimpArgs false
namespace Go.Proofs.Ytmhpldnmapjghaa
set_option maxRecDepth 100000
open Go.RowKit

structure Conf where
  (n f m quorum fresh grace window t0 t1 t2 t3 tol min max calmup calmdown podsup pctup podsdown pctdown period far strikes probe sectors seed : Int)
@[reducible] def Conf.cells (c : Conf) : Array Value := #[.int .i64 c.n, .int .i64 c.f, .int .i64 c.m, .int .i64 c.quorum, .int .i64 c.fresh, .int .i64 c.grace, .int .i64 c.window, .int .i64 c.t0, .int .i64 c.t1, .int .i64 c.t2, .int .i64 c.t3, .int .i64 c.tol, .int .i64 c.min, .int .i64 c.max, .int .i64 c.calmup, .int .i64 c.calmdown, .int .i64 c.podsup, .int .i64 c.pctup, .int .i64 c.podsdown, .int .i64 c.pctdown, .int .i64 c.period, .int .i64 c.far, .int .i64 c.strikes, .int .i64 c.probe, .int .i64 c.sectors, .int .u64 c.seed]
@[reducible] def cf (c : Conf) : Value := .agg c.cells

theorem wrap_small {x : Int} (h : -9223372036854775808 ≤ x) (h' : x ≤ 9223372036854775807) : wrap64 x = x := by
  unfold wrap64; omega
theorem size_new (w : World) (o : Obj) : (w.alloc o).heap.size = w.heap.size + 1 := by
  show (w.heap.push o).size = _
  simp
def cwithin (n lo hi : Int) : Bool := decide (lo ≤ n) && decide (n ≤ hi)

theorem cin_any (n lo hi : Int) (w : World) :
    Calls Try.prog 43 #[.int .i64 n, .int .i64 lo, .int .i64 hi] w fun e w' => e = .returned (.bool (cwithin n lo hi)) ∧ w' = w := by
  unfold cwithin
  by_cases h1 : lo ≤ n <;> by_cases h2 : n ≤ hi <;> (
  go_enter Try.func43, Try.ntmps43
  go_wp2_with fail
  go_ret
  simp [h1, h2])

/-- the function's own block: the configuration that came in; all else as it was, or new -/
structure BoxC (w : World) (c : Conf) (w' : World) : Prop where
  box : w'.heap[w.heap.size]? = some (.cells c.cells 26)
  g : w.grownBy w' none
theorem BoxC.grown {w : World} {c : Conf} {w1 w2 : World} (h : BoxC w c w1) (hg : w1.grownBy w2 none) : BoxC w c w2 := ⟨at_grown h.box hg (by simp), gb_trans h.g hg (.inl rfl)⟩
theorem BoxC.drew {w : World} {c : Conf} {w1 : World} (h : BoxC w c w1) : BoxC w c w1.drew := ⟨h.box, gb_drew h.g⟩
theorem boxc_new (w : World) (c : Conf) : BoxC w c (w.alloc (.cells c.cells 26)) := ⟨at_new w _, gb_alloc (.refl w none) _⟩

/-- a whole configuration, read from its block -/
theorem load_conf {w : World} {b : Nat} {c : Conf} {t : TypeId} {fr : Nat × Nat} (h : w.heap[b]? = some (.cells c.cells t fr)) :
    (loadVar 26 ⟨b, 0, none⟩).run Try.prog w = .ok (cf c) w :=
  run_loadVar_row w b t 26 c.cells fr _ h Try.underlying26 rfl (by kernel_rfl)

theorem loadAt_conf {w : World} {b : Nat} {c : Conf} {t : TypeId} {fr : Nat × Nat} (h : w.heap[b]? = some (.cells c.cells t fr)) :
    (Instr.loadAt 26 (.pointer (some ⟨b, 0, none⟩))).run Try.prog w = .ok (cf c) w := by
  simp only [Instr.loadAt, Instr.sureAddr, Sem.run_bind, Sem.run_pure, Result.andThen_ok, load_conf h]

/-- one operation of a walk: a whole configuration is read from its block -/
theorem wpList_conf {ops : Array Oper} {rest : List Oper} {o : Oper} {a : Act} {w : World} {Q : Exit → Act → World → Prop} {b : Nat} {c : Conf} {t : TypeId} {fr : Nat × Nat} {x : Operand} {dst : Option Tmp}
    (h : w.heap[b]? = some (.cells c.cells t fr)) (hg : o.guard = none) (ho : o.op = .load 26 x) (hdst : o.dst = dst) (hx : a.eval x = .pointer (some ⟨b, 0, none⟩))
    (k : wpList Try.prog ops Q rest (a.put dst (cf c)) w) : wpList Try.prog ops Q (o :: rest) a w := by
  refine Great.wpList_readTo hg dst hdst (cf c) ?_ k
  simp only [execOp, ho, hx, Sem.run_bind, loadAt_conf h, Result.andThen]
  rfl

end Go.Proofs.Ytmhpldnmapjghaa
