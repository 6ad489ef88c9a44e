/-
  Single operations of a walk on whole structs and arrays of many cells: a load, a store, a value built of parts, each taken in one step ('go_wp2_with (refine wpList_row .. ?_)'). No condition. Nothing of the program is named here.
-/
import Derived.WalkKit
import Derived.Laws.Rows
import Derived.Laws.Tables
import Derived.Deep.WholeRow
import Derived.Great.Walk
namespace Go.Proofs.Ytjebmlmjbnaghaa
set_option maxRecDepth 100000
open Go.RowKit

section
variable {P : Program} {ops : Array Oper} {rest : List Oper} {o : Oper} {a : Act} {w : World} {Q : Exit → Act → World → Prop} {b : Nat} {t ty : TypeId} {x y : Operand} {dst : Option Tmp} {d : TypeDesc} {cs old : Array Value}

theorem wpList_row {fr : Nat × Nat} (h : w.heap[b]? = some (.cells cs t fr)) (hu : P.underlying ty = some d) (hd : (match d with | .struct _ | .array _ _ => true | _ => false) = true) (hi : (P.info? ty).map (·.size) = some cs.size)
    (hg : o.guard = none) (ho : o.op = .load ty x) (hdst : o.dst = dst) (hx : a.eval x = .pointer (some ⟨b, 0, none⟩))
    (k : wpList P ops Q rest (a.put dst (.agg cs)) w) : wpList P ops Q (o :: rest) a w := by
  refine Great.wpList_readTo hg dst hdst (.agg cs) ?_ k
  simp only [execOp, ho, hx, Sem.run_bind, Instr.loadAt, Instr.sureAddr, Sem.run_pure, Result.andThen_ok, run_loadVar_row w b t ty cs fr d h hu hd hi]

/-- the same, the operation guarded and its guard decided -/
theorem wpList_row_w {fr : Nat × Nat} (h : w.heap[b]? = some (.cells cs t fr)) (hu : P.underlying ty = some d) (hd : (match d with | .struct _ | .array _ _ => true | _ => false) = true) (hi : (P.info? ty).map (·.size) = some cs.size)
    (hw : Region.wanted o (yielded ops a.tmps) = true) (ho : o.op = .load ty x) (hdst : o.dst = dst) (hx : a.eval x = .pointer (some ⟨b, 0, none⟩))
    (k : wpList P ops Q rest (a.put dst (.agg cs)) w) : wpList P ops Q (o :: rest) a w := by
  subst hdst
  refine wpList_step fun K hK => ?_
  simp only [hw, if_true]
  unfold Oper.wp
  have e : (execOp a.eval o).run P w = .ok (.value (.agg cs)) w := by
    simp only [execOp, ho, hx, Sem.run_bind, Instr.loadAt, Instr.sureAddr, Sem.run_pure, Result.andThen_ok, run_loadVar_row w b t ty cs fr d h hu hd hi]
  rw [e, Oper.upon_value]
  exact hK _ _ k

theorem wpList_store_row (h : w.heap[b]? = some (.cells old t (0, 0))) (hi : (P.info? ty).map (·.size) = some cs.size) (hsz : old.size = cs.size) (h1 : cs.all (·.oneCell') = true)
    (hg : o.guard = none) (ho : o.op = .store ty x y) (hdst : o.dst = none) (hx : a.eval x = .pointer (some ⟨b, 0, none⟩)) (hy : a.eval y = .agg cs)
    (k : wpList P ops Q rest a (w.setRow b cs)) : wpList P ops Q (o :: rest) a w := by
  refine wpList_plain hg fun K hK => ?_
  unfold Oper.wp
  have e : (execOp a.eval o).run P w = .ok .skip (w.setRow b cs) := by
    simp only [execOp, ho, hx, hy, Sem.run_bind, Instr.storeAt, Instr.sureAddr, Sem.run_pure, Result.andThen_ok, run_storeVar_row w b t ty old cs h hi hsz h1]
  rw [e, Oper.upon_skip, hdst]
  exact hK _ _ k

/-- the store into the block that was made last -/
theorem wpList_store_new {n : Nat} (hn : w.heap.size = n) (hi : (P.info? ty).map (·.size) = some cs.size) (hsz : old.size = cs.size) (h1 : cs.all (·.oneCell') = true)
    (hg : o.guard = none) (ho : o.op = .store ty x y) (hdst : o.dst = none) (hx : a.eval x = .pointer (some ⟨n, 0, none⟩)) (hy : a.eval y = .agg cs)
    (k : wpList P ops Q rest a (w.alloc (.cells cs t))) : wpList P ops Q (o :: rest) a (w.alloc (.cells old t)) :=
  wpList_store_row (heap_alloc_last w _) hi hsz h1 hg ho hdst (by rw [hn]; exact hx) hy (by rw [World.setRow_alloc_new]; exact k)

theorem wpList_buildTo {parts : Array (Nat × Operand)} (hg : o.guard = none) (ho : o.op = .build ty parts) (hdst : o.dst = dst)
    (hb : P.built ty (parts.map fun (i, x) => (i, a.eval x)).toList = some cs)
    (k : wpList P ops Q rest (a.put dst (.agg cs)) w) : wpList P ops Q (o :: rest) a w := by
  refine Great.wpList_readTo hg dst hdst (.agg cs) ?_ k
  have e := run_build (P := P) w ty (parts.map fun (i, x) => (i, a.eval x)) cs hb
  simp only [execOp, ho, Sem.run_bind, e, Sem.run_pure, Result.andThen_ok]

/-- the same two in a region that leaves its order open ('wpAnyH_take') -/
theorem exec_row {ρ : Operand → Value} {fr : Nat × Nat} (h : w.heap[b]? = some (.cells cs t fr)) (hu : P.underlying ty = some d) (hd : (match d with | .struct _ | .array _ _ => true | _ => false) = true) (hi : (P.info? ty).map (·.size) = some cs.size)
    (ho : o.op = .load ty x) (hx : ρ x = .pointer (some ⟨b, 0, none⟩)) : (execOp ρ o).run P w = .ok (.value (.agg cs)) w := by
  simp only [execOp, ho, hx, Sem.run_bind, Instr.loadAt, Instr.sureAddr, Sem.run_pure, Result.andThen_ok, run_loadVar_row w b t ty cs fr d h hu hd hi]
theorem exec_build {ρ : Operand → Value} {parts : Array (Nat × Operand)} (ho : o.op = .build ty parts) (hb : P.built ty (parts.map fun (i, x) => (i, ρ x)).toList = some cs) : (execOp ρ o).run P w = .ok (.value (.agg cs)) w := by
  have e := run_build (P := P) w ty (parts.map fun (i, x) => (i, ρ x)) cs hb
  simp only [execOp, ho, Sem.run_bind, e, Sem.run_pure, Result.andThen_ok]
end

/-- what a store of a whole row leaves -/
theorem at_setRow {w : World} {b : Nat} {old cs : Array Value} {t : TypeId} {f : Nat × Nat} (h : w.heap[b]? = some (.cells old t f)) : (w.setRow b cs).heap[b]? = some (.cells cs t f) := by
  simp [World.setRow, Array.getElem?_modify, h]
theorem at_setRow_other {w : World} {b k : Nat} {cs : Array Value} {o : Option Obj} (h : w.heap[k]? = o) (hk : k ≠ b) : (w.setRow b cs).heap[k]? = o := by
  simp [World.setRow, Array.getElem?_modify, Ne.symm hk, h]
theorem gb_setRow {w w1 : World} {r : Option Nat} (h : w.grownBy w1 r) {b : Nat} (hb : w.heap.size ≤ b) {cs : Array Value} : w.grownBy (w1.setRow b cs) r :=
  ⟨h.os, h.tape, h.output, by simpa [World.setRow] using h.size, fun k hk hr => by
    have e : (w1.setRow b cs).heap[k]? = w1.heap[k]? := by simp [World.setRow, Array.getElem?_modify, show b ≠ k by omega]
    rw [e]; exact h.block k hk hr⟩
theorem gb_setAt (w : World) (b : Nat) (cs : Array Value) : w.grownBy (w.setRow b cs) (some b) :=
  ⟨rfl, rfl, rfl, by simp [World.setRow], fun k hk hr => by simp [World.setRow, Array.getElem?_modify, show b ≠ k from fun e => hr (by rw [e])]⟩
section
variable {P : Program} {o : Oper} {a : Act} {w : World} {K : Act → World → Prop} {Q : Exit → Act → World → Prop} {b : Nat} {t ty : TypeId} {x y : Operand} {cs old : Array Value}
theorem wp_store_row (h : w.heap[b]? = some (.cells old t (0, 0))) (hi : (P.info? ty).map (·.size) = some cs.size) (hsz : old.size = cs.size) (h1 : cs.all (·.oneCell') = true)
    (ho : o.op = .store ty x y) (hdst : o.dst = none) (hx : a.eval x = .pointer (some ⟨b, 0, none⟩)) (hy : a.eval y = .agg cs)
    (k : K a (w.setRow b cs)) : Oper.wp P o a w K Q := by
  unfold Oper.wp
  have e : (execOp a.eval o).run P w = .ok .skip (w.setRow b cs) := by
    simp only [execOp, ho, hx, hy, Sem.run_bind, Instr.storeAt, Instr.sureAddr, Sem.run_pure, Result.andThen_ok, run_storeVar_row w b t ty old cs h hi hsz h1]
  rw [e, Oper.upon_skip, hdst]
  exact k
end
end Go.Proofs.Ytjebmlmjbnaghaa
