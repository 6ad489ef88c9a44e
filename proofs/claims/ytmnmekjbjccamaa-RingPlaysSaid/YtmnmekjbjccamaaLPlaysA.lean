/-
  Two rings under way, the program's and the document's, and the step at hand: what the walk of RingPlays keeps. No condition.
-/
import Derived.Test.YtmnmekjbjccamaaLGraceW
import Derived.Test.YtmnmekjbjccamaaLOthersW
import Derived.Test.YtmnmekjbjccamaaOpsAt
set_option linter.unusedSimpArgs false
set_option linter.unusedVariables false
namespace Go.Proofs.Ytmnmekjbjccamaa.plays
set_option maxRecDepth 100000
open Go.RowKit

structure Pl (w0 : World) (b h c g s : Nat) (r1 r2 : Rg) (W : World) : Prop where
  ch : Chg [h, g, s] w0 W
  rg : RgAt W b h r1
  rf : RfAt W c g s r2
  lo : w0.heap.size ≤ h ∧ w0.heap.size ≤ g ∧ w0.heap.size ≤ s
  n1 : b ≠ g ∧ b ≠ s
  n2 : h ≠ c ∧ h ≠ g ∧ h ≠ s
/-- and the step at hand in its block -/
@[reducible] def opObj (k a v t : Int) : Obj := .cells #[.int .i64 k, .int .i64 a, .int .i64 v, .int .i64 t] 45
structure Po (w0 : World) (b h c g s x : Nat) (k a v t : Int) (r1 r2 : Rg) (W : World) : Prop extends Pl w0 b h c g s r1 r2 W where
  bx : W.heap[x]? = some (opObj k a v t)
  xl : w0.heap.size ≤ x
  nx : x ≠ b ∧ x ≠ h ∧ x ≠ c ∧ x ≠ g ∧ x ≠ s
section
variable {w0 W W1 : World} {b h c g s x : Nat} {r1 r2 r' : Rg} {k a v t : Int} {f : FuncId} {args : Array Value} {y : Ending} {z : Int × Rg}
theorem Pl.grown (T : Pl w0 b h c g s r1 r2 W) (hg : W.grownBy W1 none) : Pl w0 b h c g s r1 r2 W1 := ⟨T.ch.grown hg, T.rg.grown hg, T.rf.grown hg, T.lo, T.n1, T.n2⟩
theorem Pl.drew (T : Pl w0 b h c g s r1 r2 W) : Pl w0 b h c g s r1 r2 W.drew := ⟨T.ch.drew, T.rg.drew, T.rf.drew, T.lo, T.n1, T.n2⟩
theorem Pl.leaveR {e : Ending} (T : Pl w0 b h c g s r1 r2 W) (L : Leaves W b h z e W1) : Pl w0 b h c g s z.2 r2 W1 :=
  ⟨T.ch.trans L.2.2 (by simp), L.2.1, T.rf.chg L.2.2 (by simpa using fun e => T.n2.1 e.symm) (by simpa using fun e => T.n2.2.1 e.symm) (by simpa using fun e => T.n2.2.2 e.symm), T.lo, T.n1, T.n2⟩
theorem Pl.leaveF {e : Ending} (T : Pl w0 b h c g s r1 r2 W) (L : LeavesF W c g s z e W1) : Pl w0 b h c g s r1 z.2 W1 :=
  ⟨T.ch.trans L.2.2 (by simp), T.rg.chg L.2.2 (by simpa using T.n1) (by simpa using T.n2.2), L.2.1, T.lo, T.n1, T.n2⟩
theorem Pl.fin (T : Pl w0 b h c g s r1 r2 W) : w0.grownBy W none := T.ch.free fun x hx => by
  have := T.lo
  simp only [List.mem_cons, List.mem_nil_iff, or_false] at hx
  rcases hx with rfl | rfl | rfl <;> omega
theorem Pl.grid {u : Value} {m n : Nat} {f : Nat → Nat → Int} (T : Pl w0 b h c g s r1 r2 W) (G : GridAt w0 u m n f) : GridAt W u m n f := G.chg T.ch fun x hx => by
  have := T.lo
  simp only [List.mem_cons, List.mem_nil_iff, or_false] at hx
  rcases hx with rfl | rfl | rfl <;> omega
theorem Pl.step (T : Pl w0 b h c g s r1 r2 W) (k a v t : Int) : Po w0 b h c g s W.heap.size k a v t r1 r2 (W.alloc (opObj k a v t)) := by
  have l1 := T.rg.lt; have l2 := T.rf.lt
  exact ⟨T.grown (World.grownBy_alloc W _ none), at_new W _, T.ch.size, by omega, by omega, by omega, by omega, by omega⟩
theorem Po.grown (T : Po w0 b h c g s x k a v t r1 r2 W) (hg : W.grownBy W1 none) : Po w0 b h c g s x k a v t r1 r2 W1 := ⟨T.toPl.grown hg, at_grown T.bx hg (by simp), T.xl, T.nx⟩
theorem Po.alloc (T : Po w0 b h c g s x k a v t r1 r2 W) (o : Obj) : Po w0 b h c g s x k a v t r1 r2 (W.alloc o) := T.grown (World.grownBy_alloc W o none)
theorem Po.drew (T : Po w0 b h c g s x k a v t r1 r2 W) : Po w0 b h c g s x k a v t r1 r2 W.drew := ⟨T.toPl.drew, T.bx, T.xl, T.nx⟩
theorem Po.cells (T : Po w0 b h c g s x k a v t r1 r2 W) : W.cell? ⟨x, 0, none⟩ = some (.int .i64 k) ∧ W.cell? ⟨x, 1, none⟩ = some (.int .i64 a) ∧ W.cell? ⟨x, 2, none⟩ = some (.int .i64 v) ∧ W.cell? ⟨x, 3, none⟩ = some (.int .i64 t) ∧ W.frozen? ⟨x, 1, none⟩ = false ∧ W.frozen? ⟨x, 2, none⟩ = false :=
  ⟨at_cell T.bx 0, at_cell T.bx 1, at_cell T.bx 2, at_cell T.bx 3, at_free T.bx 1, at_free T.bx 2⟩
theorem Po.moved (T : Po w0 b h c g s x k a v t r1 r2 W) (i : Nat) (u : Value) : Pl w0 b h c g s r1 r2 (W.setCell ⟨x, i, none⟩ u) := by
  have hc : Chg [x] W (W.setCell ⟨x, i, none⟩ u) := (chg_refl W [x]).set (.inl (by simp)) u
  obtain ⟨n1, n2, n3, n4, n5⟩ := T.nx
  exact ⟨T.ch.trans hc (by simpa using .inr T.xl), T.rg.chg hc (by simpa using n1.symm) (by simpa using n2.symm), T.rf.chg hc (by simpa using n3.symm) (by simpa using n4.symm) (by simpa using n5.symm), T.lo, T.n1, T.n2⟩
theorem Po.setA (T : Po w0 b h c g s x k a v t r1 r2 W) (a' : Int) : Po w0 b h c g s x k a' v t r1 r2 (W.setCell ⟨x, 1, none⟩ (.int .i64 a')) := ⟨T.moved 1 _, at_set T.bx 1 _, T.xl, T.nx⟩
theorem Po.setV (T : Po w0 b h c g s x k a v t r1 r2 W) (v' : Int) : Po w0 b h c g s x k a v' t r1 r2 (W.setCell ⟨x, 2, none⟩ (.int .i64 v')) := ⟨T.moved 2 _, at_set T.bx 2 _, T.xl, T.nx⟩
theorem Po.viaR (T : Po w0 b h c g s x k a v t r1 r2 W) (hc : Calls Try.prog f args W (Leaves W b h z)) : Calls Try.prog f args W fun e w' => e = .returned (.int .i64 z.1) ∧ Po w0 b h c g s x k a v t z.2 r2 w' :=
  hc.mono fun _ _ L => ⟨L.1, T.toPl.leaveR L, L.2.2.at T.bx (by simpa using T.nx.2.1), T.xl, T.nx⟩
theorem Po.viaF (T : Po w0 b h c g s x k a v t r1 r2 W) (hc : Calls Try.prog f args W (LeavesF W c g s z)) : Calls Try.prog f args W fun e w' => e = .returned (.int .i64 z.1) ∧ Po w0 b h c g s x k a v t r1 z.2 w' :=
  hc.mono fun _ _ L => ⟨L.1, T.toPl.leaveF L, L.2.2.at T.bx (by simpa using T.nx.2.2.2), T.xl, T.nx⟩
theorem Pl.same (T : Pl w0 b h c g s r1 r2 W) (hc : Calls Try.prog f args W fun e w' => e = y ∧ W = w') : Calls Try.prog f args W fun e w' => e = y ∧ Pl w0 b h c g s r1 r2 w' := hc.mono fun _ _ ⟨h1, h2⟩ => ⟨h1, h2 ▸ T⟩
end
theorem rot_n (r : Rg) (a v t : Int) : (r.rot a v t).2.n = r.n := by
  unfold Rg.rot; split; split; split; all_goals rfl
theorem set_n (r : Rg) (a v t : Int) : (r.set a v t).2.n = r.n := by
  unfold Rg.set; split; split; all_goals rfl
end Go.Proofs.Ytmnmekjbjccamaa.plays
