/-
  Of a world keep just what is said: small lemmas for the walks. No condition. Nothing of the program is named here.
  Append of bytes to a slice of the call's own, at a step of a region that leaves its order open. No condition. Nothing of the program's functions is named here.
  Single operations of a walk on whole structs and arrays of many cells: a load, a store, a value built of parts, each taken in one step ('go_wp2_with (refine wpList_row .. ?_)'). No condition. Nothing of the program is named here.
  Contracts for slices.Concat and bytes.Clone at bytes: the bytes of all, in a slice of the call's own. The condition: slices that read as bytes, of a modest length together.
  What a walk keeps of the world: blocks known whole, slices that read as bytes; kept by whatever makes memory. No condition. Nothing of the program's functions is named here.
  The controller's law, as a function: what is wanted of the values, what comes of it, how far it may go. No condition. Nothing of the program is named here.
  A configuration as the walks see it: 26 numbers, which are its cells. Whether a number lies within bounds. No condition.
  Contracts: the default, of the program and of the document. No condition.
-/
import Derived.WalkKit
import Derived.Test.YtecggbndlbkhdaaGreatY1
import Derived.Deep.RegionHeld3
import Derived.Laws.Rows
import Derived.Laws.Tables
import Derived.Deep.WholeRow
import Derived.Great.Walk
import Derived.Test.YtecggbndlbkhdaaGreatY20
import Derived.Lib.AppendZerosOnto
import Derived.Lib.AppendZeros
import Derived.Test.YtecggbndlbkhdaaGreatY11
import Derived.Test.YtecggbndlbkhdaaGreatRows
import Derived.WalkSpells
import Derived.WalkLawsBesides
section
namespace Go.Proofs.YtecggbndlbkhdaaGreat
set_option maxRecDepth 100000
open Go.RowKit
theorem wp_gen {C : Program} {c : Code} {Q : Exit → Act → World → Prop} {a : Act} {w : World} (P : World → Prop) (h : P w) (k : ∀ wx, P wx → Code.wp C c Q a wx) : Code.wp C c Q a w := k w h
end Go.Proofs.YtecggbndlbkhdaaGreat
end
section
namespace Go.Proofs.YtecggbndlbkhdaaGreat
set_option maxRecDepth 100000
open Go.RowKit

theorem run_append_bytes {w : World} {ty : TypeId} (base : Nat) (v : Value) (l : List UInt8) (hown : OwnB base w v l) (u : Value) (r : List UInt8) (hr : BytesAt w u r) (hlen : l.length + r.length ≤ 1000000) (hbase : base ≤ w.heap.size) :
    ∃ v' w', (Builtin.append_ #[53, 53] ty #[v, u]).run Tryz.prog w = .ok v' w' ∧ OwnB base w' v' (l ++ r) ∧ w.grownBy w' v.ownBlock ∧ (v'.ownBlock = v.ownBlock ∨ v'.ownBlock = some w.heap.size) := by
  obtain ⟨i, hi, hz0, hz1, hz2⟩ := info_parts info_u8
  rcases hr with ⟨rfl, rfl⟩ | ⟨ad, c, rfl, _, _, hc⟩
  · exact ⟨v, w, run_append_owned_none (P := Tryz.prog) (w := w) base 53 ty 5 i 1 Tryz.underlying53 hi v l.length (l.map bv) hown, by simpa using hown, .refl _ _, .inl rfl⟩
  · obtain ⟨v', w', h0, h1, h2, _, h3⟩ := run_append_own_at (P := Tryz.prog) w base 53 ty 5 i (.int .u8 0) 1 1 Tryz.underlying53 hi hz0 hz1 hz2 rfl (by omega) v l.length (l.map bv) hown ad r.length c (r.map bv) (by simp)
      (fun j y hj => by
        rw [List.getElem?_map] at hj
        by_cases hlt : j < r.length
        · rw [List.getElem?_eq_getElem hlt] at hj
          cases hj
          exact hc j hlt
        · rw [List.getElem?_eq_none (by omega)] at hj; cases hj)
      (fun y hy => by
        obtain ⟨c, _, rfl⟩ := List.mem_map.1 hy
        rfl)
      (by unfold maxLen; omega) (by omega) hbase
    exact ⟨v', w', h0, by unfold OwnB; rw [List.length_append, List.map_append]; exact h1, h2, h3⟩

theorem wp_append_bytes {w : World} {o : Oper} {a : Act} {K : Act → World → Prop} {Q : Exit → Act → World → Prop} (s x : Operand)
    (ho : o.op = .call { callee := .builtin .append, args := #[s, x], argTypes := #[53, 53] })
    (base : Nat) (v : Value) (l : List UInt8) (hs : a.eval s = v) (hown : OwnB base w v l) (u : Value) (r : List UInt8) (hx : a.eval x = u) (hr : BytesAt w u r)
    (hlen : l.length + r.length ≤ 1000000) (hbase : base ≤ w.heap.size)
    (h : ∀ v' w', OwnB base w' v' (l ++ r) → w.grownBy w' v.ownBlock → (v'.ownBlock = v.ownBlock ∨ v'.ownBlock = some w.heap.size) → K (a.put o.dst v') w') : o.wp Tryz.prog a w K Q := by
  obtain ⟨v', w', hrun, h1, h2, h3⟩ := run_append_bytes (ty := o.type) base v l hown u r hr hlen hbase
  unfold Oper.wp execOp
  simp only [ho, resolve, invoke, builtin, Sem.run_bind, Sem.run_pure, Result.andThen_ok, List.map_toArray, List.map_cons, List.map_nil, hs, hx, hrun]
  exact h v' w' h1 h2 h3

end Go.Proofs.YtecggbndlbkhdaaGreat
end
section
namespace Go.Proofs.YtecggbndlbkhdaaGreat
set_option maxRecDepth 100000
open Go.RowKit

section
variable {P : Program} {ops : Array Oper} {rest : List Oper} {o : Oper} {a : Act} {w : World} {Q : Exit → Act → World → Prop} {b : Nat} {t ty : TypeId} {x y : Operand} {dst : Option Tmp} {d : TypeDesc} {cs old : Array Value}

theorem wpList_row {fr : Nat × Nat} (h : w.heap[b]? = some (.cells cs t fr)) (hu : P.underlying ty = some d) (hd : (match d with | .struct _ | .array _ _ => true | _ => false) = true) (hi : (P.info? ty).map (·.size) = some cs.size)
    (hg : o.guard = none) (ho : o.op = .load ty x) (hdst : o.dst = dst) (hx : a.eval x = .pointer (some ⟨b, 0, none⟩))
    (k : wpList P ops Q rest (a.put dst (.agg cs)) w) : wpList P ops Q (o :: rest) a w := by
  refine Great.wpList_readTo hg dst hdst (.agg cs) ?_ k
  simp only [execOp, ho, hx, Sem.run_bind, Instr.loadAt, Instr.sureAddr, Sem.run_pure, Result.andThen_ok, run_loadVar_row w b t ty cs fr d h hu hd hi]

theorem wpList_store_row (h : w.heap[b]? = some (.cells old t (0, 0))) (hi : (P.info? ty).map (·.size) = some cs.size) (hsz : old.size = cs.size) (h1 : cs.all (·.oneCell') = true)
    (hg : o.guard = none) (ho : o.op = .store ty x y) (hdst : o.dst = none) (hx : a.eval x = .pointer (some ⟨b, 0, none⟩)) (hy : a.eval y = .agg cs)
    (k : wpList P ops Q rest a (w.setRow b cs)) : wpList P ops Q (o :: rest) a w := by
  refine wpList_plain hg fun K hK => ?_
  unfold Oper.wp
  have e : (execOp a.eval o).run P w = .ok .skip (w.setRow b cs) := by
    simp only [execOp, ho, hx, hy, Sem.run_bind, Instr.storeAt, Instr.sureAddr, Sem.run_pure, Result.andThen_ok, run_storeVar_row w b t ty old cs h hi hsz h1]
  rw [e, Oper.upon_skip, hdst]
  exact hK _ _ k

/-- the store into the block that was made last -/
theorem wpList_store_new {n : Nat} (hn : w.heap.size = n) (hi : (P.info? ty).map (·.size) = some cs.size) (hsz : old.size = cs.size) (h1 : cs.all (·.oneCell') = true)
    (hg : o.guard = none) (ho : o.op = .store ty x y) (hdst : o.dst = none) (hx : a.eval x = .pointer (some ⟨n, 0, none⟩)) (hy : a.eval y = .agg cs)
    (k : wpList P ops Q rest a (w.alloc (.cells cs t))) : wpList P ops Q (o :: rest) a (w.alloc (.cells old t)) :=
  wpList_store_row (heap_alloc_last w _) hi hsz h1 hg ho hdst (by rw [hn]; exact hx) hy (by rw [World.setRow_alloc_new]; exact k)

theorem wpList_buildTo {parts : Array (Nat × Operand)} (hg : o.guard = none) (ho : o.op = .build ty parts) (hdst : o.dst = dst)
    (hb : P.built ty (parts.map fun (i, x) => (i, a.eval x)).toList = some cs)
    (k : wpList P ops Q rest (a.put dst (.agg cs)) w) : wpList P ops Q (o :: rest) a w := by
  refine Great.wpList_readTo hg dst hdst (.agg cs) ?_ k
  have e := run_build (P := P) w ty (parts.map fun (i, x) => (i, a.eval x)) cs hb
  simp only [execOp, ho, Sem.run_bind, e, Sem.run_pure, Result.andThen_ok]

/-- the same two in a region that leaves its order open ('wpAnyH_take') -/
theorem exec_row {ρ : Operand → Value} {fr : Nat × Nat} (h : w.heap[b]? = some (.cells cs t fr)) (hu : P.underlying ty = some d) (hd : (match d with | .struct _ | .array _ _ => true | _ => false) = true) (hi : (P.info? ty).map (·.size) = some cs.size)
    (ho : o.op = .load ty x) (hx : ρ x = .pointer (some ⟨b, 0, none⟩)) : (execOp ρ o).run P w = .ok (.value (.agg cs)) w := by
  simp only [execOp, ho, hx, Sem.run_bind, Instr.loadAt, Instr.sureAddr, Sem.run_pure, Result.andThen_ok, run_loadVar_row w b t ty cs fr d h hu hd hi]
theorem exec_build {ρ : Operand → Value} {parts : Array (Nat × Operand)} (ho : o.op = .build ty parts) (hb : P.built ty (parts.map fun (i, x) => (i, ρ x)).toList = some cs) : (execOp ρ o).run P w = .ok (.value (.agg cs)) w := by
  have e := run_build (P := P) w ty (parts.map fun (i, x) => (i, ρ x)) cs hb
  simp only [execOp, ho, Sem.run_bind, e, Sem.run_pure, Result.andThen_ok]
end

/-- what a store of a whole row leaves -/
theorem at_setRow {w : World} {b : Nat} {old cs : Array Value} {t : TypeId} {f : Nat × Nat} (h : w.heap[b]? = some (.cells old t f)) : (w.setRow b cs).heap[b]? = some (.cells cs t f) := by
  simp [World.setRow, Array.getElem?_modify, h]
theorem at_setRow_other {w : World} {b k : Nat} {cs : Array Value} {o : Option Obj} (h : w.heap[k]? = o) (hk : k ≠ b) : (w.setRow b cs).heap[k]? = o := by
  simp [World.setRow, Array.getElem?_modify, Ne.symm hk, h]
theorem gb_setRow {w w1 : World} {r : Option Nat} (h : w.grownBy w1 r) {b : Nat} (hb : w.heap.size ≤ b) {cs : Array Value} : w.grownBy (w1.setRow b cs) r :=
  ⟨h.os, h.tape, h.output, by simpa [World.setRow] using h.size, fun k hk hr => by
    have e : (w1.setRow b cs).heap[k]? = w1.heap[k]? := by simp [World.setRow, Array.getElem?_modify, show b ≠ k by omega]
    rw [e]; exact h.block k hk hr⟩
section
variable {P : Program} {o : Oper} {a : Act} {w : World} {K : Act → World → Prop} {Q : Exit → Act → World → Prop} {b : Nat} {t ty : TypeId} {x y : Operand} {cs old : Array Value}
end
end Go.Proofs.YtecggbndlbkhdaaGreat
end
section
set_option linter.unusedSimpArgs false
namespace Go.Proofs.YtecggbndlbkhdaaGreat
set_option maxRecDepth 100000
open Go.RowKit

end Go.Proofs.YtecggbndlbkhdaaGreat
end
section
namespace Go.Proofs.YtecggbndlbkhdaaGreat
set_option maxRecDepth 100000
open Go.RowKit

structure Kp (w0 : World) (bs : List (Nat × Obj)) (ys : List (Value × List UInt8)) (w : World) : Prop where
  g : w0.grownBy w none
  bl : ∀ x ∈ bs, w.heap[x.1]? = some x.2
  yl : ∀ x ∈ ys, BytesAt w x.1 x.2
section
variable {w0 w w1 : World} {bs : List (Nat × Obj)} {ys : List (Value × List UInt8)} {b : Nat} {o : Obj} {v : Value} {l : List UInt8} {x0 x1 x2 x3 x4 x5 x6 : Nat × Obj} {z0 z1 z2 z3 z4 z5 : Value × List UInt8}
theorem Kp.grown (h : Kp w0 bs ys w) (hg : w.grownBy w1 none) : Kp w0 bs ys w1 :=
  ⟨gb_trans h.g hg (.inl rfl), fun x hx => at_grown (h.bl x hx) hg (by simp), fun x hx => (h.yl x hx).grown hg (by simp)⟩
theorem Kp.drew (h : Kp w0 bs ys w) : Kp w0 bs ys w.drew := ⟨gb_drew h.g, fun x hx => h.bl x hx, fun x hx => (h.yl x hx).drew⟩
theorem Kp.add (h : Kp w0 bs ys w) (k : w.heap[b]? = some o) : Kp w0 ((b, o) :: bs) ys w :=
  ⟨h.g, (fun x hx => (List.mem_cons.1 hx).elim (fun e => by rw [e]; exact k) (h.bl x)), h.yl⟩
theorem Kp.addY (h : Kp w0 bs ys w) (k : BytesAt w v l) : Kp w0 bs ((v, l) :: ys) w :=
  ⟨h.g, h.bl, (fun x hx => (List.mem_cons.1 hx).elim (fun e => by rw [e]; exact k) (h.yl x))⟩
theorem Kp.alloc (h : Kp w0 bs ys w) (o : Obj) : Kp w0 ((w.heap.size, o) :: bs) ys (w.alloc o) := (h.grown (World.grownBy_alloc w o none)).add (at_new w o)
theorem Kp.size (h : Kp w0 bs ys w) : w0.heap.size ≤ w.heap.size := gb_size h.g
theorem Kp.tail (h : Kp w0 (x0 :: bs) ys w) : Kp w0 bs ys w := ⟨h.g, fun x hx => h.bl x (List.mem_cons_of_mem _ hx), h.yl⟩
theorem Kp.tailY (h : Kp w0 bs (z0 :: ys) w) : Kp w0 bs ys w := ⟨h.g, h.bl, fun x hx => h.yl x (List.mem_cons_of_mem _ hx)⟩
theorem Kp.b0 (h : Kp w0 ((b, o) :: bs) ys w) : w.heap[b]? = some o := h.bl (b, o) (by simp)
theorem Kp.b1 (h : Kp w0 (x0 :: (b, o) :: bs) ys w) : w.heap[b]? = some o := h.tail.b0
theorem Kp.b2 (h : Kp w0 (x0 :: x1 :: (b, o) :: bs) ys w) : w.heap[b]? = some o := h.tail.b1
theorem Kp.b3 (h : Kp w0 (x0 :: x1 :: x2 :: (b, o) :: bs) ys w) : w.heap[b]? = some o := h.tail.b2
theorem Kp.b4 (h : Kp w0 (x0 :: x1 :: x2 :: x3 :: (b, o) :: bs) ys w) : w.heap[b]? = some o := h.tail.b3
theorem Kp.b5 (h : Kp w0 (x0 :: x1 :: x2 :: x3 :: x4 :: (b, o) :: bs) ys w) : w.heap[b]? = some o := h.tail.b4
theorem Kp.b6 (h : Kp w0 (x0 :: x1 :: x2 :: x3 :: x4 :: x5 :: (b, o) :: bs) ys w) : w.heap[b]? = some o := h.tail.b5
theorem Kp.b7 (h : Kp w0 (x0 :: x1 :: x2 :: x3 :: x4 :: x5 :: x6 :: (b, o) :: bs) ys w) : w.heap[b]? = some o := h.tail.b6
theorem Kp.y0 (h : Kp w0 bs ((v, l) :: ys) w) : BytesAt w v l := h.yl (v, l) (by simp)
theorem Kp.y1 (h : Kp w0 bs (z0 :: (v, l) :: ys) w) : BytesAt w v l := h.tailY.y0
theorem Kp.y2 (h : Kp w0 bs (z0 :: z1 :: (v, l) :: ys) w) : BytesAt w v l := h.tailY.y1
theorem Kp.y3 (h : Kp w0 bs (z0 :: z1 :: z2 :: (v, l) :: ys) w) : BytesAt w v l := h.tailY.y2
theorem Kp.y4 (h : Kp w0 bs (z0 :: z1 :: z2 :: z3 :: (v, l) :: ys) w) : BytesAt w v l := h.tailY.y3
theorem Kp.y5 (h : Kp w0 bs (z0 :: z1 :: z2 :: z3 :: z4 :: (v, l) :: ys) w) : BytesAt w v l := h.tailY.y4
/-- a store of a whole row into the block at hand, which is the call's own; the slices lie elsewhere -/
theorem Kp.set {cs old : Array Value} {t : TypeId} (h : Kp w0 ((b, .cells old t) :: bs) ys w) (hb : w0.heap.size ≤ b) (hne : ∀ x ∈ bs, x.1 ≠ b) (hy : ∀ x ∈ ys, x.2 = [] ∨ ∀ a n c, x.1 = .slice (some a) n c → a.block ≠ b) :
    Kp w0 ((b, .cells cs t) :: bs) ys (w.setRow b cs) := by
  have hgr : w.grownBy (w.setRow b cs) (some b) := ⟨rfl, rfl, rfl, by simp [World.setRow], fun k hk hr => by simp [World.setRow, Array.getElem?_modify, show b ≠ k by intro e; exact hr (by rw [e])]⟩
  refine ⟨gb_trans h.g hgr (.inr (.inr ⟨b, rfl, hb⟩)), fun x hx => ?_, fun x hx => (h.yl x hx).grown hgr (fun k e => by cases e; exact .inr (hy x hx))⟩
  rcases List.mem_cons.1 hx with rfl | hx
  · exact at_setRow h.b0
  · exact at_setRow_other (h.bl x (List.mem_cons_of_mem _ hx)) (hne x hx)
end

/-- a slice of the call's own was written to; all that is kept lies below -/
theorem Kp.own {w0 w w1 : World} {bs : List (Nat × Obj)} {ys : List (Value × List UInt8)} {base : Nat} {v : Value} {l : List UInt8} (h : Kp w0 bs ys w) (ho : OwnB base w v l) (hg : w.grownBy w1 v.ownBlock) (h0 : w0.heap.size ≤ base)
    (hb : ∀ x ∈ bs, x.1 < base) (hy : ∀ x ∈ ys, x.2 = [] ∨ ∀ a n c, x.1 = .slice (some a) n c → a.block < base) : Kp w0 bs ys w1 := by
  refine ⟨gb_own h.g ho h0 hg, fun x hx => at_own (h.bl x hx) ho (hb x hx) hg, fun x hx => (h.yl x hx).grown hg (fun k e => .inr ((hy x hx).elim .inl fun q => .inr fun a n c ea => ?_))⟩
  obtain ⟨p, c', rfl⟩ := ho.form
  cases p with
  | none => cases e
  | some g => have h1 := (ho.at g _ _ rfl).1; cases e; have := q a n c ea; omega
theorem Kp.low {w0 w : World} {bs : List (Nat × Obj)} {ys : List (Value × List UInt8)} (h : Kp w0 bs ys w) : (∀ x ∈ bs, x.1 < w.heap.size) ∧ (∀ x ∈ ys, x.2 = [] ∨ ∀ a n c, x.1 = .slice (some a) n c → a.block < w.heap.size) :=
  ⟨fun x hx => at_lt (h.bl x hx), fun x hx => (h.yl x hx).lt⟩

/-- a slice of the call's own that is not empty: its block, its bytes -/
theorem OwnB.full {base : Nat} {w : World} {v : Value} {l : List UInt8} (h : OwnB base w v l) (hl : 0 < l.length) : ∃ g c, v = .slice (some ⟨g, 0, none⟩) l.length c ∧ l.length ≤ c ∧ c ≤ maxLen ∧ base ≤ g ∧ g < w.heap.size := by
  obtain ⟨_, h | ⟨g, cap, cur, rfl, hb, hh, h1, h2, _⟩⟩ := h
  · omega
  · exact ⟨g, cap, rfl, h1, h2, hb, at_lt hh⟩
end Go.Proofs.YtecggbndlbkhdaaGreat
end
section
set_option linter.unusedSimpArgs false
set_option linter.unusedVariables false
namespace Go.Proofs.YtecggbndlbkhdaaGreat
set_option maxRecDepth 100000
open Go.RowKit

theorem raTop_rises {x y l : Int} (hx : 0 ≤ x) (hxy : x ≤ y) (hy : y ≤ 10000) (hl : 0 ≤ l ∧ l ≤ 1000) : ∀ (vs ws ts : List Int), Under vs ws → (∀ v ∈ vs, 0 ≤ v) → (∀ w ∈ ws, w ≤ 1099511627776) → (∀ t ∈ ts, 1 ≤ t ∧ t ≤ 1099511627776) → raTop x l vs ts ≤ raTop y l ws ts
  | [], [], ts, _, _, _, _ => by cases ts <;> exact Int.le_refl _
  | [], _ :: _, ts, h, _, _, _ => by have := h.1; simp at this
  | _ :: _, [], ts, h, _, _, _ => by have := h.1; simp at this
  | v :: vs, w :: ws, [], _, _, _, _ => by simp only [raTop]; exact Int.le_refl _
  | v :: vs, w :: ws, t :: ts, h, h1, h2, h3 => by
    have hvw : v ≤ w := h.2 0 v w rfl rfl
    have hu : Under vs ws := ⟨by have := h.1; simpa using this, fun i a b ha hb => h.2 (i + 1) a b (by simpa using ha) (by simpa using hb)⟩
    have ih := raTop_rises hx hxy hy hl vs ws ts hu (fun a ha => h1 a (List.mem_cons_of_mem _ ha)) (fun a ha => h2 a (List.mem_cons_of_mem _ ha)) (fun a ha => h3 a (List.mem_cons_of_mem _ ha))
    have h4 := raWant_rises (t := t) (l := l) hx hxy hy (h1 v (List.mem_cons_self ..)) hvw (h2 w (List.mem_cons_self ..)) (h3 t (List.mem_cons_self ..)) hl
    simp only [raTop]; omega
structure La where
  tg : List Int
  tol : Int
  ca : Ca
  po : Po
  n : Int
structure La.Ok (s : La) : Prop where
  tg : ∀ t ∈ s.tg, 1 ≤ t ∧ t ≤ 1099511627776
  ne : s.tg ≠ []
  tol : 0 ≤ s.tol ∧ s.tol ≤ 1000
  ca : s.ca.Ok
  po : s.po.Ok
  n : s.po.r.mn ≤ s.n ∧ s.n ≤ s.po.r.mx
def La.may (s : La) (vs : List Int) : Bool := (raMost s.n vs s.tg s.tol).2
def La.want (s : La) (vs : List Int) : Int := (raMost s.n vs s.tg s.tol).1
def La.come (s : La) (vs : List Int) : Int := s.po.lim ((s.ca.push (s.want vs)).out s.n)
def La.next (s : La) (vs : List Int) : La := { s with ca := s.ca.push (s.want vs), po := (s.po.put (s.come vs)).2, n := s.come vs }
def La.hold (s : La) : La := { s with po := (s.po.put s.n).2 }
theorem La.n_in {s : La} (h : s.Ok) : 0 ≤ s.n ∧ s.n ≤ 10000 := by have := h.n; have := h.po.r.mn; have := h.po.r.mx; omega
theorem La.come_in {s : La} (h : s.Ok) (vs : List Int) : s.po.r.mn ≤ s.come vs ∧ s.come vs ≤ s.po.r.mx := Rt.lim_in h.po.r
theorem La.next_ok {s : La} (h : s.Ok) (vs : List Int) : (s.next vs).Ok := by
  refine ⟨h.tg, h.ne, h.tol, Ca.push_ok h.ca _, Po.put_ok h.po _, ?_⟩
  have e : (s.next vs).po.r = s.po.r := by
    show (s.po.put (s.come vs)).2.r = s.po.r
    rw [Po.put_yes (x := s.come vs) (Po.lim_in h.po _)]
  rw [e]; exact La.come_in h vs
theorem La.hold_ok {s : La} (h : s.Ok) : s.hold.Ok := by
  refine ⟨h.tg, h.ne, h.tol, h.ca, Po.put_ok h.po _, ?_⟩
  have e : s.hold.po.r = s.po.r := by
    show (s.po.put s.n).2.r = s.po.r
    rw [Po.put_yes (Po.in_iff.2 h.n)]
  rw [e]; exact h.n
theorem La.most {s : La} (h : s.Ok) {vs : List Int} (hl : vs.length = s.tg.length) (hv : ∀ v ∈ vs, 0 ≤ v ∧ v ≤ 1099511627776) (hall : raAll s.n s.tol vs s.tg = true) : s.may vs = true ∧ s.want vs = raTop s.n s.tol vs s.tg := by
  have hne : vs.length ≠ 0 := fun e => h.ne (List.length_eq_zero_iff.1 (hl ▸ e))
  have := raMost_ok (c := s.n) (l := s.tol) hne hl hall
  unfold La.may La.want
  rw [this]; exact ⟨rfl, rfl⟩
/-- two laws of one configuration, the one at least the other -/
structure Below2 (s t : La) : Prop where
  tg : s.tg = t.tg
  tol : s.tol = t.tol
  u : s.ca.up = t.ca.up
  d : s.ca.down = t.ca.down
  r : s.po.r = t.po.r
  ca : Under s.ca.l t.ca.l
  po : Under s.po.l t.po.l
  n : s.n ≤ t.n
theorem Below2.hold {s t : La} (hs : s.Ok) (ht : t.Ok) (h : Below2 s t) : Below2 s.hold t.hold :=
  ⟨h.tg, h.tol, h.u, h.d, by
    show (s.po.put s.n).2.r = (t.po.put t.n).2.r
    rw [Po.put_yes (Po.in_iff.2 hs.n), Po.put_yes (Po.in_iff.2 ht.n)]; exact h.r, h.ca, Po.put_under h.r h.po (Po.in_iff.2 hs.n) (Po.in_iff.2 ht.n) h.n, h.n⟩
theorem Below2.next {s t : La} (hs : s.Ok) (ht : t.Ok) (h : Below2 s t) {vs ws : List Int} (hvw : Under vs ws) (w1 : s.want vs = raTop s.n s.tol vs s.tg) (w2 : t.want ws = raTop t.n t.tol ws t.tg) (hv : ∀ v ∈ vs, 0 ≤ v) (hw : ∀ w ∈ ws, w ≤ 1099511627776) : Below2 (s.next vs) (t.next ws) := by
  have b1 := La.n_in hs; have b2 := La.n_in ht
  have hwant : s.want vs ≤ t.want ws := by
    rw [w1, w2, ← h.tg, ← h.tol]
    exact raTop_rises b1.1 h.n b2.2 hs.tol vs ws s.tg hvw hv hw hs.tg
  have hca := Ca.push_under h.u h.d h.ca hwant
  have hout : (s.ca.push (s.want vs)).out s.n ≤ (t.ca.push (t.want ws)).out t.n := Ca.out_rises (A := s.ca.push (s.want vs)) (B := t.ca.push (t.want ws)) h.u h.d hca (Ca.push_ne _ _) h.n
  have hcome : s.come vs ≤ t.come ws := Po.lim_mono hs.po h.r h.po hout
  have i1 : s.po.in (s.come vs) = true := Po.lim_in hs.po _
  have i2 : t.po.in (t.come ws) = true := Po.lim_in ht.po _
  refine ⟨h.tg, h.tol, h.u, h.d, ?_, hca, Po.put_under h.r h.po i1 i2 hcome, hcome⟩
  show (s.po.put (s.come vs)).2.r = (t.po.put (t.come ws)).2.r
  rw [Po.put_yes i1, Po.put_yes i2]; exact h.r
/-- what stays where all values stay within their bands: the count; all that is kept is it -/
structure Flat (s : La) (f : Int) : Prop where
  n : s.n = f
  ca : ∀ x ∈ s.ca.l, x = f
  po : ∀ x ∈ s.po.l, x = f
theorem Flat.hold {s : La} (hs : s.Ok) {f : Int} (h : Flat s f) : Flat s.hold f := by
  refine ⟨h.n, h.ca, fun x hx => ?_⟩
  have hx : x ∈ (s.po.put s.n).2.l := hx
  rw [Po.put_yes (Po.in_iff.2 hs.n)] at hx
  rcases List.mem_append.1 (lastL_mem hx) with hx | hx
  · exact h.po x hx
  · rw [List.mem_singleton.1 hx]; exact h.n
theorem Flat.next {s : La} (hs : s.Ok) {f : Int} (h : Flat s f) {vs : List Int} (hw : s.want vs = f) : Flat (s.next vs) f ∧ s.come vs = f := by
  have b := La.n_in hs
  have hf : mill f = f := mill_id (by rw [← h.n]; omega)
  have hall : ∀ x ∈ (s.ca.push (s.want vs)).l, x = f := fun x hx => by
    rw [Ca.push_snoc] at hx
    rcases List.mem_append.1 hx with hx | hx
    · exact h.ca x (lastL_mem hx)
    · rw [List.mem_singleton.1 hx, hw, hf]
  have hout := Ca.out_steady (Ca.push_ne s.ca (s.want vs)) hall s.n
  have hbase : s.po.base = f := h.po _ (head_mem hs.po.ne)
  have hmn := hs.n
  rw [h.n] at hmn
  have hcome : s.come vs = f := by
    unfold La.come Po.lim
    rw [hout, hbase]
    have h1 := (Rt.lo_le (r := s.po.r) (b := f) hs.po.r (by have := hs.po.r.mn; omega)).2
    have h2 := Rt.hi_ge (r := s.po.r) (b := f) hs.po.r
    exact Rt.lim_id h1 (by omega) hmn.1 hmn.2
  refine ⟨⟨hcome, hall, fun x hx => ?_⟩, hcome⟩
  have hx : x ∈ (s.po.put (s.come vs)).2.l := hx
  rw [Po.put_yes (x := s.come vs) (Po.lim_in hs.po _)] at hx
  rcases List.mem_append.1 (lastL_mem hx) with hx | hx
  · exact h.po x hx
  · rw [List.mem_singleton.1 hx]; exact hcome
end Go.Proofs.YtecggbndlbkhdaaGreat
end
section
set_option linter.unusedSimpArgs false
namespace Go.Proofs.YtecggbndlbkhdaaGreat
set_option maxRecDepth 100000
open Go.RowKit

structure Conf where
  (n f m quorum fresh grace window t0 t1 t2 t3 tol min max calmup calmdown podsup pctup podsdown pctdown period far strikes probe sectors seed : Int)
@[reducible] def Conf.cells (c : Conf) : Array Value := #[.int .i64 c.n, .int .i64 c.f, .int .i64 c.m, .int .i64 c.quorum, .int .i64 c.fresh, .int .i64 c.grace, .int .i64 c.window, .int .i64 c.t0, .int .i64 c.t1, .int .i64 c.t2, .int .i64 c.t3, .int .i64 c.tol, .int .i64 c.min, .int .i64 c.max, .int .i64 c.calmup, .int .i64 c.calmdown, .int .i64 c.podsup, .int .i64 c.pctup, .int .i64 c.podsdown, .int .i64 c.pctdown, .int .i64 c.period, .int .i64 c.far, .int .i64 c.strikes, .int .i64 c.probe, .int .i64 c.sectors, .int .u64 c.seed]
@[reducible] def cf (c : Conf) : Value := .agg c.cells

theorem wrap_small {x : Int} (h : -9223372036854775808 ≤ x) (h' : x ≤ 9223372036854775807) : wrap64 x = x := by
  unfold wrap64; omega
theorem size_new (w : World) (o : Obj) : (w.alloc o).heap.size = w.heap.size + 1 := by
  show (w.heap.push o).size = _
  simp
def cwithin (n lo hi : Int) : Bool := decide (lo ≤ n) && decide (n ≤ hi)

theorem cwithin_any (n lo hi : Int) (w : World) :
    Calls Tryz.prog 216 #[.int .i64 n, .int .i64 lo, .int .i64 hi] w fun e w' => e = .returned (.bool (cwithin n lo hi)) ∧ w' = w := by
  unfold cwithin
  by_cases h1 : lo ≤ n <;> by_cases h2 : n ≤ hi <;> (
  go_enter Tryz.func216, Tryz.ntmps216
  go_wp2_with fail
  go_ret
  simp [h1, h2])
theorem cwithin64_any (n lo hi : Int) (w : World) :
    Calls Tryz.prog 218 #[.int .i64 n, .int .i64 lo, .int .i64 hi] w fun e w' => e = .returned (.bool (cwithin n lo hi)) ∧ w' = w := by
  unfold cwithin
  by_cases h1 : lo ≤ n <;> by_cases h2 : n ≤ hi <;> (
  go_enter Tryz.func218, Tryz.ntmps218
  go_wp2_with fail
  go_ret
  simp [h1, h2])
/-- the function's own block: the configuration that came in; all else as it was, or new -/
structure BoxC (w : World) (c : Conf) (w' : World) : Prop where
  box : w'.heap[w.heap.size]? = some (.cells c.cells 27)
  g : w.grownBy w' none
theorem BoxC.grown {w : World} {c : Conf} {w1 w2 : World} (h : BoxC w c w1) (hg : w1.grownBy w2 none) : BoxC w c w2 := ⟨at_grown h.box hg (by simp), gb_trans h.g hg (.inl rfl)⟩
theorem BoxC.drew {w : World} {c : Conf} {w1 : World} (h : BoxC w c w1) : BoxC w c w1.drew := ⟨h.box, gb_drew h.g⟩
theorem boxc_new (w : World) (c : Conf) : BoxC w c (w.alloc (.cells c.cells 27)) := ⟨at_new w _, gb_alloc (.refl w none) _⟩

/-- a whole configuration, read from its block -/
theorem load_conf {w : World} {b : Nat} {c : Conf} {t : TypeId} {fr : Nat × Nat} (h : w.heap[b]? = some (.cells c.cells t fr)) :
    (loadVar 27 ⟨b, 0, none⟩).run Tryz.prog w = .ok (cf c) w :=
  run_loadVar_row w b t 27 c.cells fr _ h Tryz.underlying27 rfl (by kernel_rfl)

theorem loadAt_conf {w : World} {b : Nat} {c : Conf} {t : TypeId} {fr : Nat × Nat} (h : w.heap[b]? = some (.cells c.cells t fr)) :
    (Instr.loadAt 27 (.pointer (some ⟨b, 0, none⟩))).run Tryz.prog w = .ok (cf c) w := by
  simp only [Instr.loadAt, Instr.sureAddr, Sem.run_bind, Sem.run_pure, Result.andThen_ok, load_conf h]

/-- one operation of a walk: a whole configuration is read from its block -/
theorem wpList_conf {ops : Array Oper} {rest : List Oper} {o : Oper} {a : Act} {w : World} {Q : Exit → Act → World → Prop} {b : Nat} {c : Conf} {t : TypeId} {fr : Nat × Nat} {x : Operand} {dst : Option Tmp}
    (h : w.heap[b]? = some (.cells c.cells t fr)) (hg : o.guard = none) (ho : o.op = .load 27 x) (hdst : o.dst = dst) (hx : a.eval x = .pointer (some ⟨b, 0, none⟩))
    (k : wpList Tryz.prog ops Q rest (a.put dst (cf c)) w) : wpList Tryz.prog ops Q (o :: rest) a w := by
  refine Great.wpList_readTo hg dst hdst (cf c) ?_ k
  simp only [execOp, ho, hx, Sem.run_bind, loadAt_conf h, Result.andThen]
  rfl

end Go.Proofs.YtecggbndlbkhdaaGreat
end
section
set_option linter.unusedSimpArgs false
namespace Go.Proofs.YtecggbndlbkhdaaGreat
set_option maxRecDepth 100000
open Go.RowKit

/-- the default -/
@[reducible] def dflt : Conf := ⟨4, 1, 1, 3, 2, 2, 32, 1000, 0, 0, 0, 100, 1, 100, 0, 3, 4, 100, 4, 50, 2, 100, 3, 4, 256, 1⟩
@[reducible] def zeroC : Conf := ⟨0, 0, 0, 0, 0, 0, 0, 0, 0, 0, 0, 0, 0, 0, 0, 0, 0, 0, 0, 0, 0, 0, 0, 0, 0, 0⟩

theorem default_any (w : World) :
    Calls Tryz.prog 40 #[] w fun e w' => e = .returned (cf dflt) ∧ w.grownBy w' none := by
  go_enter Tryz.func40, Tryz.ntmps40
  go_wp2_with (first | refine wpList_buildTo (ty := 24) (cs := #[.int .i64 1000, .int .i64 0, .int .i64 0, .int .i64 0]) rfl rfl rfl (by kernel_rfl) ?_ | refine wpList_buildTo (ty := 27) (cs := dflt.cells) rfl rfl rfl (by kernel_rfl) ?_ | refine wpList_store_new (cs := dflt.cells) rfl (by kernel_rfl) (by kernel_rfl) (by kernel_rfl) rfl rfl rfl rfl rfl ?_)
  refine bodyPost_ret (v := cf dflt) ?_ rfl ⟨rfl, gb_alloc (.refl w none) _⟩
  exact results_cell_row rfl _ _ w.heap.size 27 dflt.cells (0, 0) _ rfl (heap_alloc_last _ _) Tryz.underlying27 rfl (by kernel_rfl)
theorem refdefault_any (w : World) :
    Calls Tryz.prog 55 #[] w fun e w' => e = .returned (cf dflt) ∧ w.grownBy w' none := by
  go_enter Tryz.func55, Tryz.ntmps55
  go_wp2_with (first | refine wpList_buildTo (ty := 24) (cs := #[.int .i64 1000, .int .i64 0, .int .i64 0, .int .i64 0]) rfl rfl rfl (by kernel_rfl) ?_ | refine wpList_buildTo (ty := 27) (cs := dflt.cells) rfl rfl rfl (by kernel_rfl) ?_ | refine wpList_store_new (cs := dflt.cells) rfl (by kernel_rfl) (by kernel_rfl) (by kernel_rfl) rfl rfl rfl rfl rfl ?_)
  refine bodyPost_ret (v := cf dflt) ?_ rfl ⟨rfl, gb_alloc (.refl w none) _⟩
  exact results_cell_row rfl _ _ w.heap.size 27 dflt.cells (0, 0) _ rfl (heap_alloc_last _ _) Tryz.underlying27 rfl (by kernel_rfl)
end Go.Proofs.YtecggbndlbkhdaaGreat
end
