/-
  Slices of slices of bytes that came in. No condition. Nothing of the program's functions is named here.
  Arguments that are numbers laid side by side (structs and arrays of numbers, one in another): each cell of such a value is a number of its kind. No condition. Nothing of the program's functions is named here.
  Arguments that are numbers laid side by side (structs and arrays of numbers, one in another): each cell of such a value is a number of its kind. And: arguments read behind the call as they did before it, where nothing that was there has changed. No condition. Nothing of the program's functions is named here.
  Slices of numbers of kind int that came in, as a list. No condition. Nothing of the program's functions is named here.
  Slices of numbers (int64): what a slice of the call's own reads as; a part of one; append of a slice; slices of such slices. No condition. Nothing of the program's functions is named here.
  A slice of numbers that a call makes and appends to, and others that it only reads meanwhile. No condition. Nothing of the program's functions is named here.
-/
import Derived.Test.YtecggbndlbkhdaaGreatY1
import Derived.Test.YtecggbndlbkhdaaGreatRows
import Derived.ProofKit
import Derived.OpenShut
import Derived.ChangeOld
import Derived.Below
import Derived.Deep.RegionHeld3
section
namespace Go.Proofs.YtecggbndlbkhdaaGreat
set_option maxRecDepth 100000
open Go.RowKit
/-- a slice that reads as these slices of bytes -/
def RowsAt (w : World) (v : Value) (ls : List (Value × List UInt8)) : Prop :=
  (v = .slice none 0 0 ∧ ls = []) ∨
  ∃ a cap, v = .slice (some a) ls.length cap ∧ ls.length ≤ cap ∧ cap ≤ maxLen ∧ ∀ i, (h : i < ls.length) → w.cell? (a.add i) = some ls[i].1 ∧ BytesAt w ls[i].1 ls[i].2
theorem RowsAt.grown {w w1 : World} {v : Value} {l : List (Value × List UInt8)} (h : RowsAt w v l) (hg : w.grownBy w1 none) : RowsAt w1 v l := by
  rcases h with h | ⟨a, cap, rfl, h1, h2, h3⟩
  · exact .inl h
  · exact .inr ⟨a, cap, rfl, h1, h2, fun i hi => ⟨hg.cell (h3 i hi).1 (by simp), (h3 i hi).2.grown hg (by simp)⟩⟩
theorem RowsAt.cells {w : World} {v : Value} {l : List (Value × List UInt8)} (h : RowsAt w v l) (hp : 0 < l.length) :
    ∃ ab ao cap, v = .slice (some ⟨ab, ao, none⟩) l.length cap ∧ ∀ i, (h : i < l.length) → w.cell? ⟨ab, ao + i, none⟩ = some l[i].1 ∧ BytesAt w l[i].1 l[i].2 := by
  rcases h with ⟨_, rfl⟩ | ⟨⟨ab, ao, asp⟩, cap, rfl, _, _, h3⟩
  · cases hp
  · have h0 := (h3 0 hp).1
    have hsp : asp = none := by simpa [Addr.add] using World.cell?_spot h0
    subst hsp
    refine ⟨ab, ao, cap, rfl, fun i hi => ?_⟩
    have := h3 i hi
    unfold Addr.add at this
    split at this
    · next h => subst h; simpa using this
    · simpa using this
end Go.Proofs.YtecggbndlbkhdaaGreat
end
section
namespace Go.Proofs.YtecggbndlbkhdaaGreat
set_option maxRecDepth 100000
open Go.ChangeShapes Go.WideShapes Go.ChangeAt Go.RowKit

section
variable {H : Type} {enc : TypeId × Value → H} {P : Program} {w : World} {base : Nat} {spare : Nat → Bool} {held : Bool}
end
end Go.Proofs.YtecggbndlbkhdaaGreat
end
section
namespace Go.Proofs.YtecggbndlbkhdaaGreat
set_option maxRecDepth 100000
open Go.ChangeShapes Go.WideShapes Go.ChangeAt Go.RowKit

theorem own : ownKnob Tryz.prog.godebug = none := by kernel_rfl
theorem laidOut : laidOutB Tryz.prog = true := by kernel_rfl

/-- Whole lists of arguments, behind a call that changed nothing that was there. -/
theorem all_below {P : Program} (hP : laidOutB P = true) {H : Type} {enc : TypeId × Value → H} {W W' : World} (hb : Below W.heap.size W W') {ts : List TypeId} :
    ∀ {vs : List Value} {ds : List (DataW H)} {ps : List MemPlace}, (ts.all fun t => P.readableRec t && decide (t < P.types.size)) = true →
      DataW.TrodAll enc P W 0 (fun _ => true) true ts vs ds ps → (∀ x ∈ ps, x.block < W.heap.size) →
      DataW.TrodAll enc P W' 0 (fun b => decide (b < W.heap.size)) true ts vs ds ps := by
  induction ts with
  | nil =>
    intro vs ds ps _ h _
    obtain ⟨rfl, rfl, rfl⟩ := trodAll_nil h
    rfl
  | cons t ts ih =>
    intro vs ds ps ht h hlt
    obtain ⟨v, vs', d, ds', p, q, rfl, rfl, rfl, h1, h2⟩ := trodAll_cons h
    simp only [List.all_cons, Bool.and_eq_true, decide_eq_true_eq] at ht
    exact ⟨p, q, Below.trod hP ht.1.1 ht.1.2 h1 hb (fun x hx => hlt x (List.mem_append_left _ hx)), ih ht.2 h2 (fun x hx => hlt x (List.mem_append_right _ hx)), rfl⟩
end Go.Proofs.YtecggbndlbkhdaaGreat
end
section
set_option linter.unusedSimpArgs false
namespace Go.Proofs.YtecggbndlbkhdaaGreat
set_option maxRecDepth 100000
open Go.ChangeShapes Go.WideShapes Go.ChangeAt Go.RowKit

def IntsAt (w : World) (v : Value) (l : List Int) : Prop :=
  (v = .slice none 0 0 ∧ l = []) ∨
  ∃ a cap, v = .slice (some a) l.length cap ∧ l.length ≤ cap ∧ cap ≤ maxLen ∧ ∀ i, (h : i < l.length) → w.cell? (a.add i) = some (.int .i64 l[i])
theorem IntsAt.grown {w w1 : World} {v : Value} {l : List Int} (h : IntsAt w v l) (hg : w.grownBy w1 none) : IntsAt w1 v l := by
  rcases h with h | ⟨a, cap, rfl, h1, h2, h3⟩
  · exact .inl h
  · exact .inr ⟨a, cap, rfl, h1, h2, fun i hi => hg.cell (h3 i hi) (by simp)⟩
theorem IntsAt.cells {w : World} {v : Value} {l : List Int} (h : IntsAt w v l) (hp : 0 < l.length) :
    ∃ ab ao cap, v = .slice (some ⟨ab, ao, none⟩) l.length cap ∧ ∀ i, (h : i < l.length) → w.cell? ⟨ab, ao + i, none⟩ = some (.int .i64 l[i]) := by
  rcases h with ⟨_, rfl⟩ | ⟨⟨ab, ao, asp⟩, cap, rfl, _, _, h3⟩
  · cases hp
  · have h0 := h3 0 hp
    have hsp : asp = none := by simpa [Addr.add] using World.cell?_spot h0
    subst hsp
    refine ⟨ab, ao, cap, rfl, fun i hi => ?_⟩
    have := h3 i hi
    unfold Addr.add at this
    split at this
    · next h => subst h; simpa using this
    · simpa using this
section
variable {H : Type} {enc : TypeId × Value → H} {w : World} {base : Nat} {d : DataW H} {ps : List MemPlace} {v : Value} {t e : TypeId}
/-- a slice of numbers -/
theorem open_intlist (ht : Tryz.prog.underlying t = some (.slice e)) (he : Tryz.prog.underlying e = some (.int .i64)) (hc : Tryz.prog.cellsOf e = 1)
    (hval : Value.okWide Tryz.prog w .any base t v) (h : DataW.Trod enc Tryz.prog w 0 (fun _ => true) true t v d ps) :
    ∃ l : List Int, ∃ p c, v = .slice p l.length c ∧ IntsAt w v l := by
  obtain ⟨a0, len, cap, rfl⟩ := okWide_slice ht hval
  obtain ⟨fuel, hf⟩ := h
  rcases open_ints ht he hc hf with ⟨hcs, _⟩ | ⟨a, len', cap', zs, hcs, _, hl, hm, hz, _, hcell, _⟩
  · simp [Value.cells] at hcs
    obtain ⟨rfl, rfl, rfl⟩ := hcs
    exact ⟨[], none, 0, rfl, .inl ⟨rfl, rfl⟩⟩
  · simp [Value.cells] at hcs
    obtain ⟨rfl, rfl, rfl⟩ := hcs
    have hz' : zs.length = cap := by simpa using hz
    refine ⟨zs.take len, some a, cap, by simp; omega, .inr ⟨a, cap, by simp; omega, by simp; omega, hm, fun i hi => ?_⟩⟩
    simp at hi
    rw [hcell i (by omega)]
    simp [List.getD_eq_getElem?_getD, List.getElem?_eq_getElem (show i < zs.length by omega)]
end
end Go.Proofs.YtecggbndlbkhdaaGreat
end
section
set_option linter.unusedSimpArgs false
set_option linter.unusedVariables false
namespace Go.Proofs.YtecggbndlbkhdaaGreat
set_option maxRecDepth 100000
open Go.RowKit

theorem IntsAt.form {w : World} {v : Value} {l : List Int} (h : IntsAt w v l) : ∃ p c, v = .slice p l.length c := by
  rcases h with ⟨rfl, rfl⟩ | ⟨a, cap, rfl, _, _, _⟩
  · exact ⟨none, 0, rfl⟩
  · exact ⟨some a, cap, rfl⟩
theorem IntsAt.len {w : World} {v : Value} {l : List Int} (h : IntsAt w v l) : l.length ≤ maxLen := by
  rcases h with ⟨_, rfl⟩ | ⟨a, cap, _, h1, h2, _⟩
  · exact Nat.zero_le _
  · exact Nat.le_trans h1 h2
theorem IntsAt.drew {w : World} {v : Value} {l : List Int} (h : IntsAt w v l) : IntsAt w.drew v l := h
theorem IntsAt.alloc {w : World} {v : Value} {l : List Int} (h : IntsAt w v l) (o : Obj) : IntsAt (w.alloc o) v l := h.grown (World.grownBy_alloc w o none)
theorem IntsAt.nil (w : World) : IntsAt w (.slice none 0 0) [] := .inl ⟨rfl, rfl⟩
theorem IntsAt.cell {w : World} {p : Option Addr} {n c : Nat} {l : List Int} (h : IntsAt w (.slice p n c) l) {i : Nat} (hi : i < l.length) :
    ∃ ab ao, p = some ⟨ab, ao, none⟩ ∧ n = l.length ∧ n ≤ c ∧ w.cell? ⟨ab, ao + i, none⟩ = some (.int .i64 l[i]) := by
  obtain ⟨ab, ao, cap, e, hc⟩ := h.cells (by omega)
  cases e
  refine ⟨ab, ao, rfl, rfl, ?_, hc i hi⟩
  rcases h with ⟨e, _⟩ | ⟨a, cap, e, h1, _, _⟩
  · cases e
  · cases e; exact h1
theorem iadd_at (b o i : Nat) : (⟨b, o, none⟩ : Addr).add i = ⟨b, o + i, none⟩ := by unfold Addr.add; split <;> simp_all
theorem OwnI.ints {base : Nat} {w : World} {v : Value} {l : List Int} (h : OwnI base w v l) : IntsAt w v l := by
  obtain ⟨_, h | ⟨g, cap, cur, rfl, _, hh, h1, h2, h3, h4⟩⟩ := h
  · exact .inl ⟨h.1, by simpa using h.2⟩
  · refine .inr ⟨_, cap, rfl, h1, h2, fun i hi => ?_⟩
    rw [iadd_at, Nat.zero_add, at_cell hh i]
    have hc : cur.toList[i]? = (l.map iv)[i]? := by
      rw [← h4, Nat.mul_one, List.getElem?_take]; simp [hi]
    rw [← Array.getElem?_toList, hc]
    simp [List.getElem?_map, List.getElem?_eq_getElem hi, iv]
theorem OwnI.grown {base : Nat} {w w1 : World} {v : Value} {l : List Int} {r : Option Nat} (h : OwnI base w v l) (hg : w.grownBy w1 r) (hr : ∀ g, v.ownBlock = some g → some g ≠ r) : OwnI base w1 v l := by
  obtain ⟨h0, h | ⟨g, cap, cur, rfl, hb, hh, h1⟩⟩ := h
  · exact ⟨h0, .inl h⟩
  · exact ⟨h0, .inr ⟨g, cap, cur, rfl, hb, at_grown hh hg (hr g rfl), h1⟩⟩
theorem OwnI.drew {base : Nat} {w : World} {v : Value} {l : List Int} (h : OwnI base w v l) : OwnI base w.drew v l := h
theorem OwnI.empty (w : World) : OwnI w.heap.size (w.alloc (.cells #[] 2)) (.slice (some ⟨w.heap.size, 0, none⟩) 0 0) [] :=
  ⟨rfl, .inr ⟨w.heap.size, 0, #[], rfl, Nat.le_refl _, at_new w _, Nat.le_refl _, Nat.zero_le _, rfl, rfl⟩⟩
theorem gb_ownI {w w5 wc : World} {base : Nat} {v : Value} {l : List Int} (h : w.grownBy w5 none) (ho : OwnI base w5 v l) (hb : w.heap.size ≤ base) (hg : w5.grownBy wc v.ownBlock) : w.grownBy wc none :=
  gb_trans h hg (by
    cases hv : v.ownBlock with
    | none => exact .inl rfl
    | some g => exact .inr (.inr ⟨g, rfl, Nat.le_trans hb (ho.at g (by simp [ownL, hv])).1⟩))
/-- numbers that a block holds -/
theorem ints_of_cells {w : World} {b : Nat} {f : Nat × Nat} (l : List Int) (h : w.heap[b]? = some (.cells (l.map iv).toArray 2 f)) (hl : l.length ≤ maxLen) : IntsAt w (.slice (some ⟨b, 0, none⟩) l.length l.length) l :=
  .inr ⟨_, l.length, rfl, Nat.le_refl _, hl, fun i hi => by
    rw [iadd_at, Nat.zero_add, at_cell h i]
    simp [iv]⟩
/-- the first j; all from i on -/
theorem ints_slice0 {w : World} {ab ao n c j : Nat} {l : List Int} (h : IntsAt w (.slice (some ⟨ab, ao, none⟩) n c) l) (hj : j ≤ n) : IntsAt w (.slice (some ⟨ab, ao, none⟩) j c) (l.take j) := by
  rcases h with ⟨h, _⟩ | ⟨a, cap, e, h1, h2, h3⟩
  · cases h
  · cases e
    have hl : (l.take j).length = j := by rw [List.length_take]; omega
    refine .inr ⟨_, c, by rw [hl], by omega, h2, fun i hi => ?_⟩
    have := h3 i (by omega)
    rw [this]; simp
theorem ints_slice1 {w : World} {ab ao n c i : Nat} {l : List Int} (h : IntsAt w (.slice (some ⟨ab, ao, none⟩) n c) l) (hi : i ≤ n) : IntsAt w (.slice (some ⟨ab, ao + i, none⟩) (n - i) (c - i)) (l.drop i) := by
  rcases h with ⟨h, _⟩ | ⟨a, cap, e, h1, h2, h3⟩
  · cases h
  · cases e
    have hl : (l.drop i).length = l.length - i := by rw [List.length_drop]
    refine .inr ⟨_, c - i, by rw [hl], by omega, by omega, fun k hk => ?_⟩
    have := h3 (i + k) (by omega)
    rw [iadd_at] at this ⊢
    rw [Nat.add_assoc, this]; simp

/-- append of numbers to a slice of the call's own -/
theorem run_append_ints {w : World} {ty : TypeId} (base : Nat) (v : Value) (l : List Int) (hown : OwnI base w v l) (u : Value) (r : List Int) (hr : IntsAt w u r) (hlen : l.length + r.length ≤ 1000000) (hbase : base ≤ w.heap.size) :
    ∃ v' w', (Builtin.append_ #[73, 73] ty #[v, u]).run Tryz.prog w = .ok v' w' ∧ OwnI base w' v' (l ++ r) ∧ w.grownBy w' v.ownBlock ∧ (v'.ownBlock = v.ownBlock ∨ v'.ownBlock = some w.heap.size) := by
  obtain ⟨i, hi, hz0, hz1, hz2⟩ := info_parts info_i64
  rcases hr with ⟨rfl, rfl⟩ | ⟨ad, c, rfl, _, _, hc⟩
  · exact ⟨v, w, run_append_owned_none (P := Tryz.prog) (w := w) base 73 ty 2 i 1 Tryz.underlying73 hi v l.length (l.map iv) hown, by simpa using hown, .refl _ _, .inl rfl⟩
  · obtain ⟨v', w', h0, h1, h2, _, h3⟩ := run_append_own_at (P := Tryz.prog) w base 73 ty 2 i (.int .i64 0) 1 8 Tryz.underlying73 hi hz0 hz1 hz2 rfl (by omega) v l.length (l.map iv) hown ad r.length c (r.map iv) (by simp)
      (fun j y hj => by
        rw [List.getElem?_map] at hj
        by_cases hlt : j < r.length
        · rw [List.getElem?_eq_getElem hlt] at hj
          cases hj
          exact hc j hlt
        · rw [List.getElem?_eq_none (by omega)] at hj; cases hj)
      (fun y hy => by
        obtain ⟨c, _, rfl⟩ := List.mem_map.1 hy
        rfl)
      (by unfold maxLen; omega) (by omega) hbase
    exact ⟨v', w', h0, by unfold OwnI; rw [List.length_append, List.map_append]; exact h1, h2, h3⟩
theorem wp_append_ints {w : World} {o : Oper} {a : Act} {K : Act → World → Prop} {Q : Exit → Act → World → Prop} (s x : Operand)
    (ho : o.op = .call { callee := .builtin .append, args := #[s, x], argTypes := #[73, 73] })
    (base : Nat) (v : Value) (l : List Int) (hs : a.eval s = v) (hown : OwnI base w v l) (u : Value) (r : List Int) (hx : a.eval x = u) (hr : IntsAt w u r)
    (hlen : l.length + r.length ≤ 1000000) (hbase : base ≤ w.heap.size)
    (h : ∀ v' w', OwnI base w' v' (l ++ r) → w.grownBy w' v.ownBlock → (v'.ownBlock = v.ownBlock ∨ v'.ownBlock = some w.heap.size) → K (a.put o.dst v') w') : o.wp Tryz.prog a w K Q := by
  obtain ⟨v', w', hrun, h1, h2, h3⟩ := run_append_ints (ty := o.type) base v l hown u r hr hlen hbase
  unfold Oper.wp execOp
  simp only [ho, resolve, invoke, builtin, Sem.run_bind, Sem.run_pure, Result.andThen_ok, List.map_toArray, List.map_cons, List.map_nil, hs, hx, hrun]
  exact h v' w' h1 h2 h3
theorem append_ints {w : World} {ops : Array Oper} {rest : List Oper} {o : Oper} {a : Act} {Q : Exit → Act → World → Prop} (hgd : o.guard = none) (s x : Operand)
    (ho : o.op = .call { callee := .builtin .append, args := #[s, x], argTypes := #[73, 73] })
    (base : Nat) (v : Value) (l : List Int) (hs : a.eval s = v) (hown : OwnI base w v l) (u : Value) (r : List Int) (hx : a.eval x = u) (hr : IntsAt w u r)
    (hlen : l.length + r.length ≤ 1000000) (hbase : base ≤ w.heap.size)
    (h : ∀ v' w', OwnI base w' v' (l ++ r) → w.grownBy w' v.ownBlock → (v'.ownBlock = v.ownBlock ∨ v'.ownBlock = some w.heap.size) → wpList Tryz.prog ops Q rest (a.put o.dst v') w') : wpList Tryz.prog ops Q (o :: rest) a w := by
  have hw : Region.wanted o (yielded ops a.tmps) = true := by unfold Region.wanted; rw [hgd]
  refine wpList_step fun K hK => ?_
  rw [if_pos hw]
  exact wp_append_ints s x ho base v l hs hown u r hx hr hlen hbase fun v' w' h1 h2 h3 => hK _ _ (h v' w' h1 h2 h3)

theorem IntsAt.cell' {w : World} {ab ao n c i : Nat} {l : List Int} {x : Int} (h : IntsAt w (.slice (some ⟨ab, ao, none⟩) n c) l) (hx : l[i]? = some x) : w.cell? ⟨ab, ao + i, none⟩ = some (.int .i64 x) := by
  obtain ⟨hi, rfl⟩ := List.getElem?_eq_some_iff.1 hx
  obtain ⟨ab', ao', e, _, _, hc⟩ := h.cell hi
  cases e; exact hc
/-- a slice that reads as these slices of numbers -/
def RowsI (w : World) (v : Value) (ls : List (Value × List Int)) : Prop :=
  ∃ a cap, v = .slice (some a) ls.length cap ∧ ls.length ≤ cap ∧ cap ≤ maxLen ∧ ∀ i, (h : i < ls.length) → w.cell? (a.add i) = some ls[i].1 ∧ IntsAt w ls[i].1 ls[i].2
theorem RowsI.grown {w w1 : World} {v : Value} {l : List (Value × List Int)} (h : RowsI w v l) (hg : w.grownBy w1 none) : RowsI w1 v l := by
  obtain ⟨a, cap, rfl, h1, h2, h3⟩ := h
  exact ⟨a, cap, rfl, h1, h2, fun i hi => ⟨hg.cell (h3 i hi).1 (by simp), (h3 i hi).2.grown hg⟩⟩
theorem RowsI.cells {w : World} {v : Value} {l : List (Value × List Int)} (h : RowsI w v l) (hp : 0 < l.length) :
    ∃ ab ao cap, v = .slice (some ⟨ab, ao, none⟩) l.length cap ∧ ∀ i, (h : i < l.length) → w.cell? ⟨ab, ao + i, none⟩ = some l[i].1 ∧ IntsAt w l[i].1 l[i].2 := by
  obtain ⟨⟨ab, ao, asp⟩, cap, rfl, _, _, h3⟩ := h
  have h0 := (h3 0 hp).1
  have hsp : asp = none := by simpa [Addr.add] using World.cell?_spot h0
  subst hsp
  exact ⟨ab, ao, cap, rfl, fun i hi => by rw [← iadd_at]; exact h3 i hi⟩
/-- one row; two rows, in a new block -/
theorem rows_one {w w1 : World} {b : Nat} {v : Value} {l : List Int} {t : TypeId} (h : w1.heap[b]? = some (.cells #[v] t)) (h0 : IntsAt w1 v l) : RowsI w1 (.slice (some ⟨b, 0, none⟩) 1 1) [(v, l)] :=
  ⟨_, 1, rfl, Nat.le_refl _, by unfold maxLen; omega, fun i hi => by
    match i, hi with
    | 0, _ => exact ⟨by rw [iadd_at, Nat.zero_add, at_cell h 0]; rfl, h0⟩⟩
end Go.Proofs.YtecggbndlbkhdaaGreat
end
section
set_option linter.unusedSimpArgs false
set_option linter.unusedVariables false
namespace Go.Proofs.YtecggbndlbkhdaaGreat
set_option maxRecDepth 100000
open Go.RowKit

/-- a slice that reads as these numbers, and lies elsewhere than vn -/
def Rd (W : World) (vn u : Value) (r : List Int) : Prop := IntsAt W u r ∧ (r ≠ [] → ∀ a n c, u = .slice (some a) n c → a.block < W.heap.size ∧ vn.ownBlock ≠ some a.block)
theorem ints_block {W : World} {u : Value} {r : List Int} (h : IntsAt W u r) (hr : r ≠ []) : ∀ a n c, u = .slice (some a) n c → a.block < W.heap.size := by
  intro a n c e
  subst e
  have hp : 0 < r.length := List.length_pos_iff.2 hr
  obtain ⟨ab, ao, cap, e, hc⟩ := h.cells hp
  cases e
  exact World.block_lt_of_cell? _ _ (hc 0 hp)
theorem ints_empty {W W' : World} {u : Value} (h : IntsAt W u []) : IntsAt W' u [] := by
  rcases h with h | ⟨a, cap, rfl, h1, h2, _⟩
  · exact .inl h
  · exact .inr ⟨a, cap, rfl, h1, h2, fun i hi => absurd hi (Nat.not_lt_zero i)⟩
section
variable {w W W' : World} {vn vn' u : Value} {r s : List Int} {L L' : List (Value × List Int)} {p : Value × List Int}
theorem Rd.grown (h : Rd W vn u r) (hg : W.grownBy W' none) : Rd W' vn u r := ⟨h.1.grown hg, fun h0 a n c e => ⟨Nat.lt_of_lt_of_le (h.2 h0 a n c e).1 hg.size, (h.2 h0 a n c e).2⟩⟩
theorem Rd.drew (h : Rd W vn u r) : Rd W.drew vn u r := h
/-- behind an append to vn -/
theorem Rd.app (h : Rd W vn u r) (hg : W.grownBy W' vn.ownBlock) (ha : vn'.ownBlock = vn.ownBlock ∨ vn'.ownBlock = some W.heap.size) : Rd W' vn' u r := by
  by_cases h0 : r = []
  · subst h0; exact ⟨ints_empty h.1, fun h => absurd rfl h⟩
  · refine ⟨?_, fun _ a n c e => ?_⟩
    · rcases h.1 with h1 | ⟨a, cap, rfl, h1, h2, h3⟩
      · exact .inl h1
      · refine .inr ⟨a, cap, rfl, h1, h2, fun i hi => hg.cell (h3 i hi) ?_⟩
        have e1 : (a.add i).block = a.block := by unfold Addr.add; split <;> rfl
        rw [e1]
        exact (h.2 h0 a _ _ rfl).2.symm
    · have h1 := h.2 h0 a n c e
      refine ⟨Nat.lt_of_lt_of_le h1.1 hg.size, ?_⟩
      rcases ha with ha | ha
      · rw [ha]; exact h1.2
      · rw [ha]; intro e2; have e3 := Option.some.inj e2; have := h1.1; omega
/-- vn lies in a new block now -/
theorem Rd.fresh (h : Rd W vn u r) (hg : W.grownBy W' none) (hv : ∀ g, vn'.ownBlock = some g → W.heap.size ≤ g) : Rd W' vn' u r :=
  ⟨h.1.grown hg, fun h0 a n c e => ⟨Nat.lt_of_lt_of_le (h.2 h0 a n c e).1 hg.size, fun e2 => absurd (h.2 h0 a n c e).1 (Nat.not_lt.2 (hv _ e2))⟩⟩
theorem Rd.at {ab ao n c i : Nat} {x : Int} (h : Rd W vn (.slice (some ⟨ab, ao, none⟩) n c) r) (hx : r[i]? = some x) : W.cell? ⟨ab, ao + i, none⟩ = some (.int .i64 x) := by
  obtain ⟨hi, rfl⟩ := List.getElem?_eq_some_iff.1 hx
  obtain ⟨ab', ao', e, _, _, hc⟩ := h.1.cell hi
  cases e; exact hc
theorem Rd.take {ab ao n c j : Nat} (h : Rd W vn (.slice (some ⟨ab, ao, none⟩) n c) r) (hj : j ≤ n) : Rd W vn (.slice (some ⟨ab, ao, none⟩) j c) (r.take j) :=
  ⟨ints_slice0 h.1 hj, fun h0 a n' c' e => by cases e; exact h.2 (fun e => h0 (by rw [e]; simp)) _ _ _ rfl⟩
theorem Rd.drop {ab ao n c j : Nat} (h : Rd W vn (.slice (some ⟨ab, ao, none⟩) n c) r) (hj : j ≤ n) : Rd W vn (.slice (some ⟨ab, ao + j, none⟩) (n - j) (c - j)) (r.drop j) :=
  ⟨ints_slice1 h.1 hj, fun h0 a n' c' e => by cases e; exact h.2 (fun e => h0 (by rw [e]; simp)) ⟨ab, ao, none⟩ _ _ rfl⟩
/-- one number of the slice of the call's own is another now -/
theorem OwnI.set {base : Nat} {w : World} {g n c j : Nat} {l : List Int} (h : OwnI base w (.slice (some ⟨g, 0, none⟩) n c) l) (x : Int) : OwnI base (w.setCell ⟨g, j, none⟩ (.int .i64 x)) (.slice (some ⟨g, 0, none⟩) n c) (l.set j x) := by
  obtain ⟨h0, h | ⟨g', cap, cur, e, hb, hh, h1, h2, h3, h4⟩⟩ := h
  · cases h.1
  · cases e
    refine ⟨by simp, .inr ⟨g, c, cur.setIfInBounds j (.int .i64 x), by simp, hb, at_set hh j _, by simpa using h1, h2, by simpa using h3, ?_⟩⟩
    simp only [List.length_set, Nat.mul_one] at h4 ⊢
    rw [Array.toList_setIfInBounds, List.map_set, ← h4, List.take_set]
    rfl
theorem OwnI.free {base : Nat} {w : World} {g n c j : Nat} {l : List Int} (h : OwnI base w (.slice (some ⟨g, 0, none⟩) n c) l) : w.frozen? ⟨g, j, none⟩ = false := by
  obtain ⟨h0, h | ⟨g', cap, cur, e, hb, hh, _⟩⟩ := h
  · cases h.1
  · cases e; exact at_free hh j
theorem Rd.nil : Rd W vn (.slice none 0 0) [] := ⟨.nil W, fun h => absurd rfl h⟩

/-- a slice of the call's own that grows, and others beside it -/
structure Bag (w : World) (vn : Value) (r : List Int) (L : List (Value × List Int)) (W : World) : Prop where
  gr : w.grownBy W none
  own : OwnI w.heap.size W vn r
  rd : ∀ p ∈ L, Rd W vn p.1 p.2
theorem Bag.hd (h : Bag w vn r ((u, s) :: L) W) : Rd W vn u s := h.rd _ (List.mem_cons_self ..)
theorem Bag.tl (h : Bag w vn r (p :: L) W) : Bag w vn r L W := ⟨h.gr, h.own, fun q hq => h.rd q (List.mem_cons_of_mem _ hq)⟩
theorem Bag.sub (h : Bag w vn r L W) (hs : ∀ p ∈ L', p ∈ L) : Bag w vn r L' W := ⟨h.gr, h.own, fun q hq => h.rd q (hs q hq)⟩
theorem Bag.grown (h : Bag w vn r L W) (hg : W.grownBy W' none) : Bag w vn r L W' := ⟨gb_trans h.gr hg (.inl rfl), h.own.grown hg (by simp), fun q hq => (h.rd q hq).grown hg⟩
theorem Bag.drew (h : Bag w vn r L W) : Bag w vn r L W.drew := ⟨gb_drew h.gr, h.own.drew, h.rd⟩
theorem Bag.app (h : Bag w vn r L W) (ho : OwnI w.heap.size W' vn' s) (hg : W.grownBy W' vn.ownBlock) (ha : vn'.ownBlock = vn.ownBlock ∨ vn'.ownBlock = some W.heap.size) : Bag w vn' s L W' :=
  ⟨gb_ownI h.gr h.own (Nat.le_refl _) hg, ho, fun q hq => (h.rd q hq).app hg ha⟩
theorem Bag.set {g n c j : Nat} (h : Bag w (.slice (some ⟨g, 0, none⟩) n c) r L W) (x : Int) : Bag w (.slice (some ⟨g, 0, none⟩) n c) (r.set j x) L (W.setCell ⟨g, j, none⟩ (.int .i64 x)) :=
  ⟨gb_new h.gr (by have := (h.own.at g (by simp [ownL, Value.ownBlock])).1; exact this) _, h.own.set x, fun q hq => (h.rd q hq).app (vn := .slice (some ⟨g, 0, none⟩) n c) (gb_row (.refl W _) rfl _) (.inl rfl)⟩
theorem Bag.start (hg : w.grownBy W none) (hL : ∀ p ∈ L, IntsAt W p.1 p.2) : Bag w (.slice none 0 0) [] L W :=
  ⟨hg, .nil _ _, fun q hq => ⟨hL q hq, fun h0 a n c e => ⟨ints_block (hL q hq) h0 a n c e, by simp [Value.ownBlock]⟩⟩⟩
/-- an empty slice of the call's own -/
theorem Bag.fresh (h : Bag w vn r L W) : Bag w (.slice (some ⟨W.heap.size, 0, none⟩) 0 0) [] L (W.alloc (.cells #[] 2)) :=
  ⟨gb_alloc h.gr _, (OwnI.empty W).le h.gr.size, fun q hq => (h.rd q hq).fresh (World.grownBy_alloc W _ none) (fun g e => by simp [Value.ownBlock] at e; omega)⟩
/-- one more to read: a new block -/
theorem Bag.add (h : Bag w vn r L W) (l : List Int) (hl : l.length ≤ maxLen) : Bag w vn r ((.slice (some ⟨W.heap.size, 0, none⟩) l.length l.length, l) :: L) (W.alloc (.cells (l.map iv).toArray 2)) :=
  ⟨gb_alloc h.gr _, h.own.grown (World.grownBy_alloc W _ none) (by simp), fun q hq => by
    rcases List.mem_cons.1 hq with rfl | hq
    · refine ⟨ints_of_cells l (at_new W _) hl, fun _ a n c e => ?_⟩
      cases e
      refine ⟨by show W.heap.size < (W.heap.push _).size; simp, fun e2 => ?_⟩
      have := (h.own.at W.heap.size (by simp [ownL]; simpa using e2)).2
      exact absurd this (Nat.lt_irrefl _)
    · exact (h.rd q hq).grown (World.grownBy_alloc W _ none)⟩
/-- the third of three is a new block's one number now -/
theorem Bag.one {p1 p2 p3 : Value × List Int} (h : Bag w vn r [p1, p2, p3] W) (x : Int) : Bag w vn r [p1, p2, (.slice (some ⟨W.heap.size, 0, none⟩) 1 1, [x])] (W.alloc (.cells #[.int .i64 x] 2)) :=
  Bag.sub (L := [(.slice (some ⟨W.heap.size, 0, none⟩) 1 1, [x]), p1, p2, p3]) (h.add [x] (by show 1 ≤ maxLen; unfold maxLen; decide)) (by
    intro p hp
    simp only [List.mem_cons, List.not_mem_nil, or_false] at hp ⊢
    rcases hp with rfl | rfl | rfl
    · exact .inr (.inl rfl)
    · exact .inr (.inr (.inl rfl))
    · exact .inl rfl)
theorem Bag.more (h : Bag w vn r L W) (hp : Rd W vn u s) : Bag w vn r ((u, s) :: L) W :=
  ⟨h.gr, h.own, fun q hq => by
    rcases List.mem_cons.1 hq with rfl | hq
    · exact hp
    · exact h.rd q hq⟩
end
end Go.Proofs.YtecggbndlbkhdaaGreat
end
