/-
  Slices of numbers (int64) that the call itself makes and appends to: what they hold. No condition. Nothing of the program's functions is named here.
  Slices of numbers (int64): what a slice of the call's own reads as; a part of one; append of a slice; slices of such slices. No condition. Nothing of the program's functions is named here.
  Slices of numbers (int) that the call itself makes and appends to: what they hold. No condition. Nothing of the program's functions is named here.
  Slices of numbers (int): what a slice of the call's own reads as; append of a slice; literals. No condition. Nothing of the program's functions is named here.
  What a walk keeps beside its calls: slices that read as numbers. And: slices of numbers (int64) that came in, with what each number may be. No condition. Nothing of the program's functions is named here.
  Contracts for package calm: the object, its inner functions; the least and the greatest of a slice. The condition of a call: the object lies there, a slice reads as numbers.
  Contracts for package calm: how many are kept at most, the last ones, one more put behind; the least and the greatest of a slice. The condition of a call: the object lies there, a slice reads as numbers.
  For a region that leaves its order open: the condition that is held may be made stronger on the way. No condition. Nothing of the program is named here.
-/
import Derived.Test.YthobbekocimcnaaGreatRows
import Derived.Test.YthobbekocimcnaaGreatZ1
import Derived.Laws.AppendOwnNone
import Derived.Maps.AppendAt
import Derived.Deep.RegionHeld3
import Derived.LoopTactic
import Derived.BigQuiet
import Derived.Laws.CopyRow
import Derived.Deep.QuietTactic
import Derived.WalkSpells
import Derived.WalkLawsBesides
import Derived.WalkKit
section
set_option linter.unusedSimpArgs false
namespace Go.Proofs.YthobbekocimcnaaGreat
set_option maxRecDepth 100000
open Go.RowKit

def iv (n : Int) : Value := .int .i64 n
def OwnI (base : Nat) (w : World) (v : Value) (l : List Int) : Prop := w.ownsRow base 2 1 v l.length (l.map iv)
/-- the block of a slice of the call's own -/
def ownL (v : Value) : List Nat := v.ownBlock.toList
theorem OwnI.form {base : Nat} {w : World} {v : Value} {l : List Int} (h : OwnI base w v l) : ∃ p c, v = .slice p l.length c := by
  obtain ⟨_, h | ⟨g, cap, cur, rfl, _⟩⟩ := h
  · exact ⟨none, 0, by rw [h.1, h.2]⟩
  · exact ⟨_, _, rfl⟩
theorem OwnI.at {base : Nat} {w : World} {v : Value} {l : List Int} (h : OwnI base w v l) : ∀ g, g ∈ ownL v → base ≤ g ∧ g < w.heap.size := by
  intro g hg
  obtain ⟨_, h | ⟨g', cap, cur, rfl, hb, hh, _⟩⟩ := h
  · rw [h.1] at hg; simp [ownL, Value.ownBlock] at hg
  · simp [ownL, Value.ownBlock] at hg
    subst hg
    exact ⟨hb, at_lt hh⟩
theorem OwnI.cells {base : Nat} {w : World} {v : Value} {l : List Int} (h : OwnI base w v l) {i : Nat} (hi : i < l.length) :
    ∃ g c, v = .slice (some ⟨g, 0, none⟩) l.length c ∧ l.length ≤ c ∧ ∀ j, (h : j < l.length) → w.cell? ⟨g, j, none⟩ = some (.int .i64 l[j]) := by
  obtain ⟨_, h | ⟨g, cap, cur, rfl, _, hh, h1, h2, h3, h4⟩⟩ := h
  · exact absurd hi (by rw [h.2]; simp)
  · refine ⟨g, cap, rfl, h1, fun j hj => ?_⟩
    rw [at_cell hh j]
    have hc : cur.toList[j]? = (l.map iv)[j]? := by
      rw [← h4, Nat.mul_one, List.getElem?_take]; simp [hj]
    rw [← Array.getElem?_toList, hc]
    simp [List.getElem?_map, List.getElem?_eq_getElem hj, iv]
theorem OwnI.chg {base : Nat} {w w1 : World} {F : List Nat} {v : Value} {l : List Int} (h : OwnI base w v l) (hg : Chg F w w1) (hr : ∀ g, g ∈ ownL v → g ∉ F) : OwnI base w1 v l := by
  obtain ⟨h0, h | ⟨g, cap, cur, rfl, hb, hh, h1⟩⟩ := h
  · exact ⟨h0, .inl h⟩
  · exact ⟨h0, .inr ⟨g, cap, cur, rfl, hb, hg.at hh (hr g (by simp [ownL, Value.ownBlock])), h1⟩⟩
theorem OwnI.nil (base : Nat) (w : World) : OwnI base w (.slice none 0 0) [] := ⟨rfl, .inl ⟨rfl, rfl⟩⟩
theorem OwnI.le {base base' : Nat} {w : World} {v : Value} {l : List Int} (h : OwnI base w v l) (hb : base' ≤ base) : OwnI base' w v l := by
  obtain ⟨h0, h | ⟨g, cap, cur, rfl, hb', h1⟩⟩ := h
  · exact ⟨h0, .inl h⟩
  · exact ⟨h0, .inr ⟨g, cap, cur, rfl, Nat.le_trans hb hb', h1⟩⟩
theorem info_i64 : (Tryz.prog.info? 2).map (fun i => (i.zero, i.size, i.bytes)) = some (some (.int .i64 0), 1, 8) := by kernel_rfl
/-- append of one number to a slice of the call's own -/
theorem append_int {w : World} {ops : Array Oper} {rest : List Oper} {o : Oper} {a : Act} {Q : Exit → Act → World → Prop} (hgd : o.guard = none) (s x : Operand)
    (ho : o.op = .call { callee := .builtin .append, args := #[s, x], argTypes := #[23, 23] })
    (base : Nat) (v : Value) (l : List Int) (hs : a.eval s = v) (hown : OwnI base w v l) (g : Nat) (n : Int) (hx : a.eval x = .slice (some ⟨g, 0, none⟩) 1 1) (hr : w.cell? ⟨g, 0, none⟩ = some (.int .i64 n))
    (hlen : l.length + 1 ≤ 1000000) (hbase : base ≤ w.heap.size)
    (h : ∀ v' w', OwnI base w' v' (l ++ [n]) → w.grownBy w' v.ownBlock → (v'.ownBlock = v.ownBlock ∨ v'.ownBlock = some w.heap.size) → wpList Tryz.prog ops Q rest (a.put o.dst v') w') : wpList Tryz.prog ops Q (o :: rest) a w := by
  obtain ⟨i, hi, hz0, hz1, hz2⟩ := info_parts info_i64
  refine wpList_append_own_at w hgd s x 23 ho base 2 i (.int .i64 0) 1 8 Tryz.underlying23 hi hz0 hz1 hz2 rfl (by omega) v l.length (l.map iv) hs hown ⟨g, 0, none⟩ 1 1 [iv n] hx (by simp)
    (fun j y hj => by
      cases j with
      | zero => cases hj; exact hr
      | succ j => cases hj)
    (fun y hy => by simp at hy; subst hy; rfl)
    (by unfold maxLen; omega) (by omega) hbase ?_
  intro v' w' h1 h2 _ h3
  refine h v' w' ?_ h2 h3
  unfold OwnI
  rw [List.length_append, List.map_append]
  exact h1
end Go.Proofs.YthobbekocimcnaaGreat
end
section
set_option linter.unusedSimpArgs false
set_option linter.unusedVariables false
namespace Go.Proofs.YthobbekocimcnaaGreat
set_option maxRecDepth 100000
open Go.RowKit

theorem IntsAt.form {w : World} {v : Value} {l : List Int} (h : IntsAt w v l) : ∃ p c, v = .slice p l.length c := by
  rcases h with ⟨rfl, rfl⟩ | ⟨a, cap, rfl, _, _, _⟩
  · exact ⟨none, 0, rfl⟩
  · exact ⟨some a, cap, rfl⟩
theorem IntsAt.len {w : World} {v : Value} {l : List Int} (h : IntsAt w v l) : l.length ≤ maxLen := by
  rcases h with ⟨_, rfl⟩ | ⟨a, cap, _, h1, h2, _⟩
  · exact Nat.zero_le _
  · exact Nat.le_trans h1 h2
theorem IntsAt.drew {w : World} {v : Value} {l : List Int} (h : IntsAt w v l) : IntsAt w.drew v l := h
theorem IntsAt.alloc {w : World} {v : Value} {l : List Int} (h : IntsAt w v l) (o : Obj) : IntsAt (w.alloc o) v l := h.grown (World.grownBy_alloc w o none)
theorem IntsAt.nil (w : World) : IntsAt w (.slice none 0 0) [] := .inl ⟨rfl, rfl⟩
theorem IntsAt.cell {w : World} {p : Option Addr} {n c : Nat} {l : List Int} (h : IntsAt w (.slice p n c) l) {i : Nat} (hi : i < l.length) :
    ∃ ab ao, p = some ⟨ab, ao, none⟩ ∧ n = l.length ∧ n ≤ c ∧ w.cell? ⟨ab, ao + i, none⟩ = some (.int .i64 l[i]) := by
  obtain ⟨ab, ao, cap, e, hc⟩ := h.cells (by omega)
  cases e
  refine ⟨ab, ao, rfl, rfl, ?_, hc i hi⟩
  rcases h with ⟨e, _⟩ | ⟨a, cap, e, h1, _, _⟩
  · cases e
  · cases e; exact h1
theorem iadd_at (b o i : Nat) : (⟨b, o, none⟩ : Addr).add i = ⟨b, o + i, none⟩ := by unfold Addr.add; split <;> simp_all
theorem OwnI.ints {base : Nat} {w : World} {v : Value} {l : List Int} (h : OwnI base w v l) : IntsAt w v l := by
  obtain ⟨_, h | ⟨g, cap, cur, rfl, _, hh, h1, h2, h3, h4⟩⟩ := h
  · exact .inl ⟨h.1, by simpa using h.2⟩
  · refine .inr ⟨_, cap, rfl, h1, h2, fun i hi => ?_⟩
    rw [iadd_at, Nat.zero_add, at_cell hh i]
    have hc : cur.toList[i]? = (l.map iv)[i]? := by
      rw [← h4, Nat.mul_one, List.getElem?_take]; simp [hi]
    rw [← Array.getElem?_toList, hc]
    simp [List.getElem?_map, List.getElem?_eq_getElem hi, iv]
theorem OwnI.grown {base : Nat} {w w1 : World} {v : Value} {l : List Int} {r : Option Nat} (h : OwnI base w v l) (hg : w.grownBy w1 r) (hr : ∀ g, v.ownBlock = some g → some g ≠ r) : OwnI base w1 v l := by
  obtain ⟨h0, h | ⟨g, cap, cur, rfl, hb, hh, h1⟩⟩ := h
  · exact ⟨h0, .inl h⟩
  · exact ⟨h0, .inr ⟨g, cap, cur, rfl, hb, at_grown hh hg (hr g rfl), h1⟩⟩
theorem OwnI.drew {base : Nat} {w : World} {v : Value} {l : List Int} (h : OwnI base w v l) : OwnI base w.drew v l := h
theorem OwnI.empty (w : World) : OwnI w.heap.size (w.alloc (.cells #[] 2)) (.slice (some ⟨w.heap.size, 0, none⟩) 0 0) [] :=
  ⟨rfl, .inr ⟨w.heap.size, 0, #[], rfl, Nat.le_refl _, at_new w _, Nat.le_refl _, Nat.zero_le _, rfl, rfl⟩⟩
theorem gb_ownI {w w5 wc : World} {base : Nat} {v : Value} {l : List Int} (h : w.grownBy w5 none) (ho : OwnI base w5 v l) (hb : w.heap.size ≤ base) (hg : w5.grownBy wc v.ownBlock) : w.grownBy wc none :=
  gb_trans h hg (by
    cases hv : v.ownBlock with
    | none => exact .inl rfl
    | some g => exact .inr (.inr ⟨g, rfl, Nat.le_trans hb (ho.at g (by simp [ownL, hv])).1⟩))
/-- another slice, behind a change of this one's block -/
theorem ints_other {w wc : World} {base : Nat} {v u : Value} {l r : List Int} (h : IntsAt w u r) (ho : OwnI base w v l) (hg : w.grownBy wc v.ownBlock) (hu : ∀ a n c, u = .slice (some a) n c → a.block < base) : IntsAt wc u r := by
  rcases h with h | ⟨a, cap, rfl, h1, h2, h3⟩
  · exact .inl h
  · refine .inr ⟨a, cap, rfl, h1, h2, fun i hi => hg.cell (h3 i hi) ?_⟩
    intro e
    have := (ho.at a.block (by simp [ownL, ← e, Addr.add]; split <;> rfl)).1
    have := hu a _ _ rfl
    omega
/-- numbers that a block holds -/
theorem ints_of_cells {w : World} {b : Nat} {f : Nat × Nat} (l : List Int) (h : w.heap[b]? = some (.cells (l.map iv).toArray 2 f)) (hl : l.length ≤ maxLen) : IntsAt w (.slice (some ⟨b, 0, none⟩) l.length l.length) l :=
  .inr ⟨_, l.length, rfl, Nat.le_refl _, hl, fun i hi => by
    rw [iadd_at, Nat.zero_add, at_cell h i]
    simp [iv]⟩
theorem own_ints {w : World} {b base : Nat} (l : List Int) (h : w.heap[b]? = some (.cells (l.map iv).toArray 2)) (hl : l.length ≤ maxLen) (hb : base ≤ b) : OwnI base w (.slice (some ⟨b, 0, none⟩) l.length l.length) l :=
  ⟨by simp, .inr ⟨b, l.length, (l.map iv).toArray, rfl, hb, h, Nat.le_refl _, hl, by simp, by rw [Nat.mul_one]; exact List.take_of_length_le (by simp)⟩⟩
/-- the first j; all from i on -/
theorem ints_slice0 {w : World} {ab ao n c j : Nat} {l : List Int} (h : IntsAt w (.slice (some ⟨ab, ao, none⟩) n c) l) (hj : j ≤ n) : IntsAt w (.slice (some ⟨ab, ao, none⟩) j c) (l.take j) := by
  rcases h with ⟨h, _⟩ | ⟨a, cap, e, h1, h2, h3⟩
  · cases h
  · cases e
    have hl : (l.take j).length = j := by rw [List.length_take]; omega
    refine .inr ⟨_, c, by rw [hl], by omega, h2, fun i hi => ?_⟩
    have := h3 i (by omega)
    rw [this]; simp
theorem ints_slice1 {w : World} {ab ao n c i : Nat} {l : List Int} (h : IntsAt w (.slice (some ⟨ab, ao, none⟩) n c) l) (hi : i ≤ n) : IntsAt w (.slice (some ⟨ab, ao + i, none⟩) (n - i) (c - i)) (l.drop i) := by
  rcases h with ⟨h, _⟩ | ⟨a, cap, e, h1, h2, h3⟩
  · cases h
  · cases e
    have hl : (l.drop i).length = l.length - i := by rw [List.length_drop]
    refine .inr ⟨_, c - i, by rw [hl], by omega, by omega, fun k hk => ?_⟩
    have := h3 (i + k) (by omega)
    rw [iadd_at] at this ⊢
    rw [Nat.add_assoc, this]; simp

/-- append of numbers to a slice of the call's own -/
theorem run_append_ints {w : World} {ty : TypeId} (base : Nat) (v : Value) (l : List Int) (hown : OwnI base w v l) (u : Value) (r : List Int) (hr : IntsAt w u r) (hlen : l.length + r.length ≤ 1000000) (hbase : base ≤ w.heap.size) :
    ∃ v' w', (Builtin.append_ #[23, 23] ty #[v, u]).run Tryz.prog w = .ok v' w' ∧ OwnI base w' v' (l ++ r) ∧ w.grownBy w' v.ownBlock ∧ (v'.ownBlock = v.ownBlock ∨ v'.ownBlock = some w.heap.size) := by
  obtain ⟨i, hi, hz0, hz1, hz2⟩ := info_parts info_i64
  rcases hr with ⟨rfl, rfl⟩ | ⟨ad, c, rfl, _, _, hc⟩
  · exact ⟨v, w, run_append_owned_none (P := Tryz.prog) (w := w) base 23 ty 2 i 1 Tryz.underlying23 hi v l.length (l.map iv) hown, by simpa using hown, .refl _ _, .inl rfl⟩
  · obtain ⟨v', w', h0, h1, h2, _, h3⟩ := run_append_own_at (P := Tryz.prog) w base 23 ty 2 i (.int .i64 0) 1 8 Tryz.underlying23 hi hz0 hz1 hz2 rfl (by omega) v l.length (l.map iv) hown ad r.length c (r.map iv) (by simp)
      (fun j y hj => by
        rw [List.getElem?_map] at hj
        by_cases hlt : j < r.length
        · rw [List.getElem?_eq_getElem hlt] at hj
          cases hj
          exact hc j hlt
        · rw [List.getElem?_eq_none (by omega)] at hj; cases hj)
      (fun y hy => by
        obtain ⟨c, _, rfl⟩ := List.mem_map.1 hy
        rfl)
      (by unfold maxLen; omega) (by omega) hbase
    exact ⟨v', w', h0, by unfold OwnI; rw [List.length_append, List.map_append]; exact h1, h2, h3⟩
theorem wp_append_ints {w : World} {o : Oper} {a : Act} {K : Act → World → Prop} {Q : Exit → Act → World → Prop} (s x : Operand)
    (ho : o.op = .call { callee := .builtin .append, args := #[s, x], argTypes := #[23, 23] })
    (base : Nat) (v : Value) (l : List Int) (hs : a.eval s = v) (hown : OwnI base w v l) (u : Value) (r : List Int) (hx : a.eval x = u) (hr : IntsAt w u r)
    (hlen : l.length + r.length ≤ 1000000) (hbase : base ≤ w.heap.size)
    (h : ∀ v' w', OwnI base w' v' (l ++ r) → w.grownBy w' v.ownBlock → (v'.ownBlock = v.ownBlock ∨ v'.ownBlock = some w.heap.size) → K (a.put o.dst v') w') : o.wp Tryz.prog a w K Q := by
  obtain ⟨v', w', hrun, h1, h2, h3⟩ := run_append_ints (ty := o.type) base v l hown u r hr hlen hbase
  unfold Oper.wp execOp
  simp only [ho, resolve, invoke, builtin, Sem.run_bind, Sem.run_pure, Result.andThen_ok, List.map_toArray, List.map_cons, List.map_nil, hs, hx, hrun]
  exact h v' w' h1 h2 h3
theorem step_append_ints {w : World} {ops : Array Oper} {o : Oper} {a : Act} {K : Act → World → Prop} {Q : Exit → Act → World → Prop} {E : Prop} (hw : Region.wanted o (yielded ops a.tmps) = true) (s x : Operand)
    (ho : o.op = .call { callee := .builtin .append, args := #[s, x], argTypes := #[23, 23] })
    (base : Nat) (v : Value) (l : List Int) (hs : a.eval s = v) (hown : OwnI base w v l) (u : Value) (r : List Int) (hx : a.eval x = u) (hr : IntsAt w u r)
    (hlen : l.length + r.length ≤ 1000000) (hbase : base ≤ w.heap.size)
    (h : ∀ v' w', OwnI base w' v' (l ++ r) → w.grownBy w' v.ownBlock → (v'.ownBlock = v.ownBlock ∨ v'.ownBlock = some w.heap.size) → K (a.put o.dst v') w') :
    if Region.wanted o (yielded ops a.tmps) = true then Oper.wp Tryz.prog o a w K Q else E := by
  rw [if_pos hw]
  exact wp_append_ints s x ho base v l hs hown u r hx hr hlen hbase h
theorem append_ints {w : World} {ops : Array Oper} {rest : List Oper} {o : Oper} {a : Act} {Q : Exit → Act → World → Prop} (hgd : o.guard = none) (s x : Operand)
    (ho : o.op = .call { callee := .builtin .append, args := #[s, x], argTypes := #[23, 23] })
    (base : Nat) (v : Value) (l : List Int) (hs : a.eval s = v) (hown : OwnI base w v l) (u : Value) (r : List Int) (hx : a.eval x = u) (hr : IntsAt w u r)
    (hlen : l.length + r.length ≤ 1000000) (hbase : base ≤ w.heap.size)
    (h : ∀ v' w', OwnI base w' v' (l ++ r) → w.grownBy w' v.ownBlock → (v'.ownBlock = v.ownBlock ∨ v'.ownBlock = some w.heap.size) → wpList Tryz.prog ops Q rest (a.put o.dst v') w') : wpList Tryz.prog ops Q (o :: rest) a w := by
  have hw : Region.wanted o (yielded ops a.tmps) = true := by unfold Region.wanted; rw [hgd]
  refine wpList_step fun K hK => ?_
  rw [if_pos hw]
  exact wp_append_ints s x ho base v l hs hown u r hx hr hlen hbase fun v' w' h1 h2 h3 => hK _ _ (h v' w' h1 h2 h3)

theorem append_ints_w {w : World} {ops : Array Oper} {rest : List Oper} {o : Oper} {a : Act} {Q : Exit → Act → World → Prop} (hw : Region.wanted o (yielded ops a.tmps) = true) (s x : Operand)
    (ho : o.op = .call { callee := .builtin .append, args := #[s, x], argTypes := #[23, 23] })
    (base : Nat) (v : Value) (l : List Int) (hs : a.eval s = v) (hown : OwnI base w v l) (u : Value) (r : List Int) (hx : a.eval x = u) (hr : IntsAt w u r)
    (hlen : l.length + r.length ≤ 1000000) (hbase : base ≤ w.heap.size)
    (h : ∀ v' w', OwnI base w' v' (l ++ r) → w.grownBy w' v.ownBlock → (v'.ownBlock = v.ownBlock ∨ v'.ownBlock = some w.heap.size) → wpList Tryz.prog ops Q rest (a.put o.dst v') w') : wpList Tryz.prog ops Q (o :: rest) a w := by
  refine wpList_step fun K hK => ?_
  rw [if_pos hw]
  exact wp_append_ints s x ho base v l hs hown u r hx hr hlen hbase fun v' w' h1 h2 h3 => hK _ _ (h v' w' h1 h2 h3)

theorem IntsAt.cell' {w : World} {ab ao n c i : Nat} {l : List Int} {x : Int} (h : IntsAt w (.slice (some ⟨ab, ao, none⟩) n c) l) (hx : l[i]? = some x) : w.cell? ⟨ab, ao + i, none⟩ = some (.int .i64 x) := by
  obtain ⟨hi, rfl⟩ := List.getElem?_eq_some_iff.1 hx
  obtain ⟨ab', ao', e, _, _, hc⟩ := h.cell hi
  cases e; exact hc
/-- a slice that reads as these slices of numbers -/
def RowsI (w : World) (v : Value) (ls : List (Value × List Int)) : Prop :=
  ∃ a cap, v = .slice (some a) ls.length cap ∧ ls.length ≤ cap ∧ cap ≤ maxLen ∧ ∀ i, (h : i < ls.length) → w.cell? (a.add i) = some ls[i].1 ∧ IntsAt w ls[i].1 ls[i].2
theorem RowsI.grown {w w1 : World} {v : Value} {l : List (Value × List Int)} (h : RowsI w v l) (hg : w.grownBy w1 none) : RowsI w1 v l := by
  obtain ⟨a, cap, rfl, h1, h2, h3⟩ := h
  exact ⟨a, cap, rfl, h1, h2, fun i hi => ⟨hg.cell (h3 i hi).1 (by simp), (h3 i hi).2.grown hg⟩⟩
theorem RowsI.cells {w : World} {v : Value} {l : List (Value × List Int)} (h : RowsI w v l) (hp : 0 < l.length) :
    ∃ ab ao cap, v = .slice (some ⟨ab, ao, none⟩) l.length cap ∧ ∀ i, (h : i < l.length) → w.cell? ⟨ab, ao + i, none⟩ = some l[i].1 ∧ IntsAt w l[i].1 l[i].2 := by
  obtain ⟨⟨ab, ao, asp⟩, cap, rfl, _, _, h3⟩ := h
  have h0 := (h3 0 hp).1
  have hsp : asp = none := by simpa [Addr.add] using World.cell?_spot h0
  subst hsp
  exact ⟨ab, ao, cap, rfl, fun i hi => by rw [← iadd_at]; exact h3 i hi⟩
/-- one row; two rows, in a new block -/
theorem rows_one {w w1 : World} {b : Nat} {v : Value} {l : List Int} {t : TypeId} (h : w1.heap[b]? = some (.cells #[v] t)) (h0 : IntsAt w1 v l) : RowsI w1 (.slice (some ⟨b, 0, none⟩) 1 1) [(v, l)] :=
  ⟨_, 1, rfl, Nat.le_refl _, by unfold maxLen; omega, fun i hi => by
    match i, hi with
    | 0, _ => exact ⟨by rw [iadd_at, Nat.zero_add, at_cell h 0]; rfl, h0⟩⟩
theorem rows_two {w1 : World} {b : Nat} {v v' : Value} {l l' : List Int} {t : TypeId} (h : w1.heap[b]? = some (.cells #[v, v'] t)) (h0 : IntsAt w1 v l) (h1 : IntsAt w1 v' l') : RowsI w1 (.slice (some ⟨b, 0, none⟩) 2 2) [(v, l), (v', l')] :=
  ⟨_, 2, rfl, Nat.le_refl _, by unfold maxLen; omega, fun i hi => by
    match i, hi with
    | 0, _ => exact ⟨by rw [iadd_at, Nat.zero_add, at_cell h 0]; rfl, h0⟩
    | 1, _ => exact ⟨by rw [iadd_at, Nat.zero_add, at_cell h 1]; rfl, h1⟩⟩
end Go.Proofs.YthobbekocimcnaaGreat
end
section
set_option linter.unusedSimpArgs false
namespace Go.Proofs.YthobbekocimcnaaGreat
set_option maxRecDepth 100000
open Go.RowKit

def OwnN (base : Nat) (w : World) (v : Value) (l : List Int) : Prop := w.ownsRow base 3 1 v l.length (l.map iv)
theorem OwnN.form {base : Nat} {w : World} {v : Value} {l : List Int} (h : OwnN base w v l) : ∃ p c, v = .slice p l.length c := by
  obtain ⟨_, h | ⟨g, cap, cur, rfl, _⟩⟩ := h
  · exact ⟨none, 0, by rw [h.1, h.2]⟩
  · exact ⟨_, _, rfl⟩
theorem OwnN.at {base : Nat} {w : World} {v : Value} {l : List Int} (h : OwnN base w v l) : ∀ g, g ∈ ownL v → base ≤ g ∧ g < w.heap.size := by
  intro g hg
  obtain ⟨_, h | ⟨g', cap, cur, rfl, hb, hh, _⟩⟩ := h
  · rw [h.1] at hg; simp [ownL, Value.ownBlock] at hg
  · simp [ownL, Value.ownBlock] at hg
    subst hg
    exact ⟨hb, at_lt hh⟩
theorem OwnN.cells {base : Nat} {w : World} {v : Value} {l : List Int} (h : OwnN base w v l) {i : Nat} (hi : i < l.length) :
    ∃ g c, v = .slice (some ⟨g, 0, none⟩) l.length c ∧ l.length ≤ c ∧ ∀ j, (h : j < l.length) → w.cell? ⟨g, j, none⟩ = some (.int .i64 l[j]) := by
  obtain ⟨_, h | ⟨g, cap, cur, rfl, _, hh, h1, h2, h3, h4⟩⟩ := h
  · exact absurd hi (by rw [h.2]; simp)
  · refine ⟨g, cap, rfl, h1, fun j hj => ?_⟩
    rw [at_cell hh j]
    have hc : cur.toList[j]? = (l.map iv)[j]? := by
      rw [← h4, Nat.mul_one, List.getElem?_take]; simp [hj]
    rw [← Array.getElem?_toList, hc]
    simp [List.getElem?_map, List.getElem?_eq_getElem hj, iv]
theorem OwnN.chg {base : Nat} {w w1 : World} {F : List Nat} {v : Value} {l : List Int} (h : OwnN base w v l) (hg : Chg F w w1) (hr : ∀ g, g ∈ ownL v → g ∉ F) : OwnN base w1 v l := by
  obtain ⟨h0, h | ⟨g, cap, cur, rfl, hb, hh, h1⟩⟩ := h
  · exact ⟨h0, .inl h⟩
  · exact ⟨h0, .inr ⟨g, cap, cur, rfl, hb, hg.at hh (hr g (by simp [ownL, Value.ownBlock])), h1⟩⟩
theorem OwnN.nil (base : Nat) (w : World) : OwnN base w (.slice none 0 0) [] := ⟨rfl, .inl ⟨rfl, rfl⟩⟩
theorem OwnN.le {base base' : Nat} {w : World} {v : Value} {l : List Int} (h : OwnN base w v l) (hb : base' ≤ base) : OwnN base' w v l := by
  obtain ⟨h0, h | ⟨g, cap, cur, rfl, hb', h1⟩⟩ := h
  · exact ⟨h0, .inl h⟩
  · exact ⟨h0, .inr ⟨g, cap, cur, rfl, Nat.le_trans hb hb', h1⟩⟩
theorem info_num : (Tryz.prog.info? 3).map (fun i => (i.zero, i.size, i.bytes)) = some (some (.int .i64 0), 1, 8) := by kernel_rfl
theorem OwnN.grown {base : Nat} {w w1 : World} {v : Value} {l : List Int} (h : OwnN base w v l) (hg : w.grownBy w1 none) : OwnN base w1 v l := h.chg (chg_grown hg []) (by simp)
/-- append of one number to a slice of the call's own -/
theorem append_num {w : World} {ops : Array Oper} {rest : List Oper} {o : Oper} {a : Act} {Q : Exit → Act → World → Prop} (hgd : o.guard = none) (s x : Operand)
    (ho : o.op = .call { callee := .builtin .append, args := #[s, x], argTypes := #[22, 22] })
    (base : Nat) (v : Value) (l : List Int) (hs : a.eval s = v) (hown : OwnN base w v l) (g : Nat) (n : Int) (hx : a.eval x = .slice (some ⟨g, 0, none⟩) 1 1) (hr : w.cell? ⟨g, 0, none⟩ = some (.int .i64 n))
    (hlen : l.length + 1 ≤ 1000000) (hbase : base ≤ w.heap.size)
    (h : ∀ v' w', OwnN base w' v' (l ++ [n]) → w.grownBy w' v.ownBlock → (v'.ownBlock = v.ownBlock ∨ v'.ownBlock = some w.heap.size) → wpList Tryz.prog ops Q rest (a.put o.dst v') w') : wpList Tryz.prog ops Q (o :: rest) a w := by
  obtain ⟨i, hi, hz0, hz1, hz2⟩ := info_parts info_num
  refine wpList_append_own_at w hgd s x 22 ho base 3 i (.int .i64 0) 1 8 Tryz.underlying22 hi hz0 hz1 hz2 rfl (by omega) v l.length (l.map iv) hs hown ⟨g, 0, none⟩ 1 1 [iv n] hx (by simp)
    (fun j y hj => by
      cases j with
      | zero => cases hj; exact hr
      | succ j => cases hj)
    (fun y hy => by simp at hy; subst hy; rfl)
    (by unfold maxLen; omega) (by omega) hbase ?_
  intro v' w' h1 h2 _ h3
  refine h v' w' ?_ h2 h3
  unfold OwnN
  rw [List.length_append, List.map_append]
  exact h1
end Go.Proofs.YthobbekocimcnaaGreat
end
section
set_option linter.unusedSimpArgs false
set_option linter.unusedVariables false
namespace Go.Proofs.YthobbekocimcnaaGreat
set_option maxRecDepth 100000
open Go.RowKit

theorem OwnN.ints {base : Nat} {w : World} {v : Value} {l : List Int} (h : OwnN base w v l) : IntsAt w v l := by
  obtain ⟨_, h | ⟨g, cap, cur, rfl, _, hh, h1, h2, h3, h4⟩⟩ := h
  · exact .inl ⟨h.1, by simpa using h.2⟩
  · refine .inr ⟨_, cap, rfl, h1, h2, fun i hi => ?_⟩
    rw [iadd_at, Nat.zero_add, at_cell hh i]
    have hc : cur.toList[i]? = (l.map iv)[i]? := by
      rw [← h4, Nat.mul_one, List.getElem?_take]; simp [hi]
    rw [← Array.getElem?_toList, hc]
    simp [List.getElem?_map, List.getElem?_eq_getElem hi, iv]
theorem OwnN.grownR {base : Nat} {w w1 : World} {v : Value} {l : List Int} {r : Option Nat} (h : OwnN base w v l) (hg : w.grownBy w1 r) (hr : ∀ g, v.ownBlock = some g → some g ≠ r) : OwnN base w1 v l := by
  obtain ⟨h0, h | ⟨g, cap, cur, rfl, hb, hh, h1⟩⟩ := h
  · exact ⟨h0, .inl h⟩
  · exact ⟨h0, .inr ⟨g, cap, cur, rfl, hb, at_grown hh hg (hr g rfl), h1⟩⟩
theorem OwnN.drew {base : Nat} {w : World} {v : Value} {l : List Int} (h : OwnN base w v l) : OwnN base w.drew v l := h
theorem OwnN.empty (w : World) : OwnN w.heap.size (w.alloc (.cells #[] 3)) (.slice (some ⟨w.heap.size, 0, none⟩) 0 0) [] :=
  ⟨rfl, .inr ⟨w.heap.size, 0, #[], rfl, Nat.le_refl _, at_new w _, Nat.le_refl _, Nat.zero_le _, rfl, rfl⟩⟩
theorem gb_ownN {w w5 wc : World} {base : Nat} {v : Value} {l : List Int} (h : w.grownBy w5 none) (ho : OwnN base w5 v l) (hb : w.heap.size ≤ base) (hg : w5.grownBy wc v.ownBlock) : w.grownBy wc none :=
  gb_trans h hg (by
    cases hv : v.ownBlock with
    | none => exact .inl rfl
    | some g => exact .inr (.inr ⟨g, rfl, Nat.le_trans hb (ho.at g (by simp [ownL, hv])).1⟩))
/-- another slice, behind a change of this one's block -/
theorem nums_other {w wc : World} {base : Nat} {v u : Value} {l r : List Int} (h : IntsAt w u r) (ho : OwnN base w v l) (hg : w.grownBy wc v.ownBlock) (hu : ∀ a n c, u = .slice (some a) n c → a.block < base) : IntsAt wc u r := by
  rcases h with h | ⟨a, cap, rfl, h1, h2, h3⟩
  · exact .inl h
  · refine .inr ⟨a, cap, rfl, h1, h2, fun i hi => hg.cell (h3 i hi) ?_⟩
    intro e
    have := (ho.at a.block (by simp [ownL, ← e, Addr.add]; split <;> rfl)).1
    have := hu a _ _ rfl
    omega
/-- numbers that a block holds -/
theorem nums_of_cells {w : World} {b : Nat} {f : Nat × Nat} (l : List Int) (h : w.heap[b]? = some (.cells (l.map iv).toArray 3 f)) (hl : l.length ≤ maxLen) : IntsAt w (.slice (some ⟨b, 0, none⟩) l.length l.length) l :=
  .inr ⟨_, l.length, rfl, Nat.le_refl _, hl, fun i hi => by
    rw [iadd_at, Nat.zero_add, at_cell h i]
    simp [iv]⟩
theorem own_nums {w : World} {b base : Nat} (l : List Int) (h : w.heap[b]? = some (.cells (l.map iv).toArray 3)) (hl : l.length ≤ maxLen) (hb : base ≤ b) : OwnN base w (.slice (some ⟨b, 0, none⟩) l.length l.length) l :=
  ⟨by simp, .inr ⟨b, l.length, (l.map iv).toArray, rfl, hb, h, Nat.le_refl _, hl, by simp, by rw [Nat.mul_one]; exact List.take_of_length_le (by simp)⟩⟩
/-- append of numbers to a slice of the call's own -/
theorem run_append_nums {w : World} {ty : TypeId} (base : Nat) (v : Value) (l : List Int) (hown : OwnN base w v l) (u : Value) (r : List Int) (hr : IntsAt w u r) (hlen : l.length + r.length ≤ 1000000) (hbase : base ≤ w.heap.size) :
    ∃ v' w', (Builtin.append_ #[22, 22] ty #[v, u]).run Tryz.prog w = .ok v' w' ∧ OwnN base w' v' (l ++ r) ∧ w.grownBy w' v.ownBlock ∧ (v'.ownBlock = v.ownBlock ∨ v'.ownBlock = some w.heap.size) := by
  obtain ⟨i, hi, hz0, hz1, hz2⟩ := info_parts info_num
  rcases hr with ⟨rfl, rfl⟩ | ⟨ad, c, rfl, _, _, hc⟩
  · exact ⟨v, w, run_append_owned_none (P := Tryz.prog) (w := w) base 22 ty 3 i 1 Tryz.underlying22 hi v l.length (l.map iv) hown, by simpa using hown, .refl _ _, .inl rfl⟩
  · obtain ⟨v', w', h0, h1, h2, _, h3⟩ := run_append_own_at (P := Tryz.prog) w base 22 ty 3 i (.int .i64 0) 1 8 Tryz.underlying22 hi hz0 hz1 hz2 rfl (by omega) v l.length (l.map iv) hown ad r.length c (r.map iv) (by simp)
      (fun j y hj => by
        rw [List.getElem?_map] at hj
        by_cases hlt : j < r.length
        · rw [List.getElem?_eq_getElem hlt] at hj
          cases hj
          exact hc j hlt
        · rw [List.getElem?_eq_none (by omega)] at hj; cases hj)
      (fun y hy => by
        obtain ⟨c, _, rfl⟩ := List.mem_map.1 hy
        rfl)
      (by unfold maxLen; omega) (by omega) hbase
    exact ⟨v', w', h0, by unfold OwnN; rw [List.length_append, List.map_append]; exact h1, h2, h3⟩
theorem wp_append_nums {w : World} {o : Oper} {a : Act} {K : Act → World → Prop} {Q : Exit → Act → World → Prop} (s x : Operand)
    (ho : o.op = .call { callee := .builtin .append, args := #[s, x], argTypes := #[22, 22] })
    (base : Nat) (v : Value) (l : List Int) (hs : a.eval s = v) (hown : OwnN base w v l) (u : Value) (r : List Int) (hx : a.eval x = u) (hr : IntsAt w u r)
    (hlen : l.length + r.length ≤ 1000000) (hbase : base ≤ w.heap.size)
    (h : ∀ v' w', OwnN base w' v' (l ++ r) → w.grownBy w' v.ownBlock → (v'.ownBlock = v.ownBlock ∨ v'.ownBlock = some w.heap.size) → K (a.put o.dst v') w') : o.wp Tryz.prog a w K Q := by
  obtain ⟨v', w', hrun, h1, h2, h3⟩ := run_append_nums (ty := o.type) base v l hown u r hr hlen hbase
  unfold Oper.wp execOp
  simp only [ho, resolve, invoke, builtin, Sem.run_bind, Sem.run_pure, Result.andThen_ok, List.map_toArray, List.map_cons, List.map_nil, hs, hx, hrun]
  exact h v' w' h1 h2 h3
theorem step_append_nums {w : World} {ops : Array Oper} {o : Oper} {a : Act} {K : Act → World → Prop} {Q : Exit → Act → World → Prop} {E : Prop} (hw : Region.wanted o (yielded ops a.tmps) = true) (s x : Operand)
    (ho : o.op = .call { callee := .builtin .append, args := #[s, x], argTypes := #[22, 22] })
    (base : Nat) (v : Value) (l : List Int) (hs : a.eval s = v) (hown : OwnN base w v l) (u : Value) (r : List Int) (hx : a.eval x = u) (hr : IntsAt w u r)
    (hlen : l.length + r.length ≤ 1000000) (hbase : base ≤ w.heap.size)
    (h : ∀ v' w', OwnN base w' v' (l ++ r) → w.grownBy w' v.ownBlock → (v'.ownBlock = v.ownBlock ∨ v'.ownBlock = some w.heap.size) → K (a.put o.dst v') w') :
    if Region.wanted o (yielded ops a.tmps) = true then Oper.wp Tryz.prog o a w K Q else E := by
  rw [if_pos hw]
  exact wp_append_nums s x ho base v l hs hown u r hx hr hlen hbase h
theorem append_nums {w : World} {ops : Array Oper} {rest : List Oper} {o : Oper} {a : Act} {Q : Exit → Act → World → Prop} (hgd : o.guard = none) (s x : Operand)
    (ho : o.op = .call { callee := .builtin .append, args := #[s, x], argTypes := #[22, 22] })
    (base : Nat) (v : Value) (l : List Int) (hs : a.eval s = v) (hown : OwnN base w v l) (u : Value) (r : List Int) (hx : a.eval x = u) (hr : IntsAt w u r)
    (hlen : l.length + r.length ≤ 1000000) (hbase : base ≤ w.heap.size)
    (h : ∀ v' w', OwnN base w' v' (l ++ r) → w.grownBy w' v.ownBlock → (v'.ownBlock = v.ownBlock ∨ v'.ownBlock = some w.heap.size) → wpList Tryz.prog ops Q rest (a.put o.dst v') w') : wpList Tryz.prog ops Q (o :: rest) a w := by
  have hw : Region.wanted o (yielded ops a.tmps) = true := by unfold Region.wanted; rw [hgd]
  refine wpList_step fun K hK => ?_
  rw [if_pos hw]
  exact wp_append_nums s x ho base v l hs hown u r hx hr hlen hbase fun v' w' h1 h2 h3 => hK _ _ (h v' w' h1 h2 h3)

theorem append_nums_w {w : World} {ops : Array Oper} {rest : List Oper} {o : Oper} {a : Act} {Q : Exit → Act → World → Prop} (hw : Region.wanted o (yielded ops a.tmps) = true) (s x : Operand)
    (ho : o.op = .call { callee := .builtin .append, args := #[s, x], argTypes := #[22, 22] })
    (base : Nat) (v : Value) (l : List Int) (hs : a.eval s = v) (hown : OwnN base w v l) (u : Value) (r : List Int) (hx : a.eval x = u) (hr : IntsAt w u r)
    (hlen : l.length + r.length ≤ 1000000) (hbase : base ≤ w.heap.size)
    (h : ∀ v' w', OwnN base w' v' (l ++ r) → w.grownBy w' v.ownBlock → (v'.ownBlock = v.ownBlock ∨ v'.ownBlock = some w.heap.size) → wpList Tryz.prog ops Q rest (a.put o.dst v') w') : wpList Tryz.prog ops Q (o :: rest) a w := by
  refine wpList_step fun K hK => ?_
  rw [if_pos hw]
  exact wp_append_nums s x ho base v l hs hown u r hx hr hlen hbase fun v' w' h1 h2 h3 => hK _ _ (h v' w' h1 h2 h3)

/-- one number of the slice of the call's own is another now -/
theorem OwnN.set {base : Nat} {w : World} {g n c j : Nat} {l : List Int} (h : OwnN base w (.slice (some ⟨g, 0, none⟩) n c) l) (x : Int) : OwnN base (w.setCell ⟨g, j, none⟩ (.int .i64 x)) (.slice (some ⟨g, 0, none⟩) n c) (l.set j x) := by
  obtain ⟨h0, h | ⟨g', cap, cur, e, hb, hh, h1, h2, h3, h4⟩⟩ := h
  · cases h.1
  · cases e
    refine ⟨by simp, .inr ⟨g, c, cur.setIfInBounds j (.int .i64 x), by simp, hb, at_set hh j _, by simpa using h1, h2, by simpa using h3, ?_⟩⟩
    simp only [List.length_set, Nat.mul_one] at h4 ⊢
    rw [Array.toList_setIfInBounds, List.map_set, ← h4, List.take_set]
    rfl
theorem OwnN.free {base : Nat} {w : World} {g n c j : Nat} {l : List Int} (h : OwnN base w (.slice (some ⟨g, 0, none⟩) n c) l) : w.frozen? ⟨g, j, none⟩ = false := by
  obtain ⟨h0, h | ⟨g', cap, cur, e, hb, hh, _⟩⟩ := h
  · cases h.1
  · cases e; exact at_free hh j
theorem size_la (w : World) (o : Obj) : (w.alloc o).heap.size = w.heap.size + 1 := by show (w.heap.push o).size = _; simp
/-- literals -/
theorem num_new (w : World) (l : List Int) (c : Array Value) (hc : (l.map iv).toArray = c) (n : Nat) (hn : l.length = n) (hl : n ≤ maxLen) : IntsAt (w.alloc (.cells c 3)) (.slice (some ⟨w.heap.size, 0, none⟩) n n) l := by
  subst hc; subst hn; exact nums_of_cells l (at_new w _) hl
theorem num_new2 (w : World) (o : Obj) (l : List Int) (c : Array Value) (hc : (l.map iv).toArray = c) (n : Nat) (hn : l.length = n) (hl : n ≤ maxLen) : IntsAt ((w.alloc o).alloc (.cells c 3)) (.slice (some ⟨w.heap.size + 1, 0, none⟩) n n) l := by
  have h := num_new (w.alloc o) l c hc n hn hl
  rw [size_la] at h
  exact h
end Go.Proofs.YthobbekocimcnaaGreat
end
section
set_option linter.unusedSimpArgs false
set_option linter.unusedVariables false
namespace Go.Proofs.YthobbekocimcnaaGreat
set_option maxRecDepth 100000
open Go.ChangeShapes Go.WideShapes Go.ChangeAt Go.RowKit

structure Kl (w : World) (L : List (Value × List Int)) (W : World) : Prop where
  gr : w.grownBy W none
  rd : ∀ p ∈ L, IntsAt W p.1 p.2
section
variable {w W W' : World} {L L' : List (Value × List Int)} {v u : Value} {l s : List Int} {p p1 p2 p3 p4 : Value × List Int}
theorem Kl.i0 (h : Kl w ((v, l) :: L) W) : IntsAt W v l := h.rd _ (List.mem_cons_self ..)
theorem Kl.tl (h : Kl w (p :: L) W) : Kl w L W := ⟨h.gr, fun q hq => h.rd q (List.mem_cons_of_mem _ hq)⟩
theorem Kl.i1 (h : Kl w (p :: (v, l) :: L) W) : IntsAt W v l := h.tl.i0
theorem Kl.i2 (h : Kl w (p :: p1 :: (v, l) :: L) W) : IntsAt W v l := h.tl.i1
theorem Kl.i3 (h : Kl w (p :: p1 :: p2 :: (v, l) :: L) W) : IntsAt W v l := h.tl.i2
theorem Kl.i4 (h : Kl w (p :: p1 :: p2 :: p3 :: (v, l) :: L) W) : IntsAt W v l := h.tl.i3
theorem Kl.grown (h : Kl w L W) (hg : W.grownBy W' none) : Kl w L W' := ⟨gb_trans h.gr hg (.inl rfl), fun q hq => (h.rd q hq).grown hg⟩
theorem Kl.drew (h : Kl w L W) : Kl w L W.drew := ⟨gb_drew h.gr, h.rd⟩
theorem Kl.drewN (h : Kl w L W) (n : Nat) : Kl w L (W.drewN n) := h.grown ⟨rfl, rfl, rfl, Nat.le_refl _, fun _ _ _ => rfl⟩
theorem Kl.alloc (h : Kl w L W) (o : Obj) : Kl w L (W.alloc o) := h.grown (World.grownBy_alloc W o none)
theorem Kl.add (h : Kl w L W) (hi : IntsAt W v l) : Kl w ((v, l) :: L) W := ⟨h.gr, fun q hq => by
  rcases List.mem_cons.1 hq with rfl | hq
  · exact hi
  · exact h.rd q hq⟩
theorem Kl.start (w : World) : Kl w [] w := ⟨.refl w none, fun q hq => by cases hq⟩
theorem Kl.size (h : Kl w L W) : w.heap.size ≤ W.heap.size := h.gr.size
end
/-- what an int64 may be -/
def Fits (l : List Int) : Prop := ∀ n ∈ l, -9223372036854775808 ≤ n ∧ n ≤ 9223372036854775807
theorem Fits.perm {l l' : List Int} (h : Fits l) (hp : l'.Perm l) : Fits l' := fun n hn => h n (hp.subset hn)
theorem Fits.append {l l' : List Int} (h : Fits l) (h' : Fits l') : Fits (l ++ l') := fun n hn => (List.mem_append.1 hn).elim (h n) (h' n)
section
variable {H : Type} {enc : TypeId × Value → H} {w : World} {base : Nat} {d : DataW H} {ps : List MemPlace} {v : Value} {t e : TypeId}
/-- a slice of numbers, each in its bounds -/
theorem open_intfit (ht : Tryz.prog.underlying t = some (.slice e)) (he : Tryz.prog.underlying e = some (.int .i64)) (hc : Tryz.prog.cellsOf e = 1)
    (hval : Value.okWide Tryz.prog w .any base t v) (h : DataW.Trod enc Tryz.prog w 0 (fun _ => true) true t v d ps) :
    ∃ l : List Int, ∃ p c, v = .slice p l.length c ∧ IntsAt w v l ∧ Fits l := by
  obtain ⟨a0, len, cap, rfl⟩ := okWide_slice ht hval
  obtain ⟨fuel, hf⟩ := h
  rcases open_ints ht he hc hf with ⟨hcs, _⟩ | ⟨a, len', cap', zs, hcs, _, hl, hm, hz, _, hcell, hwz⟩
  · simp [Value.cells] at hcs
    obtain ⟨rfl, rfl, rfl⟩ := hcs
    exact ⟨[], none, 0, rfl, .inl ⟨rfl, rfl⟩, fun n hn => by cases hn⟩
  · simp [Value.cells] at hcs
    obtain ⟨rfl, rfl, rfl⟩ := hcs
    have hz' : zs.length = cap := by simpa using hz
    refine ⟨zs.take len, some a, cap, by simp; omega, .inr ⟨a, cap, by simp; omega, by simp; omega, hm, fun i hi => ?_⟩, fun n hn => ?_⟩
    · simp at hi
      rw [hcell i (by omega)]
      simp [List.getD_eq_getElem?_getD, List.getElem?_eq_getElem (show i < zs.length by omega)]
    · have := hwz n (List.mem_of_mem_take hn)
      have h' : -9223372036854775808 ≤ n ∧ n ≤ 9223372036854775807 := by simpa [Lit.wf, IntKind.min, IntKind.max, IntKind.signed, IntKind.bits] using this
      exact h'
end
end Go.Proofs.YthobbekocimcnaaGreat
end
section
set_option linter.unusedSimpArgs false
set_option linter.unusedVariables false
namespace Go.Proofs.YthobbekocimcnaaGreat
set_option maxRecDepth 100000
open Go.RowKit

/-- the cells of a Calm -/
def caCells (u d n : Nat) (ws : List Int) : Array Value := (((u : Int) :: (d : Int) :: (n : Int) :: ws).map iv).toArray
structure CaAt (w : World) (b : Nat) (c : Ca) : Prop where
  top : ∃ ws : List Int, ws.length = 61 ∧ ws.take c.l.length = c.l ∧ w.heap[b]? = some (.cells (caCells c.up c.down c.l.length ws) 89)
  ok : c.Ok
section
variable {w w' : World} {F : List Nat} {b : Nat} {c : Ca}
theorem CaAt.chg (H : CaAt w b c) (hc : Chg F w w') (hb : b ∉ F) : CaAt w' b c := by
  obtain ⟨⟨ws, h1, h2, h3⟩, ho⟩ := H
  exact ⟨⟨ws, h1, h2, hc.at h3 hb⟩, ho⟩
theorem CaAt.grown (H : CaAt w b c) (hg : w.grownBy w' none) : CaAt w' b c := H.chg (chg_grown hg []) (by simp)
theorem CaAt.drew (H : CaAt w b c) : CaAt w.drew b c := ⟨H.top, H.ok⟩
theorem CaAt.drewN (H : CaAt w b c) (n : Nat) : CaAt (w.drewN n) b c := ⟨H.top, H.ok⟩
theorem CaAt.lt (H : CaAt w b c) : b < w.heap.size := by obtain ⟨⟨ws, _, _, h3⟩, _⟩ := H; exact at_lt h3
theorem ca_cell0 (u d n : Nat) (ws : List Int) : (caCells u d n ws)[0]? = some (.int .i64 (u : Int)) := by simp [caCells, iv]
theorem ca_cell1 (u d n : Nat) (ws : List Int) : (caCells u d n ws)[1]? = some (.int .i64 (d : Int)) := by simp [caCells, iv]
theorem ca_cell2 (u d n : Nat) (ws : List Int) : (caCells u d n ws)[2]? = some (.int .i64 (n : Int)) := by simp [caCells, iv]
theorem ca_cellk (u d n : Nat) (ws : List Int) (k : Nat) : (caCells u d n ws)[3 + k]? = (ws[k]?).map iv := by
  rw [caCells, List.getElem?_toArray, Nat.add_comm]; simp
theorem CaAt.cells (H : CaAt w b c) : w.cell? ⟨b, 0, none⟩ = some (.int .i64 (c.up : Int)) ∧ w.cell? ⟨b, 1, none⟩ = some (.int .i64 (c.down : Int)) ∧ w.cell? ⟨b, 2, none⟩ = some (.int .i64 (c.l.length : Int)) ∧ ∀ k, w.frozen? ⟨b, k, none⟩ = false := by
  obtain ⟨⟨ws, h1, h2, h3⟩, ho⟩ := H
  exact ⟨by rw [at_cell h3, ca_cell0], by rw [at_cell h3, ca_cell1], by rw [at_cell h3, ca_cell2], fun k => at_free h3 k⟩
theorem Ca.Ok.n61 (h : c.Ok) : c.l.length ≤ 61 := by
  have := h.u; have := h.d; have := h.n
  unfold Ca.most at *; omega
theorem CaAt.ints (H : CaAt w b c) : IntsAt w (.slice (some ⟨b, 3, none⟩) c.l.length 61) c.l := by
  have hn := H.ok.n61
  obtain ⟨⟨ws, h1, h2, h3⟩, ho⟩ := H
  refine .inr ⟨_, 61, rfl, hn, by unfold maxLen; omega, fun i hi => ?_⟩
  rw [iadd_at, at_cell h3, ca_cellk]
  have : c.l[i]? = ws[i]? := by
    have e : (ws.take c.l.length)[i]? = c.l[i]? := by rw [h2]
    rw [← e, List.getElem?_take, if_pos hi]
  rw [← this, List.getElem?_eq_getElem hi]; rfl
end

/-- which numbers may be -/
theorem may_any (n hi : Int) (w : World) :
    Calls Tryz.prog 45 #[.int .i64 n, .int .i64 hi] w fun e w' => e = .returned (.bool (decide (0 ≤ n) && decide (n ≤ hi))) ∧ w = w' := by
  cases h0 : decide (0 ≤ n) with
  | false =>
    have h0' : ¬ 0 ≤ n := by simpa using h0
    go_enter Tryz.func45, Tryz.ntmps45
    go_wp2_with fail
    go_ret
    exact ⟨rfl, rfl⟩
  | true =>
    have h0' : 0 ≤ n := by simpa using h0
    go_enter Tryz.func45, Tryz.ntmps45
    go_wp2_with fail
    go_ret
    exact ⟨by simp, rfl⟩
def okC (x : Int) : Bool := decide (0 ≤ x) && decide (x ≤ 1000000)
theorem tame_any (x : Int) (w : World) :
    Calls Tryz.prog 57 #[.int .i64 x] w fun e w' => e = .returned (.int .i64 (mill x)) ∧ w = w' := by
  unfold mill
  go_enter Tryz.func57, Tryz.ntmps57
  go_wp2_with fail
  all_goals go_ret
  all_goals exact ⟨congrArg (fun z => Ending.returned (.int .i64 z)) (by omega), rfl⟩
theorem arr_len : Tryz.prog.arrayLen 87 = 61 := by kernel_rfl
theorem arr_elem : Tryz.prog.elem 87 = 3 := by kernel_rfl
theorem size_num (u : World) : (sizeOf 3).run Tryz.prog u = .ok 1 u := by
  obtain ⟨i, hi, hz0, hz1, hz2⟩ := info_parts info_num
  simp [sizeOf, typeInfo, hi, hz1]
theorem arr_h (b n : Nat) (h : n ≤ 61) (u : World) : (Instr.sliceAt 87 (.pointer (some ⟨b, 3, none⟩)) none (some (.int .i64 (n : Int))) none).run Tryz.prog u = .ok (.slice (some ⟨b, 3, none⟩) n 61) u := by
  rw [run_sliceAt_array_h (P := Tryz.prog) u 87 ⟨b, 3, none⟩ (by kernel_rfl) .i64 (n : Int) (by omega) (by rw [arr_len]; omega), arr_elem, size_num, arr_len]
  simp [slicedAt, Result.andThen, Addr.add]
theorem arr_all (b : Nat) (u : World) : (Instr.sliceAt 87 (.pointer (some ⟨b, 3, none⟩)) none none none).run Tryz.prog u = .ok (.slice (some ⟨b, 3, none⟩) 61 61) u := by
  rw [run_sliceAt_array_all (P := Tryz.prog) u 87 ⟨b, 3, none⟩ (by kernel_rfl), arr_elem, size_num, arr_len]
  simp [slicedAt, Result.andThen, Addr.add]
theorem arr_one (b : Nat) (u : World) : (Instr.sliceAt 87 (.pointer (some ⟨b, 3, none⟩)) (some (.int .i64 1)) none none).run Tryz.prog u = .ok (.slice (some ⟨b, 4, none⟩) 60 60) u := by
  rw [run_sliceAt_array_l (P := Tryz.prog) u 87 ⟨b, 3, none⟩ (by kernel_rfl) .i64 1 (by omega) (by rw [arr_len]; omega), arr_elem, size_num, arr_len]
  simp [slicedAt, Result.andThen, Addr.add]
/-- what is kept -/
theorem all_any {b : Nat} {c : Ca} {w : World} (H : CaAt w b c) :
    Calls Tryz.prog 38 #[.pointer (some ⟨b, 0, none⟩)] w fun e w' => e = .returned (.slice (some ⟨b, 3, none⟩) c.l.length 61) ∧ w.grownBy w' none := by
  obtain ⟨c0, c1, c2, fz⟩ := H.cells
  have hn := H.ok.n61
  have L0 := hid (fun W (h : W.cell? ⟨b, 2, none⟩ = some (.int .i64 (c.l.length : Int))) => load_i64 ⟨b, 2, none⟩ (c.l.length : Int) W h)
  generalize c.l.length = n at *
  have hs := fun u => arr_h b n hn u
  clear H
  go_enter Tryz.func38, Tryz.ntmps38
  go_wp2_with fail
  go_quiet ((go_at_call 36; exact Calls.quiet_of_same (still_of (L0.out _ (by assumption)))))
  go_wp2_with fail
  go_ret
  exact ⟨rfl, ⟨rfl, rfl, rfl, Nat.le_refl _, fun _ _ _ => rfl⟩⟩
end Go.Proofs.YthobbekocimcnaaGreat
end
section
set_option linter.unusedSimpArgs false
set_option linter.unusedVariables false
namespace Go.Proofs.YthobbekocimcnaaGreat
set_option maxRecDepth 100000
open Go.RowKit

theorem most_le {c : Ca} (h : c.Ok) : c.most ≤ 61 := by
  have := h.u; have := h.d
  unfold Ca.most; omega
theorem room_any {b : Nat} {c : Ca} {w : World} (H : CaAt w b c) :
    Calls Tryz.prog 78 #[.pointer (some ⟨b, 0, none⟩)] w fun e w' => e = .returned (.int .i64 (c.most : Int)) ∧ w.grownBy w' none := by
  obtain ⟨c0, c1, c2, fz⟩ := H.cells
  have hu := H.ok.u; have hd := H.ok.d
  clear H
  have hm : (c.most : Int) = max (c.up : Int) (c.down : Int) + 1 := by unfold Ca.most; omega
  generalize c.most = m at *
  go_enter Tryz.func78, Tryz.ntmps78
  go_wp2_with fail
  go_quiet (fail)
  go_wp2_with fail
  all_goals go_ret
  all_goals exact ⟨congrArg (fun z => Ending.returned (.int .i64 z)) (by omega), ⟨rfl, rfl, rfl, Nat.le_refl _, fun _ _ _ => rfl⟩⟩
theorem last_any {b : Nat} {c : Ca} (k : Nat) (hk : k ≤ 60) {w : World} (H : CaAt w b c) :
    Calls Tryz.prog 59 #[.pointer (some ⟨b, 0, none⟩), .int .i64 (k : Int)] w fun e w' => (∃ v, e = .returned v ∧ IntsAt w' v (lastL c.l (k + 1))) ∧ w.grownBy w' none := by
  have hn := H.ok.n61
  have A := hid (all_any H)
  have IV := hid (fun W (h : w.grownBy W none) => (H.grown h).ints)
  unfold lastL
  generalize c.l = l at *
  generalize l.length = n at *
  clear H
  go_enter Tryz.func59, Tryz.ntmps59
  go_wp2_with fail
  refine A.out.mono ?_
  rintro e w1 ⟨rfl, hg⟩
  have G := hid hg; clear hg
  go_wp2_with fail
  · go_ret
    refine ⟨⟨_, rfl, ?_⟩, G.out⟩
    rw [show n - (k + 1) = n - 1 - k by omega]
    exact ints_slice1 (IV.out _ G.out) (by omega)
  · go_ret
    refine ⟨⟨_, rfl, ?_⟩, G.out⟩
    rw [show n - (k + 1) = 0 by omega]
    exact IV.out _ G.out

set_option maxHeartbeats 800000 in
theorem min_any (v : Value) (l : List Int) (w : World) (h : IntsAt w v l) (hl : l ≠ []) :
    Calls Tryz.prog 58 #[v] w fun e w' => e = .returned (.int .i64 (loL l)) ∧ w = w' := by
  have HI := hid h
  obtain ⟨p, c, rfl⟩ := h.form
  obtain ⟨n, hn⟩ : ∃ n, l.length = n := ⟨_, rfl⟩
  have HN := hid hn
  have hlen := h.len
  have hpos := List.length_pos_iff.2 hl
  obtain ⟨ab, ao, rfl, -, hcc, hc0⟩ := h.cell hpos
  have hz := hid (show loTo l 1 = l[0] by
    cases l with
    | nil => exact absurd rfl hl
    | cons a t => show min a a = a; omega)
  unfold loL
  rw [hn] at HI hlen hpos hcc ⊢
  unfold maxLen at hlen
  rw [← hz.out, Nat.add_zero] at hc0
  clear h hn hl
  go_enter Tryz.func58, Tryz.ntmps58
  go_wp2_with fail
  go_loopw [3, 4] (fun m i wr => ∃ k : Nat, 1 ≤ k ∧ k ≤ n ∧ i = .int .i64 (k : Int) ∧ m = .int .i64 (loTo l k) ∧ w = wr) (fun _ i _ => n - (intOf i).toNat)
  case atStart => exact ⟨1, Nat.le_refl _, hpos, rfl, rfl, rfl⟩
  case round =>
    obtain ⟨k, hk1, hk, rfl, rfl, rfl⟩ := hrel
    by_cases hlt : k < n
    · have hkl : k < l.length := by rw [HN.out]; exact hlt
      obtain ⟨ab', ao', e, -, -, hcell⟩ := HI.out.cell hkl
      cases e
      have hx := List.getElem?_eq_getElem hkl
      generalize l[k] = y at *
      have hs := hid (show loTo l (k + 1) = min (loTo l k) y by
        show min (loTo l k) (l.getD k 0) = _
        rw [getD_at hx])
      clear hx hkl hz hc0
      generalize loTo l k = r at *
      go_wp2_with fail
      all_goals go_roundw
      all_goals first | (case measure => simp [intOf]; omega) | (case rel => refine ⟨k + 1, by omega, by omega, by go_num, ?_, trivial⟩; rw [hs.out]; exact congrArg (Value.int .i64) (by omega))
    · obtain rfl : k = n := by omega
      clear hc0 hz
      obtain ⟨r, hr⟩ : ∃ r, loTo l k = r := ⟨_, rfl⟩
      rw [hr]
      have HR := hid hr; clear hr
      go_wp2_with fail
      go_ret
      exact ⟨congrArg (fun z => Ending.returned (.int .i64 z)) HR.out.symm, rfl⟩
set_option maxHeartbeats 800000 in
theorem max_any (v : Value) (l : List Int) (w : World) (h : IntsAt w v l) (hl : l ≠ []) :
    Calls Tryz.prog 60 #[v] w fun e w' => e = .returned (.int .i64 (hiL l)) ∧ w = w' := by
  have HI := hid h
  obtain ⟨p, c, rfl⟩ := h.form
  obtain ⟨n, hn⟩ : ∃ n, l.length = n := ⟨_, rfl⟩
  have HN := hid hn
  have hlen := h.len
  have hpos := List.length_pos_iff.2 hl
  obtain ⟨ab, ao, rfl, -, hcc, hc0⟩ := h.cell hpos
  have hz := hid (show hiTo l 1 = l[0] by
    cases l with
    | nil => exact absurd rfl hl
    | cons a t => show max a a = a; omega)
  unfold hiL
  rw [hn] at HI hlen hpos hcc ⊢
  unfold maxLen at hlen
  rw [← hz.out, Nat.add_zero] at hc0
  clear h hn hl
  go_enter Tryz.func60, Tryz.ntmps60
  go_wp2_with fail
  go_loopw [3, 4] (fun m i wr => ∃ k : Nat, 1 ≤ k ∧ k ≤ n ∧ i = .int .i64 (k : Int) ∧ m = .int .i64 (hiTo l k) ∧ w = wr) (fun _ i _ => n - (intOf i).toNat)
  case atStart => exact ⟨1, Nat.le_refl _, hpos, rfl, rfl, rfl⟩
  case round =>
    obtain ⟨k, hk1, hk, rfl, rfl, rfl⟩ := hrel
    by_cases hlt : k < n
    · have hkl : k < l.length := by rw [HN.out]; exact hlt
      obtain ⟨ab', ao', e, -, -, hcell⟩ := HI.out.cell hkl
      cases e
      have hx := List.getElem?_eq_getElem hkl
      generalize l[k] = y at *
      have hs := hid (show hiTo l (k + 1) = max (hiTo l k) y by
        show max (hiTo l k) (l.getD k 0) = _
        rw [getD_at hx])
      clear hx hkl hz hc0
      generalize hiTo l k = r at *
      go_wp2_with fail
      all_goals go_roundw
      all_goals first | (case measure => simp [intOf]; omega) | (case rel => refine ⟨k + 1, by omega, by omega, by go_num, ?_, trivial⟩; rw [hs.out]; exact congrArg (Value.int .i64) (by omega))
    · obtain rfl : k = n := by omega
      clear hc0 hz
      obtain ⟨r, hr⟩ : ∃ r, hiTo l k = r := ⟨_, rfl⟩
      rw [hr]
      have HR := hid hr; clear hr
      go_wp2_with fail
      go_ret
      exact ⟨congrArg (fun z => Ending.returned (.int .i64 z)) HR.out.symm, rfl⟩

/-- the operation copy -/
theorem wp_copyN {w : World} {o : Oper} {a : Act} {K : Act → World → Prop} {Q : Exit → Act → World → Prop} (d s : Operand)
    (ho : o.op = .call { callee := .builtin .copy, args := #[d, s], argTypes := #[22, 22] }) (v u : Value) (hd : a.eval d = v) (hs : a.eval s = u) {v' : Value} {w' : World}
    (hr : (Builtin.copy_ #[22, 22] o.type #[v, u]).run Tryz.prog w = .ok v' w') (h : K (a.put o.dst v') w') : o.wp Tryz.prog a w K Q := by
  unfold Oper.wp execOp
  simp only [ho, resolve, invoke, builtin, Sem.run_bind, Sem.run_pure, Result.andThen_ok, List.map_toArray, List.map_cons, List.map_nil, hd, hs, hr]
  exact h
/-- numbers into the row -/
theorem copy_into {w : World} {b u d n : Nat} {ws : List Int} (hb : w.heap[b]? = some (.cells (caCells u d n ws) 89)) (hw : ws.length = 61) {v : Value} {l : List Int} (hv : IntsAt w v l) (hl : l.length ≤ 61) (ty : TypeId) :
    ∃ w', (Builtin.copy_ #[22, 22] ty #[.slice (some ⟨b, 3, none⟩) 61 61, v]).run Tryz.prog w = .ok (goInt l.length) w' ∧ w'.heap[b]? = some (.cells (caCells u d n (l ++ ws.drop l.length)) 89) ∧ Chg [b] w w' := by
  obtain ⟨i, hi, hz0, hz1, hz2⟩ := info_parts info_num
  have hsz : (Tryz.prog.info? 3).map (·.size) = some 1 := by rw [hi]; simp [hz1]
  have hcl : (caCells u d n ws).size = 64 := by simp [caCells, hw]
  rcases hv with ⟨rfl, rfl⟩ | ⟨a, cap, rfl, h1, h2, h3⟩
  · refine ⟨w, ?_, by simpa using hb, chg_refl _ _⟩
    exact run_copy_nil Tryz.prog w 22 22 ty 3 ⟨b, 3, none⟩ 61 61 Tryz.underlying22 (by rw [hi]; rfl)
  · have hmin : (l.map iv).length = Nat.min l.length 61 := by rw [List.length_map]; exact (Nat.min_eq_left hl).symm
    refine ⟨_, (run_copy_row Tryz.prog w 22 22 ty 3 b 3 61 61 a l.length cap (caCells u d n ws) _ (l.map iv) Tryz.underlying22 hsz hb hmin (fun j x hj => ?_) (by rw [List.length_map, hcl]; omega) (fun x hx => ?_)).trans (by rw [List.length_map]), ?_, ?_⟩
    · rw [List.getElem?_map] at hj
      by_cases hlt : j < l.length
      · rw [List.getElem?_eq_getElem hlt] at hj; cases hj; exact h3 j hlt
      · rw [List.getElem?_eq_none (by omega)] at hj; cases hj
    · obtain ⟨c, _, rfl⟩ := List.mem_map.1 hx; rfl
    · rw [setRow_heap w b _ _ _ _ hb]
      simp [caCells, Nat.add_comm 3]
    · exact ⟨rfl, rfl, rfl, by simp [World.setRow], fun k hk hn => setRow_other w b k _ (by intro e; exact hn (by simp [e]))⟩
/-- how many are kept is another now; one of the row is -/
theorem row_kept {w : World} {b u d n : Nat} {ws : List Int} (hb : w.heap[b]? = some (.cells (caCells u d n ws) 89)) (m : Nat) : (w.setCell ⟨b, 2, none⟩ (.int .i64 (m : Int))).heap[b]? = some (.cells (caCells u d m ws) 89) := by
  rw [at_set hb]; simp [caCells, iv]
theorem row_want {w : World} {b u d n : Nat} {ws : List Int} (hb : w.heap[b]? = some (.cells (caCells u d n ws) 89)) (k : Nat) (x : Int) : (w.setCell ⟨b, 3 + k, none⟩ (.int .i64 x)).heap[b]? = some (.cells (caCells u d n (ws.set k x)) 89) := by
  rw [at_set hb]; simp [caCells, iv, Nat.add_comm 3]
theorem keptn {w : World} {b u d n m : Nat} {ws : List Int} (hb : w.heap[b]? = some (.cells (caCells u d n ws) 89)) (z s : Int) (hs : IntKind.i64.wrap ((n : Int) + z) = s) (hm : s = (m : Int)) :
    Calls Tryz.prog 52 #[.pointer (some ⟨b, 2, none⟩), .int .i64 z] w fun e w' => e = .returned (.int .i64 s) ∧ w'.heap[b]? = some (.cells (caCells u d m ws) 89) ∧ Chg [b] w w' := by
  subst hm
  refine (addn_i64 ⟨b, 2, none⟩ (n : Int) z _ w (by rw [at_cell hb, ca_cell2]) (at_free hb 2) hs).mono ?_
  rintro e w' ⟨rfl, rfl⟩
  exact ⟨rfl, row_kept hb m, (chg_refl w [b]).set (.inl (by simp)) _⟩
end Go.Proofs.YthobbekocimcnaaGreat
end
section
namespace Go.Proofs.YthobbekocimcnaaGreat
set_option maxRecDepth 100000
open Go.RowKit
theorem held_stronger {P : Program} {md : Region.Mode} {ops : Array Oper} {Q : Exit → Act → World → Prop} {S S' : World → Prop} (hS : ∀ w, S' w → S w) :
    ∀ (fuel : Nat) (listed : Array Bool) (a : Act) (w : World), wpAnyH P md ops Q S' fuel listed a w → wpAnyH P md ops Q S fuel listed a w
  | 0, _, _, _, h => h
  | fuel + 1, _, _, _, h => ⟨h.1, fun i hi => wpOp_mono (fun a' w' h' => ⟨hS _ h'.1, held_stronger hS fuel _ a' w' h'.2⟩) (h.2 i hi)⟩
end Go.Proofs.YthobbekocimcnaaGreat
end
