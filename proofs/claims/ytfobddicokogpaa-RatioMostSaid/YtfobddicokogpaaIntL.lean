/-
  Slices of numbers (int64): what a slice of the call's own reads as; a part of one; append of a slice; slices of such slices. No condition. Nothing of the program's functions is named here.
-/
import Derived.Test.YtfobddicokogpaaInts
import Derived.Test.YtfobddicokogpaaOwnI
import Derived.Deep.RegionHeld3
set_option linter.unusedSimpArgs false
set_option linter.unusedVariables false
namespace Go.Proofs.Ytfobddicokogpaa
set_option maxRecDepth 100000
open Go.RowKit

theorem IntsAt.form {w : World} {v : Value} {l : List Int} (h : IntsAt w v l) : ∃ p c, v = .slice p l.length c := by
  rcases h with ⟨rfl, rfl⟩ | ⟨a, cap, rfl, _, _, _⟩
  · exact ⟨none, 0, rfl⟩
  · exact ⟨some a, cap, rfl⟩
theorem IntsAt.len {w : World} {v : Value} {l : List Int} (h : IntsAt w v l) : l.length ≤ maxLen := by
  rcases h with ⟨_, rfl⟩ | ⟨a, cap, _, h1, h2, _⟩
  · exact Nat.zero_le _
  · exact Nat.le_trans h1 h2
theorem IntsAt.drew {w : World} {v : Value} {l : List Int} (h : IntsAt w v l) : IntsAt w.drew v l := h
theorem IntsAt.alloc {w : World} {v : Value} {l : List Int} (h : IntsAt w v l) (o : Obj) : IntsAt (w.alloc o) v l := h.grown (World.grownBy_alloc w o none)
theorem IntsAt.nil (w : World) : IntsAt w (.slice none 0 0) [] := .inl ⟨rfl, rfl⟩
theorem IntsAt.cell {w : World} {p : Option Addr} {n c : Nat} {l : List Int} (h : IntsAt w (.slice p n c) l) {i : Nat} (hi : i < l.length) :
    ∃ ab ao, p = some ⟨ab, ao, none⟩ ∧ n = l.length ∧ n ≤ c ∧ w.cell? ⟨ab, ao + i, none⟩ = some (.int .i64 l[i]) := by
  obtain ⟨ab, ao, cap, e, hc⟩ := h.cells (by omega)
  cases e
  refine ⟨ab, ao, rfl, rfl, ?_, hc i hi⟩
  rcases h with ⟨e, _⟩ | ⟨a, cap, e, h1, _, _⟩
  · cases e
  · cases e; exact h1
theorem iadd_at (b o i : Nat) : (⟨b, o, none⟩ : Addr).add i = ⟨b, o + i, none⟩ := by unfold Addr.add; split <;> simp_all
theorem OwnI.ints {base : Nat} {w : World} {v : Value} {l : List Int} (h : OwnI base w v l) : IntsAt w v l := by
  obtain ⟨_, h | ⟨g, cap, cur, rfl, _, hh, h1, h2, h3, h4⟩⟩ := h
  · exact .inl ⟨h.1, by simpa using h.2⟩
  · refine .inr ⟨_, cap, rfl, h1, h2, fun i hi => ?_⟩
    rw [iadd_at, Nat.zero_add, at_cell hh i]
    have hc : cur.toList[i]? = (l.map iv)[i]? := by
      rw [← h4, Nat.mul_one, List.getElem?_take]; simp [hi]
    rw [← Array.getElem?_toList, hc]
    simp [List.getElem?_map, List.getElem?_eq_getElem hi, iv]
theorem OwnI.grown {base : Nat} {w w1 : World} {v : Value} {l : List Int} {r : Option Nat} (h : OwnI base w v l) (hg : w.grownBy w1 r) (hr : ∀ g, v.ownBlock = some g → some g ≠ r) : OwnI base w1 v l := by
  obtain ⟨h0, h | ⟨g, cap, cur, rfl, hb, hh, h1⟩⟩ := h
  · exact ⟨h0, .inl h⟩
  · exact ⟨h0, .inr ⟨g, cap, cur, rfl, hb, at_grown hh hg (hr g rfl), h1⟩⟩
theorem OwnI.drew {base : Nat} {w : World} {v : Value} {l : List Int} (h : OwnI base w v l) : OwnI base w.drew v l := h
theorem OwnI.empty (w : World) : OwnI w.heap.size (w.alloc (.cells #[] 2)) (.slice (some ⟨w.heap.size, 0, none⟩) 0 0) [] :=
  ⟨rfl, .inr ⟨w.heap.size, 0, #[], rfl, Nat.le_refl _, at_new w _, Nat.le_refl _, Nat.zero_le _, rfl, rfl⟩⟩
theorem gb_ownI {w w5 wc : World} {base : Nat} {v : Value} {l : List Int} (h : w.grownBy w5 none) (ho : OwnI base w5 v l) (hb : w.heap.size ≤ base) (hg : w5.grownBy wc v.ownBlock) : w.grownBy wc none :=
  gb_trans h hg (by
    cases hv : v.ownBlock with
    | none => exact .inl rfl
    | some g => exact .inr (.inr ⟨g, rfl, Nat.le_trans hb (ho.at g (by simp [ownL, hv])).1⟩))
/-- another slice, behind a change of this one's block -/
theorem ints_other {w wc : World} {base : Nat} {v u : Value} {l r : List Int} (h : IntsAt w u r) (ho : OwnI base w v l) (hg : w.grownBy wc v.ownBlock) (hu : ∀ a n c, u = .slice (some a) n c → a.block < base) : IntsAt wc u r := by
  rcases h with h | ⟨a, cap, rfl, h1, h2, h3⟩
  · exact .inl h
  · refine .inr ⟨a, cap, rfl, h1, h2, fun i hi => hg.cell (h3 i hi) ?_⟩
    intro e
    have := (ho.at a.block (by simp [ownL, ← e, Addr.add]; split <;> rfl)).1
    have := hu a _ _ rfl
    omega
/-- numbers that a block holds -/
theorem ints_of_cells {w : World} {b : Nat} {f : Nat × Nat} (l : List Int) (h : w.heap[b]? = some (.cells (l.map iv).toArray 2 f)) (hl : l.length ≤ maxLen) : IntsAt w (.slice (some ⟨b, 0, none⟩) l.length l.length) l :=
  .inr ⟨_, l.length, rfl, Nat.le_refl _, hl, fun i hi => by
    rw [iadd_at, Nat.zero_add, at_cell h i]
    simp [iv]⟩
theorem own_ints {w : World} {b base : Nat} (l : List Int) (h : w.heap[b]? = some (.cells (l.map iv).toArray 2)) (hl : l.length ≤ maxLen) (hb : base ≤ b) : OwnI base w (.slice (some ⟨b, 0, none⟩) l.length l.length) l :=
  ⟨by simp, .inr ⟨b, l.length, (l.map iv).toArray, rfl, hb, h, Nat.le_refl _, hl, by simp, by rw [Nat.mul_one]; exact List.take_of_length_le (by simp)⟩⟩
/-- the first j; all from i on -/
theorem ints_slice0 {w : World} {ab ao n c j : Nat} {l : List Int} (h : IntsAt w (.slice (some ⟨ab, ao, none⟩) n c) l) (hj : j ≤ n) : IntsAt w (.slice (some ⟨ab, ao, none⟩) j c) (l.take j) := by
  rcases h with ⟨h, _⟩ | ⟨a, cap, e, h1, h2, h3⟩
  · cases h
  · cases e
    have hl : (l.take j).length = j := by rw [List.length_take]; omega
    refine .inr ⟨_, c, by rw [hl], by omega, h2, fun i hi => ?_⟩
    have := h3 i (by omega)
    rw [this]; simp
theorem ints_slice1 {w : World} {ab ao n c i : Nat} {l : List Int} (h : IntsAt w (.slice (some ⟨ab, ao, none⟩) n c) l) (hi : i ≤ n) : IntsAt w (.slice (some ⟨ab, ao + i, none⟩) (n - i) (c - i)) (l.drop i) := by
  rcases h with ⟨h, _⟩ | ⟨a, cap, e, h1, h2, h3⟩
  · cases h
  · cases e
    have hl : (l.drop i).length = l.length - i := by rw [List.length_drop]
    refine .inr ⟨_, c - i, by rw [hl], by omega, by omega, fun k hk => ?_⟩
    have := h3 (i + k) (by omega)
    rw [iadd_at] at this ⊢
    rw [Nat.add_assoc, this]; simp

/-- append of numbers to a slice of the call's own -/
theorem run_append_ints {w : World} {ty : TypeId} (base : Nat) (v : Value) (l : List Int) (hown : OwnI base w v l) (u : Value) (r : List Int) (hr : IntsAt w u r) (hlen : l.length + r.length ≤ 1000000) (hbase : base ≤ w.heap.size) :
    ∃ v' w', (Builtin.append_ #[22, 22] ty #[v, u]).run Try.prog w = .ok v' w' ∧ OwnI base w' v' (l ++ r) ∧ w.grownBy w' v.ownBlock ∧ (v'.ownBlock = v.ownBlock ∨ v'.ownBlock = some w.heap.size) := by
  obtain ⟨i, hi, hz0, hz1, hz2⟩ := info_parts info_i64
  rcases hr with ⟨rfl, rfl⟩ | ⟨ad, c, rfl, _, _, hc⟩
  · exact ⟨v, w, run_append_owned_none (P := Try.prog) (w := w) base 22 ty 2 i 1 Try.underlying22 hi v l.length (l.map iv) hown, by simpa using hown, .refl _ _, .inl rfl⟩
  · obtain ⟨v', w', h0, h1, h2, _, h3⟩ := run_append_own_at (P := Try.prog) w base 22 ty 2 i (.int .i64 0) 1 8 Try.underlying22 hi hz0 hz1 hz2 rfl (by omega) v l.length (l.map iv) hown ad r.length c (r.map iv) (by simp)
      (fun j y hj => by
        rw [List.getElem?_map] at hj
        by_cases hlt : j < r.length
        · rw [List.getElem?_eq_getElem hlt] at hj
          cases hj
          exact hc j hlt
        · rw [List.getElem?_eq_none (by omega)] at hj; cases hj)
      (fun y hy => by
        obtain ⟨c, _, rfl⟩ := List.mem_map.1 hy
        rfl)
      (by unfold maxLen; omega) (by omega) hbase
    exact ⟨v', w', h0, by unfold OwnI; rw [List.length_append, List.map_append]; exact h1, h2, h3⟩
theorem wp_append_ints {w : World} {o : Oper} {a : Act} {K : Act → World → Prop} {Q : Exit → Act → World → Prop} (s x : Operand)
    (ho : o.op = .call { callee := .builtin .append, args := #[s, x], argTypes := #[22, 22] })
    (base : Nat) (v : Value) (l : List Int) (hs : a.eval s = v) (hown : OwnI base w v l) (u : Value) (r : List Int) (hx : a.eval x = u) (hr : IntsAt w u r)
    (hlen : l.length + r.length ≤ 1000000) (hbase : base ≤ w.heap.size)
    (h : ∀ v' w', OwnI base w' v' (l ++ r) → w.grownBy w' v.ownBlock → (v'.ownBlock = v.ownBlock ∨ v'.ownBlock = some w.heap.size) → K (a.put o.dst v') w') : o.wp Try.prog a w K Q := by
  obtain ⟨v', w', hrun, h1, h2, h3⟩ := run_append_ints (ty := o.type) base v l hown u r hr hlen hbase
  unfold Oper.wp execOp
  simp only [ho, resolve, invoke, builtin, Sem.run_bind, Sem.run_pure, Result.andThen_ok, List.map_toArray, List.map_cons, List.map_nil, hs, hx, hrun]
  exact h v' w' h1 h2 h3
theorem step_append_ints {w : World} {ops : Array Oper} {o : Oper} {a : Act} {K : Act → World → Prop} {Q : Exit → Act → World → Prop} {E : Prop} (hw : Region.wanted o (yielded ops a.tmps) = true) (s x : Operand)
    (ho : o.op = .call { callee := .builtin .append, args := #[s, x], argTypes := #[22, 22] })
    (base : Nat) (v : Value) (l : List Int) (hs : a.eval s = v) (hown : OwnI base w v l) (u : Value) (r : List Int) (hx : a.eval x = u) (hr : IntsAt w u r)
    (hlen : l.length + r.length ≤ 1000000) (hbase : base ≤ w.heap.size)
    (h : ∀ v' w', OwnI base w' v' (l ++ r) → w.grownBy w' v.ownBlock → (v'.ownBlock = v.ownBlock ∨ v'.ownBlock = some w.heap.size) → K (a.put o.dst v') w') :
    if Region.wanted o (yielded ops a.tmps) = true then Oper.wp Try.prog o a w K Q else E := by
  rw [if_pos hw]
  exact wp_append_ints s x ho base v l hs hown u r hx hr hlen hbase h
theorem append_ints {w : World} {ops : Array Oper} {rest : List Oper} {o : Oper} {a : Act} {Q : Exit → Act → World → Prop} (hgd : o.guard = none) (s x : Operand)
    (ho : o.op = .call { callee := .builtin .append, args := #[s, x], argTypes := #[22, 22] })
    (base : Nat) (v : Value) (l : List Int) (hs : a.eval s = v) (hown : OwnI base w v l) (u : Value) (r : List Int) (hx : a.eval x = u) (hr : IntsAt w u r)
    (hlen : l.length + r.length ≤ 1000000) (hbase : base ≤ w.heap.size)
    (h : ∀ v' w', OwnI base w' v' (l ++ r) → w.grownBy w' v.ownBlock → (v'.ownBlock = v.ownBlock ∨ v'.ownBlock = some w.heap.size) → wpList Try.prog ops Q rest (a.put o.dst v') w') : wpList Try.prog ops Q (o :: rest) a w := by
  have hw : Region.wanted o (yielded ops a.tmps) = true := by unfold Region.wanted; rw [hgd]
  refine wpList_step fun K hK => ?_
  rw [if_pos hw]
  exact wp_append_ints s x ho base v l hs hown u r hx hr hlen hbase fun v' w' h1 h2 h3 => hK _ _ (h v' w' h1 h2 h3)

theorem append_ints_w {w : World} {ops : Array Oper} {rest : List Oper} {o : Oper} {a : Act} {Q : Exit → Act → World → Prop} (hw : Region.wanted o (yielded ops a.tmps) = true) (s x : Operand)
    (ho : o.op = .call { callee := .builtin .append, args := #[s, x], argTypes := #[22, 22] })
    (base : Nat) (v : Value) (l : List Int) (hs : a.eval s = v) (hown : OwnI base w v l) (u : Value) (r : List Int) (hx : a.eval x = u) (hr : IntsAt w u r)
    (hlen : l.length + r.length ≤ 1000000) (hbase : base ≤ w.heap.size)
    (h : ∀ v' w', OwnI base w' v' (l ++ r) → w.grownBy w' v.ownBlock → (v'.ownBlock = v.ownBlock ∨ v'.ownBlock = some w.heap.size) → wpList Try.prog ops Q rest (a.put o.dst v') w') : wpList Try.prog ops Q (o :: rest) a w := by
  refine wpList_step fun K hK => ?_
  rw [if_pos hw]
  exact wp_append_ints s x ho base v l hs hown u r hx hr hlen hbase fun v' w' h1 h2 h3 => hK _ _ (h v' w' h1 h2 h3)

theorem IntsAt.cell' {w : World} {ab ao n c i : Nat} {l : List Int} {x : Int} (h : IntsAt w (.slice (some ⟨ab, ao, none⟩) n c) l) (hx : l[i]? = some x) : w.cell? ⟨ab, ao + i, none⟩ = some (.int .i64 x) := by
  obtain ⟨hi, rfl⟩ := List.getElem?_eq_some_iff.1 hx
  obtain ⟨ab', ao', e, _, _, hc⟩ := h.cell hi
  cases e; exact hc
/-- a slice that reads as these slices of numbers -/
def RowsI (w : World) (v : Value) (ls : List (Value × List Int)) : Prop :=
  ∃ a cap, v = .slice (some a) ls.length cap ∧ ls.length ≤ cap ∧ cap ≤ maxLen ∧ ∀ i, (h : i < ls.length) → w.cell? (a.add i) = some ls[i].1 ∧ IntsAt w ls[i].1 ls[i].2
theorem RowsI.grown {w w1 : World} {v : Value} {l : List (Value × List Int)} (h : RowsI w v l) (hg : w.grownBy w1 none) : RowsI w1 v l := by
  obtain ⟨a, cap, rfl, h1, h2, h3⟩ := h
  exact ⟨a, cap, rfl, h1, h2, fun i hi => ⟨hg.cell (h3 i hi).1 (by simp), (h3 i hi).2.grown hg⟩⟩
theorem RowsI.cells {w : World} {v : Value} {l : List (Value × List Int)} (h : RowsI w v l) (hp : 0 < l.length) :
    ∃ ab ao cap, v = .slice (some ⟨ab, ao, none⟩) l.length cap ∧ ∀ i, (h : i < l.length) → w.cell? ⟨ab, ao + i, none⟩ = some l[i].1 ∧ IntsAt w l[i].1 l[i].2 := by
  obtain ⟨⟨ab, ao, asp⟩, cap, rfl, _, _, h3⟩ := h
  have h0 := (h3 0 hp).1
  have hsp : asp = none := by simpa [Addr.add] using World.cell?_spot h0
  subst hsp
  exact ⟨ab, ao, cap, rfl, fun i hi => by rw [← iadd_at]; exact h3 i hi⟩
/-- one row; two rows, in a new block -/
theorem rows_one {w w1 : World} {b : Nat} {v : Value} {l : List Int} {t : TypeId} (h : w1.heap[b]? = some (.cells #[v] t)) (h0 : IntsAt w1 v l) : RowsI w1 (.slice (some ⟨b, 0, none⟩) 1 1) [(v, l)] :=
  ⟨_, 1, rfl, Nat.le_refl _, by unfold maxLen; omega, fun i hi => by
    match i, hi with
    | 0, _ => exact ⟨by rw [iadd_at, Nat.zero_add, at_cell h 0]; rfl, h0⟩⟩
theorem rows_two {w1 : World} {b : Nat} {v v' : Value} {l l' : List Int} {t : TypeId} (h : w1.heap[b]? = some (.cells #[v, v'] t)) (h0 : IntsAt w1 v l) (h1 : IntsAt w1 v' l') : RowsI w1 (.slice (some ⟨b, 0, none⟩) 2 2) [(v, l), (v', l')] :=
  ⟨_, 2, rfl, Nat.le_refl _, by unfold maxLen; omega, fun i hi => by
    match i, hi with
    | 0, _ => exact ⟨by rw [iadd_at, Nat.zero_add, at_cell h 0]; rfl, h0⟩
    | 1, _ => exact ⟨by rw [iadd_at, Nat.zero_add, at_cell h 1]; rfl, h1⟩⟩
end Go.Proofs.Ytfobddicokogpaa
