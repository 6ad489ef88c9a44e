/-
  Slices of numbers (int): what a slice of the call's own reads as; append of a slice; literals. No condition. Nothing of the program's functions is named here.
-/
import Derived.Test.YtmhpldnmapjghaaIntL
import Derived.Test.YtmhpldnmapjghaaOwnN
import Derived.Deep.RegionHeld3
set_option linter.unusedSimpArgs false
set_option linter.unusedVariables false
namespace Go.Proofs.Ytmhpldnmapjghaa
set_option maxRecDepth 100000
open Go.RowKit

theorem OwnN.ints {base : Nat} {w : World} {v : Value} {l : List Int} (h : OwnN base w v l) : IntsAt w v l := by
  obtain ⟨_, h | ⟨g, cap, cur, rfl, _, hh, h1, h2, h3, h4⟩⟩ := h
  · exact .inl ⟨h.1, by simpa using h.2⟩
  · refine .inr ⟨_, cap, rfl, h1, h2, fun i hi => ?_⟩
    rw [iadd_at, Nat.zero_add, at_cell hh i]
    have hc : cur.toList[i]? = (l.map iv)[i]? := by
      rw [← h4, Nat.mul_one, List.getElem?_take]; simp [hi]
    rw [← Array.getElem?_toList, hc]
    simp [List.getElem?_map, List.getElem?_eq_getElem hi, iv]
theorem OwnN.grownR {base : Nat} {w w1 : World} {v : Value} {l : List Int} {r : Option Nat} (h : OwnN base w v l) (hg : w.grownBy w1 r) (hr : ∀ g, v.ownBlock = some g → some g ≠ r) : OwnN base w1 v l := by
  obtain ⟨h0, h | ⟨g, cap, cur, rfl, hb, hh, h1⟩⟩ := h
  · exact ⟨h0, .inl h⟩
  · exact ⟨h0, .inr ⟨g, cap, cur, rfl, hb, at_grown hh hg (hr g rfl), h1⟩⟩
theorem OwnN.drew {base : Nat} {w : World} {v : Value} {l : List Int} (h : OwnN base w v l) : OwnN base w.drew v l := h
theorem OwnN.empty (w : World) : OwnN w.heap.size (w.alloc (.cells #[] 3)) (.slice (some ⟨w.heap.size, 0, none⟩) 0 0) [] :=
  ⟨rfl, .inr ⟨w.heap.size, 0, #[], rfl, Nat.le_refl _, at_new w _, Nat.le_refl _, Nat.zero_le _, rfl, rfl⟩⟩
theorem gb_ownN {w w5 wc : World} {base : Nat} {v : Value} {l : List Int} (h : w.grownBy w5 none) (ho : OwnN base w5 v l) (hb : w.heap.size ≤ base) (hg : w5.grownBy wc v.ownBlock) : w.grownBy wc none :=
  gb_trans h hg (by
    cases hv : v.ownBlock with
    | none => exact .inl rfl
    | some g => exact .inr (.inr ⟨g, rfl, Nat.le_trans hb (ho.at g (by simp [ownL, hv])).1⟩))
/-- another slice, behind a change of this one's block -/
theorem nums_other {w wc : World} {base : Nat} {v u : Value} {l r : List Int} (h : IntsAt w u r) (ho : OwnN base w v l) (hg : w.grownBy wc v.ownBlock) (hu : ∀ a n c, u = .slice (some a) n c → a.block < base) : IntsAt wc u r := by
  rcases h with h | ⟨a, cap, rfl, h1, h2, h3⟩
  · exact .inl h
  · refine .inr ⟨a, cap, rfl, h1, h2, fun i hi => hg.cell (h3 i hi) ?_⟩
    intro e
    have := (ho.at a.block (by simp [ownL, ← e, Addr.add]; split <;> rfl)).1
    have := hu a _ _ rfl
    omega
/-- numbers that a block holds -/
theorem nums_of_cells {w : World} {b : Nat} {f : Nat × Nat} (l : List Int) (h : w.heap[b]? = some (.cells (l.map iv).toArray 3 f)) (hl : l.length ≤ maxLen) : IntsAt w (.slice (some ⟨b, 0, none⟩) l.length l.length) l :=
  .inr ⟨_, l.length, rfl, Nat.le_refl _, hl, fun i hi => by
    rw [iadd_at, Nat.zero_add, at_cell h i]
    simp [iv]⟩
theorem own_nums {w : World} {b base : Nat} (l : List Int) (h : w.heap[b]? = some (.cells (l.map iv).toArray 3)) (hl : l.length ≤ maxLen) (hb : base ≤ b) : OwnN base w (.slice (some ⟨b, 0, none⟩) l.length l.length) l :=
  ⟨by simp, .inr ⟨b, l.length, (l.map iv).toArray, rfl, hb, h, Nat.le_refl _, hl, by simp, by rw [Nat.mul_one]; exact List.take_of_length_le (by simp)⟩⟩
/-- append of numbers to a slice of the call's own -/
theorem run_append_nums {w : World} {ty : TypeId} (base : Nat) (v : Value) (l : List Int) (hown : OwnN base w v l) (u : Value) (r : List Int) (hr : IntsAt w u r) (hlen : l.length + r.length ≤ 1000000) (hbase : base ≤ w.heap.size) :
    ∃ v' w', (Builtin.append_ #[22, 22] ty #[v, u]).run Try.prog w = .ok v' w' ∧ OwnN base w' v' (l ++ r) ∧ w.grownBy w' v.ownBlock ∧ (v'.ownBlock = v.ownBlock ∨ v'.ownBlock = some w.heap.size) := by
  obtain ⟨i, hi, hz0, hz1, hz2⟩ := info_parts info_num
  rcases hr with ⟨rfl, rfl⟩ | ⟨ad, c, rfl, _, _, hc⟩
  · exact ⟨v, w, run_append_owned_none (P := Try.prog) (w := w) base 22 ty 3 i 1 Try.underlying22 hi v l.length (l.map iv) hown, by simpa using hown, .refl _ _, .inl rfl⟩
  · obtain ⟨v', w', h0, h1, h2, _, h3⟩ := run_append_own_at (P := Try.prog) w base 22 ty 3 i (.int .i64 0) 1 8 Try.underlying22 hi hz0 hz1 hz2 rfl (by omega) v l.length (l.map iv) hown ad r.length c (r.map iv) (by simp)
      (fun j y hj => by
        rw [List.getElem?_map] at hj
        by_cases hlt : j < r.length
        · rw [List.getElem?_eq_getElem hlt] at hj
          cases hj
          exact hc j hlt
        · rw [List.getElem?_eq_none (by omega)] at hj; cases hj)
      (fun y hy => by
        obtain ⟨c, _, rfl⟩ := List.mem_map.1 hy
        rfl)
      (by unfold maxLen; omega) (by omega) hbase
    exact ⟨v', w', h0, by unfold OwnN; rw [List.length_append, List.map_append]; exact h1, h2, h3⟩
theorem wp_append_nums {w : World} {o : Oper} {a : Act} {K : Act → World → Prop} {Q : Exit → Act → World → Prop} (s x : Operand)
    (ho : o.op = .call { callee := .builtin .append, args := #[s, x], argTypes := #[22, 22] })
    (base : Nat) (v : Value) (l : List Int) (hs : a.eval s = v) (hown : OwnN base w v l) (u : Value) (r : List Int) (hx : a.eval x = u) (hr : IntsAt w u r)
    (hlen : l.length + r.length ≤ 1000000) (hbase : base ≤ w.heap.size)
    (h : ∀ v' w', OwnN base w' v' (l ++ r) → w.grownBy w' v.ownBlock → (v'.ownBlock = v.ownBlock ∨ v'.ownBlock = some w.heap.size) → K (a.put o.dst v') w') : o.wp Try.prog a w K Q := by
  obtain ⟨v', w', hrun, h1, h2, h3⟩ := run_append_nums (ty := o.type) base v l hown u r hr hlen hbase
  unfold Oper.wp execOp
  simp only [ho, resolve, invoke, builtin, Sem.run_bind, Sem.run_pure, Result.andThen_ok, List.map_toArray, List.map_cons, List.map_nil, hs, hx, hrun]
  exact h v' w' h1 h2 h3
theorem step_append_nums {w : World} {ops : Array Oper} {o : Oper} {a : Act} {K : Act → World → Prop} {Q : Exit → Act → World → Prop} {E : Prop} (hw : Region.wanted o (yielded ops a.tmps) = true) (s x : Operand)
    (ho : o.op = .call { callee := .builtin .append, args := #[s, x], argTypes := #[22, 22] })
    (base : Nat) (v : Value) (l : List Int) (hs : a.eval s = v) (hown : OwnN base w v l) (u : Value) (r : List Int) (hx : a.eval x = u) (hr : IntsAt w u r)
    (hlen : l.length + r.length ≤ 1000000) (hbase : base ≤ w.heap.size)
    (h : ∀ v' w', OwnN base w' v' (l ++ r) → w.grownBy w' v.ownBlock → (v'.ownBlock = v.ownBlock ∨ v'.ownBlock = some w.heap.size) → K (a.put o.dst v') w') :
    if Region.wanted o (yielded ops a.tmps) = true then Oper.wp Try.prog o a w K Q else E := by
  rw [if_pos hw]
  exact wp_append_nums s x ho base v l hs hown u r hx hr hlen hbase h
theorem append_nums {w : World} {ops : Array Oper} {rest : List Oper} {o : Oper} {a : Act} {Q : Exit → Act → World → Prop} (hgd : o.guard = none) (s x : Operand)
    (ho : o.op = .call { callee := .builtin .append, args := #[s, x], argTypes := #[22, 22] })
    (base : Nat) (v : Value) (l : List Int) (hs : a.eval s = v) (hown : OwnN base w v l) (u : Value) (r : List Int) (hx : a.eval x = u) (hr : IntsAt w u r)
    (hlen : l.length + r.length ≤ 1000000) (hbase : base ≤ w.heap.size)
    (h : ∀ v' w', OwnN base w' v' (l ++ r) → w.grownBy w' v.ownBlock → (v'.ownBlock = v.ownBlock ∨ v'.ownBlock = some w.heap.size) → wpList Try.prog ops Q rest (a.put o.dst v') w') : wpList Try.prog ops Q (o :: rest) a w := by
  have hw : Region.wanted o (yielded ops a.tmps) = true := by unfold Region.wanted; rw [hgd]
  refine wpList_step fun K hK => ?_
  rw [if_pos hw]
  exact wp_append_nums s x ho base v l hs hown u r hx hr hlen hbase fun v' w' h1 h2 h3 => hK _ _ (h v' w' h1 h2 h3)

theorem append_nums_w {w : World} {ops : Array Oper} {rest : List Oper} {o : Oper} {a : Act} {Q : Exit → Act → World → Prop} (hw : Region.wanted o (yielded ops a.tmps) = true) (s x : Operand)
    (ho : o.op = .call { callee := .builtin .append, args := #[s, x], argTypes := #[22, 22] })
    (base : Nat) (v : Value) (l : List Int) (hs : a.eval s = v) (hown : OwnN base w v l) (u : Value) (r : List Int) (hx : a.eval x = u) (hr : IntsAt w u r)
    (hlen : l.length + r.length ≤ 1000000) (hbase : base ≤ w.heap.size)
    (h : ∀ v' w', OwnN base w' v' (l ++ r) → w.grownBy w' v.ownBlock → (v'.ownBlock = v.ownBlock ∨ v'.ownBlock = some w.heap.size) → wpList Try.prog ops Q rest (a.put o.dst v') w') : wpList Try.prog ops Q (o :: rest) a w := by
  refine wpList_step fun K hK => ?_
  rw [if_pos hw]
  exact wp_append_nums s x ho base v l hs hown u r hx hr hlen hbase fun v' w' h1 h2 h3 => hK _ _ (h v' w' h1 h2 h3)

/-- one number of the slice of the call's own is another now -/
theorem OwnN.set {base : Nat} {w : World} {g n c j : Nat} {l : List Int} (h : OwnN base w (.slice (some ⟨g, 0, none⟩) n c) l) (x : Int) : OwnN base (w.setCell ⟨g, j, none⟩ (.int .i64 x)) (.slice (some ⟨g, 0, none⟩) n c) (l.set j x) := by
  obtain ⟨h0, h | ⟨g', cap, cur, e, hb, hh, h1, h2, h3, h4⟩⟩ := h
  · cases h.1
  · cases e
    refine ⟨by simp, .inr ⟨g, c, cur.setIfInBounds j (.int .i64 x), by simp, hb, at_set hh j _, by simpa using h1, h2, by simpa using h3, ?_⟩⟩
    simp only [List.length_set, Nat.mul_one] at h4 ⊢
    rw [Array.toList_setIfInBounds, List.map_set, ← h4, List.take_set]
    rfl
theorem OwnN.free {base : Nat} {w : World} {g n c j : Nat} {l : List Int} (h : OwnN base w (.slice (some ⟨g, 0, none⟩) n c) l) : w.frozen? ⟨g, j, none⟩ = false := by
  obtain ⟨h0, h | ⟨g', cap, cur, e, hb, hh, _⟩⟩ := h
  · cases h.1
  · cases e; exact at_free hh j
theorem size_la (w : World) (o : Obj) : (w.alloc o).heap.size = w.heap.size + 1 := by show (w.heap.push o).size = _; simp
/-- literals -/
theorem num_new (w : World) (l : List Int) (c : Array Value) (hc : (l.map iv).toArray = c) (n : Nat) (hn : l.length = n) (hl : n ≤ maxLen) : IntsAt (w.alloc (.cells c 3)) (.slice (some ⟨w.heap.size, 0, none⟩) n n) l := by
  subst hc; subst hn; exact nums_of_cells l (at_new w _) hl
theorem num_new2 (w : World) (o : Obj) (l : List Int) (c : Array Value) (hc : (l.map iv).toArray = c) (n : Nat) (hn : l.length = n) (hl : n ≤ maxLen) : IntsAt ((w.alloc o).alloc (.cells c 3)) (.slice (some ⟨w.heap.size + 1, 0, none⟩) n n) l := by
  have h := num_new (w.alloc o) l c hc n hn hl
  rw [size_la] at h
  exact h
end Go.Proofs.Ytmhpldnmapjghaa
