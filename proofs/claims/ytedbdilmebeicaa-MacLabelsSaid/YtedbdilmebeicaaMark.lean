/-
  Bytes appended to '[]byte(s)': the row that such a conversion lays bears a mark behind its last cell; no cell of it is under the mark. The conditions: the slice is the call's own; what is appended reads as bytes.
-/
import Derived.Test.YtedbdilmebeicaaMacD
import Derived.Test.YtedbdilmebeicaaStep
set_option linter.unusedSimpArgs false
namespace Go.Proofs.Ytedbdilmebeicaa
set_option maxRecDepth 100000
open Go.RowKit

/-- no cell below n lies under the mark -/
def Clear (f : Nat × Nat) (n : Nat) : Prop := ∀ k, k < n → ¬ (f.1 ≤ k ∧ k < f.2)
/-- a slice of bytes of the call's own, in a row that may bear a mark behind its cells -/
def OwnM (base : Nat) (w : World) (v : Value) (l : List UInt8) : Prop :=
  ∃ g cap cur f, v = .slice (some ⟨g, 0, none⟩) l.length cap ∧ base ≤ g ∧ w.heap[g]? = some (.cells cur 5 f) ∧ Clear f cap ∧ l.length ≤ cap ∧ cap ≤ maxLen ∧ cur.size = cap ∧ cur.toList.take l.length = l.map bv

theorem store_marked (g o : Nat) (t : TypeId) (f : Nat × Nat) : ∀ (vs : List Value) (i : Nat) (cur : Array Value) (w : World), w.heap[g]? = some (.cells cur t f) → Clear f cur.size → o + i + vs.length ≤ cur.size → (∀ v ∈ vs, v.oneCell' = true) →
    (storeCells ⟨g, o, none⟩ vs i).run Try.prog w = .ok () (w.setRow g (cur.toList.take (o + i) ++ vs ++ cur.toList.drop (o + i + vs.length)).toArray)
  | [], i, cur, w, hg, _, _, _ => by
    simp only [storeCells, List.append_nil, List.length_nil, Nat.add_zero, List.take_append_drop, Array.toArray_toList]
    rw [setRow_self w g cur t f hg]
    rfl
  | v :: rest, i, cur, w, hg, hf, hl, h1 => by
    have hlen : o + i + (rest.length + 1) ≤ cur.size := hl
    have hi : o + i < cur.size := by omega
    have hz : w.frozen? ⟨g, o + i, none⟩ = false := by
      have := hf (o + i) hi
      simp only [World.frozen?, hg, Bool.and_eq_false_iff, decide_eq_false_iff_not]
      by_cases h : f.1 ≤ o + i
      · exact .inr fun h2 => this ⟨h, h2⟩
      · exact .inl h
    have hst : (store ((⟨g, o, none⟩ : Addr).add i) v).run Try.prog w = .ok () (w.setRow g (cur.setIfInBounds (o + i) v)) := by
      rw [show (⟨g, o, none⟩ : Addr).add i = ⟨g, o + i, none⟩ by unfold Addr.add; split <;> simp_all, run_store Try.prog w _ v _ (h1 v (by simp)), at_cell hg (o + i), Array.getElem?_eq_getElem hi]
      simp [hz, setCell_eq_setRow w g (o + i) cur t f v hg]
    have ih := store_marked g o t f rest (i + 1) (cur.setIfInBounds (o + i) v) _ (setRow_heap w g cur _ t _ hg) (by rw [Array.size_setIfInBounds]; exact hf) (by rw [Array.size_setIfInBounds]; omega) (fun x hx => h1 x (List.mem_cons_of_mem _ hx))
    simp only [storeCells, Sem.run_bind, hst, Result.andThen_ok, ih, setRow_setRow]
    have e := list_seg_step cur.toList (o + i) v rest (by rw [Array.length_toList]; exact hlen)
    rw [Array.toList_setIfInBounds, show o + (i + 1) = o + i + 1 from rfl, e]
    rfl

theorem OwnM.bytes {base : Nat} {w : World} {v : Value} {l : List UInt8} (h : OwnM base w v l) : BytesAt w v l := by
  obtain ⟨g, cap, cur, f, rfl, _, hg, _, h1, h2, h3, h4⟩ := h
  refine .inr ⟨_, cap, rfl, h1, h2, fun i hi => ?_⟩
  have e : (⟨g, 0, none⟩ : Addr).add i = ⟨g, i, none⟩ := by unfold Addr.add; split <;> simp_all
  rw [e, at_cell hg i]
  have hc : cur.toList[i]? = (l.map bv)[i]? := by rw [← h4, List.getElem?_take]; simp [hi]
  rw [← Array.getElem?_toList, hc]
  simp [List.getElem?_map, List.getElem?_eq_getElem hi, bv]
theorem OwnM.grown {base : Nat} {w w1 : World} {v : Value} {l : List UInt8} {r : Option Nat} (h : OwnM base w v l) (hg : w.grownBy w1 r) (hr : ∀ g, v.ownBlock = some g → some g ≠ r) : OwnM base w1 v l := by
  obtain ⟨g, cap, cur, f, rfl, hb, hh, h1⟩ := h
  exact ⟨g, cap, cur, f, rfl, hb, at_grown hh hg (hr g rfl), h1⟩
theorem OwnM.at {base : Nat} {w : World} {v : Value} {l : List UInt8} (h : OwnM base w v l) : ∃ g, v.ownBlock = some g ∧ base ≤ g ∧ g < w.heap.size := by
  obtain ⟨g, cap, cur, f, rfl, hb, hh, _⟩ := h
  exact ⟨g, rfl, hb, at_lt hh⟩
/-- '[]byte(s)' -/
theorem own_string (s : ByteArray) (hs : s.size ≤ 100000) (w : World) (base : Nat) (hb : base ≤ w.heap.size) :
    ∃ c w', (convert 9 26 (.string s)).run Try.prog w = .ok (.slice (some ⟨w.heap.size, 0, none⟩) s.size c) w' ∧ OwnM base w' (.slice (some ⟨w.heap.size, 0, none⟩) s.size c) s.data.toList ∧ w.grownBy w' none := by
  refine ⟨_, _, run_bytes_of_string w 9 26 5 s Try.underlying9 Try.underlying26 Try.underlying5, ?_, gb_alloc (gb_drew (.refl w none)) _⟩
  have hl : s.data.toList.length = s.size := by simp
  have hge := grownCap_ge w s.size 0 5
  have hsz : (bytesRow s (grownCap w s.size 0 5)).size = grownCap w s.size 0 5 := by
    unfold bytesRow; simp [Array.size_append]; show s.size + _ = _; omega
  refine ⟨w.heap.size, _, _, _, by rw [hl], hb, at_new w.drew _, ?_, by rw [hl]; exact hge, grownCap_le_maxLen _ _ _ _ (by unfold maxLen; omega), hsz, ?_⟩
  · intro k hk h; rw [hsz] at h; omega
  · rw [hl]
    unfold bytesRow
    rw [Array.toList_append, List.take_append_of_le_length (by simp)]
    rw [List.take_of_length_le (by simp)]
    simp [bv]

theorem run_append_marked {w : World} {ty : TypeId} (base : Nat) (v : Value) (l : List UInt8) (hown : OwnM base w v l) (a : Addr) (c : Nat) (r : List UInt8) (hr : BytesAt w (.slice (some a) r.length c) r) (hlen : l.length + r.length ≤ 1000000) (hbase : base ≤ w.heap.size) :
    ∃ v' w', (Builtin.append_ #[26, 26] ty #[v, .slice (some a) r.length c]).run Try.prog w = .ok v' w' ∧ OwnM base w' v' (l ++ r) ∧ w.grownBy w' v.ownBlock ∧ (v'.ownBlock = v.ownBlock ∨ v'.ownBlock = some w.heap.size) := by
  obtain ⟨i, hi, hz0, hz1, hz2⟩ := info_parts info_u8
  have hc : ∀ j u, (r.map bv)[j]? = some u → w.cell? (a.add j) = some u := fun j u hj => by
    rcases hr with ⟨h, _⟩ | ⟨ad, c', h, _, _, hcc⟩
    · cases h
    · cases h
      rw [List.getElem?_map] at hj
      by_cases hlt : j < r.length
      · rw [List.getElem?_eq_getElem hlt] at hj; cases hj; exact hcc j hlt
      · rw [List.getElem?_eq_none (by omega)] at hj; cases hj
  have h1 : ∀ u ∈ r.map bv, u.oneCell' = true := fun u hu => by obtain ⟨c, _, rfl⟩ := List.mem_map.1 hu; rfl
  obtain ⟨g, cap, cur, f, rfl, hb, hg, hf, hlc, hcm, hcs, htake⟩ := hown
  by_cases hroom : l.length + r.length ≤ cap
  · have hfc := run_firstCells_some (P := Try.prog) w 1 r.length a r.length c (r.map bv) (by simp) hc
    have hst := store_marked g l.length 5 f (r.map bv) 0 cur w hg (by rw [hcs]; exact hf) (by simp; omega) h1
    refine ⟨.slice (some ⟨g, 0, none⟩) (l.length + r.length) cap, w.setRow g (cur.toList.take l.length ++ r.map bv ++ cur.toList.drop (l.length + (r.map bv).length)).toArray, ?_, ?_, ⟨rfl, rfl, rfl, by unfold World.setRow; simp, fun k _ hk => setRow_other w g k _ (fun e => hk (by simp [Value.ownBlock, e]))⟩, .inl rfl⟩
    · simp only [Nat.add_zero] at hst
      simp [Builtin.append_, run_underlying Try.underlying26, sizeOf, typeInfo, hi, hz1, Builtin.lenOf, hroom, hfc, Addr.add_lit, hst]
    · refine ⟨g, cap, _, f, by rw [List.length_append], hb, setRow_heap w g cur _ 5 _ hg, hf, by rw [List.length_append]; exact hroom, hcm, ?_, ?_⟩
      · simp; omega
      · rw [htake, List.length_append, List.map_append]
        have e : ((l.map bv) ++ (r.map bv)).length = l.length + r.length := by simp
        rw [← e]; exact List.take_left
  · have holds : ∀ j u, (l.map bv)[j]? = some u → w.cell? ((⟨g, 0, none⟩ : Addr).add j) = some u := fun j u hj => by
      have e : (⟨g, 0, none⟩ : Addr).add j = ⟨g, j, none⟩ := by unfold Addr.add; split <;> simp_all
      rw [e, at_cell hg j, ← Array.getElem?_toList]
      rw [← htake, List.getElem?_take] at hj
      split at hj
      · exact hj
      · cases hj
    have hrun := run_append_grow (P := Try.prog) w 26 ty 5 i (.int .u8 0) Try.underlying26 hi hz0 ⟨g, 0, none⟩ l.length cap (l.map bv) (by rw [hz1]; simp) holds a r.length c (r.map bv) (by rw [hz1]; simp) hc (by omega) (by omega) (growslice_fits (by omega) (by rw [hz2]; omega))
    have hge := grownCap_ge w (l.length + r.length) cap 5
    refine ⟨_, _, hrun, ⟨w.heap.size, _, _, (0, 0), by rw [List.length_append], hbase, at_new w.drew _, fun k _ h => by omega, by rw [List.length_append]; exact hge, grownCap_le_maxLen _ _ _ _ (by unfold maxLen; omega), ?_, ?_⟩, ⟨rfl, rfl, rfl, by simp, fun k hk _ => heap_alloc_old w.drew _ hk⟩, .inr rfl⟩
    · simp [size_zeroCells, Value.cells]; omega
    · have e : ((l.map bv) ++ (r.map bv)).length = (l ++ r).length := by simp
      simp only [Array.toList_append, List.map_append]
      rw [← e]; exact List.take_left
theorem wp_append_marked {w : World} {o : Oper} {a : Act} {K : Act → World → Prop} {Q : Exit → Act → World → Prop} (s x : Operand)
    (ho : o.op = .call { callee := .builtin .append, args := #[s, x], argTypes := #[26, 26] })
    (base : Nat) (v : Value) (l : List UInt8) (hs : a.eval s = v) (hown : OwnM base w v l) (ad : Addr) (c : Nat) (r : List UInt8) (hx : a.eval x = .slice (some ad) r.length c) (hr : BytesAt w (.slice (some ad) r.length c) r)
    (hlen : l.length + r.length ≤ 1000000) (hbase : base ≤ w.heap.size)
    (h : ∀ v' w', OwnM base w' v' (l ++ r) → w.grownBy w' v.ownBlock → (v'.ownBlock = v.ownBlock ∨ v'.ownBlock = some w.heap.size) → K (a.put o.dst v') w') : o.wp Try.prog a w K Q := by
  obtain ⟨v', w', hrun, h1, h2, h3⟩ := run_append_marked (ty := o.type) base v l hown ad c r hr hlen hbase
  unfold Oper.wp execOp
  simp only [ho, resolve, invoke, builtin, Sem.run_bind, Sem.run_pure, Result.andThen_ok, List.map_toArray, List.map_cons, List.map_nil, hs, hx, hrun]
  exact h v' w' h1 h2 h3
/-- append of bytes to a slice of the call's own that '[]byte(s)' began -/
theorem append_marked {w : World} {ops : Array Oper} {rest : List Oper} {o : Oper} {a : Act} {Q : Exit → Act → World → Prop} (hgd : o.guard = none) (s x : Operand)
    (ho : o.op = .call { callee := .builtin .append, args := #[s, x], argTypes := #[26, 26] })
    (base : Nat) (v : Value) (l : List UInt8) (hs : a.eval s = v) (hown : OwnM base w v l) (ad : Addr) (c : Nat) (r : List UInt8) (hx : a.eval x = .slice (some ad) r.length c) (hr : BytesAt w (.slice (some ad) r.length c) r)
    (hlen : l.length + r.length ≤ 1000000) (hbase : base ≤ w.heap.size)
    (h : ∀ v' w', OwnM base w' v' (l ++ r) → w.grownBy w' v.ownBlock → (v'.ownBlock = v.ownBlock ∨ v'.ownBlock = some w.heap.size) → wpList Try.prog ops Q rest (a.put o.dst v') w') : wpList Try.prog ops Q (o :: rest) a w :=
  wpList_plain hgd fun _ hK => wp_append_marked s x ho base v l hs hown ad c r hx hr hlen hbase fun v' w' h2 h3 h4 => hK _ _ (h v' w' h2 h3 h4)

/-- what stood ahead of an append to the call's own: as it was -/
theorem OwnM.keeps {base : Nat} {w0 w w1 : World} {v : Value} {l : List UInt8} (h : OwnM base w v l) (hg : w0.grownBy w none) (hb : w0.heap.size ≤ base) (hg1 : w.grownBy w1 v.ownBlock) : w0.grownBy w1 none := by
  obtain ⟨g, e, h1, _⟩ := h.at
  exact gb_trans hg hg1 (.inr (.inr ⟨g, e, Nat.le_trans hb h1⟩))
theorem OwnM.keeps_at {base b : Nat} {w w1 : World} {v : Value} {l : List UInt8} {o : Obj} (h : OwnM base w v l) (hx : w.heap[b]? = some o) (hb : b < base) (hg1 : w.grownBy w1 v.ownBlock) : w1.heap[b]? = some o := by
  obtain ⟨g, e, h1, _⟩ := h.at
  exact at_grown hx hg1 (by rw [e]; intro e2; cases e2; omega)
end Go.Proofs.Ytedbdilmebeicaa
