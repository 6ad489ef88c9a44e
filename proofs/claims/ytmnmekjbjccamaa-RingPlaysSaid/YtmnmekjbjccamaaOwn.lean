/-
  Slices of bytes that the call itself makes and appends to: what they hold, and that they read as bytes; bytes as a string. No condition. Nothing of the program's functions is named here.
-/
import Derived.Test.YtmnmekjbjccamaaGet
import Derived.Laws.AppendOwnNone
import Derived.Maps.AppendAt
namespace Go.Proofs.Ytmnmekjbjccamaa
set_option maxRecDepth 100000
open Go.RowKit

/-- a byte as a value -/
def bv (c : UInt8) : Value := .int .u8 (c.toNat : Int)
/-- a slice of the call's own, in a block from 'base' on, that holds these bytes -/
def OwnB (base : Nat) (w : World) (v : Value) (l : List UInt8) : Prop := w.ownsRow base 5 1 v l.length (l.map bv)

theorem OwnB.bytes {base : Nat} {w : World} {v : Value} {l : List UInt8} (h : OwnB base w v l) : BytesAt w v l := by
  obtain ⟨_, h | ⟨g, cap, cur, rfl, _, hh, h1, h2, h3, h4⟩⟩ := h
  · exact .inl ⟨h.1, by simpa using h.2⟩
  · refine .inr ⟨_, cap, rfl, h1, h2, fun i hi => ?_⟩
    have e : (⟨g, 0, none⟩ : Addr).add i = ⟨g, i, none⟩ := by unfold Addr.add; split <;> simp_all
    rw [e, at_cell hh i]
    have hc : cur.toList[i]? = (l.map bv)[i]? := by
      rw [← h4, Nat.mul_one, List.getElem?_take]; simp [hi]
    rw [← Array.getElem?_toList, hc]
    simp [List.getElem?_map, List.getElem?_eq_getElem hi, bv]
theorem OwnB.form {base : Nat} {w : World} {v : Value} {l : List UInt8} (h : OwnB base w v l) : ∃ p c, v = .slice p l.length c := by
  obtain ⟨_, h | ⟨g, cap, cur, rfl, _⟩⟩ := h
  · exact ⟨none, 0, by rw [h.1, h.2]⟩
  · exact ⟨_, _, rfl⟩
theorem OwnB.at {base : Nat} {w : World} {v : Value} {l : List UInt8} (h : OwnB base w v l) : ∀ a n c, v = .slice (some a) n c → base ≤ a.block ∧ a.block < w.heap.size := by
  intro a n c e
  obtain ⟨_, h | ⟨g, cap, cur, rfl, hb, hh, _⟩⟩ := h
  · rw [h.1] at e; cases e
  · cases e; exact ⟨hb, at_lt hh⟩
theorem OwnB.grown {base : Nat} {w w1 : World} {v : Value} {l : List UInt8} {r : Option Nat} (h : OwnB base w v l) (hg : w.grownBy w1 r) (hr : ∀ g, v.ownBlock = some g → some g ≠ r) : OwnB base w1 v l := by
  obtain ⟨h0, h | ⟨g, cap, cur, rfl, hb, hh, h1⟩⟩ := h
  · exact ⟨h0, .inl h⟩
  · exact ⟨h0, .inr ⟨g, cap, cur, rfl, hb, at_grown hh hg (hr g rfl), h1⟩⟩
theorem OwnB.empty (w : World) : OwnB w.heap.size (w.alloc (.cells #[] 5)) (.slice (some ⟨w.heap.size, 0, none⟩) 0 0) [] :=
  ⟨rfl, .inr ⟨w.heap.size, 0, #[], rfl, Nat.le_refl _, at_new w _, Nat.le_refl _, Nat.zero_le _, rfl, rfl⟩⟩
theorem OwnB.nil (base : Nat) (w : World) : OwnB base w (.slice none 0 0) [] := ⟨rfl, .inl ⟨rfl, rfl⟩⟩
theorem OwnB.le {base base' : Nat} {w : World} {v : Value} {l : List UInt8} (h : OwnB base w v l) (hb : base' ≤ base) : OwnB base' w v l := by
  obtain ⟨h0, h | ⟨g, cap, cur, rfl, hb', h1⟩⟩ := h
  · exact ⟨h0, .inl h⟩
  · exact ⟨h0, .inr ⟨g, cap, cur, rfl, Nat.le_trans hb hb', h1⟩⟩

theorem info_u8 : (Try.prog.info? 5).map (fun i => (i.zero, i.size, i.bytes)) = some (some (.int .u8 0), 1, 1) := by kernel_rfl
/-- append of bytes to a slice of the call's own -/
theorem append_bytes {w : World} {ops : Array Oper} {rest : List Oper} {o : Oper} {a : Act} {Q : Exit → Act → World → Prop} (hgd : o.guard = none) (s x : Operand)
    (ho : o.op = .call { callee := .builtin .append, args := #[s, x], argTypes := #[26, 26] })
    (base : Nat) (v : Value) (l : List UInt8) (hs : a.eval s = v) (hown : OwnB base w v l) (u : Value) (r : List UInt8) (hx : a.eval x = u) (hr : BytesAt w u r)
    (hlen : l.length + r.length ≤ 1000000) (hbase : base ≤ w.heap.size)
    (h : ∀ v' w', OwnB base w' v' (l ++ r) → w.grownBy w' v.ownBlock → (v'.ownBlock = v.ownBlock ∨ v'.ownBlock = some w.heap.size) → wpList Try.prog ops Q rest (a.put o.dst v') w') : wpList Try.prog ops Q (o :: rest) a w := by
  obtain ⟨i, hi, hz0, hz1, hz2⟩ := info_parts info_u8
  rcases hr with ⟨rfl, rfl⟩ | ⟨ad, c, rfl, _, _, hc⟩
  · refine wpList_append_own_none hgd s x 26 ho base 5 i 1 Try.underlying26 hi v l.length (l.map bv) hs hown hx ?_
    exact h v w (by simpa using hown) (.refl _ _) (.inl rfl)
  · refine wpList_append_own_at w hgd s x 26 ho base 5 i (.int .u8 0) 1 1 Try.underlying26 hi hz0 hz1 hz2 rfl (by omega) v l.length (l.map bv) hs hown ad r.length c (r.map bv) hx (by simp)
      (fun j y hj => by
        rw [List.getElem?_map] at hj
        by_cases hlt : j < r.length
        · rw [List.getElem?_eq_getElem hlt] at hj
          cases hj
          exact hc j hlt
        · rw [List.getElem?_eq_none (by omega)] at hj; cases hj)
      (fun y hy => by
        obtain ⟨c, _, rfl⟩ := List.mem_map.1 hy
        rfl)
      (by unfold maxLen; omega) (by omega) hbase ?_
    intro v' w' h1 h2 _ h3
    exact h v' w' (by unfold OwnB; rw [List.length_append, List.map_append]; exact h1) h2 h3

/-- bytes as a string -/
theorem conv_bytes {u : World} {v : Value} {l : List UInt8} (h : BytesAt u v l) : (convert 26 9 v).run Try.prog u = .ok (.string ⟨l.toArray⟩) u := by
  rcases h with ⟨rfl, rfl⟩ | ⟨a, cap, rfl, _, _, hc⟩
  · exact run_convert_bytes_nil u 26 5 Try.underlying26 Try.underlying5 0 0 9 Try.underlying9
  · exact run_convert_bytes_back u 26 9 5 a cap l Try.underlying26 Try.underlying5 Try.underlying9 hc
theorem BytesAt.drew {w : World} {v : Value} {l : List UInt8} (h : BytesAt w v l) : BytesAt w.drew v l := h
theorem BytesAt.alloc {w : World} {v : Value} {l : List UInt8} (h : BytesAt w v l) (o : Obj) : BytesAt (w.alloc o) v l := h.grown (World.grownBy_alloc w o none) (by simp)
theorem OwnB.alloc {base : Nat} {w : World} {v : Value} {l : List UInt8} (h : OwnB base w v l) (o : Obj) : OwnB base (w.alloc o) v l := h.grown (World.grownBy_alloc w o none) (by simp)
theorem own_block {w : World} {b base : Nat} (l : List UInt8) (h : w.heap[b]? = some (.cells (l.map bv).toArray 5)) (hl : l.length ≤ maxLen) (hb : base ≤ b) : OwnB base w (.slice (some ⟨b, 0, none⟩) l.length l.length) l :=
  ⟨by simp, .inr ⟨b, l.length, (l.map bv).toArray, rfl, hb, h, Nat.le_refl _, hl, by simp, by rw [Nat.mul_one]; exact List.take_of_length_le (by simp)⟩⟩
theorem gb_own {w w5 wc : World} {base : Nat} {v : Value} {l : List UInt8} (h : w.grownBy w5 none) (ho : OwnB base w5 v l) (hb : w.heap.size ≤ base) (hg : w5.grownBy wc v.ownBlock) : w.grownBy wc none :=
  gb_trans h hg (by
    cases hv : v.ownBlock with
    | none => exact .inl rfl
    | some g =>
      obtain ⟨p, c, rfl⟩ := ho.form
      cases p with
      | none => cases hv
      | some a => exact .inr (.inr ⟨g, rfl, by have := (ho.at a _ _ rfl).1; cases hv; exact Nat.le_trans hb this⟩))
theorem at_own {w5 wc : World} {base b : Nat} {v : Value} {l : List UInt8} {o : Obj} (h : w5.heap[b]? = some o) (ho : OwnB base w5 v l) (hb : b < base) (hg : w5.grownBy wc v.ownBlock) : wc.heap[b]? = some o :=
  at_grown h hg (by
    intro e
    obtain ⟨p, c, rfl⟩ := ho.form
    cases p with
    | none => cases e
    | some a => have h1 := (ho.at a _ _ rfl).1; cases e; exact absurd h1 (Nat.not_le.2 hb))
end Go.Proofs.Ytmnmekjbjccamaa
