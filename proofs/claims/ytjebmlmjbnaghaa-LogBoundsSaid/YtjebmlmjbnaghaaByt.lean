/-
  Slices of bytes: what a slice reads as; slices that the call itself makes and appends to; bytes as a string. No condition. Nothing of the program's functions is named here.
-/
import Derived.Test.YtjebmlmjbnaghaaGrow
import Derived.Test.YtjebmlmjbnaghaaQ
import Derived.Test.YtjebmlmjbnaghaaRows
import Derived.Test.YtjebmlmjbnaghaaChg
import Derived.Laws.AppendOwnNone
import Derived.Maps.AppendAt
namespace Go.Proofs.Ytjebmlmjbnaghaa
set_option maxRecDepth 100000
open Go.RowKit

/-- byte i of a list -/
def byteAt (l : List UInt8) (i : Nat) : UInt8 := l.getD i 0
theorem byteAt_eq {l : List UInt8} {i : Nat} (h : i < l.length) : byteAt l i = l[i] := by simp [byteAt, h]
/-- a slice that reads as these bytes -/
def BytesAt (w : World) (v : Value) (l : List UInt8) : Prop :=
  (v = .slice none 0 0 ∧ l = []) ∨
  ∃ a cap, v = .slice (some a) l.length cap ∧ l.length ≤ cap ∧ cap ≤ maxLen ∧ ∀ i, (h : i < l.length) → w.cell? (a.add i) = some (.int .u8 ((l[i]).toNat : Int))

theorem BytesAt.le {w : World} {v : Value} {l : List UInt8} (h : BytesAt w v l) : l.length ≤ maxLen := by
  rcases h with ⟨_, rfl⟩ | ⟨a, cap, _, h1, h2, _⟩
  · simp
  · omega
theorem cell_lt {w : World} {p : Addr} {x : Value} (h : w.cell? p = some x) : p.block < w.heap.size := by
  unfold World.cell? at h
  rcases Nat.lt_or_ge p.block w.heap.size with hb | hb
  · exact hb
  · rw [Array.getElem?_eq_none hb] at h; cases h
theorem add_block (a : Addr) (i : Nat) : (a.add i).block = a.block := by unfold Addr.add; split <;> rfl
/-- where there is a byte, the slice's block is there -/
theorem BytesAt.lt {w : World} {v : Value} {l : List UInt8} (h : BytesAt w v l) : l = [] ∨ ∀ a n c, v = .slice (some a) n c → a.block < w.heap.size := by
  rcases h with ⟨_, rfl⟩ | ⟨a, cap, rfl, _, _, h3⟩
  · exact .inl rfl
  · cases l with
    | nil => exact .inl rfl
    | cons x l =>
      refine .inr fun a' n c e => ?_
      cases e
      have := cell_lt (h3 0 (by simp))
      rwa [add_block] at this
theorem BytesAt.grown {w w1 : World} {v : Value} {l : List UInt8} {r : Option Nat} (h : BytesAt w v l) (hg : w.grownBy w1 r) (hr : ∀ k, r = some k → w.heap.size ≤ k ∨ l = [] ∨ ∀ a n c, v = .slice (some a) n c → a.block ≠ k) : BytesAt w1 v l := by
  rcases h with h | ⟨a, cap, rfl, h1, h2, h3⟩
  · exact .inl h
  · refine .inr ⟨a, cap, rfl, h1, h2, fun i hi => hg.cell (h3 i hi) ?_⟩
    have hlt := cell_lt (h3 i hi)
    rw [add_block] at hlt ⊢
    intro e
    rcases hr _ e.symm with h4 | h4 | h4
    · omega
    · rw [h4] at hi; cases hi
    · exact h4 a _ _ rfl rfl
theorem BytesAt.cells {w : World} {v : Value} {l : List UInt8} (h : BytesAt w v l) (hp : 0 < l.length) :
    ∃ ab ao cap, v = .slice (some ⟨ab, ao, none⟩) l.length cap ∧ ∀ i, (h : i < l.length) → w.cell? ⟨ab, ao + i, none⟩ = some (.int .u8 ((l[i]).toNat : Int)) := by
  rcases h with ⟨_, rfl⟩ | ⟨⟨ab, ao, asp⟩, cap, rfl, _, _, h3⟩
  · cases hp
  · have h0 := h3 0 hp
    have hsp : asp = none := by simpa [Addr.add] using World.cell?_spot h0
    subst hsp
    refine ⟨ab, ao, cap, rfl, fun i hi => ?_⟩
    have := h3 i hi
    unfold Addr.add at this
    split at this
    · next h => subst h; simpa using this
    · simpa using this
theorem gb_some {w w1 : World} (h : w.grownBy w1 none) (b : Nat) : w.grownBy w1 (some b) := ⟨h.os, h.tape, h.output, h.size, fun k hk _ => h.block k hk (by simp)⟩

/-- a byte as a value -/
def bv (c : UInt8) : Value := .int .u8 (c.toNat : Int)
/-- a slice of the call's own, in a block from 'base' on, that holds these bytes -/
def OwnB (base : Nat) (w : World) (v : Value) (l : List UInt8) : Prop := w.ownsRow base 5 1 v l.length (l.map bv)

theorem OwnB.bytes {base : Nat} {w : World} {v : Value} {l : List UInt8} (h : OwnB base w v l) : BytesAt w v l := by
  obtain ⟨_, h | ⟨g, cap, cur, rfl, _, hh, h1, h2, h3, h4⟩⟩ := h
  · exact .inl ⟨h.1, by simpa using h.2⟩
  · refine .inr ⟨_, cap, rfl, h1, h2, fun i hi => ?_⟩
    have e : (⟨g, 0, none⟩ : Addr).add i = ⟨g, i, none⟩ := by unfold Addr.add; split <;> simp_all
    rw [e, at_cell hh i]
    have hc : cur.toList[i]? = (l.map bv)[i]? := by
      rw [← h4, Nat.mul_one, List.getElem?_take]; simp [hi]
    rw [← Array.getElem?_toList, hc]
    simp [List.getElem?_map, List.getElem?_eq_getElem hi, bv]
theorem OwnB.form {base : Nat} {w : World} {v : Value} {l : List UInt8} (h : OwnB base w v l) : ∃ p c, v = .slice p l.length c := by
  obtain ⟨_, h | ⟨g, cap, cur, rfl, _⟩⟩ := h
  · exact ⟨none, 0, by rw [h.1, h.2]⟩
  · exact ⟨_, _, rfl⟩
theorem OwnB.at {base : Nat} {w : World} {v : Value} {l : List UInt8} (h : OwnB base w v l) : ∀ a n c, v = .slice (some a) n c → base ≤ a.block ∧ a.block < w.heap.size := by
  intro a n c e
  obtain ⟨_, h | ⟨g, cap, cur, rfl, hb, hh, _⟩⟩ := h
  · rw [h.1] at e; cases e
  · cases e; exact ⟨hb, at_lt hh⟩
theorem OwnB.grown {base : Nat} {w w1 : World} {v : Value} {l : List UInt8} {r : Option Nat} (h : OwnB base w v l) (hg : w.grownBy w1 r) (hr : ∀ g, v.ownBlock = some g → some g ≠ r) : OwnB base w1 v l := by
  obtain ⟨h0, h | ⟨g, cap, cur, rfl, hb, hh, h1⟩⟩ := h
  · exact ⟨h0, .inl h⟩
  · exact ⟨h0, .inr ⟨g, cap, cur, rfl, hb, at_grown hh hg (hr g rfl), h1⟩⟩
theorem OwnB.empty (w : World) : OwnB w.heap.size (w.alloc (.cells #[] 5)) (.slice (some ⟨w.heap.size, 0, none⟩) 0 0) [] :=
  ⟨rfl, .inr ⟨w.heap.size, 0, #[], rfl, Nat.le_refl _, at_new w _, Nat.le_refl _, Nat.zero_le _, rfl, rfl⟩⟩
theorem OwnB.nil (base : Nat) (w : World) : OwnB base w (.slice none 0 0) [] := ⟨rfl, .inl ⟨rfl, rfl⟩⟩
theorem OwnB.le {base base' : Nat} {w : World} {v : Value} {l : List UInt8} (h : OwnB base w v l) (hb : base' ≤ base) : OwnB base' w v l := by
  obtain ⟨h0, h | ⟨g, cap, cur, rfl, hb', h1⟩⟩ := h
  · exact ⟨h0, .inl h⟩
  · exact ⟨h0, .inr ⟨g, cap, cur, rfl, Nat.le_trans hb hb', h1⟩⟩

theorem info_u8 : (Try.prog.info? 5).map (fun i => (i.zero, i.size, i.bytes)) = some (some (.int .u8 0), 1, 1) := by kernel_rfl
/-- append of bytes to a slice of the call's own -/
theorem append_bytes {w : World} {ops : Array Oper} {rest : List Oper} {o : Oper} {a : Act} {Q : Exit → Act → World → Prop} (hgd : o.guard = none) (s x : Operand)
    (ho : o.op = .call { callee := .builtin .append, args := #[s, x], argTypes := #[23, 23] })
    (base : Nat) (v : Value) (l : List UInt8) (hs : a.eval s = v) (hown : OwnB base w v l) (u : Value) (r : List UInt8) (hx : a.eval x = u) (hr : BytesAt w u r)
    (hlen : l.length + r.length ≤ 1000000) (hbase : base ≤ w.heap.size)
    (h : ∀ v' w', OwnB base w' v' (l ++ r) → w.grownBy w' v.ownBlock → (v'.ownBlock = v.ownBlock ∨ v'.ownBlock = some w.heap.size) → wpList Try.prog ops Q rest (a.put o.dst v') w') : wpList Try.prog ops Q (o :: rest) a w := by
  obtain ⟨i, hi, hz0, hz1, hz2⟩ := info_parts info_u8
  rcases hr with ⟨rfl, rfl⟩ | ⟨ad, c, rfl, _, _, hc⟩
  · refine wpList_append_own_none hgd s x 23 ho base 5 i 1 Try.underlying23 hi v l.length (l.map bv) hs hown hx ?_
    exact h v w (by simpa using hown) (.refl _ _) (.inl rfl)
  · refine wpList_append_own_at w hgd s x 23 ho base 5 i (.int .u8 0) 1 1 Try.underlying23 hi hz0 hz1 hz2 rfl (by omega) v l.length (l.map bv) hs hown ad r.length c (r.map bv) hx (by simp)
      (fun j y hj => by
        rw [List.getElem?_map] at hj
        by_cases hlt : j < r.length
        · rw [List.getElem?_eq_getElem hlt] at hj
          cases hj
          exact hc j hlt
        · rw [List.getElem?_eq_none (by omega)] at hj; cases hj)
      (fun y hy => by
        obtain ⟨c, _, rfl⟩ := List.mem_map.1 hy
        rfl)
      (by unfold maxLen; omega) (by omega) hbase ?_
    intro v' w' h1 h2 _ h3
    exact h v' w' (by unfold OwnB; rw [List.length_append, List.map_append]; exact h1) h2 h3

/-- bytes as a string -/
theorem conv_bytes {u : World} {v : Value} {l : List UInt8} (h : BytesAt u v l) : (convert 23 9 v).run Try.prog u = .ok (.string ⟨l.toArray⟩) u := by
  rcases h with ⟨rfl, rfl⟩ | ⟨a, cap, rfl, _, _, hc⟩
  · exact run_convert_bytes_nil u 23 5 Try.underlying23 Try.underlying5 0 0 9 Try.underlying9
  · exact run_convert_bytes_back u 23 9 5 a cap l Try.underlying23 Try.underlying5 Try.underlying9 hc
theorem BytesAt.drew {w : World} {v : Value} {l : List UInt8} (h : BytesAt w v l) : BytesAt w.drew v l := h
theorem BytesAt.alloc {w : World} {v : Value} {l : List UInt8} (h : BytesAt w v l) (o : Obj) : BytesAt (w.alloc o) v l := h.grown (World.grownBy_alloc w o none) (by simp)
theorem OwnB.alloc {base : Nat} {w : World} {v : Value} {l : List UInt8} (h : OwnB base w v l) (o : Obj) : OwnB base (w.alloc o) v l := h.grown (World.grownBy_alloc w o none) (by simp)
theorem own_block {w : World} {b base : Nat} (l : List UInt8) (h : w.heap[b]? = some (.cells (l.map bv).toArray 5)) (hl : l.length ≤ maxLen) (hb : base ≤ b) : OwnB base w (.slice (some ⟨b, 0, none⟩) l.length l.length) l :=
  ⟨by simp, .inr ⟨b, l.length, (l.map bv).toArray, rfl, hb, h, Nat.le_refl _, hl, by simp, by rw [Nat.mul_one]; exact List.take_of_length_le (by simp)⟩⟩
theorem gb_own {w w5 wc : World} {base : Nat} {v : Value} {l : List UInt8} (h : w.grownBy w5 none) (ho : OwnB base w5 v l) (hb : w.heap.size ≤ base) (hg : w5.grownBy wc v.ownBlock) : w.grownBy wc none :=
  gb_trans h hg (by
    cases hv : v.ownBlock with
    | none => exact .inl rfl
    | some g =>
      obtain ⟨p, c, rfl⟩ := ho.form
      cases p with
      | none => cases hv
      | some a => exact .inr (.inr ⟨g, rfl, by have := (ho.at a _ _ rfl).1; cases hv; exact Nat.le_trans hb this⟩))
theorem at_own {w5 wc : World} {base b : Nat} {v : Value} {l : List UInt8} {o : Obj} (h : w5.heap[b]? = some o) (ho : OwnB base w5 v l) (hb : b < base) (hg : w5.grownBy wc v.ownBlock) : wc.heap[b]? = some o :=
  at_grown h hg (by
    intro e
    obtain ⟨p, c, rfl⟩ := ho.form
    cases p with
    | none => cases e
    | some a => have h1 := (ho.at a _ _ rfl).1; cases e; exact absurd h1 (Nat.not_le.2 hb))
theorem BytesAt.form {w : World} {v : Value} {l : List UInt8} (h : BytesAt w v l) : ∃ p c, v = .slice p l.length c := by
  rcases h with ⟨rfl, rfl⟩ | ⟨a, cap, rfl, _, _, _⟩
  · exact ⟨none, 0, rfl⟩
  · exact ⟨some a, cap, rfl⟩
theorem BytesAt.chg {w w1 : World} {F : List Nat} {v : Value} {l : List UInt8} (h : BytesAt w v l) (hc : Chg F w w1) (hF : ∀ a n c, v = .slice (some a) n c → a.block ∉ F) : BytesAt w1 v l := by
  rcases h with h | ⟨a, cap, rfl, h1, h2, h3⟩
  · exact .inl h
  · exact .inr ⟨a, cap, rfl, h1, h2, fun i hi => hc.cell (h3 i hi) (by rw [add_block]; exact hF a _ _ rfl)⟩
end Go.Proofs.Ytjebmlmjbnaghaa
