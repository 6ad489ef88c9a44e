/-
  Append of bytes to a slice of the call's own, at a step of a region that leaves its order open. No condition. Nothing of the program's functions is named here.
-/
import Derived.Test.YtjebmlmjbnaghaaByt
import Derived.Deep.RegionHeld3
namespace Go.Proofs.Ytjebmlmjbnaghaa
set_option maxRecDepth 100000
open Go.RowKit

theorem run_append_bytes {w : World} {ty : TypeId} (base : Nat) (v : Value) (l : List UInt8) (hown : OwnB base w v l) (u : Value) (r : List UInt8) (hr : BytesAt w u r) (hlen : l.length + r.length ≤ 1000000) (hbase : base ≤ w.heap.size) :
    ∃ v' w', (Builtin.append_ #[23, 23] ty #[v, u]).run Try.prog w = .ok v' w' ∧ OwnB base w' v' (l ++ r) ∧ w.grownBy w' v.ownBlock ∧ (v'.ownBlock = v.ownBlock ∨ v'.ownBlock = some w.heap.size) := by
  obtain ⟨i, hi, hz0, hz1, hz2⟩ := info_parts info_u8
  rcases hr with ⟨rfl, rfl⟩ | ⟨ad, c, rfl, _, _, hc⟩
  · exact ⟨v, w, run_append_owned_none (P := Try.prog) (w := w) base 23 ty 5 i 1 Try.underlying23 hi v l.length (l.map bv) hown, by simpa using hown, .refl _ _, .inl rfl⟩
  · obtain ⟨v', w', h0, h1, h2, _, h3⟩ := run_append_own_at (P := Try.prog) w base 23 ty 5 i (.int .u8 0) 1 1 Try.underlying23 hi hz0 hz1 hz2 rfl (by omega) v l.length (l.map bv) hown ad r.length c (r.map bv) (by simp)
      (fun j y hj => by
        rw [List.getElem?_map] at hj
        by_cases hlt : j < r.length
        · rw [List.getElem?_eq_getElem hlt] at hj
          cases hj
          exact hc j hlt
        · rw [List.getElem?_eq_none (by omega)] at hj; cases hj)
      (fun y hy => by
        obtain ⟨c, _, rfl⟩ := List.mem_map.1 hy
        rfl)
      (by unfold maxLen; omega) (by omega) hbase
    exact ⟨v', w', h0, by unfold OwnB; rw [List.length_append, List.map_append]; exact h1, h2, h3⟩

theorem wp_append_bytes {w : World} {o : Oper} {a : Act} {K : Act → World → Prop} {Q : Exit → Act → World → Prop} (s x : Operand)
    (ho : o.op = .call { callee := .builtin .append, args := #[s, x], argTypes := #[23, 23] })
    (base : Nat) (v : Value) (l : List UInt8) (hs : a.eval s = v) (hown : OwnB base w v l) (u : Value) (r : List UInt8) (hx : a.eval x = u) (hr : BytesAt w u r)
    (hlen : l.length + r.length ≤ 1000000) (hbase : base ≤ w.heap.size)
    (h : ∀ v' w', OwnB base w' v' (l ++ r) → w.grownBy w' v.ownBlock → (v'.ownBlock = v.ownBlock ∨ v'.ownBlock = some w.heap.size) → K (a.put o.dst v') w') : o.wp Try.prog a w K Q := by
  obtain ⟨v', w', hrun, h1, h2, h3⟩ := run_append_bytes (ty := o.type) base v l hown u r hr hlen hbase
  unfold Oper.wp execOp
  simp only [ho, resolve, invoke, builtin, Sem.run_bind, Sem.run_pure, Result.andThen_ok, List.map_toArray, List.map_cons, List.map_nil, hs, hx, hrun]
  exact h v' w' h1 h2 h3

theorem step_append_bytes {w : World} {ops : Array Oper} {o : Oper} {a : Act} {K : Act → World → Prop} {Q : Exit → Act → World → Prop} {E : Prop} (hw : Region.wanted o (yielded ops a.tmps) = true) (s x : Operand)
    (ho : o.op = .call { callee := .builtin .append, args := #[s, x], argTypes := #[23, 23] })
    (base : Nat) (v : Value) (l : List UInt8) (hs : a.eval s = v) (hown : OwnB base w v l) (u : Value) (r : List UInt8) (hx : a.eval x = u) (hr : BytesAt w u r)
    (hlen : l.length + r.length ≤ 1000000) (hbase : base ≤ w.heap.size)
    (h : ∀ v' w', OwnB base w' v' (l ++ r) → w.grownBy w' v.ownBlock → (v'.ownBlock = v.ownBlock ∨ v'.ownBlock = some w.heap.size) → K (a.put o.dst v') w') :
    if Region.wanted o (yielded ops a.tmps) = true then Oper.wp Try.prog o a w K Q else E := by
  rw [if_pos hw]
  exact wp_append_bytes s x ho base v l hs hown u r hx hr hlen hbase h
end Go.Proofs.Ytjebmlmjbnaghaa
