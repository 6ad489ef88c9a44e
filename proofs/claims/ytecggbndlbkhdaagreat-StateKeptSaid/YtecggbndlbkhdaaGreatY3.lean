/-
  Contracts for the program's hash with a key: bytes are written, the sum is told, a hash is made, the sum of bytes at once. Each does to the hash's block what the plain functions say, and changes nothing else that was there. The conditions: the block is a hash under way, as 'New' makes it; the bytes lie elsewhere.
  Contracts for the program's hash with a key: the sum of all that was written is told, and the hash goes on as it was; a hash is made; the sum of bytes at once. The conditions: the block is a hash under way, as 'New' makes it; the bytes lie elsewhere.
  Contracts for the program's hash with a key: a hash is made under a key; the sum of bytes under a key at once: it is the sum that the plain functions say. No condition but that the bytes read as bytes.
  Slices of bytes that the call itself makes and appends to: what they hold, and that they read as bytes; bytes as a string. No condition. Nothing of the program's functions is named here.
  Slices of numbers (int) that the call itself makes and appends to: what they hold. No condition. Nothing of the program's functions is named here.
  Slices of numbers (int): what a slice of the call's own reads as; append of a slice; literals. No condition. Nothing of the program's functions is named here.
  What a walk keeps beside its calls: slices that read as numbers. And: slices of numbers (int64) that came in, with what each number may be. No condition. Nothing of the program's functions is named here.
  Contract: the document's comparison of two slices of numbers, one by one. The condition: slices that read as numbers.
-/
import Derived.Test.YtecggbndlbkhdaaGreatY2
import Derived.Test.YtecggbndlbkhdaaGreatY1
import Derived.Test.YtecggbndlbkhdaaGreatY10
import Derived.Laws.AppendOwnNone
import Derived.Maps.AppendAt
import Derived.Test.YtecggbndlbkhdaaGreatY20
import Derived.Deep.RegionHeld3
import Derived.LoopTactic
import Derived.BigQuiet
import Derived.Deep.QuietTactic
section
namespace Go.Proofs.YtecggbndlbkhdaaGreat
set_option maxRecDepth 100000
open Go.RowKit

end Go.Proofs.YtecggbndlbkhdaaGreat
end
section
namespace Go.Proofs.YtecggbndlbkhdaaGreat
set_option maxRecDepth 100000
open Go.RowKit

theorem x255 (x : BitVec 64) : bits .xor .u64 (q x) 255 = q (x ^^^ 255#64) := q_xor_num x _
attribute [go_sem ↓] x255
end Go.Proofs.YtecggbndlbkhdaaGreat
end
section
namespace Go.Proofs.YtecggbndlbkhdaaGreat
set_option maxRecDepth 100000
open Go.RowKit

/-- a hash under a key to which nothing was written -/
def St.new (k0 k1 : BitVec 64) : St := ⟨keyed k0 k1, 0, 0⟩
/-- the sum of bytes under a key -/
def sumOf (k0 k1 : BitVec 64) (l : List UInt8) : BitVec 64 := (l.foldl St.add (St.new k0 k1)).sum

theorem size_alloc (w : World) (o : Obj) : (w.alloc o).heap.size = w.heap.size + 1 := by show (w.heap.push o).size = _; simp
theorem at_new2 (w : World) (o o' : Obj) : ((w.alloc o).alloc o').heap[w.heap.size + 1]? = some o' := by
  have := at_new (w.alloc o) o'
  rwa [show (w.alloc o).heap.size = w.heap.size + 1 from by show (w.heap.push o).size = _; simp] at this

end Go.Proofs.YtecggbndlbkhdaaGreat
end
section
namespace Go.Proofs.YtecggbndlbkhdaaGreat
set_option maxRecDepth 100000
open Go.RowKit

end Go.Proofs.YtecggbndlbkhdaaGreat
end
section
set_option linter.unusedSimpArgs false
namespace Go.Proofs.YtecggbndlbkhdaaGreat
set_option maxRecDepth 100000
open Go.RowKit

def OwnN (base : Nat) (w : World) (v : Value) (l : List Int) : Prop := w.ownsRow base 3 1 v l.length (l.map iv)
theorem OwnN.form {base : Nat} {w : World} {v : Value} {l : List Int} (h : OwnN base w v l) : ∃ p c, v = .slice p l.length c := by
  obtain ⟨_, h | ⟨g, cap, cur, rfl, _⟩⟩ := h
  · exact ⟨none, 0, by rw [h.1, h.2]⟩
  · exact ⟨_, _, rfl⟩
theorem OwnN.at {base : Nat} {w : World} {v : Value} {l : List Int} (h : OwnN base w v l) : ∀ g, g ∈ ownL v → base ≤ g ∧ g < w.heap.size := by
  intro g hg
  obtain ⟨_, h | ⟨g', cap, cur, rfl, hb, hh, _⟩⟩ := h
  · rw [h.1] at hg; simp [ownL, Value.ownBlock] at hg
  · simp [ownL, Value.ownBlock] at hg
    subst hg
    exact ⟨hb, at_lt hh⟩
theorem OwnN.cells {base : Nat} {w : World} {v : Value} {l : List Int} (h : OwnN base w v l) {i : Nat} (hi : i < l.length) :
    ∃ g c, v = .slice (some ⟨g, 0, none⟩) l.length c ∧ l.length ≤ c ∧ ∀ j, (h : j < l.length) → w.cell? ⟨g, j, none⟩ = some (.int .i64 l[j]) := by
  obtain ⟨_, h | ⟨g, cap, cur, rfl, _, hh, h1, h2, h3, h4⟩⟩ := h
  · exact absurd hi (by rw [h.2]; simp)
  · refine ⟨g, cap, rfl, h1, fun j hj => ?_⟩
    rw [at_cell hh j]
    have hc : cur.toList[j]? = (l.map iv)[j]? := by
      rw [← h4, Nat.mul_one, List.getElem?_take]; simp [hj]
    rw [← Array.getElem?_toList, hc]
    simp [List.getElem?_map, List.getElem?_eq_getElem hj, iv]
theorem OwnN.chg {base : Nat} {w w1 : World} {F : List Nat} {v : Value} {l : List Int} (h : OwnN base w v l) (hg : Chg F w w1) (hr : ∀ g, g ∈ ownL v → g ∉ F) : OwnN base w1 v l := by
  obtain ⟨h0, h | ⟨g, cap, cur, rfl, hb, hh, h1⟩⟩ := h
  · exact ⟨h0, .inl h⟩
  · exact ⟨h0, .inr ⟨g, cap, cur, rfl, hb, hg.at hh (hr g (by simp [ownL, Value.ownBlock])), h1⟩⟩
theorem OwnN.nil (base : Nat) (w : World) : OwnN base w (.slice none 0 0) [] := ⟨rfl, .inl ⟨rfl, rfl⟩⟩
theorem OwnN.le {base base' : Nat} {w : World} {v : Value} {l : List Int} (h : OwnN base w v l) (hb : base' ≤ base) : OwnN base' w v l := by
  obtain ⟨h0, h | ⟨g, cap, cur, rfl, hb', h1⟩⟩ := h
  · exact ⟨h0, .inl h⟩
  · exact ⟨h0, .inr ⟨g, cap, cur, rfl, Nat.le_trans hb hb', h1⟩⟩
theorem info_num : (Tryz.prog.info? 3).map (fun i => (i.zero, i.size, i.bytes)) = some (some (.int .i64 0), 1, 8) := by kernel_rfl
theorem OwnN.grown {base : Nat} {w w1 : World} {v : Value} {l : List Int} (h : OwnN base w v l) (hg : w.grownBy w1 none) : OwnN base w1 v l := h.chg (chg_grown hg []) (by simp)
/-- append of one number to a slice of the call's own -/
theorem append_num {w : World} {ops : Array Oper} {rest : List Oper} {o : Oper} {a : Act} {Q : Exit → Act → World → Prop} (hgd : o.guard = none) (s x : Operand)
    (ho : o.op = .call { callee := .builtin .append, args := #[s, x], argTypes := #[22, 22] })
    (base : Nat) (v : Value) (l : List Int) (hs : a.eval s = v) (hown : OwnN base w v l) (g : Nat) (n : Int) (hx : a.eval x = .slice (some ⟨g, 0, none⟩) 1 1) (hr : w.cell? ⟨g, 0, none⟩ = some (.int .i64 n))
    (hlen : l.length + 1 ≤ 1000000) (hbase : base ≤ w.heap.size)
    (h : ∀ v' w', OwnN base w' v' (l ++ [n]) → w.grownBy w' v.ownBlock → (v'.ownBlock = v.ownBlock ∨ v'.ownBlock = some w.heap.size) → wpList Tryz.prog ops Q rest (a.put o.dst v') w') : wpList Tryz.prog ops Q (o :: rest) a w := by
  obtain ⟨i, hi, hz0, hz1, hz2⟩ := info_parts info_num
  refine wpList_append_own_at w hgd s x 22 ho base 3 i (.int .i64 0) 1 8 Tryz.underlying22 hi hz0 hz1 hz2 rfl (by omega) v l.length (l.map iv) hs hown ⟨g, 0, none⟩ 1 1 [iv n] hx (by simp)
    (fun j y hj => by
      cases j with
      | zero => cases hj; exact hr
      | succ j => cases hj)
    (fun y hy => by simp at hy; subst hy; rfl)
    (by unfold maxLen; omega) (by omega) hbase ?_
  intro v' w' h1 h2 _ h3
  refine h v' w' ?_ h2 h3
  unfold OwnN
  rw [List.length_append, List.map_append]
  exact h1
end Go.Proofs.YtecggbndlbkhdaaGreat
end
section
set_option linter.unusedSimpArgs false
set_option linter.unusedVariables false
namespace Go.Proofs.YtecggbndlbkhdaaGreat
set_option maxRecDepth 100000
open Go.RowKit

theorem OwnN.ints {base : Nat} {w : World} {v : Value} {l : List Int} (h : OwnN base w v l) : IntsAt w v l := by
  obtain ⟨_, h | ⟨g, cap, cur, rfl, _, hh, h1, h2, h3, h4⟩⟩ := h
  · exact .inl ⟨h.1, by simpa using h.2⟩
  · refine .inr ⟨_, cap, rfl, h1, h2, fun i hi => ?_⟩
    rw [iadd_at, Nat.zero_add, at_cell hh i]
    have hc : cur.toList[i]? = (l.map iv)[i]? := by
      rw [← h4, Nat.mul_one, List.getElem?_take]; simp [hi]
    rw [← Array.getElem?_toList, hc]
    simp [List.getElem?_map, List.getElem?_eq_getElem hi, iv]
theorem OwnN.drew {base : Nat} {w : World} {v : Value} {l : List Int} (h : OwnN base w v l) : OwnN base w.drew v l := h
theorem OwnN.empty (w : World) : OwnN w.heap.size (w.alloc (.cells #[] 3)) (.slice (some ⟨w.heap.size, 0, none⟩) 0 0) [] :=
  ⟨rfl, .inr ⟨w.heap.size, 0, #[], rfl, Nat.le_refl _, at_new w _, Nat.le_refl _, Nat.zero_le _, rfl, rfl⟩⟩
theorem gb_ownN {w w5 wc : World} {base : Nat} {v : Value} {l : List Int} (h : w.grownBy w5 none) (ho : OwnN base w5 v l) (hb : w.heap.size ≤ base) (hg : w5.grownBy wc v.ownBlock) : w.grownBy wc none :=
  gb_trans h hg (by
    cases hv : v.ownBlock with
    | none => exact .inl rfl
    | some g => exact .inr (.inr ⟨g, rfl, Nat.le_trans hb (ho.at g (by simp [ownL, hv])).1⟩))
/-- append of numbers to a slice of the call's own -/
theorem run_append_nums {w : World} {ty : TypeId} (base : Nat) (v : Value) (l : List Int) (hown : OwnN base w v l) (u : Value) (r : List Int) (hr : IntsAt w u r) (hlen : l.length + r.length ≤ 1000000) (hbase : base ≤ w.heap.size) :
    ∃ v' w', (Builtin.append_ #[22, 22] ty #[v, u]).run Tryz.prog w = .ok v' w' ∧ OwnN base w' v' (l ++ r) ∧ w.grownBy w' v.ownBlock ∧ (v'.ownBlock = v.ownBlock ∨ v'.ownBlock = some w.heap.size) := by
  obtain ⟨i, hi, hz0, hz1, hz2⟩ := info_parts info_num
  rcases hr with ⟨rfl, rfl⟩ | ⟨ad, c, rfl, _, _, hc⟩
  · exact ⟨v, w, run_append_owned_none (P := Tryz.prog) (w := w) base 22 ty 3 i 1 Tryz.underlying22 hi v l.length (l.map iv) hown, by simpa using hown, .refl _ _, .inl rfl⟩
  · obtain ⟨v', w', h0, h1, h2, _, h3⟩ := run_append_own_at (P := Tryz.prog) w base 22 ty 3 i (.int .i64 0) 1 8 Tryz.underlying22 hi hz0 hz1 hz2 rfl (by omega) v l.length (l.map iv) hown ad r.length c (r.map iv) (by simp)
      (fun j y hj => by
        rw [List.getElem?_map] at hj
        by_cases hlt : j < r.length
        · rw [List.getElem?_eq_getElem hlt] at hj
          cases hj
          exact hc j hlt
        · rw [List.getElem?_eq_none (by omega)] at hj; cases hj)
      (fun y hy => by
        obtain ⟨c, _, rfl⟩ := List.mem_map.1 hy
        rfl)
      (by unfold maxLen; omega) (by omega) hbase
    exact ⟨v', w', h0, by unfold OwnN; rw [List.length_append, List.map_append]; exact h1, h2, h3⟩
theorem wp_append_nums {w : World} {o : Oper} {a : Act} {K : Act → World → Prop} {Q : Exit → Act → World → Prop} (s x : Operand)
    (ho : o.op = .call { callee := .builtin .append, args := #[s, x], argTypes := #[22, 22] })
    (base : Nat) (v : Value) (l : List Int) (hs : a.eval s = v) (hown : OwnN base w v l) (u : Value) (r : List Int) (hx : a.eval x = u) (hr : IntsAt w u r)
    (hlen : l.length + r.length ≤ 1000000) (hbase : base ≤ w.heap.size)
    (h : ∀ v' w', OwnN base w' v' (l ++ r) → w.grownBy w' v.ownBlock → (v'.ownBlock = v.ownBlock ∨ v'.ownBlock = some w.heap.size) → K (a.put o.dst v') w') : o.wp Tryz.prog a w K Q := by
  obtain ⟨v', w', hrun, h1, h2, h3⟩ := run_append_nums (ty := o.type) base v l hown u r hr hlen hbase
  unfold Oper.wp execOp
  simp only [ho, resolve, invoke, builtin, Sem.run_bind, Sem.run_pure, Result.andThen_ok, List.map_toArray, List.map_cons, List.map_nil, hs, hx, hrun]
  exact h v' w' h1 h2 h3
theorem append_nums {w : World} {ops : Array Oper} {rest : List Oper} {o : Oper} {a : Act} {Q : Exit → Act → World → Prop} (hgd : o.guard = none) (s x : Operand)
    (ho : o.op = .call { callee := .builtin .append, args := #[s, x], argTypes := #[22, 22] })
    (base : Nat) (v : Value) (l : List Int) (hs : a.eval s = v) (hown : OwnN base w v l) (u : Value) (r : List Int) (hx : a.eval x = u) (hr : IntsAt w u r)
    (hlen : l.length + r.length ≤ 1000000) (hbase : base ≤ w.heap.size)
    (h : ∀ v' w', OwnN base w' v' (l ++ r) → w.grownBy w' v.ownBlock → (v'.ownBlock = v.ownBlock ∨ v'.ownBlock = some w.heap.size) → wpList Tryz.prog ops Q rest (a.put o.dst v') w') : wpList Tryz.prog ops Q (o :: rest) a w := by
  have hw : Region.wanted o (yielded ops a.tmps) = true := by unfold Region.wanted; rw [hgd]
  refine wpList_step fun K hK => ?_
  rw [if_pos hw]
  exact wp_append_nums s x ho base v l hs hown u r hx hr hlen hbase fun v' w' h1 h2 h3 => hK _ _ (h v' w' h1 h2 h3)

/-- one number of the slice of the call's own is another now -/
theorem OwnN.set {base : Nat} {w : World} {g n c j : Nat} {l : List Int} (h : OwnN base w (.slice (some ⟨g, 0, none⟩) n c) l) (x : Int) : OwnN base (w.setCell ⟨g, j, none⟩ (.int .i64 x)) (.slice (some ⟨g, 0, none⟩) n c) (l.set j x) := by
  obtain ⟨h0, h | ⟨g', cap, cur, e, hb, hh, h1, h2, h3, h4⟩⟩ := h
  · cases h.1
  · cases e
    refine ⟨by simp, .inr ⟨g, c, cur.setIfInBounds j (.int .i64 x), by simp, hb, at_set hh j _, by simpa using h1, h2, by simpa using h3, ?_⟩⟩
    simp only [List.length_set, Nat.mul_one] at h4 ⊢
    rw [Array.toList_setIfInBounds, List.map_set, ← h4, List.take_set]
    rfl
theorem OwnN.free {base : Nat} {w : World} {g n c j : Nat} {l : List Int} (h : OwnN base w (.slice (some ⟨g, 0, none⟩) n c) l) : w.frozen? ⟨g, j, none⟩ = false := by
  obtain ⟨h0, h | ⟨g', cap, cur, e, hb, hh, _⟩⟩ := h
  · cases h.1
  · cases e; exact at_free hh j
end Go.Proofs.YtecggbndlbkhdaaGreat
end
section
set_option linter.unusedSimpArgs false
set_option linter.unusedVariables false
namespace Go.Proofs.YtecggbndlbkhdaaGreat
set_option maxRecDepth 100000
open Go.ChangeShapes Go.WideShapes Go.ChangeAt Go.RowKit

structure Kl (w : World) (L : List (Value × List Int)) (W : World) : Prop where
  gr : w.grownBy W none
  rd : ∀ p ∈ L, IntsAt W p.1 p.2
section
variable {w W W' : World} {L L' : List (Value × List Int)} {v u : Value} {l s : List Int} {p p1 p2 p3 p4 : Value × List Int}
theorem Kl.i0 (h : Kl w ((v, l) :: L) W) : IntsAt W v l := h.rd _ (List.mem_cons_self ..)
theorem Kl.tl (h : Kl w (p :: L) W) : Kl w L W := ⟨h.gr, fun q hq => h.rd q (List.mem_cons_of_mem _ hq)⟩
theorem Kl.i1 (h : Kl w (p :: (v, l) :: L) W) : IntsAt W v l := h.tl.i0
theorem Kl.i2 (h : Kl w (p :: p1 :: (v, l) :: L) W) : IntsAt W v l := h.tl.i1
theorem Kl.i3 (h : Kl w (p :: p1 :: p2 :: (v, l) :: L) W) : IntsAt W v l := h.tl.i2
theorem Kl.i4 (h : Kl w (p :: p1 :: p2 :: p3 :: (v, l) :: L) W) : IntsAt W v l := h.tl.i3
theorem Kl.grown (h : Kl w L W) (hg : W.grownBy W' none) : Kl w L W' := ⟨gb_trans h.gr hg (.inl rfl), fun q hq => (h.rd q hq).grown hg⟩
theorem Kl.drew (h : Kl w L W) : Kl w L W.drew := ⟨gb_drew h.gr, h.rd⟩
theorem Kl.drewN (h : Kl w L W) (n : Nat) : Kl w L (W.drewN n) := h.grown ⟨rfl, rfl, rfl, Nat.le_refl _, fun _ _ _ => rfl⟩
theorem Kl.alloc (h : Kl w L W) (o : Obj) : Kl w L (W.alloc o) := h.grown (World.grownBy_alloc W o none)
theorem Kl.add (h : Kl w L W) (hi : IntsAt W v l) : Kl w ((v, l) :: L) W := ⟨h.gr, fun q hq => by
  rcases List.mem_cons.1 hq with rfl | hq
  · exact hi
  · exact h.rd q hq⟩
theorem Kl.start (w : World) : Kl w [] w := ⟨.refl w none, fun q hq => by cases hq⟩
theorem Kl.size (h : Kl w L W) : w.heap.size ≤ W.heap.size := h.gr.size
end
/-- what an int64 may be -/
def Fits (l : List Int) : Prop := ∀ n ∈ l, -9223372036854775808 ≤ n ∧ n ≤ 9223372036854775807
theorem Fits.perm {l l' : List Int} (h : Fits l) (hp : l'.Perm l) : Fits l' := fun n hn => h n (hp.subset hn)
theorem Fits.append {l l' : List Int} (h : Fits l) (h' : Fits l') : Fits (l ++ l') := fun n hn => (List.mem_append.1 hn).elim (h n) (h' n)
section
variable {H : Type} {enc : TypeId × Value → H} {w : World} {base : Nat} {d : DataW H} {ps : List MemPlace} {v : Value} {t e : TypeId}
end
end Go.Proofs.YtecggbndlbkhdaaGreat
end
section
set_option linter.unusedSimpArgs false
set_option linter.unusedVariables false
namespace Go.Proofs.YtecggbndlbkhdaaGreat
set_option maxRecDepth 100000
open Go.RowKit

end Go.Proofs.YtecggbndlbkhdaaGreat
end
