/-
  Slices of samples: what one reads as; slices of samples that the call itself makes and appends to; parts of them. No condition. Nothing of the program's functions is named here.
-/
import Derived.Test.YtogmibmkkmbgoaaSmC
import Derived.Test.YtogmibmkkmbgoaaRows
import Derived.Test.YtogmibmkkmbgoaaChg
import Derived.Laws.AppendOwnNone
import Derived.Maps.AppendAt
set_option linter.unusedSimpArgs false
set_option linter.unusedVariables false
namespace Go.Proofs.Ytogmibmkkmbgoaa
set_option maxRecDepth 100000
open Go.RowKit

def flatS (l : List Sm) : List Value := l.flatMap cellsS
theorem flatS_len (l : List Sm) : (flatS l).length = l.length * 4 := by
  induction l with
  | nil => rfl
  | cons p r ih =>
    have e : flatS (p :: r) = cellsS p ++ flatS r := rfl
    rw [e, List.length_append, ih]
    simp [cellsS]; omega
theorem flatS_append (a b : List Sm) : flatS (a ++ b) = flatS a ++ flatS b := List.flatMap_append
theorem flatS_at : ∀ (l : List Sm) (i : Nat) (h : i < l.length), (flatS l)[i * 4]? = some (.int .i64 l[i].who) ∧ (flatS l)[i * 4 + 1]? = some (.int .i64 l[i].met) ∧ (flatS l)[i * 4 + 2]? = some (.int .i64 l[i].ep) ∧ (flatS l)[i * 4 + 3]? = some (.int .i64 l[i].val)
  | [], i, h => by simp at h
  | p :: r, 0, h => ⟨rfl, rfl, rfl, rfl⟩
  | p :: r, i + 1, h => by
    have e : flatS (p :: r) = cellsS p ++ flatS r := rfl
    have hl : (cellsS p).length = 4 := rfl
    obtain ⟨k0, k1, k2, k3⟩ := flatS_at r i (by simpa using h)
    rw [e]
    simp only [List.getElem_cons_succ]
    refine ⟨?_, ?_, ?_, ?_⟩
    · rw [List.getElem?_append_right (by omega), hl, show (i + 1) * 4 - 4 = i * 4 by omega]; exact k0
    · rw [List.getElem?_append_right (by omega), hl, show (i + 1) * 4 + 1 - 4 = i * 4 + 1 by omega]; exact k1
    · rw [List.getElem?_append_right (by omega), hl, show (i + 1) * 4 + 2 - 4 = i * 4 + 2 by omega]; exact k2
    · rw [List.getElem?_append_right (by omega), hl, show (i + 1) * 4 + 3 - 4 = i * 4 + 3 by omega]; exact k3
/-- a slice that reads as samples -/
def SAt (W : World) (v : Value) (l : List Sm) : Prop :=
  (v = .slice none 0 0 ∧ l = []) ∨ ∃ b o cap, v = .slice (some ⟨b, o, none⟩) l.length cap ∧ l.length ≤ cap ∧ cap ≤ maxLen ∧ ∀ j u, (flatS l)[j]? = some u → W.cell? ⟨b, o + j, none⟩ = some u
theorem SAt.nil (W : World) : SAt W (.slice none 0 0) [] := .inl ⟨rfl, rfl⟩
theorem SAt.form {W : World} {v : Value} {l : List Sm} (h : SAt W v l) : ∃ p c, v = .slice p l.length c := by
  rcases h with ⟨rfl, rfl⟩ | ⟨b, o, cap, rfl, _⟩
  · exact ⟨none, 0, rfl⟩
  · exact ⟨_, cap, rfl⟩
theorem SAt.len {W : World} {v : Value} {l : List Sm} (h : SAt W v l) : l.length ≤ maxLen := by
  rcases h with ⟨_, rfl⟩ | ⟨b, o, cap, _, h1, h2, _⟩
  · exact Nat.zero_le _
  · exact Nat.le_trans h1 h2
/-- the block that it reads -/
theorem SAt.cells {W : World} {p : Option Addr} {n c : Nat} {l : List Sm} (h : SAt W (.slice p n c) l) {i : Nat} (hi : i < l.length) :
    ∃ b o, p = some ⟨b, o, none⟩ ∧ n = l.length ∧ n ≤ c ∧ W.cell? ⟨b, o + i * 4, none⟩ = some (.int .i64 l[i].who) ∧ W.cell? ⟨b, o + i * 4 + 1, none⟩ = some (.int .i64 l[i].met) ∧ W.cell? ⟨b, o + i * 4 + 2, none⟩ = some (.int .i64 l[i].ep) ∧ W.cell? ⟨b, o + i * 4 + 3, none⟩ = some (.int .i64 l[i].val) := by
  rcases h with ⟨e, rfl⟩ | ⟨b, o, cap, e, h1, h2, h3⟩
  · simp at hi
  · cases e
    obtain ⟨k0, k1, k2, k3⟩ := flatS_at l i hi
    exact ⟨b, o, rfl, rfl, h1, h3 _ _ k0, h3 _ _ k1, h3 _ _ k2, h3 _ _ k3⟩
theorem SAt.chg {W W' : World} {v : Value} {l : List Sm} {F : List Nat} (h : SAt W v l) (hc : Chg F W W') (hF : ∀ g, v.ownBlock = some g → g ∉ F) : SAt W' v l := by
  rcases h with h | ⟨b, o, cap, rfl, h1, h2, h3⟩
  · exact .inl h
  · exact .inr ⟨b, o, cap, rfl, h1, h2, fun j u hj => hc.cell (h3 j u hj) (hF b rfl)⟩
theorem SAt.grown {W W' : World} {v : Value} {l : List Sm} (h : SAt W v l) (hg : W.grownBy W' none) : SAt W' v l := h.chg (chg_grown hg []) (by simp)
theorem SAt.drew {W : World} {v : Value} {l : List Sm} (h : SAt W v l) : SAt W.drew v l := h
theorem SAt.alloc {W : World} {v : Value} {l : List Sm} (h : SAt W v l) (o : Obj) : SAt (W.alloc o) v l := h.grown (World.grownBy_alloc W o none)
/-- the first k; all from k on -/
theorem SAt.take {W : World} {b o n c k : Nat} {l : List Sm} (h : SAt W (.slice (some ⟨b, o, none⟩) n c) l) (hk : k ≤ n) : SAt W (.slice (some ⟨b, o, none⟩) k c) (l.take k) := by
  rcases h with ⟨h, _⟩ | ⟨b', o', cap, e, h1, h2, h3⟩
  · cases h
  · cases e
    have hl : (l.take k).length = k := by rw [List.length_take]; omega
    refine .inr ⟨b, o, c, by rw [hl], by omega, h2, fun j u hj => h3 j u ?_⟩
    have e : l = l.take k ++ l.drop k := (List.take_append_drop k l).symm
    rw [e, flatS_append, List.getElem?_append_left ((List.getElem?_eq_some_iff.1 hj).1)]
    exact hj
theorem SAt.drop {W : World} {b o n c k : Nat} {l : List Sm} (h : SAt W (.slice (some ⟨b, o, none⟩) n c) l) (hk : k ≤ n) : SAt W (.slice (some ⟨b, o + k * 4, none⟩) (n - k) (c - k)) (l.drop k) := by
  rcases h with ⟨h, _⟩ | ⟨b', o', cap, e, h1, h2, h3⟩
  · cases h
  · cases e
    have hl : (l.drop k).length = l.length - k := by rw [List.length_drop]
    refine .inr ⟨b, o + k * 4, c - k, by rw [hl], by omega, by omega, fun j u hj => ?_⟩
    have := h3 (k * 4 + j) u (by
      have e : l = l.take k ++ l.drop k := (List.take_append_drop k l).symm
      have hk4 : (flatS (l.take k)).length = k * 4 := by rw [flatS_len, List.length_take]; congr 1; omega
      rw [e, flatS_append, List.getElem?_append_right (by omega), hk4, Nat.add_sub_cancel_left]
      exact hj)
    rw [Nat.add_assoc]
    exact this
/-- a slice of samples of the call's own -/
def OwnZ (base : Nat) (w : World) (v : Value) (l : List Sm) : Prop := w.ownsRow base 40 4 v l.length (flatS l)
theorem OwnZ.nil (base : Nat) (w : World) : OwnZ base w (.slice none 0 0) [] := ⟨rfl, .inl ⟨rfl, rfl⟩⟩
theorem OwnZ.empty (w : World) : OwnZ w.heap.size (w.alloc (.cells #[] 40)) (.slice (some ⟨w.heap.size, 0, none⟩) 0 0) [] :=
  ⟨rfl, .inr ⟨w.heap.size, 0, #[], rfl, Nat.le_refl _, at_new w _, Nat.le_refl _, Nat.zero_le _, rfl, rfl⟩⟩
theorem OwnZ.form {base : Nat} {w : World} {v : Value} {l : List Sm} (h : OwnZ base w v l) : ∃ p c, v = .slice p l.length c := by
  obtain ⟨_, h | ⟨g, cap, cur, rfl, _⟩⟩ := h
  · exact ⟨none, 0, by rw [h.1, h.2]⟩
  · exact ⟨_, _, rfl⟩
theorem OwnZ.at {base : Nat} {w : World} {v : Value} {l : List Sm} (h : OwnZ base w v l) : ∀ g, v.ownBlock = some g → base ≤ g ∧ ∃ cs : Array Value, w.heap[g]? = some (.cells cs 40) := by
  intro g hg
  obtain ⟨_, h | ⟨g', cap, cur, rfl, hb, hh, _⟩⟩ := h
  · rw [h.1] at hg; simp [Value.ownBlock] at hg
  · simp [Value.ownBlock] at hg
    subst hg
    exact ⟨hb, cur, hh⟩
theorem OwnZ.lt {base : Nat} {w : World} {v : Value} {l : List Sm} (h : OwnZ base w v l) : ∀ g, v.ownBlock = some g → base ≤ g ∧ g < w.heap.size := fun g hg => by
  obtain ⟨h1, cs, h2⟩ := h.at g hg
  exact ⟨h1, at_lt h2⟩
theorem OwnZ.le {base base' : Nat} {w : World} {v : Value} {l : List Sm} (h : OwnZ base w v l) (hb : base' ≤ base) : OwnZ base' w v l := by
  obtain ⟨h0, h | ⟨g, cap, cur, rfl, hb', h1⟩⟩ := h
  · exact ⟨h0, .inl h⟩
  · exact ⟨h0, .inr ⟨g, cap, cur, rfl, Nat.le_trans hb hb', h1⟩⟩
theorem OwnZ.chg {base : Nat} {w w1 : World} {F : List Nat} {v : Value} {l : List Sm} (h : OwnZ base w v l) (hc : Chg F w w1) (hF : ∀ g, v.ownBlock = some g → g ∉ F) : OwnZ base w1 v l := by
  obtain ⟨h0, h | ⟨g, cap, cur, rfl, hb, hh, h1⟩⟩ := h
  · exact ⟨h0, .inl h⟩
  · exact ⟨h0, .inr ⟨g, cap, cur, rfl, hb, hc.at hh (hF g rfl), h1⟩⟩
theorem OwnZ.grown {base : Nat} {w w1 : World} {v : Value} {l : List Sm} (h : OwnZ base w v l) (hg : w.grownBy w1 none) : OwnZ base w1 v l := h.chg (chg_grown hg []) (by simp)
theorem OwnZ.drew {base : Nat} {w : World} {v : Value} {l : List Sm} (h : OwnZ base w v l) : OwnZ base w.drew v l := h
theorem OwnZ.reads {base : Nat} {w : World} {v : Value} {l : List Sm} (h : OwnZ base w v l) : SAt w v l := by
  obtain ⟨_, h | ⟨g, cap, cur, rfl, _, hh, h1, h2, h3, h4⟩⟩ := h
  · exact .inl ⟨h.1, List.eq_nil_of_length_eq_zero h.2⟩
  · refine .inr ⟨g, 0, cap, rfl, h1, h2, fun j u hj => ?_⟩
    have hlt : j < l.length * 4 := by rw [← flatS_len]; exact (List.getElem?_eq_some_iff.1 hj).1
    rw [Nat.zero_add, at_cell hh j, ← Array.getElem?_toList, ← hj, ← h4, List.getElem?_take, if_pos hlt]
/-- what was made meanwhile keeps what was there -/
theorem gb_ownZ {w w5 wc : World} {base : Nat} {v : Value} {l : List Sm} (h : w.grownBy w5 none) (ho : OwnZ base w5 v l) (hb : w.heap.size ≤ base) (hg : w5.grownBy wc v.ownBlock) : w.grownBy wc none :=
  gb_trans h hg (by
    cases hv : v.ownBlock with
    | none => exact .inl rfl
    | some g => exact .inr (.inr ⟨g, rfl, Nat.le_trans hb (ho.at g hv).1⟩))
theorem infoS : (Try.prog.info? 40).map (fun i => (i.zero, i.size, i.bytes)) = some (some (.agg #[.int .i64 0, .int .i64 0, .int .i64 0, .int .i64 0]), 4, 32) := by kernel_rfl
theorem zadd_at (b o i : Nat) : (⟨b, o, none⟩ : Addr).add i = ⟨b, o + i, none⟩ := by unfold Addr.add; split <;> simp_all
/-- append of samples to a slice of the call's own -/
theorem run_append_smp {w : World} {ty : TypeId} (base : Nat) (v : Value) (l : List Sm) (hown : OwnZ base w v l) (u : Value) (r : List Sm) (hr : SAt w u r) (hlen : l.length + r.length ≤ 1000000) (hbase : base ≤ w.heap.size) :
    ∃ v' w', (Builtin.append_ #[38, 38] ty #[v, u]).run Try.prog w = .ok v' w' ∧ OwnZ base w' v' (l ++ r) ∧ w.grownBy w' v.ownBlock ∧ (v'.ownBlock = v.ownBlock ∨ v'.ownBlock = some w.heap.size) := by
  obtain ⟨i, hi, hz0, hz1, hz2⟩ := info_parts infoS
  rcases hr with ⟨rfl, rfl⟩ | ⟨b, o, c, rfl, _, _, hc⟩
  · exact ⟨v, w, run_append_owned_none (P := Try.prog) (w := w) base 38 ty 40 i 4 Try.underlying38 hi v l.length (flatS l) hown, by simpa using hown, .refl _ _, .inl rfl⟩
  · obtain ⟨v', w', h0, h1, h2, _, h3⟩ := run_append_own_at (P := Try.prog) w base 38 ty 40 i _ 4 32 Try.underlying38 hi hz0 hz1 hz2 rfl (by omega) v l.length (flatS l) hown ⟨b, o, none⟩ r.length c (flatS r) (flatS_len r)
      (fun j y hj => by rw [zadd_at]; exact hc j y hj)
      (fun y hy => by
        obtain ⟨s, _, h⟩ := List.mem_flatMap.1 hy
        simp only [cellsS, List.mem_cons, List.not_mem_nil, or_false] at h
        rcases h with rfl | rfl | rfl | rfl <;> rfl)
      (by unfold maxLen; omega) (by omega) hbase
    exact ⟨v', w', h0, by unfold OwnZ; rw [List.length_append, flatS_append]; exact h1, h2, h3⟩
theorem wp_append_smp {w : World} {o : Oper} {a : Act} {K : Act → World → Prop} {Q : Exit → Act → World → Prop} (s x : Operand)
    (ho : o.op = .call { callee := .builtin .append, args := #[s, x], argTypes := #[38, 38] })
    (base : Nat) (v : Value) (l : List Sm) (hs : a.eval s = v) (hown : OwnZ base w v l) (u : Value) (r : List Sm) (hx : a.eval x = u) (hr : SAt w u r)
    (hlen : l.length + r.length ≤ 1000000) (hbase : base ≤ w.heap.size)
    (h : ∀ v' w', OwnZ base w' v' (l ++ r) → w.grownBy w' v.ownBlock → (v'.ownBlock = v.ownBlock ∨ v'.ownBlock = some w.heap.size) → K (a.put o.dst v') w') : o.wp Try.prog a w K Q := by
  obtain ⟨v', w', hrun, h1, h2, h3⟩ := run_append_smp (ty := o.type) base v l hown u r hr hlen hbase
  unfold Oper.wp execOp
  simp only [ho, resolve, invoke, builtin, Sem.run_bind, Sem.run_pure, Result.andThen_ok, List.map_toArray, List.map_cons, List.map_nil, hs, hx, hrun]
  exact h v' w' h1 h2 h3
theorem append_smp {w : World} {ops : Array Oper} {rest : List Oper} {o : Oper} {a : Act} {Q : Exit → Act → World → Prop} (hgd : o.guard = none) (s x : Operand)
    (ho : o.op = .call { callee := .builtin .append, args := #[s, x], argTypes := #[38, 38] })
    (base : Nat) (v : Value) (l : List Sm) (hs : a.eval s = v) (hown : OwnZ base w v l) (u : Value) (r : List Sm) (hx : a.eval x = u) (hr : SAt w u r)
    (hlen : l.length + r.length ≤ 1000000) (hbase : base ≤ w.heap.size)
    (h : ∀ v' w', OwnZ base w' v' (l ++ r) → w.grownBy w' v.ownBlock → (v'.ownBlock = v.ownBlock ∨ v'.ownBlock = some w.heap.size) → wpList Try.prog ops Q rest (a.put o.dst v') w') : wpList Try.prog ops Q (o :: rest) a w := by
  have hw : Region.wanted o (yielded ops a.tmps) = true := by unfold Region.wanted; rw [hgd]
  refine wpList_step fun K hK => ?_
  rw [if_pos hw]
  exact wp_append_smp s x ho base v l hs hown u r hx hr hlen hbase fun v' w' h1 h2 h3 => hK _ _ (h v' w' h1 h2 h3)
/-- one sample in a new block -/
theorem smp_new (w : World) (s : Sm) : SAt (w.alloc (.cells #[.int .i64 s.who, .int .i64 s.met, .int .i64 s.ep, .int .i64 s.val] 40)) (.slice (some ⟨w.heap.size, 0, none⟩) 1 1) [s] :=
  .inr ⟨_, 0, 1, rfl, Nat.le_refl _, by unfold maxLen; omega, fun j u hj => by
    rw [Nat.zero_add, at_cell (at_new w _) j]
    have e : flatS [s] = [.int .i64 s.who, .int .i64 s.met, .int .i64 s.ep, .int .i64 s.val] := rfl
    rw [e] at hj
    simpa using hj⟩
end Go.Proofs.Ytogmibmkkmbgoaa
