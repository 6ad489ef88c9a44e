/-
  Slices of decisions: what one reads as; slices of decisions that a call owns and appends to; the oldest of sixty-four goes. No condition.
  Contract for package score: the end of an epoch. The condition: the score lies there, the rows read as samples.
  Contracts for package score: New, Set, All. The condition: the score lies there.
  Contracts for package score: Set, All. The condition: the score lies there.
-/
import Derived.Test.YtecggbndlbkhdaaGreatY12
import Derived.Test.YtecggbndlbkhdaaGreatRows
import Derived.Test.YtecggbndlbkhdaaGreatY1
import Derived.Laws.AppendOwnNone
import Derived.Maps.AppendAt
import Derived.Test.YtecggbndlbkhdaaGreatY21
import Derived.Test.YtecggbndlbkhdaaGreatY3
section
set_option linter.unusedSimpArgs false
set_option linter.unusedVariables false
namespace Go.Proofs.YtecggbndlbkhdaaGreat
set_option maxRecDepth 100000
open Go.RowKit

def cellsD (d : Dc) : List Value := [.int .i64 d.ep, .int .i64 d.rep, .int .i64 d.want, .bool d.hold, .int .i64 d.v0, .int .i64 d.v1, .int .i64 d.v2, .int .i64 d.v3]
@[reducible] def dcV (d : Dc) : Value := .agg #[.int .i64 d.ep, .int .i64 d.rep, .int .i64 d.want, .bool d.hold, .int .i64 d.v0, .int .i64 d.v1, .int .i64 d.v2, .int .i64 d.v3]
def flatD (l : List Dc) : List Value := l.flatMap cellsD
theorem flatD_len (l : List Dc) : (flatD l).length = l.length * 8 := by
  induction l with
  | nil => rfl
  | cons p r ih =>
    have e : flatD (p :: r) = cellsD p ++ flatD r := rfl
    rw [e, List.length_append, ih]
    simp [cellsD]; omega
theorem flatD_append (a b : List Dc) : flatD (a ++ b) = flatD a ++ flatD b := List.flatMap_append
theorem flatD_at : ∀ (l : List Dc) (i : Nat) (h : i < l.length) (j : Nat), j < 8 → (flatD l)[i * 8 + j]? = (cellsD l[i])[j]?
  | [], i, h, j, hj => by simp at h
  | p :: r, 0, h, j, hj => by
    have e : flatD (p :: r) = cellsD p ++ flatD r := rfl
    have hl : (cellsD p).length = 8 := rfl
    rw [e, Nat.zero_mul, Nat.zero_add, List.getElem?_append_left (by omega)]
    rfl
  | p :: r, i + 1, h, j, hj => by
    have e : flatD (p :: r) = cellsD p ++ flatD r := rfl
    have hl : (cellsD p).length = 8 := rfl
    rw [e]
    simp only [List.getElem_cons_succ]
    rw [List.getElem?_append_right (by omega), hl, show (i + 1) * 8 + j - 8 = i * 8 + j by omega]
    exact flatD_at r i (by simpa using h) j hj
/-- a slice that reads as decisions -/
def DAt (W : World) (v : Value) (l : List Dc) : Prop :=
  (v = .slice none 0 0 ∧ l = []) ∨ ∃ b o cap, v = .slice (some ⟨b, o, none⟩) l.length cap ∧ l.length ≤ cap ∧ cap ≤ maxLen ∧ ∀ j u, (flatD l)[j]? = some u → W.cell? ⟨b, o + j, none⟩ = some u
theorem DAt.nil (W : World) : DAt W (.slice none 0 0) [] := .inl ⟨rfl, rfl⟩
theorem DAt.form {W : World} {v : Value} {l : List Dc} (h : DAt W v l) : ∃ p c, v = .slice p l.length c := by
  rcases h with ⟨rfl, rfl⟩ | ⟨b, o, cap, rfl, _⟩
  · exact ⟨none, 0, rfl⟩
  · exact ⟨_, cap, rfl⟩
theorem DAt.len {W : World} {v : Value} {l : List Dc} (h : DAt W v l) : l.length ≤ maxLen := by
  rcases h with ⟨_, rfl⟩ | ⟨b, o, cap, _, h1, h2, _⟩
  · exact Nat.zero_le _
  · exact Nat.le_trans h1 h2
/-- the block that it reads -/
theorem DAt.cells {W : World} {p : Option Addr} {n c : Nat} {l : List Dc} (h : DAt W (.slice p n c) l) {i : Nat} (hi : i < l.length) :
    ∃ b o, p = some ⟨b, o, none⟩ ∧ n = l.length ∧ n ≤ c ∧ W.cell? ⟨b, o + i * 8, none⟩ = some (.int .i64 l[i].ep) ∧ W.cell? ⟨b, o + i * 8 + 1, none⟩ = some (.int .i64 l[i].rep) ∧ W.cell? ⟨b, o + i * 8 + 2, none⟩ = some (.int .i64 l[i].want) ∧ W.cell? ⟨b, o + i * 8 + 3, none⟩ = some (.bool l[i].hold) ∧ W.cell? ⟨b, o + i * 8 + 4, none⟩ = some (.int .i64 l[i].v0) ∧ W.cell? ⟨b, o + i * 8 + 5, none⟩ = some (.int .i64 l[i].v1) ∧ W.cell? ⟨b, o + i * 8 + 6, none⟩ = some (.int .i64 l[i].v2) ∧ W.cell? ⟨b, o + i * 8 + 7, none⟩ = some (.int .i64 l[i].v3) := by
  rcases h with ⟨e, rfl⟩ | ⟨b, o, cap, e, h1, h2, h3⟩
  · simp at hi
  · cases e
    have k := flatD_at l i hi
    exact ⟨b, o, rfl, rfl, h1, h3 _ _ (k 0 (by omega)), h3 _ _ (k 1 (by omega)), h3 _ _ (k 2 (by omega)), h3 _ _ (k 3 (by omega)), h3 _ _ (k 4 (by omega)), h3 _ _ (k 5 (by omega)), h3 _ _ (k 6 (by omega)), h3 _ _ (k 7 (by omega))⟩
theorem DAt.chg {W W' : World} {v : Value} {l : List Dc} {F : List Nat} (h : DAt W v l) (hc : Chg F W W') (hF : ∀ g, v.ownBlock = some g → g ∉ F) : DAt W' v l := by
  rcases h with h | ⟨b, o, cap, rfl, h1, h2, h3⟩
  · exact .inl h
  · exact .inr ⟨b, o, cap, rfl, h1, h2, fun j u hj => hc.cell (h3 j u hj) (hF b rfl)⟩
theorem DAt.grown {W W' : World} {v : Value} {l : List Dc} (h : DAt W v l) (hg : W.grownBy W' none) : DAt W' v l := h.chg (chg_grown hg []) (by simp)
theorem DAt.drew {W : World} {v : Value} {l : List Dc} (h : DAt W v l) : DAt W.drew v l := h
theorem DAt.alloc {W : World} {v : Value} {l : List Dc} (h : DAt W v l) (o : Obj) : DAt (W.alloc o) v l := h.grown (World.grownBy_alloc W o none)
/-- the first k; all from k on -/
theorem DAt.take {W : World} {b o n c k : Nat} {l : List Dc} (h : DAt W (.slice (some ⟨b, o, none⟩) n c) l) (hk : k ≤ n) : DAt W (.slice (some ⟨b, o, none⟩) k c) (l.take k) := by
  rcases h with ⟨h, _⟩ | ⟨b', o', cap, e, h1, h2, h3⟩
  · cases h
  · cases e
    have hl : (l.take k).length = k := by rw [List.length_take]; omega
    refine .inr ⟨b, o, c, by rw [hl], by omega, h2, fun j u hj => h3 j u ?_⟩
    have e : l = l.take k ++ l.drop k := (List.take_append_drop k l).symm
    rw [e, flatD_append, List.getElem?_append_left ((List.getElem?_eq_some_iff.1 hj).1)]
    exact hj
theorem DAt.drop {W : World} {b o n c k : Nat} {l : List Dc} (h : DAt W (.slice (some ⟨b, o, none⟩) n c) l) (hk : k ≤ n) : DAt W (.slice (some ⟨b, o + k * 8, none⟩) (n - k) (c - k)) (l.drop k) := by
  rcases h with ⟨h, _⟩ | ⟨b', o', cap, e, h1, h2, h3⟩
  · cases h
  · cases e
    have hl : (l.drop k).length = l.length - k := by rw [List.length_drop]
    refine .inr ⟨b, o + k * 8, c - k, by rw [hl], by omega, by omega, fun j u hj => ?_⟩
    have := h3 (k * 8 + j) u (by
      have e : l = l.take k ++ l.drop k := (List.take_append_drop k l).symm
      have hk8 : (flatD (l.take k)).length = k * 8 := by rw [flatD_len, List.length_take]; congr 1; omega
      rw [e, flatD_append, List.getElem?_append_right (by omega), hk8, Nat.add_sub_cancel_left]
      exact hj)
    rw [Nat.add_assoc]
    exact this
/-- a slice of decisions of the call's own -/
def OwnD (base : Nat) (w : World) (v : Value) (l : List Dc) : Prop := w.ownsRow base 57 8 v l.length (flatD l)
theorem OwnD.nil (base : Nat) (w : World) : OwnD base w (.slice none 0 0) [] := ⟨rfl, .inl ⟨rfl, rfl⟩⟩
theorem OwnD.empty (w : World) : OwnD w.heap.size (w.alloc (.cells #[] 57)) (.slice (some ⟨w.heap.size, 0, none⟩) 0 0) [] :=
  ⟨rfl, .inr ⟨w.heap.size, 0, #[], rfl, Nat.le_refl _, at_new w _, Nat.le_refl _, Nat.zero_le _, rfl, rfl⟩⟩
theorem OwnD.form {base : Nat} {w : World} {v : Value} {l : List Dc} (h : OwnD base w v l) : ∃ p c, v = .slice p l.length c := by
  obtain ⟨_, h | ⟨g, cap, cur, rfl, _⟩⟩ := h
  · exact ⟨none, 0, by rw [h.1, h.2]⟩
  · exact ⟨_, _, rfl⟩
theorem OwnD.at {base : Nat} {w : World} {v : Value} {l : List Dc} (h : OwnD base w v l) : ∀ g, v.ownBlock = some g → base ≤ g ∧ ∃ cs : Array Value, w.heap[g]? = some (.cells cs 57) := by
  intro g hg
  obtain ⟨_, h | ⟨g', cap, cur, rfl, hb, hh, _⟩⟩ := h
  · rw [h.1] at hg; simp [Value.ownBlock] at hg
  · simp [Value.ownBlock] at hg
    subst hg
    exact ⟨hb, cur, hh⟩
theorem OwnD.lt {base : Nat} {w : World} {v : Value} {l : List Dc} (h : OwnD base w v l) : ∀ g, v.ownBlock = some g → base ≤ g ∧ g < w.heap.size := fun g hg => by
  obtain ⟨h1, cs, h2⟩ := h.at g hg
  exact ⟨h1, at_lt h2⟩
theorem OwnD.le {base base' : Nat} {w : World} {v : Value} {l : List Dc} (h : OwnD base w v l) (hb : base' ≤ base) : OwnD base' w v l := by
  obtain ⟨h0, h | ⟨g, cap, cur, rfl, hb', h1⟩⟩ := h
  · exact ⟨h0, .inl h⟩
  · exact ⟨h0, .inr ⟨g, cap, cur, rfl, Nat.le_trans hb hb', h1⟩⟩
theorem OwnD.chg {base : Nat} {w w1 : World} {F : List Nat} {v : Value} {l : List Dc} (h : OwnD base w v l) (hc : Chg F w w1) (hF : ∀ g, v.ownBlock = some g → g ∉ F) : OwnD base w1 v l := by
  obtain ⟨h0, h | ⟨g, cap, cur, rfl, hb, hh, h1⟩⟩ := h
  · exact ⟨h0, .inl h⟩
  · exact ⟨h0, .inr ⟨g, cap, cur, rfl, hb, hc.at hh (hF g rfl), h1⟩⟩
theorem OwnD.grown {base : Nat} {w w1 : World} {v : Value} {l : List Dc} (h : OwnD base w v l) (hg : w.grownBy w1 none) : OwnD base w1 v l := h.chg (chg_grown hg []) (by simp)
theorem OwnD.drew {base : Nat} {w : World} {v : Value} {l : List Dc} (h : OwnD base w v l) : OwnD base w.drew v l := h
theorem OwnD.reads {base : Nat} {w : World} {v : Value} {l : List Dc} (h : OwnD base w v l) : DAt w v l := by
  obtain ⟨_, h | ⟨g, cap, cur, rfl, _, hh, h1, h2, h3, h4⟩⟩ := h
  · exact .inl ⟨h.1, List.eq_nil_of_length_eq_zero h.2⟩
  · refine .inr ⟨g, 0, cap, rfl, h1, h2, fun j u hj => ?_⟩
    have hlt : j < l.length * 8 := by rw [← flatD_len]; exact (List.getElem?_eq_some_iff.1 hj).1
    rw [Nat.zero_add, at_cell hh j, ← Array.getElem?_toList, ← hj, ← h4, List.getElem?_take, if_pos hlt]
/-- what was made meanwhile keeps what was there -/
theorem gb_ownD {w w5 wc : World} {base : Nat} {v : Value} {l : List Dc} (h : w.grownBy w5 none) (ho : OwnD base w5 v l) (hb : w.heap.size ≤ base) (hg : w5.grownBy wc v.ownBlock) : w.grownBy wc none :=
  gb_trans h hg (by
    cases hv : v.ownBlock with
    | none => exact .inl rfl
    | some g => exact .inr (.inr ⟨g, rfl, Nat.le_trans hb (ho.at g hv).1⟩))
theorem infoD : (Tryz.prog.info? 57).map (fun i => (i.zero, i.size, i.bytes)) = some (some (.agg #[.int .i64 0, .int .i64 0, .int .i64 0, .bool false, .int .i64 0, .int .i64 0, .int .i64 0, .int .i64 0]), 8, 64) := by kernel_rfl
theorem dadd_at (b o i : Nat) : (⟨b, o, none⟩ : Addr).add i = ⟨b, o + i, none⟩ := by unfold Addr.add; split <;> simp_all
/-- append of decisions to a slice of the call's own -/
theorem run_append_dc {w : World} {ty : TypeId} (base : Nat) (v : Value) (l : List Dc) (hown : OwnD base w v l) (u : Value) (r : List Dc) (hr : DAt w u r) (hlen : l.length + r.length ≤ 1000000) (hbase : base ≤ w.heap.size) :
    ∃ v' w', (Builtin.append_ #[48, 48] ty #[v, u]).run Tryz.prog w = .ok v' w' ∧ OwnD base w' v' (l ++ r) ∧ w.grownBy w' v.ownBlock ∧ (v'.ownBlock = v.ownBlock ∨ v'.ownBlock = some w.heap.size) := by
  obtain ⟨i, hi, hz0, hz1, hz2⟩ := info_parts infoD
  rcases hr with ⟨rfl, rfl⟩ | ⟨b, o, c, rfl, _, _, hc⟩
  · exact ⟨v, w, run_append_owned_none (P := Tryz.prog) (w := w) base 48 ty 57 i 8 Tryz.underlying48 hi v l.length (flatD l) hown, by simpa using hown, .refl _ _, .inl rfl⟩
  · obtain ⟨v', w', h0, h1, h2, _, h3⟩ := run_append_own_at (P := Tryz.prog) w base 48 ty 57 i _ 8 64 Tryz.underlying48 hi hz0 hz1 hz2 rfl (by omega) v l.length (flatD l) hown ⟨b, o, none⟩ r.length c (flatD r) (flatD_len r)
      (fun j y hj => by rw [dadd_at]; exact hc j y hj)
      (fun y hy => by
        obtain ⟨s, _, h⟩ := List.mem_flatMap.1 hy
        simp only [cellsD, List.mem_cons, List.not_mem_nil, or_false] at h
        rcases h with rfl | rfl | rfl | rfl | rfl | rfl | rfl | rfl <;> rfl)
      (by unfold maxLen; omega) (by omega) hbase
    exact ⟨v', w', h0, by unfold OwnD; rw [List.length_append, flatD_append]; exact h1, h2, h3⟩
theorem wp_append_dc {w : World} {o : Oper} {a : Act} {K : Act → World → Prop} {Q : Exit → Act → World → Prop} (s x : Operand)
    (ho : o.op = .call { callee := .builtin .append, args := #[s, x], argTypes := #[48, 48] })
    (base : Nat) (v : Value) (l : List Dc) (hs : a.eval s = v) (hown : OwnD base w v l) (u : Value) (r : List Dc) (hx : a.eval x = u) (hr : DAt w u r)
    (hlen : l.length + r.length ≤ 1000000) (hbase : base ≤ w.heap.size)
    (h : ∀ v' w', OwnD base w' v' (l ++ r) → w.grownBy w' v.ownBlock → (v'.ownBlock = v.ownBlock ∨ v'.ownBlock = some w.heap.size) → K (a.put o.dst v') w') : o.wp Tryz.prog a w K Q := by
  obtain ⟨v', w', hrun, h1, h2, h3⟩ := run_append_dc (ty := o.type) base v l hown u r hr hlen hbase
  unfold Oper.wp execOp
  simp only [ho, resolve, invoke, builtin, Sem.run_bind, Sem.run_pure, Result.andThen_ok, List.map_toArray, List.map_cons, List.map_nil, hs, hx, hrun]
  exact h v' w' h1 h2 h3
theorem append_dc {w : World} {ops : Array Oper} {rest : List Oper} {o : Oper} {a : Act} {Q : Exit → Act → World → Prop} (hgd : o.guard = none) (s x : Operand)
    (ho : o.op = .call { callee := .builtin .append, args := #[s, x], argTypes := #[48, 48] })
    (base : Nat) (v : Value) (l : List Dc) (hs : a.eval s = v) (hown : OwnD base w v l) (u : Value) (r : List Dc) (hx : a.eval x = u) (hr : DAt w u r)
    (hlen : l.length + r.length ≤ 1000000) (hbase : base ≤ w.heap.size)
    (h : ∀ v' w', OwnD base w' v' (l ++ r) → w.grownBy w' v.ownBlock → (v'.ownBlock = v.ownBlock ∨ v'.ownBlock = some w.heap.size) → wpList Tryz.prog ops Q rest (a.put o.dst v') w') : wpList Tryz.prog ops Q (o :: rest) a w := by
  have hw : Region.wanted o (yielded ops a.tmps) = true := by unfold Region.wanted; rw [hgd]
  refine wpList_step fun K hK => ?_
  rw [if_pos hw]
  exact wp_append_dc s x ho base v l hs hown u r hx hr hlen hbase fun v' w' h1 h2 h3 => hK _ _ (h v' w' h1 h2 h3)
end Go.Proofs.YtecggbndlbkhdaaGreat
end
section
set_option linter.unusedSimpArgs false
set_option linter.unusedVariables false
namespace Go.Proofs.YtecggbndlbkhdaaGreat
set_option maxRecDepth 100000
open Go.RowKit

/-- behind the first k -/
def Sc.upTo (s : Sc) (mk : List Int) (k : Nat) : Sc := ⟨(runTo s.st s.pr mk s.H k).1, s.st, s.pr, s.far⟩
theorem Sc.upTo_succ {s : Sc} {mk : List Int} {k : Nat} {h0 : Hd} {m : Int} (h : (s.upTo mk k).H[k]? = some h0) (hm : mk[k]? = some m) :
    s.upTo mk (k + 1) = (s.upTo mk k).put k (endH s.st s.pr h0 m).1 ∧ (runTo s.st s.pr mk s.H (k + 1)).2 = if (endH s.st s.pr h0 m).2 = true then (runTo s.st s.pr mk s.H k).2 ++ [(k : Int)] else (runTo s.st s.pr mk s.H k).2 := by
  have h' : (runTo s.st s.pr mk s.H k).1[k]? = some h0 := h
  have e1 : (runTo s.st s.pr mk s.H k).1.getD k (true, 0) = h0 := by rw [List.getD_eq_getElem?_getD, h']; rfl
  have e2 : mk.getD k 0 = m := by rw [List.getD_eq_getElem?_getD, hm]; rfl
  constructor
  · unfold Sc.upTo Sc.put
    rw [runTo]
    dsimp only
    rw [e1, e2]
  · rw [runTo]
    dsimp only
    rw [e1, e2]
theorem Sc.upTo_ok {s : Sc} (h : s.ok) (mk : List Int) (k : Nat) (hk : k ≤ s.H.length) : (s.upTo mk k).ok := by
  have hl : (s.upTo mk k).H.length = s.H.length := runTo_len ..
  have h1 := h.st
  have h2 := h.pr
  exact ⟨by rw [hl]; exact h.n1, by rw [hl]; exact h.n16, h.st, h.pr, h.far, fun x hx => runTo_cnt h.cnt (by omega) (by omega) _ hk x hx⟩
theorem chg_opt {a b : World} {r : Option Nat} (h : a.grownBy b r) : Chg r.toList a b := match r, h with
  | none, h => chg_grown h _
  | some _, h => chg_row h
set_option maxHeartbeats 1600000 in
theorem close_any {s : Sc} {b hb : Nat} {w : World} (h : ScAt s b hb w) (hok : s.ok) (v : Value) (L : List (Value × List Sm)) (hv : RowsS w v L) (hL : L.length ≤ 1000) (hrow : ∀ x ∈ L, x.2.length ≤ 1000) (q : Int) :
    Calls Tryz.prog 153 #[.pointer (some ⟨b, 0, none⟩), v, .int .i64 q] w fun e w' => ∃ u, e = .returned u ∧ OwnN w.heap.size w' u (s.gone (L.map Prod.snd) q) ∧ ScAt (s.close (L.map Prod.snd) q) b hb w' ∧ Chg [hb] w w' := by
  have HS := hid h
  have HOK := hid hok
  have HM := hid (marks_any h v L hv hL hrow q)
  obtain ⟨p, c, rfl⟩ := hv.form
  have hml := marksL_len s q (L.map Prod.snd)
  unfold Sc.close Sc.gone
  generalize L.length = n at *
  generalize marksL s q (L.map Prod.snd) = mk at *
  have hHB := h.lt
  obtain ⟨N, hN⟩ : ∃ N, s.H.length = N := ⟨_, rfl⟩
  have HN := hid hN
  rw [hN] at HM hml ⊢
  have HML := hid hml
  have HHB := hid hHB
  have hN16 : N ≤ 16 := by have := hok.n16; omega
  clear h hok hv hL hrow hml hN hHB
  go_enter Tryz.func153, Tryz.ntmps153
  go_wp2_with fail
  refine HM.out.mono ?_
  rintro e w2 ⟨mb, rfl, hblk, hmb, hg⟩
  have HB := hid hblk
  have HMB := hid hmb
  have HG := hid hg
  have HS2 := hid (HS.out.grown hg)
  clear hblk hmb hg HM
  go_wp2_with fail
  go_loopw [7, 17] (fun u i wr => ∃ (k : Nat) (v0 : Value), u = v0 ∧ k ≤ N ∧ i = .int .i64 (k : Int) ∧ OwnN w.heap.size wr v0 (runTo s.st s.pr mk s.H k).2 ∧ wr.heap[mb]? = some (.cells (mk.map iv).toArray 372) ∧ (∀ g, g ∈ ownL v0 → g ≠ mb) ∧ ScAt (s.upTo mk k) b hb wr ∧ Chg [hb] w wr)
    (fun _ i _ => N - (intOf i).toNat)
  case atStart => exact ⟨0, _, rfl, Nat.zero_le _, rfl, OwnN.nil _ _, HB.out, by simp [ownL, Value.ownBlock], HS2.out, chg_grown HG.out _⟩
  case round =>
    obtain ⟨k, v0, hv0, hk, rfl, hown, hblk, hnm, hsc, hch⟩ := hrel
    have hv' := hv0.symm
    clear hv0
    subst hv'
    have HO := hid hown
    have HBL := hid hblk
    have HNM := hid hnm
    have HSC := hid hsc
    have HCH := hid hch
    clear hown hblk hnm hsc hch
    by_cases hlt : k < N
    · have hlen : (s.upTo mk k).H.length = N := by rw [← HN.out]; exact runTo_len ..
      have hx := List.getElem?_eq_getElem (show k < (s.upTo mk k).H.length by omega)
      have hm := List.getElem?_eq_getElem (show k < mk.length by rw [HML.out]; exact hlt)
      have hcnt := (Sc.upTo_ok HOK.out mk k (by rw [HN.out]; omega)).cnt _ (List.mem_of_getElem? hx)
      generalize (s.upTo mk k).H[k]'(show k < (s.upTo mk k).H.length by omega) = h0 at *
      generalize mk[k]'(show k < mk.length by rw [HML.out]; exact hlt) = m at *
      obtain ⟨c0, c1, c2, c3⟩ := HSC.out.cells
      rw [hlen] at c0
      have hmk := blk_at HBL.out hm
      have HE := hid (end_any HSC.out k h0 hx hcnt.2 m)
      obtain ⟨hs1, hs2⟩ := Sc.upTo_succ hx hm
      have HS1 := hid hs1
      have HS2' := hid hs2
      have e1 : (s.upTo mk k).st = s.st := rfl
      have e2 : (s.upTo mk k).pr = s.pr := rfl
      rw [e1, e2] at HE
      generalize endH s.st s.pr h0 m = r at *
      obtain ⟨hn, o⟩ := r
      have hkn : (k : Int) < (N : Int) := by omega
      clear hx hm hcnt hs1 hs2 hlen e1 e2 c1 c2 c3
      have HGL := hid (runTo_gone s.st s.pr mk s.H k)
      generalize (runTo s.st s.pr mk s.H k).2 = gl at *
      go_wp2_with fail
      refine HE.out.mono ?_
      rintro e w3 ⟨rfl, ha, hg⟩
      dsimp only at ha HS2' HS1
      rw [← HS1.out] at ha
      have hhb : ∀ g, g ∈ ownL v0 → g ∉ [hb] := fun g hg hm => by
        have h1 := HO.out.at g hg
        have h2 := HHB.out.2
        rw [List.mem_singleton.1 hm] at h1; omega
      have O3 := hid (HO.out.chg hg hhb)
      have B3 := hid (hg.at HBL.out (by
        have h1 := HMB.out
        have h2 := HHB.out.2
        simp; omega))
      have A3 := hid ha
      have C3 := hid (HCH.out.then hg)
      obtain ⟨pu, cu, rfl⟩ := HO.out.form
      clear ha hg hhb HO HBL HSC HCH HE hmk c0
      cases o with
      | false =>
        rw [if_neg (by simp)] at HS2'
        go_wp2_with fail
        go_roundw
        case rel => exact ⟨k + 1, _, rfl, by omega, by go_num, by rw [HS2'.out]; exact O3.out, B3.out, HNM.out, A3.out, C3.out⟩
        case measure => simp [intOf]; omega
      | true =>
        rw [if_pos rfl] at HS2'
        have O4 := hid (O3.out.grown (World.grownBy_alloc w3 (.cells #[.int .i64 (k : Int)] 3) none))
        have SM := hid (at_cell (at_new w3 (.cells #[.int .i64 (k : Int)] 3)) 0)
        have LEN := hid (show gl.length + 1 ≤ 1000000 by have := HGL.out; omega)
        have LE := hid (Nat.le_trans (Nat.le_trans C3.out.size (Nat.le_succ _)) (Nat.le_of_eq (size_alloc' w3 (.cells #[.int .i64 (k : Int)] 3)).symm))
        clear O3 HGL
        go_wp2_with
          (refine append_num rfl _ _ rfl w.heap.size _ _ rfl O4.out _ _ rfl SM.out LEN.out LE.out ?_; intro v' w5 hown3 hg3 hat3; have HO5 := hid hown3; have HG5 := hid hg3; have HA5 := hid (show v'.ownBlock = (Value.slice pu gl.length cu).ownBlock ∨ v'.ownBlock = some (w3.alloc (.cells #[.int .i64 (k : Int)] 3)).heap.size from hat3); clear hown3 hg3 hat3)
        have hc5 := chg_opt HG5.out
        have hin : ∀ x ∈ (Value.slice pu gl.length cu).ownBlock.toList, w.heap.size ≤ x := fun x hx => (O4.out.at x hx).1
        have C5 := hid ((C3.out.alloc _).trans hc5 (fun x hx => .inr (hin x hx)))
        have A5 := hid ((A3.out.alloc _).chg hc5 (fun hx => by have h1 := hin _ hx; have h2 := HHB.out.1; omega) (fun hx => by have h1 := hin _ hx; have h2 := HHB.out.2; omega))
        have B5 := hid (hc5.at (at_alloc B3.out _) (fun hx => HNM.out _ hx rfl))
        have N5 := hid (show ∀ g, g ∈ ownL v' → g ≠ mb by
          intro g hg
          rcases HA5.out with e | e
          · exact HNM.out g (by unfold ownL at *; rw [← e]; exact hg)
          · unfold ownL at hg
            rw [e] at hg
            have h1 := at_lt (at_alloc B3.out (.cells #[.int .i64 (k : Int)] 3))
            simp at hg
            have h2 := at_lt B3.out
            omega)
        clear hc5 hin A3 B3 C3 O4 SM LE LEN HG5 HA5
        go_roundw
        case rel => exact ⟨k + 1, _, rfl, by omega, by go_num, by rw [HS2'.out]; exact HO5.out, B5.out, N5.out, A5.out, C5.out⟩
        case measure => simp [intOf]; omega
    · obtain rfl : k = N := by omega
      have A4 : Hid (ScAt ⟨(runTo s.st s.pr mk s.H k).1, s.st, s.pr, s.far⟩ b hb wr) := HSC
      obtain ⟨pu, cu, rfl⟩ := HO.out.form
      go_wp2_with fail
      go_ret
      exact ⟨_, rfl, HO.out, A4.out, HCH.out⟩
end Go.Proofs.YtecggbndlbkhdaaGreat
end
section
set_option linter.unusedSimpArgs false
set_option linter.unusedVariables false
namespace Go.Proofs.YtecggbndlbkhdaaGreat
set_option maxRecDepth 100000
open Go.RowKit

/-- may a score be made of these? -/
def MaySc (n st pr far : Int) : Prop := 1 ≤ n ∧ n ≤ 16 ∧ 1 ≤ st ∧ st ≤ 100 ∧ 1 ≤ pr ∧ pr ≤ 100 ∧ 0 ≤ far ∧ far ≤ 1099511627776
def hdCells (n : Nat) : Array Value := (flatH (List.replicate n (false, 0))).toArray
theorem info_shd : (Tryz.prog.info? 262).map (fun i => (i.zero, i.size, i.bytes)) = some (some (.agg #[.bool false, .int .i64 0]), 2, 16) := by kernel_rfl
theorem made_two (a b : Value) (m j : Nat) (h : j < m) : (madeCells #[a, b] m)[j]? = some (if j % 2 = 0 then a else b) := by
  have : j % 2 = 0 ∨ j % 2 = 1 := by omega
  rcases this with e | e <;> simp [madeCells, h, e]
theorem hd_made (n : Nat) : madeCells #[.bool false, .int .i64 0] (n * 2) = hdCells n := by
  apply Array.ext_getElem?
  intro j
  unfold hdCells
  rw [show (flatH (List.replicate n ((false, 0) : Hd))).toArray[j]? = (flatH (List.replicate n (false, 0)))[j]? from List.getElem?_toArray .., flatH_get, List.getElem?_replicate]
  by_cases h : j < n * 2
  · have hjn : j / 2 < n := by omega
    rw [made_two _ _ _ _ h, if_pos hjn]
    have : j % 2 = 0 ∨ j % 2 = 1 := by omega
    rcases this with e | e
    · simp [e]
    · simp [e]
  · have hjn : ¬ j / 2 < n := by omega
    rw [if_neg hjn, Array.getElem?_eq_none (by simp [madeCells]; omega)]; rfl
theorem mk_shds (n : Nat) (hn : n ≤ 16) (u : World) : (Instr.makeSlice 231 (.int .i64 (n : Int)) (.int .i64 (n : Int))).run Tryz.prog u = .ok (.slice (some ⟨u.heap.size, 0, none⟩) n n) (u.alloc (.cells (hdCells n) 262)) := by
  obtain ⟨i, hi, hz0, hz1, hz2⟩ := info_parts info_shd
  have := run_makeSlice (P := Tryz.prog) u 231 262 i _ Tryz.underlying231 hi hz0 .i64 .i64 (n : Int) (n : Int) (by omega) (Int.le_refl _) (by rw [hz1]; omega) (by rw [hz2]; omega) (by omega)
  rw [this, hz1]
  rw [← hd_made]
  simp [Value.cells]
/-- as it is made -/
def newS (n : Nat) (st pr far : Int) : Sc := ⟨List.replicate n (false, 0), st, pr, far⟩
theorem newS_ok {n : Nat} {st pr far : Int} (h : MaySc n st pr far) : (newS n st pr far).ok := by
  unfold MaySc at h
  refine ⟨?_, ?_, ?_, ?_, ?_, fun x hx => ?_⟩
  · simp [newS]; omega
  · simp [newS]; omega
  · simp only [newS]; omega
  · simp only [newS]; omega
  · simp only [newS]; omega
  · simp only [newS, List.mem_replicate] at hx
    rw [hx.2]; decide
def MadeSc (w : World) (s : Sc) (e : Ending) (w' : World) : Prop := ∃ b hb, e = .returned (.pointer (some ⟨b, 0, none⟩)) ∧ ScAt s b hb w' ∧ w.grownBy w' none ∧ w.heap.size ≤ b ∧ w.heap.size ≤ hb
theorem scnew_yes (n : Nat) (st pr far : Int) (h : MaySc n st pr far) (w : World) :
    Calls Tryz.prog 59 #[.int .i64 (n : Int), .int .i64 st, .int .i64 pr, .int .i64 far] w (MadeSc w (newS n st pr far)) := by
  have HM := hid h
  unfold MaySc at h
  have h1 : ¬ (n : Int) < 1 := by omega
  have h2 : ¬ 16 < (n : Int) := by omega
  have h3 : ¬ st < 1 := by omega
  have h4 : ¬ 100 < st := by omega
  have h5 : ¬ pr < 1 := by omega
  have h6 : ¬ 100 < pr := by omega
  have h7 : ¬ far < 0 := by omega
  have h8 : ¬ 1099511627776 < far := by omega
  have hmk := mk_shds n (by omega)
  clear h
  go_enter Tryz.func59, Tryz.ntmps59
  go_wp2
  go_ret
  have hlen : (List.replicate n ((false, 0) : Hd)).length = n := List.length_replicate
  refine ⟨w.heap.size + 1, w.heap.size, by first | rfl | simp, ⟨?_, ?_, (newS_ok HM.out).wk⟩, gb_alloc (gb_alloc (.refl w none) _) _, by omega, Nat.le_refl _⟩
  · have := at_new (w.alloc (.cells (hdCells n) 262)) (.cells #[.slice (some ⟨w.heap.size, 0, none⟩) n n, .int .i64 st, .int .i64 pr, .int .i64 far] 233)
    rw [World.size_alloc] at this
    unfold newS
    dsimp only
    rw [hlen]
    exact this
  · exact at_alloc (at_new w _) _
/-- how it is set: the count, or an error -/
def cntOf (st pr a c : Int) (o : Bool) : Option Int :=
  if o = true then (if a = 0 ∧ 0 ≤ c ∧ c < pr then some c else none) else (if c = 0 ∧ 0 ≤ a ∧ a < st then some a else none)
theorem gbn {w w1 : World} {r : Option Nat} (h : w.grownBy w1 r) (n : Nat) : w.grownBy (w1.drewN n) r := ⟨h.os, h.tape, h.output, h.size, h.block⟩
theorem count_any {s : Sc} {b hb : Nat} {w : World} (h : ScAt s b hb w) (a c : Int) (o : Bool) :
    Calls Tryz.prog 333 #[.pointer (some ⟨b, 0, none⟩), .agg #[.int .i64 a, .int .i64 c, .bool o]] w fun e w' => e = .returned (.tuple #[.int .i64 ((cntOf s.st s.pr a c o).getD 0), .int .i64 (if (cntOf s.st s.pr a c o).isSome = true then 0 else 1)]) ∧ w.grownBy w' none := by
  obtain ⟨c0, c1, c2, c3⟩ := (h.alloc (.cells #[.int .i64 a, .int .i64 c, .bool o] 93)).cells
  have hb0 := at_new w (.cells #[.int .i64 a, .int .i64 c, .bool o] 93)
  have e0 : (w.alloc (.cells #[.int .i64 a, .int .i64 c, .bool o] 93)).cell? ⟨w.heap.size, 0, none⟩ = some (.int .i64 a) := at_cell hb0 0
  have e1 : (w.alloc (.cells #[.int .i64 a, .int .i64 c, .bool o] 93)).cell? ⟨w.heap.size, 1, none⟩ = some (.int .i64 c) := at_cell hb0 1
  have e2 : (w.alloc (.cells #[.int .i64 a, .int .i64 c, .bool o] 93)).cell? ⟨w.heap.size, 2, none⟩ = some (.bool o) := at_cell hb0 2
  have CG := hid (World.grownBy_alloc w (.cells #[.int .i64 a, .int .i64 c, .bool o] 93) none)
  have hp := h.ok.pr
  have hs := h.ok.st
  unfold cntOf
  generalize s.st = st at *
  generalize s.pr = pr at *
  clear h hb0 c0 c3
  cases o with
  | true =>
    rw [if_pos rfl]
    by_cases h0 : a = 0
    · subst h0
      by_cases h1 : c < 0
      · rw [if_neg (by omega)]
        go_enter Tryz.func333, Tryz.ntmps333
        go_wp2_with fail
        go_quiet (fail)
        go_wp2_with fail
        go_quiet (fail)
        go_wp2_with fail
        all_goals
          go_ret2
          exact ⟨rfl, by first | exact CG.out | exact gbn CG.out _ | exact gbn (gbn CG.out _) _⟩
      · by_cases h2 : c < pr
        · rw [if_pos (by omega)]
          go_enter Tryz.func333, Tryz.ntmps333
          go_wp2_with fail
          go_quiet (fail)
          go_wp2_with fail
          go_quiet (fail)
          go_wp2_with fail
          all_goals
            go_ret2
            exact ⟨rfl, by first | exact CG.out | exact gbn CG.out _ | exact gbn (gbn CG.out _) _⟩
        · rw [if_neg (by omega)]
          go_enter Tryz.func333, Tryz.ntmps333
          go_wp2_with fail
          go_quiet (fail)
          go_wp2_with fail
          go_quiet (fail)
          go_wp2_with fail
          all_goals
            go_ret2
            exact ⟨rfl, by first | exact CG.out | exact gbn CG.out _ | exact gbn (gbn CG.out _) _⟩
    · have d0 : (a != 0) = true := by simpa using h0
      rw [if_neg (by omega)]
      go_enter Tryz.func333, Tryz.ntmps333
      go_wp2_with fail
      go_quiet (fail)
      go_wp2_with fail
      go_quiet (fail)
      go_wp2_with fail
      all_goals
        go_ret2
        exact ⟨rfl, by first | exact CG.out | exact gbn CG.out _ | exact gbn (gbn CG.out _) _⟩
  | false =>
    rw [if_neg (by simp)]
    by_cases h0 : c = 0
    · subst h0
      by_cases h1 : a < 0
      · rw [if_neg (by omega)]
        go_enter Tryz.func333, Tryz.ntmps333
        go_wp2_with fail
        go_quiet (fail)
        go_wp2_with fail
        all_goals
          go_ret2
          exact ⟨rfl, by first | exact CG.out | exact gbn CG.out _ | exact gbn (gbn CG.out _) _⟩
      · by_cases h2 : a < st
        · rw [if_pos (by omega)]
          go_enter Tryz.func333, Tryz.ntmps333
          go_wp2_with fail
          go_quiet (fail)
          go_wp2_with fail
          all_goals
            go_ret2
            exact ⟨rfl, by first | exact CG.out | exact gbn CG.out _ | exact gbn (gbn CG.out _) _⟩
        · rw [if_neg (by omega)]
          go_enter Tryz.func333, Tryz.ntmps333
          go_wp2_with fail
          go_quiet (fail)
          go_wp2_with fail
          all_goals
            go_ret2
            exact ⟨rfl, by first | exact CG.out | exact gbn CG.out _ | exact gbn (gbn CG.out _) _⟩
    · have d0 : (c != 0) = true := by simpa using h0
      rw [if_neg (by omega)]
      go_enter Tryz.func333, Tryz.ntmps333
      go_wp2_with fail
      go_quiet (fail)
      go_wp2_with fail
      all_goals
        go_ret2
        exact ⟨rfl, by first | exact CG.out | exact gbn CG.out _ | exact gbn (gbn CG.out _) _⟩
end Go.Proofs.YtecggbndlbkhdaaGreat
end
section
set_option linter.unusedSimpArgs false
set_option linter.unusedVariables false
namespace Go.Proofs.YtecggbndlbkhdaaGreat
set_option maxRecDepth 100000
open Go.RowKit

theorem cntOf_fit {st pr a c z : Int} {o : Bool} (h : cntOf st pr a c o = some z) (hs : st ≤ 100) (hp : pr ≤ 100) : 0 ≤ z ∧ z ≤ 1000 := by
  unfold cntOf at h
  split at h
  · split at h
    · cases h; omega
    · cases h
  · split at h
    · cases h; omega
    · cases h
theorem set_in {s : Sc} {b hb : Nat} {w : World} (h : ScAt s b hb w) (k : Nat) (h0 : Hd) (hk : s.H[k]? = some h0) (a c : Int) (o : Bool) (z : Int) (hz : cntOf s.st s.pr a c o = some z) :
    Calls Tryz.prog 266 #[.pointer (some ⟨b, 0, none⟩), .int .i64 (k : Int), .agg #[.int .i64 a, .int .i64 c, .bool o]] w fun e w' => e = .returned (.int .i64 0) ∧ ScAt (s.put k (o, z)) b hb w' ∧ Chg [hb] w w' := by
  have HS := hid (h.alloc (.cells #[.int .i64 a, .int .i64 c, .bool o] 93))
  have HF := hid (sfind_in HS.out k (List.getElem?_eq_some_iff.1 hk).1)
  have HC := hid (count_any HS.out a c o)
  have hfit := hid (cntOf_fit hz (by have := h.ok.st; omega) (by have := h.ok.pr; omega))
  have HK := hid hk
  rw [hz] at HC
  have B0 := hid (at_new w (.cells #[.int .i64 a, .int .i64 c, .bool o] 93))
  have G0 := hid (World.grownBy_alloc w (.cells #[.int .i64 a, .int .i64 c, .bool o] 93) none)
  have e0 := at_cell B0.out 0
  have e1 := at_cell B0.out 1
  have e2 := at_cell B0.out 2
  clear h hk hz
  go_enter Tryz.func266, Tryz.ntmps266
  go_wp2_with fail
  refine HF.out.mono ?_
  rintro e w1 ⟨rfl, rfl⟩
  clear HF
  go_wp2_with fail
  refine HC.out.mono ?_
  rintro e w1 ⟨rfl, hg⟩
  have S1 := HS.out.grown hg
  have hb1 := at_grown B0.out hg (by simp)
  have q2 := at_cell hb1 2
  obtain ⟨p0, p1⟩ := S1.part HK.out
  have f0 := S1.free (k * 2)
  have K2 := S1.out HK.out o
  have hk2 := Sc.put_at HK.out (o, h0.2)
  have A2 := hid (store_i64 _ z _ _ (K2.1.part hk2).2 (K2.1.free _))
  have K3 := K2.1.cnt hk2 hfit.out
  have KK := hid (And.intro K3.1 ((chg_grown (gb_trans G0.out hg (.inl rfl)) [hb]).then (K2.2.then K3.2)))
  rw [Sc.put_put] at KK
  dsimp only at A2 KK
  clear hg S1 hb1 K2 K3 hk2 HC e0 e1 e2 hfit HK B0 G0 p1
  go_wp2_with fail
  refine A2.out.mono ?_
  rintro e w2 ⟨rfl, rfl⟩
  clear A2
  go_wp2_with fail
  go_ret
  exact ⟨rfl, KK.out.1, KK.out.2⟩
theorem set_bad {s : Sc} {b hb : Nat} {w : World} (h : ScAt s b hb w) (k : Nat) (hk : k < s.H.length) (a c : Int) (o : Bool) (hz : cntOf s.st s.pr a c o = none) :
    Calls Tryz.prog 266 #[.pointer (some ⟨b, 0, none⟩), .int .i64 (k : Int), .agg #[.int .i64 a, .int .i64 c, .bool o]] w fun e w' => e = .returned (.int .i64 1) ∧ w.grownBy w' none := by
  have HS := hid (h.alloc (.cells #[.int .i64 a, .int .i64 c, .bool o] 93))
  have HF := hid (sfind_in HS.out k hk)
  have HC := hid (count_any HS.out a c o)
  rw [hz] at HC
  have B0 := hid (at_new w (.cells #[.int .i64 a, .int .i64 c, .bool o] 93))
  have G0 := hid (World.grownBy_alloc w (.cells #[.int .i64 a, .int .i64 c, .bool o] 93) none)
  have e0 := at_cell B0.out 0
  have e1 := at_cell B0.out 1
  have e2 := at_cell B0.out 2
  clear h hk hz
  go_enter Tryz.func266, Tryz.ntmps266
  go_wp2_with fail
  refine HF.out.mono ?_
  rintro e w1 ⟨rfl, rfl⟩
  clear HF
  go_wp2_with fail
  refine HC.out.mono ?_
  rintro e w1 ⟨rfl, hg⟩
  have G1 := hid (gb_trans G0.out hg (.inl rfl))
  clear hg HC e0 e1 e2 B0 G0
  go_wp2_with fail
  go_ret
  exact ⟨rfl, G1.out⟩
/-- how all stand, as cells -/
def cellsZ (h : Hd) : List Value := [.int .i64 (standH h).1, .int .i64 (standH h).2.1, .bool (standH h).2.2]
def partZ (h : Hd) (j : Nat) : Value := if j = 0 then .int .i64 (standH h).1 else if j = 1 then .int .i64 (standH h).2.1 else .bool (standH h).2.2
def flatZ (H : List Hd) : List Value := H.flatMap cellsZ
theorem flatZ_get : ∀ (H : List Hd) (j : Nat), (flatZ H)[j]? = (H[j / 3]?).map fun h => partZ h (j % 3)
  | [], j => by simp [flatZ]
  | h :: H, 0 => by simp [flatZ, cellsZ, partZ]
  | h :: H, 1 => by simp [flatZ, cellsZ, partZ]
  | h :: H, 2 => by simp [flatZ, cellsZ, partZ]
  | h :: H, j + 3 => by
    have e : flatZ (h :: H) = cellsZ h ++ flatZ H := rfl
    have hl : (cellsZ h).length = 3 := rfl
    rw [e, List.getElem?_append_right (by omega), hl, show j + 3 - 3 = j by omega, flatZ_get H j, show (j + 3) / 3 = j / 3 + 1 by omega, show (j + 3) % 3 = j % 3 by omega]
    simp
theorem flatZ_len (H : List Hd) : (flatZ H).length = H.length * 3 := by
  induction H with
  | nil => rfl
  | cons h H ih =>
    have e : flatZ (h :: H) = cellsZ h ++ flatZ H := rfl
    rw [e, List.length_append, ih]; simp [cellsZ]; omega
theorem flatZ_set {H : List Hd} {k : Nat} (hk : k < H.length) (h : Hd) : (((flatZ H).set (k * 3) (.int .i64 (standH h).1)).set (k * 3 + 1) (.int .i64 (standH h).2.1)).set (k * 3 + 2) (.bool (standH h).2.2) = flatZ (H.set k h) := by
  refine List.ext_getElem? fun j => ?_
  rw [flatZ_get, List.getElem?_set, List.getElem?_set, List.getElem?_set, List.getElem?_set]
  simp only [List.length_set, flatZ_len]
  have q0 : partZ h 0 = .int .i64 (standH h).1 := rfl
  have q1 : partZ h 1 = .int .i64 (standH h).2.1 := rfl
  have q2 : partZ h 2 = .bool (standH h).2.2 := rfl
  by_cases a2 : k * 3 + 2 = j
  · have m : j % 3 = 2 := by omega
    have d : k = j / 3 := by omega
    rw [if_pos a2, if_pos (by omega), if_pos d, if_pos (by omega), m]; simp [q2]
  · rw [if_neg a2]
    by_cases a1 : k * 3 + 1 = j
    · have m : j % 3 = 1 := by omega
      have d : k = j / 3 := by omega
      rw [if_pos a1, if_pos (by omega), if_pos d, if_pos (by omega), m]; simp [q1]
    · rw [if_neg a1]
      by_cases a0 : k * 3 = j
      · have m : j % 3 = 0 := by omega
        have d : k = j / 3 := by omega
        rw [if_pos a0, if_pos (by omega), if_pos d, if_pos (by omega), m]; simp [q0]
      · rw [if_neg a0, if_neg (show ¬ k = j / 3 by omega), flatZ_get]
def fillX {α : Type} (d : α) (vs : List α) (k : Nat) : List α := vs.take k ++ List.replicate (vs.length - k) d
section
variable {α : Type} {d x : α} {vs : List α} {k : Nat}
theorem fillX_len (h : k ≤ vs.length) : (fillX d vs k).length = vs.length := by
  unfold fillX; rw [List.length_append, List.length_take, List.length_replicate]; omega
theorem fillX_zero : fillX d vs 0 = List.replicate vs.length d := by simp [fillX]
theorem fillX_all : fillX d vs vs.length = vs := by simp [fillX]
theorem fillX_set (h : vs[k]? = some x) : (fillX d vs k).set k x = fillX d vs (k + 1) := by
  obtain ⟨hk, rfl⟩ := List.getElem?_eq_some_iff.1 h
  unfold fillX
  rw [List.set_append_right _ _ (by rw [List.length_take]; omega), List.length_take, show k - min k vs.length = 0 by omega, List.take_succ_eq_append_getElem hk, List.append_assoc]
  congr 1
  rw [show vs.length - k = (vs.length - (k + 1)) + 1 by omega, List.replicate_succ]
  rfl
end
def zCells (n : Nat) : Array Value := (flatZ (List.replicate n (false, 0))).toArray
theorem info_std : (Tryz.prog.info? 93).map (fun i => (i.zero, i.size, i.bytes)) = some (some (.agg #[.int .i64 0, .int .i64 0, .bool false]), 3, 24) := by kernel_rfl
theorem z_made (n : Nat) : madeCells #[.int .i64 0, .int .i64 0, .bool false] (n * 3) = zCells n := by
  apply Array.ext_getElem?
  intro j
  unfold zCells
  rw [show (flatZ (List.replicate n ((false, 0) : Hd))).toArray[j]? = (flatZ (List.replicate n (false, 0)))[j]? from List.getElem?_toArray .., flatZ_get, List.getElem?_replicate]
  by_cases h : j < n * 3
  · have hjn : j / 3 < n := by omega
    rw [if_pos hjn]
    have : j % 3 = 0 ∨ j % 3 = 1 ∨ j % 3 = 2 := by omega
    rcases this with e | e | e <;> simp [madeCells, h, e, partZ, standH]
  · have hjn : ¬ j / 3 < n := by omega
    rw [if_neg hjn, Array.getElem?_eq_none (by simp [madeCells]; omega)]; rfl
theorem mk_stds (n : Nat) (hn : n ≤ 16) (u : World) : (Instr.makeSlice 88 (.int .i64 (n : Int)) (.int .i64 (n : Int))).run Tryz.prog u = .ok (.slice (some ⟨u.heap.size, 0, none⟩) n n) (u.alloc (.cells (zCells n) 93)) := by
  obtain ⟨i, hi, hz0, hz1, hz2⟩ := info_parts info_std
  have := run_makeSlice (P := Tryz.prog) u 88 93 i _ Tryz.underlying88 hi hz0 .i64 .i64 (n : Int) (n : Int) (by omega) (Int.le_refl _) (by rw [hz1]; omega) (by rw [hz2]; omega) (by omega)
  rw [this, hz1]
  rw [← z_made]
  simp [Value.cells]
theorem zblk_at {W : World} {zb k : Nat} {H : List Hd} {h : Hd} (hb : W.heap[zb]? = some (.cells (flatZ H).toArray 93)) (hk : H[k]? = some h) :
    W.cell? ⟨zb, k * 3, none⟩ = some (.int .i64 (standH h).1) ∧ W.cell? ⟨zb, k * 3 + 1, none⟩ = some (.int .i64 (standH h).2.1) ∧ W.cell? ⟨zb, k * 3 + 2, none⟩ = some (.bool (standH h).2.2) := by
  refine ⟨?_, ?_, ?_⟩
  · rw [at_cell hb, List.getElem?_toArray, flatZ_get, show k * 3 / 3 = k by omega, show k * 3 % 3 = 0 by omega, hk]; rfl
  · rw [at_cell hb, List.getElem?_toArray, flatZ_get, show (k * 3 + 1) / 3 = k by omega, show (k * 3 + 1) % 3 = 1 by omega, hk]; rfl
  · rw [at_cell hb, List.getElem?_toArray, flatZ_get, show (k * 3 + 2) / 3 = k by omega, show (k * 3 + 2) % 3 = 2 by omega, hk]; rfl
theorem zblk_set {W : World} {zb k : Nat} {H : List Hd} (hb : W.heap[zb]? = some (.cells (flatZ H).toArray 93)) (hk : k < H.length) (h : Hd) :
    (((W.setCell ⟨zb, k * 3, none⟩ (.int .i64 (standH h).1)).setCell ⟨zb, k * 3 + 1, none⟩ (.int .i64 (standH h).2.1)).setCell ⟨zb, k * 3 + 2, none⟩ (.bool (standH h).2.2)).heap[zb]? = some (.cells (flatZ (H.set k h)).toArray 93) := by
  have := at_set (at_set (at_set hb (k * 3) (.int .i64 (standH h).1)) (k * 3 + 1) (.int .i64 (standH h).2.1)) (k * 3 + 2) (.bool (standH h).2.2)
  rw [this, List.setIfInBounds_toArray, List.setIfInBounds_toArray, List.setIfInBounds_toArray, flatZ_set hk]
/-- what All tells -/
def AllS (w : World) (H : List Hd) (e : Ending) (w' : World) : Prop := ∃ zb, e = .returned (.slice (some ⟨zb, 0, none⟩) H.length H.length) ∧ w'.heap[zb]? = some (.cells (flatZ H).toArray 93) ∧ w.heap.size ≤ zb ∧ w.grownBy w' none
set_option maxHeartbeats 800000 in
theorem scall_any {s : Sc} {b hb : Nat} {w : World} (h : ScAt s b hb w) : Calls Tryz.prog 113 #[.pointer (some ⟨b, 0, none⟩)] w (AllS w s.H) := by
  have HS := hid h
  obtain ⟨c0, c1, c2, c3⟩ := h.cells
  have h16 := h.ok.n16
  unfold AllS
  obtain ⟨n, hn⟩ : ∃ n, s.H.length = n := ⟨_, rfl⟩
  have HN := hid hn
  have HZ := hid (show zCells n = (flatZ (fillX (false, 0) s.H 0)).toArray by rw [fillX_zero, hn]; rfl)
  rw [hn] at c0 h16 ⊢
  have hmk := mk_stds n h16
  have G0 := hid (World.grownBy_alloc w (.cells (zCells n) 93) none)
  have B0 := hid (at_new w (.cells (zCells n) 93))
  clear h hn c1 c2 c3
  go_enter Tryz.func113, Tryz.ntmps113
  go_wp2_with fail
  generalize w.alloc (.cells (zCells n) 93) = w2 at *
  obtain ⟨zb, hzb⟩ : ∃ zb, zb = w.heap.size := ⟨_, rfl⟩
  have HZB := hid hzb
  rw [← hzb] at B0 ⊢
  rw [HZ.out] at B0
  clear hzb hmk HZ
  go_loopw [15] (fun i wr => ∃ (k : Nat), k ≤ n ∧ i = .int .i64 (k : Int) ∧ wr.heap[zb]? = some (.cells (flatZ (fillX (false, 0) s.H k)).toArray 93) ∧ w.grownBy wr none)
    (fun i _ => n - (intOf i).toNat)
  case atStart => exact ⟨0, Nat.zero_le _, rfl, B0.out, G0.out⟩
  case round =>
    obtain ⟨k, hk, rfl, hbl, hgr⟩ := hrel
    have HBL := hid hbl
    have HGR := hid hgr
    clear hbl hgr c0
    by_cases hlt : k < n
    · have hkl : k < s.H.length := by rw [HN.out]; exact hlt
      have hkn : (k : Int) < (n : Int) := by omega
      obtain ⟨c0, c1, c2, c3⟩ := (HS.out.grown HGR.out).cells
      rw [HN.out] at c0
      have hx := List.getElem?_eq_getElem hkl
      have HST := hid (standing_any (HS.out.grown HGR.out) k _ hx)
      have HFS := hid (fillX_set (d := ((false, 0) : Hd)) hx)
      have HFL := hid (show k < (fillX ((false, 0) : Hd) s.H k).length by rw [fillX_len (by omega)]; exact hkl)
      generalize s.H[k] = h0 at *
      generalize fillX ((false, 0) : Hd) s.H k = F at *
      clear hx hkl c1 c2 c3
      unfold standV at HST
      go_wp2_with fail
      refine HST.out.mono ?_
      rintro e w3 ⟨rfl, hg⟩
      have hb3 := at_grown HBL.out hg (by simp)
      obtain ⟨y0, y1, y2⟩ := zblk_at hb3 (List.getElem?_eq_getElem HFL.out)
      have f0 := at_free hb3 (k * 3)
      have f1 := at_free hb3 (k * 3 + 1)
      have f2 := at_free hb3 (k * 3 + 2)
      have NB := hid (zblk_set hb3 HFL.out h0)
      rw [HFS.out] at NB
      have NG := hid (gb_new (gb_new (gb_new (gb_trans HGR.out hg (.inl rfl)) (p := ⟨zb, k * 3, none⟩) (Nat.le_of_eq HZB.out.symm) (.int .i64 (standH h0).1)) (p := ⟨zb, k * 3 + 1, none⟩) (Nat.le_of_eq HZB.out.symm) (.int .i64 (standH h0).2.1)) (p := ⟨zb, k * 3 + 2, none⟩) (Nat.le_of_eq HZB.out.symm) (.bool (standH h0).2.2))
      generalize (standH h0).1 = x0 at *
      generalize (standH h0).2.1 = x1 at *
      generalize (standH h0).2.2 = x2 at *
      generalize (standH (F[k]'HFL.out)).1 = u0 at *
      generalize (standH (F[k]'HFL.out)).2.1 = u1 at *
      generalize (standH (F[k]'HFL.out)).2.2 = u2 at *
      clear hb3 hg HST HBL HGR c0
      go_wp2_with fail
      go_roundw
      case rel => exact ⟨k + 1, by omega, by go_num, NB.out, NG.out⟩
      case measure => simp [intOf]; omega
    · obtain rfl : k = n := by omega
      rw [← HN.out, fillX_all] at HBL
      go_wp2_with fail
      go_ret
      exact ⟨zb, rfl, HBL.out, Nat.le_of_eq HZB.out.symm, HGR.out⟩
end Go.Proofs.YtecggbndlbkhdaaGreat
end
