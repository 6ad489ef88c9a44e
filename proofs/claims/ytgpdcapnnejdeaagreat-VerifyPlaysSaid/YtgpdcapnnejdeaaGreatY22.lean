/-
  '==' of two messages: part for part. No condition. And 3 texts more that this one stands on. No condition.
-/
import Derived.Test.YtgpdcapnnejdeaaGreatY9
import Derived.Laws.StructEq
import Derived.Test.YtgpdcapnnejdeaaGreatNVTold
import Derived.Test.YtgpdcapnnejdeaaGreatY15
import Derived.Test.YtgpdcapnnejdeaaGreatY8
import Derived.Test.YtgpdcapnnejdeaaGreatY16
import Derived.Test.YtgpdcapnnejdeaaGreatNGt
import Derived.Test.YtgpdcapnnejdeaaGreatY19
import Derived.Test.YtgpdcapnnejdeaaGreatY18
section
set_option linter.unusedSimpArgs false
namespace Go.Proofs.YtgpdcapnnejdeaaGreat
set_option maxRecDepth 100000
open Go.RowKit

def msgEq (a b : Mg) : Bool := a.kind == b.kind && a.who == b.who && a.gen == b.gen && a.seq == b.seq && a.epoch == b.epoch && a.value == b.value && a.metric == b.metric
theorem msgEq_iff (a b : Mg) : msgEq a b = true ↔ a = b := by
 cases a; cases b; simp [msgEq, and_assoc]
theorem msgEq_self (a : Mg) : msgEq a a = true := (msgEq_iff a a).2 rfl
set_option maxHeartbeats 1600000 in
theorem msg_equal (a b : Mg) (w : World) : (Op.equalIn 10000 39 (mg a) (mg b)).run Tryz.prog w = .ok (msgEq a b) w := by
 unfold msgEq
 rw [run_equalIn_agg w 9999 39 a.cells b.cells (by kernel_rfl) (by kernel_rfl)]
 simp [go_sem]
 (repeat' split) <;> simp [*]
end Go.Proofs.YtgpdcapnnejdeaaGreat
end
section
set_option linter.unusedSimpArgs false
set_option linter.unusedVariables false
namespace Go.Proofs.YtgpdcapnnejdeaaGreat
set_option maxRecDepth 100000
open Go.RowKit

@[reducible] def confObj (c : Conf) : Obj := .cells c.cells 27
def sdOf (c : Conf) : BitVec 64 := BitVec.ofInt 64 c.seed
def gOf (c : Conf) : Gt := .new (sdOf c) c.n.toNat c.grace.toNat c.window.toNat c.m.toNat c.fresh.toNat
theorem seed_q {c : Conf} (h : 0 ≤ c.seed ∧ c.seed < 100000) : c.seed = q (sdOf c) := by
 unfold sdOf q
 rw [BitVec.toNat_ofInt]
 have := h.1; have := h.2
 omega
theorem gnew_fine {c : Conf} (h : Fine c) (w : World) : Calls Tryz.prog 10 #[cf c] w (MadeG w (gOf c)) := by
 have hn := h.n; have hf := h.f; have hg := h.grace; have hw := h.window; have hm := h.m; have hr := h.fresh
 exact gnew_ok c (sdOf c) c.n.toNat c.grace.toNat c.window.toNat c.m.toNat c.fresh.toNat (fine_none h) (by omega) (by omega) (by omega) (by omega) (by omega) (seed_q h.seed)
  (by omega) (by omega) (by omega) (by omega) (by omega) (by omega) (by omega) (by omega) (by omega) (by omega) w
end Go.Proofs.YtgpdcapnnejdeaaGreat
end
section
set_option linter.unusedSimpArgs false
set_option linter.unusedVariables false
namespace Go.Proofs.YtgpdcapnnejdeaaGreat
set_option maxRecDepth 100000
open Go.RowKit

theorem put_g (B : RBl) (G : Gt) (m : Mg) (v : Value) : (B.put G m v).g = B.g := by unfold RBl.put; split <;> rfl
theorem rep_win {w : World} {F : List Nat} {B : RBl} {c : Conf} {KN : Nat} {G : Gt} (K : GrAt w F B c KN G) (m : Mg) : (G.rep m).win = G.win := by
 unfold Gt.rep
 split
 ·exact K.ok.nw _
 ·exact K.ok.ow _
theorem rtook {w : World} {F : List Nat} {B : RBl} {c : Conf} {KN : Nat} {G : Gt} {m : Mg} (K : GrAt w F B c KN G) (hin : G.in m.who = true) {k : Int} {r' : Rp} (hr : r'.win = G.win) {e : Ending} {w' : World} (h : LeavesQ w (B.rq G m) (B.rv G m) (KN + 1) (k, r') e w') :
  e = .returned (.int .i64 k) ∧ ∃ F1 B1, GrAt w' F1 B1 c (KN + 1) (G.setRep m r') ∧ B1.g = B.g ∧ Chg F w w' ∧ ∀ x ∈ F1, x ∈ F ∨ w.heap.size ≤ x := by
 obtain ⟨he, v', h1, h2, h3⟩ := h
 have hs := rq_in (m := m) K hin
 refine ⟨he, F ++ ownL v', B.put G m v', K.put hin h1 h2 h3 hr, put_g _ _ _ _, h2.more hs, fun x hx => ?_⟩
 rcases List.mem_append.1 hx with h | h
 ·exact .inl h
 ·rcases h3 x h with h | h
  ·exact .inl (hs x (List.mem_cons_of_mem _ h))
  ·exact .inr h
theorem rtake_any {F : List Nat} {B : RBl} {c : Conf} {KN : Nat} {G : Gt} (m : Mg) (now : Int) (w : World) (K : GrAt w F B c KN G) (hK : KN ≤ 999999) :
  Calls Tryz.prog 21 #[.pointer (some ⟨B.g, 0, none⟩), mg m, .int .i64 now] w (LeavesGr w F B c KN (G.take m now)) := by
 have same : ∀ {k : Int} {e : Ending} {w' : World}, (e = .returned (.int .i64 k) ∧ w.grownBy w' none) → LeavesGr w F B c KN (k, G) e w' := fun ⟨h, hg⟩ => ⟨h, F, B, (K.grown hg).more (Nat.le_succ _), rfl, chg_grown hg F, fun x hx => .inl hx⟩
 have CM := fun u => maymsg_any m u
 unfold Gt.take
 by_cases hM : mayOf m = true
 ·rw [hM] at CM
  by_cases h0 : now < 0
  ·rw [if_pos (Or.inr (Or.inl h0))]; exact (rtake_low m now w K CM h0).mono fun _ _ h => same h
  ·by_cases h1 : 1099511627776 < now
   ·rw [if_pos (Or.inr (Or.inr h1))]; exact (rtake_high m now w K CM (by omega) h1).mono fun _ _ h => same h
   ·rw [if_neg (by rw [hM]; simp; omega)]
    have hcn := K.cn
    by_cases h2 : G.in m.who = true
    ·rw [if_neg (by rw [h2]; simp)]
     have hh := of_decide_eq_true h2
     have hw : m.who < c.n := by omega
     by_cases h3 : G.may m now = true
     ·rw [if_neg (by rw [h3]; simp)]
      have C2 := fun u (k : GrAt u F B c KN G) => rkeyg_yes m now u k h2 hM h3
      have C3 := fun u (k : GrAt u F B c KN G) => qtake_any m.seq u (rq_at (m := m) k h2) hK
      unfold Rp.take at C3
      by_cases h4 : (G.rep m).may m.seq = true
      ·rw [if_neg (by rw [h4]; simp)]
       rw [if_pos h4] at C3
       have C4 := fun u (k : GrAt u F B c KN G) => (C3 u k).mono fun e w' h => rtook k h2 (by rw [put_win, rep_win k]) h
       by_cases h5 : m.kind = 2
       ·rw [if_pos h5]
        have hi : m.who.toNat < G.r.n := by omega
        obtain ⟨g1, g2⟩ := of_decide_eq_true h3
        have hg := g1 h5
        obtain ⟨_, _, hgen, _⟩ := may_of hM
        have hr := setRep_r G m ((G.rep m).put m.seq)
        exact rtake_rot m now w K CM (by omega) (by omega) hw _ _ _ C2 _ C4 h5 m.who.toNat (by rw [hr]; exact hi) (by omega) (by rw [hr]; omega) hgen.2
       ·rw [if_neg h5]
        exact rtake_ok m now w K CM (by omega) (by omega) hw _ _ _ C2 _ C4 h5
      ·have h4' : (G.rep m).may m.seq = false := by simpa using h4
       rw [if_pos h4']
       rw [if_neg h4] at C3
       have C4 := fun u (k : GrAt u F B c KN G) => (C3 u k).mono fun e w' h => rtook k h2 (rep_win k m) h
       rw [setRep_self] at C4
       exact rtake_replay m now w K CM (by omega) (by omega) hw _ _ _ C2 C4
     ·have h3' : G.may m now = false := by simpa using h3
      rw [if_pos h3']
      exact (rtake_gen m now w K CM (by omega) (by omega) hw (fun u k => rkeyg_none m now u k h2 hM h3')).mono fun _ _ h => same h
    ·have h2' : G.in m.who = false := by simpa using h2
     rw [if_pos h2']
     have hn := of_decide_eq_false h2'
     obtain ⟨_, hwho, _⟩ := may_of hM
     exact (rtake_who m now w K CM (by omega) (by omega) (by omega)).mono fun _ _ h => same h
 ·have hM' : mayOf m = false := by simpa using hM
  rw [if_pos (Or.inl hM')]
  rw [hM'] at CM
  exact (rtake_may m now w K CM).mono fun _ _ h => same h
end Go.Proofs.YtgpdcapnnejdeaaGreat
end
section
set_option linter.unusedSimpArgs false
set_option linter.unusedVariables false
namespace Go.Proofs.YtgpdcapnnejdeaaGreat
set_option maxRecDepth 100000
open Go.RowKit

def OwnS (w : World) (v : Value) (l : List Nat) : Prop := w.ownsRow 0 35 1 v l.length (l.map pv)
theorem OwnS.form {w : World} {v : Value} {l : List Nat} (h : OwnS w v l) : ∃ p c, v = .slice p l.length c := by
 obtain ⟨_, h | ⟨g, cap, cur, rfl, _⟩⟩ := h
 ·exact ⟨none, 0, by rw [h.1, h.2]⟩
 ·exact ⟨_, _, rfl⟩
theorem OwnS.obj {w : World} {v : Value} {l : List Nat} (h : OwnS w v l) {g : Nat} (hg : g ∈ ownL v) : ∃ cs : Array Value, w.heap[g]? = some (.cells cs 35) := by
 obtain ⟨_, h | ⟨g', cap, cur, rfl, hb, hh, _⟩⟩ := h
 ·rw [h.1] at hg; simp [ownL, Value.ownBlock] at hg
 ·simp [ownL, Value.ownBlock] at hg
  subst hg
  exact ⟨cur, hh⟩
theorem OwnS.full {w : World} {v : Value} {l : List Nat} (h : OwnS w v l) (hl : 0 < l.length) : ∃ g c cs, v = .slice (some ⟨g, 0, none⟩) l.length c ∧ l.length ≤ c ∧ c ≤ maxLen ∧ w.heap[g]? = some (.cells cs 35) ∧ ∀ j (hj : j < l.length), cs[j]? = some (pv l[j]) := by
 obtain ⟨_, h | ⟨g, cap, cur, rfl, _, hh, h1, h2, h3, h4⟩⟩ := h
 ·exact absurd hl (by rw [h.2]; simp)
 ·refine ⟨g, cap, cur, rfl, h1, h2, hh, fun j hj => ?_⟩
  have hc : cur.toList[j]? = (l.map pv)[j]? := by
   rw [← h4, Nat.mul_one, List.getElem?_take]; simp [hj]
  rw [← Array.getElem?_toList, hc]
  simp [List.getElem?_map, List.getElem?_eq_getElem hj]
theorem OwnS.chg {w w1 : World} {F : List Nat} {v : Value} {l : List Nat} (h : OwnS w v l) (hg : Chg F w w1) (hr : ∀ g, g ∈ ownL v → g ∉ F) : OwnS w1 v l := by
 obtain ⟨h0, h | ⟨g, cap, cur, rfl, hb, hh, h1⟩⟩ := h
 ·exact ⟨h0, .inl h⟩
 ·exact ⟨h0, .inr ⟨g, cap, cur, rfl, hb, hg.at hh (hr g (by simp [ownL, Value.ownBlock])), h1⟩⟩
theorem OwnS.nil (w : World) : OwnS w (.slice none 0 0) [] := ⟨rfl, .inl ⟨rfl, rfl⟩⟩
theorem info_sl : (Tryz.prog.info? 35).map (fun i => (i.zero, i.size, i.bytes)) = some (some (.pointer none), 1, 8) := by kernel_rfl
theorem run_append_seal {w : World} {ty : TypeId} (v : Value) (l : List Nat) (hown : OwnS w v l) (g n : Nat) (hr : w.cell? ⟨g, 0, none⟩ = some (pv n)) (hlen : l.length + 1 ≤ 1000000) :
  ∃ v' w', (Builtin.append_ #[34, 34] ty #[v, .slice (some ⟨g, 0, none⟩) 1 1]).run Tryz.prog w = .ok v' w' ∧ OwnS w' v' (l ++ [n]) ∧ w.grownBy w' v.ownBlock ∧ (v'.ownBlock = v.ownBlock ∨ v'.ownBlock = some w.heap.size) := by
 obtain ⟨i, hi, hz0, hz1, hz2⟩ := info_parts info_sl
 obtain ⟨v', w', h0, h1, h2, _, h3⟩ := run_append_own_at (P := Tryz.prog) w 0 34 ty 35 i (.pointer none) 1 8 Tryz.underlying34 hi hz0 hz1 hz2 rfl (by omega) v l.length (l.map pv) hown ⟨g, 0, none⟩ 1 1 [pv n] (by simp)
  (fun j y hj => by
   cases j with
   | zero => cases hj; exact hr
   | succ j => cases hj)
  (fun y hy => by simp at hy; subst hy; rfl)
  (by unfold maxLen; omega) (by omega) (Nat.zero_le _)
 exact ⟨v', w', h0, by unfold OwnS; rw [List.length_append, List.map_append]; exact h1, h2, h3⟩
theorem wp_append_seal {w : World} {o : Oper} {a : Act} {K : Act → World → Prop} {Q : Exit → Act → World → Prop} (s x : Operand)
  (ho : o.op = .call { callee := .builtin .append, args := #[s, x], argTypes := #[34, 34] })
  (v : Value) (l : List Nat) (hs : a.eval s = v) (hown : OwnS w v l) (g n : Nat) (hx : a.eval x = .slice (some ⟨g, 0, none⟩) 1 1) (hr : w.cell? ⟨g, 0, none⟩ = some (pv n)) (hlen : l.length + 1 ≤ 1000000)
  (h : ∀ v' w', OwnS w' v' (l ++ [n]) → w.grownBy w' v.ownBlock → (v'.ownBlock = v.ownBlock ∨ v'.ownBlock = some w.heap.size) → K (a.put o.dst v') w') :
  Oper.wp Tryz.prog o a w K Q := by
 obtain ⟨v', w', hrun, h1, h2, h3⟩ := run_append_seal (ty := o.type) v l hown g n hr hlen
 unfold Oper.wp execOp
 simp only [ho, resolve, invoke, builtin, Sem.run_bind, Sem.run_pure, Result.andThen_ok, List.map_toArray, List.map_cons, List.map_nil, hs, hx, hrun]
 exact h v' w' h1 h2 h3

def OwnT (w : World) (v : Value) (l : List ByteArray) : Prop := w.ownsRow 0 9 1 v l.length (l.map Value.string)
theorem OwnT.form {w : World} {v : Value} {l : List ByteArray} (h : OwnT w v l) : ∃ p c, v = .slice p l.length c := by
 obtain ⟨_, h | ⟨g, cap, cur, rfl, _⟩⟩ := h
 ·exact ⟨none, 0, by rw [h.1, h.2]⟩
 ·exact ⟨_, _, rfl⟩
theorem OwnT.obj {w : World} {v : Value} {l : List ByteArray} (h : OwnT w v l) {g : Nat} (hg : g ∈ ownL v) : ∃ cs : Array Value, w.heap[g]? = some (.cells cs 9) := by
 obtain ⟨_, h | ⟨g', cap, cur, rfl, hb, hh, _⟩⟩ := h
 ·rw [h.1] at hg; simp [ownL, Value.ownBlock] at hg
 ·simp [ownL, Value.ownBlock] at hg
  subst hg
  exact ⟨cur, hh⟩
theorem OwnT.full {w : World} {v : Value} {l : List ByteArray} (h : OwnT w v l) (hl : 0 < l.length) : ∃ g c cs, v = .slice (some ⟨g, 0, none⟩) l.length c ∧ l.length ≤ c ∧ c ≤ maxLen ∧ w.heap[g]? = some (.cells cs 9) ∧ ∀ j (hj : j < l.length), cs[j]? = some (Value.string l[j]) := by
 obtain ⟨_, h | ⟨g, cap, cur, rfl, _, hh, h1, h2, h3, h4⟩⟩ := h
 ·exact absurd hl (by rw [h.2]; simp)
 ·refine ⟨g, cap, cur, rfl, h1, h2, hh, fun j hj => ?_⟩
  have hc : cur.toList[j]? = (l.map Value.string)[j]? := by
   rw [← h4, Nat.mul_one, List.getElem?_take]; simp [hj]
  rw [← Array.getElem?_toList, hc]
  simp [List.getElem?_map, List.getElem?_eq_getElem hj]
theorem OwnT.chg {w w1 : World} {F : List Nat} {v : Value} {l : List ByteArray} (h : OwnT w v l) (hg : Chg F w w1) (hr : ∀ g, g ∈ ownL v → g ∉ F) : OwnT w1 v l := by
 obtain ⟨h0, h | ⟨g, cap, cur, rfl, hb, hh, h1⟩⟩ := h
 ·exact ⟨h0, .inl h⟩
 ·exact ⟨h0, .inr ⟨g, cap, cur, rfl, hb, hg.at hh (hr g (by simp [ownL, Value.ownBlock])), h1⟩⟩
theorem OwnT.nil (w : World) : OwnT w (.slice none 0 0) [] := ⟨rfl, .inl ⟨rfl, rfl⟩⟩
theorem info_str : (Tryz.prog.info? 9).map (fun i => (i.zero, i.size, i.bytes)) = some (some (.string ⟨#[]⟩), 1, 16) := by kernel_rfl
theorem run_append_str {w : World} {ty : TypeId} (v : Value) (l : List ByteArray) (hown : OwnT w v l) (g : Nat) (n : ByteArray) (hr : w.cell? ⟨g, 0, none⟩ = some (Value.string n)) (hlen : l.length + 1 ≤ 1000000) :
  ∃ v' w', (Builtin.append_ #[37, 37] ty #[v, .slice (some ⟨g, 0, none⟩) 1 1]).run Tryz.prog w = .ok v' w' ∧ OwnT w' v' (l ++ [n]) ∧ w.grownBy w' v.ownBlock ∧ (v'.ownBlock = v.ownBlock ∨ v'.ownBlock = some w.heap.size) := by
 obtain ⟨i, hi, hz0, hz1, hz2⟩ := info_parts info_str
 obtain ⟨v', w', h0, h1, h2, _, h3⟩ := run_append_own_at (P := Tryz.prog) w 0 37 ty 9 i (.string ⟨#[]⟩) 1 16 Tryz.underlying37 hi hz0 hz1 hz2 rfl (by omega) v l.length (l.map Value.string) hown ⟨g, 0, none⟩ 1 1 [Value.string n] (by simp)
  (fun j y hj => by
   cases j with
   | zero => cases hj; exact hr
   | succ j => cases hj)
  (fun y hy => by simp at hy; subst hy; rfl)
  (by unfold maxLen; omega) (by omega) (Nat.zero_le _)
 exact ⟨v', w', h0, by unfold OwnT; rw [List.length_append, List.map_append]; exact h1, h2, h3⟩
theorem wp_append_str {w : World} {o : Oper} {a : Act} {K : Act → World → Prop} {Q : Exit → Act → World → Prop} (s x : Operand)
  (ho : o.op = .call { callee := .builtin .append, args := #[s, x], argTypes := #[37, 37] })
  (v : Value) (l : List ByteArray) (hs : a.eval s = v) (hown : OwnT w v l) (g : Nat) (n : ByteArray) (hx : a.eval x = .slice (some ⟨g, 0, none⟩) 1 1) (hr : w.cell? ⟨g, 0, none⟩ = some (Value.string n)) (hlen : l.length + 1 ≤ 1000000)
  (h : ∀ v' w', OwnT w' v' (l ++ [n]) → w.grownBy w' v.ownBlock → (v'.ownBlock = v.ownBlock ∨ v'.ownBlock = some w.heap.size) → K (a.put o.dst v') w') :
  Oper.wp Tryz.prog o a w K Q := by
 obtain ⟨v', w', hrun, h1, h2, h3⟩ := run_append_str (ty := o.type) v l hown g n hr hlen
 unfold Oper.wp execOp
 simp only [ho, resolve, invoke, builtin, Sem.run_bind, Sem.run_pure, Result.andThen_ok, List.map_toArray, List.map_cons, List.map_nil, hs, hx, hrun]
 exact h v' w' h1 h2 h3

theorem appl_seal {w : World} {ops : Array Oper} {rest : List Oper} {o : Oper} {a : Act} {Q : Exit → Act → World → Prop} (hgd : o.guard = none) (s x : Operand)
  (ho : o.op = .call { callee := .builtin .append, args := #[s, x], argTypes := #[34, 34] })
  (v : Value) (l : List Nat) (hs : a.eval s = v) (hown : OwnS w v l) (g : Nat) (n : Nat) (hx : a.eval x = .slice (some ⟨g, 0, none⟩) 1 1) (hr : w.cell? ⟨g, 0, none⟩ = some (pv n)) (hlen : l.length + 1 ≤ 1000000)
  (h : ∀ v' w', OwnS w' v' (l ++ [n]) → w.grownBy w' v.ownBlock → (v'.ownBlock = v.ownBlock ∨ v'.ownBlock = some w.heap.size) → wpList Tryz.prog ops Q rest (a.put o.dst v') w') : wpList Tryz.prog ops Q (o :: rest) a w := by
 have hw : Region.wanted o (yielded ops a.tmps) = true := by unfold Region.wanted; rw [hgd]
 refine wpList_step fun K hK => ?_
 rw [if_pos hw]
 exact wp_append_seal s x ho v l hs hown g n hx hr hlen fun v' w' h1 h2 h3 => hK _ _ (h v' w' h1 h2 h3)
theorem appl_str {w : World} {ops : Array Oper} {rest : List Oper} {o : Oper} {a : Act} {Q : Exit → Act → World → Prop} (hgd : o.guard = none) (s x : Operand)
  (ho : o.op = .call { callee := .builtin .append, args := #[s, x], argTypes := #[37, 37] })
  (v : Value) (l : List ByteArray) (hs : a.eval s = v) (hown : OwnT w v l) (g : Nat) (n : ByteArray) (hx : a.eval x = .slice (some ⟨g, 0, none⟩) 1 1) (hr : w.cell? ⟨g, 0, none⟩ = some (Value.string n)) (hlen : l.length + 1 ≤ 1000000)
  (h : ∀ v' w', OwnT w' v' (l ++ [n]) → w.grownBy w' v.ownBlock → (v'.ownBlock = v.ownBlock ∨ v'.ownBlock = some w.heap.size) → wpList Tryz.prog ops Q rest (a.put o.dst v') w') : wpList Tryz.prog ops Q (o :: rest) a w := by
 have hw : Region.wanted o (yielded ops a.tmps) = true := by unfold Region.wanted; rw [hgd]
 refine wpList_step fun K hK => ?_
 rw [if_pos hw]
 exact wp_append_str s x ho v l hs hown g n hx hr hlen fun v' w' h1 h2 h3 => hK _ _ (h v' w' h1 h2 h3)
end Go.Proofs.YtgpdcapnnejdeaaGreat
end
