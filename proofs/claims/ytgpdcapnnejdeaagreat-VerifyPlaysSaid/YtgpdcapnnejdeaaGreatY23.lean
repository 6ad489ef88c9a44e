/-
  Contract: which key seals a message now, by the document, whatever the message: the model's answer. The condition: its gate lies there, the message may be sent, its collector is one of the gate's own. And 1 texts more that this one stands on. No condition.
-/
import Derived.Test.YtgpdcapnnejdeaaGreatNGk
section
set_option linter.unusedSimpArgs false
set_option linter.unusedVariables false
namespace Go.Proofs.YtgpdcapnnejdeaaGreat
set_option maxRecDepth 100000
open Go.RowKit

def RBl.rq (B : RBl) (G : Gt) (m : Mg) : Nat := if sealedOf m = G.r.gen m.who.toNat then B.A m.who.toNat else B.O m.who.toNat
def RBl.rv (B : RBl) (G : Gt) (m : Mg) : Value := if sealedOf m = G.r.gen m.who.toNat then B.vA m.who.toNat else B.vO m.who.toNat
theorem rq_at {w : World} {F : List Nat} {B : RBl} {c : Conf} {KN : Nat} {G : Gt} {m : Mg} (k : GrAt w F B c KN G) (hin : G.in m.who = true) : RqAt w (B.rq G m) (B.rv G m) KN (G.rep m) := by
 have h0 := of_decide_eq_true hin
 have hi : m.who.toNat < G.r.n := by omega
 unfold RBl.rq RBl.rv Gt.rep
 split
 ·exact k.now _ hi
 ·exact k.old _ hi
theorem rkeyg_yes {F : List Nat} {B : RBl} {c : Conf} {KN : Nat} {G : Gt} (m : Mg) (now : Int) (w : World) (K : GrAt w F B c KN G) (hin : G.in m.who = true) (hM : mayOf m = true) (hm : G.may m now = true) :
  Calls Tryz.prog 60 #[.pointer (some ⟨B.g, 0, none⟩), mg m, .int .i64 now] w fun e w' => e = .returned (.tuple #[pair (G.key m).a (G.key m).b, .pointer (some ⟨B.rq G m, 0, none⟩), .int .i64 0]) ∧ w.grownBy w' none := by
 have h0 := of_decide_eq_true hin
 obtain ⟨_, _, hg, _⟩ := may_of hM
 obtain ⟨kind, who, gen, seq, epoch, value, metric⟩ := m
 obtain ⟨i, rfl⟩ := Int.eq_ofNat_of_zero_le h0.1
 have hi : i < G.r.n := by have := h0.2; simp at this; omega
 obtain ⟨m1, m2⟩ := of_decide_eq_true hm
 unfold Gt.key RBl.rq
 unfold sealedOf at m2 ⊢
 dsimp only [Int.toNat_natCast] at m1 m2 hg ⊢
 by_cases hk : kind = 2
 ·subst hk
  rw [if_pos rfl] at m2 ⊢
  have hs := m1 rfl
  rw [if_pos hs]
  exact rkeyg_rot i now w K hi hg.1 hg.2 m2 hs
 ·rw [if_neg hk] at m2 ⊢
  by_cases hs : gen = G.r.gen i
  ·rw [if_pos hs]; exact rkeyg_now i now w K hi hg.1 hg.2 hk m2 hs
  ·rw [if_neg hs]; exact rkeyg_old i now w K hi hg.1 hg.2 hk m2 hs
theorem rkeyg_none {F : List Nat} {B : RBl} {c : Conf} {KN : Nat} {G : Gt} (m : Mg) (now : Int) (w : World) (K : GrAt w F B c KN G) (hin : G.in m.who = true) (hM : mayOf m = true) (hm : G.may m now = false) :
  Calls Tryz.prog 60 #[.pointer (some ⟨B.g, 0, none⟩), mg m, .int .i64 now] w fun e w' => e = .returned (.tuple #[pair 0 0, .pointer none, .int .i64 4]) ∧ w.grownBy w' none := by
 have h0 := of_decide_eq_true hin
 obtain ⟨_, _, hg, _⟩ := may_of hM
 obtain ⟨kind, who, gen, seq, epoch, value, metric⟩ := m
 obtain ⟨i, rfl⟩ := Int.eq_ofNat_of_zero_le h0.1
 have hi : i < G.r.n := by have := h0.2; simp at this; omega
 have hn := of_decide_eq_false hm
 unfold sealedOf at hn
 dsimp only [Int.toNat_natCast] at hn hg
 by_cases hk : kind = 2
 ·subst hk
  rw [if_pos rfl] at hn
  by_cases hs : gen - 1 = G.r.gen i
  ·exact rkeyg_rno i now w K hi hg.1 hg.2 (fun h => hn ⟨fun _ => hs, h⟩) hs
  ·exact rkeyg_rgen i now w K hi hg.1 hg.2 hs
 ·rw [if_neg hk] at hn
  exact rkeyg_no i now w K hi hg.1 hg.2 hk (fun h => hn ⟨fun e => absurd e hk, h⟩)
end Go.Proofs.YtgpdcapnnejdeaaGreat
end
section
set_option linter.unusedSimpArgs false
set_option linter.unusedVariables false
namespace Go.Proofs.YtgpdcapnnejdeaaGreat
set_option maxRecDepth 100000
open Go.RowKit

section
variable {w w' : World} {F : List Nat} {B : RBl} {c : Conf} {KN i : Nat} {G : Gt} {v' : Value} {r' : Rp}
theorem GrAt.putA (K : GrAt w F B c KN G) (hi : i < G.r.n) (H : RqAt w' (B.A i) v' (KN + 1) r') (hc : Chg (B.oA i) w w') (hv : ∀ g, g ∈ ownL v' → g ∈ ownL (B.vA i) ∨ w.heap.size ≤ g) (hw : r'.win = G.win) :
  GrAt w' (F ++ ownL v') { B with vA := fun j => if j = i then v' else B.vA j } c (KN + 1) { G with now := fun j => if j = i then r' else G.now j } := by
 have hB : ∀ x, x ∈ B.base → x ∉ B.oA i := fun x hx hm => K.dA i hi x hm hx
 have new : ∀ j x, x ∈ RBl.oA { B with vA := fun j => if j = i then v' else B.vA j } j → x ∈ B.oA j ∨ (j = i ∧ x ∈ ownL v' ∧ w.heap.size ≤ x) := fun j x hx => by
  simp only [RBl.oA, List.mem_cons] at hx ⊢
  rcases hx with rfl | hx
  ·exact .inl (.inl rfl)
  ·by_cases e : j = i
   ·subst e
    rw [if_pos rfl] at hx
    rcases hv x hx with h | h
    ·exact .inl (.inr h)
    ·exact .inr ⟨rfl, hx, h⟩
   ·rw [if_neg e] at hx
    exact .inl (.inr hx)
 have ltA : ∀ j, j < G.r.n → ∀ x ∈ B.oA j, x < w.heap.size := fun j hj x hx => K.lt x (K.mA j hj x hx)
 have ltO : ∀ j, j < G.r.n → ∀ x ∈ B.oO j, x < w.heap.size := fun j hj x hx => K.lt x (K.mO j hj x hx)
 refine ⟨hc.at K.top (hB _ (by simp [RBl.base])), K.cn, K.cw, K.cm, K.cf, K.ring.chg hc (hB _ (by simp [RBl.base])) (hB _ (by simp [RBl.base])) (hB _ (by simp [RBl.base])),
  by obtain ⟨cs, h1, h2⟩ := K.rep; exact ⟨cs, hc.at h1 (hB _ (by simp [RBl.base])), h2⟩, by obtain ⟨cs, h1, h2⟩ := K.pst; exact ⟨cs, hc.at h1 (hB _ (by simp [RBl.base])), h2⟩, K.rps, K.c1, K.c2,
  fun j hj => ?_, fun j hj => ?_, fun j hj x hx hb => ?_, fun j hj => K.dO j hj, fun a b ha hb hab x hx hy => ?_, fun a b ha hb hab => K.dOO a b ha hb hab, fun a b ha hb x hx hy => ?_,
  fun x hx => List.mem_append_left _ (K.mB x hx), fun j hj x hx => ?_, fun j hj x hx => List.mem_append_left _ (K.mO j hj x hx), fun x hx => ?_, ⟨K.ok.w1, K.ok.w2, K.ok.m1, K.ok.m2, K.ok.f1, K.ok.f2, fun k => ?_, K.ok.ow⟩⟩
 ·dsimp only
  by_cases e : j = i
  ·subst e; rw [if_pos rfl, if_pos rfl]; exact H
  ·rw [if_neg e, if_neg e]
   have d := K.dAA j i hj hi e
   exact ((K.now j hj).chg hc (d _ (by simp [RBl.oA])) (fun g hg => d _ (by simp [RBl.oA, hg]))).more (Nat.le_succ _)
 ·have d := (K.dAO i j hi hj).symm
  exact ((K.old j hj).chg hc (d _ (by simp [RBl.oO])) (fun g hg => d _ (by simp [RBl.oO, hg]))).more (Nat.le_succ _)
 ·rcases new j x hx with h | ⟨_, _, h⟩
  ·exact K.dA j hj x h hb
  ·have := K.lt x (K.mB x hb); omega
 ·rcases new a x hx with h | ⟨e, _, h⟩ <;> rcases new b x hy with h' | ⟨e', _, h'⟩
  ·exact K.dAA a b ha hb hab x h h'
  ·have := ltA a ha x h; omega
  ·have := ltA b hb x h'; omega
  ·omega
 ·rcases new a x hx with h | ⟨e, _, h⟩
  ·exact K.dAO a b ha hb x h hy
  ·have := ltO b hb x hy; omega
 ·rcases new j x hx with h | ⟨_, h, _⟩
  ·exact List.mem_append_left _ (K.mA j hj x h)
  ·exact List.mem_append_right _ h
 ·rcases List.mem_append.1 hx with h | h
  ·exact Nat.lt_of_lt_of_le (K.lt x h) hc.size
  ·exact H.lt.2 x h
 ·dsimp only
  split
  ·exact hw
  ·exact K.ok.nw k
theorem GrAt.putO (K : GrAt w F B c KN G) (hi : i < G.r.n) (H : RqAt w' (B.O i) v' (KN + 1) r') (hc : Chg (B.oO i) w w') (hv : ∀ g, g ∈ ownL v' → g ∈ ownL (B.vO i) ∨ w.heap.size ≤ g) (hw : r'.win = G.win) :
  GrAt w' (F ++ ownL v') { B with vO := fun j => if j = i then v' else B.vO j } c (KN + 1) { G with old := fun j => if j = i then r' else G.old j } := by
 have hB : ∀ x, x ∈ B.base → x ∉ B.oO i := fun x hx hm => K.dO i hi x hm hx
 have new : ∀ j x, x ∈ RBl.oO { B with vO := fun j => if j = i then v' else B.vO j } j → x ∈ B.oO j ∨ (j = i ∧ x ∈ ownL v' ∧ w.heap.size ≤ x) := fun j x hx => by
  simp only [RBl.oO, List.mem_cons] at hx ⊢
  rcases hx with rfl | hx
  ·exact .inl (.inl rfl)
  ·by_cases e : j = i
   ·subst e
    rw [if_pos rfl] at hx
    rcases hv x hx with h | h
    ·exact .inl (.inr h)
    ·exact .inr ⟨rfl, hx, h⟩
   ·rw [if_neg e] at hx
    exact .inl (.inr hx)
 have ltA : ∀ j, j < G.r.n → ∀ x ∈ B.oA j, x < w.heap.size := fun j hj x hx => K.lt x (K.mA j hj x hx)
 have ltO : ∀ j, j < G.r.n → ∀ x ∈ B.oO j, x < w.heap.size := fun j hj x hx => K.lt x (K.mO j hj x hx)
 refine ⟨hc.at K.top (hB _ (by simp [RBl.base])), K.cn, K.cw, K.cm, K.cf, K.ring.chg hc (hB _ (by simp [RBl.base])) (hB _ (by simp [RBl.base])) (hB _ (by simp [RBl.base])),
  by obtain ⟨cs, h1, h2⟩ := K.rep; exact ⟨cs, hc.at h1 (hB _ (by simp [RBl.base])), h2⟩, by obtain ⟨cs, h1, h2⟩ := K.pst; exact ⟨cs, hc.at h1 (hB _ (by simp [RBl.base])), h2⟩, K.rps, K.c1, K.c2,
  fun j hj => ?_, fun j hj => ?_, fun j hj => K.dA j hj, fun j hj x hx hb => ?_, fun a b ha hb hab => K.dAA a b ha hb hab, fun a b ha hb hab x hx hy => ?_, fun a b ha hb x hx hy => ?_,
  fun x hx => List.mem_append_left _ (K.mB x hx), fun j hj x hx => List.mem_append_left _ (K.mA j hj x hx), fun j hj x hx => ?_, fun x hx => ?_, ⟨K.ok.w1, K.ok.w2, K.ok.m1, K.ok.m2, K.ok.f1, K.ok.f2, K.ok.nw, fun k => ?_⟩⟩
 ·have d := K.dAO j i hj hi
  exact ((K.now j hj).chg hc (d _ (by simp [RBl.oA])) (fun g hg => d _ (by simp [RBl.oA, hg]))).more (Nat.le_succ _)
 ·dsimp only
  by_cases e : j = i
  ·subst e; rw [if_pos rfl, if_pos rfl]; exact H
  ·rw [if_neg e, if_neg e]
   have d := K.dOO j i hj hi e
   exact ((K.old j hj).chg hc (d _ (by simp [RBl.oO])) (fun g hg => d _ (by simp [RBl.oO, hg]))).more (Nat.le_succ _)
 ·rcases new j x hx with h | ⟨_, _, h⟩
  ·exact K.dO j hj x h hb
  ·have := K.lt x (K.mB x hb); omega
 ·rcases new a x hx with h | ⟨e, _, h⟩ <;> rcases new b x hy with h' | ⟨e', _, h'⟩
  ·exact K.dOO a b ha hb hab x h h'
  ·have := ltO a ha x h; omega
  ·have := ltO b hb x h'; omega
  ·omega
 ·rcases new b x hy with h | ⟨e, _, h⟩
  ·exact K.dAO a b ha hb x hx h
  ·have := ltA a ha x hx; omega
 ·rcases new j x hx with h | ⟨_, h, _⟩
  ·exact List.mem_append_left _ (K.mO j hj x h)
  ·exact List.mem_append_right _ h
 ·rcases List.mem_append.1 hx with h | h
  ·exact Nat.lt_of_lt_of_le (K.lt x h) hc.size
  ·exact H.lt.2 x h
 ·dsimp only
  split
  ·exact hw
  ·exact K.ok.ow k
def RBl.put (B : RBl) (G : Gt) (m : Mg) (v' : Value) : RBl := if sealedOf m = G.r.gen m.who.toNat then { B with vA := fun j => if j = m.who.toNat then v' else B.vA j } else { B with vO := fun j => if j = m.who.toNat then v' else B.vO j }
theorem GrAt.put {m : Mg} (K : GrAt w F B c KN G) (hin : G.in m.who = true) (H : RqAt w' (B.rq G m) v' (KN + 1) r') (hc : Chg (B.rq G m :: ownL (B.rv G m)) w w') (hv : ∀ g, g ∈ ownL v' → g ∈ ownL (B.rv G m) ∨ w.heap.size ≤ g) (hw : r'.win = G.win) :
  GrAt w' (F ++ ownL v') (B.put G m v') c (KN + 1) (G.setRep m r') := by
 have h0 := of_decide_eq_true hin
 have hi : m.who.toNat < G.r.n := by omega
 unfold RBl.rq at H hc
 unfold RBl.rv at hc hv
 unfold RBl.put Gt.setRep
 by_cases e : sealedOf m = G.r.gen m.who.toNat
 ·rw [if_pos e] at H hv
  rw [if_pos e, if_pos e] at hc
  rw [if_pos e, if_pos e]
  exact K.putA hi H hc hv hw
 ·rw [if_neg e] at H hv
  rw [if_neg e, if_neg e] at hc
  rw [if_neg e, if_neg e]
  exact K.putO hi H hc hv hw
theorem rq_in {m : Mg} (K : GrAt w F B c KN G) (hin : G.in m.who = true) : ∀ x ∈ B.rq G m :: ownL (B.rv G m), x ∈ F := by
 have h0 := of_decide_eq_true hin
 have hi : m.who.toNat < G.r.n := by omega
 unfold RBl.rq RBl.rv
 split
 ·exact K.mA _ hi
 ·exact K.mO _ hi
def RBl.turn (B : RBl) (i nb : Nat) : RBl := { B with A := fun j => if j = i then nb else B.A j, O := fun j => if j = i then B.A i else B.O j, vA := fun j => if j = i then .slice none 0 0 else B.vA j, vO := fun j => if j = i then B.vA i else B.vO j }
theorem turn_oA (B : RBl) (i nb j : Nat) : (B.turn i nb).oA j = if j = i then [nb] else B.oA j := by
 unfold RBl.oA RBl.turn
 by_cases e : j = i <;> simp [e, ownL, Value.ownBlock]
theorem turn_oO (B : RBl) (i nb j : Nat) : (B.turn i nb).oO j = if j = i then B.oA i else B.oO j := by
 unfold RBl.oO RBl.oA RBl.turn
 by_cases e : j = i <;> simp [e]
theorem GrAt.turned {nb : Nat} {cs ds : Array Value} (K : GrAt w F B c KN G) (hi : i < G.r.n) (hcs : w.heap[B.rp]? = some (.cells cs 71)) (hds : w.heap[B.ps]? = some (.cells ds 71))
  (h1 : w'.heap[B.rp]? = some (.cells (cs.setIfInBounds i (.pointer (some ⟨nb, 0, none⟩))) 71)) (h2 : w'.heap[B.ps]? = some (.cells (ds.setIfInBounds i (.pointer (some ⟨B.A i, 0, none⟩))) 71))
  (hc : Chg [B.rp, B.ps] w w') (hq : RqAt w' nb (.slice none 0 0) 0 (.new G.win)) (hn : w.heap.size ≤ nb) :
  GrAt w' (nb :: F) (B.turn i nb) c KN { G with now := fun k => if k = i then Rp.new G.win else G.now k, old := fun k => if k = i then G.now i else G.old k } := by
 obtain ⟨cs', k1, k2⟩ := K.rep
 rw [hcs] at k1; cases k1
 obtain ⟨ds', k3, k4⟩ := K.pst
 rw [hds] at k3; cases k3
 obtain ⟨gs, g1, _⟩ := K.ring.gens
 obtain ⟨ss, s1, _⟩ := K.ring.sinces
 have oth : ∀ {b : Nat} {xs : Array Value} {t : TypeId}, w.heap[b]? = some (.cells xs t) → t ≠ 71 → b ∉ [B.rp, B.ps] := fun h ht => by
  simp only [List.mem_cons, List.not_mem_nil, or_false, not_or]
  exact ⟨obj_ne h hcs ht, obj_ne h hds ht⟩
 have ltF : ∀ {x}, x ∈ F → x < nb := fun {x} hx => by have := K.lt x hx; omega
 have bas : ∀ x ∈ B.base, x < nb := fun x hx => ltF (K.mB x hx)
 have ownA : ∀ j, j < G.r.n → ∀ g ∈ ownL (B.vA j), g ∉ [B.rp, B.ps] := fun j hj g hg hm => K.dA j hj g (by simp [RBl.oA, hg]) (by simp only [List.mem_cons, List.not_mem_nil, or_false] at hm; rcases hm with rfl | rfl <;> simp [RBl.base])
 have ownO : ∀ j, j < G.r.n → ∀ g ∈ ownL (B.vO j), g ∉ [B.rp, B.ps] := fun j hj g hg hm => K.dO j hj g (by simp [RBl.oO, hg]) (by simp only [List.mem_cons, List.not_mem_nil, or_false] at hm; rcases hm with rfl | rfl <;> simp [RBl.base])
 have AA : ∀ j, j < G.r.n → RqAt w' (B.A j) (B.vA j) KN (G.now j) := fun j hj => (K.now j hj).chg hc (oth (K.now j hj).top (by decide)) (ownA j hj)
 have OO : ∀ j, j < G.r.n → RqAt w' (B.O j) (B.vO j) KN (G.old j) := fun j hj => (K.old j hj).chg hc (oth (K.old j hj).top (by decide)) (ownO j hj)
 have zc := (Array.getElem?_eq_some_iff.1 (k2 i hi)).1
 have zd := (Array.getElem?_eq_some_iff.1 (k4 i hi)).1
 refine ⟨hc.at (show w.heap[(B.turn i nb).g]? = _ from K.top) (oth K.top (by decide)), K.cn, K.cw, K.cm, K.cf, K.ring.chg hc (oth K.ring.top (by decide)) (oth g1 (by decide)) (oth s1 (by decide)), ⟨_, h1, fun j hj => ?_⟩, ⟨_, h2, fun j hj => ?_⟩, K.rps, K.c1, K.c2,
  fun j hj => ?_, fun j hj => ?_, fun j hj x hx hb => ?_, fun j hj x hx hb => ?_, fun a b ha hb hab x hx hy => ?_, fun a b ha hb hab x hx hy => ?_, fun a b ha hb x hx hy => ?_,
  fun x hx => List.mem_cons_of_mem _ (K.mB x hx), fun j hj x hx => ?_, fun j hj x hx => ?_, fun x hx => ?_, ⟨K.ok.w1, K.ok.w2, K.ok.m1, K.ok.m2, K.ok.f1, K.ok.f2, fun k => ?_, fun k => ?_⟩⟩
 ·have := k2 j hj
  simp only [RBl.turn, Array.getElem?_setIfInBounds]
  by_cases e : j = i
  ·subst e; simp [zc]
  ·rw [if_neg (by omega), if_neg e]; exact this
 ·have := k4 j hj
  simp only [RBl.turn, Array.getElem?_setIfInBounds]
  by_cases e : j = i
  ·subst e; simp [zd]
  ·rw [if_neg (by omega), if_neg e]; exact this
 ·simp only [RBl.turn]
  by_cases e : j = i
  ·rw [if_pos e, if_pos e, if_pos e]
   exact hq.more (Nat.zero_le _)
  ·rw [if_neg e, if_neg e, if_neg e]; exact AA j hj
 ·simp only [RBl.turn]
  by_cases e : j = i
  ·rw [if_pos e, if_pos e, if_pos e]; exact AA i hi
  ·rw [if_neg e, if_neg e, if_neg e]; exact OO j hj
 ·rw [turn_oA] at hx
  have hb' : x ∈ B.base := hb
  split at hx
  ·have := bas x hb'; rw [List.mem_singleton.1 hx] at this; omega
  ·exact K.dA j hj x hx hb'
 ·rw [turn_oO] at hx
  have hb' : x ∈ B.base := hb
  split at hx
  ·exact K.dA i hi x hx hb'
  ·exact K.dO j hj x hx hb'
 ·rw [turn_oA] at hx hy
  by_cases e : a = i <;> by_cases e' : b = i
  ·omega
  ·rw [if_pos e] at hx; rw [if_neg e'] at hy
   have := ltF (K.mA b hb x hy); rw [List.mem_singleton.1 hx] at this; omega
  ·rw [if_neg e] at hx; rw [if_pos e'] at hy
   have := ltF (K.mA a ha x hx); rw [List.mem_singleton.1 hy] at this; omega
  ·rw [if_neg e] at hx; rw [if_neg e'] at hy
   exact K.dAA a b ha hb hab x hx hy
 ·rw [turn_oO] at hx hy
  by_cases e : a = i <;> by_cases e' : b = i
  ·omega
  ·rw [if_pos e] at hx; rw [if_neg e'] at hy
   exact K.dAO i b hi hb x hx hy
  ·rw [if_neg e] at hx; rw [if_pos e'] at hy
   exact K.dAO i a hi ha x hy hx
  ·rw [if_neg e] at hx; rw [if_neg e'] at hy
   exact K.dOO a b ha hb hab x hx hy
 ·rw [turn_oA] at hx; rw [turn_oO] at hy
  have l1 : ∀ y ∈ (if b = i then B.oA i else B.oO b), y < nb := fun y hy => by
   split at hy
   ·exact ltF (K.mA i hi y hy)
   ·exact ltF (K.mO b hb y hy)
  by_cases e : a = i
  ·rw [if_pos e] at hx
   have := l1 x hy; rw [List.mem_singleton.1 hx] at this; omega
  ·rw [if_neg e] at hx
   by_cases e' : b = i
   ·rw [if_pos e'] at hy; exact K.dAA a i ha hi e x hx hy
   ·rw [if_neg e'] at hy; exact K.dAO a b ha hb x hx hy
 ·rw [turn_oA] at hx
  split at hx
  ·rw [List.mem_singleton.1 hx]; exact List.mem_cons_self
  ·exact List.mem_cons_of_mem _ (K.mA j hj x hx)
 ·rw [turn_oO] at hx
  split at hx
  ·exact List.mem_cons_of_mem _ (K.mA i hi x hx)
  ·exact List.mem_cons_of_mem _ (K.mO j hj x hx)
 ·rcases List.mem_cons.1 hx with rfl | hx
  ·exact hq.lt.1
  ·exact Nat.lt_of_lt_of_le (K.lt x hx) hc.size
 ·dsimp only
  split
  ·rfl
  ·exact K.ok.nw k
 ·dsimp only
  split
  ·exact K.ok.nw i
  ·exact K.ok.ow k
theorem GrAt.rung {r' : Rg} (K : GrAt w F B c KN G) (hR : RfAt w' B.r B.gn B.sn r') (hn : r'.n = G.r.n) (hc : Chg [B.gn, B.sn] w w') : GrAt w' F B c KN { G with r := r' } := by
 obtain ⟨gs, g1, _⟩ := K.ring.gens
 obtain ⟨ss, s1, _⟩ := K.ring.sinces
 obtain ⟨cs, c1, c2⟩ := K.rep
 obtain ⟨ds, d1, d2⟩ := K.pst
 have oth : ∀ {b : Nat} {xs : Array Value} {t : TypeId}, w.heap[b]? = some (.cells xs t) → t ≠ 3 → t ≠ 2 → b ∉ [B.gn, B.sn] := fun h t1 t2 => by
  simp only [List.mem_cons, List.not_mem_nil, or_false, not_or]
  exact ⟨obj_ne h g1 t1, obj_ne h s1 t2⟩
 have base : ∀ x ∈ [B.gn, B.sn], x ∈ B.base := fun x hx => by simp only [List.mem_cons, List.not_mem_nil, or_false] at hx; rcases hx with rfl | rfl <;> simp [RBl.base]
 refine ⟨by have := hc.at K.top (oth K.top (by decide) (by decide)); rw [show ({ G with r := r' } : Gt).r.n = G.r.n from hn]; exact this, by rw [show ({ G with r := r' } : Gt).r.n = G.r.n from hn]; exact K.cn, K.cw, K.cm, K.cf, hR, ⟨cs, hc.at c1 (oth c1 (by decide) (by decide)), fun j hj => c2 j (hn ▸ hj)⟩, ⟨ds, hc.at d1 (oth d1 (by decide) (by decide)), fun j hj => d2 j (hn ▸ hj)⟩, K.rps,
  by rw [show ({ G with r := r' } : Gt).r.n = G.r.n from hn]; exact K.c1, by rw [show ({ G with r := r' } : Gt).r.n = G.r.n from hn]; exact K.c2, fun j hj => ?_, fun j hj => ?_, fun j hj => K.dA j (hn ▸ hj), fun j hj => K.dO j (hn ▸ hj), fun a b ha hb => K.dAA a b (hn ▸ ha) (hn ▸ hb), fun a b ha hb => K.dOO a b (hn ▸ ha) (hn ▸ hb), fun a b ha hb => K.dAO a b (hn ▸ ha) (hn ▸ hb),
  K.mB, fun j hj => K.mA j (hn ▸ hj), fun j hj => K.mO j (hn ▸ hj), fun x hx => Nat.lt_of_lt_of_le (K.lt x hx) hc.size, ⟨K.ok.w1, K.ok.w2, K.ok.m1, K.ok.m2, K.ok.f1, K.ok.f2, K.ok.nw, K.ok.ow⟩⟩
 ·have hj' : j < G.r.n := hn ▸ hj
  exact (K.now j hj').chg hc (fun hm => K.dA j hj' _ (by simp [RBl.oA]) (base _ hm)) (fun g hg hm => K.dA j hj' g (by simp [RBl.oA, hg]) (base _ hm))
 ·have hj' : j < G.r.n := hn ▸ hj
  exact (K.old j hj').chg hc (fun hm => K.dO j hj' _ (by simp [RBl.oO]) (base _ hm)) (fun g hg hm => K.dO j hj' g (by simp [RBl.oO, hg]) (base _ hm))
end
def LeavesGr (w : World) (F : List Nat) (B : RBl) (c : Conf) (KN : Nat) (k : Int × Gt) (e : Ending) (w' : World) : Prop :=
 e = .returned (.int .i64 k.1) ∧ ∃ F' B', GrAt w' F' B' c (KN + 1) k.2 ∧ B'.g = B.g ∧ Chg F w w' ∧ ∀ x ∈ F', x ∈ F ∨ w.heap.size ≤ x
theorem GrAt.more {w : World} {F : List Nat} {B : RBl} {c : Conf} {KN KN' : Nat} {G : Gt} (k : GrAt w F B c KN G) (h : KN ≤ KN') : GrAt w F B c KN' G :=
 ⟨k.top, k.cn, k.cw, k.cm, k.cf, k.ring, k.rep, k.pst, k.rps, k.c1, k.c2, fun i hi => (k.now i hi).more h, fun i hi => (k.old i hi).more h, k.dA, k.dO, k.dAA, k.dOO, k.dAO, k.mB, k.mA, k.mO, k.lt, k.ok⟩
end Go.Proofs.YtgpdcapnnejdeaaGreat
end
