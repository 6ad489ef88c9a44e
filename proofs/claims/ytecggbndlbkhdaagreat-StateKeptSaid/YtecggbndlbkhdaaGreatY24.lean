/-
  Contract: which key seals a message now, and which window its number is of; none of a generation that seals nothing. The condition: the gate lies there, the collector is one of its own, the message may be sent.
  Contract: which key seals a message now, whatever the message: the model's answer. The condition: the gate lies there, the message may be sent, its collector is one of the gate's own.
  Contract: what a gate's check tells, a walk for each answer, out of the contracts of what it calls. The condition: the gate lies there, the bytes read as bytes.
  Contract: a holder's turn: its window becomes the old one, a new one is there. The condition: the gate lies there.
  Contract: what a gate's Take answers and leaves. The condition: the gate lies there.
  Contracts: what a gate's Check tells, and what its Take answers and leaves, whatever comes: the model's answers. The conditions: the gate lies there; the bytes read as bytes; what tells who is out answers.
  What a walk keeps beside a gate and a collector that change: blocks known whole, bytes of the call's own. What a check tells of an envelope that was sealed, and of one with a byte of its tag turned. No condition.
  '==' of two messages: part for part. No condition.
  Contracts: the table's May and Put. The condition: the table lies there.
-/
import Derived.Test.YtecggbndlbkhdaaGreatJ0
import Derived.Test.YtecggbndlbkhdaaGreatY23
import Derived.Test.YtecggbndlbkhdaaGreatY6
import Derived.Test.YtecggbndlbkhdaaGreatY15
import Derived.Deep.RegionHeld3
import Derived.Deep.QuietTactic
import Derived.Test.YtecggbndlbkhdaaGreatY4
import Derived.Test.YtecggbndlbkhdaaGreatY25
import Derived.Test.YtecggbndlbkhdaaGreatY9
import Derived.StillTailTactics
import Derived.Test.YtecggbndlbkhdaaGreatY22
import Derived.Test.YtecggbndlbkhdaaGreatY12
import Derived.Test.YtecggbndlbkhdaaGreatY1
import Derived.Laws.StructEq
import Derived.Test.YtecggbndlbkhdaaGreatY27
import Derived.Deep.Cut
import Derived.Deep.RegionWith
section
set_option linter.unusedSimpArgs false
set_option linter.unusedVariables false
namespace Go.Proofs.YtecggbndlbkhdaaGreat
set_option maxRecDepth 100000
open Go.RowKit

/-- what a call keeps that only reads a gate that came in -/
structure Kg (w0 : World) (F : List Nat) (B : GBl) (G : Gt) (bs : List (Nat × Obj)) (ys : List (Value × List UInt8)) (w : World) : Prop where
  gt : GtAt w F B G
  kp : Kp w0 bs ys w
  lo : ∀ x ∈ F, x < w0.heap.size
section
variable {w0 w w1 : World} {F : List Nat} {B : GBl} {G : Gt} {bs : List (Nat × Obj)} {ys : List (Value × List UInt8)} {b : Nat} {o : Obj} {v : Value} {l : List UInt8} {x0 : Nat × Obj} {z0 : Value × List UInt8}
theorem Kg.grown (h : Kg w0 F B G bs ys w) (hg : w.grownBy w1 none) : Kg w0 F B G bs ys w1 := ⟨h.gt.grown hg, h.kp.grown hg, h.lo⟩
theorem Kg.drew (h : Kg w0 F B G bs ys w) : Kg w0 F B G bs ys w.drew := ⟨h.gt.drew, h.kp.drew, h.lo⟩
theorem Kg.alloc (h : Kg w0 F B G bs ys w) (o : Obj) : Kg w0 F B G ((w.heap.size, o) :: bs) ys (w.alloc o) := ⟨h.gt.grown (World.grownBy_alloc w o none), h.kp.alloc o, h.lo⟩
theorem Kg.addY (h : Kg w0 F B G bs ys w) (k : BytesAt w v l) : Kg w0 F B G bs ((v, l) :: ys) w := ⟨h.gt, h.kp.addY k, h.lo⟩
theorem Kg.tail (h : Kg w0 F B G (x0 :: bs) ys w) : Kg w0 F B G bs ys w := ⟨h.gt, h.kp.tail, h.lo⟩
theorem Kg.tailY (h : Kg w0 F B G bs (z0 :: ys) w) : Kg w0 F B G bs ys w := ⟨h.gt, h.kp.tailY, h.lo⟩
theorem Kg.size (h : Kg w0 F B G bs ys w) : w0.heap.size ≤ w.heap.size := h.kp.size
theorem chg_gb {x : Nat} (hc : Chg [x] w w1) : w.grownBy w1 (some x) := ⟨hc.os, hc.tape, hc.output, hc.size, fun i hi hn => hc.block i hi (by simp; rintro rfl; exact hn rfl)⟩
/-- the block at hand, the call's own, was stored to -/
theorem Kg.put {o' : Obj} (h : Kg w0 F B G ((b, o) :: bs) ys w) (hb : w0.heap.size ≤ b) (hc : Chg [b] w w1) (ho : w1.heap[b]? = some o') (hne : ∀ x ∈ bs, x.1 ≠ b) (hy : ∀ x ∈ ys, x.2 = [] ∨ ∀ a n c, x.1 = .slice (some a) n c → a.block ≠ b) : Kg w0 F B G ((b, o') :: bs) ys w1 := by
  refine ⟨h.gt.chg hc (fun x hx => by have := h.lo x hx; simp; omega), ⟨gb_trans h.kp.g (chg_gb hc) (.inr (.inr ⟨b, rfl, hb⟩)), fun x hx => ?_, fun x hx => (h.kp.yl x hx).grown (chg_gb hc) (fun k e => by cases e; exact .inr (hy x hx))⟩, h.lo⟩
  rcases List.mem_cons.1 hx with rfl | hx
  · exact ho
  · exact hc.at (h.kp.bl x (List.mem_cons_of_mem _ hx)) (by simpa using hne x hx)
theorem chg_row2 (w : World) (b : Nat) (cs : Array Value) : Chg [b] w (w.setRow b cs) :=
  ⟨rfl, rfl, rfl, by simp [World.setRow], fun k hk hn => by simp only [World.setRow, Array.getElem?_modify]; exact if_neg (fun e => hn (by simp [e]))⟩
theorem Kg.setRow {old cs : Array Value} {t : TypeId} (h : Kg w0 F B G ((b, .cells old t) :: bs) ys w) (hb : w0.heap.size ≤ b) (hne : ∀ x ∈ bs, x.1 ≠ b) (hy : ∀ x ∈ ys, x.2 = [] ∨ ∀ a n c, x.1 = .slice (some a) n c → a.block ≠ b) : Kg w0 F B G ((b, .cells cs t) :: bs) ys (w.setRow b cs) :=
  h.put hb (chg_row2 w b cs) (at_setRow h.kp.b0) hne hy
theorem Kg.swap {x1 : Nat × Obj} (h : Kg w0 F B G (x0 :: x1 :: bs) ys w) : Kg w0 F B G (x1 :: x0 :: bs) ys w :=
  ⟨h.gt, ⟨h.kp.g, fun x hx => h.kp.bl x (by simp at hx ⊢; rcases hx with e | e | e <;> simp [e]), h.kp.yl⟩, h.lo⟩
end
/-- a block of two cells, whatever they hold -/
def TwoAt (n : Nat) (t : TypeId) (w : World) : Prop := ∃ x y, w.heap[n]? = some (.cells #[x, y] t)
theorem TwoAt.grown {n : Nat} {t : TypeId} {w w1 : World} (h : TwoAt n t w) (hg : w.grownBy w1 none) : TwoAt n t w1 := by obtain ⟨x, y, h⟩ := h; exact ⟨x, y, at_grown h hg (by simp)⟩
theorem TwoAt.drew {n : Nat} {t : TypeId} {w : World} (h : TwoAt n t w) : TwoAt n t w.drew := h
theorem TwoAt.other {n k : Nat} {t : TypeId} {w : World} {cs : Array Value} (h : TwoAt n t w) (hn : n ≠ k) : TwoAt n t (w.setRow k cs) := by obtain ⟨x, y, h⟩ := h; exact ⟨x, y, at_setRow_other h hn⟩
theorem TwoAt.row {n : Nat} {t : TypeId} {w : World} (h : TwoAt n t w) (a b : Value) : TwoAt n t (w.setRow n #[a, b]) := by obtain ⟨x, y, h⟩ := h; exact ⟨a, b, at_setRow h⟩

end Go.Proofs.YtecggbndlbkhdaaGreat
end
section
set_option linter.unusedSimpArgs false
set_option linter.unusedVariables false
namespace Go.Proofs.YtecggbndlbkhdaaGreat
set_option maxRecDepth 100000
open Go.RowKit

/-- the block of the window that a message's number is of -/
def GBl.rp (B : GBl) (G : Gt) (m : Mg) : Nat := if sealedOf m = G.r.gen m.who.toNat then B.A m.who.toNat else B.O m.who.toNat
end Go.Proofs.YtecggbndlbkhdaaGreat
end
section
set_option linter.unusedSimpArgs false
set_option linter.unusedVariables false
namespace Go.Proofs.YtecggbndlbkhdaaGreat
set_option maxRecDepth 100000
open Go.RowKit

theorem Kg.more {w0 w w1 : World} {F : List Nat} {B : GBl} {G : Gt} {bs : List (Nat × Obj)} {ys : List (Value × List UInt8)} {v : Value} {l : List UInt8} {base : Nat} (h : Kg w0 F B G bs ys w) (ho : OwnB base w1 v l) (hg : w.grownBy w1 none) : Kg w0 F B G bs ((v, l) :: ys) w1 := (h.grown hg).addY ho.bytes
end Go.Proofs.YtecggbndlbkhdaaGreat
end
section
set_option linter.unusedSimpArgs false
set_option linter.unusedVariables false
namespace Go.Proofs.YtecggbndlbkhdaaGreat
set_option maxRecDepth 100000
open Go.RowKit

end Go.Proofs.YtecggbndlbkhdaaGreat
end
section
set_option linter.unusedSimpArgs false
set_option linter.unusedVariables false
namespace Go.Proofs.YtecggbndlbkhdaaGreat
set_option maxRecDepth 100000
open Go.RowKit

/-- a gate of other windows: who's new one, who's old one, how often turned -/
def GBl.turn (B : GBl) (i nb : Nat) : GBl := { B with A := fun j => if j = i then nb else B.A j, O := fun j => if j = i then B.A i else B.O j, t := fun j => if j = i then succT (B.t i) else B.t j }
theorem side_even {t : Int} {a b : Nat} (h : t % 2 = 0) : side t a b = a := if_pos h
theorem side_odd {t : Int} {a b : Nat} (h : t % 2 = 1) : side t a b = b := if_neg (by omega)
/-- behind a turn the gate lies there as it was, but for one collector -/
theorem GtAt.turned {w w1 w' : World} {F : List Nat} {B : GBl} {G : Gt} {i : Nat} (K : GtAt w F B G) (hi : i < G.r.n) {cs : Array Value} {j nb : Nat} (hcs : w.heap[B.hb]? = some (.cells cs 227))
    (hj : (B.t i + 1) % 2 = (j : Int)) (hj2 : j < 2) (hc : Chg [B.hb] w w') (hr : w'.heap[B.hb]? = some (.cells ((cs.setIfInBounds (i * 3) (.int .u32 (succT (B.t i)))).setIfInBounds (i * 3 + 1 + j) (.pointer (some ⟨nb, 0, none⟩))) 227)) (hp : RpAt w' nb (.new G.win)) (hn : w.heap.size ≤ nb) :
    GtAt w' (nb :: F) (B.turn i nb) { G with now := fun k => if k = i then Rp.new G.win else G.now k, old := fun k => if k = i then G.now i else G.old k } := by
  obtain ⟨ds, k1, k2⟩ := K.row
  rw [hcs] at k1
  cases k1
  obtain ⟨rs, r1, r2⟩ := K.ring.row
  have e1 : B.g ≠ B.hb := obj_ne K.top hcs (by decide)
  have e2 : B.rb ≠ B.hb := obj_ne K.ring.top hcs (by decide)
  have e3 : B.rh ≠ B.hb := obj_ne r1 hcs (by decide)
  have eA : ∀ k, k < G.r.n → B.A k ≠ B.hb := fun k hk => obj_ne (K.now k hk).top hcs (by decide)
  have eO : ∀ k, k < G.r.n → B.O k ≠ B.hb := fun k hk => obj_ne (K.old k hk).top hcs (by decide)
  have lA : ∀ k, k < G.r.n → B.A k < w.heap.size := fun k hk => K.lt _ (K.ma k hk)
  have lO : ∀ k, k < G.r.n → B.O k < w.heap.size := fun k hk => K.lt _ (K.mo k hk)
  refine ⟨hc.at (show w.heap[(B.turn i nb).g]? = _ from K.top) (show B.g ∉ [B.hb] by simpa using e1), K.ring.chg hc (by simpa using e2) (by simpa using e3), ⟨_, hr, fun k hk => ?_⟩, fun k => ?_, fun k hk => ?_, fun k hk => ?_, fun a b ha hb h => ?_, fun a b ha hb h => ?_, fun a b ha hb h => ?_,
    List.mem_cons_of_mem _ K.mg, List.mem_cons_of_mem _ K.mrb, List.mem_cons_of_mem _ K.mrh, List.mem_cons_of_mem _ K.mhb, fun k hk => ?_, fun k hk => ?_, fun x hx => ?_, ⟨K.ok.w1, K.ok.w2, K.ok.m1, K.ok.m2, K.ok.f1, K.ok.f2, fun k => ?_, fun k => ?_⟩⟩
  · obtain ⟨q1, q2, q3⟩ := k2 k hk
    obtain ⟨p1, p2, p3⟩ := k2 i hi
    have z1 := (Array.getElem?_eq_some_iff.1 p1).1
    have z2 := (Array.getElem?_eq_some_iff.1 p2).1
    have z3 := (Array.getElem?_eq_some_iff.1 p3).1
    simp only [GBl.turn, Array.getElem?_setIfInBounds, Array.size_setIfInBounds]
    by_cases e : k = i
    · subst e
      simp only [if_true]
      have hm := succT_mod (B.t k)
      rcases (by omega : j = 0 ∨ j = 1) with rfl | rfl
      · have hs : succT (B.t k) % 2 = 0 := by rw [hm]; exact_mod_cast hj
        have ht : B.t k % 2 = 1 := by omega
        rw [side_even hs, side_even hs]
        rw [side_odd ht] at q3
        rw [Array.getElem?_eq_getElem z3] at q3
        simp [z1, z2, z3, Option.some.inj q3, show ¬ k * 3 = k * 3 + 1 by omega]
      · have hs : succT (B.t k) % 2 = 1 := by rw [hm]; exact_mod_cast hj
        have ht : B.t k % 2 = 0 := by omega
        rw [side_odd hs, side_odd hs]
        rw [side_even ht] at q2
        rw [Array.getElem?_eq_getElem z2] at q2
        simp [z1, z2, z3, Option.some.inj q2, show ¬ k * 3 + 1 + 1 = k * 3 by omega, show ¬ k * 3 = k * 3 + 1 by omega, show ¬ k * 3 = k * 3 + 1 + 1 by omega]
    · simp only [if_neg e]
      rw [if_neg (by omega), if_neg (by omega), if_neg (by omega), if_neg (by omega), if_neg (by omega), if_neg (by omega)]
      exact ⟨q1, q2, q3⟩
  · simp only [GBl.turn]
    split
    · exact ⟨succT_0 _, succT_lt _⟩
    · exact K.t0 k
  · simp only [GBl.turn]
    by_cases e : k = i
    · rw [if_pos e, if_pos e]; exact hp
    · rw [if_neg e, if_neg e]; exact (K.now k hk).chg hc (by simpa using eA k hk)
  · simp only [GBl.turn]
    by_cases e : k = i
    · rw [if_pos e, if_pos e]; exact (K.now i hi).chg hc (by simpa using eA i hi)
    · rw [if_neg e, if_neg e]; exact (K.old k hk).chg hc (by simpa using eO k hk)
  · simp only [GBl.turn] at h
    have := lA a ha; have := lA b hb
    by_cases e : a = i <;> by_cases e' : b = i
    · omega
    · rw [if_pos e, if_neg e'] at h; omega
    · rw [if_neg e, if_pos e'] at h; omega
    · rw [if_neg e, if_neg e'] at h; exact K.aa a b ha hb h
  · simp only [GBl.turn] at h
    by_cases e : a = i <;> by_cases e' : b = i
    · omega
    · rw [if_pos e, if_neg e'] at h; exact absurd h (K.ao i b hi hb)
    · rw [if_neg e, if_pos e'] at h; exact absurd h.symm (K.ao i a hi ha)
    · rw [if_neg e, if_neg e'] at h; exact K.oo a b ha hb h
  · simp only [GBl.turn] at h
    have := lA i hi; have := lO b hb; have := lA a ha
    by_cases e : a = i <;> by_cases e' : b = i
    · rw [if_pos e, if_pos e'] at h; omega
    · rw [if_pos e, if_neg e'] at h; omega
    · rw [if_neg e, if_pos e'] at h; exact e (K.aa a i ha hi h)
    · rw [if_neg e, if_neg e'] at h; exact K.ao a b ha hb h
  · simp only [GBl.turn]
    split
    · exact List.mem_cons_self
    · exact List.mem_cons_of_mem _ (K.ma k hk)
  · simp only [GBl.turn]
    split
    · exact List.mem_cons_of_mem _ (K.ma i hi)
    · exact List.mem_cons_of_mem _ (K.mo k hk)
  · rcases List.mem_cons.1 hx with rfl | hx
    · exact hp.lt
    · exact Nat.lt_of_lt_of_le (K.lt x hx) hc.size
  · dsimp only
    split
    · rfl
    · exact K.ok.nw k
  · dsimp only
    split
    · exact K.ok.nw i
    · exact K.ok.ow k
/-- a gate that changes, and the message in a block of the call's own -/
structure Kq (w0 : World) (F : List Nat) (B : GBl) (G : Gt) (bm : Nat) (m : Mg) (w : World) : Prop where
  gt : GtAt w F B G
  hm : w.heap[bm]? = some (msgObj m)
  ch : Chg F w0 w
  nb : bm ∉ F
theorem Kq.drew {w0 w : World} {F : List Nat} {B : GBl} {G : Gt} {bm : Nat} {m : Mg} (h : Kq w0 F B G bm m w) : Kq w0 F B G bm m w.drew := ⟨h.gt.drew, h.hm, h.ch.drew, h.nb⟩
theorem Kq.leave {w0 w w1 : World} {F H : List Nat} {B : GBl} {G G1 : Gt} {bm : Nat} {m : Mg} (h : Kq w0 F B G bm m w) (hg : GtAt w1 F B G1) (hc : Chg H w w1) (hH : ∀ x ∈ H, x ∈ F) : Kq w0 F B G1 bm m w1 :=
  ⟨hg, hc.at h.hm (fun e => h.nb (hH _ e)), h.ch.then (hc.more hH), h.nb⟩
end Go.Proofs.YtecggbndlbkhdaaGreat
end
section
set_option linter.unusedSimpArgs false
set_option linter.unusedVariables false
namespace Go.Proofs.YtecggbndlbkhdaaGreat
set_option maxRecDepth 100000
open Go.RowKit

end Go.Proofs.YtecggbndlbkhdaaGreat
end
section
set_option linter.unusedSimpArgs false
set_option linter.unusedVariables false
namespace Go.Proofs.YtecggbndlbkhdaaGreat
set_option maxRecDepth 100000
open Go.RowKit

theorem OwnB.blk {base : Nat} {w : World} {v : Value} {l : List UInt8} (h : OwnB base w v l) {k : Nat} (hk : v.ownBlock = some k) : base ≤ k ∧ k < w.heap.size := by
  obtain ⟨p, c, rfl⟩ := h.form
  cases p with
  | none => cases hk
  | some a => cases hk; exact h.at a _ _ rfl
theorem OwnB.obj {base : Nat} {w : World} {l : List UInt8} {k n c : Nat} (h : OwnB base w (.slice (some ⟨k, 0, none⟩) n c) l) : ∃ cur : Array Value, w.heap[k]? = some (.cells cur 5) := by
  obtain ⟨h0, e | ⟨g, cap, cur, e, hb, hh, h1⟩⟩ := h
  · cases e.1
  · cases e; exact ⟨cur, hh⟩
section
variable {w0 w w1 : World} {F : List Nat} {B : GBl} {G G1 : Gt} {b n : Nat} {s s' : Sl} {bs : List (Nat × Obj)} {ys : List (Value × List UInt8)} {o : Obj} {v : Value} {l : List UInt8} {x0 x1 x2 x3 : Nat × Obj} {z0 z1 z2 : Value × List UInt8}
end

end Go.Proofs.YtecggbndlbkhdaaGreat
end
section
set_option linter.unusedSimpArgs false
namespace Go.Proofs.YtecggbndlbkhdaaGreat
set_option maxRecDepth 100000
open Go.RowKit

def msgEq (a b : Mg) : Bool := a.kind == b.kind && a.who == b.who && a.gen == b.gen && a.seq == b.seq && a.epoch == b.epoch && a.value == b.value && a.metric == b.metric
theorem msgEq_iff (a b : Mg) : msgEq a b = true ↔ a = b := by
  cases a; cases b; simp [msgEq, and_assoc]
end Go.Proofs.YtecggbndlbkhdaaGreat
end
section
set_option linter.unusedSimpArgs false
set_option linter.unusedVariables false
namespace Go.Proofs.YtecggbndlbkhdaaGreat
set_option maxRecDepth 100000
open Go.RowKit

/-- what May's walk keeps: the table, the sample's box -/
structure Myk (w : World) (n m f : Int) (L : List Sm) (b mb : Nat) (s : Sm) (W : World) : Prop where
  tb : TbAt n m f L b mb W
  box : W.heap[w.heap.size]? = some (.cells #[.int .i64 s.who, .int .i64 s.met, .int .i64 s.ep, .int .i64 s.val] 91)
  gr : w.grownBy W none
section
variable {w W W' : World} {n m f : Int} {L : List Sm} {b mb : Nat} {s : Sm}
theorem Myk.grown (h : Myk w n m f L b mb s W) (hg : W.grownBy W' none) : Myk w n m f L b mb s W' := ⟨h.tb.grown hg, at_grown h.box hg (by simp), gb_trans h.gr hg (.inl rfl)⟩
theorem Myk.drew (h : Myk w n m f L b mb s W) : Myk w n m f L b mb s W.drew := ⟨h.tb.drew, h.box, gb_drew h.gr⟩
theorem Myk.start (h : TbAt n m f L b mb w) (s : Sm) : Myk w n m f L b mb s (w.alloc (.cells #[.int .i64 s.who, .int .i64 s.met, .int .i64 s.ep, .int .i64 s.val] 91)) := ⟨h.alloc _, at_new w _, World.grownBy_alloc w _ none⟩
theorem Myk.smp (h : Myk w n m f L b mb s W) : W.cell? ⟨w.heap.size, 0, none⟩ = some (.int .i64 s.who) ∧ W.cell? ⟨w.heap.size, 1, none⟩ = some (.int .i64 s.met) ∧ W.cell? ⟨w.heap.size, 2, none⟩ = some (.int .i64 s.ep) ∧ W.cell? ⟨w.heap.size, 3, none⟩ = some (.int .i64 s.val) :=
  ⟨at_cell h.box 0, at_cell h.box 1, at_cell h.box 2, at_cell h.box 3⟩
theorem TbAt.hit2 (h : TbAt n m f L b mb W) (hs : s ∈ L) : (Instr.lookup 228 (.map (some mb)) (.agg #[.int .i64 s.ep, .int .i64 s.met, .int .i64 s.who]) true).run Tryz.prog W = .ok (.tuple #[.int .i64 s.val, .bool true]) W := h.hit hs true
theorem TbAt.hit1 (h : TbAt n m f L b mb W) (hs : s ∈ L) : (Instr.lookup 228 (.map (some mb)) (.agg #[.int .i64 s.ep, .int .i64 s.met, .int .i64 s.who]) false).run Tryz.prog W = .ok (.int .i64 s.val) W := h.hit hs false
end
theorem exec_look {P : Program} {ρ : Operand → Value} {o : Oper} {w : World} {t : TypeId} {m x : Operand} {c : Bool} {M X v : Value} (ho : o.op = .lookup t m x c) (hm : ρ m = M) (hx : ρ x = X) (h : (Instr.lookup t M X c).run P w = .ok v w) : (execOp ρ o).run P w = .ok (.value v) w := by
  simp [execOp, ho, hm, hx, h, Result.andThen]
theorem may_arg {n m f : Int} {L : List Sm} {b mb : Nat} {w : World} (h : TbAt n m f L b mb w) (s : Sm) (now : Int) (he : wf64 s.ep) (hn : wf64 now) (h1 : ¬ AdmT n m s) :
    Calls Tryz.prog 145 #[.pointer (some ⟨b, 0, none⟩), .agg #[.int .i64 s.who, .int .i64 s.met, .int .i64 s.ep, .int .i64 s.val], .int .i64 now] w fun e w' => e = .returned (.int .i64 1) ∧ w.grownBy w' none := by
  have hA := fun W (K : Myk w n m f L b mb s W) => (admits_any K.tb s)
  rw [decide_eq_false h1] at hA
  have HA := hid hA
  clear hA
  have hb := h.lt.1
  have K0 := Myk.start h s
  clear h
  have HK0 := hid K0
  obtain ⟨d0, d1, d2, d3⟩ := K0.smp
  go_enter Tryz.func145, Tryz.ntmps145
  go_wp2_with (first | (go_at_call 232; refine (HA.out _ HK0.out).mono ?_; rintro e w1 ⟨rfl, hg1⟩; have HK1 := hid (HK0.out.grown hg1); clear d0 d1 d2 d3; obtain ⟨d0, d1, d2, d3⟩ := HK1.out.smp; clear hg1))
  go_ret
  exact ⟨rfl, HK1.out.gr⟩
theorem may_stale {n m f : Int} {L : List Sm} {b mb : Nat} {w : World} (h : TbAt n m f L b mb w) (s : Sm) (now : Int) (he : wf64 s.ep) (hn : wf64 now) (h1 : AdmT n m s) (h2 : ¬ (now ≤ s.ep ∧ s.ep - now < f)) :
    Calls Tryz.prog 145 #[.pointer (some ⟨b, 0, none⟩), .agg #[.int .i64 s.who, .int .i64 s.met, .int .i64 s.ep, .int .i64 s.val], .int .i64 now] w fun e w' => e = .returned (.int .i64 7) ∧ w.grownBy w' none := by
  have hA := fun W (K : Myk w n m f L b mb s W) => (admits_any K.tb s)
  rw [decide_eq_true h1] at hA
  have HA := hid hA
  clear hA
  have hF := fun W (K : Myk w n m f L b mb s W) => (fresh_any K.tb s.ep now he hn)
  rw [decide_eq_false h2] at hF
  have HF := hid hF
  clear hF
  have hb := h.lt.1
  have K0 := Myk.start h s
  clear h
  have HK0 := hid K0
  obtain ⟨d0, d1, d2, d3⟩ := K0.smp
  go_enter Tryz.func145, Tryz.ntmps145
  go_wp2_with (first | (go_at_call 232; refine (HA.out _ HK0.out).mono ?_; rintro e w1 ⟨rfl, hg1⟩; have HK1 := hid (HK0.out.grown hg1); clear d0 d1 d2 d3; obtain ⟨d0, d1, d2, d3⟩ := HK1.out.smp; clear hg1) | (go_at_call 233; refine (HF.out _ HK1.out).mono ?_; rintro e w2 ⟨rfl, rfl⟩))
  go_ret
  exact ⟨rfl, HK1.out.gr⟩
set_option maxHeartbeats 1000000 in
theorem may_twice {n m f : Int} {L : List Sm} {b mb : Nat} {w : World} (h : TbAt n m f L b mb w) (s : Sm) (now : Int) (he : wf64 s.ep) (hn : wf64 now) (h1 : AdmT n m s) (h2 : now ≤ s.ep ∧ s.ep - now < f) (h3 : There L s.pl) :
    Calls Tryz.prog 145 #[.pointer (some ⟨b, 0, none⟩), .agg #[.int .i64 s.who, .int .i64 s.met, .int .i64 s.ep, .int .i64 s.val], .int .i64 now] w fun e w' => e = .returned (.int .i64 8) ∧ w.grownBy w' none := by
  obtain ⟨v, hx⟩ : ∃ v, (⟨s.who, s.met, s.ep, v⟩ : Sm) ∈ L := by
    obtain ⟨⟨a, y, e, v⟩, hx, hp⟩ := h3
    simp only [Sm.pl, Prod.mk.injEq] at hp
    obtain ⟨rfl, rfl, rfl⟩ := hp
    exact ⟨v, hx⟩
  have HX := hid hx
  clear hx h3
  have hA := fun W (K : Myk w n m f L b mb s W) => (admits_any K.tb s)
  rw [decide_eq_true h1] at hA
  have HA := hid hA
  clear hA
  have hF := fun W (K : Myk w n m f L b mb s W) => (fresh_any K.tb s.ep now he hn)
  rw [decide_eq_true h2] at hF
  have HF := hid hF
  clear hF
  have hb := h.lt.1
  have K0 := Myk.start h s
  clear h
  have HK0 := hid K0
  obtain ⟨d0, d1, d2, d3⟩ := K0.smp
  go_enter Tryz.func145, Tryz.ntmps145
  go_upto_region 5 with (first | (go_at_call 232; refine (HA.out _ HK0.out).mono ?_; rintro e w1 ⟨rfl, hg1⟩; have HK1 := hid (HK0.out.grown hg1); clear d0 d1 d2 d3; obtain ⟨d0, d1, d2, d3⟩ := HK1.out.smp; clear hg1) | (go_at_call 233; refine (HF.out _ HK1.out).mono ?_; rintro e w2 ⟨rfl, rfl⟩))
  refine wp_region_held_drew (S := (fun w' => (Myk w n m f L b mb s w'))) (by kernel_rfl) HK1.out.drew (fun hHeld => ?_)
  try dsimp only at hHeld
  refine jU 0 hHeld ?_
  try simp only [jX, jD, jE, jF]
  refine jU 1 hHeld ?_
  try simp only [jX, jD, jE, jF]
  refine jU 2 hHeld ?_
  try simp only [jX, jD, jE, jF]
  refine' jT 3 rfl (by rfl) ?_ hHeld ?_
  rotate_left
  · (intro w hSw; (try dsimp only at hSw); have K := hSw; obtain ⟨t0, t1, t2, t3⟩ := K.tb.cells; go_simp; try with_reducible rfl)
  try simp only [jX, jD, jE, jF]
  refine' jT 4 rfl (by rfl) ?_ hHeld ?_
  rotate_left
  · (intro w hSw; (try dsimp only at hSw); have K := hSw; obtain ⟨e0, e1, e2, e3⟩ := K.smp; go_simp; try with_reducible rfl)
  try simp only [jX, jD, jE, jF]
  refine jR [5] ?_
  refine jG rfl (fun K hK => ?_) AllReadyH.nil
  try simp only [jD, jE, jF]
  go_simp
  have hH2 := hHeld
  have K := hH2
  refine (place_any s _).mono ?_
  rintro e w1005 ⟨rfl, hg⟩
  have L5 := hid (show (Myk w n m f L b mb s w1005) from K.grown hg)
  clear hHeld hg K
  go_wp2_with fail
  refine hK.out _ _ ?_ (fun hHeld => ?_)
  · exact L5.out
  clear hK K
  try dsimp only at hHeld
  try simp only [jX, jD, jE, jF]
  refine' jT 6 rfl (by rfl) ?_ hHeld ?_
  rotate_left
  · (intro w hSw; (try dsimp only at hSw); (try simp only [jD, jE, jF]); refine exec_look (m := .tmp 27) (x := .tmp 29) (v := .tuple #[.int .i64 v, .bool true]) ?_ ?_ ?_ (hSw.tb.hit2 (s := ⟨s.who, s.met, s.ep, v⟩) HX.out) <;> rfl)
  try simp only [jX, jD, jE, jF]
  refine jU 7 hHeld ?_
  try simp only [jX, jD, jE, jF]
  refine jU 8 hHeld ?_
  try simp only [jX, jD, jE, jF]
  refine jU 9 hHeld ?_
  try simp only [jX, jD, jE, jF]
  refine jU 10 hHeld ?_
  try simp only [jX, jD, jE, jF]
  refine jU 11 hHeld ?_
  try simp only [jX, jD, jE, jF]
  refine wpAnyH_done (by kernel_rfl) ?_ _
  have K := hHeld
  have HK2 := hid K
  clear K
  go_wp2_with fail
  go_ret
  exact ⟨rfl, HK2.out.gr⟩
set_option maxHeartbeats 1000000 in
theorem may_ok {n m f : Int} {L : List Sm} {b mb : Nat} {w : World} (h : TbAt n m f L b mb w) (s : Sm) (now : Int) (he : wf64 s.ep) (hn : wf64 now) (h1 : AdmT n m s) (h2 : now ≤ s.ep ∧ s.ep - now < f) (h3 : ¬ There L s.pl) :
    Calls Tryz.prog 145 #[.pointer (some ⟨b, 0, none⟩), .agg #[.int .i64 s.who, .int .i64 s.met, .int .i64 s.ep, .int .i64 s.val], .int .i64 now] w fun e w' => e = .returned (.int .i64 0) ∧ w.grownBy w' none := by
  have hx : FitP (s.ep, s.met, s.who) := by
    have h5 := h.nm
    obtain ⟨k1, k2, k3, k4, _⟩ := h1
    refine ⟨he, ?_, ?_⟩
    · show wf64 s.met
      unfold wf64
      omega
    · show wf64 s.who
      unfold wf64
      omega
  have HX := hid hx
  have H3 := hid h3
  clear hx h3
  have hA := fun W (K : Myk w n m f L b mb s W) => (admits_any K.tb s)
  rw [decide_eq_true h1] at hA
  have HA := hid hA
  clear hA
  have hF := fun W (K : Myk w n m f L b mb s W) => (fresh_any K.tb s.ep now he hn)
  rw [decide_eq_true h2] at hF
  have HF := hid hF
  clear hF
  have hb := h.lt.1
  have K0 := Myk.start h s
  clear h
  have HK0 := hid K0
  obtain ⟨d0, d1, d2, d3⟩ := K0.smp
  go_enter Tryz.func145, Tryz.ntmps145
  go_upto_region 5 with (first | (go_at_call 232; refine (HA.out _ HK0.out).mono ?_; rintro e w1 ⟨rfl, hg1⟩; have HK1 := hid (HK0.out.grown hg1); clear d0 d1 d2 d3; obtain ⟨d0, d1, d2, d3⟩ := HK1.out.smp; clear hg1) | (go_at_call 233; refine (HF.out _ HK1.out).mono ?_; rintro e w2 ⟨rfl, rfl⟩))
  refine wp_region_held_drew (S := (fun w' => (Myk w n m f L b mb s w'))) (by kernel_rfl) HK1.out.drew (fun hHeld => ?_)
  try dsimp only at hHeld
  refine jU 0 hHeld ?_
  try simp only [jX, jD, jE, jF]
  refine jU 1 hHeld ?_
  try simp only [jX, jD, jE, jF]
  refine jU 2 hHeld ?_
  try simp only [jX, jD, jE, jF]
  refine' jT 3 rfl (by rfl) ?_ hHeld ?_
  rotate_left
  · (intro w hSw; (try dsimp only at hSw); have K := hSw; obtain ⟨t0, t1, t2, t3⟩ := K.tb.cells; go_simp; try with_reducible rfl)
  try simp only [jX, jD, jE, jF]
  refine' jT 4 rfl (by rfl) ?_ hHeld ?_
  rotate_left
  · (intro w hSw; (try dsimp only at hSw); have K := hSw; obtain ⟨e0, e1, e2, e3⟩ := K.smp; go_simp; try with_reducible rfl)
  try simp only [jX, jD, jE, jF]
  refine jR [5] ?_
  refine jG rfl (fun K hK => ?_) AllReadyH.nil
  try simp only [jD, jE, jF]
  go_simp
  have hH2 := hHeld
  have K := hH2
  refine (place_any s _).mono ?_
  rintro e w1005 ⟨rfl, hg⟩
  have L5 := hid (show (Myk w n m f L b mb s w1005) from K.grown hg)
  clear hHeld hg K
  go_wp2_with fail
  refine hK.out _ _ ?_ (fun hHeld => ?_)
  · exact L5.out
  clear hK K
  try dsimp only at hHeld
  try simp only [jX, jD, jE, jF]
  refine' jT 6 rfl (by rfl) ?_ hHeld ?_
  rotate_left
  · (intro w hSw; (try dsimp only at hSw); (try simp only [jD, jE, jF]); refine exec_look (m := .tmp 27) (x := .tmp 29) (v := .tuple #[.int .i64 0, .bool false]) ?_ ?_ ?_ (hSw.tb.miss HX.out H3.out) <;> rfl)
  try simp only [jX, jD, jE, jF]
  refine jU 7 hHeld ?_
  try simp only [jX, jD, jE, jF]
  refine jU 8 hHeld ?_
  try simp only [jX, jD, jE, jF]
  refine jU 9 hHeld ?_
  try simp only [jX, jD, jE, jF]
  refine jU 10 hHeld ?_
  try simp only [jX, jD, jE, jF]
  refine jU 11 hHeld ?_
  try simp only [jX, jD, jE, jF]
  refine wpAnyH_done (by kernel_rfl) ?_ _
  have K := hHeld
  have HK2 := hid K
  clear K
  go_wp2_with fail
  go_ret
  exact ⟨rfl, HK2.out.gr⟩
theorem tbmay_any {n m f : Int} {L : List Sm} {b mb : Nat} {w : World} (h : TbAt n m f L b mb w) (s : Sm) (now : Int) (he : wf64 s.ep) (hn : wf64 now) :
    Calls Tryz.prog 145 #[.pointer (some ⟨b, 0, none⟩), .agg #[.int .i64 s.who, .int .i64 s.met, .int .i64 s.ep, .int .i64 s.val], .int .i64 now] w fun e w' => e = .returned (.int .i64 (mayT n m f L s now)) ∧ w.grownBy w' none := by
  unfold mayT
  split
  · next h1 => exact may_arg h s now he hn h1
  · next h1 =>
    have h1 := Classical.not_not.1 h1
    split
    · next h2 => exact may_stale h s now he hn h1 h2
    · next h2 =>
      have h2 := Classical.not_not.1 h2
      split
      · next h3 => exact may_twice h s now he hn h1 h2 h3
      · next h3 => exact may_ok h s now he hn h1 h2 h3
theorem TbAt.putS {n m f : Int} {L : List Sm} {b mb : Nat} {w : World} {D : DataW Unit} (h : TbAt n m f L b mb w) {s : Sm} {now : Int} (he : wf64 s.ep) (h0 : mayT n m f L s now = 0) {w' : World} (ob : w'.heap[b]? = some (.cells #[.int .i64 n, .int .i64 m, .int .u64 f, .map (some mb)] 230))
    (hM : MapIs D L) (ho : w'.ownsMap Tryz.prog 317 (plainElem Tryz.prog 2) mb (L.length + 1) (D.put (pkL s.pl) (.lit (.int .i64 s.val)))) : TbAt n m f (ins s L) b mb w' := by
  have hf := h.fine.put (m := m) (f := f) (now := now) h.nm.2.1 h.nm.2.2.2.1 (s := s) he
  unfold putT at hf
  rw [if_pos h0] at hf
  have hp : FitP s.pl := hf.fits s (mem_ins.2 (.inl rfl))
  obtain ⟨_, _, hn⟩ := mayT_none h0
  exact ⟨ob, ⟨_, by rw [length_ins]; exact ho, hM.put h.fine.fits hp hn⟩, hf, h.nm⟩
theorem wp_put {n m f : Int} {L : List Sm} {b mb : Nat} {w : World} {o : Oper} {a : Act} {K : Act → World → Prop} {Q : Exit → Act → World → Prop} (x y z : Operand) (hop : o.op = .mapUpdate 228 x y z)
    (h : TbAt n m f L b mb w) (hlen : L.length ≤ 100000) (s : Sm) (now : Int) (he : wf64 s.ep) (h0 : mayT n m f L s now = 0) (ex : a.eval x = .map (some mb)) (ey : a.eval y = .agg #[.int .i64 s.ep, .int .i64 s.met, .int .i64 s.who]) (ez : a.eval z = .int .i64 s.val)
    (k : ∀ w', TbAt n m f (ins s L) b mb w' → Chg [mb] w w' → K (a.put o.dst undef) w') : Oper.wp Tryz.prog o a w K Q := by
  obtain ⟨D, k1, k2⟩ := h.map
  have hf := h.fine.put (m := m) (f := f) (now := now) h.nm.2.1 h.nm.2.2.2.1 (s := s) he
  unfold putT at hf
  rw [if_pos h0] at hf
  have hp : FitP s.pl := hf.fits s (mem_ins.2 (.inl rfl))
  have hv : wf64 s.val := by have := hf.fit s (mem_ins.2 (.inl rfl)); unfold wf64; omega
  obtain ⟨w', hrun, r1, r2⟩ := k1.update keyedT Tryz.underlying228 (by unfold maxLen; omega) (key := .agg #[.int .i64 s.ep, .int .i64 s.met, .int .i64 s.who]) (val := .int .i64 s.val) (keyOf_pl hp) (plainElem_int Tryz.underlying2 ((wf64_iff _).2 hv))
  have hc := chg_row r2
  unfold Oper.wp
  simp only [execOp, hop, ex, ey, ez, hrun, Sem.run_bind, Result.andThen_ok, Sem.run_pure]
  exact k w' (h.putS he h0 (hc.at h.obj (by simpa using h.ne)) k2 r1) hc
theorem put_no {n m f : Int} {L : List Sm} {b mb : Nat} {w : World} (h : TbAt n m f L b mb w) (hlen : L.length ≤ 100000) (s : Sm) (now : Int) (he : wf64 s.ep) (hn : wf64 now) (h0 : mayT n m f L s now ≠ 0) :
    Calls Tryz.prog 158 #[.pointer (some ⟨b, 0, none⟩), .agg #[.int .i64 s.who, .int .i64 s.met, .int .i64 s.ep, .int .i64 s.val], .int .i64 now] w fun e w' => e = .returned (.int .i64 (mayT n m f L s now)) ∧ TbAt n m f (putT n m f L s now) b mb w' ∧ Chg [mb] w w' := by
  have hA := fun W (K : Myk w n m f L b mb s W) => (tbmay_any K.tb s now he hn)
  have hP : putT n m f L s now = L := by unfold putT; rw [if_neg h0]
  rw [hP]
  have HR := hid h0
  generalize mayT n m f L s now = r at hA HR ⊢
  have hr := HR.out
  have HA := hid hA
  clear hA hP
  clear h0
  have hb := h.lt.1
  have K0 := Myk.start h s
  clear h
  have HK0 := hid K0
  obtain ⟨d0, d1, d2, d3⟩ := K0.smp
  go_enter Tryz.func158, Tryz.ntmps158
  go_wp2_with (first | (go_at_call 145; refine (HA.out _ HK0.out).mono ?_; rintro e w1 ⟨rfl, hg1⟩; have HK1 := hid (HK0.out.grown hg1); clear d0 d1 d2 d3; obtain ⟨d0, d1, d2, d3⟩ := HK1.out.smp; clear hg1))
  go_ret
  exact ⟨rfl, HK1.out.tb, chg_grown HK1.out.gr _⟩
set_option maxHeartbeats 1000000 in
theorem put_yes {n m f : Int} {L : List Sm} {b mb : Nat} {w : World} (h : TbAt n m f L b mb w) (hlen : L.length ≤ 100000) (s : Sm) (now : Int) (he : wf64 s.ep) (hn : wf64 now) (h0 : mayT n m f L s now = 0) :
    Calls Tryz.prog 158 #[.pointer (some ⟨b, 0, none⟩), .agg #[.int .i64 s.who, .int .i64 s.met, .int .i64 s.ep, .int .i64 s.val], .int .i64 now] w fun e w' => e = .returned (.int .i64 (mayT n m f L s now)) ∧ TbAt n m f (putT n m f L s now) b mb w' ∧ Chg [mb] w w' := by
  have hA := fun W (K : Myk w n m f L b mb s W) => (tbmay_any K.tb s now he hn)
  have hP : putT n m f L s now = ins s L := by unfold putT; rw [if_pos h0]
  rw [hP]
  have HR := hid h0
  rw [h0] at hA ⊢
  have HA := hid hA
  clear hA hP
  have HLEN := hid hlen
  have hmb := h.lt.2
  clear h0 hlen
  have hb := h.lt.1
  have K0 := Myk.start h s
  clear h
  have HK0 := hid K0
  obtain ⟨d0, d1, d2, d3⟩ := K0.smp
  go_enter Tryz.func158, Tryz.ntmps158
  go_upto_region 3 with (first | (go_at_call 145; refine (HA.out _ HK0.out).mono ?_; rintro e w1 ⟨rfl, hg1⟩; have HK1 := hid (HK0.out.grown hg1); clear d0 d1 d2 d3; obtain ⟨d0, d1, d2, d3⟩ := HK1.out.smp; clear hg1))
  refine wp_region_held_drew (S := (fun w' => (w'.heap[b]? = some (.cells #[.int .i64 n, .int .i64 m, .int .u64 f, .map (some mb)] 230)) ∧ (w'.heap[w.heap.size]? = some (.cells #[.int .i64 s.who, .int .i64 s.met, .int .i64 s.ep, .int .i64 s.val] 91)))) (by kernel_rfl) ⟨HK1.out.tb.obj, HK1.out.box⟩ (fun hHeld => ?_)
  try dsimp only at hHeld
  refine jU 0 hHeld ?_
  try simp only [jX, jD, jE, jF]
  refine jU 1 hHeld ?_
  try simp only [jX, jD, jE, jF]
  refine jU 2 hHeld ?_
  try simp only [jX, jD, jE, jF]
  refine' jT 3 rfl (by rfl) ?_ hHeld ?_
  rotate_left
  · (intro w hSw; (try dsimp only at hSw); obtain ⟨ob, bx⟩ := hSw; have t3 := at_cell ob 3; go_simp; try with_reducible rfl)
  try simp only [jX, jD, jE, jF]
  refine' jT 4 rfl (by rfl) ?_ hHeld ?_
  rotate_left
  · (intro w hSw; (try dsimp only at hSw); obtain ⟨ob, bx⟩ := hSw; have e0 := at_cell bx 0; have e1 := at_cell bx 1; have e2 := at_cell bx 2; have e3 := at_cell bx 3; go_simp; try with_reducible rfl)
  try simp only [jX, jD, jE, jF]
  refine jU 6 hHeld ?_
  try simp only [jX, jD, jE, jF]
  refine' jT 7 rfl (by rfl) ?_ hHeld ?_
  rotate_left
  · (intro w hSw; (try dsimp only at hSw); obtain ⟨ob, bx⟩ := hSw; have e0 := at_cell bx 0; have e1 := at_cell bx 1; have e2 := at_cell bx 2; have e3 := at_cell bx 3; go_simp; try with_reducible rfl)
  try simp only [jX, jD, jE, jF]
  refine jR [5] ?_
  refine jG rfl (fun K hK => ?_) AllReadyH.nil
  try simp only [jD, jE, jF]
  go_simp
  have hH2 := hHeld
  obtain ⟨ob, bx⟩ := hH2
  refine (place_any s _).mono ?_
  rintro e w1005 ⟨rfl, hg⟩
  have T5 := hid (HK1.out.drew.grown hg)
  have L5 := hid (show (w1005.heap[b]? = some (.cells #[.int .i64 n, .int .i64 m, .int .u64 f, .map (some mb)] 230)) ∧ (w1005.heap[w.heap.size]? = some (.cells #[.int .i64 s.who, .int .i64 s.met, .int .i64 s.ep, .int .i64 s.val] 91)) from ⟨at_grown ob hg (by simp), at_grown bx hg (by simp)⟩)
  clear hHeld hg ob bx
  go_wp2_with fail
  refine hK.out _ _ ?_ (fun hHeld => ?_)
  · exact L5.out
  clear hK K
  try dsimp only at hHeld
  try simp only [jX, jD, jE, jF]
  refine jR [8] ?_
  refine jG rfl (fun K hK => ?_) AllReadyH.nil
  have hH2 := hHeld
  obtain ⟨ob, bx⟩ := hH2
  try simp only [jD, jE, jF]
  rw [if_pos (by rfl)]
  refine wp_put _ _ _ rfl T5.out.tb HLEN.out s now he HR.out rfl rfl rfl ?_
  intro w8 TB hc8
  have TB8 := hid TB
  have HC8 := hid (T5.out.gr)
  have HC9 := hid hc8
  clear TB
  have L8 := hid (show (w8.heap[b]? = some (.cells #[.int .i64 n, .int .i64 m, .int .u64 f, .map (some mb)] 230)) ∧ (w8.heap[w.heap.size]? = some (.cells #[.int .i64 s.who, .int .i64 s.met, .int .i64 s.ep, .int .i64 s.val] 91)) from ⟨hc8.at ob (by simpa using HK1.out.tb.ne), hc8.at bx (by have := hmb; simp; omega)⟩)
  clear hHeld ob bx
  refine hK.out _ _ ?_ (fun hHeld => ?_)
  · exact L8.out
  clear hK K
  try dsimp only at hHeld
  try simp only [jX, jD, jE, jF]
  refine wpAnyH_done (by kernel_rfl) ?_ _
  obtain ⟨ob, bx⟩ := hHeld
  go_wp2_with fail
  go_ret
  exact ⟨rfl, TB8.out, (chg_grown HC8.out _).then HC9.out⟩
theorem tput_any {n m f : Int} {L : List Sm} {b mb : Nat} {w : World} (h : TbAt n m f L b mb w) (hlen : L.length ≤ 100000) (s : Sm) (now : Int) (he : wf64 s.ep) (hn : wf64 now) :
    Calls Tryz.prog 158 #[.pointer (some ⟨b, 0, none⟩), .agg #[.int .i64 s.who, .int .i64 s.met, .int .i64 s.ep, .int .i64 s.val], .int .i64 now] w fun e w' => e = .returned (.int .i64 (mayT n m f L s now)) ∧ TbAt n m f (putT n m f L s now) b mb w' ∧ Chg [mb] w w' := by
  by_cases h0 : mayT n m f L s now = 0
  · exact put_yes h hlen s now he hn h0
  · exact put_no h hlen s now he hn h0
end Go.Proofs.YtecggbndlbkhdaaGreat
end
