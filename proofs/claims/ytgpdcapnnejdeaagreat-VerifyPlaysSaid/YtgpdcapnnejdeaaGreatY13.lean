/-
  Contracts for package wire and the document's own answer, each for whatever comes: put, seal, get, split. The conditions: bytes that read as bytes, of a modest length. And 2 texts more that this one stands on. No condition.
-/
import Derived.Test.YtgpdcapnnejdeaaGreatNWRSplit
import Derived.Test.YtgpdcapnnejdeaaGreatY5
import Derived.Test.YtgpdcapnnejdeaaGreatY14
import Derived.Test.YtgpdcapnnejdeaaGreatY8
import Derived.Test.YtgpdcapnnejdeaaGreatY11
section
set_option linter.unusedSimpArgs false
set_option linter.unusedVariables false
namespace Go.Proofs.YtgpdcapnnejdeaaGreat
set_option maxRecDepth 100000
open Go.RowKit

def putC (m : Mg) : Int := if mayOf m = true then 0 else 1
def sealB (k0 k1 : BitVec 64) (m : Mg) : List UInt8 := if mayOf m = true then sealOf k0 k1 m else []
theorem sealB_le (k0 k1 : BitVec 64) (m : Mg) : (sealB k0 k1 m).length ≤ 48 := by unfold sealB; split <;> simp [sealOf_length]

theorem rseal_all (k0 k1 : BitVec 64) (m : Mg) (w : World) :
  Calls Tryz.prog 16 #[pair k0 k1, mg m] w fun e w' => e = .returned (.tuple #[.string ⟨(sealB k0 k1 m).toArray⟩, .int .i64 (putC m)]) ∧ w.grownBy w' none := by
 unfold putC sealB
 cases h : mayOf m
 ·exact rseal_bad k0 k1 m h w
 ·exact rseal_good k0 k1 m h w
def cutOf (l : List UInt8) : Option Mg := if l.length = 48 then getOf (l.take 32) else none
def spM (l : List UInt8) : Mg := (cutOf l).getD zeroM
def spX (l : List UInt8) : List UInt8 := if (cutOf l).isSome then l.take 32 else []
def spA (l : List UInt8) : BitVec 64 := if (cutOf l).isSome then wordAt (l.drop 32) 0 8 else 0
def spB (l : List UInt8) : BitVec 64 := if (cutOf l).isSome then wordAt (l.drop 32) 8 8 else 0
def spC (l : List UInt8) : Int := if (cutOf l).isSome then 0 else 2
theorem split_all (v : Value) (l : List UInt8) (w : World) (hl : BytesAt w v l) :
  Calls Tryz.prog 53 #[v] w fun e w' => ∃ u, e = .returned (.tuple #[mg (spM l), u, pair (spA l) (spB l), .int .i64 (spC l)]) ∧ OwnB w.heap.size w' u (spX l) ∧ w.grownBy w' none := by
 unfold spM spX spA spB spC
 by_cases h : l.length = 48
 ·obtain ⟨ab, ao, c, rfl, hc⟩ := hl.cells (by omega)
  have hcap : 48 ≤ c ∧ c ≤ maxLen := by
   rcases hl with ⟨e, _⟩ | ⟨a, cap, e, h1, h2, _⟩
   ·cases e
   ·cases e; omega
  rw [h] at hl ⊢
  cases hg : cutOf l with
  | none =>
   have hg' : getOf (l.take 32) = none := by unfold cutOf at hg; rwa [if_pos h] at hg
   exact (split_no ab ao c hcap.1 hcap.2 l h hg' w hl).mono fun e w' ⟨he, hgr⟩ => ⟨_, he, OwnB.nil _ _, hgr⟩
  | some m =>
   have hg' : getOf (l.take 32) = some m := by unfold cutOf at hg; rwa [if_pos h] at hg
   exact (split_yes ab ao c hcap.1 hcap.2 l h m hg' _ _ rfl rfl w hl).mono fun e w' ⟨u, he, ho, hgr⟩ => ⟨u, he, ho, hgr⟩
 ·obtain ⟨p, c, rfl⟩ := hl.form
  have hg : cutOf l = none := by unfold cutOf; rw [if_neg h]
  rw [hg]
  exact (split_bad p _ c h w).mono fun e w' ⟨he, hgr⟩ => ⟨_, he, OwnB.nil _ _, hgr⟩
theorem rsplit_all (s : ByteArray) (l : List UInt8) (hs : s.data.toList = l) (h1 : s.size ≤ 100000) (w : World) :
  Calls Tryz.prog 59 #[.string s] w fun e w' => e = .returned (.tuple #[mg (spM l), .string ⟨(spX l).toArray⟩, pair (spA l) (spB l), .int .i64 (spC l)]) ∧ w.grownBy w' none := by
 have hsz : l.length = s.size := by rw [← hs]; simp
 unfold spM spX spA spB spC
 by_cases h : s.size = 48
 ·cases hg : cutOf l with
  | none =>
   have hg' : getOf (s.data.toList.take 32) = none := by unfold cutOf at hg; rw [if_pos (by omega)] at hg; rwa [hs]
   exact rsplit_no s h hg' w
  | some m =>
   have hg' : getOf (s.data.toList.take 32) = some m := by unfold cutOf at hg; rw [if_pos (by omega)] at hg; rwa [hs]
   have hx : s.extract 0 32 = ⟨(l.take 32).toArray⟩ := by apply ByteArray.ext; rw [← hs]; apply Array.toList_inj.1; simp [List.extract_eq_take_drop]
   have := rsplit_yes s h m hg' _ _ (by rw [hs]) (by rw [hs]) w
   rw [hx] at this
   exact this
 ·have hg : cutOf l = none := by unfold cutOf; rw [if_neg (by omega)]
  rw [hg]
  exact rsplit_bad s h h1 w
theorem cut_seal {m : Mg} (h : mayOf m = true) (k0 k1 : BitVec 64) : cutOf (sealOf k0 k1 m) = some m := by
 unfold cutOf
 rw [if_pos (sealOf_length k0 k1 m)]
 have : (sealOf k0 k1 m).take 32 = putOf m := by unfold sealOf; rw [List.take_left' (putOf_length m)]
 rw [this]; exact get_put (may_of h)
theorem sp_seal {m : Mg} (h : mayOf m = true) (k0 k1 : BitVec 64) :
  spM (sealOf k0 k1 m) = m ∧ spX (sealOf k0 k1 m) = putOf m ∧ spA (sealOf k0 k1 m) = sumOf k0 k1 (putOf m) ∧ spB (sealOf k0 k1 m) = sumOf k1 (inv k0) (putOf m) ∧ spC (sealOf k0 k1 m) = 0 := by
 have hc := cut_seal h k0 k1
 have ht : (sealOf k0 k1 m).take 32 = putOf m := by unfold sealOf; rw [List.take_left' (putOf_length m)]
 have hd : (sealOf k0 k1 m).drop 32 = putAll [sumOf k0 k1 (putOf m), sumOf k1 (inv k0) (putOf m)] := by
  unfold sealOf; rw [List.drop_left' (putOf_length m)]; simp [tagB, putAll]
 unfold spM spX spA spB spC
 rw [hc, ht, hd]
 exact ⟨rfl, rfl, word_at _ 0 (by simp), word_at _ 1 (by simp), rfl⟩
end Go.Proofs.YtgpdcapnnejdeaaGreat
end
section
set_option linter.unusedSimpArgs false
set_option linter.unusedVariables false
namespace Go.Proofs.YtgpdcapnnejdeaaGreat
set_option maxRecDepth 100000
open Go.RowKit

@[reducible] def msgObj (m : Mg) : Obj := .cells m.cells 39
@[reducible] def keyObj (a b : BitVec 64) : Obj := .cells #[.int .u64 (q a), .int .u64 (q b)] 49
@[reducible] def tagObj (a b : BitVec 64) : Obj := .cells #[.int .u64 (q a), .int .u64 (q b)] 83
end Go.Proofs.YtgpdcapnnejdeaaGreat
end
section
set_option linter.unusedSimpArgs false
set_option linter.unusedVariables false
namespace Go.Proofs.YtgpdcapnnejdeaaGreat
set_option maxRecDepth 100000
open Go.RowKit

structure Gt where
 r : Rg
 win : Nat
 met : Nat
 fresh : Nat
 now : Nat → Rp
 old : Nat → Rp
structure Gt.Ok (G : Gt) : Prop where
 w1 : 1 ≤ G.win
 w2 : G.win ≤ 64
 m1 : 1 ≤ G.met
 m2 : G.met ≤ 4
 f1 : 1 ≤ G.fresh
 f2 : G.fresh ≤ 8
 nw : ∀ i, (G.now i).win = G.win
 ow : ∀ i, (G.old i).win = G.win
def sealedOf (m : Mg) : Int := if m.kind = 2 then m.gen - 1 else m.gen
def Gt.may (G : Gt) (m : Mg) (now : Int) : Bool := decide ((m.kind = 2 → m.gen - 1 = G.r.gen m.who.toNat) ∧ G.r.keyIs m.who.toNat (sealedOf m) now)
def Gt.key (G : Gt) (m : Mg) : Two64 := ofOf G.r.seed m.who.toNat (sealedOf m)
def Gt.rep (G : Gt) (m : Mg) : Rp := if sealedOf m = G.r.gen m.who.toNat then G.now m.who.toNat else G.old m.who.toNat
def Gt.in (G : Gt) (who : Int) : Bool := decide (0 ≤ who ∧ who < (G.r.n : Int))
def Gt.time (G : Gt) (epoch now : Int) : Bool := decide (now ≤ epoch ∧ epoch < now + (G.fresh : Int))
def Gt.checkM (G : Gt) (l : List UInt8) (now : Int) (o : Int → Bool) (m : Mg) : Int :=
 if G.in m.who = false ∨ o m.who = true then 3
 else if G.may m now = false then 4
 else if ¬ (spA l = sumOf (G.key m).a (G.key m).b (spX l) ∧ spB l = sumOf (G.key m).b (inv (G.key m).a) (spX l)) then 5
 else if (G.rep m).may m.seq = false then 6
 else if G.time m.epoch now = false then 7
 else if (G.met : Int) ≤ m.metric then 1 else 0
def Gt.checkC (G : Gt) (l : List UInt8) (now : Int) (o : Int → Bool) : Int := if spC l = 0 then G.checkM l now o (spM l) else 2
def Gt.check (G : Gt) (l : List UInt8) (now : Int) (o : Int → Bool) : Mg × Int := if G.checkC l now o = 0 then (spM l, 0) else (zeroM, G.checkC l now o)
def Gt.setRep (G : Gt) (m : Mg) (p : Rp) : Gt :=
 if sealedOf m = G.r.gen m.who.toNat then { G with now := fun i => if i = m.who.toNat then p else G.now i } else { G with old := fun i => if i = m.who.toNat then p else G.old i }
def Gt.turn (G : Gt) (i : Nat) (gen now : Int) : Gt :=
 { G with r := G.r.put i gen now, now := fun j => if j = i then Rp.new G.win else G.now j, old := fun j => if j = i then G.now i else G.old j }
def Gt.take (G : Gt) (m : Mg) (now : Int) : Int × Gt :=
 if mayOf m = false ∨ now < 0 ∨ 1099511627776 < now then (1, G)
 else if G.in m.who = false then (3, G)
 else if G.may m now = false then (4, G)
 else if (G.rep m).may m.seq = false then (6, G)
 else if m.kind = 2 then (0, (G.setRep m ((G.rep m).put m.seq)).turn m.who.toNat m.gen now)
 else (0, G.setRep m ((G.rep m).put m.seq))
def Gt.new (seed : BitVec 64) (n grace win met fresh : Nat) : Gt := ⟨.new seed n grace, win, met, fresh, fun _ => .new win, fun _ => .new win⟩

structure GBl where
 g : Nat
 rb : Nat
 rh : Nat
 hb : Nat
 A : Nat → Nat
 O : Nat → Nat
 t : Nat → Int
@[reducible] def side (t : Int) (a b : Nat) : Nat := if t % 2 = 0 then a else b
structure GtAt (w : World) (F : List Nat) (B : GBl) (G : Gt) : Prop where
 top : w.heap[B.g]? = some (.cells #[.pointer (some ⟨B.rb, 0, none⟩), .slice (some ⟨B.hb, 0, none⟩) G.r.n G.r.n, .int .i64 (G.win : Int), .int .i64 (G.met : Int), .int .i64 (G.fresh : Int)] 96)
 ring : RgAt w B.rb B.rh G.r
 row : ∃ cs : Array Value, w.heap[B.hb]? = some (.cells cs 104) ∧ ∀ i, i < G.r.n → cs[i * 3]? = some (.int .u32 (B.t i)) ∧ cs[i * 3 + 1]? = some (.pointer (some ⟨side (B.t i) (B.A i) (B.O i), 0, none⟩)) ∧ cs[i * 3 + 2]? = some (.pointer (some ⟨side (B.t i) (B.O i) (B.A i), 0, none⟩))
 t0 : ∀ i, 0 ≤ B.t i ∧ B.t i < 4294967296
 now : ∀ i, i < G.r.n → RpAt w (B.A i) (G.now i)
 old : ∀ i, i < G.r.n → RpAt w (B.O i) (G.old i)
 aa : ∀ i j, i < G.r.n → j < G.r.n → B.A i = B.A j → i = j
 oo : ∀ i j, i < G.r.n → j < G.r.n → B.O i = B.O j → i = j
 ao : ∀ i j, i < G.r.n → j < G.r.n → B.A i ≠ B.O j
 mg : B.g ∈ F
 mrb : B.rb ∈ F
 mrh : B.rh ∈ F
 mhb : B.hb ∈ F
 ma : ∀ i, i < G.r.n → B.A i ∈ F
 mo : ∀ i, i < G.r.n → B.O i ∈ F
 lt : ∀ x ∈ F, x < w.heap.size
 ok : G.Ok
theorem obj_ne {w : World} {a b : Nat} {c d : Array Value} {s t : TypeId} (h : w.heap[a]? = some (.cells c s)) (k : w.heap[b]? = some (.cells d t)) (hst : s ≠ t) : a ≠ b := by
 rintro rfl
 rw [h] at k
 cases k
 exact hst rfl
section
variable {w w' : World} {F H : List Nat} {B : GBl} {G : Gt}
theorem GtAt.chg (K : GtAt w F B G) (hc : Chg H w w') (hd : ∀ x ∈ F, x ∉ H) : GtAt w' F B G :=
 ⟨hc.at K.top (hd _ K.mg), K.ring.chg hc (hd _ K.mrb) (hd _ K.mrh), by obtain ⟨cs, h1, h2⟩ := K.row; exact ⟨cs, hc.at h1 (hd _ K.mhb), h2⟩, K.t0,
  fun i hi => (K.now i hi).chg hc (hd _ (K.ma i hi)), fun i hi => (K.old i hi).chg hc (hd _ (K.mo i hi)), K.aa, K.oo, K.ao, K.mg, K.mrb, K.mrh, K.mhb, K.ma, K.mo, fun x hx => Nat.lt_of_lt_of_le (K.lt x hx) hc.size, K.ok⟩
theorem GtAt.grown (K : GtAt w F B G) (hg : w.grownBy w' none) : GtAt w' F B G := K.chg (chg_grown hg []) (by simp)
theorem GtAt.drew (K : GtAt w F B G) : GtAt w.drew F B G := K.chg ((chg_refl w []).drew) (by simp)
theorem GtAt.tops (K : GtAt w F B G) : w.cell? ⟨B.g, 0, none⟩ = some (.pointer (some ⟨B.rb, 0, none⟩)) ∧ w.cell? ⟨B.g, 1, none⟩ = some (.slice (some ⟨B.hb, 0, none⟩) G.r.n G.r.n) ∧ w.cell? ⟨B.g, 2, none⟩ = some (.int .i64 (G.win : Int)) ∧ w.cell? ⟨B.g, 3, none⟩ = some (.int .i64 (G.met : Int)) ∧ w.cell? ⟨B.g, 4, none⟩ = some (.int .i64 (G.fresh : Int)) :=
 ⟨at_cell K.top 0, at_cell K.top 1, at_cell K.top 2, at_cell K.top 3, at_cell K.top 4⟩
theorem GtAt.cells (K : GtAt w F B G) {i : Nat} (hi : i < G.r.n) : w.cell? ⟨B.hb, i * 3, none⟩ = some (.int .u32 (B.t i)) ∧ w.cell? ⟨B.hb, i * 3 + 1, none⟩ = some (.pointer (some ⟨side (B.t i) (B.A i) (B.O i), 0, none⟩)) ∧ w.cell? ⟨B.hb, i * 3 + 2, none⟩ = some (.pointer (some ⟨side (B.t i) (B.O i) (B.A i), 0, none⟩)) ∧ w.frozen? ⟨B.hb, i * 3, none⟩ = false ∧ w.frozen? ⟨B.hb, i * 3 + 1, none⟩ = false ∧ w.frozen? ⟨B.hb, i * 3 + 2, none⟩ = false := by
 obtain ⟨cs, h1, h2⟩ := K.row
 obtain ⟨a, b, c⟩ := h2 i hi
 exact ⟨(at_cell h1 _).trans a, (at_cell h1 _).trans b, (at_cell h1 _).trans c, at_free h1 _, at_free h1 _, at_free h1 _⟩
theorem GtAt.more (K : GtAt w F B G) {x : Nat} (hx : x < w.heap.size) : GtAt w (x :: F) B G :=
 ⟨K.top, K.ring, K.row, K.t0, K.now, K.old, K.aa, K.oo, K.ao, List.mem_cons_of_mem _ K.mg, List.mem_cons_of_mem _ K.mrb, List.mem_cons_of_mem _ K.mrh, List.mem_cons_of_mem _ K.mhb, fun i hi => List.mem_cons_of_mem _ (K.ma i hi), fun i hi => List.mem_cons_of_mem _ (K.mo i hi),
  fun y hy => by rcases List.mem_cons.1 hy with rfl | hy; exact hx; exact K.lt y hy, K.ok⟩
theorem GtAt.rung (K : GtAt w F B G) {i : Nat} {g s : Int} (R : RgAt w' B.rb B.rh (G.r.put i g s)) (hc : Chg [B.rh] w w') : GtAt w' F B { G with r := G.r.put i g s } := by
 obtain ⟨cs, h1, h2⟩ := K.row
 have hr := K.ring.row
 obtain ⟨ds, k1, k2⟩ := hr
 have e1 : B.g ≠ B.rh := obj_ne K.top k1 (by decide)
 have e2 : B.hb ≠ B.rh := obj_ne h1 k1 (by decide)
 have e3 : ∀ j, j < G.r.n → B.A j ≠ B.rh := fun j hj => obj_ne (K.now j hj).top k1 (by decide)
 have e4 : ∀ j, j < G.r.n → B.O j ≠ B.rh := fun j hj => obj_ne (K.old j hj).top k1 (by decide)
 exact ⟨hc.at K.top (by simpa using e1), R, ⟨cs, hc.at h1 (by simpa using e2), h2⟩, K.t0, fun j hj => (K.now j hj).chg hc (by simpa using e3 j hj), fun j hj => (K.old j hj).chg hc (by simpa using e4 j hj), K.aa, K.oo, K.ao, K.mg, K.mrb, K.mrh, K.mhb, K.ma, K.mo,
  fun x hx => Nat.lt_of_lt_of_le (K.lt x hx) hc.size, ⟨K.ok.w1, K.ok.w2, K.ok.m1, K.ok.m2, K.ok.f1, K.ok.f2, K.ok.nw, K.ok.ow⟩⟩
theorem GtAt.tookNow (K : GtAt w F B G) {i : Nat} (hi : i < G.r.n) {p : Rp} (R : RpAt w' (B.A i) p) (hw : p.win = G.win) (hc : Chg [B.A i] w w') : GtAt w' F B { G with now := fun j => if j = i then p else G.now j } := by
 obtain ⟨cs, h1, h2⟩ := K.row
 obtain ⟨ds, k1, k2⟩ := K.ring.row
 have kA := (K.now i hi).top
 have e1 : B.g ≠ B.A i := obj_ne K.top kA (by decide)
 have e2 : B.hb ≠ B.A i := obj_ne h1 kA (by decide)
 have e3 : B.rb ≠ B.A i := obj_ne K.ring.top kA (by decide)
 have e4 : B.rh ≠ B.A i := obj_ne k1 kA (by decide)
 refine ⟨hc.at K.top (by simpa using e1), K.ring.chg hc (by simpa using e3) (by simpa using e4), ⟨cs, hc.at h1 (by simpa using e2), h2⟩, K.t0, fun j hj => ?_, fun j hj => (K.old j hj).chg hc (by simpa using fun e => K.ao i j hi hj e.symm), K.aa, K.oo, K.ao, K.mg, K.mrb, K.mrh, K.mhb, K.ma, K.mo,
  fun x hx => Nat.lt_of_lt_of_le (K.lt x hx) hc.size, ⟨K.ok.w1, K.ok.w2, K.ok.m1, K.ok.m2, K.ok.f1, K.ok.f2, fun j => ?_, K.ok.ow⟩⟩
 ·dsimp only
  by_cases e : j = i
  ·subst e; rw [if_pos rfl]; exact R
  ·rw [if_neg e]; exact (K.now j hj).chg hc (by simpa using fun h => e (K.aa j i hj hi h))
 ·dsimp only
  split
  ·exact hw
  ·exact K.ok.nw j
theorem GtAt.tookOld (K : GtAt w F B G) {i : Nat} (hi : i < G.r.n) {p : Rp} (R : RpAt w' (B.O i) p) (hw : p.win = G.win) (hc : Chg [B.O i] w w') : GtAt w' F B { G with old := fun j => if j = i then p else G.old j } := by
 obtain ⟨cs, h1, h2⟩ := K.row
 obtain ⟨ds, k1, k2⟩ := K.ring.row
 have kA := (K.old i hi).top
 have e1 : B.g ≠ B.O i := obj_ne K.top kA (by decide)
 have e2 : B.hb ≠ B.O i := obj_ne h1 kA (by decide)
 have e3 : B.rb ≠ B.O i := obj_ne K.ring.top kA (by decide)
 have e4 : B.rh ≠ B.O i := obj_ne k1 kA (by decide)
 refine ⟨hc.at K.top (by simpa using e1), K.ring.chg hc (by simpa using e3) (by simpa using e4), ⟨cs, hc.at h1 (by simpa using e2), h2⟩, K.t0, fun j hj => (K.now j hj).chg hc (by simpa using fun e => K.ao j i hj hi e), fun j hj => ?_, K.aa, K.oo, K.ao, K.mg, K.mrb, K.mrh, K.mhb, K.ma, K.mo,
  fun x hx => Nat.lt_of_lt_of_le (K.lt x hx) hc.size, ⟨K.ok.w1, K.ok.w2, K.ok.m1, K.ok.m2, K.ok.f1, K.ok.f2, K.ok.nw, fun j => ?_⟩⟩
 ·dsimp only
  by_cases e : j = i
  ·subst e; rw [if_pos rfl]; exact R
  ·rw [if_neg e]; exact (K.old j hj).chg hc (by simpa using fun h => e (K.oo j i hj hi h))
 ·dsimp only
  split
  ·exact hw
  ·exact K.ok.ow j
end

theorem gfind_out {F : List Nat} {B : GBl} {G : Gt} (x : Int) (w : World) (K : GtAt w F B G) (hx : x < 0 ∨ (G.r.n : Int) ≤ x) :
  Calls Tryz.prog 54 #[.pointer (some ⟨B.g, 0, none⟩), .int .i64 x] w fun e w' => e = .returned (.pointer none) ∧ w = w' := by
 obtain ⟨c0, c1, c2, c3, c4⟩ := K.tops
 have n1 := K.ring.ok.n1
 have n2 := K.ring.ok.n2
 clear K
 generalize G.r.n = n at *
 by_cases h : x < 0
 ·have d1 : decide (x < 0) = true := by simpa using h
  clear hx
  go_enter Tryz.func54, Tryz.ntmps54
  go_wp2
  go_ret
  exact ⟨rfl, rfl⟩
 ·have d1 : decide (x < 0) = false := by simpa using h
  have d2 : decide ((n : Int) ≤ x) = true := by simp; omega
  clear hx
  go_enter Tryz.func54, Tryz.ntmps54
  go_wp2
  go_ret
  exact ⟨rfl, rfl⟩
theorem gfind_in {F : List Nat} {B : GBl} {G : Gt} (i : Nat) (w : World) (K : GtAt w F B G) (hi : i < G.r.n) :
  Calls Tryz.prog 54 #[.pointer (some ⟨B.g, 0, none⟩), .int .i64 (i : Int)] w fun e w' => e = .returned (.pointer (some ⟨B.hb, i * 3, none⟩)) ∧ w = w' := by
 obtain ⟨c0, c1, c2, c3, c4⟩ := K.tops
 have n1 := K.ring.ok.n1
 have n2 := K.ring.ok.n2
 clear K
 generalize G.r.n = n at *
 have d1 : decide ((i : Int) < 0) = false := by simp
 have d2 : decide ((n : Int) ≤ (i : Int)) = false := by simp; omega
 go_enter Tryz.func54, Tryz.ntmps54
 go_wp2
 go_ret
 exact ⟨rfl, rfl⟩
end Go.Proofs.YtgpdcapnnejdeaaGreat
end
