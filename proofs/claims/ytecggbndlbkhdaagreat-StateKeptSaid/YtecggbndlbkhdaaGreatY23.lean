/-
  What is taken, as a model: generations, of each collector the numbers of its generation and of the one ahead; and the program's object that holds it. No condition.
  Contracts for the document's own root and collectors' keys. No condition.
  Contracts for the document's own rings: which key is there. The condition of a call: the ring lies there.
  Contracts for a holder's two windows, which of them is now's and which the old one's; a gate's ring, windows; whether an epoch is in time. The condition: the gate lies there.
  Contracts for making a ring: the program's and the document's. No condition.
  Contracts for package score: who is heard of a row; what a value says. The condition: the score lies there, the row reads as samples.
-/
import Derived.Test.YtecggbndlbkhdaaGreatY8
import Derived.Test.YtecggbndlbkhdaaGreatY7
import Derived.Test.YtecggbndlbkhdaaGreatY25
import Derived.Test.YtecggbndlbkhdaaGreatY10
import Derived.Test.YtecggbndlbkhdaaGreatY18
import Derived.Test.YtecggbndlbkhdaaGreatY6
import Derived.Deep.QuietTactic
import Derived.BigQuiet
import Derived.IntWalk
import Derived.Test.YtecggbndlbkhdaaGreatY13
section
set_option linter.unusedSimpArgs false
set_option linter.unusedVariables false
namespace Go.Proofs.YtecggbndlbkhdaaGreat
set_option maxRecDepth 100000
open Go.RowKit

/-- a gate -/
structure Gt where
  r : Rg
  win : Nat
  met : Nat
  fresh : Nat
  now : Nat → Rp
  old : Nat → Rp
structure Gt.Ok (G : Gt) : Prop where
  w1 : 1 ≤ G.win
  w2 : G.win ≤ 64
  m1 : 1 ≤ G.met
  m2 : G.met ≤ 4
  f1 : 1 ≤ G.fresh
  f2 : G.fresh ≤ 8
  nw : ∀ i, (G.now i).win = G.win
  ow : ∀ i, (G.old i).win = G.win
/-- the generation that seals a message -/
def sealedOf (m : Mg) : Int := if m.kind = 2 then m.gen - 1 else m.gen
/-- is there a key that it may be sealed by? -/
def Gt.may (G : Gt) (m : Mg) (now : Int) : Bool := decide ((m.kind = 2 → m.gen - 1 = G.r.gen m.who.toNat) ∧ G.r.keyIs m.who.toNat (sealedOf m) now)
def Gt.key (G : Gt) (m : Mg) : Two64 := ofOf G.r.seed m.who.toNat (sealedOf m)
def Gt.rep (G : Gt) (m : Mg) : Rp := if sealedOf m = G.r.gen m.who.toNat then G.now m.who.toNat else G.old m.who.toNat
def Gt.in (G : Gt) (who : Int) : Bool := decide (0 ≤ who ∧ who < (G.r.n : Int))
def Gt.setRep (G : Gt) (m : Mg) (p : Rp) : Gt :=
  if sealedOf m = G.r.gen m.who.toNat then { G with now := fun i => if i = m.who.toNat then p else G.now i } else { G with old := fun i => if i = m.who.toNat then p else G.old i }
def Gt.turn (G : Gt) (i : Nat) (gen now : Int) : Gt :=
  { G with r := G.r.put i gen now, now := fun j => if j = i then Rp.new G.win else G.now j, old := fun j => if j = i then G.now i else G.old j }
def Gt.take (G : Gt) (m : Mg) (now : Int) : Int × Gt :=
  if mayOf m = false ∨ now < 0 ∨ 1099511627776 < now then (1, G)
  else if G.in m.who = false then (3, G)
  else if G.may m now = false then (4, G)
  else if (G.rep m).may m.seq = false then (6, G)
  else if m.kind = 2 then (0, (G.setRep m ((G.rep m).put m.seq)).turn m.who.toNat m.gen now)
  else (0, G.setRep m ((G.rep m).put m.seq))
/-- a gate of whom nothing was taken -/
def Gt.new (seed : BitVec 64) (n grace win met fresh : Nat) : Gt := ⟨.new seed n grace, win, met, fresh, fun _ => .new win, fun _ => .new win⟩

/-- which blocks the program's gate has -/
structure GBl where
  g : Nat
  rb : Nat
  rh : Nat
  hb : Nat
  A : Nat → Nat
  O : Nat → Nat
  t : Nat → Int
@[reducible] def side (t : Int) (a b : Nat) : Nat := if t % 2 = 0 then a else b
structure GtAt (w : World) (F : List Nat) (B : GBl) (G : Gt) : Prop where
  top : w.heap[B.g]? = some (.cells #[.pointer (some ⟨B.rb, 0, none⟩), .slice (some ⟨B.hb, 0, none⟩) G.r.n G.r.n, .int .i64 (G.win : Int), .int .i64 (G.met : Int), .int .i64 (G.fresh : Int)] 220)
  ring : RgAt w B.rb B.rh G.r
  row : ∃ cs : Array Value, w.heap[B.hb]? = some (.cells cs 227) ∧ ∀ i, i < G.r.n → cs[i * 3]? = some (.int .u32 (B.t i)) ∧ cs[i * 3 + 1]? = some (.pointer (some ⟨side (B.t i) (B.A i) (B.O i), 0, none⟩)) ∧ cs[i * 3 + 2]? = some (.pointer (some ⟨side (B.t i) (B.O i) (B.A i), 0, none⟩))
  t0 : ∀ i, 0 ≤ B.t i ∧ B.t i < 4294967296
  now : ∀ i, i < G.r.n → RpAt w (B.A i) (G.now i)
  old : ∀ i, i < G.r.n → RpAt w (B.O i) (G.old i)
  aa : ∀ i j, i < G.r.n → j < G.r.n → B.A i = B.A j → i = j
  oo : ∀ i j, i < G.r.n → j < G.r.n → B.O i = B.O j → i = j
  ao : ∀ i j, i < G.r.n → j < G.r.n → B.A i ≠ B.O j
  mg : B.g ∈ F
  mrb : B.rb ∈ F
  mrh : B.rh ∈ F
  mhb : B.hb ∈ F
  ma : ∀ i, i < G.r.n → B.A i ∈ F
  mo : ∀ i, i < G.r.n → B.O i ∈ F
  lt : ∀ x ∈ F, x < w.heap.size
  ok : G.Ok
theorem obj_ne {w : World} {a b : Nat} {c d : Array Value} {s t : TypeId} (h : w.heap[a]? = some (.cells c s)) (k : w.heap[b]? = some (.cells d t)) (hst : s ≠ t) : a ≠ b := by
  rintro rfl
  rw [h] at k
  cases k
  exact hst rfl
section
variable {w w' : World} {F H : List Nat} {B : GBl} {G : Gt}
theorem GtAt.chg (K : GtAt w F B G) (hc : Chg H w w') (hd : ∀ x ∈ F, x ∉ H) : GtAt w' F B G :=
  ⟨hc.at K.top (hd _ K.mg), K.ring.chg hc (hd _ K.mrb) (hd _ K.mrh), by obtain ⟨cs, h1, h2⟩ := K.row; exact ⟨cs, hc.at h1 (hd _ K.mhb), h2⟩, K.t0,
    fun i hi => (K.now i hi).chg hc (hd _ (K.ma i hi)), fun i hi => (K.old i hi).chg hc (hd _ (K.mo i hi)), K.aa, K.oo, K.ao, K.mg, K.mrb, K.mrh, K.mhb, K.ma, K.mo, fun x hx => Nat.lt_of_lt_of_le (K.lt x hx) hc.size, K.ok⟩
theorem GtAt.grown (K : GtAt w F B G) (hg : w.grownBy w' none) : GtAt w' F B G := K.chg (chg_grown hg []) (by simp)
theorem GtAt.drew (K : GtAt w F B G) : GtAt w.drew F B G := K.chg ((chg_refl w []).drew) (by simp)
theorem GtAt.tops (K : GtAt w F B G) : w.cell? ⟨B.g, 0, none⟩ = some (.pointer (some ⟨B.rb, 0, none⟩)) ∧ w.cell? ⟨B.g, 1, none⟩ = some (.slice (some ⟨B.hb, 0, none⟩) G.r.n G.r.n) ∧ w.cell? ⟨B.g, 2, none⟩ = some (.int .i64 (G.win : Int)) ∧ w.cell? ⟨B.g, 3, none⟩ = some (.int .i64 (G.met : Int)) ∧ w.cell? ⟨B.g, 4, none⟩ = some (.int .i64 (G.fresh : Int)) :=
  ⟨at_cell K.top 0, at_cell K.top 1, at_cell K.top 2, at_cell K.top 3, at_cell K.top 4⟩
theorem GtAt.cells (K : GtAt w F B G) {i : Nat} (hi : i < G.r.n) : w.cell? ⟨B.hb, i * 3, none⟩ = some (.int .u32 (B.t i)) ∧ w.cell? ⟨B.hb, i * 3 + 1, none⟩ = some (.pointer (some ⟨side (B.t i) (B.A i) (B.O i), 0, none⟩)) ∧ w.cell? ⟨B.hb, i * 3 + 2, none⟩ = some (.pointer (some ⟨side (B.t i) (B.O i) (B.A i), 0, none⟩)) ∧ w.frozen? ⟨B.hb, i * 3, none⟩ = false ∧ w.frozen? ⟨B.hb, i * 3 + 1, none⟩ = false ∧ w.frozen? ⟨B.hb, i * 3 + 2, none⟩ = false := by
  obtain ⟨cs, h1, h2⟩ := K.row
  obtain ⟨a, b, c⟩ := h2 i hi
  exact ⟨(at_cell h1 _).trans a, (at_cell h1 _).trans b, (at_cell h1 _).trans c, at_free h1 _, at_free h1 _, at_free h1 _⟩
theorem GtAt.more (K : GtAt w F B G) {x : Nat} (hx : x < w.heap.size) : GtAt w (x :: F) B G :=
  ⟨K.top, K.ring, K.row, K.t0, K.now, K.old, K.aa, K.oo, K.ao, List.mem_cons_of_mem _ K.mg, List.mem_cons_of_mem _ K.mrb, List.mem_cons_of_mem _ K.mrh, List.mem_cons_of_mem _ K.mhb, fun i hi => List.mem_cons_of_mem _ (K.ma i hi), fun i hi => List.mem_cons_of_mem _ (K.mo i hi),
    fun y hy => by rcases List.mem_cons.1 hy with rfl | hy; exact hx; exact K.lt y hy, K.ok⟩
/-- the ring turned -/
theorem GtAt.rung (K : GtAt w F B G) {i : Nat} {g s : Int} (R : RgAt w' B.rb B.rh (G.r.put i g s)) (hc : Chg [B.rh] w w') : GtAt w' F B { G with r := G.r.put i g s } := by
  obtain ⟨cs, h1, h2⟩ := K.row
  have hr := K.ring.row
  obtain ⟨ds, k1, k2⟩ := hr
  have e1 : B.g ≠ B.rh := obj_ne K.top k1 (by decide)
  have e2 : B.hb ≠ B.rh := obj_ne h1 k1 (by decide)
  have e3 : ∀ j, j < G.r.n → B.A j ≠ B.rh := fun j hj => obj_ne (K.now j hj).top k1 (by decide)
  have e4 : ∀ j, j < G.r.n → B.O j ≠ B.rh := fun j hj => obj_ne (K.old j hj).top k1 (by decide)
  exact ⟨hc.at K.top (by simpa using e1), R, ⟨cs, hc.at h1 (by simpa using e2), h2⟩, K.t0, fun j hj => (K.now j hj).chg hc (by simpa using e3 j hj), fun j hj => (K.old j hj).chg hc (by simpa using e4 j hj), K.aa, K.oo, K.ao, K.mg, K.mrb, K.mrh, K.mhb, K.ma, K.mo,
    fun x hx => Nat.lt_of_lt_of_le (K.lt x hx) hc.size, ⟨K.ok.w1, K.ok.w2, K.ok.m1, K.ok.m2, K.ok.f1, K.ok.f2, K.ok.nw, K.ok.ow⟩⟩
/-- a number was taken of those now -/
theorem GtAt.tookNow (K : GtAt w F B G) {i : Nat} (hi : i < G.r.n) {p : Rp} (R : RpAt w' (B.A i) p) (hw : p.win = G.win) (hc : Chg [B.A i] w w') : GtAt w' F B { G with now := fun j => if j = i then p else G.now j } := by
  obtain ⟨cs, h1, h2⟩ := K.row
  obtain ⟨ds, k1, k2⟩ := K.ring.row
  have kA := (K.now i hi).top
  have e1 : B.g ≠ B.A i := obj_ne K.top kA (by decide)
  have e2 : B.hb ≠ B.A i := obj_ne h1 kA (by decide)
  have e3 : B.rb ≠ B.A i := obj_ne K.ring.top kA (by decide)
  have e4 : B.rh ≠ B.A i := obj_ne k1 kA (by decide)
  refine ⟨hc.at K.top (by simpa using e1), K.ring.chg hc (by simpa using e3) (by simpa using e4), ⟨cs, hc.at h1 (by simpa using e2), h2⟩, K.t0, fun j hj => ?_, fun j hj => (K.old j hj).chg hc (by simpa using fun e => K.ao i j hi hj e.symm), K.aa, K.oo, K.ao, K.mg, K.mrb, K.mrh, K.mhb, K.ma, K.mo,
    fun x hx => Nat.lt_of_lt_of_le (K.lt x hx) hc.size, ⟨K.ok.w1, K.ok.w2, K.ok.m1, K.ok.m2, K.ok.f1, K.ok.f2, fun j => ?_, K.ok.ow⟩⟩
  · dsimp only
    by_cases e : j = i
    · subst e; rw [if_pos rfl]; exact R
    · rw [if_neg e]; exact (K.now j hj).chg hc (by simpa using fun h => e (K.aa j i hj hi h))
  · dsimp only
    split
    · exact hw
    · exact K.ok.nw j
theorem GtAt.tookOld (K : GtAt w F B G) {i : Nat} (hi : i < G.r.n) {p : Rp} (R : RpAt w' (B.O i) p) (hw : p.win = G.win) (hc : Chg [B.O i] w w') : GtAt w' F B { G with old := fun j => if j = i then p else G.old j } := by
  obtain ⟨cs, h1, h2⟩ := K.row
  obtain ⟨ds, k1, k2⟩ := K.ring.row
  have kA := (K.old i hi).top
  have e1 : B.g ≠ B.O i := obj_ne K.top kA (by decide)
  have e2 : B.hb ≠ B.O i := obj_ne h1 kA (by decide)
  have e3 : B.rb ≠ B.O i := obj_ne K.ring.top kA (by decide)
  have e4 : B.rh ≠ B.O i := obj_ne k1 kA (by decide)
  refine ⟨hc.at K.top (by simpa using e1), K.ring.chg hc (by simpa using e3) (by simpa using e4), ⟨cs, hc.at h1 (by simpa using e2), h2⟩, K.t0, fun j hj => (K.now j hj).chg hc (by simpa using fun e => K.ao j i hj hi e), fun j hj => ?_, K.aa, K.oo, K.ao, K.mg, K.mrb, K.mrh, K.mhb, K.ma, K.mo,
    fun x hx => Nat.lt_of_lt_of_le (K.lt x hx) hc.size, ⟨K.ok.w1, K.ok.w2, K.ok.m1, K.ok.m2, K.ok.f1, K.ok.f2, K.ok.nw, fun j => ?_⟩⟩
  · dsimp only
    by_cases e : j = i
    · subst e; rw [if_pos rfl]; exact R
    · rw [if_neg e]; exact (K.old j hj).chg hc (by simpa using fun h => e (K.oo j i hj hi h))
  · dsimp only
    split
    · exact hw
    · exact K.ok.ow j
end

theorem gfind_in {F : List Nat} {B : GBl} {G : Gt} (i : Nat) (w : World) (K : GtAt w F B G) (hi : i < G.r.n) :
    Calls Tryz.prog 137 #[.pointer (some ⟨B.g, 0, none⟩), .int .i64 (i : Int)] w fun e w' => e = .returned (.pointer (some ⟨B.hb, i * 3, none⟩)) ∧ w = w' := by
  obtain ⟨c0, c1, c2, c3, c4⟩ := K.tops
  have n1 := K.ring.ok.n1
  have n2 := K.ring.ok.n2
  clear K
  generalize G.r.n = n at *
  have d1 : decide ((i : Int) < 0) = false := by simp
  have d2 : decide ((n : Int) ≤ (i : Int)) = false := by simp; omega
  go_enter Tryz.func137, Tryz.ntmps137
  go_wp2
  go_ret
  exact ⟨rfl, rfl⟩
end Go.Proofs.YtecggbndlbkhdaaGreat
end
section
set_option linter.unusedSimpArgs false
namespace Go.Proofs.YtecggbndlbkhdaaGreat
set_option maxRecDepth 100000
open Go.RowKit

end Go.Proofs.YtecggbndlbkhdaaGreat
end
section
set_option linter.unusedSimpArgs false
set_option linter.unusedVariables false
namespace Go.Proofs.YtecggbndlbkhdaaGreat
set_option maxRecDepth 100000
open Go.RowKit

theorem gb_drewN {w w1 : World} {r : Option Nat} (h : w.grownBy w1 r) (n : Nat) : w.grownBy (w1.drewN n) r := ⟨h.os, h.tape, h.output, h.size, h.block⟩
structure AnsF (w : World) (b g s : Nat) (r : Rg) (w' : World) : Prop where
  a : Ans w 251 w'
  r : RfAt w' b g s r
theorem AnsF.new {w : World} {b g s : Nat} {r : Rg} (H : RfAt w b g s r) : AnsF w b g s r (w.alloc (.cells #[.int .u64 0, .int .u64 0] 251)) := ⟨.new w _ _ _, H.grown (World.grownBy_alloc w _ none)⟩
theorem AnsF.grown {w w1 w2 : World} {b g s : Nat} {r : Rg} (A : AnsF w b g s r w1) (hg : w1.grownBy w2 none) : AnsF w b g s r w2 := ⟨A.a.grown hg, A.r.grown hg⟩
theorem AnsF.drewN {w w1 : World} {b g s : Nat} {r : Rg} (A : AnsF w b g s r w1) (n : Nat) : AnsF w b g s r (w1.drewN n) := ⟨⟨A.a.ans, gb_drewN A.a.g n⟩, ⟨A.r.top, A.r.gens, A.r.sinces, A.r.bg, A.r.bs, A.r.gs, A.r.ok⟩⟩

end Go.Proofs.YtecggbndlbkhdaaGreat
end
section
set_option linter.unusedSimpArgs false
set_option linter.unusedVariables false
namespace Go.Proofs.YtecggbndlbkhdaaGreat
set_option maxRecDepth 100000
open Go.RowKit

theorem hold_now (h k a b : Nat) (t : Int) (w : World) (t0 : 0 ≤ t) (c0 : w.cell? ⟨h, k, none⟩ = some (.int .u32 t)) (c1 : w.cell? ⟨h, k + 1, none⟩ = some (.pointer (some ⟨a, 0, none⟩))) (c2 : w.cell? ⟨h, k + 2, none⟩ = some (.pointer (some ⟨b, 0, none⟩))) :
    Calls Tryz.prog 276 #[.pointer (some ⟨h, k, none⟩)] w fun e w' => e = .returned (.pointer (some ⟨side t a b, 0, none⟩)) ∧ ∃ m, w' = w.drewN m := by
  have CL := hid (fun n => load_u32 ⟨h, k, none⟩ t (w.drewN n) c0)
  by_cases ht : t % 2 = 0
  · have e1 : Int.tmod t 2 = 0 := by rw [Int.tmod_eq_emod_of_nonneg t0]; exact ht
    rw [show side t a b = a from if_pos ht]
    clear ht
    go_enter Tryz.func276, Tryz.ntmps276
    go_wp2_with fail
    go_quiet ((go_at_call 338; exact Calls.quiet_of_same (still_of (CL.out _))))
    go_wp2_with fail
    go_ret
    exact ⟨rfl, _, rfl⟩
  · have e1 : Int.tmod t 2 = 1 := by rw [Int.tmod_eq_emod_of_nonneg t0]; omega
    rw [show side t a b = b from if_neg ht]
    clear ht
    go_enter Tryz.func276, Tryz.ntmps276
    go_wp2_with fail
    go_quiet ((go_at_call 338; exact Calls.quiet_of_same (still_of (CL.out _))))
    go_wp2_with fail
    go_ret
    exact ⟨rfl, _, rfl⟩
/-- one turn more -/
def succT (t : Int) : Int := (t + 1) % 4294967296
theorem wrap_succT (t : Int) : IntKind.u32.wrap (t + 1) = succT t := by simp [succT, IntKind.wrap, IntKind.bits, IntKind.signed]
theorem succT_0 (t : Int) : 0 ≤ succT t := Int.emod_nonneg _ (by decide)
theorem succT_lt (t : Int) : succT t < 4294967296 := Int.emod_lt_of_pos _ (by decide)
theorem succT_mod (t : Int) : succT t % 2 = (t + 1) % 2 := by unfold succT; omega
theorem hold_old (h k a b : Nat) (t : Int) (w : World) (t0 : 0 ≤ t) (c0 : w.cell? ⟨h, k, none⟩ = some (.int .u32 t)) (c1 : w.cell? ⟨h, k + 1, none⟩ = some (.pointer (some ⟨a, 0, none⟩))) (c2 : w.cell? ⟨h, k + 2, none⟩ = some (.pointer (some ⟨b, 0, none⟩))) :
    Calls Tryz.prog 277 #[.pointer (some ⟨h, k, none⟩)] w fun e w' => e = .returned (.pointer (some ⟨side t b a, 0, none⟩)) ∧ ∃ m, w' = w.drewN m := by
  have CL := hid (fun n => load_u32 ⟨h, k, none⟩ t (w.drewN n) c0)
  have e0 := wrap_succT t
  have e2 := Int.tmod_eq_emod_of_nonneg (b := 2) (succT_0 t)
  rw [succT_mod] at e2
  by_cases ht : t % 2 = 0
  · have e1 : Int.tmod (succT t) 2 = 1 := by rw [e2]; omega
    rw [show side t b a = b from if_pos ht]
    clear ht e2
    generalize succT t = t1 at *
    go_enter Tryz.func277, Tryz.ntmps277
    go_wp2_with fail
    go_quiet ((go_at_call 338; exact Calls.quiet_of_same (still_of (CL.out _))))
    go_wp2_with fail
    go_ret
    exact ⟨rfl, _, rfl⟩
  · have e1 : Int.tmod (succT t) 2 = 0 := by rw [e2]; omega
    rw [show side t b a = a from if_neg ht]
    clear ht e2
    generalize succT t = t1 at *
    go_enter Tryz.func277, Tryz.ntmps277
    go_wp2_with fail
    go_quiet ((go_at_call 338; exact Calls.quiet_of_same (still_of (CL.out _))))
    go_wp2_with fail
    go_ret
    exact ⟨rfl, _, rfl⟩
theorem side_self (t : Int) (a b : Nat) : side t (side t a b) (side t b a) = a := by unfold side; split <;> rfl

theorem gring_any {F : List Nat} {B : GBl} {G : Gt} (w : World) (K : GtAt w F B G) :
    Calls Tryz.prog 184 #[.pointer (some ⟨B.g, 0, none⟩)] w fun e w' => e = .returned (.pointer (some ⟨B.rb, 0, none⟩)) ∧ w = w' := by
  obtain ⟨c0, c1, c2, c3, c4⟩ := K.tops
  clear K
  go_enter Tryz.func184, Tryz.ntmps184
  go_wp2
  go_ret
  exact ⟨rfl, rfl⟩
theorem greplay_q {F : List Nat} {B : GBl} {G : Gt} (i : Nat) (w : World) (K : GtAt w F B G) (hi : i < G.r.n) :
    Calls Tryz.prog 185 #[.pointer (some ⟨B.g, 0, none⟩), .int .i64 (i : Int)] w fun e w' => e = .returned (.pointer (some ⟨B.A i, 0, none⟩)) ∧ ∃ m, w' = w.drewN m := by
  have F1 := hid (gfind_in i w K hi)
  obtain ⟨c0, c1, c2, f0, f1, f2⟩ := K.cells hi
  have C := hid (hold_now B.hb (i * 3) _ _ _ w (K.t0 i).1 c0 c1 c2)
  rw [side_self] at C
  clear K c0 c1 c2 f0 f1 f2
  go_enter Tryz.func185, Tryz.ntmps185
  go_wp2_with fail
  refine F1.out.mono ?_
  rintro e w1 ⟨rfl, rfl⟩
  go_wp2_with fail
  refine C.out.mono ?_
  rintro e w1 ⟨rfl, m, hg⟩
  have G1 := hid (Exists.intro (p := fun m => w1 = w.drewN m) m hg); clear hg
  go_wp2_with fail
  go_ret
  exact ⟨rfl, G1.out⟩
theorem greplay_in {F : List Nat} {B : GBl} {G : Gt} (i : Nat) (w : World) (K : GtAt w F B G) (hi : i < G.r.n) :
    Calls Tryz.prog 185 #[.pointer (some ⟨B.g, 0, none⟩), .int .i64 (i : Int)] w fun e w' => e = .returned (.pointer (some ⟨B.A i, 0, none⟩)) ∧ w.grownBy w' none :=
  (greplay_q i w K hi).mono fun e w' ⟨h, m, hm⟩ => ⟨h, hm ▸ gb_drewQ w m⟩
theorem gold_q {F : List Nat} {B : GBl} {G : Gt} (i : Nat) (w : World) (K : GtAt w F B G) (hi : i < G.r.n) :
    Calls Tryz.prog 186 #[.pointer (some ⟨B.g, 0, none⟩), .int .i64 (i : Int)] w fun e w' => e = .returned (.pointer (some ⟨B.O i, 0, none⟩)) ∧ ∃ m, w' = w.drewN m := by
  have F1 := hid (gfind_in i w K hi)
  obtain ⟨c0, c1, c2, f0, f1, f2⟩ := K.cells hi
  have C := hid (hold_old B.hb (i * 3) _ _ _ w (K.t0 i).1 c0 c1 c2)
  rw [side_self] at C
  clear K c0 c1 c2 f0 f1 f2
  go_enter Tryz.func186, Tryz.ntmps186
  go_wp2_with fail
  refine F1.out.mono ?_
  rintro e w1 ⟨rfl, rfl⟩
  go_wp2_with fail
  refine C.out.mono ?_
  rintro e w1 ⟨rfl, m, hg⟩
  have G1 := hid (Exists.intro (p := fun m => w1 = w.drewN m) m hg); clear hg
  go_wp2_with fail
  go_ret
  exact ⟨rfl, G1.out⟩

theorem gold_in {F : List Nat} {B : GBl} {G : Gt} (i : Nat) (w : World) (K : GtAt w F B G) (hi : i < G.r.n) :
    Calls Tryz.prog 186 #[.pointer (some ⟨B.g, 0, none⟩), .int .i64 (i : Int)] w fun e w' => e = .returned (.pointer (some ⟨B.O i, 0, none⟩)) ∧ w.grownBy w' none :=
  (gold_q i w K hi).mono fun e w' ⟨h, m, hm⟩ => ⟨h, hm ▸ gb_drewQ w m⟩
end Go.Proofs.YtecggbndlbkhdaaGreat
end
section
set_option linter.unusedSimpArgs false
set_option linter.unusedVariables false
namespace Go.Proofs.YtecggbndlbkhdaaGreat
set_option maxRecDepth 100000
open Go.RowKit

theorem made_all (a : Value) (m j : Nat) (h : j < m) : (madeCells #[a, a] m)[j]? = some a := by
  have : j % 2 = 0 ∨ j % 2 = 1 := by omega
  rcases this with e | e <;> simp [madeCells, h, e]
theorem info_holder : (Tryz.prog.info? 391).map (fun i => (i.zero, i.size, i.bytes)) = some (some (.agg #[.int .i64 0, .int .i64 0]), 2, 16) := by kernel_rfl
def hCells (n : Nat) : Array Value := madeCells #[.int .i64 0, .int .i64 0] (n * 2)
theorem mk_holders (n : Nat) (hn : n ≤ 16) (u : World) : (Instr.makeSlice 341 (.int .i64 (n : Int)) (.int .i64 (n : Int))).run Tryz.prog u = .ok (.slice (some ⟨u.heap.size, 0, none⟩) n n) (u.alloc (.cells (hCells n) 391)) := by
  obtain ⟨i, hi, hz0, hz1, hz2⟩ := info_parts info_holder
  have := run_makeSlice (P := Tryz.prog) u 341 391 i _ Tryz.underlying341 hi hz0 .i64 .i64 (n : Int) (n : Int) (by omega) (Int.le_refl _) (by rw [hz1]; omega) (by rw [hz2]; omega) (by omega)
  rw [this, hz1]
  simp [hCells, Value.cells]
/-- what New makes -/
def MadeR (w : World) (r : Rg) (e : Ending) (w' : World) : Prop := ∃ b h, e = .returned (.pointer (some ⟨b, 0, none⟩)) ∧ RgAt w' b h r ∧ w.grownBy w' none ∧ w.heap.size ≤ b ∧ w.heap.size ≤ h
theorem made_rg (seed : BitVec 64) (n grace : Nat) (h1 : 1 ≤ n) (h2 : n ≤ 16) (h3 : 1 ≤ grace) (h4 : grace ≤ 100) (w : World) :
    RgAt ((w.alloc (.cells (hCells n) 391)).alloc (.cells #[.int .u64 (q seed), .int .i64 (grace : Int), .slice (some ⟨w.heap.size, 0, none⟩) n n] 343)) (w.heap.size + 1) w.heap.size (.new seed n grace) :=
  ⟨at_new2 w _ _, ⟨_, at_alloc (at_new w _) _, fun i hi => ⟨made_all _ _ _ (by have : i < n := hi; omega), made_all _ _ _ (by have : i < n := hi; omega)⟩⟩, by omega, rg_new_ok seed h1 h2 h3 h4⟩

set_option maxHeartbeats 1600000 in
theorem rnew_ok (seed : BitVec 64) (n grace : Nat) (h1 : 1 ≤ n) (h2 : n ≤ 16) (h3 : 1 ≤ grace) (h4 : grace ≤ 100) (w : World) :
    Calls Tryz.prog 126 #[.int .u64 (q seed), .int .i64 (n : Int), .int .i64 (grace : Int)] w (MadeR w (.new seed n grace)) := by
  have L := hid (made_rg seed n grace h1 h2 h3 h4 w)
  have hm := mk_holders n h2 w
  go_enter Tryz.func126, Tryz.ntmps126
  go_wp2_with fail
  refine (within_in (n : Int) 1 16 (by omega) (by omega) _).mono ?_
  rintro e w1 ⟨rfl, rfl⟩
  go_wp2_with fail
  refine (within_in (grace : Int) 1 100 (by omega) (by omega) _).mono ?_
  rintro e w1 ⟨rfl, rfl⟩
  go_wp2_with fail
  go_ret
  exact ⟨_, _, rfl, L.out, gb_alloc (gb_alloc (.refl w none) _) _, by omega, Nat.le_refl _⟩

end Go.Proofs.YtecggbndlbkhdaaGreat
end
section
set_option linter.unusedSimpArgs false
set_option linter.unusedVariables false
namespace Go.Proofs.YtecggbndlbkhdaaGreat
set_option maxRecDepth 100000
open Go.RowKit

set_option maxHeartbeats 800000 in
theorem heard_any {s : Sc} {b hb : Nat} {w : World} (h : ScAt s b hb w) (v : Value) (l : List Sm) (hv : SAt w v l) (hl : l.length ≤ 100000) :
    Calls Tryz.prog 316 #[.pointer (some ⟨b, 0, none⟩), v] w fun e w' => ∃ u, e = .returned u ∧ OwnZ w.heap.size w' u (heardL s.H l) ∧ w.grownBy w' none := by
  have HS := hid h
  have HI := hid hv
  have HL := hid hl
  obtain ⟨p, c, rfl⟩ := hv.form
  obtain ⟨n, hn⟩ : ∃ n, l.length = n := ⟨_, rfl⟩
  have HN := hid hn
  rw [hn] at HI hl ⊢
  clear h hv hn
  go_enter Tryz.func316, Tryz.ntmps316
  go_wp2_with fail
  go_loopw [5, 10] (fun u i wr => ∃ (k : Nat) (v0 : Value), u = v0 ∧ k ≤ n ∧ i = .int .i64 (k : Int) ∧ OwnZ w.heap.size wr v0 (heardL s.H (l.take k)) ∧ w.grownBy wr none)
    (fun _ i _ => n - (intOf i).toNat)
  case atStart => exact ⟨0, _, rfl, Nat.zero_le _, rfl, by rw [List.take_zero]; exact OwnZ.nil _ _, .refl _ _⟩
  case round =>
    obtain ⟨k, v0, hv0, hk, rfl, hown, hgr⟩ := hrel
    have hv' := hv0.symm
    clear hv0
    subst hv'
    have HOWN := hid hown
    have HGR := hid hgr
    clear hown hgr
    by_cases hlt : k < n
    · have hkl : k < l.length := by rw [HN.out]; exact hlt
      obtain ⟨ab, ao, rfl, -, hcc, e0, e1, e2, e3⟩ := (HI.out.grown HGR.out).cells hkl
      have hx := List.getElem?_eq_getElem hkl
      generalize l[k] = x at *
      obtain ⟨z0, z1, z2, z3⟩ := x
      dsimp only at e0 e1 e2 e3
      have HX := hid (heardL_succ (H := s.H) hx)
      dsimp only at HX
      have HLL := hid (show (heardL s.H (l.take k)).length + [(⟨z0, z1, z2, z3⟩ : Sm)].length ≤ 1000000 by
        have h1 := heardL_len s.H (l.take k)
        have h2 := HL.out
        rw [List.length_take] at h1
        rw [List.length_singleton]; omega)
      clear hx
      have HO := hid (sout_any ((HS.out.grown HGR.out).alloc (.cells #[.int .i64 z0, .int .i64 z1, .int .i64 z2, .int .i64 z3] 91)) z0)
      cases hbo : outL s.H z0 with
      | true =>
        rw [hbo] at HO HX
        rw [if_pos rfl] at HX
        have G1 := hid (gb_alloc HGR.out (.cells #[.int .i64 z0, .int .i64 z1, .int .i64 z2, .int .i64 z3] 91))
        have O1 := hid (HOWN.out.grown (World.grownBy_alloc wr (.cells #[.int .i64 z0, .int .i64 z1, .int .i64 z2, .int .i64 z3] 91) none))
        clear hbo HOWN HGR
        go_wp2_with fail
        refine HO.out.mono ?_
        rintro e w1 ⟨rfl, rfl⟩
        clear HO
        go_wp2_with fail
        go_roundw
        case rel => exact ⟨k + 1, _, rfl, by omega, by go_num, by rw [HX.out]; exact O1.out, G1.out⟩
        case measure => simp [intOf]; omega
      | false =>
        rw [hbo] at HO HX
        rw [if_neg (by simp)] at HX
        have G1 := hid (gb_alloc (gb_alloc HGR.out (.cells #[.int .i64 z0, .int .i64 z1, .int .i64 z2, .int .i64 z3] 91)) (.cells #[.int .i64 z0, .int .i64 z1, .int .i64 z2, .int .i64 z3] 91))
        have O1 := hid ((HOWN.out.grown (World.grownBy_alloc wr (.cells #[.int .i64 z0, .int .i64 z1, .int .i64 z2, .int .i64 z3] 91) none)).grown (World.grownBy_alloc _ (.cells #[.int .i64 z0, .int .i64 z1, .int .i64 z2, .int .i64 z3] 91) none))
        have SM := hid (smp_new (wr.alloc (.cells #[.int .i64 z0, .int .i64 z1, .int .i64 z2, .int .i64 z3] 91)) ⟨z0, z1, z2, z3⟩)
        rw [World.size_alloc] at SM
        clear hbo HOWN HGR
        go_wp2_with fail
        refine HO.out.mono ?_
        rintro e w1 ⟨rfl, rfl⟩
        clear HO
        go_wp2_with
          (refine append_smp rfl _ _ rfl w.heap.size _ _ rfl O1.out _ [⟨z0, z1, z2, z3⟩] rfl SM.out HLL.out G1.out.size ?_; intro v' w3 hown3 hg3 hat3; have HO3 := hid hown3; have HG3 := hid (gb_ownZ G1.out O1.out (Nat.le_refl _) hg3); clear hown3 hg3 hat3)
        go_roundw
        case rel => exact ⟨k + 1, _, rfl, by omega, by go_num, by rw [HX.out]; exact HO3.out, HG3.out⟩
        case measure => simp [intOf]; omega
    · obtain rfl : k = n := by omega
      rw [← HN.out, List.take_length] at HOWN
      go_wp2_with fail
      go_ret
      exact ⟨_, rfl, HOWN.out, HGR.out⟩
theorem weigh_any {s : Sc} {b hb : Nat} {w : World} (h : ScAt s b hb w) (x m : Int) (hx : 0 ≤ x ∧ x ≤ 1099511627776) (hm : 0 ≤ m ∧ m ≤ 1099511627776) :
    Calls Tryz.prog 318 #[.pointer (some ⟨b, 0, none⟩), .int .i64 x, .int .i64 m] w fun e w' => e = .returned (.int .i64 (weighL s.far x m)) ∧ w = w' := by
  obtain ⟨c0, c1, c2, c3⟩ := h.cells
  have hf := h.ok.far
  unfold weighL
  obtain ⟨d1, h1⟩ : ∃ d1, d1 = x - m := ⟨_, rfl⟩
  obtain ⟨d2, h2⟩ : ∃ d2, d2 = m - x := ⟨_, rfl⟩
  have s1 : IntKind.i64.wrap (x - m) = d1 := by rw [h1]; exact IntWalk.i64_in _ (by omega)
  have s2 : IntKind.i64.wrap (m - x) = d2 := by rw [h2]; exact IntWalk.i64_in _ (by omega)
  rw [← h1, ← h2]
  generalize s.far = far at *
  clear h h1 h2 hx hm c0 c1 c2
  by_cases a1 : far < d1
  · rw [if_pos (.inl a1)]
    go_enter Tryz.func318, Tryz.ntmps318
    go_wp2
    go_ret
    exact ⟨rfl, rfl⟩
  · by_cases a2 : far < d2
    · rw [if_pos (.inr a2)]
      go_enter Tryz.func318, Tryz.ntmps318
      go_wp2
      go_ret
      exact ⟨rfl, rfl⟩
    · rw [if_neg (fun x => x.elim a1 a2)]
      go_enter Tryz.func318, Tryz.ntmps318
      go_wp2
      go_ret
      exact ⟨rfl, rfl⟩
end Go.Proofs.YtecggbndlbkhdaaGreat
end
