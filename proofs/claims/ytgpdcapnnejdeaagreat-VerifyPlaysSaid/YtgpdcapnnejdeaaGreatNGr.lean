/-
  The document's own gate: the object that holds the model; what a call keeps that only reads it. No condition.
-/
import Derived.Test.YtgpdcapnnejdeaaGreatNVk
import Derived.Test.YtgpdcapnnejdeaaGreatNRqB
import Derived.Test.YtgpdcapnnejdeaaGreatY8
set_option linter.unusedSimpArgs false
set_option linter.unusedVariables false
namespace Go.Proofs.YtgpdcapnnejdeaaGreat
set_option maxRecDepth 100000
open Go.RowKit

def Dj (l m : List Nat) : Prop := ∀ x ∈ l, x ∉ m
theorem Dj.symm {l m : List Nat} (h : Dj l m) : Dj m l := fun x hx hl => h x hl hx
structure RBl where
 g : Nat
 r : Nat
 gn : Nat
 sn : Nat
 rp : Nat
 ps : Nat
 cr : Nat
 cp : Nat
 A : Nat → Nat
 O : Nat → Nat
 vA : Nat → Value
 vO : Nat → Value
def RBl.base (B : RBl) : List Nat := [B.g, B.r, B.gn, B.sn, B.rp, B.ps]
def RBl.oA (B : RBl) (i : Nat) : List Nat := B.A i :: ownL (B.vA i)
def RBl.oO (B : RBl) (i : Nat) : List Nat := B.O i :: ownL (B.vO i)
@[reducible] def refCells (c : Conf) (B : RBl) (n : Nat) : Array Value := #[.int .i64 c.n, .int .i64 c.f, .int .i64 c.m, .int .i64 c.quorum, .int .i64 c.fresh, .int .i64 c.grace, .int .i64 c.window, .int .i64 c.t0, .int .i64 c.t1, .int .i64 c.t2, .int .i64 c.t3, .int .i64 c.tol, .int .i64 c.min, .int .i64 c.max, .int .i64 c.calmup, .int .i64 c.calmdown, .int .i64 c.podsup, .int .i64 c.pctup, .int .i64 c.podsdown, .int .i64 c.pctdown, .int .i64 c.period, .int .i64 c.far, .int .i64 c.strikes, .int .i64 c.probe, .int .i64 c.sectors, .int .u64 c.seed, .pointer (some ⟨B.r, 0, none⟩), .slice (some ⟨B.rp, 0, none⟩) n B.cr, .slice (some ⟨B.ps, 0, none⟩) n B.cp]
structure GrAt (w : World) (F : List Nat) (B : RBl) (c : Conf) (K : Nat) (G : Gt) : Prop where
 top : w.heap[B.g]? = some (.cells (refCells c B G.r.n) 66)
 cn : c.n = (G.r.n : Int)
 cw : c.window = (G.win : Int)
 cm : c.m = (G.met : Int)
 cf : c.fresh = (G.fresh : Int)
 ring : RfAt w B.r B.gn B.sn G.r
 rep : ∃ cs : Array Value, w.heap[B.rp]? = some (.cells cs 71) ∧ ∀ i, i < G.r.n → cs[i]? = some (.pointer (some ⟨B.A i, 0, none⟩))
 pst : ∃ cs : Array Value, w.heap[B.ps]? = some (.cells cs 71) ∧ ∀ i, i < G.r.n → cs[i]? = some (.pointer (some ⟨B.O i, 0, none⟩))
 rps : B.rp ≠ B.ps
 c1 : G.r.n ≤ B.cr ∧ B.cr ≤ maxLen
 c2 : G.r.n ≤ B.cp ∧ B.cp ≤ maxLen
 now : ∀ i, i < G.r.n → RqAt w (B.A i) (B.vA i) K (G.now i)
 old : ∀ i, i < G.r.n → RqAt w (B.O i) (B.vO i) K (G.old i)
 dA : ∀ i, i < G.r.n → Dj (B.oA i) B.base
 dO : ∀ i, i < G.r.n → Dj (B.oO i) B.base
 dAA : ∀ i j, i < G.r.n → j < G.r.n → i ≠ j → Dj (B.oA i) (B.oA j)
 dOO : ∀ i j, i < G.r.n → j < G.r.n → i ≠ j → Dj (B.oO i) (B.oO j)
 dAO : ∀ i j, i < G.r.n → j < G.r.n → Dj (B.oA i) (B.oO j)
 mB : ∀ x ∈ B.base, x ∈ F
 mA : ∀ i, i < G.r.n → ∀ x ∈ B.oA i, x ∈ F
 mO : ∀ i, i < G.r.n → ∀ x ∈ B.oO i, x ∈ F
 lt : ∀ x ∈ F, x < w.heap.size
 ok : G.Ok
section
variable {w w' : World} {F H : List Nat} {B : RBl} {c : Conf} {K : Nat} {G : Gt}
theorem GrAt.chg (k : GrAt w F B c K G) (hc : Chg H w w') (hd : ∀ x ∈ F, x ∉ H) : GrAt w' F B c K G :=
 ⟨hc.at k.top (hd _ (k.mB _ (by simp [RBl.base]))), k.cn, k.cw, k.cm, k.cf, k.ring.chg hc (hd _ (k.mB _ (by simp [RBl.base]))) (hd _ (k.mB _ (by simp [RBl.base]))) (hd _ (k.mB _ (by simp [RBl.base]))),
  by obtain ⟨cs, h1, h2⟩ := k.rep; exact ⟨cs, hc.at h1 (hd _ (k.mB _ (by simp [RBl.base]))), h2⟩, by obtain ⟨cs, h1, h2⟩ := k.pst; exact ⟨cs, hc.at h1 (hd _ (k.mB _ (by simp [RBl.base]))), h2⟩, k.rps, k.c1, k.c2,
  fun i hi => (k.now i hi).chg hc (hd _ (k.mA i hi _ (by simp [RBl.oA]))) (fun g hg => hd _ (k.mA i hi _ (by simp [RBl.oA, hg]))), fun i hi => (k.old i hi).chg hc (hd _ (k.mO i hi _ (by simp [RBl.oO]))) (fun g hg => hd _ (k.mO i hi _ (by simp [RBl.oO, hg]))),
  k.dA, k.dO, k.dAA, k.dOO, k.dAO, k.mB, k.mA, k.mO, fun x hx => Nat.lt_of_lt_of_le (k.lt x hx) hc.size, k.ok⟩
theorem GrAt.grown (k : GrAt w F B c K G) (hg : w.grownBy w' none) : GrAt w' F B c K G := k.chg (chg_grown hg []) (by simp)
theorem GrAt.drew (k : GrAt w F B c K G) : GrAt w.drew F B c K G := k.chg ((chg_refl w []).drew) (by simp)
theorem GrAt.tops (k : GrAt w F B c K G) : w.cell? ⟨B.g, 0, none⟩ = some (.int .i64 c.n) ∧ w.cell? ⟨B.g, 2, none⟩ = some (.int .i64 c.m) ∧ w.cell? ⟨B.g, 4, none⟩ = some (.int .i64 c.fresh) ∧ w.cell? ⟨B.g, 6, none⟩ = some (.int .i64 c.window) ∧ w.cell? ⟨B.g, 26, none⟩ = some (.pointer (some ⟨B.r, 0, none⟩)) ∧ w.cell? ⟨B.g, 27, none⟩ = some (.slice (some ⟨B.rp, 0, none⟩) G.r.n B.cr) ∧ w.cell? ⟨B.g, 28, none⟩ = some (.slice (some ⟨B.ps, 0, none⟩) G.r.n B.cp) :=
 ⟨at_cell k.top 0, at_cell k.top 2, at_cell k.top 4, at_cell k.top 6, at_cell k.top 26, at_cell k.top 27, at_cell k.top 28⟩
theorem GrAt.cells (k : GrAt w F B c K G) {i : Nat} (hi : i < G.r.n) : w.cell? ⟨B.rp, i, none⟩ = some (.pointer (some ⟨B.A i, 0, none⟩)) ∧ w.cell? ⟨B.ps, i, none⟩ = some (.pointer (some ⟨B.O i, 0, none⟩)) ∧ w.frozen? ⟨B.rp, i, none⟩ = false ∧ w.frozen? ⟨B.ps, i, none⟩ = false := by
 obtain ⟨cs, h1, h2⟩ := k.rep
 obtain ⟨ds, h3, h4⟩ := k.pst
 exact ⟨(at_cell h1 _).trans (h2 i hi), (at_cell h3 _).trans (h4 i hi), at_free h1 _, at_free h3 _⟩
end
structure Kr (w0 : World) (F : List Nat) (B : RBl) (c : Conf) (K : Nat) (G : Gt) (bs : List (Nat × Obj)) (ys : List (Value × List UInt8)) (w : World) : Prop where
 gt : GrAt w F B c K G
 kp : Kp w0 bs ys w
 lo : ∀ x ∈ F, x < w0.heap.size
section
variable {w0 w w1 : World} {F : List Nat} {B : RBl} {c : Conf} {K : Nat} {G : Gt} {bs : List (Nat × Obj)} {ys : List (Value × List UInt8)} {b n : Nat} {o : Obj} {v : Value} {l : List UInt8} {x0 : Nat × Obj} {z0 : Value × List UInt8}
theorem kr_start (k : GrAt w F B c K G) : Kr w F B c K G [] [] w := ⟨k, kp_start w, k.lt⟩
theorem Kr.grown (h : Kr w0 F B c K G bs ys w) (hg : w.grownBy w1 none) : Kr w0 F B c K G bs ys w1 := ⟨h.gt.grown hg, h.kp.grown hg, h.lo⟩
theorem Kr.drew (h : Kr w0 F B c K G bs ys w) : Kr w0 F B c K G bs ys w.drew := ⟨h.gt.drew, h.kp.drew, h.lo⟩
theorem Kr.alloc (h : Kr w0 F B c K G bs ys w) (o : Obj) : Kr w0 F B c K G ((w.heap.size, o) :: bs) ys (w.alloc o) := ⟨h.gt.grown (World.grownBy_alloc w o none), h.kp.alloc o, h.lo⟩
theorem Kr.addY (h : Kr w0 F B c K G bs ys w) (k : BytesAt w v l) : Kr w0 F B c K G bs ((v, l) :: ys) w := ⟨h.gt, h.kp.addY k, h.lo⟩
theorem Kr.tail (h : Kr w0 F B c K G (x0 :: bs) ys w) : Kr w0 F B c K G bs ys w := ⟨h.gt, h.kp.tail, h.lo⟩
theorem Kr.size (h : Kr w0 F B c K G bs ys w) : w0.heap.size ≤ w.heap.size := h.kp.size
theorem Kr.rowOther {cs : Array Value} (h : Kr w0 F B c K G bs ys w) (hb : w0.heap.size ≤ n) (hne : ∀ x ∈ bs, x.1 ≠ n) (hy : ∀ x ∈ ys, x.2 = [] ∨ ∀ a k c, x.1 = .slice (some a) k c → a.block ≠ n) : Kr w0 F B c K G bs ys (w.setRow n cs) :=
 ⟨h.gt.chg (chg_row2 w n cs) (fun x hx => by have := h.lo x hx; simp; omega), ⟨gb_setRow h.kp.g hb, fun x hx => at_setRow_other (h.kp.bl x hx) (hne x hx), fun x hx => (h.kp.yl x hx).grown (chg_gb (chg_row2 w n cs)) (fun k e => by cases e; exact .inr (hy x hx))⟩, h.lo⟩
end

theorem rsealed_any (m : Mg) (h0 : 0 ≤ m.gen) (h1 : m.gen ≤ 60000) (w : World) :
  Calls Tryz.prog 99 #[mg m] w fun e w' => e = .returned (.int .i64 (sealedOf m)) ∧ w.grownBy w' none := by
 have K0 := hid ((kp_start w).alloc (msgObj m))
 unfold sealedOf
 have s1 : IntKind.i64.wrap (m.gen - 1) = m.gen - 1 := IntWalk.i64_in _ (by omega)
 by_cases hk : m.kind = 2
 ·have dk : (m.kind == 2) = true := by simpa using hk
  rw [if_pos hk]
  clear hk
  obtain ⟨d0, d1, d2, d3, d4, d5, d6⟩ := msg_cells K0.out.b0
  go_enter Tryz.func99, Tryz.ntmps99
  go_wp2_with fail
  go_ret
  exact ⟨rfl, K0.out.g⟩
 ·have dk : (m.kind == 2) = false := by simpa using hk
  rw [if_neg hk]
  clear hk
  obtain ⟨d0, d1, d2, d3, d4, d5, d6⟩ := msg_cells K0.out.b0
  go_enter Tryz.func99, Tryz.ntmps99
  go_wp2_with fail
  go_ret
  exact ⟨rfl, K0.out.g⟩
end Go.Proofs.YtgpdcapnnejdeaaGreat
