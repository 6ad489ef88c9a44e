/-
  What a walk keeps of the world: blocks known whole, slices that read as bytes; kept by whatever makes memory. No condition. Nothing of the program's functions is named here.
-/
import Derived.Test.YtjebmlmjbnaghaaStep
import Derived.Test.YtjebmlmjbnaghaaOps
namespace Go.Proofs.Ytjebmlmjbnaghaa
set_option maxRecDepth 100000
open Go.RowKit

structure Kp (w0 : World) (bs : List (Nat × Obj)) (ys : List (Value × List UInt8)) (w : World) : Prop where
  g : w0.grownBy w none
  bl : ∀ x ∈ bs, w.heap[x.1]? = some x.2
  yl : ∀ x ∈ ys, BytesAt w x.1 x.2
section
variable {w0 w w1 : World} {bs : List (Nat × Obj)} {ys : List (Value × List UInt8)} {b : Nat} {o : Obj} {v : Value} {l : List UInt8} {x0 x1 x2 x3 x4 x5 x6 : Nat × Obj} {z0 z1 z2 z3 z4 z5 : Value × List UInt8}
theorem kp_start (w : World) : Kp w [] [] w := ⟨.refl w none, (fun _ h => by cases h), (fun _ h => by cases h)⟩
theorem Kp.grown (h : Kp w0 bs ys w) (hg : w.grownBy w1 none) : Kp w0 bs ys w1 :=
  ⟨gb_trans h.g hg (.inl rfl), fun x hx => at_grown (h.bl x hx) hg (by simp), fun x hx => (h.yl x hx).grown hg (by simp)⟩
theorem Kp.drew (h : Kp w0 bs ys w) : Kp w0 bs ys w.drew := ⟨gb_drew h.g, fun x hx => h.bl x hx, fun x hx => (h.yl x hx).drew⟩
theorem Kp.add (h : Kp w0 bs ys w) (k : w.heap[b]? = some o) : Kp w0 ((b, o) :: bs) ys w :=
  ⟨h.g, (fun x hx => (List.mem_cons.1 hx).elim (fun e => by rw [e]; exact k) (h.bl x)), h.yl⟩
theorem Kp.addY (h : Kp w0 bs ys w) (k : BytesAt w v l) : Kp w0 bs ((v, l) :: ys) w :=
  ⟨h.g, h.bl, (fun x hx => (List.mem_cons.1 hx).elim (fun e => by rw [e]; exact k) (h.yl x))⟩
theorem Kp.alloc (h : Kp w0 bs ys w) (o : Obj) : Kp w0 ((w.heap.size, o) :: bs) ys (w.alloc o) := (h.grown (World.grownBy_alloc w o none)).add (at_new w o)
theorem Kp.size (h : Kp w0 bs ys w) : w0.heap.size ≤ w.heap.size := gb_size h.g
theorem Kp.tail (h : Kp w0 (x0 :: bs) ys w) : Kp w0 bs ys w := ⟨h.g, fun x hx => h.bl x (List.mem_cons_of_mem _ hx), h.yl⟩
theorem Kp.tailY (h : Kp w0 bs (z0 :: ys) w) : Kp w0 bs ys w := ⟨h.g, h.bl, fun x hx => h.yl x (List.mem_cons_of_mem _ hx)⟩
theorem Kp.b0 (h : Kp w0 ((b, o) :: bs) ys w) : w.heap[b]? = some o := h.bl (b, o) (by simp)
theorem Kp.b1 (h : Kp w0 (x0 :: (b, o) :: bs) ys w) : w.heap[b]? = some o := h.tail.b0
theorem Kp.b2 (h : Kp w0 (x0 :: x1 :: (b, o) :: bs) ys w) : w.heap[b]? = some o := h.tail.b1
theorem Kp.b3 (h : Kp w0 (x0 :: x1 :: x2 :: (b, o) :: bs) ys w) : w.heap[b]? = some o := h.tail.b2
theorem Kp.b4 (h : Kp w0 (x0 :: x1 :: x2 :: x3 :: (b, o) :: bs) ys w) : w.heap[b]? = some o := h.tail.b3
theorem Kp.b5 (h : Kp w0 (x0 :: x1 :: x2 :: x3 :: x4 :: (b, o) :: bs) ys w) : w.heap[b]? = some o := h.tail.b4
theorem Kp.b6 (h : Kp w0 (x0 :: x1 :: x2 :: x3 :: x4 :: x5 :: (b, o) :: bs) ys w) : w.heap[b]? = some o := h.tail.b5
theorem Kp.b7 (h : Kp w0 (x0 :: x1 :: x2 :: x3 :: x4 :: x5 :: x6 :: (b, o) :: bs) ys w) : w.heap[b]? = some o := h.tail.b6
theorem Kp.y0 (h : Kp w0 bs ((v, l) :: ys) w) : BytesAt w v l := h.yl (v, l) (by simp)
theorem Kp.y1 (h : Kp w0 bs (z0 :: (v, l) :: ys) w) : BytesAt w v l := h.tailY.y0
theorem Kp.y2 (h : Kp w0 bs (z0 :: z1 :: (v, l) :: ys) w) : BytesAt w v l := h.tailY.y1
theorem Kp.y3 (h : Kp w0 bs (z0 :: z1 :: z2 :: (v, l) :: ys) w) : BytesAt w v l := h.tailY.y2
theorem Kp.y4 (h : Kp w0 bs (z0 :: z1 :: z2 :: z3 :: (v, l) :: ys) w) : BytesAt w v l := h.tailY.y3
theorem Kp.y5 (h : Kp w0 bs (z0 :: z1 :: z2 :: z3 :: z4 :: (v, l) :: ys) w) : BytesAt w v l := h.tailY.y4
/-- a store of a whole row into the block at hand, which is the call's own; the slices lie elsewhere -/
theorem Kp.set {cs old : Array Value} {t : TypeId} (h : Kp w0 ((b, .cells old t) :: bs) ys w) (hb : w0.heap.size ≤ b) (hne : ∀ x ∈ bs, x.1 ≠ b) (hy : ∀ x ∈ ys, x.2 = [] ∨ ∀ a n c, x.1 = .slice (some a) n c → a.block ≠ b) :
    Kp w0 ((b, .cells cs t) :: bs) ys (w.setRow b cs) := by
  have hgr : w.grownBy (w.setRow b cs) (some b) := ⟨rfl, rfl, rfl, by simp [World.setRow], fun k hk hr => by simp [World.setRow, Array.getElem?_modify, show b ≠ k by intro e; exact hr (by rw [e])]⟩
  refine ⟨gb_trans h.g hgr (.inr (.inr ⟨b, rfl, hb⟩)), fun x hx => ?_, fun x hx => (h.yl x hx).grown hgr (fun k e => by cases e; exact .inr (hy x hx))⟩
  rcases List.mem_cons.1 hx with rfl | hx
  · exact at_setRow h.b0
  · exact at_setRow_other (h.bl x (List.mem_cons_of_mem _ hx)) (hne x hx)
end

/-- a slice of the call's own was written to; all that is kept lies below -/
theorem Kp.own {w0 w w1 : World} {bs : List (Nat × Obj)} {ys : List (Value × List UInt8)} {base : Nat} {v : Value} {l : List UInt8} (h : Kp w0 bs ys w) (ho : OwnB base w v l) (hg : w.grownBy w1 v.ownBlock) (h0 : w0.heap.size ≤ base)
    (hb : ∀ x ∈ bs, x.1 < base) (hy : ∀ x ∈ ys, x.2 = [] ∨ ∀ a n c, x.1 = .slice (some a) n c → a.block < base) : Kp w0 bs ys w1 := by
  refine ⟨gb_own h.g ho h0 hg, fun x hx => at_own (h.bl x hx) ho (hb x hx) hg, fun x hx => (h.yl x hx).grown hg (fun k e => .inr ((hy x hx).elim .inl fun q => .inr fun a n c ea => ?_))⟩
  obtain ⟨p, c', rfl⟩ := ho.form
  cases p with
  | none => cases e
  | some g => have h1 := (ho.at g _ _ rfl).1; cases e; have := q a n c ea; omega
theorem Kp.low {w0 w : World} {bs : List (Nat × Obj)} {ys : List (Value × List UInt8)} (h : Kp w0 bs ys w) : (∀ x ∈ bs, x.1 < w.heap.size) ∧ (∀ x ∈ ys, x.2 = [] ∨ ∀ a n c, x.1 = .slice (some a) n c → a.block < w.heap.size) :=
  ⟨fun x hx => at_lt (h.bl x hx), fun x hx => (h.yl x hx).lt⟩

/-- a slice of the call's own that is not empty: its block, its bytes -/
theorem OwnB.full {base : Nat} {w : World} {v : Value} {l : List UInt8} (h : OwnB base w v l) (hl : 0 < l.length) : ∃ g c, v = .slice (some ⟨g, 0, none⟩) l.length c ∧ l.length ≤ c ∧ c ≤ maxLen ∧ base ≤ g ∧ g < w.heap.size := by
  obtain ⟨_, h | ⟨g, cap, cur, rfl, hb, hh, h1, h2, _⟩⟩ := h
  · omega
  · exact ⟨g, cap, rfl, h1, h2, hb, at_lt hh⟩
theorem byte_cell {w : World} {g n c : Nat} {l : List UInt8} (h : BytesAt w (.slice (some ⟨g, 0, none⟩) n c) l) (i : Nat) (hi : i < l.length) (x : UInt8) (hx : byteAt l i = x) : w.cell? ⟨g, i, none⟩ = some (.int .u8 (x.toNat : Int)) := by
  rcases h with ⟨h, _⟩ | ⟨a, cap, e, _, _, h3⟩
  · cases h
  · cases e
    have := h3 i hi
    have e : (⟨g, 0, none⟩ : Addr).add i = ⟨g, i, none⟩ := by unfold Addr.add; split <;> simp_all
    rw [e] at this
    rw [this, ← hx, byteAt_eq hi]
end Go.Proofs.Ytjebmlmjbnaghaa
