/-
  A slice of the call's own that grows beside what a walk keeps; the end of a slice of bytes; a beginning over another cell, as Get tells it. No condition.
-/
import Derived.Test.YtjebmlmjbnaghaaLgM
set_option linter.unusedSimpArgs false
set_option linter.unusedVariables false
namespace Go.Proofs.Ytjebmlmjbnaghaa
set_option maxRecDepth 100000
open Go.RowKit

structure Kpo (w : World) (bs : List (Nat × Obj)) (ys : List (Value × List UInt8)) (base : Nat) (v : Value) (l : List UInt8) (W : World) : Prop where
  k : Kp w bs ys W
  o : OwnB base W v l
  lb : ∀ x ∈ bs, x.1 < base
  ly : ∀ x ∈ ys, x.2 = [] ∨ ∀ a n c, x.1 = .slice (some a) n c → a.block < base
  h0 : w.heap.size ≤ base
  hs : base ≤ W.heap.size
section
variable {w W W' : World} {bs : List (Nat × Obj)} {ys : List (Value × List UInt8)} {base : Nat} {v v' : Value} {l r : List UInt8}
theorem Kpo.start (K : Kp w bs ys W) : Kpo w bs ys W.heap.size (.slice (some ⟨W.heap.size, 0, none⟩) 0 0) [] (W.alloc (.cells #[] 5)) :=
  ⟨K.grown (World.grownBy_alloc W _ none), OwnB.empty W, K.low.1, K.low.2, K.size, by rw [alloc_size]; omega⟩
theorem Kpo.drew (H : Kpo w bs ys base v l W) : Kpo w bs ys base v l W.drew := ⟨H.k.drew, H.o, H.lb, H.ly, H.h0, H.hs⟩
theorem Kpo.app (H : Kpo w bs ys base v l W) {x : List UInt8} (ho : OwnB base W' v' x) (hg : W.grownBy W' v.ownBlock) : Kpo w bs ys base v' x W' := ⟨H.k.own H.o hg H.h0 H.lb H.ly, ho, H.lb, H.ly, H.h0, Nat.le_trans H.hs (gb_size hg)⟩
end
theorem BytesAt.rest {w : World} {g n c : Nat} {l : List UInt8} (h : BytesAt w (.slice (some ⟨g, 0, none⟩) n c) l) (hn : l.length = n) {k : Nat} (hk : k ≤ n) : BytesAt w (.slice (some ⟨g, k, none⟩) (n - k) (c - k)) (l.drop k) := by
  have := h.part (i := k) (k := n - k) (by omega)
  rw [Nat.zero_add] at this
  rwa [List.take_of_length_le (by rw [List.length_drop]; omega)] at this

def tz0 : List UInt8 := List.replicate 64 0
theorem tz0_got : gotW tz = false ∧ tz.length = 64 ∧ ∀ i, tz.getD i 0 = 0 := ⟨tz_got.1, by unfold tz; simp, fun i => by
  unfold tz
  rw [List.getD_eq_getElem?_getD, List.getElem?_replicate]
  split <;> rfl⟩
/-- not whole: nothing but that is told -/
theorem got_not {l : List UInt8} (hl : l.length = 64) (h : wholeL l = false) : gotW l = false ∧ gotL l = zeroC ∧ gotC l = 0 := by
  have e1 : gotW l = false := by unfold gotW; rw [h]; simp
  exact ⟨e1, by unfold gotL; rw [e1]; rfl, by unfold gotC; rw [if_pos hl, e1]; rfl⟩
/-- a beginning of a cell over bytes whose last one is not its mark -/
theorem torn_got {c : Cl} (h : c.May) {y : List UInt8} (hy : y.length = 64) (hz : ∀ i, 1 ≤ i → i < 4 → y.getD i 0 = 0) (hne : (y.getD 63 0).toNat ≠ c.pass) {k : Nat} (hk : k < 64) (h0 : k = 0 → wholeL y = false) :
    gotW ((putL c).take k ++ y.drop k) = false ∧ gotL ((putL c).take k ++ y.drop k) = zeroC ∧ gotC ((putL c).take k ++ y.drop k) = 0 := by
  refine got_not ?_ ?_
  · rw [List.length_append, List.length_take, List.length_drop, putL_len h.d]; omega
  · by_cases e : k = 0
    · subst e; simpa using h0 rfl
    · exact torn_not h hy hz hne (by omega) hk
end Go.Proofs.Ytjebmlmjbnaghaa
