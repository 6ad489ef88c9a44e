/-
  The law's fit as a function; what a walk keeps of two cells that were made to fit. No condition.
-/
import Derived.Test.YtjebmlmjbnaghaaLgT
import Derived.Test.YtjebmlmjbnaghaaHeld
import Derived.Deep.RegionHeld3
set_option linter.unusedSimpArgs false
set_option linter.unusedVariables false
namespace Go.Proofs.Ytjebmlmjbnaghaa
set_option maxRecDepth 100000
open Go.RowKit

def fitC (p : Nat) (Q K : Int) (l : List UInt8) : Cl := ⟨1 + p % 250, ((IntKind.u64.wrap Q).tmod 4097).toNat, 1 + ((IntKind.u64.wrap K).tmod 3).toNat, l.take 48⟩
@[reducible] def cO (c : Cl) (v : Value) : Obj := .cells (clV c v) 25
@[reducible] def rO (p : Nat) (Q K : Int) (v : Value) : Obj := .cells #[.int .u32 (p : Int), .int .i64 Q, .int .i64 K, v] 25
theorem fit_may (p : Nat) (Q K : Int) (l : List UInt8) : (fitC p Q K l).May := by
  obtain ⟨q1, hq1, hQ⟩ := umod_small Q 4097 (by omega)
  obtain ⟨k1, hk1, hK⟩ := umod_small K 3 (by omega)
  rw [show ((4097 : Nat) : Int) = 4097 from rfl] at hQ
  rw [show ((3 : Nat) : Int) = 3 from rfl] at hK
  unfold fitC
  rw [hQ, hK]
  exact ⟨by show 1 ≤ 1 + p % 250; omega, by show 1 + p % 250 ≤ 250; omega, by show (q1 : Int).toNat ≤ 4096; omega, by show 1 ≤ 1 + (k1 : Int).toNat; omega, by show 1 + (k1 : Int).toNat ≤ 3; omega, by show (l.take 48).length ≤ 48; rw [List.length_take]; omega⟩
theorem fit_bytes (p : Nat) (Q K : Int) {l : List UInt8} {a : Option Addr} {cp : Nat} {w : World} (hv : BytesAt w (.slice a l.length cp) l) : BytesAt w (.slice a (fitC p Q K l).data.length cp) (fitC p Q K l).data := by
  show BytesAt w (.slice a (l.take 48).length cp) (l.take 48)
  have e : (l.take 48).length = min l.length 48 := by rw [List.length_take]; omega
  rw [e]
  cases a with
  | none =>
    rcases hv with ⟨h, rfl⟩ | ⟨a, c, h, _⟩
    · cases h; exact .inl ⟨rfl, rfl⟩
    · cases h
  | some a =>
    have := hv.upto (k := min l.length 48) (Nat.min_le_left _ _)
    rwa [show l.take 48 = l.take (min l.length 48) by rw [List.take_eq_take_iff]; omega]
theorem fit_eq (p : Nat) (Q K : Int) {l : List UInt8} {a : Option Addr} {cp : Nat} {w0 : World} (hv : BytesAt w0 (.slice a l.length cp) l) (w : World) :
    Calls Try.prog 21 #[lcV p Q K (.slice a l.length cp)] w fun e w' => e = .returned (.agg (clV (fitC p Q K l) (.slice a (fitC p Q K l).data.length cp))) ∧ w.grownBy w' none := by
  obtain ⟨q1, hq1, hQ⟩ := umod_small Q 4097 (by omega)
  obtain ⟨k1, hk1, hK⟩ := umod_small K 3 (by omega)
  rw [show ((4097 : Nat) : Int) = 4097 from rfl] at hQ
  rw [show ((3 : Nat) : Int) = 3 from rfl] at hK
  obtain ⟨p1, hp1, hp, hp2⟩ : ∃ p1, p1 < 250 ∧ (p : Int) % 250 = ((p1 : Nat) : Int) ∧ p % 250 = p1 := ⟨p % 250, by omega, by omega, rfl⟩
  have e : (l.take 48).length = min l.length 48 := by rw [List.length_take]; omega
  have eq : fitC p Q K l = ⟨1 + p1, q1, 1 + k1, l.take 48⟩ := by
    unfold fitC; rw [hQ, hK, hp2]; simp
  rw [eq]
  show Calls Try.prog 21 _ w fun e w' => e = .returned (.agg #[.int .u32 ((1 + p1 : Nat) : Int), .int .i64 (q1 : Int), .int .i64 ((1 + k1 : Nat) : Int), .slice a (l.take 48).length cp]) ∧ w.grownBy w' none
  rw [e]
  rcases hv with ⟨h, rfl⟩ | ⟨a', c, h, h1, h2, h3⟩
  · cases h
    exact fit_walk_nil p Q K p1 q1 k1 hp hp1 hQ hq1 hK hk1 w
  · cases h
    exact fit_walk_some p Q K a' l.length cp (min l.length 48) p1 q1 k1 hp hp1 hQ hq1 hK hk1 (by omega) (by omega) w
/-- a block that a cell is stored in -/
structure Zc (a : Nat) (W : World) : Prop where
  ex : ∃ p q k u, W.heap[a]? = some (.cells #[p, q, k, u] 25)
theorem Zc.grown {a : Nat} {W W' : World} (h : Zc a W) (hg : W.grownBy W' none) : Zc a W' := by
  obtain ⟨p, q, k, u, h⟩ := h.ex; exact ⟨p, q, k, u, at_grown h hg (by simp)⟩
theorem Zc.drew {a : Nat} {W : World} (h : Zc a W) : Zc a W.drew := ⟨h.ex⟩
theorem Zc.row {a : Nat} {W : World} (h : Zc a W) (b : Nat) (p q k u : Value) : Zc a (W.setRow b #[p, q, k, u]) := by
  obtain ⟨p', q', k', u', h⟩ := h.ex
  by_cases e : a = b
  · subst e; exact ⟨p, q, k, u, at_setRow h⟩
  · exact ⟨p', q', k', u', at_setRow_other h e⟩
theorem Zc.lt {a : Nat} {W : World} (h : Zc a W) : a < W.heap.size := by
  obtain ⟨p, q, k, u, h⟩ := h.ex; exact at_lt h
theorem kp_two {w W : World} {b5 b6 : Nat} {o5 o6 : Obj} (g : w.grownBy W none) (h5 : W.heap[b5]? = some o5) (h6 : W.heap[b6]? = some o6) {v1 v2 : Value} {l1 l2 : List UInt8} (k1 : BytesAt w v1 l1) (k2 : BytesAt w v2 l2) :
    Kp w [(b5, o5), (b6, o6)] [(v1, l1), (v2, l2)] W :=
  (((((⟨g, (fun _ h => by cases h), (fun _ h => by cases h)⟩ : Kp w [] [] W).add h6).add h5).addY (k2.grown g (by simp))).addY (k1.grown g (by simp)))
theorem two_box (w : World) (x y : Obj) : Kp w [(w.heap.size + 1, y), (w.heap.size, x)] [] ((w.alloc x).alloc y) := by
  have h := ((kp_start w).alloc x).alloc y
  rw [alloc_size] at h
  exact h
end Go.Proofs.Ytjebmlmjbnaghaa
