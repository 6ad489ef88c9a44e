/-
  Slices of numbers (int64): what a slice of the call's own reads as; a part of one; append of a slice; slices of such slices. No condition. Nothing of the program's functions is named here.
-/
import Derived.Test.YtmhpldnmapjghaaInts
import Derived.Test.YtmhpldnmapjghaaOwnI
import Derived.Deep.RegionHeld3
set_option linter.unusedSimpArgs false
set_option linter.unusedVariables false
namespace Go.Proofs.Ytmhpldnmapjghaa
set_option maxRecDepth 100000
open Go.RowKit

theorem IntsAt.form {w : World} {v : Value} {l : List Int} (h : IntsAt w v l) : ∃ p c, v = .slice p l.length c := by
  rcases h with ⟨rfl, rfl⟩ | ⟨a, cap, rfl, _, _, _⟩
  · exact ⟨none, 0, rfl⟩
  · exact ⟨some a, cap, rfl⟩
theorem IntsAt.len {w : World} {v : Value} {l : List Int} (h : IntsAt w v l) : l.length ≤ maxLen := by
  rcases h with ⟨_, rfl⟩ | ⟨a, cap, _, h1, h2, _⟩
  · exact Nat.zero_le _
  · exact Nat.le_trans h1 h2
theorem IntsAt.drew {w : World} {v : Value} {l : List Int} (h : IntsAt w v l) : IntsAt w.drew v l := h
theorem IntsAt.alloc {w : World} {v : Value} {l : List Int} (h : IntsAt w v l) (o : Obj) : IntsAt (w.alloc o) v l := h.grown (World.grownBy_alloc w o none)
theorem IntsAt.nil (w : World) : IntsAt w (.slice none 0 0) [] := .inl ⟨rfl, rfl⟩
theorem IntsAt.cell {w : World} {p : Option Addr} {n c : Nat} {l : List Int} (h : IntsAt w (.slice p n c) l) {i : Nat} (hi : i < l.length) :
    ∃ ab ao, p = some ⟨ab, ao, none⟩ ∧ n = l.length ∧ n ≤ c ∧ w.cell? ⟨ab, ao + i, none⟩ = some (.int .i64 l[i]) := by
  obtain ⟨ab, ao, cap, e, hc⟩ := h.cells (by omega)
  cases e
  refine ⟨ab, ao, rfl, rfl, ?_, hc i hi⟩
  rcases h with ⟨e, _⟩ | ⟨a, cap, e, h1, _, _⟩
  · cases e
  · cases e; exact h1
theorem iadd_at (b o i : Nat) : (⟨b, o, none⟩ : Addr).add i = ⟨b, o + i, none⟩ := by unfold Addr.add; split <;> simp_all
theorem OwnI.ints {base : Nat} {w : World} {v : Value} {l : List Int} (h : OwnI base w v l) : IntsAt w v l := by
  obtain ⟨_, h | ⟨g, cap, cur, rfl, _, hh, h1, h2, h3, h4⟩⟩ := h
  · exact .inl ⟨h.1, by simpa using h.2⟩
  · refine .inr ⟨_, cap, rfl, h1, h2, fun i hi => ?_⟩
    rw [iadd_at, Nat.zero_add, at_cell hh i]
    have hc : cur.toList[i]? = (l.map iv)[i]? := by
      rw [← h4, Nat.mul_one, List.getElem?_take]; simp [hi]
    rw [← Array.getElem?_toList, hc]
    simp [List.getElem?_map, List.getElem?_eq_getElem hi, iv]
theorem OwnI.grown {base : Nat} {w w1 : World} {v : Value} {l : List Int} {r : Option Nat} (h : OwnI base w v l) (hg : w.grownBy w1 r) (hr : ∀ g, v.ownBlock = some g → some g ≠ r) : OwnI base w1 v l := by
  obtain ⟨h0, h | ⟨g, cap, cur, rfl, hb, hh, h1⟩⟩ := h
  · exact ⟨h0, .inl h⟩
  · exact ⟨h0, .inr ⟨g, cap, cur, rfl, hb, at_grown hh hg (hr g rfl), h1⟩⟩
theorem OwnI.drew {base : Nat} {w : World} {v : Value} {l : List Int} (h : OwnI base w v l) : OwnI base w.drew v l := h
theorem OwnI.empty (w : World) : OwnI w.heap.size (w.alloc (.cells #[] 2)) (.slice (some ⟨w.heap.size, 0, none⟩) 0 0) [] :=
  ⟨rfl, .inr ⟨w.heap.size, 0, #[], rfl, Nat.le_refl _, at_new w _, Nat.le_refl _, Nat.zero_le _, rfl, rfl⟩⟩
theorem gb_ownI {w w5 wc : World} {base : Nat} {v : Value} {l : List Int} (h : w.grownBy w5 none) (ho : OwnI base w5 v l) (hb : w.heap.size ≤ base) (hg : w5.grownBy wc v.ownBlock) : w.grownBy wc none :=
  gb_trans h hg (by
    cases hv : v.ownBlock with
    | none => exact .inl rfl
    | some g => exact .inr (.inr ⟨g, rfl, Nat.le_trans hb (ho.at g (by simp [ownL, hv])).1⟩))
/-- another slice, behind a change of this one's block -/
theorem ints_other {w wc : World} {base : Nat} {v u : Value} {l r : List Int} (h : IntsAt w u r) (ho : OwnI base w v l) (hg : w.grownBy wc v.ownBlock) (hu : ∀ a n c, u = .slice (some a) n c → a.block < base) : IntsAt wc u r := by
  rcases h with h | ⟨a, cap, rfl, h1, h2, h3⟩
  · exact .inl h
  · refine .inr ⟨a, cap, rfl, h1, h2, fun i hi => hg.cell (h3 i hi) ?_⟩
    intro e
    have := (ho.at a.block (by simp [ownL, ← e, Addr.add]; split <;> rfl)).1
    have := hu a _ _ rfl
    omega
/-- numbers that a block holds -/
theorem ints_of_cells {w : World} {b : Nat} {f : Nat × Nat} (l : List Int) (h : w.heap[b]? = some (.cells (l.map iv).toArray 2 f)) (hl : l.length ≤ maxLen) : IntsAt w (.slice (some ⟨b, 0, none⟩) l.length l.length) l :=
  .inr ⟨_, l.length, rfl, Nat.le_refl _, hl, fun i hi => by
    rw [iadd_at, Nat.zero_add, at_cell h i]
    simp [iv]⟩
theorem own_ints {w : World} {b base : Nat} (l : List Int) (h : w.heap[b]? = some (.cells (l.map iv).toArray 2)) (hl : l.length ≤ maxLen) (hb : base ≤ b) : OwnI base w (.slice (some ⟨b, 0, none⟩) l.length l.length) l :=
  ⟨by simp, .inr ⟨b, l.length, (l.map iv).toArray, rfl, hb, h, Nat.le_refl _, hl, by simp, by rw [Nat.mul_one]; exact List.take_of_length_le (by simp)⟩⟩
/-- the first j; all from i on -/
theorem ints_slice0 {w : World} {ab ao n c j : Nat} {l : List Int} (h : IntsAt w (.slice (some ⟨ab, ao, none⟩) n c) l) (hj : j ≤ n) : IntsAt w (.slice (some ⟨ab, ao, none⟩) j c) (l.take j) := by
  rcases h with ⟨h, _⟩ | ⟨a, cap, e, h1, h2, h3⟩
  · cases h
  · cases e
    have hl : (l.take j).length = j := by rw [List.length_take]; omega
    refine .inr ⟨_, c, by rw [hl], by omega, h2, fun i hi => ?_⟩
    have := h3 i (by omega)
    rw [this]; simp
theorem ints_slice1 {w : World} {ab ao n c i : Nat} {l : List Int} (h : IntsAt w (.slice (some ⟨ab, ao, none⟩) n c) l) (hi : i ≤ n) : IntsAt w (.slice (some ⟨ab, ao + i, none⟩) (n - i) (c - i)) (l.drop i) := by
  rcases h with ⟨h, _⟩ | ⟨a, cap, e, h1, h2, h3⟩
  · cases h
  · cases e
    have hl : (l.drop i).length = l.length - i := by rw [List.length_drop]
    refine .inr ⟨_, c - i, by rw [hl], by omega, by omega, fun k hk => ?_⟩
    have := h3 (i + k) (by omega)
    rw [iadd_at] at this ⊢
    rw [Nat.add_assoc, this]; simp

theorem IntsAt.cell' {w : World} {ab ao n c i : Nat} {l : List Int} {x : Int} (h : IntsAt w (.slice (some ⟨ab, ao, none⟩) n c) l) (hx : l[i]? = some x) : w.cell? ⟨ab, ao + i, none⟩ = some (.int .i64 x) := by
  obtain ⟨hi, rfl⟩ := List.getElem?_eq_some_iff.1 hx
  obtain ⟨ab', ao', e, _, _, hc⟩ := h.cell hi
  cases e; exact hc
/-- a slice that reads as these slices of numbers -/
def RowsI (w : World) (v : Value) (ls : List (Value × List Int)) : Prop :=
  ∃ a cap, v = .slice (some a) ls.length cap ∧ ls.length ≤ cap ∧ cap ≤ maxLen ∧ ∀ i, (h : i < ls.length) → w.cell? (a.add i) = some ls[i].1 ∧ IntsAt w ls[i].1 ls[i].2
theorem RowsI.grown {w w1 : World} {v : Value} {l : List (Value × List Int)} (h : RowsI w v l) (hg : w.grownBy w1 none) : RowsI w1 v l := by
  obtain ⟨a, cap, rfl, h1, h2, h3⟩ := h
  exact ⟨a, cap, rfl, h1, h2, fun i hi => ⟨hg.cell (h3 i hi).1 (by simp), (h3 i hi).2.grown hg⟩⟩
theorem RowsI.cells {w : World} {v : Value} {l : List (Value × List Int)} (h : RowsI w v l) (hp : 0 < l.length) :
    ∃ ab ao cap, v = .slice (some ⟨ab, ao, none⟩) l.length cap ∧ ∀ i, (h : i < l.length) → w.cell? ⟨ab, ao + i, none⟩ = some l[i].1 ∧ IntsAt w l[i].1 l[i].2 := by
  obtain ⟨⟨ab, ao, asp⟩, cap, rfl, _, _, h3⟩ := h
  have h0 := (h3 0 hp).1
  have hsp : asp = none := by simpa [Addr.add] using World.cell?_spot h0
  subst hsp
  exact ⟨ab, ao, cap, rfl, fun i hi => by rw [← iadd_at]; exact h3 i hi⟩
/-- one row; two rows, in a new block -/
theorem rows_one {w w1 : World} {b : Nat} {v : Value} {l : List Int} {t : TypeId} (h : w1.heap[b]? = some (.cells #[v] t)) (h0 : IntsAt w1 v l) : RowsI w1 (.slice (some ⟨b, 0, none⟩) 1 1) [(v, l)] :=
  ⟨_, 1, rfl, Nat.le_refl _, by unfold maxLen; omega, fun i hi => by
    match i, hi with
    | 0, _ => exact ⟨by rw [iadd_at, Nat.zero_add, at_cell h 0]; rfl, h0⟩⟩
theorem rows_two {w1 : World} {b : Nat} {v v' : Value} {l l' : List Int} {t : TypeId} (h : w1.heap[b]? = some (.cells #[v, v'] t)) (h0 : IntsAt w1 v l) (h1 : IntsAt w1 v' l') : RowsI w1 (.slice (some ⟨b, 0, none⟩) 2 2) [(v, l), (v', l')] :=
  ⟨_, 2, rfl, Nat.le_refl _, by unfold maxLen; omega, fun i hi => by
    match i, hi with
    | 0, _ => exact ⟨by rw [iadd_at, Nat.zero_add, at_cell h 0]; rfl, h0⟩
    | 1, _ => exact ⟨by rw [iadd_at, Nat.zero_add, at_cell h 1]; rfl, h1⟩⟩
end Go.Proofs.Ytmhpldnmapjghaa
