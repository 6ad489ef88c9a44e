/-
  The statements of layer 12: a score and one row of samples, made by the call itself. No condition.
-/
import Derived.Test.YtogmibmkkmbgoaaScV
import Derived.Test.YtogmibmkkmbgoaaUmi
set_option linter.unusedSimpArgs false
set_option linter.unusedVariables false
namespace Go.Proofs.Ytogmibmkkmbgoaa
set_option maxRecDepth 100000
open Go.RowKit

/-- a score and a row of one row -/
structure Sr (w : World) (s : Sc) (b hb : Nat) (u : Value) (r : List Sm) (x : Nat) (W : World) : Prop where
  sk : Sk w s b hb W
  row : Row1 hb u r x W
section
variable {w W W' : World} {s s' : Sc} {b hb x : Nat} {u : Value} {r : List Sm} {g : List Int}
theorem Sr.grown (h : Sr w s b hb u r x W) (hg : W.grownBy W' none) : Sr w s b hb u r x W' := ⟨h.sk.grown hg, h.row.grown hg⟩
theorem Sr.alloc (h : Sr w s b hb u r x W) (o : Obj) : Sr w s b hb u r x (W.alloc o) := h.grown (World.grownBy_alloc W o none)
theorem Sr.drew (h : Sr w s b hb u r x W) : Sr w s b hb u r x W.drew := h.grown ⟨rfl, rfl, rfl, Nat.le_refl _, fun _ _ _ => rfl⟩
/-- what a close of that row leaves -/
def ClosedR (w : World) (b hb : Nat) (u : Value) (r : List Sm) (x : Nat) (W : World) (s' : Sc) (g : List Int) (e : Ending) (w' : World) : Prop := ∃ p c, e = .returned (.slice p g.length c) ∧ OwnN W.heap.size w' (.slice p g.length c) g ∧ Sr w s' b hb u r x w'
theorem Sr.close (h : Sr w s b hb u r x W) (hr : r.length ≤ 1000) (q : Int) (hc : s.close [r] q = s' ∧ s.gone [r] q = g) :
    Calls Try.prog 20 #[.pointer (some ⟨b, 0, none⟩), .slice (some ⟨x, 0, none⟩) 1 1, .int .i64 q] W (ClosedR w b hb u r x W s' g) :=
  (h.sk.close1 h.row hr q hc).mono fun e w' ⟨p, c, he, ho, hk, hch⟩ => ⟨p, c, he, ho, hk, h.row.chg hch⟩
theorem Sr.get (h : Sr w s b hb u r x W) (k : Nat) (h0 : Hd) (hk : s.H[k]? = some h0) :
    Calls Try.prog 21 #[.pointer (some ⟨b, 0, none⟩), .int .i64 (k : Int)] W fun e w' => e = .returned (.tuple #[standV h0, .int .i64 0]) ∧ Sr w s b hb u r x w' ∧ W.grownBy w' none :=
  (get_in h.sk.sat k h0 hk).mono fun e w' ⟨he, hg⟩ => ⟨he, h.grown hg, hg⟩
theorem Sr.told (h : Sr w s b hb u r x W) : Calls Try.prog 22 #[] W fun e w' => e = .returned (.bool true) ∧ Sr w s b hb u r x w' ∧ W.grownBy w' none :=
  (sctold_any W).mono fun e w' ⟨he, hg⟩ => ⟨he, h.grown hg, hg⟩
theorem Sr.out (h : Sr w s b hb u r x W) (k : Nat) (h0 : Hd) (hk : s.H[k]? = some h0) :
    Calls Try.prog 24 #[.pointer (some ⟨b, 0, none⟩), .int .i64 (k : Int)] W fun e w' => e = .returned (.bool h0.1) ∧ W = w' :=
  (out_any h.sk.sat (k : Int)).mono fun e w' ⟨he, hw⟩ => ⟨by rw [he, outL_in hk], hw⟩
end
theorem Sk.past {w W W' : World} {s : Sc} {b hb g : Nat} (h : Sk w s b hb W) (hc : Chg [g] W W') (h1 : b ≠ g) (h2 : hb ≠ g) (h3 : w.heap.size ≤ g) : Sk w s b hb W' :=
  ⟨h.sat.chg hc (by simpa using h1) (by simpa using h2), ((chg_grown h.gr [g]).then hc).free (fun x hx => by rw [List.mem_singleton.1 hx]; exact h3), h.own, h.ok⟩
theorem flatS_val {l : List Sm} : ∀ {k : Nat} (hk : k < l.length) (x : Int), (flatS l).set (k * 4 + 3) (.int .i64 x) = flatS (l.set k ⟨l[k].who, l[k].met, l[k].ep, x⟩) := by
  induction l with
  | nil => intro k hk; simp at hk
  | cons p r ih =>
    intro k hk x
    have e : ∀ (q : Sm) (r : List Sm), flatS (q :: r) = cellsS q ++ flatS r := fun _ _ => rfl
    have hl : ∀ q : Sm, (cellsS q).length = 4 := fun _ => rfl
    cases k with
    | zero => rfl
    | succ k =>
      rw [e, List.set_append_right _ _ (by rw [hl]; omega), hl, show (k + 1) * 4 + 3 - 4 = k * 4 + 3 by omega, ih (by simpa using hk), List.set_cons_succ, e]
      rfl
theorem OwnZ.setv {base : Nat} {w : World} {g n c k : Nat} {l : List Sm} (h : OwnZ base w (.slice (some ⟨g, 0, none⟩) n c) l) (hk : k < l.length) (x : Int) : OwnZ base (w.setCell ⟨g, k * 4 + 3, none⟩ (.int .i64 x)) (.slice (some ⟨g, 0, none⟩) n c) (l.set k ⟨l[k].who, l[k].met, l[k].ep, x⟩) := by
  obtain ⟨h0, h | ⟨g', cap, cur, e, hb, hh, h1, h2, h3, h4⟩⟩ := h
  · cases h.1
  · cases e
    refine ⟨by rw [flatS_len, List.length_set], .inr ⟨g, c, cur.setIfInBounds (k * 4 + 3) (.int .i64 x), by simp, hb, at_set hh _ _, by simpa using h1, h2, by simpa using h3, ?_⟩⟩
    rw [List.length_set, Array.toList_setIfInBounds, ← flatS_val hk, ← h4, List.take_set]
theorem OwnZ.free {base : Nat} {w : World} {g n c j : Nat} {l : List Sm} (h : OwnZ base w (.slice (some ⟨g, 0, none⟩) n c) l) : w.frozen? ⟨g, j, none⟩ = false := by
  obtain ⟨h0, h | ⟨g', cap, cur, e, hb, hh, _⟩⟩ := h
  · cases h.1
  · cases e; exact at_free hh j
theorem OwnZ.some {base : Nat} {w : World} {v : Value} {l : List Sm} (h : OwnZ base w v l) (hl : 0 < l.length) : ∃ g c, v = .slice (some ⟨g, 0, none⟩) l.length c ∧ base ≤ g ∧ g < w.heap.size ∧ l.length ≤ c := by
  obtain ⟨h0, h | ⟨g', cap, cur, e, hb, hh, h1, _⟩⟩ := h
  · exact absurd hl (by rw [h.2]; simp)
  · exact ⟨g', cap, e, hb, at_lt hh, h1⟩
/-- one row -/
theorem rowsS_one {W : World} {x : Nat} {v : Value} {l : List Sm} (hb : W.heap[x]? = some (.cells #[v] 38)) (h : SAt W v l) : RowsS W (.slice (some ⟨x, 0, none⟩) 1 1) [(v, l)] :=
  .inr ⟨x, 0, 1, rfl, Nat.le_refl _, by unfold maxLen; omega, fun i hi => by
    have : i = 0 := by simpa using hi
    subst this
    exact ⟨at_cell hb 0, h⟩⟩
end Go.Proofs.Ytogmibmkkmbgoaa
