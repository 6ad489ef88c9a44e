/-
  The statements of layer 12: a score and one row of samples, made by the call itself. No condition.
-/
import Derived.Test.YtogmibmkkmbgoaaScV
import Derived.Test.YtogmibmkkmbgoaaUmi
set_option linter.unusedSimpArgs false
set_option linter.unusedVariables false
namespace Go.Proofs.Ytogmibmkkmbgoaa
set_option maxRecDepth 100000
open Go.RowKit

/-- a score and a row of one row -/
structure Sr (w : World) (s : Sc) (b hb : Nat) (u : Value) (r : List Sm) (x : Nat) (W : World) : Prop where
  sk : Sk w s b hb W
  row : Row1 hb u r x W
section
variable {w W W' : World} {s s' : Sc} {b hb x : Nat} {u : Value} {r : List Sm} {g : List Int}
theorem Sr.grown (h : Sr w s b hb u r x W) (hg : W.grownBy W' none) : Sr w s b hb u r x W' := ⟨h.sk.grown hg, h.row.grown hg⟩
theorem Sr.alloc (h : Sr w s b hb u r x W) (o : Obj) : Sr w s b hb u r x (W.alloc o) := h.grown (World.grownBy_alloc W o none)
theorem Sr.drew (h : Sr w s b hb u r x W) : Sr w s b hb u r x W.drew := h.grown ⟨rfl, rfl, rfl, Nat.le_refl _, fun _ _ _ => rfl⟩
/-- what a close of that row leaves -/
def ClosedR (w : World) (b hb : Nat) (u : Value) (r : List Sm) (x : Nat) (W : World) (s' : Sc) (g : List Int) (e : Ending) (w' : World) : Prop := ∃ p c, e = .returned (.slice p g.length c) ∧ OwnN W.heap.size w' (.slice p g.length c) g ∧ Sr w s' b hb u r x w'
theorem Sr.close (h : Sr w s b hb u r x W) (hr : r.length ≤ 1000) (q : Int) (hc : s.close [r] q = s' ∧ s.gone [r] q = g) :
    Calls Try.prog 20 #[.pointer (some ⟨b, 0, none⟩), .slice (some ⟨x, 0, none⟩) 1 1, .int .i64 q] W (ClosedR w b hb u r x W s' g) :=
  (h.sk.close1 h.row hr q hc).mono fun e w' ⟨p, c, he, ho, hk, hch⟩ => ⟨p, c, he, ho, hk, h.row.chg hch⟩
theorem Sr.get (h : Sr w s b hb u r x W) (k : Nat) (h0 : Hd) (hk : s.H[k]? = some h0) :
    Calls Try.prog 21 #[.pointer (some ⟨b, 0, none⟩), .int .i64 (k : Int)] W fun e w' => e = .returned (.tuple #[standV h0, .int .i64 0]) ∧ Sr w s b hb u r x w' ∧ W.grownBy w' none :=
  (get_in h.sk.sat k h0 hk).mono fun e w' ⟨he, hg⟩ => ⟨he, h.grown hg, hg⟩
theorem Sr.told (h : Sr w s b hb u r x W) : Calls Try.prog 22 #[] W fun e w' => e = .returned (.bool true) ∧ Sr w s b hb u r x w' ∧ W.grownBy w' none :=
  (sctold_any W).mono fun e w' ⟨he, hg⟩ => ⟨he, h.grown hg, hg⟩
theorem Sr.out (h : Sr w s b hb u r x W) (k : Nat) (h0 : Hd) (hk : s.H[k]? = some h0) :
    Calls Try.prog 24 #[.pointer (some ⟨b, 0, none⟩), .int .i64 (k : Int)] W fun e w' => e = .returned (.bool h0.1) ∧ W = w' :=
  (out_any h.sk.sat (k : Int)).mono fun e w' ⟨he, hw⟩ => ⟨by rw [he, outL_in hk], hw⟩
end
end Go.Proofs.Ytogmibmkkmbgoaa
