/-
  What the walk of CalmPlays keeps: the program's object and the document's, side by side. No condition.
-/
import Derived.Test.YtnpaecbdejemnaaCbB
import Derived.Test.YtnpaecbdejemnaaCaF
import Derived.Test.YtnpaecbdejemnaaSmi
set_option linter.unusedSimpArgs false
set_option linter.unusedVariables false
namespace Go.Proofs.Ytnpaecbdejemnaa
set_option maxRecDepth 100000
open Go.RowKit

structure Cp (w : World) (b1 : Nat) (c1 : Ca) (b2 : Nat) (c2 : Ca) (W : World) : Prop where
  gr : w.grownBy W none
  k1 : CaAt W b1 c1
  k2 : CbAt W [b2, b1] b2 c2
  l1 : w.heap.size ≤ b1
  l2 : w.heap.size ≤ b2
  ne : b1 ≠ b2
section
variable {w W W' : World} {b1 b2 : Nat} {c c1 c2 : Ca} {F : List Nat} {b : Nat} {n x z : Int}
theorem Cp.grown (h : Cp w b1 c1 b2 c2 W) (hg : W.grownBy W' none) : Cp w b1 c1 b2 c2 W' := ⟨gb_trans h.gr hg (.inl rfl), h.k1.grown hg, h.k2.grown hg, h.l1, h.l2, h.ne⟩
theorem Cp.drew (h : Cp w b1 c1 b2 c2 W) : Cp w b1 c1 b2 c2 W.drew := ⟨gb_drew h.gr, h.k1.drew, h.k2.drew, h.l1, h.l2, h.ne⟩
theorem Cp.chg1 (h : Cp w b1 c1 b2 c2 W) (hc : CaAt W' b1 c) (hg : Chg [b1] W W') : Cp w b1 c b2 c2 W' :=
  ⟨gb_chg h.gr hg h.l1, hc, h.k2.chg hg (by simp) (by simp [h.ne.symm]), h.l1, h.l2, h.ne⟩
theorem Cp.chg2 (h : Cp w b1 c1 b2 c2 W) (hc : CbAt W' [b2, b1] b2 c) (hg : Chg [b2] W W') : Cp w b1 c1 b2 c W' :=
  ⟨gb_chg h.gr hg h.l2, h.k1.chg hg (by simp [h.ne]), hc, h.l1, h.l2, h.ne⟩
theorem rnext_as (H : CbAt W F b c) (h1 : c.push x = c1) (h2 : c1.out n = z) :
    Calls Try.prog 15 #[.pointer (some ⟨b, 0, none⟩), .int .i64 n, .int .i64 x] W fun e w' => e = .returned (.int .i64 z) ∧ CbAt w' F b c1 ∧ Chg [b] W w' := by
  subst h1; subst h2; exact rnext_any n x H
end
end Go.Proofs.Ytnpaecbdejemnaa
