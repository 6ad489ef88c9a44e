/-
  The document's own Replay: Take, Bits. The condition of a call: the object lies there.
-/
import Derived.Test.YtfhifnhnkgdnlaaGreatY5
set_option linter.unusedSimpArgs false
set_option linter.unusedVariables false
namespace Go.Proofs.YtfhifnhnkgdnlaaGreat
set_option maxRecDepth 100000
open Go.RowKit

theorem OwnI.slice {base : Nat} {w : World} {v : Value} {l : List Int} (h : OwnI base w v l) : ∃ p k c, v = .slice p k c := by
  obtain ⟨p, c, e⟩ := h.form
  exact ⟨p, _, c, e⟩
theorem ownL_of {v v' : Value} {m : Nat} (h : v'.ownBlock = v.ownBlock ∨ v'.ownBlock = some m) : ∀ g, g ∈ ownL v' → g ∈ ownL v ∨ g = m := by
  intro g hg
  unfold ownL at hg ⊢
  rcases h with h | h
  · rw [h] at hg; exact .inl hg
  · rw [h] at hg; exact .inr (by simpa using hg)
theorem chg_own {w w' : World} {v : Value} (h : w.grownBy w' v.ownBlock) : Chg (ownL v) w w' := by
  unfold ownL
  cases hv : v.ownBlock with
  | none => rw [hv] at h; exact chg_grown h _
  | some g => rw [hv] at h; exact chg_row h
end Go.Proofs.YtfhifnhnkgdnlaaGreat
