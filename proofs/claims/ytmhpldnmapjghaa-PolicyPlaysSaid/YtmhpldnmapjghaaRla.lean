/-
  Contract: the document's last of a slice; slices of numbers beside blocks that change. No condition, but for short slices.
-/
import Derived.Test.YtmhpldnmapjghaaIntN
import Derived.Test.YtmhpldnmapjghaaKf
import Derived.Test.YtmhpldnmapjghaaChg
import Derived.WalkSpells
import Derived.WalkLawsBesides
set_option linter.unusedSimpArgs false
set_option linter.unusedVariables false
namespace Go.Proofs.Ytmhpldnmapjghaa
set_option maxRecDepth 100000
open Go.RowKit

theorem ints_chg {w w' : World} {G : List Nat} {v : Value} {l : List Int} (h : IntsAt w v l) (hc : Chg G w w') (hb : ∀ a n c, v = .slice (some a) n c → a.block ∉ G) : IntsAt w' v l := by
  rcases h with h | ⟨a, cap, rfl, h1, h2, h3⟩
  · exact .inl h
  · refine .inr ⟨a, cap, rfl, h1, h2, fun i hi => hc.cell (h3 i hi) ?_⟩
    have e1 : (a.add i).block = a.block := by unfold Addr.add; split <;> rfl
    rw [e1]; exact hb a _ _ rfl
theorem rlast_any (ab ao n c k : Nat) (h1 : 1 ≤ n) (h2 : 1 ≤ k) (h3 : n ≤ c) (h4 : n ≤ 1000) (h5 : k ≤ 1000) (w : World) :
    Calls Try.prog 38 #[.slice (some ⟨ab, ao, none⟩) n c, .int .i64 (k : Int)] w fun e w' => e = .returned (.slice (some ⟨ab, ao + (n - k), none⟩) (n - (n - k)) (c - (n - k))) ∧ w = w' := by
  go_enter Try.func38, Try.ntmps38
  go_wp2_with fail
  all_goals go_ret
  all_goals first
  | exact ⟨rfl, rfl⟩
  | (rw [show n - k = 0 by omega]; exact ⟨rfl, rfl⟩)
  | (rw [show n - k = (max ((n : Int) - (k : Int)) 0).toNat by omega]; exact ⟨rfl, rfl⟩)
end Go.Proofs.Ytmhpldnmapjghaa
