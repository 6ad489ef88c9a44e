/-
  Contract: the document's comparison of two slices of numbers, one by one. The condition: slices that read as numbers.
-/
import Derived.Test.YtmhpldnmapjghaaKf
import Derived.BigQuiet
import Derived.Deep.QuietTactic
set_option linter.unusedSimpArgs false
set_option linter.unusedVariables false
namespace Go.Proofs.Ytmhpldnmapjghaa
set_option maxRecDepth 100000
open Go.RowKit

set_option maxHeartbeats 800000 in
/-- of two that read alike -/
theorem sameInts_yes (v u : Value) (l : List Int) (w : World) (h : IntsAt w v l) (h2 : IntsAt w u l) :
    Calls Try.prog 23 #[v, u] w fun e w' => e = .returned (.bool true) ∧ w.grownBy w' none := by
  have HI := hid h; have HJ := hid h2
  obtain ⟨p, c, rfl⟩ := h.form
  obtain ⟨p2, c2, rfl⟩ := h2.form
  have hlen := h.len
  unfold maxLen at hlen
  obtain ⟨n, hn⟩ : ∃ n, l.length = n := ⟨_, rfl⟩
  have HN := hid hn
  rw [hn] at HI HJ hlen ⊢
  clear h h2 hn
  have s0 : ((n : Int) == (n : Int)) = true := by simp
  go_enter Try.func23, Try.ntmps23
  go_wp2_with fail
  go_loopw [5] (fun i wr => ∃ k : Nat, k ≤ n ∧ i = .int .i64 (k : Int) ∧ w.grownBy wr none) (fun i _ => n - (intOf i).toNat)
  case atStart => exact ⟨0, Nat.zero_le _, rfl, .refl w none⟩
  case round =>
    obtain ⟨k, hk, rfl, hgr⟩ := hrel
    have HGR := hid hgr; clear hgr
    by_cases hlt : k < n
    · have hkl : k < l.length := by rw [HN.out]; exact hlt
      obtain ⟨ab, ao, rfl, -, hcc, hcell⟩ := (HI.out.grown HGR.out).cell hkl
      obtain ⟨ab2, ao2, rfl, -, hcc2, hcell2⟩ := (HJ.out.grown HGR.out).cell hkl
      generalize l[k] = y at *
      have sy : (y == y) = true := by simp
      have ilt : (k : Int) < (n : Int) := by omega
      go_wp2_with fail
      go_quiet (fail)
      go_wp2_with fail
      go_roundw
      case rel => exact ⟨k + 1, by omega, by go_num, gb_trans HGR.out ⟨rfl, rfl, rfl, Nat.le_refl _, fun _ _ _ => rfl⟩ (.inl rfl)⟩
      case measure => simp [intOf]; omega
    · obtain rfl : k = n := by omega
      go_wp2_with fail
      go_ret
      exact ⟨rfl, HGR.out⟩
end Go.Proofs.Ytmhpldnmapjghaa
