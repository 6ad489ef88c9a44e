/-
  Contract: whether a configuration may be, as the document says it. No condition.
-/
import Derived.Test.YtfobddicokogpaaCfRef
set_option linter.unusedSimpArgs false
namespace Go.Proofs.Ytfobddicokogpaa
set_option maxRecDepth 100000
open Go.RowKit

theorem refmay_any (c : Conf) (w : World) :
    Calls Try.prog 16 #[cf c] w fun e w' => e = .returned (.bool ((st22 c).getD ⟨#[]⟩).toList.isEmpty) ∧ w.grownBy w' none := by
  have h0 := boxc_new w c
  have H0 := hid h0; clear h0
  have hw := refwrong_any c
  obtain ⟨s, hs⟩ : ∃ s, s = (st22 c).getD ⟨#[]⟩ := ⟨_, rfl⟩
  rw [← hs] at hw ⊢
  clear hs
  go_enter Try.func16, Try.ntmps16
  go_wp2_with (refine wpList_conf H0.out.box rfl rfl rfl rfl ?_)
  refine (hw _).mono ?_
  rintro e w1 ⟨rfl, hg⟩
  have G1 := hid hg; clear hg
  go_wp2_with fail
  go_ret
  exact ⟨rfl, gb_trans (gb_alloc (.refl w none) _) G1.out (.inl rfl)⟩
end Go.Proofs.Ytfobddicokogpaa
