/-
  The statement LawRises: Two laws of one configuration, the one given at least the other's values at each epoch, holding at the same ones: its count is never less. No condition.
-/
import Derived.Test.YthobbekocimcnaaMLWRisesW
import Derived.Test.YthobbekocimcnaaZ9
namespace Go.Proofs.Ythobbekocimcnaa.lrises
open Go.ChangeShapes Go.WideShapes Go.ChangeAt Go.RowKit

set_option maxRecDepth 100000 in
theorem lifted (os : Os) (started : os.Started) (H : Type) (enc : TypeId × Value → H) :
    ReturnsInHanded {} Try.checked os 4 .any (Rows.lawRisesSpec.pre6 enc Try.prog Try.f4 Rows.lawRisesRow.domain false) (Rows.lawRisesSpec.post enc Try.prog Try.f4 false true false false) := by
  refine returnsInHanded_of_change (C := Try.checked) own started (by kernel_rfl) Try.func4
    (ChangeSpec.witness6 (enc := enc) (C := Try.checked) false ⟨#[], #[.slice none 0 0, .int .i64 0, .int .i64 0, .slice none 0 0, .slice none 0 0, .slice none 0 0], []⟩ 8 (by kernel_rfl) (by kernel_rfl) (by kernel_rfl) (by kernel_rfl)) ?_
  intro W base args ds gs before hval0 hW hcnd _
  have hval : ∀ (j : Nat) t v, Try.f4.params[j]? = some t → args[j]? = some v → Value.okWide Try.prog W .any base t v := hval0
  have hW' := hW
  obtain ⟨p, q, hA0, hV, rfl, hfz, hnd⟩ := hW
  have hA : DataW.TrodAll enc Try.prog W 0 (fun _ => true) true Try.f4.params.toList args.toList ds p := hA0
  have hlt : ∀ x ∈ p, x.block < W.heap.size := fun x hx => hW'.lt x (List.mem_append_left _ hx)
  rw [Try.params4] at hA hval
  have hA1 := hA
  obtain ⟨v0, v1, v2, v3, v4, v5, d0, d1, d2, d3, d4, d5, p0, p1, p2, p3, p4, p5, rfl, rfl, rfl, h0, h1, h2, h3, h4, h5⟩ := trodAll_six hA
  obtain ⟨rfl, rfl⟩ := trodVars_none hV
  obtain ⟨l0, pp0, c0, rfl, i0⟩ := open_intlist Try.underlying22 Try.underlying3 (by kernel_rfl) (hval 0 22 v0 rfl rfl) h0
  obtain ⟨n1, rfl, rfl, rfl, wf1⟩ := open_int Try.underlying3 (hval 1 3 v1 rfl rfl) h1
  obtain ⟨n2, rfl, rfl, rfl, wf2⟩ := open_int Try.underlying3 (hval 2 3 v2 rfl rfl) h2
  obtain ⟨l3, pp3, c3, rfl, i3⟩ := open_intlist Try.underlying23 Try.underlying2 (by kernel_rfl) (hval 3 23 v3 rfl rfl) h3
  obtain ⟨l4, pp4, c4, rfl, i4⟩ := open_intlist Try.underlying23 Try.underlying2 (by kernel_rfl) (hval 4 23 v4 rfl rfl) h4
  obtain ⟨l5, m5, pp5, c5, rfl, i5⟩ := open_boolrow Try.underlying38 Try.underlying4 (by kernel_rfl) (hval 5 38 v5 rfl rfl) h5
  refine (walk l0 pp0 c0 i0 n1 n2 l3 pp3 c3 i3 l4 pp4 c4 i4 l5 m5 pp5 c5 i5 (w := W)).mono fun e W' ⟨he, hg⟩ => ?_
  subst he
  have bel := gb_below hg
  exact ⟨_, rfl, _, _, _, [], _, [], hW', trodAll_mk1 (shut_bool Try.underlying4 _), all_below laidOut bel (by kernel_rfl) hA1 hlt, rfl, bel.frame _, fun h => by cases h⟩

theorem over : Rows.lawRisesRow.holds Try.pinned (OpenSpec.ofChange Rows.lawRisesSpec) :=
  OpenClaim.holds_of_wide 4 Try.f4 rfl rfl rfl rfl rfl rfl rfl ⟨rfl, rfl, rfl, rfl, rfl⟩ rfl rfl rfl rfl rfl (by kernel_rfl) Try.func4 (by kernel_rfl)
    (of_decide_eq_true (by kernel_rfl)) (by unfold Func.isWrapper; first | (rw [if_pos (by decide +kernel)]; kernel_rfl) | (rw [if_neg (by decide +kernel)]; exact ⟨rfl, rfl⟩))
    (fun os started H enc _ => lifted os started H enc)

theorem proved : Rows.LawRisesSaid := over
#print axioms proved
end Go.Proofs.Ythobbekocimcnaa.lrises
