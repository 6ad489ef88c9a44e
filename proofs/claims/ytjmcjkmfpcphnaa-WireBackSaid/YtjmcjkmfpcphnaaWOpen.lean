/-
  What a message that comes in reads as. No condition.
-/
import Derived.Test.YtjmcjkmfpcphnaaFrameN
import Derived.Test.YtjmcjkmfpcphnaaKind
import Derived.Test.YtjmcjkmfpcphnaaWMay
namespace Go.Proofs.Ytjmcjkmfpcphnaa
set_option maxRecDepth 100000
open Go.ChangeShapes Go.WideShapes Go.ChangeAt Go.RowKit
theorem list7 {cs : List Value} (h : cs.length = 7) : ∃ a0 a1 a2 a3 a4 a5 a6, cs = [a0, a1, a2, a3, a4, a5, a6] := by
  match cs, h with
  | [a0, a1, a2, a3, a4, a5, a6], _ => exact ⟨a0, a1, a2, a3, a4, a5, a6, rfl⟩
section
variable {H : Type} {enc : TypeId × Value → H} {w : World} {base : Nat} {d : DataW H} {ps : List MemPlace} {v : Value}
def Mg.wf (m : Mg) : Prop := (∀ x ∈ [m.kind, m.who, m.gen, m.seq, m.epoch, m.value, m.metric], (Lit.int .i64 x).wf = true)
theorem open_msg (hval : Value.okWide Try.prog w .any base 23 v) (h : DataW.Trod enc Try.prog w 0 (fun _ => true) true 23 v d ps) : ∃ m : Mg, v = mg m ∧ m.wf := by
  obtain ⟨⟨cs⟩, rfl, hsz⟩ := okWide_struct Try.underlying23 hval
  obtain ⟨fuel, hf⟩ := h
  have hl : cs.length = 7 := hsz.trans (by kernel_rfl)
  obtain ⟨a0, a1, a2, a3, a4, a5, a6, rfl⟩ := list7 hl
  obtain ⟨z0, e0, f0⟩ := kindAt_reads 4 23 0 .i64 (by kernel_rfl) _ _ _ hf
  obtain ⟨z1, e1, f1⟩ := kindAt_reads 4 23 1 .i64 (by kernel_rfl) _ _ _ hf
  obtain ⟨z2, e2, f2⟩ := kindAt_reads 4 23 2 .i64 (by kernel_rfl) _ _ _ hf
  obtain ⟨z3, e3, f3⟩ := kindAt_reads 4 23 3 .i64 (by kernel_rfl) _ _ _ hf
  obtain ⟨z4, e4, f4⟩ := kindAt_reads 4 23 4 .i64 (by kernel_rfl) _ _ _ hf
  obtain ⟨z5, e5, f5⟩ := kindAt_reads 4 23 5 .i64 (by kernel_rfl) _ _ _ hf
  obtain ⟨z6, e6, f6⟩ := kindAt_reads 4 23 6 .i64 (by kernel_rfl) _ _ _ hf
  refine ⟨⟨z0, z1, z2, z3, z4, z5, z6⟩, ?_, ?_⟩
  · obtain rfl := Option.some.inj e0
    obtain rfl := Option.some.inj e1
    obtain rfl := Option.some.inj e2
    obtain rfl := Option.some.inj e3
    obtain rfl := Option.some.inj e4
    obtain rfl := Option.some.inj e5
    obtain rfl := Option.some.inj e6
    rfl
  · intro x hx
    simp only [List.mem_cons, List.mem_nil_iff, or_false] at hx
    rcases hx with rfl | rfl | rfl | rfl | rfl | rfl | rfl <;> assumption
end
end Go.Proofs.Ytjmcjkmfpcphnaa
