/-
  Arguments that are numbers laid side by side (structs and arrays of numbers, one in another): each cell of such a value is a number of its kind. No condition. Nothing of the program's functions is named here.
-/
import Derived.Test.YtjebmlmjbnaghaaGrow
import Derived.Test.YtjebmlmjbnaghaaRows
import Derived.ProofKit
import Derived.OpenShut
import Derived.ChangeOld
import Derived.Below
namespace Go.Proofs.Ytjebmlmjbnaghaa
set_option maxRecDepth 100000
open Go.ChangeShapes Go.WideShapes Go.ChangeAt Go.RowKit

/-- which kind of number is the i-th cell of a value of this type? -/
def kindAt (P : Program) : Nat → TypeId → Nat → Option IntKind
  | 0, _, _ => none
  | n + 1, t, i => match P.underlying t with
    | some (.int k) => if i = 0 then some k else none
    | some (.array m e) => if i < m * P.cellsOf e then kindAt P n e (i % P.cellsOf e) else none
    | some (.struct fs) => match fs.find? (fun f => decide (f.offset ≤ i) && decide (i < f.offset + P.cellsOf f.type)) with
      | some f => kindAt P n f.type (i - f.offset)
      | none => none
    | _ => none

section
variable {H : Type} {enc : TypeId × Value → H} {P : Program} {w : World} {base : Nat} {spare : Nat → Bool} {held : Bool}
theorem take_drop_at {cs : List Value} {o c j : Nat} (hj : j < c) : ((cs.drop o).take c)[j]? = cs[o + j]? := by
  rw [List.getElem?_take_of_lt hj, List.getElem?_drop]
theorem kindAt_reads : ∀ (n : Nat) (t : TypeId) (i : Nat) (k : IntKind), kindAt P n t i = some k → ∀ (fuel : Nat) (cs : List Value) (x : DataW H × List MemPlace),
    DataW.trod enc P w base spare held fuel t cs = some x → ∃ z, cs[i]? = some (.int k z) ∧ (Lit.int k z).wf = true
  | 0, _, _, _, h => by simp [kindAt] at h
  | n + 1, t, i, k, h => by
    intro fuel cs x hx
    unfold kindAt at h
    split at h
    · rename_i k' hu
      split at h
      · rename_i hi
        subst hi
        cases h
        obtain ⟨z, rfl, _, hw⟩ := DataW.trod_int hu hx
        exact ⟨z, rfl, hw⟩
      · cases h
    · rename_i m e hu
      split at h
      · rename_i hi
        obtain ⟨xs, m', _, _, hl, hn, hf⟩ := DataW.trod_array hu hx
        have hc : 0 < P.cellsOf e := by
          rcases Nat.eq_zero_or_pos (P.cellsOf e) with h0 | h0
          · rw [h0] at hi; simp at hi
          · exact h0
        have hj : i / P.cellsOf e < m := by rw [Nat.div_lt_iff_lt_mul hc]; exact hi
        have h1 := hf (i / P.cellsOf e) hj
        rw [List.getElem?_eq_getElem (by omega)] at h1
        obtain ⟨z, hz, hw⟩ := kindAt_reads n e _ k h _ _ _ h1
        rw [take_drop_at (Nat.mod_lt _ hc), Nat.mul_comm, Nat.div_add_mod] at hz
        exact ⟨z, hz, hw⟩
      · cases h
    · rename_i fs hu
      split at h
      · rename_i f hf
        have h1 := Array.find?_some hf
        have h2 := Array.mem_of_find?_eq_some hf
        simp only [Bool.and_eq_true, decide_eq_true_eq] at h1
        obtain ⟨j, hj⟩ := Array.mem_iff_getElem?.1 h2
        obtain ⟨xs, m', _, _, hl, hn, hg⟩ := DataW.trod_struct hu hx
        have h3 := hg j f hj
        have hjl : j < fs.size := (Array.getElem?_eq_some_iff.1 hj).1
        rw [List.getElem?_eq_getElem (by omega)] at h3
        obtain ⟨z, hz, hw⟩ := kindAt_reads n f.type _ k h _ _ _ h3
        rw [take_drop_at (by omega)] at hz
        exact ⟨z, by rw [← hz]; congr 1; omega, hw⟩
      · cases h
    · cases h
end
end Go.Proofs.Ytjebmlmjbnaghaa
