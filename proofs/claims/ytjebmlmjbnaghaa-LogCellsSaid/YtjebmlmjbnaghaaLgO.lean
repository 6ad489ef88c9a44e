/-
  A cell that came in as plain data: a number of 32 bits, two whole numbers, a slice of bytes. No condition. Nothing of the program's functions is named here.
-/
import Derived.Test.YtjebmlmjbnaghaaFld
import Derived.Test.YtjebmlmjbnaghaaLgL
set_option linter.unusedVariables false
namespace Go.Proofs.Ytjebmlmjbnaghaa
set_option maxRecDepth 100000
open Go.ChangeShapes Go.WideShapes Go.ChangeAt Go.RowKit Go.Deep
theorem list4 {cs : List Value} (h : cs.length = 4) : ∃ a0 a1 a2 a3, cs = [a0, a1, a2, a3] := by
  match cs, h with
  | [a0, a1, a2, a3], _ => exact ⟨a0, a1, a2, a3, rfl⟩
theorem lc_one : ∀ (fs : Array Field), Try.prog.underlying 25 = some (.struct fs) → oneCellFields Try.prog fs = true ∧ fs.size = 4 ∧ fs.toList.map (·.type) = [22, 3, 3, 23] := by
  intro fs h
  rw [Try.underlying25] at h
  cases h
  refine ⟨?_, ?_, ?_⟩ <;> kernel_rfl
section
variable {H : Type} {enc : TypeId × Value → H} {w : World} {base : Nat} {d : DataW H} {ps : List MemPlace} {v : Value}
theorem open_lc (hval : Value.okWide Try.prog w .any base 25 v) (h : DataW.Trod enc Try.prog w 0 (fun _ => true) true 25 v d ps) :
    ∃ (p : Nat) (Q K : Int) (u : Value) (l : List UInt8), v = lcV p Q K u ∧ p < 4294967296 ∧ BytesAt w u l := by
  obtain ⟨⟨cs⟩, rfl, hsz⟩ := okWide_struct Try.underlying25 hval
  obtain ⟨fuel, hf⟩ := h
  have hl : cs.length = 4 := hsz.trans (by kernel_rfl)
  obtain ⟨fs, hfs⟩ : ∃ fs, Try.prog.underlying 25 = some (.struct fs) := ⟨_, Try.underlying25⟩
  obtain ⟨h1, h4, h3⟩ := lc_one fs hfs
  have hx := open_struct1 (cs := cs) hfs h1 (by rw [h4]; exact hl) hf
  have ty : ∀ j (hj : j < 4), ∃ f, fs[j]? = some f ∧ some f.type = [22, 3, 3, 23][j]? := fun j hj => by
    refine ⟨fs[j]'(by omega), Array.getElem?_eq_getElem (by omega), ?_⟩
    rw [← h3, List.getElem?_map, Array.getElem?_toList, Array.getElem?_eq_getElem (by omega)]; rfl
  have get : ∀ j (hj : j < 4) (t : TypeId), [22, 3, 3, 23][j]? = some t → ∃ v n y, cs[j]? = some v ∧ DataW.trod enc Try.prog w 0 (fun _ => true) true n t [v] = some y := fun j hj t e => by
    obtain ⟨f, hf, hft⟩ := ty j hj
    obtain ⟨v, y, n, k1, k2⟩ := hx j f hf
    rw [e] at hft
    cases hft
    exact ⟨v, n, y, k1, k2⟩
  obtain ⟨v0, n0, y0, a0, b0⟩ := get 0 (by decide) _ rfl
  obtain ⟨v1, n1, y1, a1, b1⟩ := get 1 (by decide) _ rfl
  obtain ⟨v2, n2, y2, a2, b2⟩ := get 2 (by decide) _ rfl
  obtain ⟨v3, n3, y3, a3, b3⟩ := get 3 (by decide) _ rfl
  obtain ⟨z0, rfl, wf0⟩ := int_cell Try.underlying22 b0
  obtain ⟨z1, rfl, _⟩ := int_cell Try.underlying3 b1
  obtain ⟨z2, rfl, _⟩ := int_cell Try.underlying3 b2
  obtain ⟨l, hl3⟩ := bytes_cell Try.underlying23 Try.underlying5 (by kernel_rfl) b3
  have hw : 0 ≤ z0 ∧ z0 ≤ 4294967295 := by simpa [Lit.wf, IntKind.min, IntKind.max, IntKind.signed, IntKind.bits] using wf0
  obtain ⟨a, b, c, e, rfl⟩ := list4 hl
  cases a0; cases a1; cases a2; cases a3
  obtain ⟨p, rfl⟩ : ∃ p : Nat, z0 = (p : Int) := ⟨z0.toNat, by omega⟩
  exact ⟨p, z1, z2, _, l, rfl, by omega, hl3⟩
theorem u32_of {n : Int} (h : (Lit.int .u32 n).wf = true) : ∃ p : Nat, n = (p : Int) ∧ p < 4294967296 := by
  have hw : 0 ≤ n ∧ n ≤ 4294967295 := by simpa [Lit.wf, IntKind.min, IntKind.max, IntKind.signed, IntKind.bits] using h
  exact ⟨n.toNat, by omega, by omega⟩
end
end Go.Proofs.Ytjebmlmjbnaghaa
