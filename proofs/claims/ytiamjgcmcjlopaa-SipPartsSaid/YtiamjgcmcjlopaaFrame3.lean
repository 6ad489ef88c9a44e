/-
  What an argument that is a slice of slices of bytes reads as, told to the walk. No condition. Nothing of the program's functions is named here.
-/
import Derived.Test.YtiamjgcmcjlopaaFrame
import Derived.Test.YtiamjgcmcjlopaaRowsAt
import Derived.Deep.Matrix
namespace Go.Proofs.Ytiamjgcmcjlopaa
open Go.ChangeShapes Go.WideShapes Go.ChangeAt Go.RowKit
section
variable {H : Type} {enc : TypeId × Value → H} {w : World} {base : Nat} {d : DataW H} {ps : List MemPlace} {v : Value} {t e : TypeId}
/-- a slice of slices of bytes -/
theorem open_rows {f : TypeId} (ht : Try.prog.underlying t = some (.slice e)) (he : Try.prog.underlying e = some (.slice f)) (hf : Try.prog.underlying f = some (.int .u8)) (ce : Try.prog.cellsOf e = 1) (cf : Try.prog.cellsOf f = 1)
    (hval : Value.okWide Try.prog w .any base t v) (h : DataW.Trod enc Try.prog w 0 (fun _ => true) true t v d ps) :
    ∃ ls : List (Value × List UInt8), ∃ p c, v = .slice p ls.length c ∧ RowsAt w v ls := by
  obtain ⟨a0, len, cap, rfl⟩ := okWide_slice ht hval
  obtain ⟨fuel, hfu⟩ := h
  rcases Go.Deep.open_int_rows ht he hf ce cf hfu with ⟨hcs, _⟩ | ⟨a, len', cap', A, L, C, Z, hcs, _, hl, hm, _, hx⟩
  · simp [Value.cells] at hcs
    obtain ⟨rfl, rfl, rfl⟩ := hcs
    exact ⟨[], none, 0, rfl, .inl ⟨rfl, rfl⟩⟩
  · simp [Value.cells] at hcs
    obtain ⟨rfl, rfl, rfl⟩ := hcs
    have each : ∀ r, r < cap → ∃ x : Value × List UInt8, w.cell? (a.add r) = some x.1 ∧ BytesAt w x.1 x.2 := by
      intro r hr
      obtain ⟨h1, h2, h3, h4, h5, h6, h7⟩ := hx r hr
      cases hA : A r with
      | none =>
        have hc0 := h6 hA
        have hl0 : L r = 0 := by omega
        rw [hA, hc0, hl0] at h1
        exact ⟨(.slice none 0 0, []), h1, .inl ⟨rfl, rfl⟩⟩
      | some a' =>
        obtain ⟨_, h8⟩ := h7 a' hA
        obtain ⟨l, hl1, hl2⟩ := bytes_of (w := w) (a := a') h2 h3 h4 (fun i hi => h8 i (by omega)) h5
        rw [hA] at h1
        exact ⟨(.slice (some a') (L r) (C r), l), h1, hl2⟩
    have all : ∀ n, n ≤ cap → ∃ ls : List (Value × List UInt8), ls.length = n ∧ ∀ i, (hi : i < ls.length) → w.cell? (a.add i) = some ls[i].1 ∧ BytesAt w ls[i].1 ls[i].2 := by
      intro n
      induction n with
      | zero => intro _; exact ⟨[], rfl, fun i hi => by cases hi⟩
      | succ n ih =>
        intro hn
        obtain ⟨ls, hls, hi⟩ := ih (by omega)
        obtain ⟨x, hx1, hx2⟩ := each n (by omega)
        refine ⟨ls ++ [x], by simp [hls], fun i hi2 => ?_⟩
        by_cases h : i < ls.length
        · rw [List.getElem_append_left h]; exact hi i h
        · have e : i = n := by simp at hi2; omega
          subst e
          rw [List.getElem_append_right (by omega)]
          simp [hls]
          exact ⟨hx1, hx2⟩
    obtain ⟨ls, hls, hi⟩ := all len hl
    exact ⟨ls, _, _, by rw [hls], .inr ⟨a, cap, by rw [hls], by omega, hm, hi⟩⟩
end
end Go.Proofs.Ytiamjgcmcjlopaa
