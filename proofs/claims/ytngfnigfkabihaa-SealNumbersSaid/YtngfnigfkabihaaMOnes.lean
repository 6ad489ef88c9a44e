/-
  Slices of bools, or of numbers of kind int, that came in, by an index function. No condition. Nothing of the program's functions is named here.
-/
import Derived.Test.YtngfnigfkabihaaZ1
import Derived.Test.YtngfnigfkabihaaRows
import Derived.ProofKit
import Derived.OpenShut
import Derived.ChangeSlices
import Derived.Deep.Grids
set_option linter.unusedSimpArgs false
namespace Go.Proofs.Ytngfnigfkabihaa
set_option maxRecDepth 100000
open Go.ChangeShapes Go.WideShapes Go.ChangeAt Go.RowKit Go.Deep

/-- a slice whose n cells are g 0, g 1 .. -/
def OneAt (w : World) (v : Value) (n : Nat) (g : Nat → Value) : Prop :=
  (v = .slice none 0 0 ∧ n = 0) ∨ ∃ a cap, v = .slice (some a) n cap ∧ n ≤ cap ∧ cap ≤ maxLen ∧ ∀ i, i < n → w.cell? (a.add i) = some (g i)
theorem OneAt.grown {w w1 : World} {v : Value} {n : Nat} {g : Nat → Value} (h : OneAt w v n g) (hg : w.grownBy w1 none) : OneAt w1 v n g := by
  rcases h with h | ⟨a, cap, rfl, h1, h2, h3⟩
  · exact .inl h
  · exact .inr ⟨a, cap, rfl, h1, h2, fun i hi => hg.cell (h3 i hi) (by simp)⟩
theorem OneAt.len {w : World} {p : Option Addr} {c n : Nat} {g : Nat → Value} (h : OneAt w (.slice p n c) n g) : n ≤ maxLen := by
  rcases h with ⟨h, rfl⟩ | ⟨a, cap, h, h1, h2, _⟩
  · exact Nat.zero_le _
  · exact Nat.le_trans h1 h2
theorem OneAt.cell {w : World} {p : Option Addr} {c n : Nat} {g : Nat → Value} (h : OneAt w (.slice p n c) n g) {i : Nat} (hi : i < n) :
    ∃ ab ao, p = some ⟨ab, ao, none⟩ ∧ ∀ j, j < n → w.cell? ⟨ab, ao + j, none⟩ = some (g j) := by
  rcases h with ⟨_, rfl⟩ | ⟨⟨ab, ao, asp⟩, cap, e, _, _, h3⟩
  · omega
  · cases e
    have h0 := h3 0 (by omega)
    have hsp : asp = none := by simpa [Addr.add] using World.cell?_spot h0
    subst hsp
    refine ⟨ab, ao, rfl, fun j hj => ?_⟩
    have := h3 j hj
    unfold Addr.add at this
    split at this
    · next h => subst h; simpa using this
    · simpa using this
section
variable {H : Type} {enc : TypeId × Value → H} {w : World} {base : Nat} {d : DataW H} {ps : List MemPlace} {v : Value} {t e : TypeId}
theorem open_boolrow (ht : Try.prog.underlying t = some (.slice e)) (he : Try.prog.underlying e = some .bool) (hc : Try.prog.cellsOf e = 1)
    (hval : Value.okWide Try.prog w .any base t v) (h : DataW.Trod enc Try.prog w 0 (fun _ => true) true t v d ps) :
    ∃ (f : Nat → Bool) (n : Nat) (p : Option Addr) (c : Nat), v = .slice p n c ∧ OneAt w v n (fun i => .bool (f i)) := by
  obtain ⟨a0, len, cap, rfl⟩ := okWide_slice ht hval
  obtain ⟨fuel, hf⟩ := h
  rcases open_bools ht he hc hf with ⟨hcs, _⟩ | ⟨a, len', cap', B, hcs, _, hl, hm, _, hcell⟩
  · simp [Value.cells] at hcs
    obtain ⟨rfl, rfl, rfl⟩ := hcs
    exact ⟨fun _ => false, 0, none, 0, rfl, .inl ⟨rfl, rfl⟩⟩
  · simp [Value.cells] at hcs
    obtain ⟨rfl, rfl, rfl⟩ := hcs
    exact ⟨B, len, some a, cap, rfl, .inr ⟨a, cap, rfl, hl, hm, fun i hi => hcell i (by omega)⟩⟩
theorem open_introw (ht : Try.prog.underlying t = some (.slice e)) (he : Try.prog.underlying e = some (.int .i64)) (hc : Try.prog.cellsOf e = 1)
    (hval : Value.okWide Try.prog w .any base t v) (h : DataW.Trod enc Try.prog w 0 (fun _ => true) true t v d ps) :
    ∃ (f : Nat → Int) (n : Nat) (p : Option Addr) (c : Nat), v = .slice p n c ∧ OneAt w v n (fun i => .int .i64 (f i)) := by
  obtain ⟨a0, len, cap, rfl⟩ := okWide_slice ht hval
  obtain ⟨fuel, hf⟩ := h
  rcases open_ints ht he hc hf with ⟨hcs, _⟩ | ⟨a, len', cap', zs, hcs, _, hl, hm, hz, _, hcell, _⟩
  · simp [Value.cells] at hcs
    obtain ⟨rfl, rfl, rfl⟩ := hcs
    exact ⟨fun _ => 0, 0, none, 0, rfl, .inl ⟨rfl, rfl⟩⟩
  · simp [Value.cells] at hcs
    obtain ⟨rfl, rfl, rfl⟩ := hcs
    have hz' : zs.length = cap := by simpa using hz
    exact ⟨fun i => zs.getD i 0, len, some a, cap, rfl, .inr ⟨a, cap, rfl, hl, hm, fun i hi => hcell i (by first | omega | (simp; omega))⟩⟩
end
end Go.Proofs.Ytngfnigfkabihaa
