/-
  Slices of structs of whole numbers that came in, structs in one another too. No condition. Nothing of the program's functions is named here.
-/
import Derived.Test.YtjjcnojckbeekaaPlain
import Derived.Test.YtjjcnojckbeekaaChg
import Derived.Deep.Slices
import Derived.Deep.Fields
import Derived.ChangeSame
set_option linter.unusedVariables false
namespace Go.Proofs.Ytjjcnojckbeekaa
set_option maxRecDepth 100000
open Go.ChangeShapes Go.WideShapes Go.ChangeAt Go.RowKit Go.Deep

/-- a slice that reads as n structs of m whole numbers each -/
def GridAt (w : World) (v : Value) (m n : Nat) (f : Nat → Nat → Int) : Prop :=
  (v = .slice none 0 0 ∧ n = 0) ∨ ∃ a cap, v = .slice (some a) n cap ∧ n ≤ cap ∧ cap ≤ maxLen ∧ ∀ i, i < n → ∀ j, j < m → w.cell? (a.add (i * m + j)) = some (.int .i64 (f i j)) ∧ a.block < w.heap.size
theorem GridAt.chg {w w' : World} {F : List Nat} {v : Value} {m n : Nat} {f : Nat → Nat → Int} (h : GridAt w v m n f) (hc : Chg F w w') (hF : ∀ x ∈ F, w.heap.size ≤ x) : GridAt w' v m n f := by
  rcases h with h | ⟨a, cap, rfl, h1, h2, h3⟩
  · exact .inl h
  · refine .inr ⟨a, cap, rfl, h1, h2, fun i hi j hj => ?_⟩
    obtain ⟨k1, k2⟩ := h3 i hi j hj
    have hb : (a.add (i * m + j)).block = a.block := by unfold Addr.add; split <;> rfl
    exact ⟨hc.cell k1 (by rw [hb]; intro hm; have := hF _ hm; omega), Nat.lt_of_lt_of_le k2 hc.size⟩
theorem GridAt.grown {w w' : World} {v : Value} {m n : Nat} {f : Nat → Nat → Int} (h : GridAt w v m n f) (hg : w.grownBy w' none) : GridAt w' v m n f := h.chg (chg_grown hg []) (by simp)
theorem GridAt.form {w : World} {v : Value} {m n : Nat} {f : Nat → Nat → Int} (h : GridAt w v m n f) : ∃ p c, v = .slice p n c ∧ n ≤ maxLen := by
  rcases h with ⟨rfl, rfl⟩ | ⟨a, cap, rfl, h1, h2, _⟩
  · exact ⟨none, 0, rfl, Nat.zero_le _⟩
  · exact ⟨some a, cap, rfl, Nat.le_trans h1 h2⟩
theorem GridAt.cells {w : World} {p : Option Addr} {c m n : Nat} {f : Nat → Nat → Int} (h : GridAt w (.slice p n c) m n f) {i : Nat} (hi : i < n) (hm : 0 < m) :
    ∃ ab ao, p = some ⟨ab, ao, none⟩ ∧ n ≤ c ∧ ab < w.heap.size ∧ ∀ j, j < m → w.cell? ⟨ab, ao + i * m + j, none⟩ = some (.int .i64 (f i j)) := by
  rcases h with ⟨_, rfl⟩ | ⟨⟨ab, ao, asp⟩, cap, e, h1, _, h3⟩
  · omega
  · cases e
    obtain ⟨h0, hb⟩ := h3 0 (by omega) 0 hm
    have hsp : asp = none := by simpa [Addr.add] using World.cell?_spot h0
    subst hsp
    refine ⟨ab, ao, rfl, h1, hb, fun j hj => ?_⟩
    have := (h3 i hi j hj).1
    rw [Nat.add_assoc]
    unfold Addr.add at this
    split at this
    · next h => rw [h]; simpa using this
    · simpa using this
theorem cell_in {w : World} {a : Addr} {x : Value} (h : w.cell? a = some x) : a.block < w.heap.size := by
  rcases Nat.lt_or_ge a.block w.heap.size with hb | hb
  · exact hb
  · simp [World.cell?, Array.getElem?_eq_none hb] at h
section
variable {H : Type} {enc : TypeId × Value → H} {w : World} {base : Nat} {d : DataW H} {ps : List MemPlace} {v : Value} {t e : TypeId}
/-- a slice of structs of k whole numbers -/
theorem open_grid (k : Nat) (ht : Try.prog.underlying t = some (.slice e)) (hC : Try.prog.cellsOf e = k) (hk : ∀ j, j < k → kindAt Try.prog 10 e j = some .i64)
    (hval : Value.okWide Try.prog w .any base t v) (h : DataW.Trod enc Try.prog w 0 (fun _ => true) true t v d ps) :
    ∃ n f p c, v = .slice p n c ∧ GridAt w v k n f ∧ ∀ i, i < n → ∀ j, j < k → (Lit.int .i64 (f i j)).wf = true := by
  obtain ⟨a0, len, cap, rfl⟩ := okWide_slice ht hval
  obtain ⟨fuel, hfu⟩ := h
  rcases Go.Deep.open_slice ht hfu with ⟨hcs, _⟩ | ⟨a, len', cap', m, n, D, Pl, hcs, _, hl, hm, hmm, _, hx⟩
  · simp [Value.cells] at hcs
    obtain ⟨rfl, rfl, rfl⟩ := hcs
    exact ⟨0, fun _ _ => 0, none, 0, rfl, .inl ⟨rfl, rfl⟩, fun i hi => by omega⟩
  · simp [Value.cells] at hcs
    obtain ⟨rfl, rfl, rfl⟩ := hcs
    rw [if_pos rfl] at hmm
    subst hmm
    have each : ∀ i, i < len → ∀ j, j < k → ∃ z, w.cell? (a.add (i * k + j)) = some (.int .i64 z) ∧ (Lit.int .i64 z).wf = true := by
      intro i hi j hj
      obtain ⟨cs', h1, h2⟩ := hx i (by omega)
      rw [hC] at h1
      obtain ⟨_, hcl, hat⟩ := World.cells?_some h1
      obtain ⟨z, hz, hw⟩ := kindAt_reads 10 e j .i64 (hk j hj) _ _ _ h2
      refine ⟨z, ?_, hw⟩
      rw [← Go.Deep.add_add, hat j hj, hz]
    refine ⟨len, fun i j => match w.cell? (a.add (i * k + j)) with | some (.int .i64 z) => z | _ => 0, some a, _, rfl, .inr ⟨a, _, rfl, hl, hm, fun i hi j hj => ?_⟩, fun i hi j hj => ?_⟩
    · obtain ⟨z, h1, h2⟩ := each i hi j hj
      have hb := cell_in h1
      have e : (a.add (i * k + j)).block = a.block := by unfold Addr.add; split <;> rfl
      rw [e] at hb
      exact ⟨by simp only [h1], hb⟩
    · obtain ⟨z, h1, h2⟩ := each i hi j hj
      simpa only [h1] using h2
end
/-- all are whole numbers: to be asked of a type by the kernel -/
theorem kinds_of {e : TypeId} {k : Nat} (h : (List.range k).all (fun j => kindAt Try.prog 10 e j == some .i64) = true) : ∀ j, j < k → kindAt Try.prog 10 e j = some .i64 := fun j hj => by
  have := List.all_eq_true.1 h j (List.mem_range.2 hj)
  simpa using this
theorem kinds_smp : (List.range 4).all (fun j => kindAt Try.prog 10 29 j == some .i64) = true := by kernel_rfl
theorem cells_smp : Try.prog.cellsOf 29 = 4 := by kernel_rfl
end Go.Proofs.Ytjjcnojckbeekaa
