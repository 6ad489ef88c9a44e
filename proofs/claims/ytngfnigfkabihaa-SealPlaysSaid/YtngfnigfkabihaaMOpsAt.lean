/-
  Slices of structs of whole numbers that came in. No condition. Nothing of the program's functions is named here.
-/
import Derived.Test.YtngfnigfkabihaaMFrameN
import Derived.Test.YtngfnigfkabihaaZ1
import Derived.Deep.Slices
import Derived.Deep.Fields
import Derived.ChangeSame
namespace Go.Proofs.Ytngfnigfkabihaa
set_option maxRecDepth 100000
open Go.ChangeShapes Go.WideShapes Go.ChangeAt Go.RowKit Go.Deep

/-- a slice that reads as n structs of m whole numbers each -/
def GridAt (w : World) (v : Value) (m n : Nat) (f : Nat → Nat → Int) : Prop :=
  (v = .slice none 0 0 ∧ n = 0) ∨ ∃ a cap, v = .slice (some a) n cap ∧ n ≤ cap ∧ cap ≤ maxLen ∧ ∀ i, i < n → ∀ j, j < m → w.cell? (a.add (i * m + j)) = some (.int .i64 (f i j)) ∧ a.block < w.heap.size
theorem GridAt.chg {w w' : World} {F : List Nat} {v : Value} {m n : Nat} {f : Nat → Nat → Int} (h : GridAt w v m n f) (hc : Chg F w w') (hF : ∀ x ∈ F, w.heap.size ≤ x) : GridAt w' v m n f := by
  rcases h with h | ⟨a, cap, rfl, h1, h2, h3⟩
  · exact .inl h
  · refine .inr ⟨a, cap, rfl, h1, h2, fun i hi j hj => ?_⟩
    obtain ⟨k1, k2⟩ := h3 i hi j hj
    have hb : (a.add (i * m + j)).block = a.block := by unfold Addr.add; split <;> rfl
    exact ⟨hc.cell k1 (by rw [hb]; intro hm; have := hF _ hm; omega), Nat.lt_of_lt_of_le k2 hc.size⟩
theorem GridAt.form {w : World} {v : Value} {m n : Nat} {f : Nat → Nat → Int} (h : GridAt w v m n f) : ∃ p c, v = .slice p n c ∧ n ≤ maxLen := by
  rcases h with ⟨rfl, rfl⟩ | ⟨a, cap, rfl, h1, h2, _⟩
  · exact ⟨none, 0, rfl, Nat.zero_le _⟩
  · exact ⟨some a, cap, rfl, Nat.le_trans h1 h2⟩
theorem GridAt.cells {w : World} {p : Option Addr} {c m n : Nat} {f : Nat → Nat → Int} (h : GridAt w (.slice p n c) m n f) {i : Nat} (hi : i < n) (hm : 0 < m) :
    ∃ ab ao, p = some ⟨ab, ao, none⟩ ∧ ab < w.heap.size ∧ ∀ j, j < m → w.cell? ⟨ab, ao + (i * m + j), none⟩ = some (.int .i64 (f i j)) := by
  rcases h with ⟨_, rfl⟩ | ⟨⟨ab, ao, asp⟩, cap, e, _, _, h3⟩
  · omega
  · cases e
    obtain ⟨h0, hb⟩ := h3 0 (by omega) 0 hm
    have hsp : asp = none := by simpa [Addr.add] using World.cell?_spot h0
    subst hsp
    refine ⟨ab, ao, rfl, hb, fun j hj => ?_⟩
    have := (h3 i hi j hj).1
    unfold Addr.add at this
    split at this
    · next h => rw [h]; simpa using this
    · simpa using this

section
variable {H : Type} {enc : TypeId × Value → H} {P : Program} {w : World} {base : Nat} {spare : Nat → Bool} {held : Bool}
theorem open_slice_fields {t e : TypeId} {fs : Array Field} {fuel : Nat} {cs : List Value} {x : DataW H × List MemPlace} (ht : P.underlying t = some (.slice e)) (he : P.underlying e = some (.struct fs))
    (hone : oneCellFields P fs = true) (hC : P.cellsOf e = fs.size) (h : DataW.trod enc P w base spare held fuel t cs = some x) :
    (cs = [.slice none 0 0] ∧ x = (.nil, [])) ∨
    ∃ (a : Addr) (len cap m : Nat), cs = [.slice (some a) len cap] ∧ base ≤ a.block ∧ len ≤ cap ∧ cap ≤ maxLen ∧ m = (if spare a.block then cap else len) ∧
      ∀ i, i < m → ∀ (j : Nat) (f : Field), fs[j]? = some f → ∃ (v : Value) (y : DataW H × List MemPlace) (n : Nat), w.cell? (a.add (i * fs.size + j)) = some v ∧ DataW.trod enc P w base spare held n f.type [v] = some y := by
  rcases Go.Deep.open_slice ht h with h0 | ⟨a, len, cap, m, n, D, Pl, hcs, hb, hl, hm, hmm, hx, hi⟩
  · exact .inl h0
  · refine .inr ⟨a, len, cap, m, hcs, hb, hl, hm, hmm, fun i him j f hj => ?_⟩
    obtain ⟨cs', hc, ht'⟩ := hi i him
    rw [hC] at hc
    obtain ⟨ys, n', hn', hy, hlen, hyl, hf⟩ := DataW.trod_struct he ht'
    obtain ⟨_, hcl, hat⟩ := World.cells?_some hc
    obtain ⟨ho, hk⟩ := Go.Deep.hone_of hone j f hj
    have hjl : j < fs.size := (Array.getElem?_eq_some_iff.1 hj).1
    have hcell := hat j hjl
    have hv : cs'[j]? = some (cs'[j]'(by omega)) := List.getElem?_eq_getElem (by omega)
    have h1 := hf j f hj
    rw [ho, hk] at h1
    have hone' : (cs'.drop j).take 1 = [cs'[j]'(by omega)] := by
      rw [List.drop_eq_getElem_cons (by omega)]
      rfl
    rw [hone'] at h1
    have hys : ys[j]? = some (ys[j]'(by omega)) := List.getElem?_eq_getElem (by omega)
    refine ⟨_, _, _, ?_, h1.trans hys⟩
    rw [← Go.Deep.add_add, hcell, hv]
end
section
variable {H : Type} {enc : TypeId × Value → H} {w : World} {base : Nat} {d : DataW H} {ps : List MemPlace} {v : Value} {t e : TypeId}
theorem cell_in {w : World} {a : Addr} {x : Value} (h : w.cell? a = some x) : a.block < w.heap.size := by
  rcases Nat.lt_or_ge a.block w.heap.size with hb | hb
  · exact hb
  · simp [World.cell?, Array.getElem?_eq_none hb] at h
/-- a slice of structs of whole numbers -/
theorem open_grid {fs : Array Field} (ht : Try.prog.underlying t = some (.slice e)) (he : Try.prog.underlying e = some (.struct fs)) (hone : oneCellFields Try.prog fs = true) (hC : Try.prog.cellsOf e = fs.size)
    (hk : ∀ f ∈ fs.toList, Try.prog.underlying f.type = some (.int .i64))
    (hval : Value.okWide Try.prog w .any base t v) (h : DataW.Trod enc Try.prog w 0 (fun _ => true) true t v d ps) :
    ∃ n f p c, v = .slice p n c ∧ GridAt w v fs.size n f ∧ ∀ i, i < n → ∀ j, j < fs.size → (Lit.int .i64 (f i j)).wf = true := by
  obtain ⟨a0, len, cap, rfl⟩ := okWide_slice ht hval
  obtain ⟨fuel, hfu⟩ := h
  rcases open_slice_fields ht he hone hC hfu with ⟨hcs, _⟩ | ⟨a, len', cap', m, hcs, _, hl, hm, hmm, hx⟩
  · simp [Value.cells] at hcs
    obtain ⟨rfl, rfl, rfl⟩ := hcs
    exact ⟨0, fun _ _ => 0, none, 0, rfl, .inl ⟨rfl, rfl⟩, fun i hi => by omega⟩
  · simp [Value.cells] at hcs
    obtain ⟨rfl, rfl, rfl⟩ := hcs
    rw [if_pos rfl] at hmm
    subst hmm
    have each : ∀ i, i < len → ∀ j, j < fs.size → ∃ z, w.cell? (a.add (i * fs.size + j)) = some (.int .i64 z) ∧ (Lit.int .i64 z).wf = true := by
      intro i hi j hj
      obtain ⟨v, y, n, h1, h2⟩ := hx i (by omega) j fs[j] (Array.getElem?_eq_getElem hj)
      obtain ⟨z, h3, _, hw⟩ := DataW.trod_int (hk fs[j] (by simp)) h2
      simp at h3
      exact ⟨z, by rw [h1, h3], hw⟩
    refine ⟨len, fun i j => match w.cell? (a.add (i * fs.size + j)) with | some (.int .i64 z) => z | _ => 0, some a, _, rfl, .inr ⟨a, _, rfl, hl, hm, fun i hi j hj => ?_⟩, fun i hi j hj => ?_⟩
    · obtain ⟨z, h1, h2⟩ := each i hi j hj
      have hb := cell_in h1
      have e : (a.add (i * fs.size + j)).block = a.block := by unfold Addr.add; split <;> rfl
      rw [e] at hb
      exact ⟨by simp only [h1], hb⟩
    · obtain ⟨z, h1, h2⟩ := each i hi j hj
      simpa only [h1] using h2
end
end Go.Proofs.Ytngfnigfkabihaa
