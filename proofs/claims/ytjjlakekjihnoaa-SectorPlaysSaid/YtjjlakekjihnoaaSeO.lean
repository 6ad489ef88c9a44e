/-
  The steps of the law SectorPlays that came in: a slice of structs of three whole numbers, a byte and a slice of bytes. No condition. Nothing of the program's functions is named here.
-/
import Derived.Test.YtjjlakekjihnoaaByo
import Derived.Test.YtjjlakekjihnoaaU8
import Derived.Test.YtjjlakekjihnoaaChg
import Derived.Deep.Slices
import Derived.Deep.Fields
import Derived.ChangeSame
set_option linter.unusedVariables false
namespace Go.Proofs.Ytjjlakekjihnoaa
set_option maxRecDepth 100000
open Go.ChangeShapes Go.WideShapes Go.ChangeAt Go.RowKit Go.Deep

/-- a step: its kind, where, a number, a byte, bytes -/
structure OpV where
  kind : Int
  pl : Int
  nn : Int
  c : UInt8
  raw : Value
  l : List UInt8
@[reducible] def OpV.cells (o : OpV) : Array Value := #[.int .i64 o.kind, .int .i64 o.pl, .int .i64 o.nn, bv o.c, o.raw]
/-- a slice that reads as n steps -/
def OpsB (w : World) (v : Value) (n : Nat) (f : Nat → OpV) : Prop :=
  (v = .slice none 0 0 ∧ n = 0) ∨ ∃ a cap, v = .slice (some a) n cap ∧ n ≤ cap ∧ cap ≤ maxLen ∧ ∀ i, i < n → (∀ j (hj : j < 5), w.cell? (a.add (i * 5 + j)) = some ((f i).cells[j]'hj)) ∧ BytesAt w (f i).raw (f i).l
theorem OpsB.grown {w w' : World} {v : Value} {n : Nat} {f : Nat → OpV} (h : OpsB w v n f) (hg : w.grownBy w' none) : OpsB w' v n f := by
  rcases h with h | ⟨a, cap, rfl, h1, h2, h3⟩
  · exact .inl h
  · exact .inr ⟨a, cap, rfl, h1, h2, fun i hi => ⟨fun j hj => hg.cell ((h3 i hi).1 j hj) (by simp), (h3 i hi).2.grown hg (by simp)⟩⟩
theorem OpsB.form {w : World} {v : Value} {n : Nat} {f : Nat → OpV} (h : OpsB w v n f) : ∃ p c, v = .slice p n c ∧ n ≤ maxLen := by
  rcases h with ⟨rfl, rfl⟩ | ⟨a, cap, rfl, h1, h2, _⟩
  · exact ⟨none, 0, rfl, Nat.zero_le _⟩
  · exact ⟨some a, cap, rfl, Nat.le_trans h1 h2⟩
theorem OpsB.cells {w : World} {p : Option Addr} {c n : Nat} {f : Nat → OpV} (h : OpsB w (.slice p n c) n f) {i : Nat} (hi : i < n) :
    ∃ ab ao, p = some ⟨ab, ao, none⟩ ∧ n ≤ c ∧ (∀ j (hj : j < 5), w.cell? ⟨ab, ao + i * 5 + j, none⟩ = some ((f i).cells[j]'hj)) ∧ BytesAt w (f i).raw (f i).l := by
  rcases h with ⟨_, rfl⟩ | ⟨⟨ab, ao, asp⟩, cap, e, h1, _, h3⟩
  · omega
  · cases e
    have h0 := (h3 0 (by omega)).1 0 (by decide)
    have hsp : asp = none := by simpa [Addr.add] using World.cell?_spot h0
    subst hsp
    refine ⟨ab, ao, rfl, h1, fun j hj => ?_, (h3 i hi).2⟩
    have := (h3 i hi).1 j hj
    rw [Nat.add_assoc]
    unfold Addr.add at this
    split at this
    · next h => rw [h]; simpa using this
    · simpa using this
section
variable {H : Type} {enc : TypeId × Value → H} {P : Program} {w : World} {base : Nat} {spare : Nat → Bool} {held : Bool}
theorem open_fields {t e : TypeId} {fs : Array Field} {fuel : Nat} {cs : List Value} {x : DataW H × List MemPlace} (ht : P.underlying t = some (.slice e)) (he : P.underlying e = some (.struct fs))
    (hone : oneCellFields P fs = true) (hC : P.cellsOf e = fs.size) (h : DataW.trod enc P w base spare held fuel t cs = some x) :
    (cs = [.slice none 0 0] ∧ x = (.nil, [])) ∨
    ∃ (a : Addr) (len cap m : Nat), cs = [.slice (some a) len cap] ∧ base ≤ a.block ∧ len ≤ cap ∧ cap ≤ maxLen ∧ m = (if spare a.block then cap else len) ∧
      ∀ i, i < m → ∀ (j : Nat) (f : Field), fs[j]? = some f → ∃ (v : Value) (y : DataW H × List MemPlace) (n : Nat), w.cell? (a.add (i * fs.size + j)) = some v ∧ DataW.trod enc P w base spare held n f.type [v] = some y := by
  rcases Go.Deep.open_slice ht h with h0 | ⟨a, len, cap, m, n, D, Pl, hcs, hb, hl, hm, hmm, hx, hi⟩
  · exact .inl h0
  · refine .inr ⟨a, len, cap, m, hcs, hb, hl, hm, hmm, fun i him j f hj => ?_⟩
    obtain ⟨cs', hc, ht'⟩ := hi i him
    rw [hC] at hc
    obtain ⟨ys, n', hn', hy, hlen, hyl, hf⟩ := DataW.trod_struct he ht'
    obtain ⟨_, hcl, hat⟩ := World.cells?_some hc
    obtain ⟨ho, hk⟩ := Go.Deep.hone_of hone j f hj
    have hjl : j < fs.size := (Array.getElem?_eq_some_iff.1 hj).1
    have hcell := hat j hjl
    have hv : cs'[j]? = some (cs'[j]'(by omega)) := List.getElem?_eq_getElem (by omega)
    have h1 := hf j f hj
    rw [ho, hk] at h1
    have hone' : (cs'.drop j).take 1 = [cs'[j]'(by omega)] := by
      rw [List.drop_eq_getElem_cons (by omega)]
      rfl
    rw [hone'] at h1
    have hys : ys[j]? = some (ys[j]'(by omega)) := List.getElem?_eq_getElem (by omega)
    refine ⟨_, _, _, ?_, h1.trans hys⟩
    rw [← Go.Deep.add_add, hcell, hv]
/-- a slice of bytes among other cells -/
theorem bytes_cell {v : Value} {n : Nat} {y : DataW H × List MemPlace} {t e : TypeId} (ht : P.underlying t = some (.slice e)) (he : P.underlying e = some (.int .u8)) (hc : P.cellsOf e = 1)
    (h : DataW.trod enc P w base (fun _ => true) held n t [v] = some y) : ∃ l : List UInt8, BytesAt w v l := by
  rcases open_ints ht he hc h with ⟨hcs, _⟩ | ⟨a, len, cap, zs, hcs, _, hl, hm, hz, _, hcell, hwz⟩
  · cases hcs
    exact ⟨[], .inl ⟨rfl, rfl⟩⟩
  · cases hcs
    obtain ⟨l, hl1, hl2⟩ := bytes_of hl hm (by simpa using hz) hcell hwz
    exact ⟨l, hl2⟩
theorem int_cell {v : Value} {n : Nat} {y : DataW H × List MemPlace} {t : TypeId} {k : IntKind} (ht : P.underlying t = some (.int k)) (h : DataW.trod enc P w base spare held n t [v] = some y) : ∃ z : Int, v = .int k z ∧ (Lit.int k z).wf = true := by
  obtain ⟨z, hz, _, hw⟩ := DataW.trod_int ht h
  cases hz
  exact ⟨z, rfl, hw⟩
end
section
variable {H : Type} {enc : TypeId × Value → H} {w : World} {base : Nat} {d : DataW H} {ps : List MemPlace} {v : Value} {t : TypeId}
theorem op_one : ∀ (fs : Array Field), Try.prog.underlying 38 = some (.struct fs) → oneCellFields Try.prog fs = true ∧ fs.size = 5 ∧ Try.prog.cellsOf 38 = fs.size ∧
    fs.toList.map (·.type) = [3, 3, 3, 5, 27] := by
  intro fs h
  rw [Try.underlying38] at h
  cases h
  refine ⟨?_, ?_, ?_, ?_⟩ <;> kernel_rfl
/-- a slice of steps -/
theorem open_ops (ht : Try.prog.underlying t = some (.slice 38)) (hval : Value.okWide Try.prog w .any base t v) (h : DataW.Trod enc Try.prog w 0 (fun _ => true) true t v d ps) :
    ∃ n f p c, v = .slice p n c ∧ OpsB w v n f := by
  obtain ⟨a0, len, cap, rfl⟩ := okWide_slice ht hval
  obtain ⟨fuel, hfu⟩ := h
  obtain ⟨fs, hfs⟩ : ∃ fs, Try.prog.underlying 38 = some (.struct fs) := ⟨_, Try.underlying38⟩
  obtain ⟨h1, h5, h2, h3⟩ := op_one fs hfs
  rcases open_fields ht hfs h1 h2 hfu with ⟨hcs, _⟩ | ⟨a, len', cap', m, hcs, _, hl, hm, hmm, hx⟩
  · simp [Value.cells] at hcs
    obtain ⟨rfl, rfl, rfl⟩ := hcs
    exact ⟨0, fun _ => ⟨0, 0, 0, 0, .slice none 0 0, []⟩, none, 0, rfl, .inl ⟨rfl, rfl⟩⟩
  · simp [Value.cells] at hcs
    obtain ⟨rfl, rfl, rfl⟩ := hcs
    rw [if_pos rfl] at hmm
    subst hmm
    have ty : ∀ j (hj : j < 5), ∃ f, fs[j]? = some f ∧ some f.type = [3, 3, 3, 5, 27][j]? := fun j hj => by
      refine ⟨fs[j]'(by omega), Array.getElem?_eq_getElem (by omega), ?_⟩
      rw [← h3, List.getElem?_map, Array.getElem?_toList, Array.getElem?_eq_getElem (by omega)]; rfl
    have each : ∀ i, i < len → ∃ o : OpV, (∀ j (hj : j < 5), w.cell? (a.add (i * 5 + j)) = some (o.cells[j]'hj)) ∧ BytesAt w o.raw o.l := fun i hi => by
      have get : ∀ j (hj : j < 5) (t : TypeId), [3, 3, 3, 5, 27][j]? = some t → ∃ v n y, w.cell? (a.add (i * 5 + j)) = some v ∧ DataW.trod enc Try.prog w 0 (fun _ => true) true n t [v] = some y := fun j hj t e => by
        obtain ⟨f, hf, hft⟩ := ty j hj
        obtain ⟨v, y, n, k1, k2⟩ := hx i (by omega) j f hf
        rw [e] at hft
        cases hft
        rw [h5] at k1
        exact ⟨v, n, y, k1, k2⟩
      obtain ⟨v0, n0, y0, a0, b0⟩ := get 0 (by decide) _ rfl
      obtain ⟨v1, n1, y1, a1, b1⟩ := get 1 (by decide) _ rfl
      obtain ⟨v2, n2, y2, a2, b2⟩ := get 2 (by decide) _ rfl
      obtain ⟨v3, n3, y3, a3, b3⟩ := get 3 (by decide) _ rfl
      obtain ⟨v4, n4, y4, a4, b4⟩ := get 4 (by decide) _ rfl
      obtain ⟨z0, rfl, _⟩ := int_cell Try.underlying3 b0
      obtain ⟨z1, rfl, _⟩ := int_cell Try.underlying3 b1
      obtain ⟨z2, rfl, _⟩ := int_cell Try.underlying3 b2
      obtain ⟨z3, rfl, wf3⟩ := int_cell Try.underlying5 b3
      obtain ⟨c, rfl⟩ := u8_of wf3
      obtain ⟨l, hl4⟩ := bytes_cell Try.underlying27 Try.underlying5 (by kernel_rfl) b4
      refine ⟨⟨z0, z1, z2, c, v4, l⟩, fun j hj => ?_, hl4⟩
      have : j = 0 ∨ j = 1 ∨ j = 2 ∨ j = 3 ∨ j = 4 := by omega
      rcases this with rfl | rfl | rfl | rfl | rfl
      · exact a0
      · exact a1
      · exact a2
      · exact a3
      · exact a4
    obtain ⟨f, hf⟩ : ∃ f : Nat → OpV, ∀ i, i < len → (∀ j (hj : j < 5), w.cell? (a.add (i * 5 + j)) = some ((f i).cells[j]'hj)) ∧ BytesAt w (f i).raw (f i).l := by
      refine ⟨fun i => if hi : i < len then (each i hi).choose else ⟨0, 0, 0, 0, .slice none 0 0, []⟩, fun i hi => ?_⟩
      simp only [dif_pos hi]
      exact (each i hi).choose_spec
    exact ⟨len, f, some a, _, rfl, .inr ⟨a, _, rfl, hl, hm, hf⟩⟩
end
end Go.Proofs.Ytjjlakekjihnoaa
