/-
  Bounds and limits, as functions of integers: how far a count may go, what comes of a want; counts that are kept. No condition. Nothing of the program is named here.
-/
import Derived.Test.YtmhpldnmapjghaaCaP
set_option linter.unusedSimpArgs false
set_option linter.unusedVariables false
namespace Go.Proofs.Ytmhpldnmapjghaa
set_option maxRecDepth 100000
open Go.RowKit

/-- rates: replicas and hundredths up, the same down, the period, the least, the most -/
structure Rt where
  pu : Int
  cu : Int
  pd : Int
  cd : Int
  per : Int
  mn : Int
  mx : Int
structure Rt.Ok (r : Rt) : Prop where
  pu : 1 ≤ r.pu ∧ r.pu ≤ 1000
  cu : 1 ≤ r.cu ∧ r.cu ≤ 1000
  pd : 1 ≤ r.pd ∧ r.pd ≤ 1000
  cd : 1 ≤ r.cd ∧ r.cd ≤ 100
  per : 1 ≤ r.per ∧ r.per ≤ 60
  mn : 1 ≤ r.mn ∧ r.mn ≤ 10000
  mx : r.mn ≤ r.mx ∧ r.mx ≤ 10000
def Rt.may (r : Rt) : Bool := decide (1 ≤ r.pu ∧ r.pu ≤ 1000) && decide (1 ≤ r.cu ∧ r.cu ≤ 1000) && decide (1 ≤ r.pd ∧ r.pd ≤ 1000) && decide (1 ≤ r.cd ∧ r.cd ≤ 100) && decide (1 ≤ r.per ∧ r.per ≤ 60) && decide (1 ≤ r.mn ∧ r.mn ≤ 10000) && decide (r.mn ≤ r.mx ∧ r.mx ≤ 10000)
theorem Rt.may_iff {r : Rt} : r.may = true ↔ r.Ok := by
  unfold Rt.may
  simp only [Bool.and_eq_true, decide_eq_true_eq]
  exact ⟨fun h => ⟨h.1.1.1.1.1.1, h.1.1.1.1.1.2, h.1.1.1.1.2, h.1.1.1.2, h.1.1.2, h.1.2, h.2⟩, fun h => ⟨⟨⟨⟨⟨⟨h.pu, h.cu⟩, h.pd⟩, h.cd⟩, h.per⟩, h.mn⟩, h.mx⟩⟩
def Rt.hi (r : Rt) (b : Int) : Int := max (b + r.pu) ((b * (100 + r.cu) + 99) / 100)
def Rt.lo (r : Rt) (b : Int) : Int := max (min (b - r.pd) (b * (100 - r.cd) / 100)) 0
def Rt.bounds (r : Rt) (b : Int) : Int × Int := if r.may = true ∧ 0 ≤ b ∧ b ≤ 10000 then (r.lo b, r.hi b) else (0, 0)
def Rt.lim (r : Rt) (b w : Int) : Int := min (max (min (max w (r.lo b)) (r.hi b)) r.mn) r.mx
section
variable {r : Rt} {a b v w : Int}
/-- no product is great -/
theorem Rt.small (h : r.Ok) (h0 : 0 ≤ b) (h1 : b ≤ 10000) : (0 ≤ b * (100 + r.cu) ∧ b * (100 + r.cu) ≤ 11000000) ∧ (0 ≤ b * (100 - r.cd) ∧ b * (100 - r.cd) ≤ 990000) := by
  have c1 := h.cu; have c2 := h.cd
  have e1 : b * (100 + r.cu) ≤ 10000 * 1100 := Int.mul_le_mul h1 (by omega) (by omega) (by omega)
  have e2 : b * (100 - r.cd) ≤ 10000 * 99 := Int.mul_le_mul h1 (by omega) (by omega) (by omega)
  exact ⟨⟨Int.mul_nonneg h0 (by omega), by omega⟩, ⟨Int.mul_nonneg h0 (by omega), by omega⟩⟩
theorem Rt.lo_le (h : r.Ok) (h0 : 0 ≤ b) : 0 ≤ r.lo b ∧ r.lo b ≤ b := by
  have := h.pd
  unfold Rt.lo; omega
theorem Rt.hi_ge (h : r.Ok) : b + 1 ≤ r.hi b := by
  have := h.pu
  unfold Rt.hi; omega
theorem Rt.hi_le (h : r.Ok) (h0 : 0 ≤ b) (h1 : b ≤ 10000) : r.hi b ≤ 110001 := by
  have := h.pu; have := (Rt.small h h0 h1).1
  unfold Rt.hi; omega
theorem Rt.lo_mono (h : r.Ok) (hab : a ≤ b) : r.lo a ≤ r.lo b := by
  have := h.cd
  have e : a * (100 - r.cd) ≤ b * (100 - r.cd) := Int.mul_le_mul_of_nonneg_right hab (by omega)
  have := Int.ediv_le_ediv (show (0 : Int) < 100 by decide) e
  unfold Rt.lo; omega
theorem Rt.hi_mono (h : r.Ok) (hab : a ≤ b) : r.hi a ≤ r.hi b := by
  have := h.cu
  have e : a * (100 + r.cu) ≤ b * (100 + r.cu) := Int.mul_le_mul_of_nonneg_right hab (by omega)
  have := Int.ediv_le_ediv (show (0 : Int) < 100 by decide) (show a * (100 + r.cu) + 99 ≤ b * (100 + r.cu) + 99 by omega)
  unfold Rt.hi; omega
theorem Rt.lim_in (h : r.Ok) : r.mn ≤ r.lim b w ∧ r.lim b w ≤ r.mx := by
  have := h.mx
  unfold Rt.lim; omega
theorem Rt.lim_mono (h : r.Ok) (hab : a ≤ b) (hvw : v ≤ w) : r.lim a v ≤ r.lim b w := by
  have h1 := Rt.lo_mono h hab; have h2 := Rt.hi_mono h hab
  unfold Rt.lim; omega
/-- within all a want stays; between the bounds, if these let it; a limit stays -/
theorem Rt.lim_id (h1 : r.lo b ≤ w) (h2 : w ≤ r.hi b) (h3 : r.mn ≤ w) (h4 : w ≤ r.mx) : r.lim b w = w := by unfold Rt.lim; omega
theorem Rt.lim_between (h : r.Ok) (h0 : r.mn ≤ b) (h1 : b ≤ r.mx) : min (r.lo b) b ≤ r.lim b w ∧ r.lim b w ≤ max (r.hi b) b ∧ r.lo b ≤ r.lim b w ∧ r.lim b w ≤ r.hi b := by
  have h2 := (Rt.lo_le (b := b) h (by have := h.mn; omega)).2; have h3 := Rt.hi_ge (b := b) h
  unfold Rt.lim; omega
theorem Rt.lim_lim (h : r.Ok) (h0 : r.mn ≤ b) (h1 : b ≤ r.mx) : r.lim b (r.lim b w) = r.lim b w := by
  have h2 := Rt.lim_between (w := w) h h0 h1; have h3 := Rt.lim_in (b := b) (w := w) h
  exact Rt.lim_id h2.2.2.1 h2.2.2.2 h3.1 h3.2
end
/-- counts that are kept: the rates, the counts, the oldest first -/
structure Po where
  r : Rt
  l : List Int
structure Po.Ok (p : Po) : Prop where
  r : p.r.Ok
  ne : p.l ≠ []
  n : (p.l.length : Int) ≤ p.r.per
  m : ∀ x ∈ p.l, p.r.mn ≤ x ∧ x ≤ p.r.mx
def Po.base (p : Po) : Int := p.l.headD 0
def Po.in (p : Po) (x : Int) : Bool := decide (p.r.mn ≤ x) && decide (x ≤ p.r.mx)
def Po.put (p : Po) (x : Int) : Int × Po := if p.in x then (0, { p with l := lastL (p.l ++ [x]) p.r.per.toNat }) else (1, p)
def Po.lim (p : Po) (w : Int) : Int := p.r.lim p.base w
def Po.mayset (p : Po) (l : List Int) : Bool := l.all p.in && decide (1 ≤ l.length) && decide ((l.length : Int) ≤ p.r.per)
def Po.set (p : Po) (l : List Int) : Int × Po := if p.mayset l then (0, { p with l := l }) else (1, p)
theorem Po.in_iff {p : Po} {x : Int} : p.in x = true ↔ p.r.mn ≤ x ∧ x ≤ p.r.mx := by unfold Po.in; simp only [Bool.and_eq_true, decide_eq_true_eq]
theorem Po.base_in {p : Po} (h : p.Ok) : p.r.mn ≤ p.base ∧ p.base ≤ p.r.mx := h.m _ (head_mem h.ne)
theorem Po.put_yes {p : Po} {x : Int} (h : p.in x = true) : p.put x = (0, { p with l := lastL (p.l ++ [x]) p.r.per.toNat }) := if_pos h
theorem Po.put_no {p : Po} {x : Int} (h : p.in x = false) : p.put x = (1, p) := if_neg (by rw [h]; decide)
theorem Po.put_ok {p : Po} (h : p.Ok) (x : Int) : (p.put x).2.Ok := by
  cases hi : p.in x with
  | false => rw [Po.put_no hi]; exact h
  | true =>
    rw [Po.put_yes hi]
    have hp := h.r.per
    refine ⟨h.r, lastL_ne (by simp) (by omega), ?_, fun y hy => ?_⟩
    · show ((lastL (p.l ++ [x]) p.r.per.toNat).length : Int) ≤ p.r.per
      rw [lastL_len]; omega
    · rcases List.mem_append.1 (lastL_mem hy) with hy | hy
      · exact h.m y hy
      · rw [List.mem_singleton.1 hy]; exact Po.in_iff.1 hi
theorem Po.set_ok {p : Po} (h : p.Ok) (l : List Int) : (p.set l).2.Ok := by
  unfold Po.set
  split
  · next hm =>
    unfold Po.mayset at hm
    simp only [Bool.and_eq_true, decide_eq_true_eq, List.all_eq_true] at hm
    exact ⟨h.r, fun e => by have h2 := hm.1.2; rw [show l = [] from e] at h2; simp at h2, hm.2, fun x hx => Po.in_iff.1 (hm.1.1 x hx)⟩
  · exact h
theorem Po.new_ok {r : Rt} (h : r.Ok) {x : Int} (h0 : r.mn ≤ x) (h1 : x ≤ r.mx) : (Po.mk r [x]).Ok := by
  have hp := h.per
  refine ⟨h, by simp, by show ((1 : Nat) : Int) ≤ r.per; omega, fun y hy => ?_⟩
  rw [List.mem_singleton.1 hy]; exact ⟨h0, h1⟩
theorem Po.lim_in {p : Po} (h : p.Ok) (w : Int) : p.in (p.lim w) = true := Po.in_iff.2 (Rt.lim_in h.r)
/-- of greater counts before, and a greater want, there comes no lesser limit -/
theorem under_head {A B : List Int} (h : Under A B) (hA : A ≠ []) : A.headD 0 ≤ B.headD 0 := by
  have hB : B ≠ [] := fun e => by have := h.1; rw [e] at this; exact hA (List.length_eq_zero_iff.1 this)
  cases A with
  | nil => exact absurd rfl hA
  | cons a s =>
    cases B with
    | nil => exact absurd rfl hB
    | cons b t => exact h.2 0 a b rfl rfl
theorem Po.lim_mono {p s : Po} (hp : p.Ok) (hr : p.r = s.r) (h : Under p.l s.l) {v w : Int} (hvw : v ≤ w) : p.lim v ≤ s.lim w := by
  unfold Po.lim
  rw [← hr]
  exact Rt.lim_mono hp.r (under_head h hp.ne) hvw
theorem Po.put_under {p s : Po} (hr : p.r = s.r) (h : Under p.l s.l) {x y : Int} (hx : p.in x = true) (hy : s.in y = true) (hxy : x ≤ y) : Under (p.put x).2.l (s.put y).2.l := by
  rw [Po.put_yes hx, Po.put_yes hy]
  show Under (lastL (p.l ++ [x]) p.r.per.toNat) (lastL (s.l ++ [y]) s.r.per.toNat)
  rw [hr]
  exact (h.snoc hxy).last _
end Go.Proofs.Ytmhpldnmapjghaa
