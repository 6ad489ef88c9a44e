/-
  Where the mean, the span and the median of some numbers lie; with a few of them put in place of others; with greater ones. The plain part. No condition. Nothing of the program is named here.
-/
import Derived.Test.YtogmibmkkmbgoaaTm
set_option linter.unusedSimpArgs false
set_option linter.unusedVariables false
namespace Go.Proofs.Ytogmibmkkmbgoaa
set_option maxRecDepth 100000

theorem ms_mono {l : List Int} {i j : Nat} {x y : Int} (hx : (ms l)[i]? = some x) (hy : (ms l)[j]? = some y) (hij : i ≤ j) : x ≤ y := by
  obtain ⟨h1, rfl⟩ := List.getElem?_eq_some_iff.1 hx
  obtain ⟨h2, rfl⟩ := List.getElem?_eq_some_iff.1 hy
  exact ms_le hij h2
/-- at most n of them lie: those that are left are no less than all that do not, and no greater -/
theorem liar_low {B G : List Int} {n k : Nat} {X z : Int} (hB : B.length ≤ n) (hk : n ≤ k) (hX : ∀ x ∈ G, X ≤ x) (hz : (ms (B ++ G))[k]? = some z) : X ≤ z := by
  obtain ⟨hk', rfl⟩ := List.getElem?_eq_some_iff.1 hz
  by_cases h : (ms (B ++ G))[k] < X
  · have h1 := rk_above (B ++ G) k hk' X h
    rw [rk_append, rk_zero hX] at h1
    have h2 := rk_le B X
    omega
  · omega
theorem liar_high {B G : List Int} {n k : Nat} {Y z : Int} (hB : B.length ≤ n) (hk : k < (B ++ G).length - n) (hY : ∀ x ∈ G, x ≤ Y) (hz : (ms (B ++ G))[k]? = some z) : z ≤ Y := by
  obtain ⟨hk', rfl⟩ := List.getElem?_eq_some_iff.1 hz
  by_cases h : Y < (ms (B ++ G))[k]
  · have h1 := rk_kth (B ++ G) k hk'
    generalize (ms (B ++ G))[k] = v at *
    rw [rk_append, rk_all (l := G) (v := v) fun x hx => by have := hY x hx; omega] at h1
    rw [List.length_append] at hk
    omega
  · omega
theorem mean_between {m : List Int} {x y : Int} (hp : 0 < m.length) (h : ∀ z ∈ m, x ≤ z ∧ z ≤ y) : x ≤ m.sum / (m.length : Int) ∧ m.sum / (m.length : Int) ≤ y := by
  have h1 := le_sum (l := m) (c := x) fun z hz => (h z hz).1
  have h2 := sum_le (l := m) (c := y) fun z hz => (h z hz).2
  have hpos : (0 : Int) < (m.length : Int) := by omega
  exact ⟨(Int.le_ediv_iff_mul_le hpos).2 h1, by
    have := Int.ediv_le_ediv hpos h2
    rwa [Int.mul_ediv_cancel _ (by omega)] at this⟩
/-- all that is told of some numbers -/
theorem told_of {l : List Int} {k : Nat} (hm : mayL l = true) (h : 2 * k + 1 ≤ l.length) :
    ∃ q x y d, meanL (midL l (k : Int)) = (q, true) ∧ spanL (midL l (k : Int)) = (x, y, true) ∧ medOf l = (d, true) ∧ (ms l)[k]? = some x ∧ (ms l)[l.length - 1 - k]? = some y ∧ (ms l)[(l.length - 1) / 2]? = some d ∧
      x ≤ q ∧ q ≤ y ∧ x ≤ d ∧ d ≤ y ∧ x ≤ y ∧ q = (cutL l k).sum / ((l.length - k - k : Nat) : Int) := by
  have hl := ms_len l
  have x1 := List.getElem?_eq_getElem (show k < (ms l).length by omega)
  have x2 := List.getElem?_eq_getElem (show l.length - 1 - k < (ms l).length by omega)
  have x3 := List.getElem?_eq_getElem (show (l.length - 1) / 2 < (ms l).length by omega)
  generalize (ms l)[k]'(show k < (ms l).length by omega) = x at x1
  generalize (ms l)[l.length - 1 - k]'(show l.length - 1 - k < (ms l).length by omega) = y at x2
  generalize (ms l)[(l.length - 1) / 2]'(show (l.length - 1) / 2 < (ms l).length by omega) = d at x3
  have hC := cutL_len l k
  have hb : ∀ z ∈ cutL l k, x ≤ z ∧ z ≤ y := by
    intro z hz
    obtain ⟨i, hi, rfl⟩ := List.mem_iff_getElem.1 hz
    have e := cutL_get l k i (by omega)
    rw [List.getElem?_eq_getElem hi] at e
    exact ⟨ms_mono x1 e.symm (by omega), ms_mono e.symm x2 (by omega)⟩
  have hq := mean_between (m := cutL l k) (by omega) hb
  have hmid : midL l (k : Int) = cutL l k := midL_in ⟨hm, by omega, by omega⟩
  refine ⟨(cutL l k).sum / ((cutL l k).length : Int), x, y, d, ?_, ?_, ?_, x1, x2, x3, hq.1, hq.2, ms_mono x1 x3 (by omega), ms_mono x3 x2 (by omega), ms_mono x1 x2 (by omega), by rw [hC]⟩
  · rw [hmid]; exact meanL_in (by omega) rfl
  · rw [hmid]; exact spanL_in (by omega) (by rw [cutL_get l k 0 (by omega)]; exact x1) (by rw [hC, cutL_get l k _ (by omega), show k + (l.length - k - k - 1) = l.length - 1 - k by omega]; exact x2)
  · unfold medOf
    rw [if_pos hm, show ((l.length : Int) - 1).tdiv 2 = (((l.length - 1) / 2 : Nat) : Int) by rw [Int.tdiv_eq_ediv_of_nonneg (by omega)]; omega, atOf_in _ _ (by omega)]
    rw [(List.getElem?_eq_some_iff.1 x3).2]
/-- of greater numbers each place is greater -/
def Below (a b : List Int) : Prop := a.length = b.length ∧ ∀ (i : Nat) (x y : Int), a[i]? = some x → b[i]? = some y → x ≤ y
theorem rk_below : ∀ (a b : List Int), Below a b → ∀ v, rk b v ≤ rk a v := by
  intro a
  induction a with
  | nil => intro b h v; obtain rfl : b = [] := List.eq_nil_of_length_eq_zero h.1.symm; exact Nat.le_refl _
  | cons x a ih =>
    intro b h v
    cases b with
    | nil => have := h.1; simp at this
    | cons y b =>
      have h1 := ih b ⟨by have := h.1; simpa using this, fun i x y hx hy => h.2 (i + 1) x y (by simpa using hx) (by simpa using hy)⟩ v
      have h2 := h.2 0 x y (by simp) (by simp)
      have e1 := rk_append [x] a v
      have e2 := rk_append [y] b v
      rw [rk_one] at e1 e2
      simp only [List.cons_append, List.nil_append] at e1 e2
      rw [e1, e2]
      by_cases hx : x < v <;> by_cases hy : y < v <;> simp only [hx, hy, if_true, if_false] <;> omega
theorem ms_below {a b : List Int} (h : Below a b) : Below (ms a) (ms b) := by
  refine ⟨by rw [ms_len, ms_len]; exact h.1, fun i x y hx hy => ?_⟩
  obtain ⟨h1, rfl⟩ := List.getElem?_eq_some_iff.1 hx
  obtain ⟨h2, rfl⟩ := List.getElem?_eq_some_iff.1 hy
  by_cases hlt : (ms b)[i] < (ms a)[i]
  · have q1 := rk_above b i h2 _ hlt
    have q2 := rk_below a b h (ms a)[i]
    have q3 := rk_kth a i h1
    omega
  · omega
theorem sum_below : ∀ (a b : List Int), Below a b → a.sum ≤ b.sum := by
  intro a
  induction a with
  | nil => intro b h; obtain rfl : b = [] := List.eq_nil_of_length_eq_zero h.1.symm; exact Int.le_refl _
  | cons x a ih =>
    intro b h
    cases b with
    | nil => have := h.1; simp at this
    | cons y b =>
      have h1 := ih b ⟨by have := h.1; simpa using this, fun i x y hx hy => h.2 (i + 1) x y (by simpa using hx) (by simpa using hy)⟩
      have h2 := h.2 0 x y (by simp) (by simp)
      rw [List.sum_cons, List.sum_cons]; omega
theorem cut_below {a b : List Int} (h : Below a b) (k : Nat) : Below (cutL a k) (cutL b k) := by
  have hm := ms_below h
  have ha := cutL_len a k
  have hb := cutL_len b k
  have hl := h.1
  refine ⟨by omega, fun i x y hx hy => ?_⟩
  have hi := (List.getElem?_eq_some_iff.1 hx).1
  rw [cutL_get a k i (by omega)] at hx
  rw [cutL_get b k i (by omega)] at hy
  exact hm.2 _ _ _ hx hy
end Go.Proofs.Ytogmibmkkmbgoaa
