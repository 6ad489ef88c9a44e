/-
  What may be believed of some numbers: the middle one, the mean and the span of those that are left. The plain part. No condition. Nothing of the program is named here.
-/
import Derived.Test.YtogmibmkkmbgoaaMs
set_option linter.unusedSimpArgs false
set_option linter.unusedVariables false
namespace Go.Proofs.Ytogmibmkkmbgoaa
set_option maxRecDepth 100000

/-- a number that may be -/
def okV (x : Int) : Bool := decide (0 ≤ x) && decide (x ≤ 1099511627776)
theorem okV_iff (x : Int) : okV x = true ↔ 0 ≤ x ∧ x ≤ 1099511627776 := by unfold okV; simp
theorem okV_false (x : Int) : okV x = false ↔ x < 0 ∨ 1099511627776 < x := by
  constructor
  · intro h
    by_cases h1 : 0 ≤ x ∧ x ≤ 1099511627776
    · rw [(okV_iff x).2 h1] at h; cases h
    · omega
  · intro h
    cases hb : okV x with
    | false => rfl
    | true => have := (okV_iff x).1 hb; omega
/-- numbers that may be -/
def mayL (l : List Int) : Bool := decide (l.length ≤ 1000) && l.all okV
theorem mayL_iff (l : List Int) : mayL l = true ↔ l.length ≤ 1000 ∧ ∀ x ∈ l, 0 ≤ x ∧ x ≤ 1099511627776 := by
  unfold mayL; simp only [Bool.and_eq_true, decide_eq_true_iff, List.all_eq_true, okV_iff]
theorem mayL_false (l : List Int) (h : ¬ (l.length ≤ 1000 ∧ ∀ x ∈ l, 0 ≤ x ∧ x ≤ 1099511627776)) : mayL l = false := by
  cases hb : mayL l with
  | false => rfl
  | true => exact absurd ((mayL_iff l).1 hb) h
/-- does f leave some -/
def leaves (l : List Int) (f : Int) : Prop := mayL l = true ∧ 0 ≤ f ∧ f < (l.length : Int) - f
/-- those that are left, rising -/
def cutL (l : List Int) (k : Nat) : List Int := ((ms l).take (l.length - k)).drop k
noncomputable def midL (l : List Int) (f : Int) : List Int := open Classical in if leaves l f then cutL l f.toNat else []
theorem midL_in {l : List Int} {k : Nat} (h : leaves l (k : Int)) : midL l (k : Int) = cutL l k := by unfold midL; rw [if_pos h, Int.toNat_natCast]
theorem midL_out {l : List Int} {f : Int} (h : ¬ leaves l f) : midL l f = [] := by unfold midL; rw [if_neg h]
theorem cutL_len (l : List Int) (k : Nat) : (cutL l k).length = l.length - k - k := by
  unfold cutL; rw [List.length_drop, List.length_take, ms_len]; omega
theorem cutL_get (l : List Int) (k i : Nat) (h : i < l.length - k - k) : (cutL l k)[i]? = (ms l)[k + i]? := by
  unfold cutL; rw [List.getElem?_drop, List.getElem?_take, if_pos (by omega)]
theorem cutL_ok {l : List Int} (h : mayL l = true) (k : Nat) : ∀ x ∈ cutL l k, 0 ≤ x ∧ x ≤ 1099511627776 := fun x hx =>
  ((mayL_iff l).1 h).2 x ((ms_perm l).subset (List.mem_of_mem_take (List.mem_of_mem_drop hx)))
theorem midL_ok (l : List Int) (f : Int) : (midL l f).length ≤ 1000 ∧ ∀ x ∈ midL l f, 0 ≤ x ∧ x ≤ 1099511627776 := by
  by_cases h : leaves l f
  · obtain ⟨k, rfl⟩ := Int.eq_ofNat_of_zero_le h.2.1
    rw [midL_in h]
    refine ⟨?_, cutL_ok h.1 k⟩
    rw [cutL_len]; have := ((mayL_iff l).1 h.1).1; omega
  · rw [midL_out h]; exact ⟨by simp, fun x hx => by cases hx⟩

/-- the sum of the first k -/
def sumTo (l : List Int) (k : Nat) : Int := (l.take k).sum
theorem sumTo_zero (l : List Int) : sumTo l 0 = 0 := rfl
theorem sumTo_succ {l : List Int} {k : Nat} {x : Int} (h : l[k]? = some x) : sumTo l (k + 1) = sumTo l k + x := by
  obtain ⟨hk, rfl⟩ := List.getElem?_eq_some_iff.1 h
  unfold sumTo; rw [List.take_succ_eq_append_getElem hk, List.sum_append]; simp
theorem sumTo_all (l : List Int) : sumTo l l.length = l.sum := by unfold sumTo; rw [List.take_length]
theorem sum_le {l : List Int} {c : Int} (h : ∀ x ∈ l, x ≤ c) : l.sum ≤ c * l.length := by
  induction l with
  | nil => simp
  | cons a l ih =>
    have h1 := ih fun x hx => h x (List.mem_cons_of_mem _ hx)
    have h2 := h a (List.mem_cons_self ..)
    rw [List.sum_cons, List.length_cons, Int.natCast_succ, Int.mul_add]; omega
theorem le_sum {l : List Int} {c : Int} (h : ∀ x ∈ l, c ≤ x) : c * l.length ≤ l.sum := by
  induction l with
  | nil => simp
  | cons a l ih =>
    have h1 := ih fun x hx => h x (List.mem_cons_of_mem _ hx)
    have h2 := h a (List.mem_cons_self ..)
    rw [List.sum_cons, List.length_cons, Int.natCast_succ, Int.mul_add]; omega
theorem sumTo_bounds {l : List Int} (hl : l.length ≤ 1000) (h : ∀ x ∈ l, 0 ≤ x ∧ x ≤ 1099511627776) (k : Nat) : 0 ≤ sumTo l k ∧ sumTo l k ≤ 1099511627776000 := by
  have h1 := le_sum (l := l.take k) (c := 0) fun x hx => (h x (List.mem_of_mem_take hx)).1
  have h2 := sum_le (l := l.take k) (c := 1099511627776) fun x hx => (h x (List.mem_of_mem_take hx)).2
  have h3 : (l.take k).length ≤ 1000 := by rw [List.length_take]; omega
  unfold sumTo; omega

/-- the middle one -/
noncomputable def medOf (l : List Int) : Int × Bool := if mayL l = true then atOf l (((l.length : Int) - 1).tdiv 2) else (0, false)
/-- the mean's whole part of numbers; the first and the last -/
def meanL (m : List Int) : Int × Bool := if m = [] then (0, false) else (m.sum / (m.length : Int), true)
def spanL (m : List Int) : Int × Int × Bool := if m = [] then (0, 0, false) else ((m[0]?).getD 0, (m[m.length - 1]?).getD 0, true)
theorem meanL_in {m : List Int} {s : Int} (hp : 0 < m.length) (h : m.sum = s) : meanL m = (s / (m.length : Int), true) := by
  unfold meanL; rw [if_neg (by intro e; subst e; simp at hp), h]
theorem spanL_in {m : List Int} {x y : Int} (hp : 0 < m.length) (h0 : m[0]? = some x) (h1 : m[m.length - 1]? = some y) : spanL m = (x, y, true) := by
  unfold spanL; rw [if_neg (by intro e; subst e; simp at hp), h0, h1]; rfl
end Go.Proofs.Ytogmibmkkmbgoaa
