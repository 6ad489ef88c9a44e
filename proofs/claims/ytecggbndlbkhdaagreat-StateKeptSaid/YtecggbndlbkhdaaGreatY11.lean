/-
  Numbers by their size: a list sorted, how many are below one. The plain part. No condition. Nothing of the program is named here.
  What may be believed of some numbers: the middle one, the mean and the span of those that are left. The plain part. No condition. Nothing of the program is named here.
  What comes of what was wanted, as functions of integers and lists: what is kept, the least and the greatest of the last ones, what comes. No condition. Nothing of the program is named here.
  Bounds and limits, as functions of integers: how far a count may go, what comes of a want; counts that are kept. No condition. Nothing of the program is named here.
  What one number wants: bands, wants, the greatest of several, as functions of integers. No condition. Nothing of the program is named here.
-/
import Derived.WalkKit
section
set_option linter.unusedSimpArgs false
set_option linter.unusedVariables false
namespace Go.Proofs.YtecggbndlbkhdaaGreat
set_option maxRecDepth 100000

/-- the numbers, rising -/
def ms (l : List Int) : List Int := l.mergeSort fun x y => decide (x ≤ y)
theorem ms_perm (l : List Int) : (ms l).Perm l := List.mergeSort_perm _ _
theorem ms_len (l : List Int) : (ms l).length = l.length := (ms_perm l).length_eq
theorem ms_nil : ms [] = [] := by have := ms_len []; simpa using this
/-- how many are below v -/
def rk (l : List Int) (v : Int) : Nat := l.countP fun x => decide (x < v)
/-- the number of place k, by size; whether there is one -/
def atOf (l : List Int) (k : Int) : Int × Bool := if 0 ≤ k ∧ k < (l.length : Int) then ((ms l)[k.toNat]?.getD 0, true) else (0, false)
theorem atOf_in (l : List Int) (k : Nat) (hk : k < (ms l).length) : atOf l (k : Int) = ((ms l)[k], true) := by
  have h := ms_len l
  unfold atOf
  rw [if_pos (by omega), Int.toNat_natCast, List.getElem?_eq_getElem hk, Option.getD_some]
theorem atOf_out (l : List Int) (k : Int) (hk : ¬ (0 ≤ k ∧ k < (l.length : Int))) : atOf l k = (0, false) := by
  unfold atOf; rw [if_neg hk]
end Go.Proofs.YtecggbndlbkhdaaGreat
end
section
set_option linter.unusedSimpArgs false
set_option linter.unusedVariables false
namespace Go.Proofs.YtecggbndlbkhdaaGreat
set_option maxRecDepth 100000

/-- a number that may be -/
def okV (x : Int) : Bool := decide (0 ≤ x) && decide (x ≤ 1099511627776)
theorem okV_iff (x : Int) : okV x = true ↔ 0 ≤ x ∧ x ≤ 1099511627776 := by unfold okV; simp
theorem okV_false (x : Int) : okV x = false ↔ x < 0 ∨ 1099511627776 < x := by
  constructor
  · intro h
    by_cases h1 : 0 ≤ x ∧ x ≤ 1099511627776
    · rw [(okV_iff x).2 h1] at h; cases h
    · omega
  · intro h
    cases hb : okV x with
    | false => rfl
    | true => have := (okV_iff x).1 hb; omega
/-- numbers that may be -/
def mayL (l : List Int) : Bool := decide (l.length ≤ 1000) && l.all okV
theorem mayL_iff (l : List Int) : mayL l = true ↔ l.length ≤ 1000 ∧ ∀ x ∈ l, 0 ≤ x ∧ x ≤ 1099511627776 := by
  unfold mayL; simp only [Bool.and_eq_true, decide_eq_true_iff, List.all_eq_true, okV_iff]
/-- does f leave some -/
def leaves (l : List Int) (f : Int) : Prop := mayL l = true ∧ 0 ≤ f ∧ f < (l.length : Int) - f
/-- those that are left, rising -/
def cutL (l : List Int) (k : Nat) : List Int := ((ms l).take (l.length - k)).drop k
noncomputable def midL (l : List Int) (f : Int) : List Int := open Classical in if leaves l f then cutL l f.toNat else []
theorem midL_in {l : List Int} {k : Nat} (h : leaves l (k : Int)) : midL l (k : Int) = cutL l k := by unfold midL; rw [if_pos h, Int.toNat_natCast]
theorem midL_out {l : List Int} {f : Int} (h : ¬ leaves l f) : midL l f = [] := by unfold midL; rw [if_neg h]
theorem cutL_len (l : List Int) (k : Nat) : (cutL l k).length = l.length - k - k := by
  unfold cutL; rw [List.length_drop, List.length_take, ms_len]; omega
theorem cutL_ok {l : List Int} (h : mayL l = true) (k : Nat) : ∀ x ∈ cutL l k, 0 ≤ x ∧ x ≤ 1099511627776 := fun x hx =>
  ((mayL_iff l).1 h).2 x ((ms_perm l).subset (List.mem_of_mem_take (List.mem_of_mem_drop hx)))
theorem midL_ok (l : List Int) (f : Int) : (midL l f).length ≤ 1000 ∧ ∀ x ∈ midL l f, 0 ≤ x ∧ x ≤ 1099511627776 := by
  by_cases h : leaves l f
  · obtain ⟨k, rfl⟩ := Int.eq_ofNat_of_zero_le h.2.1
    rw [midL_in h]
    refine ⟨?_, cutL_ok h.1 k⟩
    rw [cutL_len]; have := ((mayL_iff l).1 h.1).1; omega
  · rw [midL_out h]; exact ⟨by simp, fun x hx => by cases hx⟩

/-- the sum of the first k -/
def sumTo (l : List Int) (k : Nat) : Int := (l.take k).sum
theorem sumTo_zero (l : List Int) : sumTo l 0 = 0 := rfl
theorem sumTo_succ {l : List Int} {k : Nat} {x : Int} (h : l[k]? = some x) : sumTo l (k + 1) = sumTo l k + x := by
  obtain ⟨hk, rfl⟩ := List.getElem?_eq_some_iff.1 h
  unfold sumTo; rw [List.take_succ_eq_append_getElem hk, List.sum_append]; simp
theorem sumTo_all (l : List Int) : sumTo l l.length = l.sum := by unfold sumTo; rw [List.take_length]
theorem sum_le {l : List Int} {c : Int} (h : ∀ x ∈ l, x ≤ c) : l.sum ≤ c * l.length := by
  induction l with
  | nil => simp
  | cons a l ih =>
    have h1 := ih fun x hx => h x (List.mem_cons_of_mem _ hx)
    have h2 := h a (List.mem_cons_self ..)
    rw [List.sum_cons, List.length_cons, Int.natCast_succ, Int.mul_add]; omega
theorem le_sum {l : List Int} {c : Int} (h : ∀ x ∈ l, c ≤ x) : c * l.length ≤ l.sum := by
  induction l with
  | nil => simp
  | cons a l ih =>
    have h1 := ih fun x hx => h x (List.mem_cons_of_mem _ hx)
    have h2 := h a (List.mem_cons_self ..)
    rw [List.sum_cons, List.length_cons, Int.natCast_succ, Int.mul_add]; omega
theorem sumTo_bounds {l : List Int} (hl : l.length ≤ 1000) (h : ∀ x ∈ l, 0 ≤ x ∧ x ≤ 1099511627776) (k : Nat) : 0 ≤ sumTo l k ∧ sumTo l k ≤ 1099511627776000 := by
  have h1 := le_sum (l := l.take k) (c := 0) fun x hx => (h x (List.mem_of_mem_take hx)).1
  have h2 := sum_le (l := l.take k) (c := 1099511627776) fun x hx => (h x (List.mem_of_mem_take hx)).2
  have h3 : (l.take k).length ≤ 1000 := by rw [List.length_take]; omega
  unfold sumTo; omega

/-- the middle one -/
noncomputable def medOf (l : List Int) : Int × Bool := if mayL l = true then atOf l (((l.length : Int) - 1).tdiv 2) else (0, false)
/-- the mean's whole part of numbers; the first and the last -/
def meanL (m : List Int) : Int × Bool := if m = [] then (0, false) else (m.sum / (m.length : Int), true)
theorem meanL_in {m : List Int} {s : Int} (hp : 0 < m.length) (h : m.sum = s) : meanL m = (s / (m.length : Int), true) := by
  unfold meanL; rw [if_neg (by intro e; subst e; simp at hp), h]
end Go.Proofs.YtecggbndlbkhdaaGreat
end
section
set_option linter.unusedSimpArgs false
set_option linter.unusedVariables false
namespace Go.Proofs.YtecggbndlbkhdaaGreat
set_option maxRecDepth 100000
open Go.RowKit

/-- a number from nothing to a million -/
def mill (n : Int) : Int := min (max n 0) 1000000
theorem mill_in (n : Int) : 0 ≤ mill n ∧ mill n ≤ 1000000 := by unfold mill; omega
theorem mill_id {n : Int} (h : 0 ≤ n ∧ n ≤ 1000000) : mill n = n := by unfold mill; omega
theorem mill_mono {a b : Int} (h : a ≤ b) : mill a ≤ mill b := by unfold mill; omega
/-- the last so many of a list, or all -/
def lastL (l : List Int) (k : Nat) : List Int := l.drop (l.length - k)
theorem lastL_len (l : List Int) (k : Nat) : (lastL l k).length = min k l.length := by unfold lastL; rw [List.length_drop]; omega
theorem lastL_get (l : List Int) (k i : Nat) : (lastL l k)[i]? = l[l.length - k + i]? := by unfold lastL; rw [List.getElem?_drop]
theorem lastL_all {l : List Int} {k : Nat} (h : l.length ≤ k) : lastL l k = l := by unfold lastL; rw [Nat.sub_eq_zero_of_le h, List.drop_zero]
theorem lastL_mem {l : List Int} {k : Nat} {x : Int} (h : x ∈ lastL l k) : x ∈ l := List.mem_of_mem_drop h
theorem lastL_ne {l : List Int} {k : Nat} (h : l ≠ []) (hk : 0 < k) : lastL l k ≠ [] := by
  intro e
  have h1 := lastL_len l k
  have h2 := List.length_pos_iff.2 h
  rw [e] at h1
  simp at h1
  omega
theorem lastL_snoc (l : List Int) (x : Int) (k : Nat) : lastL (l ++ [x]) (k + 1) = lastL l k ++ [x] := by
  unfold lastL
  rw [List.length_append, List.length_singleton, show l.length + 1 - (k + 1) = l.length - k by omega, List.drop_append_of_le_length (by omega)]
/-- the least, the greatest: of the first k, beginning with the first -/
def loTo (l : List Int) : Nat → Int
  | 0 => l.headD 0
  | k + 1 => min (loTo l k) (l.getD k 0)
def hiTo (l : List Int) : Nat → Int
  | 0 => l.headD 0
  | k + 1 => max (hiTo l k) (l.getD k 0)
def loL (l : List Int) : Int := loTo l l.length
def hiL (l : List Int) : Int := hiTo l l.length
theorem getD_at {l : List Int} {k : Nat} {x : Int} (h : l[k]? = some x) : l.getD k 0 = x := by rw [List.getD_eq_getElem?_getD, h]; rfl
theorem head_mem {l : List Int} (h : l ≠ []) : l.headD 0 ∈ l := by cases l with | nil => exact absurd rfl h | cons a t => simp
theorem loTo_mem {l : List Int} (h : l ≠ []) : ∀ k, k ≤ l.length → loTo l k ∈ l
  | 0, _ => head_mem h
  | k + 1, hk => by
    have h1 := loTo_mem h k (by omega)
    have h2 := List.getElem?_eq_getElem (show k < l.length by omega)
    have h3 := List.getElem_mem (show k < l.length by omega)
    unfold loTo
    rw [getD_at h2]
    rcases Int.le_total (loTo l k) l[k] with e | e
    · rw [Int.min_eq_left e]; exact h1
    · rw [Int.min_eq_right e]; exact h3
theorem hiTo_mem {l : List Int} (h : l ≠ []) : ∀ k, k ≤ l.length → hiTo l k ∈ l
  | 0, _ => head_mem h
  | k + 1, hk => by
    have h1 := hiTo_mem h k (by omega)
    have h2 := List.getElem?_eq_getElem (show k < l.length by omega)
    have h3 := List.getElem_mem (show k < l.length by omega)
    unfold hiTo
    rw [getD_at h2]
    rcases Int.le_total (hiTo l k) l[k] with e | e
    · rw [Int.max_eq_right e]; exact h3
    · rw [Int.max_eq_left e]; exact h1
theorem loTo_le (l : List Int) : ∀ k (j : Nat) (x : Int), j < k → l[j]? = some x → loTo l k ≤ x
  | 0, j, x, h, _ => absurd h (Nat.not_lt_zero j)
  | k + 1, j, x, h, hx => by
    unfold loTo
    rcases Nat.lt_or_ge j k with h1 | h1
    · have := loTo_le l k j x h1 hx; omega
    · obtain rfl : j = k := by omega
      rw [getD_at hx]; omega
theorem hiTo_ge (l : List Int) : ∀ k (j : Nat) (x : Int), j < k → l[j]? = some x → x ≤ hiTo l k
  | 0, j, x, h, _ => absurd h (Nat.not_lt_zero j)
  | k + 1, j, x, h, hx => by
    unfold hiTo
    rcases Nat.lt_or_ge j k with h1 | h1
    · have := hiTo_ge l k j x h1 hx; omega
    · obtain rfl : j = k := by omega
      rw [getD_at hx]; omega
theorem loL_mem {l : List Int} (h : l ≠ []) : loL l ∈ l := loTo_mem h _ (Nat.le_refl _)
theorem hiL_mem {l : List Int} (h : l ≠ []) : hiL l ∈ l := hiTo_mem h _ (Nat.le_refl _)
theorem loL_le {l : List Int} {x : Int} (h : x ∈ l) : loL l ≤ x := by
  obtain ⟨j, hj, rfl⟩ := List.mem_iff_getElem.1 h
  exact loTo_le l _ j _ hj (List.getElem?_eq_getElem hj)
theorem hiL_ge {l : List Int} {x : Int} (h : x ∈ l) : x ≤ hiL l := by
  obtain ⟨j, hj, rfl⟩ := List.mem_iff_getElem.1 h
  exact hiTo_ge l _ j _ hj (List.getElem?_eq_getElem hj)
/-- what was wanted: the windows, what is kept -/
structure Ca where
  up : Nat
  down : Nat
  l : List Int
def Ca.most (c : Ca) : Nat := max c.up c.down + 1
def Ca.push (c : Ca) (w : Int) : Ca := { c with l := lastL (c.l ++ [mill w]) c.most }
def Ca.lo (c : Ca) : Int := loL (lastL c.l (c.up + 1))
def Ca.hi (c : Ca) : Int := hiL (lastL c.l (c.down + 1))
def Ca.out (c : Ca) (n : Int) : Int := min c.hi (max (mill n) c.lo)
def Ca.mayset (c : Ca) (l : List Int) : Bool := decide (l.length ≤ c.most) && l.all fun x => decide (0 ≤ x) && decide (x ≤ 1000000)
/-- what is always so -/
structure Ca.Ok (c : Ca) : Prop where
  u : c.up ≤ 60
  d : c.down ≤ 60
  n : c.l.length ≤ c.most
  m : ∀ x ∈ c.l, 0 ≤ x ∧ x ≤ 1000000
theorem Ca.push_len (c : Ca) (w : Int) : (c.push w).l.length = min c.most (c.l.length + 1) := by
  show (lastL (c.l ++ [mill w]) c.most).length = _
  rw [lastL_len, List.length_append, List.length_singleton]
theorem Ca.push_snoc (c : Ca) (w : Int) : (c.push w).l = lastL c.l (max c.up c.down) ++ [mill w] := lastL_snoc ..
theorem Ca.push_ne (c : Ca) (w : Int) : (c.push w).l ≠ [] := by rw [Ca.push_snoc]; simp
theorem Ca.push_ok {c : Ca} (h : c.Ok) (w : Int) : (c.push w).Ok := by
  refine ⟨h.u, h.d, by rw [Ca.push_len]; exact Nat.min_le_left _ _, fun x hx => ?_⟩
  rw [Ca.push_snoc] at hx
  rcases List.mem_append.1 hx with hx | hx
  · exact h.m x (lastL_mem hx)
  · rw [List.mem_singleton.1 hx]; exact mill_in w
/-- of greater ones there comes no lesser one -/
def Under (A B : List Int) : Prop := A.length = B.length ∧ ∀ (i : Nat) (a b : Int), A[i]? = some a → B[i]? = some b → a ≤ b
theorem Under.nil : Under [] [] := ⟨rfl, fun i a b h => by simp at h⟩
theorem Under.snoc {A B : List Int} (h : Under A B) {a b : Int} (hab : a ≤ b) : Under (A ++ [a]) (B ++ [b]) := by
  refine ⟨by rw [List.length_append, List.length_append, h.1]; rfl, fun i x y hx hy => ?_⟩
  rcases Nat.lt_trichotomy i A.length with hi | hi | hi
  · rw [List.getElem?_append_left hi] at hx
    rw [List.getElem?_append_left (by rw [← h.1]; exact hi)] at hy
    exact h.2 i x y hx hy
  · subst hi
    rw [List.getElem?_concat_length] at hx
    rw [h.1, List.getElem?_concat_length] at hy
    cases hx; cases hy; exact hab
  · rw [List.getElem?_eq_none (by rw [List.length_append, List.length_singleton]; omega)] at hx; cases hx
theorem Under.last {A B : List Int} (h : Under A B) (k : Nat) : Under (lastL A k) (lastL B k) := by
  refine ⟨by rw [lastL_len, lastL_len, h.1], fun i a b ha hb => ?_⟩
  rw [lastL_get] at ha hb
  rw [← h.1] at hb
  exact h.2 _ a b ha hb
theorem Under.lo {A B : List Int} (h : Under A B) (hA : A ≠ []) : loL A ≤ loL B := by
  have hB : B ≠ [] := fun e => by have := h.1; rw [e] at this; exact hA (List.length_eq_zero_iff.1 this)
  obtain ⟨j, hj, e⟩ := List.mem_iff_getElem.1 (loL_mem hB)
  have hjA : j < A.length := by rw [h.1]; exact hj
  have h1 := h.2 j _ _ (List.getElem?_eq_getElem hjA) (List.getElem?_eq_getElem hj)
  rw [e] at h1
  exact Int.le_trans (loL_le (List.getElem_mem hjA)) h1
theorem Under.hi {A B : List Int} (h : Under A B) (hA : A ≠ []) : hiL A ≤ hiL B := by
  obtain ⟨j, hj, e⟩ := List.mem_iff_getElem.1 (hiL_mem hA)
  have hjB : j < B.length := by rw [← h.1]; exact hj
  have h1 := h.2 j _ _ (List.getElem?_eq_getElem hj) (List.getElem?_eq_getElem hjB)
  rw [e] at h1
  exact Int.le_trans h1 (hiL_ge (List.getElem_mem hjB))
theorem Ca.push_under {A B : Ca} (hu : A.up = B.up) (hd : A.down = B.down) (h : Under A.l B.l) {v w : Int} (hvw : v ≤ w) : Under (A.push v).l (B.push w).l := by
  rw [Ca.push_snoc, Ca.push_snoc, hu, hd]
  exact (h.last _).snoc (mill_mono hvw)
theorem Ca.out_rises {A B : Ca} (hu : A.up = B.up) (hd : A.down = B.down) (h : Under A.l B.l) (hA : A.l ≠ []) {m n : Int} (hmn : m ≤ n) : A.out m ≤ B.out n := by
  have h1 : A.lo ≤ B.lo := by unfold Ca.lo; rw [hu]; exact (h.last _).lo (lastL_ne hA (Nat.succ_pos _))
  have h2 : A.hi ≤ B.hi := by unfold Ca.hi; rw [hd]; exact (h.last _).hi (lastL_ne hA (Nat.succ_pos _))
  have h3 := mill_mono hmn
  unfold Ca.out
  omega
/-- what is wanted for longer than both windows is what comes -/
theorem Ca.out_steady {c : Ca} {x : Int} (hne : c.l ≠ []) (h : ∀ y ∈ c.l, y = x) (n : Int) : c.out n = x := by
  have h1 : c.lo = x := h _ (lastL_mem (loL_mem (lastL_ne hne (Nat.succ_pos _))))
  have h2 : c.hi = x := h _ (lastL_mem (hiL_mem (lastL_ne hne (Nat.succ_pos _))))
  unfold Ca.out
  omega
end Go.Proofs.YtecggbndlbkhdaaGreat
end
section
set_option linter.unusedSimpArgs false
set_option linter.unusedVariables false
namespace Go.Proofs.YtecggbndlbkhdaaGreat
set_option maxRecDepth 100000
open Go.RowKit

/-- rates: replicas and hundredths up, the same down, the period, the least, the most -/
structure Rt where
  pu : Int
  cu : Int
  pd : Int
  cd : Int
  per : Int
  mn : Int
  mx : Int
structure Rt.Ok (r : Rt) : Prop where
  pu : 1 ≤ r.pu ∧ r.pu ≤ 1000
  cu : 1 ≤ r.cu ∧ r.cu ≤ 1000
  pd : 1 ≤ r.pd ∧ r.pd ≤ 1000
  cd : 1 ≤ r.cd ∧ r.cd ≤ 100
  per : 1 ≤ r.per ∧ r.per ≤ 60
  mn : 1 ≤ r.mn ∧ r.mn ≤ 10000
  mx : r.mn ≤ r.mx ∧ r.mx ≤ 10000
def Rt.may (r : Rt) : Bool := decide (1 ≤ r.pu ∧ r.pu ≤ 1000) && decide (1 ≤ r.cu ∧ r.cu ≤ 1000) && decide (1 ≤ r.pd ∧ r.pd ≤ 1000) && decide (1 ≤ r.cd ∧ r.cd ≤ 100) && decide (1 ≤ r.per ∧ r.per ≤ 60) && decide (1 ≤ r.mn ∧ r.mn ≤ 10000) && decide (r.mn ≤ r.mx ∧ r.mx ≤ 10000)
theorem Rt.may_iff {r : Rt} : r.may = true ↔ r.Ok := by
  unfold Rt.may
  simp only [Bool.and_eq_true, decide_eq_true_eq]
  exact ⟨fun h => ⟨h.1.1.1.1.1.1, h.1.1.1.1.1.2, h.1.1.1.1.2, h.1.1.1.2, h.1.1.2, h.1.2, h.2⟩, fun h => ⟨⟨⟨⟨⟨⟨h.pu, h.cu⟩, h.pd⟩, h.cd⟩, h.per⟩, h.mn⟩, h.mx⟩⟩
def Rt.hi (r : Rt) (b : Int) : Int := max (b + r.pu) ((b * (100 + r.cu) + 99) / 100)
def Rt.lo (r : Rt) (b : Int) : Int := max (min (b - r.pd) (b * (100 - r.cd) / 100)) 0
def Rt.bounds (r : Rt) (b : Int) : Int × Int := if r.may = true ∧ 0 ≤ b ∧ b ≤ 10000 then (r.lo b, r.hi b) else (0, 0)
def Rt.lim (r : Rt) (b w : Int) : Int := min (max (min (max w (r.lo b)) (r.hi b)) r.mn) r.mx
section
variable {r : Rt} {a b v w : Int}
/-- no product is great -/
theorem Rt.small (h : r.Ok) (h0 : 0 ≤ b) (h1 : b ≤ 10000) : (0 ≤ b * (100 + r.cu) ∧ b * (100 + r.cu) ≤ 11000000) ∧ (0 ≤ b * (100 - r.cd) ∧ b * (100 - r.cd) ≤ 990000) := by
  have c1 := h.cu; have c2 := h.cd
  have e1 : b * (100 + r.cu) ≤ 10000 * 1100 := Int.mul_le_mul h1 (by omega) (by omega) (by omega)
  have e2 : b * (100 - r.cd) ≤ 10000 * 99 := Int.mul_le_mul h1 (by omega) (by omega) (by omega)
  exact ⟨⟨Int.mul_nonneg h0 (by omega), by omega⟩, ⟨Int.mul_nonneg h0 (by omega), by omega⟩⟩
theorem Rt.lo_le (h : r.Ok) (h0 : 0 ≤ b) : 0 ≤ r.lo b ∧ r.lo b ≤ b := by
  have := h.pd
  unfold Rt.lo; omega
theorem Rt.hi_ge (h : r.Ok) : b + 1 ≤ r.hi b := by
  have := h.pu
  unfold Rt.hi; omega
theorem Rt.lo_mono (h : r.Ok) (hab : a ≤ b) : r.lo a ≤ r.lo b := by
  have := h.cd
  have e : a * (100 - r.cd) ≤ b * (100 - r.cd) := Int.mul_le_mul_of_nonneg_right hab (by omega)
  have := Int.ediv_le_ediv (show (0 : Int) < 100 by decide) e
  unfold Rt.lo; omega
theorem Rt.hi_mono (h : r.Ok) (hab : a ≤ b) : r.hi a ≤ r.hi b := by
  have := h.cu
  have e : a * (100 + r.cu) ≤ b * (100 + r.cu) := Int.mul_le_mul_of_nonneg_right hab (by omega)
  have := Int.ediv_le_ediv (show (0 : Int) < 100 by decide) (show a * (100 + r.cu) + 99 ≤ b * (100 + r.cu) + 99 by omega)
  unfold Rt.hi; omega
theorem Rt.lim_in (h : r.Ok) : r.mn ≤ r.lim b w ∧ r.lim b w ≤ r.mx := by
  have := h.mx
  unfold Rt.lim; omega
theorem Rt.lim_mono (h : r.Ok) (hab : a ≤ b) (hvw : v ≤ w) : r.lim a v ≤ r.lim b w := by
  have h1 := Rt.lo_mono h hab; have h2 := Rt.hi_mono h hab
  unfold Rt.lim; omega
/-- within all a want stays; between the bounds, if these let it; a limit stays -/
theorem Rt.lim_id (h1 : r.lo b ≤ w) (h2 : w ≤ r.hi b) (h3 : r.mn ≤ w) (h4 : w ≤ r.mx) : r.lim b w = w := by unfold Rt.lim; omega
end
/-- counts that are kept: the rates, the counts, the oldest first -/
structure Po where
  r : Rt
  l : List Int
structure Po.Ok (p : Po) : Prop where
  r : p.r.Ok
  ne : p.l ≠ []
  n : (p.l.length : Int) ≤ p.r.per
  m : ∀ x ∈ p.l, p.r.mn ≤ x ∧ x ≤ p.r.mx
def Po.base (p : Po) : Int := p.l.headD 0
def Po.in (p : Po) (x : Int) : Bool := decide (p.r.mn ≤ x) && decide (x ≤ p.r.mx)
def Po.put (p : Po) (x : Int) : Int × Po := if p.in x then (0, { p with l := lastL (p.l ++ [x]) p.r.per.toNat }) else (1, p)
def Po.lim (p : Po) (w : Int) : Int := p.r.lim p.base w
def Po.mayset (p : Po) (l : List Int) : Bool := l.all p.in && decide (1 ≤ l.length) && decide ((l.length : Int) ≤ p.r.per)
def Po.set (p : Po) (l : List Int) : Int × Po := if p.mayset l then (0, { p with l := l }) else (1, p)
theorem Po.in_iff {p : Po} {x : Int} : p.in x = true ↔ p.r.mn ≤ x ∧ x ≤ p.r.mx := by unfold Po.in; simp only [Bool.and_eq_true, decide_eq_true_eq]
theorem Po.base_in {p : Po} (h : p.Ok) : p.r.mn ≤ p.base ∧ p.base ≤ p.r.mx := h.m _ (head_mem h.ne)
theorem Po.put_yes {p : Po} {x : Int} (h : p.in x = true) : p.put x = (0, { p with l := lastL (p.l ++ [x]) p.r.per.toNat }) := if_pos h
theorem Po.put_no {p : Po} {x : Int} (h : p.in x = false) : p.put x = (1, p) := if_neg (by rw [h]; decide)
theorem Po.put_ok {p : Po} (h : p.Ok) (x : Int) : (p.put x).2.Ok := by
  cases hi : p.in x with
  | false => rw [Po.put_no hi]; exact h
  | true =>
    rw [Po.put_yes hi]
    have hp := h.r.per
    refine ⟨h.r, lastL_ne (by simp) (by omega), ?_, fun y hy => ?_⟩
    · show ((lastL (p.l ++ [x]) p.r.per.toNat).length : Int) ≤ p.r.per
      rw [lastL_len]; omega
    · rcases List.mem_append.1 (lastL_mem hy) with hy | hy
      · exact h.m y hy
      · rw [List.mem_singleton.1 hy]; exact Po.in_iff.1 hi
theorem Po.set_ok {p : Po} (h : p.Ok) (l : List Int) : (p.set l).2.Ok := by
  unfold Po.set
  split
  · next hm =>
    unfold Po.mayset at hm
    simp only [Bool.and_eq_true, decide_eq_true_eq, List.all_eq_true] at hm
    exact ⟨h.r, fun e => by have h2 := hm.1.2; rw [show l = [] from e] at h2; simp at h2, hm.2, fun x hx => Po.in_iff.1 (hm.1.1 x hx)⟩
  · exact h
theorem Po.new_ok {r : Rt} (h : r.Ok) {x : Int} (h0 : r.mn ≤ x) (h1 : x ≤ r.mx) : (Po.mk r [x]).Ok := by
  have hp := h.per
  refine ⟨h, by simp, by show ((1 : Nat) : Int) ≤ r.per; omega, fun y hy => ?_⟩
  rw [List.mem_singleton.1 hy]; exact ⟨h0, h1⟩
theorem Po.lim_in {p : Po} (h : p.Ok) (w : Int) : p.in (p.lim w) = true := Po.in_iff.2 (Rt.lim_in h.r)
/-- of greater counts before, and a greater want, there comes no lesser limit -/
theorem under_head {A B : List Int} (h : Under A B) (hA : A ≠ []) : A.headD 0 ≤ B.headD 0 := by
  have hB : B ≠ [] := fun e => by have := h.1; rw [e] at this; exact hA (List.length_eq_zero_iff.1 this)
  cases A with
  | nil => exact absurd rfl hA
  | cons a s =>
    cases B with
    | nil => exact absurd rfl hB
    | cons b t => exact h.2 0 a b rfl rfl
theorem Po.lim_mono {p s : Po} (hp : p.Ok) (hr : p.r = s.r) (h : Under p.l s.l) {v w : Int} (hvw : v ≤ w) : p.lim v ≤ s.lim w := by
  unfold Po.lim
  rw [← hr]
  exact Rt.lim_mono hp.r (under_head h hp.ne) hvw
theorem Po.put_under {p s : Po} (hr : p.r = s.r) (h : Under p.l s.l) {x y : Int} (hx : p.in x = true) (hy : s.in y = true) (hxy : x ≤ y) : Under (p.put x).2.l (s.put y).2.l := by
  rw [Po.put_yes hx, Po.put_yes hy]
  show Under (lastL (p.l ++ [x]) p.r.per.toNat) (lastL (s.l ++ [y]) s.r.per.toNat)
  rw [hr]
  exact (h.snoc hxy).last _
end Go.Proofs.YtecggbndlbkhdaaGreat
end
section
set_option linter.unusedSimpArgs false
set_option linter.unusedVariables false
namespace Go.Proofs.YtecggbndlbkhdaaGreat
set_option maxRecDepth 100000
open Go.RowKit

/-- may value, target and tolerance be? -/
def raMay (v t l : Int) : Bool := decide (0 ≤ v) && decide (v ≤ 1099511627776) && decide (1 ≤ t) && decide (t ≤ 1099511627776) && decide (0 ≤ l) && decide (l ≤ 1000)
def raNear (v t l : Int) : Bool := decide (t * (1000 - l) ≤ v * 1000) && decide (v * 1000 ≤ t * (1000 + l))
def raIn (v t l : Int) : Bool := raMay v t l && raNear v t l
def raCnt (c : Int) : Bool := decide (0 ≤ c) && decide (c ≤ 10000)
def raOk (c v t l : Int) : Bool := raCnt c && raMay v t l
def raShares (x t : Int) : Int := (x + t - 1) / t
def raWant (c v t l : Int) : Int := if raOk c v t l then (if raNear v t l then c else min 1000000 (raShares (c * v) t)) else 0

theorem raMay_iff {v t l : Int} : raMay v t l = true ↔ (0 ≤ v ∧ v ≤ 1099511627776) ∧ (1 ≤ t ∧ t ≤ 1099511627776) ∧ (0 ≤ l ∧ l ≤ 1000) := by
  unfold raMay; simp only [Bool.and_eq_true, decide_eq_true_eq]; omega
theorem raCnt_iff {c : Int} : raCnt c = true ↔ 0 ≤ c ∧ c ≤ 10000 := by
  unfold raCnt; simp only [Bool.and_eq_true, decide_eq_true_eq]
theorem raOk_iff {c v t l : Int} : raOk c v t l = true ↔ (0 ≤ c ∧ c ≤ 10000) ∧ (0 ≤ v ∧ v ≤ 1099511627776) ∧ (1 ≤ t ∧ t ≤ 1099511627776) ∧ (0 ≤ l ∧ l ≤ 1000) := by
  unfold raOk; rw [Bool.and_eq_true, raCnt_iff, raMay_iff]
theorem raNear_iff {v t l : Int} : raNear v t l = true ↔ t * (1000 - l) ≤ v * 1000 ∧ v * 1000 ≤ t * (1000 + l) := by
  unfold raNear; simp only [Bool.and_eq_true, decide_eq_true_eq]

theorem mul_le' {a b x y : Int} (ha : 0 ≤ a) (hax : a ≤ x) (hb : 0 ≤ b) (hby : b ≤ y) : 0 ≤ a * b ∧ a * b ≤ x * y :=
  ⟨Int.mul_nonneg ha hb, Int.mul_le_mul hax hby hb (Int.le_trans ha hax)⟩
/-- all products stay small -/
theorem ra_low {t l : Int} (ht : 1 ≤ t ∧ t ≤ 1099511627776) (hl : 0 ≤ l ∧ l ≤ 1000) : 0 ≤ t * (1000 - l) ∧ t * (1000 - l) ≤ 1099511627776000 := by
  have := mul_le' (a := t) (b := 1000 - l) (x := 1099511627776) (y := 1000) (by omega) ht.2 (by omega) (by omega); omega
theorem ra_high {t l : Int} (ht : 1 ≤ t ∧ t ≤ 1099511627776) (hl : 0 ≤ l ∧ l ≤ 1000) : 0 ≤ t * (1000 + l) ∧ t * (1000 + l) ≤ 2199023255552000 := by
  have := mul_le' (a := t) (b := 1000 + l) (x := 1099511627776) (y := 2000) (by omega) ht.2 (by omega) (by omega); omega
theorem ra_load {c v : Int} (hc : 0 ≤ c ∧ c ≤ 10000) (hv : 0 ≤ v ∧ v ≤ 1099511627776) : 0 ≤ c * v ∧ c * v ≤ 10995116277760000 := by
  have := mul_le' (a := c) (b := v) (x := 10000) (y := 1099511627776) hc.1 hc.2 hv.1 hv.2; omega
/-- shares: the least number whose multiple is not below the load -/
theorem raShares_spec {x t : Int} (hx : 0 ≤ x) (ht : 1 ≤ t) : 0 ≤ raShares x t ∧ x ≤ raShares x t * t ∧ (0 < raShares x t → (raShares x t - 1) * t < x) := by
  unfold raShares
  have h1 := Int.emod_add_mul_ediv (x + t - 1) t
  have h2 := Int.emod_nonneg (x + t - 1) (show t ≠ 0 by omega)
  have h3 := Int.emod_lt_of_pos (x + t - 1) (show 0 < t by omega)
  have h4 : 0 ≤ (x + t - 1) / t := Int.ediv_nonneg (by omega) (by omega)
  generalize (x + t - 1) / t = q at *
  generalize (x + t - 1) % t = r at *
  rw [Int.mul_comm t q] at h1
  refine ⟨h4, by omega, fun _ => ?_⟩
  rw [Int.sub_mul]; omega
theorem raShares_least {x t k : Int} (ht : 1 ≤ t) (hk : x ≤ k * t) : raShares x t ≤ k := by
  unfold raShares
  have : (x + t - 1) / t < k + 1 := Int.ediv_lt_of_lt_mul (by omega) (by rw [Int.add_mul]; omega)
  omega
theorem raShares_tdiv {x t : Int} (hx : 0 ≤ x) (ht : 1 ≤ t) : (x + t - 1).tdiv t = raShares x t := Int.tdiv_eq_ediv_of_nonneg (by omega)
theorem raShares_mono {x y t : Int} (ht : 1 ≤ t) (h : x ≤ y) : raShares x t ≤ raShares y t := Int.ediv_le_ediv (by omega) (by omega)
theorem raWant_bound (c v t l : Int) : 0 ≤ raWant c v t l ∧ raWant c v t l ≤ 1000000 := by
  unfold raWant
  split
  · next h =>
    obtain ⟨hc, hv, ht, hl⟩ := raOk_iff.1 h
    split
    · omega
    · have := (raShares_spec (x := c * v) (t := t) (ra_load hc hv).1 ht.1).1
      omega
  · omega
theorem raIn_near {c v t l : Int} (h : raOk c v t l = true) : raIn v t l = raNear v t l := by
  unfold raOk at h; unfold raIn
  rw [Bool.and_eq_true] at h
  rw [h.2]; rfl
theorem raWant_in {c v t l : Int} (hc : 0 ≤ c ∧ c ≤ 10000) (h : raIn v t l = true) : raWant c v t l = c := by
  unfold raIn at h
  rw [Bool.and_eq_true] at h
  unfold raWant
  rw [if_pos (by unfold raOk; rw [raCnt_iff.2 hc, h.1]; rfl), if_pos h.2]
theorem raWant_out {c v t l : Int} (h : raOk c v t l = true) (hn : raIn v t l = false) : raWant c v t l = min 1000000 (raShares (c * v) t) := by
  rw [raIn_near h] at hn
  unfold raWant
  rw [if_pos h, if_neg (by rw [hn]; decide)]
theorem raWant_not {c v t l : Int} (h : raOk c v t l = false) : raWant c v t l = 0 := by
  unfold raWant; rw [if_neg (by rw [h]; decide)]
/-- above the target at least the count, below at most that -/
theorem ra_above {c v t : Int} (hc : 0 ≤ c) (ht : 1 ≤ t) (hv : t ≤ v) : c ≤ raShares (c * v) t := by
  have h1 : c * t ≤ c * v := Int.mul_le_mul_of_nonneg_left hv hc
  have h2 : (c * t + t - 1) / t ≤ (c * v + t - 1) / t := Int.ediv_le_ediv (by omega) (by omega)
  have h3 : c ≤ (c * t + t - 1) / t := Int.le_ediv_of_mul_le (by omega) (by omega)
  unfold raShares; omega
theorem ra_below {c v t : Int} (hc : 0 ≤ c) (ht : 1 ≤ t) (hv : v ≤ t) : raShares (c * v) t ≤ c :=
  raShares_least ht (Int.mul_le_mul_of_nonneg_left hv hc)
/-- out of the band: on which side -/
theorem ra_side {v t l : Int} (h : raNear v t l = false) : v * 1000 < t * (1000 - l) ∨ t * (1000 + l) < v * 1000 := by
  unfold raNear at h
  rcases Int.lt_or_le (v * 1000) (t * (1000 - l)) with h1 | h1
  · exact .inl h1
  · rcases Int.lt_or_le (t * (1000 + l)) (v * 1000) with h2 | h2
    · exact .inr h2
    · rw [decide_eq_true h1, decide_eq_true h2] at h; cases h
theorem ra_low_le {v t l : Int} (ht : 1 ≤ t) (hl : 0 ≤ l) (h : v * 1000 < t * (1000 - l)) : v < t := by
  have : t * (1000 - l) ≤ t * 1000 := Int.mul_le_mul_of_nonneg_left (by omega) (by omega)
  omega
theorem ra_high_ge {v t l : Int} (ht : 1 ≤ t) (hl : 0 ≤ l) (h : t * (1000 + l) < v * 1000) : t < v := by
  have : t * 1000 ≤ t * (1000 + l) := Int.mul_le_mul_of_nonneg_left (by omega) (by omega)
  omega
/-- more load, or more of what is there, never wants fewer -/
theorem raWant_rises {x y p q t l : Int} (hx : 0 ≤ x) (hxy : x ≤ y) (hy : y ≤ 10000) (hp : 0 ≤ p) (hpq : p ≤ q) (hq : q ≤ 1099511627776) (ht : 1 ≤ t ∧ t ≤ 1099511627776) (hl : 0 ≤ l ∧ l ≤ 1000) :
    raWant x p t l ≤ raWant y q t l := by
  have o1 : raOk x p t l = true := raOk_iff.2 ⟨by omega, by omega, ht, hl⟩
  have o2 : raOk y q t l = true := raOk_iff.2 ⟨by omega, by omega, ht, hl⟩
  have hm : x * p ≤ y * q := Int.mul_le_mul hxy hpq hp (by omega)
  have hs := raShares_mono (t := t) ht.1 hm
  unfold raWant
  rw [if_pos o1, if_pos o2]
  cases h1 : raNear p t l with
  | true =>
    rw [if_pos rfl]
    cases h2 : raNear q t l with
    | true => rw [if_pos rfl]; exact hxy
    | false =>
      rw [if_neg (by decide)]
      rcases ra_side h2 with h3 | h3
      · have := raNear_iff.1 h1
        have : p * 1000 ≤ q * 1000 := by omega
        omega
      · have h4 := ra_high_ge ht.1 hl.1 h3
        have h5 := ra_above (c := y) (v := q) (t := t) (by omega) ht.1 (by omega)
        omega
  | false =>
    rw [if_neg (by decide)]
    cases h2 : raNear q t l with
    | true =>
      rw [if_pos rfl]
      rcases ra_side h1 with h3 | h3
      · have h4 := ra_low_le ht.1 hl.1 h3
        have h5 := ra_below (c := x) (v := p) (t := t) hx ht.1 (by omega)
        omega
      · have := raNear_iff.1 h2
        omega
    | false => rw [if_neg (by decide)]; omega

/-- the greatest of several: of which are so many first ones -/
def raTop (c l : Int) : List Int → List Int → Int
  | v :: vs, t :: ts => max (raWant c v t l) (raTop c l vs ts)
  | _, _ => 0
def raAll (c l : Int) : List Int → List Int → Bool
  | v :: vs, t :: ts => raOk c v t l && raAll c l vs ts
  | _, _ => true
def raMost (c : Int) (vs ts : List Int) (l : Int) : Int × Bool :=
  if (vs.length = 0 ∨ vs.length ≠ ts.length) ∨ raAll c l vs ts = false then (0, false) else (raTop c l vs ts, true)

theorem raTop_bound (c l : Int) : ∀ vs ts : List Int, 0 ≤ raTop c l vs ts ∧ raTop c l vs ts ≤ 1000000
  | [], _ => by simp [raTop]
  | _ :: _, [] => by simp [raTop]
  | v :: vs, t :: ts => by
    have := raTop_bound c l vs ts
    have := raWant_bound c v t l
    simp only [raTop]; omega
theorem raTop_snoc (c l : Int) : ∀ (vs ts : List Int) (v t : Int), vs.length = ts.length → raTop c l (vs ++ [v]) (ts ++ [t]) = max (raTop c l vs ts) (raWant c v t l)
  | [], [], v, t, _ => by have := raWant_bound c v t l; simp only [raTop, List.nil_append]; omega
  | [], _ :: _, _, _, h => by simp at h
  | _ :: _, [], _, _, h => by simp at h
  | a :: vs, b :: ts, v, t, h => by
    simp only [List.length_cons, Nat.add_right_cancel_iff] at h
    simp only [List.cons_append, raTop, raTop_snoc c l vs ts v t h]; omega
theorem raAll_snoc (c l : Int) : ∀ (vs ts : List Int) (v t : Int), vs.length = ts.length → raAll c l (vs ++ [v]) (ts ++ [t]) = (raAll c l vs ts && raOk c v t l)
  | [], [], v, t, _ => by simp [raAll]
  | [], _ :: _, _, _, h => by simp at h
  | _ :: _, [], _, _, h => by simp at h
  | a :: vs, b :: ts, v, t, h => by
    simp only [List.length_cons, Nat.add_right_cancel_iff] at h
    simp only [List.cons_append, raAll, raAll_snoc c l vs ts v t h, Bool.and_assoc]
theorem take_snoc {l : List Int} {k : Nat} {x : Int} (h : l[k]? = some x) : l.take (k + 1) = l.take k ++ [x] := by
  obtain ⟨hk, rfl⟩ := List.getElem?_eq_some_iff.1 h
  exact List.take_succ_eq_append_getElem hk
/-- of the first k of both -/
def topK (c l : Int) (vs ts : List Int) (k : Nat) : Int := raTop c l (vs.take k) (ts.take k)
def allK (c l : Int) (vs ts : List Int) (k : Nat) : Bool := raAll c l (vs.take k) (ts.take k)
theorem topK_zero (c l : Int) (vs ts : List Int) : topK c l vs ts 0 = 0 := by unfold topK; simp [raTop]
theorem allK_zero (c l : Int) (vs ts : List Int) : allK c l vs ts 0 = true := by unfold allK; simp [raAll]
theorem topK_bound (c l : Int) (vs ts : List Int) (k : Nat) : 0 ≤ topK c l vs ts k ∧ topK c l vs ts k ≤ 1000000 := raTop_bound ..
theorem topK_next {c l v t : Int} {vs ts : List Int} {k : Nat} (hv : vs[k]? = some v) (ht : ts[k]? = some t) : topK c l vs ts (k + 1) = max (topK c l vs ts k) (raWant c v t l) := by
  have h1 := (List.getElem?_eq_some_iff.1 hv).1; have h2 := (List.getElem?_eq_some_iff.1 ht).1
  unfold topK; rw [take_snoc hv, take_snoc ht, raTop_snoc _ _ _ _ _ _ (by rw [List.length_take, List.length_take]; omega)]
theorem allK_next {c l v t : Int} {vs ts : List Int} {k : Nat} (hv : vs[k]? = some v) (ht : ts[k]? = some t) : allK c l vs ts (k + 1) = (allK c l vs ts k && raOk c v t l) := by
  have h1 := (List.getElem?_eq_some_iff.1 hv).1; have h2 := (List.getElem?_eq_some_iff.1 ht).1
  unfold allK; rw [take_snoc hv, take_snoc ht, raAll_snoc _ _ _ _ _ _ (by rw [List.length_take, List.length_take]; omega)]
theorem allK_full {c l : Int} {vs ts : List Int} {n : Nat} (h1 : vs.length = n) (h2 : ts.length = n) : allK c l vs ts n = raAll c l vs ts := by
  unfold allK; rw [List.take_of_length_le (by omega), List.take_of_length_le (by omega)]
theorem topK_full {c l : Int} {vs ts : List Int} {n : Nat} (h1 : vs.length = n) (h2 : ts.length = n) : topK c l vs ts n = raTop c l vs ts := by
  unfold topK; rw [List.take_of_length_le (by omega), List.take_of_length_le (by omega)]
theorem raAll_cut (c l : Int) : ∀ (vs ts : List Int) (k : Nat), vs.length = ts.length → allK c l vs ts k = false → raAll c l vs ts = false
  | [], [], k, _, h => by simp [allK, raAll] at h
  | [], _ :: _, _, h, _ => by simp at h
  | _ :: _, [], _, h, _ => by simp at h
  | v :: vs, t :: ts, 0, _, h => by simp [allK, raAll] at h
  | v :: vs, t :: ts, k + 1, hl, h => by
    simp only [List.length_cons, Nat.add_right_cancel_iff] at hl
    simp only [allK, List.take_succ_cons, raAll] at h ⊢
    cases ho : raOk c v t l with
    | false => rfl
    | true => rw [ho] at h; simp only [Bool.true_and] at h ⊢; exact raAll_cut c l vs ts k hl h
theorem raMost_len {c l : Int} {vs ts : List Int} (h : vs.length = 0 ∨ vs.length ≠ ts.length) : raMost c vs ts l = (0, false) := if_pos (.inl h)
theorem raMost_bad {c l : Int} {vs ts : List Int} (h : raAll c l vs ts = false) : raMost c vs ts l = (0, false) := if_pos (.inr h)
theorem raMost_ok {c l : Int} {vs ts : List Int} (h : vs.length ≠ 0) (h2 : vs.length = ts.length) (ha : raAll c l vs ts = true) : raMost c vs ts l = (raTop c l vs ts, true) :=
  if_neg (by rintro ((h' | h') | h'); exact h h'; exact h' h2; rw [ha] at h'; cases h')
end Go.Proofs.YtecggbndlbkhdaaGreat
end
