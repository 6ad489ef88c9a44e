/-
  What comes of what was wanted, as functions of integers and lists: what is kept, the least and the greatest of the last ones, what comes. No condition. Nothing of the program is named here.
-/
import Derived.WalkKit
set_option linter.unusedSimpArgs false
set_option linter.unusedVariables false
namespace Go.Proofs.Ytmhpldnmapjghaa
set_option maxRecDepth 100000
open Go.RowKit

/-- a number from nothing to a million -/
def mill (n : Int) : Int := min (max n 0) 1000000
theorem mill_in (n : Int) : 0 ≤ mill n ∧ mill n ≤ 1000000 := by unfold mill; omega
theorem mill_id {n : Int} (h : 0 ≤ n ∧ n ≤ 1000000) : mill n = n := by unfold mill; omega
theorem mill_mono {a b : Int} (h : a ≤ b) : mill a ≤ mill b := by unfold mill; omega
/-- the last so many of a list, or all -/
def lastL (l : List Int) (k : Nat) : List Int := l.drop (l.length - k)
theorem lastL_len (l : List Int) (k : Nat) : (lastL l k).length = min k l.length := by unfold lastL; rw [List.length_drop]; omega
theorem lastL_get (l : List Int) (k i : Nat) : (lastL l k)[i]? = l[l.length - k + i]? := by unfold lastL; rw [List.getElem?_drop]
theorem lastL_all {l : List Int} {k : Nat} (h : l.length ≤ k) : lastL l k = l := by unfold lastL; rw [Nat.sub_eq_zero_of_le h, List.drop_zero]
theorem lastL_lastL (l : List Int) {j k : Nat} (h : j ≤ k) : lastL (lastL l k) j = lastL l j := by
  unfold lastL
  rw [List.drop_drop, List.length_drop]
  congr 1; omega
theorem lastL_mem {l : List Int} {k : Nat} {x : Int} (h : x ∈ lastL l k) : x ∈ l := List.mem_of_mem_drop h
theorem lastL_ne {l : List Int} {k : Nat} (h : l ≠ []) (hk : 0 < k) : lastL l k ≠ [] := by
  intro e
  have h1 := lastL_len l k
  have h2 := List.length_pos_iff.2 h
  rw [e] at h1
  simp at h1
  omega
theorem lastL_snoc (l : List Int) (x : Int) (k : Nat) : lastL (l ++ [x]) (k + 1) = lastL l k ++ [x] := by
  unfold lastL
  rw [List.length_append, List.length_singleton, show l.length + 1 - (k + 1) = l.length - k by omega, List.drop_append_of_le_length (by omega)]
theorem lastL_end {l : List Int} {k : Nat} {x : Int} (h : x ∈ (l.getLast?)) (hk : 0 < k) : x ∈ lastL l k := by
  rw [Option.mem_def, List.getLast?_eq_some_iff] at h
  obtain ⟨ys, rfl⟩ := h
  obtain ⟨j, rfl⟩ : ∃ j, k = j + 1 := ⟨k - 1, by omega⟩
  rw [lastL_snoc]
  simp
/-- the least, the greatest: of the first k, beginning with the first -/
def loTo (l : List Int) : Nat → Int
  | 0 => l.headD 0
  | k + 1 => min (loTo l k) (l.getD k 0)
def hiTo (l : List Int) : Nat → Int
  | 0 => l.headD 0
  | k + 1 => max (hiTo l k) (l.getD k 0)
def loL (l : List Int) : Int := loTo l l.length
def hiL (l : List Int) : Int := hiTo l l.length
theorem getD_at {l : List Int} {k : Nat} {x : Int} (h : l[k]? = some x) : l.getD k 0 = x := by rw [List.getD_eq_getElem?_getD, h]; rfl
theorem head_mem {l : List Int} (h : l ≠ []) : l.headD 0 ∈ l := by cases l with | nil => exact absurd rfl h | cons a t => simp
theorem loTo_mem {l : List Int} (h : l ≠ []) : ∀ k, k ≤ l.length → loTo l k ∈ l
  | 0, _ => head_mem h
  | k + 1, hk => by
    have h1 := loTo_mem h k (by omega)
    have h2 := List.getElem?_eq_getElem (show k < l.length by omega)
    have h3 := List.getElem_mem (show k < l.length by omega)
    unfold loTo
    rw [getD_at h2]
    rcases Int.le_total (loTo l k) l[k] with e | e
    · rw [Int.min_eq_left e]; exact h1
    · rw [Int.min_eq_right e]; exact h3
theorem hiTo_mem {l : List Int} (h : l ≠ []) : ∀ k, k ≤ l.length → hiTo l k ∈ l
  | 0, _ => head_mem h
  | k + 1, hk => by
    have h1 := hiTo_mem h k (by omega)
    have h2 := List.getElem?_eq_getElem (show k < l.length by omega)
    have h3 := List.getElem_mem (show k < l.length by omega)
    unfold hiTo
    rw [getD_at h2]
    rcases Int.le_total (hiTo l k) l[k] with e | e
    · rw [Int.max_eq_right e]; exact h3
    · rw [Int.max_eq_left e]; exact h1
theorem loTo_le (l : List Int) : ∀ k (j : Nat) (x : Int), j < k → l[j]? = some x → loTo l k ≤ x
  | 0, j, x, h, _ => absurd h (Nat.not_lt_zero j)
  | k + 1, j, x, h, hx => by
    unfold loTo
    rcases Nat.lt_or_ge j k with h1 | h1
    · have := loTo_le l k j x h1 hx; omega
    · obtain rfl : j = k := by omega
      rw [getD_at hx]; omega
theorem hiTo_ge (l : List Int) : ∀ k (j : Nat) (x : Int), j < k → l[j]? = some x → x ≤ hiTo l k
  | 0, j, x, h, _ => absurd h (Nat.not_lt_zero j)
  | k + 1, j, x, h, hx => by
    unfold hiTo
    rcases Nat.lt_or_ge j k with h1 | h1
    · have := hiTo_ge l k j x h1 hx; omega
    · obtain rfl : j = k := by omega
      rw [getD_at hx]; omega
theorem loL_mem {l : List Int} (h : l ≠ []) : loL l ∈ l := loTo_mem h _ (Nat.le_refl _)
theorem hiL_mem {l : List Int} (h : l ≠ []) : hiL l ∈ l := hiTo_mem h _ (Nat.le_refl _)
theorem loL_le {l : List Int} {x : Int} (h : x ∈ l) : loL l ≤ x := by
  obtain ⟨j, hj, rfl⟩ := List.mem_iff_getElem.1 h
  exact loTo_le l _ j _ hj (List.getElem?_eq_getElem hj)
theorem hiL_ge {l : List Int} {x : Int} (h : x ∈ l) : x ≤ hiL l := by
  obtain ⟨j, hj, rfl⟩ := List.mem_iff_getElem.1 h
  exact hiTo_ge l _ j _ hj (List.getElem?_eq_getElem hj)
theorem loL_uniq {l : List Int} {m : Int} (h : m ∈ l) (hm : ∀ y ∈ l, m ≤ y) : loL l = m :=
  Int.le_antisymm (loL_le h) (hm _ (loL_mem (List.ne_nil_of_mem h)))
theorem hiL_uniq {l : List Int} {m : Int} (h : m ∈ l) (hm : ∀ y ∈ l, y ≤ m) : hiL l = m :=
  Int.le_antisymm (hm _ (hiL_mem (List.ne_nil_of_mem h))) (hiL_ge h)
/-- what was wanted: the windows, what is kept -/
structure Ca where
  up : Nat
  down : Nat
  l : List Int
def Ca.most (c : Ca) : Nat := max c.up c.down + 1
def Ca.push (c : Ca) (w : Int) : Ca := { c with l := lastL (c.l ++ [mill w]) c.most }
def Ca.lo (c : Ca) : Int := loL (lastL c.l (c.up + 1))
def Ca.hi (c : Ca) : Int := hiL (lastL c.l (c.down + 1))
def Ca.out (c : Ca) (n : Int) : Int := min c.hi (max (mill n) c.lo)
def Ca.mayset (c : Ca) (l : List Int) : Bool := decide (l.length ≤ c.most) && l.all fun x => decide (0 ≤ x) && decide (x ≤ 1000000)
/-- what is always so -/
structure Ca.Ok (c : Ca) : Prop where
  u : c.up ≤ 60
  d : c.down ≤ 60
  n : c.l.length ≤ c.most
  m : ∀ x ∈ c.l, 0 ≤ x ∧ x ≤ 1000000
theorem Ca.push_len (c : Ca) (w : Int) : (c.push w).l.length = min c.most (c.l.length + 1) := by
  show (lastL (c.l ++ [mill w]) c.most).length = _
  rw [lastL_len, List.length_append, List.length_singleton]
theorem Ca.push_snoc (c : Ca) (w : Int) : (c.push w).l = lastL c.l (max c.up c.down) ++ [mill w] := lastL_snoc ..
theorem Ca.push_ne (c : Ca) (w : Int) : (c.push w).l ≠ [] := by rw [Ca.push_snoc]; simp
theorem Ca.push_ok {c : Ca} (h : c.Ok) (w : Int) : (c.push w).Ok := by
  refine ⟨h.u, h.d, by rw [Ca.push_len]; exact Nat.min_le_left _ _, fun x hx => ?_⟩
  rw [Ca.push_snoc] at hx
  rcases List.mem_append.1 hx with hx | hx
  · exact h.m x (lastL_mem hx)
  · rw [List.mem_singleton.1 hx]; exact mill_in w
theorem Ca.push_end (c : Ca) (w : Int) (k : Nat) (hk : 0 < k) : mill w ∈ lastL (c.push w).l k :=
  lastL_end (by rw [Ca.push_snoc]; simp) hk
/-- the last one lies between the least and the greatest -/
theorem Ca.push_mid (c : Ca) (w : Int) : (c.push w).lo ≤ mill w ∧ mill w ≤ (c.push w).hi :=
  ⟨loL_le (Ca.push_end c w _ (Nat.succ_pos _)), hiL_ge (Ca.push_end c w _ (Nat.succ_pos _))⟩
theorem Ca.out_in {c : Ca} (h : c.lo ≤ c.hi) (n : Int) : c.lo ≤ c.out n ∧ c.out n ≤ c.hi ∧ (c.out n = mill n ∨ c.out n = c.lo ∨ c.out n = c.hi) := by unfold Ca.out; omega
/-- of greater ones there comes no lesser one -/
def Under (A B : List Int) : Prop := A.length = B.length ∧ ∀ (i : Nat) (a b : Int), A[i]? = some a → B[i]? = some b → a ≤ b
theorem Under.nil : Under [] [] := ⟨rfl, fun i a b h => by simp at h⟩
theorem Under.snoc {A B : List Int} (h : Under A B) {a b : Int} (hab : a ≤ b) : Under (A ++ [a]) (B ++ [b]) := by
  refine ⟨by rw [List.length_append, List.length_append, h.1]; rfl, fun i x y hx hy => ?_⟩
  rcases Nat.lt_trichotomy i A.length with hi | hi | hi
  · rw [List.getElem?_append_left hi] at hx
    rw [List.getElem?_append_left (by rw [← h.1]; exact hi)] at hy
    exact h.2 i x y hx hy
  · subst hi
    rw [List.getElem?_concat_length] at hx
    rw [h.1, List.getElem?_concat_length] at hy
    cases hx; cases hy; exact hab
  · rw [List.getElem?_eq_none (by rw [List.length_append, List.length_singleton]; omega)] at hx; cases hx
theorem Under.last {A B : List Int} (h : Under A B) (k : Nat) : Under (lastL A k) (lastL B k) := by
  refine ⟨by rw [lastL_len, lastL_len, h.1], fun i a b ha hb => ?_⟩
  rw [lastL_get] at ha hb
  rw [← h.1] at hb
  exact h.2 _ a b ha hb
theorem Under.lo {A B : List Int} (h : Under A B) (hA : A ≠ []) : loL A ≤ loL B := by
  have hB : B ≠ [] := fun e => by have := h.1; rw [e] at this; exact hA (List.length_eq_zero_iff.1 this)
  obtain ⟨j, hj, e⟩ := List.mem_iff_getElem.1 (loL_mem hB)
  have hjA : j < A.length := by rw [h.1]; exact hj
  have h1 := h.2 j _ _ (List.getElem?_eq_getElem hjA) (List.getElem?_eq_getElem hj)
  rw [e] at h1
  exact Int.le_trans (loL_le (List.getElem_mem hjA)) h1
theorem Under.hi {A B : List Int} (h : Under A B) (hA : A ≠ []) : hiL A ≤ hiL B := by
  obtain ⟨j, hj, e⟩ := List.mem_iff_getElem.1 (hiL_mem hA)
  have hjB : j < B.length := by rw [← h.1]; exact hj
  have h1 := h.2 j _ _ (List.getElem?_eq_getElem hj) (List.getElem?_eq_getElem hjB)
  rw [e] at h1
  exact Int.le_trans h1 (hiL_ge (List.getElem_mem hjB))
theorem Ca.push_under {A B : Ca} (hu : A.up = B.up) (hd : A.down = B.down) (h : Under A.l B.l) {v w : Int} (hvw : v ≤ w) : Under (A.push v).l (B.push w).l := by
  rw [Ca.push_snoc, Ca.push_snoc, hu, hd]
  exact (h.last _).snoc (mill_mono hvw)
theorem Ca.out_rises {A B : Ca} (hu : A.up = B.up) (hd : A.down = B.down) (h : Under A.l B.l) (hA : A.l ≠ []) {m n : Int} (hmn : m ≤ n) : A.out m ≤ B.out n := by
  have h1 : A.lo ≤ B.lo := by unfold Ca.lo; rw [hu]; exact (h.last _).lo (lastL_ne hA (Nat.succ_pos _))
  have h2 : A.hi ≤ B.hi := by unfold Ca.hi; rw [hd]; exact (h.last _).hi (lastL_ne hA (Nat.succ_pos _))
  have h3 := mill_mono hmn
  unfold Ca.out
  omega
/-- what is wanted for longer than both windows is what comes -/
theorem Ca.out_steady {c : Ca} {x : Int} (hne : c.l ≠ []) (h : ∀ y ∈ c.l, y = x) (n : Int) : c.out n = x := by
  have h1 : c.lo = x := h _ (lastL_mem (loL_mem (lastL_ne hne (Nat.succ_pos _))))
  have h2 : c.hi = x := h _ (lastL_mem (hiL_mem (lastL_ne hne (Nat.succ_pos _))))
  unfold Ca.out
  omega
/-- behind so many of the same all that is kept is it: the last so many -/
def tailIs (l : List Int) (k : Nat) (x : Int) : Prop := ∀ y ∈ lastL l k, y = x
theorem tailIs_zero (l : List Int) (x : Int) : tailIs l 0 x := fun y hy => by
  have := lastL_len l 0
  rw [Nat.zero_min] at this
  rw [List.length_eq_zero_iff.1 this] at hy; cases hy
theorem Ca.push_tail {c : Ca} {k : Nat} {x : Int} (h : tailIs c.l k (mill x)) (hk : k < c.most) : tailIs (c.push x).l (k + 1) (mill x) := by
  intro y hy
  rw [Ca.push_snoc, lastL_snoc, lastL_lastL _ (by unfold Ca.most at hk; omega)] at hy
  rcases List.mem_append.1 hy with hy | hy
  · exact h y hy
  · exact List.mem_singleton.1 hy
theorem tailIs_all {l : List Int} {k : Nat} {x : Int} (h : tailIs l k x) (hk : l.length ≤ k) : ∀ y ∈ l, y = x := fun y hy => h y (by rw [lastL_all hk]; exact hy)
end Go.Proofs.Ytmhpldnmapjghaa
