/-
  What comes of what was wanted, as functions of integers and lists: what is kept, the least and the greatest of the last ones, what comes. No condition. Nothing of the program is named here.
  Bounds and limits, as functions of integers: how far a count may go, what comes of a want; counts that are kept. No condition. Nothing of the program is named here.
  What one number wants: bands, wants, the greatest of several, as functions of integers. No condition. Nothing of the program is named here.
  The controller's law, as a function: what is wanted of the values, what comes of it, how far it may go. No condition. Nothing of the program is named here.
  Small lemmas on the library's relation 'grownBy' (a world that has new blocks, and writes to one old block at the most): new blocks, draws and stores keep it; what a block holds behind such steps. No condition. Nothing of the program is named here.
  Contracts for sync/atomic's Int64: Load, Add, Store of a number that lies in a cell that may be stored to.
  Arguments that are numbers laid side by side (structs and arrays of numbers, one in another): each cell of such a value is a number of its kind. No condition. Nothing of the program's functions is named here.
  Arguments that are numbers laid side by side (structs and arrays of numbers, one in another): each cell of such a value is a number of its kind. And: arguments read behind the call as they did before it, where nothing that was there has changed. No condition. Nothing of the program's functions is named here.
  Slices of numbers of kind int that came in, as a list. No condition. Nothing of the program's functions is named here.
  A relation on worlds: all is as it was but for some blocks that are named, and for new ones. No condition. Nothing of the program is named here.
-/
import Derived.WalkKit
import Derived.Test.YthobbekocimcnaaGreatRows
import Derived.WalkSpells
import Derived.WalkLawsBesides
import Derived.ProofKit
import Derived.OpenShut
import Derived.ChangeOld
import Derived.Below
section
set_option linter.unusedSimpArgs false
set_option linter.unusedVariables false
namespace Go.Proofs.YthobbekocimcnaaGreat
set_option maxRecDepth 100000
open Go.RowKit

/-- a number from nothing to a million -/
def mill (n : Int) : Int := min (max n 0) 1000000
theorem mill_in (n : Int) : 0 ≤ mill n ∧ mill n ≤ 1000000 := by unfold mill; omega
theorem mill_id {n : Int} (h : 0 ≤ n ∧ n ≤ 1000000) : mill n = n := by unfold mill; omega
theorem mill_mono {a b : Int} (h : a ≤ b) : mill a ≤ mill b := by unfold mill; omega
/-- the last so many of a list, or all -/
def lastL (l : List Int) (k : Nat) : List Int := l.drop (l.length - k)
theorem lastL_len (l : List Int) (k : Nat) : (lastL l k).length = min k l.length := by unfold lastL; rw [List.length_drop]; omega
theorem lastL_get (l : List Int) (k i : Nat) : (lastL l k)[i]? = l[l.length - k + i]? := by unfold lastL; rw [List.getElem?_drop]
theorem lastL_all {l : List Int} {k : Nat} (h : l.length ≤ k) : lastL l k = l := by unfold lastL; rw [Nat.sub_eq_zero_of_le h, List.drop_zero]
theorem lastL_lastL (l : List Int) {j k : Nat} (h : j ≤ k) : lastL (lastL l k) j = lastL l j := by
  unfold lastL
  rw [List.drop_drop, List.length_drop]
  congr 1; omega
theorem lastL_mem {l : List Int} {k : Nat} {x : Int} (h : x ∈ lastL l k) : x ∈ l := List.mem_of_mem_drop h
theorem lastL_ne {l : List Int} {k : Nat} (h : l ≠ []) (hk : 0 < k) : lastL l k ≠ [] := by
  intro e
  have h1 := lastL_len l k
  have h2 := List.length_pos_iff.2 h
  rw [e] at h1
  simp at h1
  omega
theorem lastL_snoc (l : List Int) (x : Int) (k : Nat) : lastL (l ++ [x]) (k + 1) = lastL l k ++ [x] := by
  unfold lastL
  rw [List.length_append, List.length_singleton, show l.length + 1 - (k + 1) = l.length - k by omega, List.drop_append_of_le_length (by omega)]
theorem lastL_end {l : List Int} {k : Nat} {x : Int} (h : x ∈ (l.getLast?)) (hk : 0 < k) : x ∈ lastL l k := by
  rw [Option.mem_def, List.getLast?_eq_some_iff] at h
  obtain ⟨ys, rfl⟩ := h
  obtain ⟨j, rfl⟩ : ∃ j, k = j + 1 := ⟨k - 1, by omega⟩
  rw [lastL_snoc]
  simp
/-- the least, the greatest: of the first k, beginning with the first -/
def loTo (l : List Int) : Nat → Int
  | 0 => l.headD 0
  | k + 1 => min (loTo l k) (l.getD k 0)
def hiTo (l : List Int) : Nat → Int
  | 0 => l.headD 0
  | k + 1 => max (hiTo l k) (l.getD k 0)
def loL (l : List Int) : Int := loTo l l.length
def hiL (l : List Int) : Int := hiTo l l.length
theorem getD_at {l : List Int} {k : Nat} {x : Int} (h : l[k]? = some x) : l.getD k 0 = x := by rw [List.getD_eq_getElem?_getD, h]; rfl
theorem head_mem {l : List Int} (h : l ≠ []) : l.headD 0 ∈ l := by cases l with | nil => exact absurd rfl h | cons a t => simp
theorem loTo_mem {l : List Int} (h : l ≠ []) : ∀ k, k ≤ l.length → loTo l k ∈ l
  | 0, _ => head_mem h
  | k + 1, hk => by
    have h1 := loTo_mem h k (by omega)
    have h2 := List.getElem?_eq_getElem (show k < l.length by omega)
    have h3 := List.getElem_mem (show k < l.length by omega)
    unfold loTo
    rw [getD_at h2]
    rcases Int.le_total (loTo l k) l[k] with e | e
    · rw [Int.min_eq_left e]; exact h1
    · rw [Int.min_eq_right e]; exact h3
theorem hiTo_mem {l : List Int} (h : l ≠ []) : ∀ k, k ≤ l.length → hiTo l k ∈ l
  | 0, _ => head_mem h
  | k + 1, hk => by
    have h1 := hiTo_mem h k (by omega)
    have h2 := List.getElem?_eq_getElem (show k < l.length by omega)
    have h3 := List.getElem_mem (show k < l.length by omega)
    unfold hiTo
    rw [getD_at h2]
    rcases Int.le_total (hiTo l k) l[k] with e | e
    · rw [Int.max_eq_right e]; exact h3
    · rw [Int.max_eq_left e]; exact h1
theorem loTo_le (l : List Int) : ∀ k (j : Nat) (x : Int), j < k → l[j]? = some x → loTo l k ≤ x
  | 0, j, x, h, _ => absurd h (Nat.not_lt_zero j)
  | k + 1, j, x, h, hx => by
    unfold loTo
    rcases Nat.lt_or_ge j k with h1 | h1
    · have := loTo_le l k j x h1 hx; omega
    · obtain rfl : j = k := by omega
      rw [getD_at hx]; omega
theorem hiTo_ge (l : List Int) : ∀ k (j : Nat) (x : Int), j < k → l[j]? = some x → x ≤ hiTo l k
  | 0, j, x, h, _ => absurd h (Nat.not_lt_zero j)
  | k + 1, j, x, h, hx => by
    unfold hiTo
    rcases Nat.lt_or_ge j k with h1 | h1
    · have := hiTo_ge l k j x h1 hx; omega
    · obtain rfl : j = k := by omega
      rw [getD_at hx]; omega
theorem loL_mem {l : List Int} (h : l ≠ []) : loL l ∈ l := loTo_mem h _ (Nat.le_refl _)
theorem hiL_mem {l : List Int} (h : l ≠ []) : hiL l ∈ l := hiTo_mem h _ (Nat.le_refl _)
theorem loL_le {l : List Int} {x : Int} (h : x ∈ l) : loL l ≤ x := by
  obtain ⟨j, hj, rfl⟩ := List.mem_iff_getElem.1 h
  exact loTo_le l _ j _ hj (List.getElem?_eq_getElem hj)
theorem hiL_ge {l : List Int} {x : Int} (h : x ∈ l) : x ≤ hiL l := by
  obtain ⟨j, hj, rfl⟩ := List.mem_iff_getElem.1 h
  exact hiTo_ge l _ j _ hj (List.getElem?_eq_getElem hj)
theorem loL_uniq {l : List Int} {m : Int} (h : m ∈ l) (hm : ∀ y ∈ l, m ≤ y) : loL l = m :=
  Int.le_antisymm (loL_le h) (hm _ (loL_mem (List.ne_nil_of_mem h)))
theorem hiL_uniq {l : List Int} {m : Int} (h : m ∈ l) (hm : ∀ y ∈ l, y ≤ m) : hiL l = m :=
  Int.le_antisymm (hm _ (hiL_mem (List.ne_nil_of_mem h))) (hiL_ge h)
/-- what was wanted: the windows, what is kept -/
structure Ca where
  up : Nat
  down : Nat
  l : List Int
def Ca.most (c : Ca) : Nat := max c.up c.down + 1
def Ca.push (c : Ca) (w : Int) : Ca := { c with l := lastL (c.l ++ [mill w]) c.most }
def Ca.lo (c : Ca) : Int := loL (lastL c.l (c.up + 1))
def Ca.hi (c : Ca) : Int := hiL (lastL c.l (c.down + 1))
def Ca.out (c : Ca) (n : Int) : Int := min c.hi (max (mill n) c.lo)
def Ca.mayset (c : Ca) (l : List Int) : Bool := decide (l.length ≤ c.most) && l.all fun x => decide (0 ≤ x) && decide (x ≤ 1000000)
/-- what is always so -/
structure Ca.Ok (c : Ca) : Prop where
  u : c.up ≤ 60
  d : c.down ≤ 60
  n : c.l.length ≤ c.most
  m : ∀ x ∈ c.l, 0 ≤ x ∧ x ≤ 1000000
theorem Ca.push_len (c : Ca) (w : Int) : (c.push w).l.length = min c.most (c.l.length + 1) := by
  show (lastL (c.l ++ [mill w]) c.most).length = _
  rw [lastL_len, List.length_append, List.length_singleton]
theorem Ca.push_snoc (c : Ca) (w : Int) : (c.push w).l = lastL c.l (max c.up c.down) ++ [mill w] := lastL_snoc ..
theorem Ca.push_ne (c : Ca) (w : Int) : (c.push w).l ≠ [] := by rw [Ca.push_snoc]; simp
theorem Ca.push_ok {c : Ca} (h : c.Ok) (w : Int) : (c.push w).Ok := by
  refine ⟨h.u, h.d, by rw [Ca.push_len]; exact Nat.min_le_left _ _, fun x hx => ?_⟩
  rw [Ca.push_snoc] at hx
  rcases List.mem_append.1 hx with hx | hx
  · exact h.m x (lastL_mem hx)
  · rw [List.mem_singleton.1 hx]; exact mill_in w
theorem Ca.push_end (c : Ca) (w : Int) (k : Nat) (hk : 0 < k) : mill w ∈ lastL (c.push w).l k :=
  lastL_end (by rw [Ca.push_snoc]; simp) hk
/-- the last one lies between the least and the greatest -/
theorem Ca.push_mid (c : Ca) (w : Int) : (c.push w).lo ≤ mill w ∧ mill w ≤ (c.push w).hi :=
  ⟨loL_le (Ca.push_end c w _ (Nat.succ_pos _)), hiL_ge (Ca.push_end c w _ (Nat.succ_pos _))⟩
theorem Ca.out_in {c : Ca} (h : c.lo ≤ c.hi) (n : Int) : c.lo ≤ c.out n ∧ c.out n ≤ c.hi ∧ (c.out n = mill n ∨ c.out n = c.lo ∨ c.out n = c.hi) := by unfold Ca.out; omega
/-- of greater ones there comes no lesser one -/
def Under (A B : List Int) : Prop := A.length = B.length ∧ ∀ (i : Nat) (a b : Int), A[i]? = some a → B[i]? = some b → a ≤ b
theorem Under.nil : Under [] [] := ⟨rfl, fun i a b h => by simp at h⟩
theorem Under.snoc {A B : List Int} (h : Under A B) {a b : Int} (hab : a ≤ b) : Under (A ++ [a]) (B ++ [b]) := by
  refine ⟨by rw [List.length_append, List.length_append, h.1]; rfl, fun i x y hx hy => ?_⟩
  rcases Nat.lt_trichotomy i A.length with hi | hi | hi
  · rw [List.getElem?_append_left hi] at hx
    rw [List.getElem?_append_left (by rw [← h.1]; exact hi)] at hy
    exact h.2 i x y hx hy
  · subst hi
    rw [List.getElem?_concat_length] at hx
    rw [h.1, List.getElem?_concat_length] at hy
    cases hx; cases hy; exact hab
  · rw [List.getElem?_eq_none (by rw [List.length_append, List.length_singleton]; omega)] at hx; cases hx
theorem Under.last {A B : List Int} (h : Under A B) (k : Nat) : Under (lastL A k) (lastL B k) := by
  refine ⟨by rw [lastL_len, lastL_len, h.1], fun i a b ha hb => ?_⟩
  rw [lastL_get] at ha hb
  rw [← h.1] at hb
  exact h.2 _ a b ha hb
theorem Under.lo {A B : List Int} (h : Under A B) (hA : A ≠ []) : loL A ≤ loL B := by
  have hB : B ≠ [] := fun e => by have := h.1; rw [e] at this; exact hA (List.length_eq_zero_iff.1 this)
  obtain ⟨j, hj, e⟩ := List.mem_iff_getElem.1 (loL_mem hB)
  have hjA : j < A.length := by rw [h.1]; exact hj
  have h1 := h.2 j _ _ (List.getElem?_eq_getElem hjA) (List.getElem?_eq_getElem hj)
  rw [e] at h1
  exact Int.le_trans (loL_le (List.getElem_mem hjA)) h1
theorem Under.hi {A B : List Int} (h : Under A B) (hA : A ≠ []) : hiL A ≤ hiL B := by
  obtain ⟨j, hj, e⟩ := List.mem_iff_getElem.1 (hiL_mem hA)
  have hjB : j < B.length := by rw [← h.1]; exact hj
  have h1 := h.2 j _ _ (List.getElem?_eq_getElem hj) (List.getElem?_eq_getElem hjB)
  rw [e] at h1
  exact Int.le_trans h1 (hiL_ge (List.getElem_mem hjB))
theorem Ca.push_under {A B : Ca} (hu : A.up = B.up) (hd : A.down = B.down) (h : Under A.l B.l) {v w : Int} (hvw : v ≤ w) : Under (A.push v).l (B.push w).l := by
  rw [Ca.push_snoc, Ca.push_snoc, hu, hd]
  exact (h.last _).snoc (mill_mono hvw)
theorem Ca.out_rises {A B : Ca} (hu : A.up = B.up) (hd : A.down = B.down) (h : Under A.l B.l) (hA : A.l ≠ []) {m n : Int} (hmn : m ≤ n) : A.out m ≤ B.out n := by
  have h1 : A.lo ≤ B.lo := by unfold Ca.lo; rw [hu]; exact (h.last _).lo (lastL_ne hA (Nat.succ_pos _))
  have h2 : A.hi ≤ B.hi := by unfold Ca.hi; rw [hd]; exact (h.last _).hi (lastL_ne hA (Nat.succ_pos _))
  have h3 := mill_mono hmn
  unfold Ca.out
  omega
/-- what is wanted for longer than both windows is what comes -/
theorem Ca.out_steady {c : Ca} {x : Int} (hne : c.l ≠ []) (h : ∀ y ∈ c.l, y = x) (n : Int) : c.out n = x := by
  have h1 : c.lo = x := h _ (lastL_mem (loL_mem (lastL_ne hne (Nat.succ_pos _))))
  have h2 : c.hi = x := h _ (lastL_mem (hiL_mem (lastL_ne hne (Nat.succ_pos _))))
  unfold Ca.out
  omega
/-- behind so many of the same all that is kept is it: the last so many -/
def tailIs (l : List Int) (k : Nat) (x : Int) : Prop := ∀ y ∈ lastL l k, y = x
theorem tailIs_zero (l : List Int) (x : Int) : tailIs l 0 x := fun y hy => by
  have := lastL_len l 0
  rw [Nat.zero_min] at this
  rw [List.length_eq_zero_iff.1 this] at hy; cases hy
theorem Ca.push_tail {c : Ca} {k : Nat} {x : Int} (h : tailIs c.l k (mill x)) (hk : k < c.most) : tailIs (c.push x).l (k + 1) (mill x) := by
  intro y hy
  rw [Ca.push_snoc, lastL_snoc, lastL_lastL _ (by unfold Ca.most at hk; omega)] at hy
  rcases List.mem_append.1 hy with hy | hy
  · exact h y hy
  · exact List.mem_singleton.1 hy
theorem tailIs_all {l : List Int} {k : Nat} {x : Int} (h : tailIs l k x) (hk : l.length ≤ k) : ∀ y ∈ l, y = x := fun y hy => h y (by rw [lastL_all hk]; exact hy)
end Go.Proofs.YthobbekocimcnaaGreat
end
section
set_option linter.unusedSimpArgs false
set_option linter.unusedVariables false
namespace Go.Proofs.YthobbekocimcnaaGreat
set_option maxRecDepth 100000
open Go.RowKit

/-- rates: replicas and hundredths up, the same down, the period, the least, the most -/
structure Rt where
  pu : Int
  cu : Int
  pd : Int
  cd : Int
  per : Int
  mn : Int
  mx : Int
structure Rt.Ok (r : Rt) : Prop where
  pu : 1 ≤ r.pu ∧ r.pu ≤ 1000
  cu : 1 ≤ r.cu ∧ r.cu ≤ 1000
  pd : 1 ≤ r.pd ∧ r.pd ≤ 1000
  cd : 1 ≤ r.cd ∧ r.cd ≤ 100
  per : 1 ≤ r.per ∧ r.per ≤ 60
  mn : 1 ≤ r.mn ∧ r.mn ≤ 10000
  mx : r.mn ≤ r.mx ∧ r.mx ≤ 10000
def Rt.may (r : Rt) : Bool := decide (1 ≤ r.pu ∧ r.pu ≤ 1000) && decide (1 ≤ r.cu ∧ r.cu ≤ 1000) && decide (1 ≤ r.pd ∧ r.pd ≤ 1000) && decide (1 ≤ r.cd ∧ r.cd ≤ 100) && decide (1 ≤ r.per ∧ r.per ≤ 60) && decide (1 ≤ r.mn ∧ r.mn ≤ 10000) && decide (r.mn ≤ r.mx ∧ r.mx ≤ 10000)
theorem Rt.may_iff {r : Rt} : r.may = true ↔ r.Ok := by
  unfold Rt.may
  simp only [Bool.and_eq_true, decide_eq_true_eq]
  exact ⟨fun h => ⟨h.1.1.1.1.1.1, h.1.1.1.1.1.2, h.1.1.1.1.2, h.1.1.1.2, h.1.1.2, h.1.2, h.2⟩, fun h => ⟨⟨⟨⟨⟨⟨h.pu, h.cu⟩, h.pd⟩, h.cd⟩, h.per⟩, h.mn⟩, h.mx⟩⟩
def Rt.hi (r : Rt) (b : Int) : Int := max (b + r.pu) ((b * (100 + r.cu) + 99) / 100)
def Rt.lo (r : Rt) (b : Int) : Int := max (min (b - r.pd) (b * (100 - r.cd) / 100)) 0
def Rt.bounds (r : Rt) (b : Int) : Int × Int := if r.may = true ∧ 0 ≤ b ∧ b ≤ 10000 then (r.lo b, r.hi b) else (0, 0)
def Rt.lim (r : Rt) (b w : Int) : Int := min (max (min (max w (r.lo b)) (r.hi b)) r.mn) r.mx
section
variable {r : Rt} {a b v w : Int}
/-- no product is great -/
theorem Rt.small (h : r.Ok) (h0 : 0 ≤ b) (h1 : b ≤ 10000) : (0 ≤ b * (100 + r.cu) ∧ b * (100 + r.cu) ≤ 11000000) ∧ (0 ≤ b * (100 - r.cd) ∧ b * (100 - r.cd) ≤ 990000) := by
  have c1 := h.cu; have c2 := h.cd
  have e1 : b * (100 + r.cu) ≤ 10000 * 1100 := Int.mul_le_mul h1 (by omega) (by omega) (by omega)
  have e2 : b * (100 - r.cd) ≤ 10000 * 99 := Int.mul_le_mul h1 (by omega) (by omega) (by omega)
  exact ⟨⟨Int.mul_nonneg h0 (by omega), by omega⟩, ⟨Int.mul_nonneg h0 (by omega), by omega⟩⟩
theorem Rt.lo_le (h : r.Ok) (h0 : 0 ≤ b) : 0 ≤ r.lo b ∧ r.lo b ≤ b := by
  have := h.pd
  unfold Rt.lo; omega
theorem Rt.hi_ge (h : r.Ok) : b + 1 ≤ r.hi b := by
  have := h.pu
  unfold Rt.hi; omega
theorem Rt.hi_le (h : r.Ok) (h0 : 0 ≤ b) (h1 : b ≤ 10000) : r.hi b ≤ 110001 := by
  have := h.pu; have := (Rt.small h h0 h1).1
  unfold Rt.hi; omega
theorem Rt.lo_mono (h : r.Ok) (hab : a ≤ b) : r.lo a ≤ r.lo b := by
  have := h.cd
  have e : a * (100 - r.cd) ≤ b * (100 - r.cd) := Int.mul_le_mul_of_nonneg_right hab (by omega)
  have := Int.ediv_le_ediv (show (0 : Int) < 100 by decide) e
  unfold Rt.lo; omega
theorem Rt.hi_mono (h : r.Ok) (hab : a ≤ b) : r.hi a ≤ r.hi b := by
  have := h.cu
  have e : a * (100 + r.cu) ≤ b * (100 + r.cu) := Int.mul_le_mul_of_nonneg_right hab (by omega)
  have := Int.ediv_le_ediv (show (0 : Int) < 100 by decide) (show a * (100 + r.cu) + 99 ≤ b * (100 + r.cu) + 99 by omega)
  unfold Rt.hi; omega
theorem Rt.lim_in (h : r.Ok) : r.mn ≤ r.lim b w ∧ r.lim b w ≤ r.mx := by
  have := h.mx
  unfold Rt.lim; omega
theorem Rt.lim_mono (h : r.Ok) (hab : a ≤ b) (hvw : v ≤ w) : r.lim a v ≤ r.lim b w := by
  have h1 := Rt.lo_mono h hab; have h2 := Rt.hi_mono h hab
  unfold Rt.lim; omega
/-- within all a want stays; between the bounds, if these let it; a limit stays -/
theorem Rt.lim_id (h1 : r.lo b ≤ w) (h2 : w ≤ r.hi b) (h3 : r.mn ≤ w) (h4 : w ≤ r.mx) : r.lim b w = w := by unfold Rt.lim; omega
theorem Rt.lim_between (h : r.Ok) (h0 : r.mn ≤ b) (h1 : b ≤ r.mx) : min (r.lo b) b ≤ r.lim b w ∧ r.lim b w ≤ max (r.hi b) b ∧ r.lo b ≤ r.lim b w ∧ r.lim b w ≤ r.hi b := by
  have h2 := (Rt.lo_le (b := b) h (by have := h.mn; omega)).2; have h3 := Rt.hi_ge (b := b) h
  unfold Rt.lim; omega
theorem Rt.lim_lim (h : r.Ok) (h0 : r.mn ≤ b) (h1 : b ≤ r.mx) : r.lim b (r.lim b w) = r.lim b w := by
  have h2 := Rt.lim_between (w := w) h h0 h1; have h3 := Rt.lim_in (b := b) (w := w) h
  exact Rt.lim_id h2.2.2.1 h2.2.2.2 h3.1 h3.2
end
/-- counts that are kept: the rates, the counts, the oldest first -/
structure Po where
  r : Rt
  l : List Int
structure Po.Ok (p : Po) : Prop where
  r : p.r.Ok
  ne : p.l ≠ []
  n : (p.l.length : Int) ≤ p.r.per
  m : ∀ x ∈ p.l, p.r.mn ≤ x ∧ x ≤ p.r.mx
def Po.base (p : Po) : Int := p.l.headD 0
def Po.in (p : Po) (x : Int) : Bool := decide (p.r.mn ≤ x) && decide (x ≤ p.r.mx)
def Po.put (p : Po) (x : Int) : Int × Po := if p.in x then (0, { p with l := lastL (p.l ++ [x]) p.r.per.toNat }) else (1, p)
def Po.lim (p : Po) (w : Int) : Int := p.r.lim p.base w
def Po.mayset (p : Po) (l : List Int) : Bool := l.all p.in && decide (1 ≤ l.length) && decide ((l.length : Int) ≤ p.r.per)
def Po.set (p : Po) (l : List Int) : Int × Po := if p.mayset l then (0, { p with l := l }) else (1, p)
theorem Po.in_iff {p : Po} {x : Int} : p.in x = true ↔ p.r.mn ≤ x ∧ x ≤ p.r.mx := by unfold Po.in; simp only [Bool.and_eq_true, decide_eq_true_eq]
theorem Po.base_in {p : Po} (h : p.Ok) : p.r.mn ≤ p.base ∧ p.base ≤ p.r.mx := h.m _ (head_mem h.ne)
theorem Po.put_yes {p : Po} {x : Int} (h : p.in x = true) : p.put x = (0, { p with l := lastL (p.l ++ [x]) p.r.per.toNat }) := if_pos h
theorem Po.put_no {p : Po} {x : Int} (h : p.in x = false) : p.put x = (1, p) := if_neg (by rw [h]; decide)
theorem Po.put_ok {p : Po} (h : p.Ok) (x : Int) : (p.put x).2.Ok := by
  cases hi : p.in x with
  | false => rw [Po.put_no hi]; exact h
  | true =>
    rw [Po.put_yes hi]
    have hp := h.r.per
    refine ⟨h.r, lastL_ne (by simp) (by omega), ?_, fun y hy => ?_⟩
    · show ((lastL (p.l ++ [x]) p.r.per.toNat).length : Int) ≤ p.r.per
      rw [lastL_len]; omega
    · rcases List.mem_append.1 (lastL_mem hy) with hy | hy
      · exact h.m y hy
      · rw [List.mem_singleton.1 hy]; exact Po.in_iff.1 hi
theorem Po.set_ok {p : Po} (h : p.Ok) (l : List Int) : (p.set l).2.Ok := by
  unfold Po.set
  split
  · next hm =>
    unfold Po.mayset at hm
    simp only [Bool.and_eq_true, decide_eq_true_eq, List.all_eq_true] at hm
    exact ⟨h.r, fun e => by have h2 := hm.1.2; rw [show l = [] from e] at h2; simp at h2, hm.2, fun x hx => Po.in_iff.1 (hm.1.1 x hx)⟩
  · exact h
theorem Po.new_ok {r : Rt} (h : r.Ok) {x : Int} (h0 : r.mn ≤ x) (h1 : x ≤ r.mx) : (Po.mk r [x]).Ok := by
  have hp := h.per
  refine ⟨h, by simp, by show ((1 : Nat) : Int) ≤ r.per; omega, fun y hy => ?_⟩
  rw [List.mem_singleton.1 hy]; exact ⟨h0, h1⟩
theorem Po.lim_in {p : Po} (h : p.Ok) (w : Int) : p.in (p.lim w) = true := Po.in_iff.2 (Rt.lim_in h.r)
/-- of greater counts before, and a greater want, there comes no lesser limit -/
theorem under_head {A B : List Int} (h : Under A B) (hA : A ≠ []) : A.headD 0 ≤ B.headD 0 := by
  have hB : B ≠ [] := fun e => by have := h.1; rw [e] at this; exact hA (List.length_eq_zero_iff.1 this)
  cases A with
  | nil => exact absurd rfl hA
  | cons a s =>
    cases B with
    | nil => exact absurd rfl hB
    | cons b t => exact h.2 0 a b rfl rfl
theorem Po.lim_mono {p s : Po} (hp : p.Ok) (hr : p.r = s.r) (h : Under p.l s.l) {v w : Int} (hvw : v ≤ w) : p.lim v ≤ s.lim w := by
  unfold Po.lim
  rw [← hr]
  exact Rt.lim_mono hp.r (under_head h hp.ne) hvw
theorem Po.put_under {p s : Po} (hr : p.r = s.r) (h : Under p.l s.l) {x y : Int} (hx : p.in x = true) (hy : s.in y = true) (hxy : x ≤ y) : Under (p.put x).2.l (s.put y).2.l := by
  rw [Po.put_yes hx, Po.put_yes hy]
  show Under (lastL (p.l ++ [x]) p.r.per.toNat) (lastL (s.l ++ [y]) s.r.per.toNat)
  rw [hr]
  exact (h.snoc hxy).last _
end Go.Proofs.YthobbekocimcnaaGreat
end
section
set_option linter.unusedSimpArgs false
set_option linter.unusedVariables false
namespace Go.Proofs.YthobbekocimcnaaGreat
set_option maxRecDepth 100000
open Go.RowKit

/-- may value, target and tolerance be? -/
def raMay (v t l : Int) : Bool := decide (0 ≤ v) && decide (v ≤ 1099511627776) && decide (1 ≤ t) && decide (t ≤ 1099511627776) && decide (0 ≤ l) && decide (l ≤ 1000)
def raNear (v t l : Int) : Bool := decide (t * (1000 - l) ≤ v * 1000) && decide (v * 1000 ≤ t * (1000 + l))
def raIn (v t l : Int) : Bool := raMay v t l && raNear v t l
def raCnt (c : Int) : Bool := decide (0 ≤ c) && decide (c ≤ 10000)
def raOk (c v t l : Int) : Bool := raCnt c && raMay v t l
def raShares (x t : Int) : Int := (x + t - 1) / t
def raWant (c v t l : Int) : Int := if raOk c v t l then (if raNear v t l then c else min 1000000 (raShares (c * v) t)) else 0

theorem raMay_iff {v t l : Int} : raMay v t l = true ↔ (0 ≤ v ∧ v ≤ 1099511627776) ∧ (1 ≤ t ∧ t ≤ 1099511627776) ∧ (0 ≤ l ∧ l ≤ 1000) := by
  unfold raMay; simp only [Bool.and_eq_true, decide_eq_true_eq]; omega
theorem raCnt_iff {c : Int} : raCnt c = true ↔ 0 ≤ c ∧ c ≤ 10000 := by
  unfold raCnt; simp only [Bool.and_eq_true, decide_eq_true_eq]
theorem raOk_iff {c v t l : Int} : raOk c v t l = true ↔ (0 ≤ c ∧ c ≤ 10000) ∧ (0 ≤ v ∧ v ≤ 1099511627776) ∧ (1 ≤ t ∧ t ≤ 1099511627776) ∧ (0 ≤ l ∧ l ≤ 1000) := by
  unfold raOk; rw [Bool.and_eq_true, raCnt_iff, raMay_iff]
theorem raNear_iff {v t l : Int} : raNear v t l = true ↔ t * (1000 - l) ≤ v * 1000 ∧ v * 1000 ≤ t * (1000 + l) := by
  unfold raNear; simp only [Bool.and_eq_true, decide_eq_true_eq]

theorem mul_le' {a b x y : Int} (ha : 0 ≤ a) (hax : a ≤ x) (hb : 0 ≤ b) (hby : b ≤ y) : 0 ≤ a * b ∧ a * b ≤ x * y :=
  ⟨Int.mul_nonneg ha hb, Int.mul_le_mul hax hby hb (Int.le_trans ha hax)⟩
/-- all products stay small -/
theorem ra_low {t l : Int} (ht : 1 ≤ t ∧ t ≤ 1099511627776) (hl : 0 ≤ l ∧ l ≤ 1000) : 0 ≤ t * (1000 - l) ∧ t * (1000 - l) ≤ 1099511627776000 := by
  have := mul_le' (a := t) (b := 1000 - l) (x := 1099511627776) (y := 1000) (by omega) ht.2 (by omega) (by omega); omega
theorem ra_high {t l : Int} (ht : 1 ≤ t ∧ t ≤ 1099511627776) (hl : 0 ≤ l ∧ l ≤ 1000) : 0 ≤ t * (1000 + l) ∧ t * (1000 + l) ≤ 2199023255552000 := by
  have := mul_le' (a := t) (b := 1000 + l) (x := 1099511627776) (y := 2000) (by omega) ht.2 (by omega) (by omega); omega
theorem ra_load {c v : Int} (hc : 0 ≤ c ∧ c ≤ 10000) (hv : 0 ≤ v ∧ v ≤ 1099511627776) : 0 ≤ c * v ∧ c * v ≤ 10995116277760000 := by
  have := mul_le' (a := c) (b := v) (x := 10000) (y := 1099511627776) hc.1 hc.2 hv.1 hv.2; omega
/-- shares: the least number whose multiple is not below the load -/
theorem raShares_spec {x t : Int} (hx : 0 ≤ x) (ht : 1 ≤ t) : 0 ≤ raShares x t ∧ x ≤ raShares x t * t ∧ (0 < raShares x t → (raShares x t - 1) * t < x) := by
  unfold raShares
  have h1 := Int.emod_add_mul_ediv (x + t - 1) t
  have h2 := Int.emod_nonneg (x + t - 1) (show t ≠ 0 by omega)
  have h3 := Int.emod_lt_of_pos (x + t - 1) (show 0 < t by omega)
  have h4 : 0 ≤ (x + t - 1) / t := Int.ediv_nonneg (by omega) (by omega)
  generalize (x + t - 1) / t = q at *
  generalize (x + t - 1) % t = r at *
  rw [Int.mul_comm t q] at h1
  refine ⟨h4, by omega, fun _ => ?_⟩
  rw [Int.sub_mul]; omega
theorem raShares_least {x t k : Int} (ht : 1 ≤ t) (hk : x ≤ k * t) : raShares x t ≤ k := by
  unfold raShares
  have : (x + t - 1) / t < k + 1 := Int.ediv_lt_of_lt_mul (by omega) (by rw [Int.add_mul]; omega)
  omega
theorem raShares_tdiv {x t : Int} (hx : 0 ≤ x) (ht : 1 ≤ t) : (x + t - 1).tdiv t = raShares x t := Int.tdiv_eq_ediv_of_nonneg (by omega)
theorem raShares_mono {x y t : Int} (ht : 1 ≤ t) (h : x ≤ y) : raShares x t ≤ raShares y t := Int.ediv_le_ediv (by omega) (by omega)
theorem raWant_bound (c v t l : Int) : 0 ≤ raWant c v t l ∧ raWant c v t l ≤ 1000000 := by
  unfold raWant
  split
  · next h =>
    obtain ⟨hc, hv, ht, hl⟩ := raOk_iff.1 h
    split
    · omega
    · have := (raShares_spec (x := c * v) (t := t) (ra_load hc hv).1 ht.1).1
      omega
  · omega
theorem raIn_near {c v t l : Int} (h : raOk c v t l = true) : raIn v t l = raNear v t l := by
  unfold raOk at h; unfold raIn
  rw [Bool.and_eq_true] at h
  rw [h.2]; rfl
theorem raWant_in {c v t l : Int} (hc : 0 ≤ c ∧ c ≤ 10000) (h : raIn v t l = true) : raWant c v t l = c := by
  unfold raIn at h
  rw [Bool.and_eq_true] at h
  unfold raWant
  rw [if_pos (by unfold raOk; rw [raCnt_iff.2 hc, h.1]; rfl), if_pos h.2]
theorem raWant_out {c v t l : Int} (h : raOk c v t l = true) (hn : raIn v t l = false) : raWant c v t l = min 1000000 (raShares (c * v) t) := by
  rw [raIn_near h] at hn
  unfold raWant
  rw [if_pos h, if_neg (by rw [hn]; decide)]
theorem raWant_not {c v t l : Int} (h : raOk c v t l = false) : raWant c v t l = 0 := by
  unfold raWant; rw [if_neg (by rw [h]; decide)]
/-- above the target at least the count, below at most that -/
theorem ra_above {c v t : Int} (hc : 0 ≤ c) (ht : 1 ≤ t) (hv : t ≤ v) : c ≤ raShares (c * v) t := by
  have h1 : c * t ≤ c * v := Int.mul_le_mul_of_nonneg_left hv hc
  have h2 : (c * t + t - 1) / t ≤ (c * v + t - 1) / t := Int.ediv_le_ediv (by omega) (by omega)
  have h3 : c ≤ (c * t + t - 1) / t := Int.le_ediv_of_mul_le (by omega) (by omega)
  unfold raShares; omega
theorem ra_below {c v t : Int} (hc : 0 ≤ c) (ht : 1 ≤ t) (hv : v ≤ t) : raShares (c * v) t ≤ c :=
  raShares_least ht (Int.mul_le_mul_of_nonneg_left hv hc)
theorem raShares_pos {x t : Int} (hx : 0 ≤ x) (ht : 1 ≤ t) : 0 < raShares x t ↔ 0 < x := by
  have h := raShares_spec hx ht
  constructor
  · intro hs
    rcases Int.lt_or_le 0 x with h0 | h0
    · exact h0
    · have hz : x = 0 := by omega
      have := raShares_least (x := x) (t := t) (k := 0) ht (by omega)
      omega
  · intro h0
    rcases Int.lt_or_le 0 (raShares x t) with h1 | h1
    · exact h1
    · have hz : raShares x t = 0 := by omega
      rw [hz] at h; omega
theorem raNear_self {t l : Int} (ht : 1 ≤ t) (hl : 0 ≤ l) : raNear t t l = true := by
  refine raNear_iff.2 ⟨?_, ?_⟩
  · exact Int.mul_le_mul_of_nonneg_left (by omega) (by omega)
  · exact Int.mul_le_mul_of_nonneg_left (by omega) (by omega)
/-- out of the band: on which side -/
theorem ra_side {v t l : Int} (h : raNear v t l = false) : v * 1000 < t * (1000 - l) ∨ t * (1000 + l) < v * 1000 := by
  unfold raNear at h
  rcases Int.lt_or_le (v * 1000) (t * (1000 - l)) with h1 | h1
  · exact .inl h1
  · rcases Int.lt_or_le (t * (1000 + l)) (v * 1000) with h2 | h2
    · exact .inr h2
    · rw [decide_eq_true h1, decide_eq_true h2] at h; cases h
theorem ra_low_le {v t l : Int} (ht : 1 ≤ t) (hl : 0 ≤ l) (h : v * 1000 < t * (1000 - l)) : v < t := by
  have : t * (1000 - l) ≤ t * 1000 := Int.mul_le_mul_of_nonneg_left (by omega) (by omega)
  omega
theorem ra_high_ge {v t l : Int} (ht : 1 ≤ t) (hl : 0 ≤ l) (h : t * (1000 + l) < v * 1000) : t < v := by
  have : t * 1000 ≤ t * (1000 + l) := Int.mul_le_mul_of_nonneg_left (by omega) (by omega)
  omega
/-- more load, or more of what is there, never wants fewer -/
theorem raWant_rises {x y p q t l : Int} (hx : 0 ≤ x) (hxy : x ≤ y) (hy : y ≤ 10000) (hp : 0 ≤ p) (hpq : p ≤ q) (hq : q ≤ 1099511627776) (ht : 1 ≤ t ∧ t ≤ 1099511627776) (hl : 0 ≤ l ∧ l ≤ 1000) :
    raWant x p t l ≤ raWant y q t l := by
  have o1 : raOk x p t l = true := raOk_iff.2 ⟨by omega, by omega, ht, hl⟩
  have o2 : raOk y q t l = true := raOk_iff.2 ⟨by omega, by omega, ht, hl⟩
  have hm : x * p ≤ y * q := Int.mul_le_mul hxy hpq hp (by omega)
  have hs := raShares_mono (t := t) ht.1 hm
  unfold raWant
  rw [if_pos o1, if_pos o2]
  cases h1 : raNear p t l with
  | true =>
    rw [if_pos rfl]
    cases h2 : raNear q t l with
    | true => rw [if_pos rfl]; exact hxy
    | false =>
      rw [if_neg (by decide)]
      rcases ra_side h2 with h3 | h3
      · have := raNear_iff.1 h1
        have : p * 1000 ≤ q * 1000 := by omega
        omega
      · have h4 := ra_high_ge ht.1 hl.1 h3
        have h5 := ra_above (c := y) (v := q) (t := t) (by omega) ht.1 (by omega)
        omega
  | false =>
    rw [if_neg (by decide)]
    cases h2 : raNear q t l with
    | true =>
      rw [if_pos rfl]
      rcases ra_side h1 with h3 | h3
      · have h4 := ra_low_le ht.1 hl.1 h3
        have h5 := ra_below (c := x) (v := p) (t := t) hx ht.1 (by omega)
        omega
      · have := raNear_iff.1 h2
        omega
    | false => rw [if_neg (by decide)]; omega

/-- the greatest of several: of which are so many first ones -/
def raTop (c l : Int) : List Int → List Int → Int
  | v :: vs, t :: ts => max (raWant c v t l) (raTop c l vs ts)
  | _, _ => 0
def raAll (c l : Int) : List Int → List Int → Bool
  | v :: vs, t :: ts => raOk c v t l && raAll c l vs ts
  | _, _ => true
def raMost (c : Int) (vs ts : List Int) (l : Int) : Int × Bool :=
  if (vs.length = 0 ∨ vs.length ≠ ts.length) ∨ raAll c l vs ts = false then (0, false) else (raTop c l vs ts, true)

theorem raTop_bound (c l : Int) : ∀ vs ts : List Int, 0 ≤ raTop c l vs ts ∧ raTop c l vs ts ≤ 1000000
  | [], _ => by simp [raTop]
  | _ :: _, [] => by simp [raTop]
  | v :: vs, t :: ts => by
    have := raTop_bound c l vs ts
    have := raWant_bound c v t l
    simp only [raTop]; omega
theorem raTop_snoc (c l : Int) : ∀ (vs ts : List Int) (v t : Int), vs.length = ts.length → raTop c l (vs ++ [v]) (ts ++ [t]) = max (raTop c l vs ts) (raWant c v t l)
  | [], [], v, t, _ => by have := raWant_bound c v t l; simp only [raTop, List.nil_append]; omega
  | [], _ :: _, _, _, h => by simp at h
  | _ :: _, [], _, _, h => by simp at h
  | a :: vs, b :: ts, v, t, h => by
    simp only [List.length_cons, Nat.add_right_cancel_iff] at h
    simp only [List.cons_append, raTop, raTop_snoc c l vs ts v t h]; omega
theorem raAll_snoc (c l : Int) : ∀ (vs ts : List Int) (v t : Int), vs.length = ts.length → raAll c l (vs ++ [v]) (ts ++ [t]) = (raAll c l vs ts && raOk c v t l)
  | [], [], v, t, _ => by simp [raAll]
  | [], _ :: _, _, _, h => by simp at h
  | _ :: _, [], _, _, h => by simp at h
  | a :: vs, b :: ts, v, t, h => by
    simp only [List.length_cons, Nat.add_right_cancel_iff] at h
    simp only [List.cons_append, raAll, raAll_snoc c l vs ts v t h, Bool.and_assoc]
theorem take_snoc {l : List Int} {k : Nat} {x : Int} (h : l[k]? = some x) : l.take (k + 1) = l.take k ++ [x] := by
  obtain ⟨hk, rfl⟩ := List.getElem?_eq_some_iff.1 h
  exact List.take_succ_eq_append_getElem hk
/-- of the first k of both -/
def topK (c l : Int) (vs ts : List Int) (k : Nat) : Int := raTop c l (vs.take k) (ts.take k)
def allK (c l : Int) (vs ts : List Int) (k : Nat) : Bool := raAll c l (vs.take k) (ts.take k)
theorem topK_zero (c l : Int) (vs ts : List Int) : topK c l vs ts 0 = 0 := by unfold topK; simp [raTop]
theorem allK_zero (c l : Int) (vs ts : List Int) : allK c l vs ts 0 = true := by unfold allK; simp [raAll]
theorem topK_bound (c l : Int) (vs ts : List Int) (k : Nat) : 0 ≤ topK c l vs ts k ∧ topK c l vs ts k ≤ 1000000 := raTop_bound ..
theorem topK_next {c l v t : Int} {vs ts : List Int} {k : Nat} (hv : vs[k]? = some v) (ht : ts[k]? = some t) : topK c l vs ts (k + 1) = max (topK c l vs ts k) (raWant c v t l) := by
  have h1 := (List.getElem?_eq_some_iff.1 hv).1; have h2 := (List.getElem?_eq_some_iff.1 ht).1
  unfold topK; rw [take_snoc hv, take_snoc ht, raTop_snoc _ _ _ _ _ _ (by rw [List.length_take, List.length_take]; omega)]
theorem allK_next {c l v t : Int} {vs ts : List Int} {k : Nat} (hv : vs[k]? = some v) (ht : ts[k]? = some t) : allK c l vs ts (k + 1) = (allK c l vs ts k && raOk c v t l) := by
  have h1 := (List.getElem?_eq_some_iff.1 hv).1; have h2 := (List.getElem?_eq_some_iff.1 ht).1
  unfold allK; rw [take_snoc hv, take_snoc ht, raAll_snoc _ _ _ _ _ _ (by rw [List.length_take, List.length_take]; omega)]
theorem allK_full {c l : Int} {vs ts : List Int} {n : Nat} (h1 : vs.length = n) (h2 : ts.length = n) : allK c l vs ts n = raAll c l vs ts := by
  unfold allK; rw [List.take_of_length_le (by omega), List.take_of_length_le (by omega)]
theorem topK_full {c l : Int} {vs ts : List Int} {n : Nat} (h1 : vs.length = n) (h2 : ts.length = n) : topK c l vs ts n = raTop c l vs ts := by
  unfold topK; rw [List.take_of_length_le (by omega), List.take_of_length_le (by omega)]
theorem raAll_cut (c l : Int) : ∀ (vs ts : List Int) (k : Nat), vs.length = ts.length → allK c l vs ts k = false → raAll c l vs ts = false
  | [], [], k, _, h => by simp [allK, raAll] at h
  | [], _ :: _, _, h, _ => by simp at h
  | _ :: _, [], _, h, _ => by simp at h
  | v :: vs, t :: ts, 0, _, h => by simp [allK, raAll] at h
  | v :: vs, t :: ts, k + 1, hl, h => by
    simp only [List.length_cons, Nat.add_right_cancel_iff] at hl
    simp only [allK, List.take_succ_cons, raAll] at h ⊢
    cases ho : raOk c v t l with
    | false => rfl
    | true => rw [ho] at h; simp only [Bool.true_and] at h ⊢; exact raAll_cut c l vs ts k hl h
theorem raMost_len {c l : Int} {vs ts : List Int} (h : vs.length = 0 ∨ vs.length ≠ ts.length) : raMost c vs ts l = (0, false) := if_pos (.inl h)
theorem raMost_bad {c l : Int} {vs ts : List Int} (h : raAll c l vs ts = false) : raMost c vs ts l = (0, false) := if_pos (.inr h)
theorem raMost_ok {c l : Int} {vs ts : List Int} (h : vs.length ≠ 0) (h2 : vs.length = ts.length) (ha : raAll c l vs ts = true) : raMost c vs ts l = (raTop c l vs ts, true) :=
  if_neg (by rintro ((h' | h') | h'); exact h h'; exact h' h2; rw [ha] at h'; cases h')
theorem raAll_cnt {c l : Int} {vs ts : List Int} (h : vs.length ≠ 0) (h2 : vs.length = ts.length) (hc : raCnt c = false) : raAll c l vs ts = false := by
  match vs, ts, h, h2 with
  | v :: vs, t :: ts, _, _ => unfold raAll raOk; rw [hc]; rfl
  | v :: vs, [], _, h2 => simp at h2
  | [], _, h, _ => simp at h
theorem raWant_cnt {c v t l : Int} (hc : raCnt c = true) (h : raMay v t l = true) : raOk c v t l = true := by unfold raOk; rw [hc, h]; rfl
end Go.Proofs.YthobbekocimcnaaGreat
end
section
set_option linter.unusedSimpArgs false
set_option linter.unusedVariables false
namespace Go.Proofs.YthobbekocimcnaaGreat
set_option maxRecDepth 100000
open Go.RowKit

theorem raTop_rises {x y l : Int} (hx : 0 ≤ x) (hxy : x ≤ y) (hy : y ≤ 10000) (hl : 0 ≤ l ∧ l ≤ 1000) : ∀ (vs ws ts : List Int), Under vs ws → (∀ v ∈ vs, 0 ≤ v) → (∀ w ∈ ws, w ≤ 1099511627776) → (∀ t ∈ ts, 1 ≤ t ∧ t ≤ 1099511627776) → raTop x l vs ts ≤ raTop y l ws ts
  | [], [], ts, _, _, _, _ => by cases ts <;> exact Int.le_refl _
  | [], _ :: _, ts, h, _, _, _ => by have := h.1; simp at this
  | _ :: _, [], ts, h, _, _, _ => by have := h.1; simp at this
  | v :: vs, w :: ws, [], _, _, _, _ => by simp only [raTop]; exact Int.le_refl _
  | v :: vs, w :: ws, t :: ts, h, h1, h2, h3 => by
    have hvw : v ≤ w := h.2 0 v w rfl rfl
    have hu : Under vs ws := ⟨by have := h.1; simpa using this, fun i a b ha hb => h.2 (i + 1) a b (by simpa using ha) (by simpa using hb)⟩
    have ih := raTop_rises hx hxy hy hl vs ws ts hu (fun a ha => h1 a (List.mem_cons_of_mem _ ha)) (fun a ha => h2 a (List.mem_cons_of_mem _ ha)) (fun a ha => h3 a (List.mem_cons_of_mem _ ha))
    have h4 := raWant_rises (t := t) (l := l) hx hxy hy (h1 v (List.mem_cons_self ..)) hvw (h2 w (List.mem_cons_self ..)) (h3 t (List.mem_cons_self ..)) hl
    simp only [raTop]; omega
/-- all within their bands: just the count is wanted -/
theorem raTop_band {c l : Int} (hc : 0 ≤ c ∧ c ≤ 10000) : ∀ (vs ts : List Int), vs.length = ts.length → vs ≠ [] → (∀ (i : Nat) (v t : Int), vs[i]? = some v → ts[i]? = some t → raIn v t l = true) → raTop c l vs ts = c
  | [], _, _, h, _ => absurd rfl h
  | v :: vs, [], h, _, _ => by simp at h
  | v :: vs, t :: ts, h, _, hb => by
    have h0 := raWant_in hc (hb 0 v t rfl rfl)
    have hl : vs.length = ts.length := by simpa using h
    by_cases hv : vs = []
    · subst hv
      have : raTop c l [] ts = 0 := by simp [raTop]
      simp only [raTop, this, h0]; omega
    · have ih := raTop_band hc vs ts hl hv (fun i a b ha hb' => hb (i + 1) a b (by simpa using ha) (by simpa using hb'))
      simp only [raTop, ih, h0]; omega
structure La where
  tg : List Int
  tol : Int
  ca : Ca
  po : Po
  n : Int
structure La.Ok (s : La) : Prop where
  tg : ∀ t ∈ s.tg, 1 ≤ t ∧ t ≤ 1099511627776
  ne : s.tg ≠ []
  tol : 0 ≤ s.tol ∧ s.tol ≤ 1000
  ca : s.ca.Ok
  po : s.po.Ok
  n : s.po.r.mn ≤ s.n ∧ s.n ≤ s.po.r.mx
def La.may (s : La) (vs : List Int) : Bool := (raMost s.n vs s.tg s.tol).2
def La.want (s : La) (vs : List Int) : Int := (raMost s.n vs s.tg s.tol).1
def La.come (s : La) (vs : List Int) : Int := s.po.lim ((s.ca.push (s.want vs)).out s.n)
def La.next (s : La) (vs : List Int) : La := { s with ca := s.ca.push (s.want vs), po := (s.po.put (s.come vs)).2, n := s.come vs }
def La.hold (s : La) : La := { s with po := (s.po.put s.n).2 }
theorem La.n_in {s : La} (h : s.Ok) : 0 ≤ s.n ∧ s.n ≤ 10000 := by have := h.n; have := h.po.r.mn; have := h.po.r.mx; omega
theorem La.come_in {s : La} (h : s.Ok) (vs : List Int) : s.po.r.mn ≤ s.come vs ∧ s.come vs ≤ s.po.r.mx := Rt.lim_in h.po.r
theorem La.next_ok {s : La} (h : s.Ok) (vs : List Int) : (s.next vs).Ok := by
  refine ⟨h.tg, h.ne, h.tol, Ca.push_ok h.ca _, Po.put_ok h.po _, ?_⟩
  have e : (s.next vs).po.r = s.po.r := by
    show (s.po.put (s.come vs)).2.r = s.po.r
    rw [Po.put_yes (x := s.come vs) (Po.lim_in h.po _)]
  rw [e]; exact La.come_in h vs
theorem La.hold_ok {s : La} (h : s.Ok) : s.hold.Ok := by
  refine ⟨h.tg, h.ne, h.tol, h.ca, Po.put_ok h.po _, ?_⟩
  have e : s.hold.po.r = s.po.r := by
    show (s.po.put s.n).2.r = s.po.r
    rw [Po.put_yes (Po.in_iff.2 h.n)]
  rw [e]; exact h.n
theorem La.most {s : La} (h : s.Ok) {vs : List Int} (hl : vs.length = s.tg.length) (hv : ∀ v ∈ vs, 0 ≤ v ∧ v ≤ 1099511627776) (hall : raAll s.n s.tol vs s.tg = true) : s.may vs = true ∧ s.want vs = raTop s.n s.tol vs s.tg := by
  have hne : vs.length ≠ 0 := fun e => h.ne (List.length_eq_zero_iff.1 (hl ▸ e))
  have := raMost_ok (c := s.n) (l := s.tol) hne hl hall
  unfold La.may La.want
  rw [this]; exact ⟨rfl, rfl⟩
/-- two laws of one configuration, the one at least the other -/
structure Below2 (s t : La) : Prop where
  tg : s.tg = t.tg
  tol : s.tol = t.tol
  u : s.ca.up = t.ca.up
  d : s.ca.down = t.ca.down
  r : s.po.r = t.po.r
  ca : Under s.ca.l t.ca.l
  po : Under s.po.l t.po.l
  n : s.n ≤ t.n
theorem Below2.hold {s t : La} (hs : s.Ok) (ht : t.Ok) (h : Below2 s t) : Below2 s.hold t.hold :=
  ⟨h.tg, h.tol, h.u, h.d, by
    show (s.po.put s.n).2.r = (t.po.put t.n).2.r
    rw [Po.put_yes (Po.in_iff.2 hs.n), Po.put_yes (Po.in_iff.2 ht.n)]; exact h.r, h.ca, Po.put_under h.r h.po (Po.in_iff.2 hs.n) (Po.in_iff.2 ht.n) h.n, h.n⟩
theorem Below2.next {s t : La} (hs : s.Ok) (ht : t.Ok) (h : Below2 s t) {vs ws : List Int} (hvw : Under vs ws) (w1 : s.want vs = raTop s.n s.tol vs s.tg) (w2 : t.want ws = raTop t.n t.tol ws t.tg) (hv : ∀ v ∈ vs, 0 ≤ v) (hw : ∀ w ∈ ws, w ≤ 1099511627776) : Below2 (s.next vs) (t.next ws) := by
  have b1 := La.n_in hs; have b2 := La.n_in ht
  have hwant : s.want vs ≤ t.want ws := by
    rw [w1, w2, ← h.tg, ← h.tol]
    exact raTop_rises b1.1 h.n b2.2 hs.tol vs ws s.tg hvw hv hw hs.tg
  have hca := Ca.push_under h.u h.d h.ca hwant
  have hout : (s.ca.push (s.want vs)).out s.n ≤ (t.ca.push (t.want ws)).out t.n := Ca.out_rises (A := s.ca.push (s.want vs)) (B := t.ca.push (t.want ws)) h.u h.d hca (Ca.push_ne _ _) h.n
  have hcome : s.come vs ≤ t.come ws := Po.lim_mono hs.po h.r h.po hout
  have i1 : s.po.in (s.come vs) = true := Po.lim_in hs.po _
  have i2 : t.po.in (t.come ws) = true := Po.lim_in ht.po _
  refine ⟨h.tg, h.tol, h.u, h.d, ?_, hca, Po.put_under h.r h.po i1 i2 hcome, hcome⟩
  show (s.po.put (s.come vs)).2.r = (t.po.put (t.come ws)).2.r
  rw [Po.put_yes i1, Po.put_yes i2]; exact h.r
/-- what stays where all values stay within their bands: the count; all that is kept is it -/
structure Flat (s : La) (f : Int) : Prop where
  n : s.n = f
  ca : ∀ x ∈ s.ca.l, x = f
  po : ∀ x ∈ s.po.l, x = f
theorem Flat.hold {s : La} (hs : s.Ok) {f : Int} (h : Flat s f) : Flat s.hold f := by
  refine ⟨h.n, h.ca, fun x hx => ?_⟩
  have hx : x ∈ (s.po.put s.n).2.l := hx
  rw [Po.put_yes (Po.in_iff.2 hs.n)] at hx
  rcases List.mem_append.1 (lastL_mem hx) with hx | hx
  · exact h.po x hx
  · rw [List.mem_singleton.1 hx]; exact h.n
theorem Flat.next {s : La} (hs : s.Ok) {f : Int} (h : Flat s f) {vs : List Int} (hw : s.want vs = f) : Flat (s.next vs) f ∧ s.come vs = f := by
  have b := La.n_in hs
  have hf : mill f = f := mill_id (by rw [← h.n]; omega)
  have hall : ∀ x ∈ (s.ca.push (s.want vs)).l, x = f := fun x hx => by
    rw [Ca.push_snoc] at hx
    rcases List.mem_append.1 hx with hx | hx
    · exact h.ca x (lastL_mem hx)
    · rw [List.mem_singleton.1 hx, hw, hf]
  have hout := Ca.out_steady (Ca.push_ne s.ca (s.want vs)) hall s.n
  have hbase : s.po.base = f := h.po _ (head_mem hs.po.ne)
  have hmn := hs.n
  rw [h.n] at hmn
  have hcome : s.come vs = f := by
    unfold La.come Po.lim
    rw [hout, hbase]
    have h1 := (Rt.lo_le (r := s.po.r) (b := f) hs.po.r (by have := hs.po.r.mn; omega)).2
    have h2 := Rt.hi_ge (r := s.po.r) (b := f) hs.po.r
    exact Rt.lim_id h1 (by omega) hmn.1 hmn.2
  refine ⟨⟨hcome, hall, fun x hx => ?_⟩, hcome⟩
  have hx : x ∈ (s.po.put (s.come vs)).2.l := hx
  rw [Po.put_yes (x := s.come vs) (Po.lim_in hs.po _)] at hx
  rcases List.mem_append.1 (lastL_mem hx) with hx | hx
  · exact h.po x hx
  · rw [List.mem_singleton.1 hx]; exact hcome
end Go.Proofs.YthobbekocimcnaaGreat
end
section
namespace Go.Proofs.YthobbekocimcnaaGreat
set_option maxRecDepth 100000
open Go.RowKit

theorem hid {p : Prop} (h : p) : Hid p := h
theorem gb_trans {a b c : World} {r r' : Option Nat} (h : a.grownBy b r) (k : b.grownBy c r') (hr : r' = none ∨ r' = r ∨ ∃ j, r' = some j ∧ a.heap.size ≤ j) : a.grownBy c r :=
  ⟨k.os.trans h.os, k.tape.trans h.tape, k.output.trans h.output, Nat.le_trans h.size k.size, fun i hi hn => by
    have h1 := h.size
    rw [k.block i (by omega) (by
      rcases hr with e | e | ⟨j, e, hj⟩
      · rw [e]; simp
      · rw [e]; exact hn
      · rw [e]; intro h2; cases h2; omega)]
    exact h.block i hi hn⟩
theorem gb_alloc {w w1 : World} {r : Option Nat} (h : w.grownBy w1 r) (o : Obj) : w.grownBy (w1.alloc o) r := gb_trans h (World.grownBy_alloc w1 o none) (.inl rfl)
theorem gb_drew {w w1 : World} {r : Option Nat} (h : w.grownBy w1 r) : w.grownBy w1.drew r :=
  ⟨h.os, h.tape, h.output, h.size, h.block⟩
theorem gb_new {w w1 : World} {r : Option Nat} (h : w.grownBy w1 r) {p : Addr} (hp : w.heap.size ≤ p.block) (v : Value) : w.grownBy (w1.setCell p v) r :=
  ⟨h.os, h.tape, h.output, by simpa [World.setCell] using h.size, fun k hk hr => by
    rw [Below.heap_setCell _ _ _ _ (by omega)]; exact h.block k hk hr⟩
theorem gb_row {w w1 : World} {b : Nat} (h : w.grownBy w1 (some b)) {p : Addr} (hp : p.block = b) (v : Value) : w.grownBy (w1.setCell p v) (some b) :=
  ⟨h.os, h.tape, h.output, by simpa [World.setCell] using h.size, fun k hk hr => by
    rw [Below.heap_setCell _ _ _ _ (by intro e; apply hr; rw [e, hp])]; exact h.block k hk hr⟩
theorem gb_below {w w1 : World} (h : w.grownBy w1 none) : Below w.heap.size w w1 :=
  ⟨h.os, h.tape, h.output, h.size, fun k hk => h.block k hk (by simp)⟩
theorem gb_size {w w1 : World} {r : Option Nat} (h : w.grownBy w1 r) : w.heap.size ≤ w1.heap.size := h.size
/-- a block behind a store into it -/
theorem at_set {w : World} {b : Nat} {c : Array Value} {t : TypeId} {f : Nat × Nat} (h : w.heap[b]? = some (.cells c t f)) (i : Nat) (v : Value) :
    (w.setCell ⟨b, i, none⟩ v).heap[b]? = some (.cells (c.setIfInBounds i v) t f) := by
  simp [World.setCell, Array.getElem?_modify, h]
theorem at_set_other {w : World} {b : Nat} {o : Option Obj} (h : w.heap[b]? = o) {p : Addr} (hp : b ≠ p.block) (v : Value) : (w.setCell p v).heap[b]? = o := by
  rw [Below.heap_setCell _ _ _ _ hp]; exact h
theorem at_alloc {w : World} {b : Nat} {o : Obj} (h : w.heap[b]? = some o) (o' : Obj) : (w.alloc o').heap[b]? = some o := by
  have hb : b < w.heap.size := by
    rcases Nat.lt_or_ge b w.heap.size with hb | hb
    · exact hb
    · rw [Array.getElem?_eq_none hb] at h; cases h
  rw [Below.heap_alloc _ _ _ hb]; exact h
theorem at_drew {w : World} {b : Nat} {o : Obj} (h : w.heap[b]? = some o) : w.drew.heap[b]? = some o := h
theorem at_lt {w : World} {b : Nat} {o : Obj} (h : w.heap[b]? = some o) : b < w.heap.size := by
  rcases Nat.lt_or_ge b w.heap.size with hb | hb
  · exact hb
  · rw [Array.getElem?_eq_none hb] at h; cases h
theorem at_new (w : World) (o : Obj) : (w.alloc o).heap[w.heap.size]? = some o := by
  show (w.heap.push o)[w.heap.size]? = some o
  simp
theorem at_grown {w w1 : World} {r : Option Nat} {b : Nat} {o : Obj} (h : w.heap[b]? = some o) (hg : w.grownBy w1 r) (hr : some b ≠ r) : w1.heap[b]? = some o := by
  rw [hg.block b (at_lt h) hr]; exact h
theorem at_cell {w : World} {b : Nat} {c : Array Value} {t : TypeId} {f : Nat × Nat} (h : w.heap[b]? = some (.cells c t f)) (i : Nat) : w.cell? ⟨b, i, none⟩ = c[i]? := by
  simp [World.cell?, h]
theorem at_free {w : World} {b : Nat} {c : Array Value} {t : TypeId} (h : w.heap[b]? = some (.cells c t (0, 0))) (i : Nat) : w.frozen? ⟨b, i, none⟩ = false := by
  simp [World.frozen?, h]
/-- behind a region: of the world keep just what is said -/
theorem exit_gen {K : Act → World → Prop} {Q : Exit → Act → World → Prop} {x : Exit} {a : Act} {w : World} (P : World → Prop) (h : P w) (k : ∀ wx, P wx → Exit.then K Q x a wx) : Exit.then K Q x a w := k w h
end Go.Proofs.YthobbekocimcnaaGreat
end
section
set_option linter.unusedSimpArgs false
namespace Go.Proofs.YthobbekocimcnaaGreat
set_option maxRecDepth 100000
open Go.RowKit

/-- sync/atomic's Int64 -/
theorem load_i64 (a : Addr) (x : Int) (w : World) (hc : w.cell? a = some (.int .i64 x)) :
    Calls Tryz.prog 36 #[.pointer (some a)] w fun e w' => e = .returned (.int .i64 x) ∧ w = w' := by
  have hl := run_call_load (P := Tryz.prog) Tryz.func66 (by kernel_rfl) (by kernel_rfl) (by kernel_rfl) .i64 (by kernel_rfl) hc
  go_enter Tryz.func36, Tryz.ntmps36
  go_wp2
  go_ret
  exact ⟨rfl, rfl⟩
theorem addn_i64 (a : Addr) (x y s : Int) (w : World) (hc : w.cell? a = some (.int .i64 x)) (hz : w.frozen? a = false) (hs : IntKind.i64.wrap (x + y) = s) :
    Calls Tryz.prog 52 #[.pointer (some a), .int .i64 y] w fun e w' => e = .returned (.int .i64 s) ∧ w' = w.setCell a (.int .i64 s) := by
  have hadd := run_call_add (P := Tryz.prog) Tryz.func77 (by kernel_rfl) (by kernel_rfl) (by kernel_rfl) .i64 (by kernel_rfl) (y := y) (s := s) hc hz (by rw [show Op.intArith .add .i64 x y = pure (.int .i64 (IntKind.i64.wrap (x + y))) from rfl, hs]; rfl)
  clear hs
  go_enter Tryz.func52, Tryz.ntmps52
  go_wp2
  go_ret
  exact ⟨rfl, rfl⟩
theorem store_i64 (a : Addr) (y : Int) (u : Value) (w : World) (hc : w.cell? a = some u) (hz : w.frozen? a = false) :
    Calls Tryz.prog 23 #[.pointer (some a), .int .i64 y] w fun e w' => e = .returned (.tuple #[]) ∧ w' = w.setCell a (.int .i64 y) := by
  have hs := run_call_store (P := Tryz.prog) Tryz.func46 (by kernel_rfl) (by kernel_rfl) (by kernel_rfl) (by kernel_rfl) (k := .i64) (y := y) hc hz
  go_enter Tryz.func23, Tryz.ntmps23
  go_wp2
  go_end0
  exact ⟨rfl, rfl⟩
theorem add_i64 (a : Addr) (x : Int) (w : World) (hc : w.cell? a = some (.int .i64 x)) (hz : w.frozen? a = false) (h0 : 0 ≤ x) (h1 : x < 1000000000000000000) :
    Calls Tryz.prog 52 #[.pointer (some a), .int .i64 1] w fun e w' => e = .returned (.int .i64 (x + 1)) ∧ w' = w.setCell a (.int .i64 (x + 1)) := by
  have hadd := run_call_add (P := Tryz.prog) Tryz.func77 (by kernel_rfl) (by kernel_rfl) (by kernel_rfl) .i64 (by kernel_rfl) (y := 1) (s := x + 1) hc hz (by simp [go_sem, IntKind.wrap, IntKind.bits, IntKind.signed]; omega)
  go_enter Tryz.func52, Tryz.ntmps52
  go_wp2
  go_ret
  exact ⟨rfl, rfl⟩
theorem still_of {f : FuncId} {args : Array Value} {w : World} {v : Value} (h : Calls Tryz.prog f args w fun e w' => e = .returned v ∧ w = w') : Calls Tryz.prog f args w fun e w' => e = .returned v ∧ w' = w := h.mono fun _ _ ⟨h1, h2⟩ => ⟨h1, h2.symm⟩
end Go.Proofs.YthobbekocimcnaaGreat
end
section
namespace Go.Proofs.YthobbekocimcnaaGreat
set_option maxRecDepth 100000
open Go.ChangeShapes Go.WideShapes Go.ChangeAt Go.RowKit

/-- which kind of number is the i-th cell of a value of this type? -/
def kindAt (P : Program) : Nat → TypeId → Nat → Option IntKind
  | 0, _, _ => none
  | n + 1, t, i => match P.underlying t with
    | some (.int k) => if i = 0 then some k else none
    | some (.array m e) => if i < m * P.cellsOf e then kindAt P n e (i % P.cellsOf e) else none
    | some (.struct fs) => match fs.find? (fun f => decide (f.offset ≤ i) && decide (i < f.offset + P.cellsOf f.type)) with
      | some f => kindAt P n f.type (i - f.offset)
      | none => none
    | _ => none

section
variable {H : Type} {enc : TypeId × Value → H} {P : Program} {w : World} {base : Nat} {spare : Nat → Bool} {held : Bool}
theorem take_drop_at {cs : List Value} {o c j : Nat} (hj : j < c) : ((cs.drop o).take c)[j]? = cs[o + j]? := by
  rw [List.getElem?_take_of_lt hj, List.getElem?_drop]
theorem kindAt_reads : ∀ (n : Nat) (t : TypeId) (i : Nat) (k : IntKind), kindAt P n t i = some k → ∀ (fuel : Nat) (cs : List Value) (x : DataW H × List MemPlace),
    DataW.trod enc P w base spare held fuel t cs = some x → ∃ z, cs[i]? = some (.int k z) ∧ (Lit.int k z).wf = true
  | 0, _, _, _, h => by simp [kindAt] at h
  | n + 1, t, i, k, h => by
    intro fuel cs x hx
    unfold kindAt at h
    split at h
    · rename_i k' hu
      split at h
      · rename_i hi
        subst hi
        cases h
        obtain ⟨z, rfl, _, hw⟩ := DataW.trod_int hu hx
        exact ⟨z, rfl, hw⟩
      · cases h
    · rename_i m e hu
      split at h
      · rename_i hi
        obtain ⟨xs, m', _, _, hl, hn, hf⟩ := DataW.trod_array hu hx
        have hc : 0 < P.cellsOf e := by
          rcases Nat.eq_zero_or_pos (P.cellsOf e) with h0 | h0
          · rw [h0] at hi; simp at hi
          · exact h0
        have hj : i / P.cellsOf e < m := by rw [Nat.div_lt_iff_lt_mul hc]; exact hi
        have h1 := hf (i / P.cellsOf e) hj
        rw [List.getElem?_eq_getElem (by omega)] at h1
        obtain ⟨z, hz, hw⟩ := kindAt_reads n e _ k h _ _ _ h1
        rw [take_drop_at (Nat.mod_lt _ hc), Nat.mul_comm, Nat.div_add_mod] at hz
        exact ⟨z, hz, hw⟩
      · cases h
    · rename_i fs hu
      split at h
      · rename_i f hf
        have h1 := Array.find?_some hf
        have h2 := Array.mem_of_find?_eq_some hf
        simp only [Bool.and_eq_true, decide_eq_true_eq] at h1
        obtain ⟨j, hj⟩ := Array.mem_iff_getElem?.1 h2
        obtain ⟨xs, m', _, _, hl, hn, hg⟩ := DataW.trod_struct hu hx
        have h3 := hg j f hj
        have hjl : j < fs.size := (Array.getElem?_eq_some_iff.1 hj).1
        rw [List.getElem?_eq_getElem (by omega)] at h3
        obtain ⟨z, hz, hw⟩ := kindAt_reads n f.type _ k h _ _ _ h3
        rw [take_drop_at (by omega)] at hz
        exact ⟨z, by rw [← hz]; congr 1; omega, hw⟩
      · cases h
    · cases h
end
end Go.Proofs.YthobbekocimcnaaGreat
end
section
namespace Go.Proofs.YthobbekocimcnaaGreat
set_option maxRecDepth 100000
open Go.ChangeShapes Go.WideShapes Go.ChangeAt Go.RowKit

theorem own : ownKnob Tryz.prog.godebug = none := by kernel_rfl
theorem laidOut : laidOutB Tryz.prog = true := by kernel_rfl

/-- Whole lists of arguments, behind a call that changed nothing that was there. -/
theorem all_below {P : Program} (hP : laidOutB P = true) {H : Type} {enc : TypeId × Value → H} {W W' : World} (hb : Below W.heap.size W W') {ts : List TypeId} :
    ∀ {vs : List Value} {ds : List (DataW H)} {ps : List MemPlace}, (ts.all fun t => P.readableRec t && decide (t < P.types.size)) = true →
      DataW.TrodAll enc P W 0 (fun _ => true) true ts vs ds ps → (∀ x ∈ ps, x.block < W.heap.size) →
      DataW.TrodAll enc P W' 0 (fun b => decide (b < W.heap.size)) true ts vs ds ps := by
  induction ts with
  | nil =>
    intro vs ds ps _ h _
    obtain ⟨rfl, rfl, rfl⟩ := trodAll_nil h
    rfl
  | cons t ts ih =>
    intro vs ds ps ht h hlt
    obtain ⟨v, vs', d, ds', p, q, rfl, rfl, rfl, h1, h2⟩ := trodAll_cons h
    simp only [List.all_cons, Bool.and_eq_true, decide_eq_true_eq] at ht
    exact ⟨p, q, Below.trod hP ht.1.1 ht.1.2 h1 hb (fun x hx => hlt x (List.mem_append_left _ hx)), ih ht.2 h2 (fun x hx => hlt x (List.mem_append_right _ hx)), rfl⟩
end Go.Proofs.YthobbekocimcnaaGreat
end
section
set_option linter.unusedSimpArgs false
namespace Go.Proofs.YthobbekocimcnaaGreat
set_option maxRecDepth 100000
open Go.ChangeShapes Go.WideShapes Go.ChangeAt Go.RowKit

def IntsAt (w : World) (v : Value) (l : List Int) : Prop :=
  (v = .slice none 0 0 ∧ l = []) ∨
  ∃ a cap, v = .slice (some a) l.length cap ∧ l.length ≤ cap ∧ cap ≤ maxLen ∧ ∀ i, (h : i < l.length) → w.cell? (a.add i) = some (.int .i64 l[i])
theorem IntsAt.grown {w w1 : World} {v : Value} {l : List Int} (h : IntsAt w v l) (hg : w.grownBy w1 none) : IntsAt w1 v l := by
  rcases h with h | ⟨a, cap, rfl, h1, h2, h3⟩
  · exact .inl h
  · exact .inr ⟨a, cap, rfl, h1, h2, fun i hi => hg.cell (h3 i hi) (by simp)⟩
theorem IntsAt.cells {w : World} {v : Value} {l : List Int} (h : IntsAt w v l) (hp : 0 < l.length) :
    ∃ ab ao cap, v = .slice (some ⟨ab, ao, none⟩) l.length cap ∧ ∀ i, (h : i < l.length) → w.cell? ⟨ab, ao + i, none⟩ = some (.int .i64 l[i]) := by
  rcases h with ⟨_, rfl⟩ | ⟨⟨ab, ao, asp⟩, cap, rfl, _, _, h3⟩
  · cases hp
  · have h0 := h3 0 hp
    have hsp : asp = none := by simpa [Addr.add] using World.cell?_spot h0
    subst hsp
    refine ⟨ab, ao, cap, rfl, fun i hi => ?_⟩
    have := h3 i hi
    unfold Addr.add at this
    split at this
    · next h => subst h; simpa using this
    · simpa using this
section
variable {H : Type} {enc : TypeId × Value → H} {w : World} {base : Nat} {d : DataW H} {ps : List MemPlace} {v : Value} {t e : TypeId}
/-- a slice of numbers -/
theorem open_intlist (ht : Tryz.prog.underlying t = some (.slice e)) (he : Tryz.prog.underlying e = some (.int .i64)) (hc : Tryz.prog.cellsOf e = 1)
    (hval : Value.okWide Tryz.prog w .any base t v) (h : DataW.Trod enc Tryz.prog w 0 (fun _ => true) true t v d ps) :
    ∃ l : List Int, ∃ p c, v = .slice p l.length c ∧ IntsAt w v l := by
  obtain ⟨a0, len, cap, rfl⟩ := okWide_slice ht hval
  obtain ⟨fuel, hf⟩ := h
  rcases open_ints ht he hc hf with ⟨hcs, _⟩ | ⟨a, len', cap', zs, hcs, _, hl, hm, hz, _, hcell, _⟩
  · simp [Value.cells] at hcs
    obtain ⟨rfl, rfl, rfl⟩ := hcs
    exact ⟨[], none, 0, rfl, .inl ⟨rfl, rfl⟩⟩
  · simp [Value.cells] at hcs
    obtain ⟨rfl, rfl, rfl⟩ := hcs
    have hz' : zs.length = cap := by simpa using hz
    refine ⟨zs.take len, some a, cap, by simp; omega, .inr ⟨a, cap, by simp; omega, by simp; omega, hm, fun i hi => ?_⟩⟩
    simp at hi
    rw [hcell i (by omega)]
    simp [List.getD_eq_getElem?_getD, List.getElem?_eq_getElem (show i < zs.length by omega)]
end
end Go.Proofs.YthobbekocimcnaaGreat
end
section
namespace Go.Proofs.YthobbekocimcnaaGreat
set_option maxRecDepth 100000
open Go.RowKit

structure Chg (F : List Nat) (w w' : World) : Prop where
  os : w'.os = w.os
  tape : w'.tape = w.tape
  output : w'.output = w.output
  size : w.heap.size ≤ w'.heap.size
  block : ∀ k, k < w.heap.size → k ∉ F → w'.heap[k]? = w.heap[k]?
section
variable {F G : List Nat} {a b c w w1 w2 : World} {x : Nat} {o : Obj}
theorem chg_refl (w : World) (F : List Nat) : Chg F w w := ⟨rfl, rfl, rfl, Nat.le_refl _, fun _ _ _ => rfl⟩
theorem Chg.trans (h : Chg F a b) (k : Chg G b c) (hg : ∀ x ∈ G, x ∈ F ∨ a.heap.size ≤ x) : Chg F a c :=
  ⟨k.os.trans h.os, k.tape.trans h.tape, k.output.trans h.output, Nat.le_trans h.size k.size, fun i hi hn => by
    have h1 := h.size
    rw [k.block i (by omega) (fun hm => by
      rcases hg i hm with e | e
      · exact hn e
      · omega)]
    exact h.block i hi hn⟩
theorem chg_grown (h : a.grownBy b none) (F : List Nat) : Chg F a b := ⟨h.os, h.tape, h.output, h.size, fun i hi _ => h.block i hi (by simp)⟩
theorem chg_row (h : a.grownBy b (some x)) : Chg [x] a b := ⟨h.os, h.tape, h.output, h.size, fun i hi hn => h.block i hi (by intro e; cases e; exact hn (by simp))⟩
theorem Chg.then (h : Chg F a b) (k : Chg F b c) : Chg F a c := h.trans k fun _ hx => .inl hx
theorem Chg.more (h : Chg F a b) (hs : ∀ x ∈ F, x ∈ G) : Chg G a b := ⟨h.os, h.tape, h.output, h.size, fun i hi hn => h.block i hi fun hm => hn (hs _ hm)⟩
theorem Chg.grown (h : Chg F a b) (k : b.grownBy c none) : Chg F a c := h.then (chg_grown k F)
theorem Chg.alloc (h : Chg F a b) (o : Obj) : Chg F a (b.alloc o) := h.grown (World.grownBy_alloc b o none)
theorem Chg.drew (h : Chg F a b) : Chg F a b.drew := ⟨h.os, h.tape, h.output, h.size, h.block⟩
theorem Chg.set (h : Chg F a b) {p : Addr} (hp : p.block ∈ F ∨ a.heap.size ≤ p.block) (v : Value) : Chg F a (b.setCell p v) :=
  ⟨h.os, h.tape, h.output, by simpa [World.setCell] using h.size, fun k hk hn => by
    rw [Below.heap_setCell _ _ _ _ (by intro e; rcases hp with hp | hp; exact hn (by rw [e]; exact hp); omega)]; exact h.block k hk hn⟩
theorem Chg.at (h : Chg F a b) (hx : a.heap[x]? = some o) (hn : x ∉ F) : b.heap[x]? = some o := by
  rw [h.block x (at_lt hx) hn]; exact hx
theorem Chg.free (h : Chg F a b) (hF : ∀ x ∈ F, a.heap.size ≤ x) : a.grownBy b none :=
  ⟨h.os, h.tape, h.output, h.size, fun i hi _ => h.block i hi fun hm => by have := hF i hm; omega⟩
/-- what was made by the call itself does not count -/
theorem Chg.less (h : Chg F a b) (hF : ∀ x ∈ F, x ∈ G ∨ a.heap.size ≤ x) : Chg G a b :=
  ⟨h.os, h.tape, h.output, h.size, fun i hi hn => h.block i hi fun hm => by rcases hF i hm with e | e; exact hn e; omega⟩
theorem Chg.cell (h : Chg F a b) {p : Addr} {v : Value} (hx : a.cell? p = some v) (hn : p.block ∉ F) : b.cell? p = some v := by
  have hlt : p.block < a.heap.size := by
    rcases Nat.lt_or_ge p.block a.heap.size with hb | hb
    · exact hb
    · simp [World.cell?, Array.getElem?_eq_none hb] at hx
  rw [World.cell?_of_block (h.block _ hlt hn)]; exact hx
end
end Go.Proofs.YthobbekocimcnaaGreat
end
