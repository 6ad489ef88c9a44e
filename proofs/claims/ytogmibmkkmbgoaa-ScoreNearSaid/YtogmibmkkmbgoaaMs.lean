/-
  Numbers by their size: a list sorted, how many are below one. The plain part. No condition. Nothing of the program is named here.
-/
import Derived.WalkKit
set_option linter.unusedSimpArgs false
set_option linter.unusedVariables false
namespace Go.Proofs.Ytogmibmkkmbgoaa
set_option maxRecDepth 100000

/-- the numbers, rising -/
def ms (l : List Int) : List Int := l.mergeSort fun x y => decide (x ≤ y)
theorem ms_perm (l : List Int) : (ms l).Perm l := List.mergeSort_perm _ _
theorem ms_len (l : List Int) : (ms l).length = l.length := (ms_perm l).length_eq
theorem ms_sorted (l : List Int) : (ms l).Pairwise (· ≤ ·) := by
  have h := List.pairwise_mergeSort (le := fun x y : Int => decide (x ≤ y)) (fun a b c h1 h2 => by simp at *; omega) (fun a b => by simp; omega) l
  unfold ms; simpa using h
theorem ms_uniq {l l' : List Int} (hp : l'.Perm l) (hs : l'.Pairwise (· ≤ ·)) : l' = ms l :=
  List.Perm.eq_of_pairwise (le := (· ≤ ·)) (fun a b _ _ h1 h2 => Int.le_antisymm h1 h2) hs (ms_sorted l) (hp.trans (ms_perm l).symm)
theorem ms_of_perm {l l' : List Int} (h : l.Perm l') : ms l = ms l' := ms_uniq ((ms_perm l).trans h) (ms_sorted l)
theorem ms_ms (l : List Int) : ms (ms l) = ms l := ms_of_perm (ms_perm l)
theorem ms_iff {l l' : List Int} : ms l = ms l' ↔ l.Perm l' := ⟨fun h => (ms_perm l).symm.trans (h ▸ ms_perm l'), ms_of_perm⟩
theorem ms_nil : ms [] = [] := by have := ms_len []; simpa using this
theorem ms_le {l : List Int} {i j : Nat} (hij : i ≤ j) (hj : j < (ms l).length) : (ms l)[i]'(by omega) ≤ (ms l)[j] := by
  rcases Nat.lt_or_eq_of_le hij with h | h
  · exact List.pairwise_iff_getElem.1 (ms_sorted l) i j (by omega) hj h
  · subst h; exact Int.le_refl _
/-- one more number among those that are sorted -/
theorem ms_insert (l : List Int) (x : Int) (k : Nat) (hk : k ≤ l.length) (h1 : ∀ i, (h : i < (ms l).length) → i < k → (ms l)[i] ≤ x) (h2 : ∀ i, (h : i < (ms l).length) → k ≤ i → x ≤ (ms l)[i]) :
    (ms l).take k ++ [x] ++ (ms l).drop k = ms (l ++ [x]) := by
  refine ms_uniq ?_ ?_
  · have hp : ((ms l).take k ++ [x] ++ (ms l).drop k).Perm ((ms l).take k ++ (ms l).drop k ++ [x]) := by
      rw [List.append_assoc, List.append_assoc]
      exact List.Perm.append_left _ List.perm_append_comm
    rw [List.take_append_drop] at hp
    exact hp.trans (List.Perm.append_right _ (ms_perm l))
  · have hs := ms_sorted l
    rw [List.append_assoc, List.pairwise_append]
    have hs' := hs
    rw [← List.take_append_drop k (ms l), List.pairwise_append] at hs'
    refine ⟨hs'.1, List.pairwise_append.2 ⟨List.pairwise_singleton _ _, hs'.2.1, ?_⟩, ?_⟩
    · intro a ha b hb
      simp at ha; subst ha
      obtain ⟨i, hi, rfl⟩ := List.mem_iff_getElem.1 hb
      rw [List.getElem_drop]
      exact h2 _ _ (Nat.le_add_right _ _)
    · intro a ha b hb
      rcases List.mem_append.1 hb with hb | hb
      · simp at hb; subst hb
        obtain ⟨i, hi, rfl⟩ := List.mem_iff_getElem.1 ha
        rw [List.getElem_take]
        rw [List.length_take] at hi
        exact h1 _ _ (by omega)
      · exact hs'.2.2 a ha b hb

/-- how many are below v -/
def rk (l : List Int) (v : Int) : Nat := l.countP fun x => decide (x < v)
theorem rk_nil (v : Int) : rk [] v = 0 := rfl
theorem rk_append (l l' : List Int) (v : Int) : rk (l ++ l') v = rk l v + rk l' v := List.countP_append
theorem rk_perm {l l' : List Int} (h : l.Perm l') (v : Int) : rk l v = rk l' v := h.countP_eq _
theorem rk_le (l : List Int) (v : Int) : rk l v ≤ l.length := List.countP_le_length
theorem rk_one (x v : Int) : rk [x] v = if x < v then 1 else 0 := by
  unfold rk; by_cases h : x < v <;> simp [h]
theorem rk_ms (l : List Int) (v : Int) : rk (ms l) v = rk l v := rk_perm (ms_perm l) v
theorem rk_zero {l : List Int} {v : Int} (h : ∀ x ∈ l, v ≤ x) : rk l v = 0 := by
  unfold rk; rw [List.countP_eq_zero]; intro x hx; have := h x hx; simp; omega
theorem rk_all {l : List Int} {v : Int} (h : ∀ x ∈ l, x < v) : rk l v = l.length := by
  unfold rk; rw [List.countP_eq_length]; intro x hx; simpa using h x hx
/-- at most k of them are below the k-th -/
theorem rk_kth (l : List Int) (k : Nat) (hk : k < (ms l).length) : rk l (ms l)[k] ≤ k := by
  rw [← rk_ms]
  generalize hx : (ms l)[k] = x
  rw [← List.take_append_drop k (ms l), rk_append, rk_zero (l := (ms l).drop k) (v := x), Nat.add_zero]
  · exact Nat.le_trans (rk_le _ _) (by rw [List.length_take]; omega)
  · intro y hy
    obtain ⟨i, hi, rfl⟩ := List.mem_iff_getElem.1 hy
    rw [List.getElem_drop, ← hx]
    exact ms_le (Nat.le_add_right _ _) _
/-- and more than k are below what is above it -/
theorem rk_above (l : List Int) (k : Nat) (hk : k < (ms l).length) (v : Int) (hv : (ms l)[k] < v) : k < rk l v := by
  rw [← rk_ms, ← List.take_append_drop (k + 1) (ms l), rk_append, rk_all (l := (ms l).take (k + 1)) (v := v)]
  · rw [List.length_take]; omega
  · intro y hy
    obtain ⟨i, hi, rfl⟩ := List.mem_iff_getElem.1 hy
    rw [List.length_take] at hi
    rw [List.getElem_take]
    have := ms_le (l := l) (show i ≤ k by omega) hk
    omega
/-- the number of place k, by size; whether there is one -/
def atOf (l : List Int) (k : Int) : Int × Bool := if 0 ≤ k ∧ k < (l.length : Int) then ((ms l)[k.toNat]?.getD 0, true) else (0, false)
theorem atOf_in (l : List Int) (k : Nat) (hk : k < (ms l).length) : atOf l (k : Int) = ((ms l)[k], true) := by
  have h := ms_len l
  unfold atOf
  rw [if_pos (by omega), Int.toNat_natCast, List.getElem?_eq_getElem hk, Option.getD_some]
theorem atOf_out (l : List Int) (k : Int) (hk : ¬ (0 ≤ k ∧ k < (l.length : Int))) : atOf l k = (0, false) := by
  unfold atOf; rw [if_neg hk]
end Go.Proofs.Ytogmibmkkmbgoaa
