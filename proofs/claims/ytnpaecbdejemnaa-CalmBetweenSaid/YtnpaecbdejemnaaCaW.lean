/-
  The greatest of the last ones, the least, told one by one. No condition. Nothing of the program is named here.
-/
import Derived.Test.YtnpaecbdejemnaaCaP
set_option linter.unusedSimpArgs false
set_option linter.unusedVariables false
namespace Go.Proofs.Ytnpaecbdejemnaa
set_option maxRecDepth 100000
open Go.RowKit

def hiK (l : List Int) (d : Nat) : Nat → Int
  | 0 => 0
  | k + 1 => if l.length ≤ d + 1 + k then max (hiK l d k) (l.getD k 0) else hiK l d k
def loK (l : List Int) (u : Nat) : Nat → Int
  | 0 => 1000000
  | k + 1 => if l.length ≤ u + 1 + k then min (loK l u k) (l.getD k 0) else loK l u k
theorem hiK_yes {l : List Int} {d k : Nat} {x : Int} (hx : l[k]? = some x) (h : l.length ≤ d + 1 + k) : hiK l d (k + 1) = max (hiK l d k) x := by
  show (if _ then _ else _) = _
  rw [if_pos h, getD_at hx]
theorem hiK_no {l : List Int} {d k : Nat} (h : ¬ l.length ≤ d + 1 + k) : hiK l d (k + 1) = hiK l d k := by
  show (if _ then _ else _) = _
  rw [if_neg h]
theorem loK_yes {l : List Int} {d k : Nat} {x : Int} (hx : l[k]? = some x) (h : l.length ≤ d + 1 + k) : loK l d (k + 1) = min (loK l d k) x := by
  show (if _ then _ else _) = _
  rw [if_pos h, getD_at hx]
theorem loK_no {l : List Int} {d k : Nat} (h : ¬ l.length ≤ d + 1 + k) : loK l d (k + 1) = loK l d k := by
  show (if _ then _ else _) = _
  rw [if_neg h]
theorem hiK_ge (l : List Int) (d : Nat) : ∀ k (j : Nat) (x : Int), j < k → l.length ≤ d + 1 + j → l[j]? = some x → x ≤ hiK l d k
  | 0, j, x, h, _, _ => absurd h (Nat.not_lt_zero j)
  | k + 1, j, x, h, hj, hx => by
    rcases Nat.lt_or_ge j k with h1 | h1
    · have := hiK_ge l d k j x h1 hj hx
      unfold hiK; split <;> omega
    · obtain rfl : j = k := by omega
      rw [hiK_yes hx hj]; omega
theorem loK_le (l : List Int) (d : Nat) : ∀ k (j : Nat) (x : Int), j < k → l.length ≤ d + 1 + j → l[j]? = some x → loK l d k ≤ x
  | 0, j, x, h, _, _ => absurd h (Nat.not_lt_zero j)
  | k + 1, j, x, h, hj, hx => by
    rcases Nat.lt_or_ge j k with h1 | h1
    · have := loK_le l d k j x h1 hj hx
      unfold loK; split <;> omega
    · obtain rfl : j = k := by omega
      rw [loK_yes hx hj]; omega
theorem hiK_is (l : List Int) (d : Nat) : ∀ k, k ≤ l.length → hiK l d k = 0 ∨ ∃ j : Nat, l.length ≤ d + 1 + j ∧ l[j]? = some (hiK l d k)
  | 0, _ => .inl rfl
  | k + 1, hk => by
    have h1 := hiK_is l d k (by omega)
    have hx := List.getElem?_eq_getElem (show k < l.length by omega)
    by_cases h : l.length ≤ d + 1 + k
    · rw [hiK_yes hx h]
      rcases Int.le_total (hiK l d k) l[k] with e | e
      · rw [Int.max_eq_right e]; exact .inr ⟨k, h, hx⟩
      · rw [Int.max_eq_left e]; exact h1
    · rw [hiK_no h]; exact h1
theorem loK_is (l : List Int) (d : Nat) : ∀ k, k ≤ l.length → loK l d k = 1000000 ∨ ∃ j : Nat, l.length ≤ d + 1 + j ∧ l[j]? = some (loK l d k)
  | 0, _ => .inl rfl
  | k + 1, hk => by
    have h1 := loK_is l d k (by omega)
    have hx := List.getElem?_eq_getElem (show k < l.length by omega)
    by_cases h : l.length ≤ d + 1 + k
    · rw [loK_yes hx h]
      rcases Int.le_total (loK l d k) l[k] with e | e
      · rw [Int.min_eq_left e]; exact h1
      · rw [Int.min_eq_right e]; exact .inr ⟨k, h, hx⟩
    · rw [loK_no h]; exact h1
theorem lastL_in {l : List Int} {d j : Nat} {x : Int} (hj : l.length ≤ d + 1 + j) (hx : l[j]? = some x) : x ∈ lastL l (d + 1) := by
  rw [List.mem_iff_getElem?]
  exact ⟨j - (l.length - (d + 1)), by rw [lastL_get, show l.length - (d + 1) + (j - (l.length - (d + 1))) = j by omega]; exact hx⟩
theorem lastL_out {l : List Int} {d : Nat} {x : Int} (h : x ∈ lastL l (d + 1)) : ∃ j : Nat, j < l.length ∧ l.length ≤ d + 1 + j ∧ l[j]? = some x := by
  obtain ⟨i, hi⟩ := List.mem_iff_getElem?.1 h
  rw [lastL_get] at hi
  exact ⟨_, (List.getElem?_eq_some_iff.1 hi).1, by omega, hi⟩
theorem hiK_eq {l : List Int} (d : Nat) (hne : l ≠ []) (h0 : ∀ x ∈ l, 0 ≤ x) : hiK l d l.length = hiL (lastL l (d + 1)) := by
  have hm := hiL_mem (lastL_ne hne (Nat.succ_pos d))
  obtain ⟨j, j1, j2, j3⟩ := lastL_out hm
  refine Int.le_antisymm ?_ (hiK_ge l d _ j _ j1 j2 j3)
  rcases hiK_is l d _ (Nat.le_refl _) with e | ⟨i, i1, i2⟩
  · rw [e]; exact h0 _ (lastL_mem hm)
  · exact hiL_ge (lastL_in i1 i2)
theorem loK_eq {l : List Int} (d : Nat) (hne : l ≠ []) (h0 : ∀ x ∈ l, x ≤ 1000000) : loK l d l.length = loL (lastL l (d + 1)) := by
  have hm := loL_mem (lastL_ne hne (Nat.succ_pos d))
  obtain ⟨j, j1, j2, j3⟩ := lastL_out hm
  refine Int.le_antisymm (loK_le l d _ j _ j1 j2 j3) ?_
  rcases loK_is l d _ (Nat.le_refl _) with e | ⟨i, i1, i2⟩
  · rw [e]; exact h0 _ (lastL_mem hm)
  · exact loL_le (lastL_in i1 i2)
theorem Ca.his {c : Ca} (h : c.Ok) (hne : c.l ≠ []) : hiK c.l c.down c.l.length = c.hi := hiK_eq c.down hne fun x hx => (h.m x hx).1
theorem Ca.los {c : Ca} (h : c.Ok) (hne : c.l ≠ []) : loK c.l c.up c.l.length = c.lo := loK_eq c.up hne fun x hx => (h.m x hx).2
theorem push_at (c : Ca) (x : Int) (n : Nat) (hn : (c.push x).l.length = n + 1) : (c.push x).l[n]? = some (mill x) := by
  rw [Ca.push_snoc] at hn ⊢
  rw [List.length_append, List.length_singleton] at hn
  have : n = (lastL c.l (max c.up c.down)).length := by omega
  rw [this, List.getElem?_concat_length]
end Go.Proofs.Ytnpaecbdejemnaa
