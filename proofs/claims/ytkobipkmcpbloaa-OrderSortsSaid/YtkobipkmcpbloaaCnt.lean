/-
  How often a number stands in a list. The plain part. No condition. Nothing of the program is named here.
-/
import Derived.Test.YtkobipkmcpbloaaMs
set_option linter.unusedSimpArgs false
set_option linter.unusedVariables false
namespace Go.Proofs.Ytkobipkmcpbloaa
set_option maxRecDepth 100000

def cnt (l : List Int) (x : Int) : Nat := l.count x
theorem cnt_le (l : List Int) (x : Int) (k : Nat) : cnt (l.take k) x ≤ k := Nat.le_trans List.count_le_length (by rw [List.length_take]; omega)
theorem cnt_succ (l : List Int) (x : Int) (k : Nat) (h : k < l.length) : cnt (l.take (k + 1)) x = cnt (l.take k) x + if l[k] = x then 1 else 0 := by
  unfold cnt
  rw [List.take_succ_eq_append_getElem h, List.count_append]
  by_cases e : l[k] = x <;> simp [e, List.count_singleton]
theorem cnt_all (l : List Int) (x : Int) (k : Nat) (h : l.length ≤ k) : cnt (l.take k) x = cnt l x := by rw [List.take_of_length_le h]
theorem cnt_zero (l : List Int) (x : Int) : cnt (l.take 0) x = 0 := by simp [cnt]
theorem cnt_append (l l' : List Int) (x : Int) : cnt (l ++ l') x = cnt l x + cnt l' x := List.count_append
theorem cnt_perm {l l' : List Int} (h : l.Perm l') (x : Int) : cnt l x = cnt l' x := h.count_eq x
theorem cnt_len (l : List Int) (x : Int) : cnt l x ≤ l.length := List.count_le_length
end Go.Proofs.Ytkobipkmcpbloaa
