/-
  What is told of like numbers. The plain part. No condition. Nothing of the program is named here.
-/
import Derived.Test.YtopeceicmpblkaaTm
import Derived.Test.YtopeceicmpblkaaLit
set_option linter.unusedSimpArgs false
set_option linter.unusedVariables false
namespace Go.Proofs.Ytopeceicmpblkaa
set_option maxRecDepth 100000

theorem ms_like (k : Nat) (x : Int) : ms (List.replicate k x) = List.replicate k x :=
  ms_eq (List.Perm.refl _) (List.pairwise_replicate.2 (.inr (Int.le_refl _)))
theorem may_like {k : Nat} {x : Int} (hk : k ≤ 1000) (h0 : 0 ≤ x) (h1 : x ≤ 1099511627776) : mayL (List.replicate k x) = true := by
  rw [mayL_iff, List.length_replicate]
  refine ⟨hk, fun y hy => ?_⟩
  rw [List.eq_of_mem_replicate hy]; exact ⟨h0, h1⟩
theorem cut_like (k c : Nat) (x : Int) : cutL (List.replicate k x) c = List.replicate (k - c - c) x := by
  unfold cutL
  rw [ms_like, List.length_replicate, List.take_replicate, List.drop_replicate]
  congr 1; omega
theorem med_like {k : Nat} {x : Int} (hp : 0 < k) (hk : k ≤ 1000) (h0 : 0 ≤ x) (h1 : x ≤ 1099511627776) : medOf (List.replicate k x) = (x, true) := by
  unfold medOf
  rw [if_pos (may_like hk h0 h1), List.length_replicate, show ((k : Int) - 1).tdiv 2 = (((k - 1) / 2 : Nat) : Int) by rw [Int.tdiv_eq_ediv_of_nonneg (by omega)]; omega,
    atOf_in _ _ (by rw [ms_like, List.length_replicate]; omega)]
  simp only [ms_like, List.getElem_replicate]
theorem mid_like {k c : Nat} {x : Int} (hc : c < k - c) (hk : k ≤ 1000) (h0 : 0 ≤ x) (h1 : x ≤ 1099511627776) : midL (List.replicate k x) (c : Int) = List.replicate (k - c - c) x := by
  rw [midL_in ⟨may_like hk h0 h1, by omega, by rw [List.length_replicate]; omega⟩, cut_like]
theorem mean_like {j : Nat} {x : Int} (hj : 0 < j) : meanL (List.replicate j x) = (x, true) := by
  rw [meanL_in (s := x * (j : Int)) (by rw [List.length_replicate]; exact hj), List.length_replicate, Int.mul_ediv_cancel _ (by omega)]
  have h := le_sum (l := List.replicate j x) (c := x) fun y hy => by rw [List.eq_of_mem_replicate hy]; exact Int.le_refl _
  have h' := sum_le (l := List.replicate j x) (c := x) fun y hy => by rw [List.eq_of_mem_replicate hy]; exact Int.le_refl _
  rw [List.length_replicate] at h h'
  omega
theorem span_like {j : Nat} {x : Int} (hj : 0 < j) : spanL (List.replicate j x) = (x, x, true) :=
  spanL_in (by rw [List.length_replicate]; exact hj) (by rw [List.getElem?_replicate, if_pos hj]) (by rw [List.length_replicate, List.getElem?_replicate, if_pos (by omega)])
end Go.Proofs.Ytopeceicmpblkaa
