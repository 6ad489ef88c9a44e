/-
  Who stays near all others that don't lie is not struck: the plain part. No condition. Nothing of the program is named here.
-/
import Derived.Test.YtogmibmkkmbgoaaScP
import Derived.Test.YtogmibmkkmbgoaaTn
set_option linter.unusedSimpArgs false
set_option linter.unusedVariables false
namespace Go.Proofs.Ytogmibmkkmbgoaa
set_option maxRecDepth 100000

/-- those from k on stand at zero -/
structure NearS (k C : Nat) (D : Int) (s : Sc) : Prop where
  st : s.st = 1
  pr : s.pr = 3
  far : s.far = D
  len : s.H.length = C
  good : ∀ i : Nat, k ≤ i → i < C → s.H[i]? = some (false, 0)
/-- one sample of each, by who; those from k on near one another -/
structure NearR (k C : Nat) (b D : Int) (row : List Sm) : Prop where
  len : row.length = C
  who : ∀ (i : Nat) (x : Sm), row[i]? = some x → x.who = (i : Int)
  near : ∀ (i : Nat) (x : Sm), row[i]? = some x → k ≤ i → b ≤ x.val ∧ x.val ≤ b + D
theorem few_below : ∀ (row : List Sm) (k m : Nat), (∀ (i : Nat) (x : Sm), row[i]? = some x → x.who = ((m + i : Nat) : Int)) → (row.filter fun x => decide (x.who < (k : Int))).length ≤ k - m
  | [], k, m, h => by simp
  | a :: r, k, m, h => by
    have h0 := h 0 a rfl
    have ih := few_below r k (m + 1) (fun i x hx => by have := h (i + 1) x hx; rw [this]; congr 1; omega)
    by_cases hk : m < k
    · rw [List.filter_cons]
      split
      · rw [List.length_cons]; omega
      · omega
    · rw [List.filter_cons, if_neg (by rw [h0]; simp; omega)]; omega
theorem part_perm {α : Type} (p : α → Bool) (l : List α) : (l.filter p ++ l.filter fun x => !(p x)).Perm l := by
  induction l with
  | nil => exact .nil
  | cons a l ih =>
    cases hp : p a
    · simp only [List.filter_cons, hp, Bool.not_false, if_true, Bool.false_eq_true, if_false]
      exact List.perm_middle.trans (ih.cons a)
    · simp only [List.filter_cons, hp, Bool.not_true, if_true, Bool.false_eq_true, if_false, List.cons_append]
      exact ih.cons a
section
variable {k C : Nat} {b D : Int} {s : Sc} {row : List Sm}
theorem NearR.mem (h : NearR k C b D row) {x : Sm} (hx : x ∈ row) : ∃ i : Nat, x.who = (i : Int) ∧ i < C ∧ (k ≤ i → b ≤ x.val ∧ x.val ≤ b + D) := by
  obtain ⟨i, hi, rfl⟩ := List.mem_iff_getElem.1 hx
  have := List.getElem?_eq_getElem hi
  exact ⟨i, h.who i _ this, by rw [← h.len]; exact hi, h.near i _ this⟩
/-- the median lies among those that don't lie -/
theorem near_mid (hr : NearR k C b D row) {H : List Hd} {m : Int} (hm : midS (heardL H row) (2 * (k : Int) + 1) = (m, true)) : b ≤ m ∧ m ≤ b + D := by
  have hq : 2 * (k : Int) + 1 ≤ ((heardL H row).length : Int) ∧ 0 < ((heardL H row).length : Int) := by
    unfold midS at hm
    split at hm
    · assumption
    · simp at hm
  have hmed : medOf ((heardL H row).map Sm.val) = (m, true) := by unfold midS at hm; rw [if_pos hq] at hm; exact hm
  have hle : (row.filter fun x => decide (x.who < (k : Int))).length ≤ k := by
    have := few_below row k 0 (fun i x hx => by rw [hr.who i x hx, Nat.zero_add])
    simpa using this
  have hB : ((heardL H row).filter fun x => decide (x.who < (k : Int))).length ≤ k := by
    refine Nat.le_trans ?_ hle
    unfold heardL
    rw [List.filter_filter]
    exact (List.Sublist.length_le (by
      rw [show (fun a : Sm => decide (a.who < (k : Int)) && !(outL H a.who)) = fun a => (!(outL H a.who)) && decide (a.who < (k : Int)) from funext fun a => Bool.and_comm _ _, ← List.filter_filter]
      exact List.filter_sublist))
  have hsub : ∀ x ∈ heardL H row, x ∈ row := fun x hx => (List.mem_filter.1 hx).1
  generalize heardL H row = r at *
  have hp := (part_perm (fun x : Sm => decide (x.who < (k : Int))) r).map Sm.val
  rw [List.map_append] at hp
  have hG : ∀ y ∈ (r.filter fun x => !(decide (x.who < (k : Int)))).map Sm.val, b ≤ y ∧ y ≤ b + D := by
    intro y hy
    obtain ⟨x, hx, rfl⟩ := List.mem_map.1 hy
    obtain ⟨h1, h2⟩ := List.mem_filter.1 hx
    obtain ⟨i, hi, _, hn⟩ := hr.mem (hsub x h1)
    exact hn (by simp at h2; omega)
  have hlen : (r.map Sm.val).length = r.length := List.length_map ..
  have hms := ms_of_perm hp
  have hl2 := hp.length_eq
  generalize (r.filter fun x => !(decide (x.who < (k : Int)))).map Sm.val = G at *
  have hB' : ((r.filter fun x => decide (x.who < (k : Int))).map Sm.val).length ≤ k := by rw [List.length_map]; exact hB
  generalize (r.filter fun x => decide (x.who < (k : Int))).map Sm.val = B at *
  generalize r.map Sm.val = l at *
  have hk : (l.length - 1) / 2 < (ms l).length := by rw [ms_len]; omega
  have hz : (ms (B ++ G))[(l.length - 1) / 2]? = some m := by
    rw [hms]
    unfold medOf at hmed
    split at hmed
    · rw [show ((l.length : Int) - 1).tdiv 2 = (((l.length - 1) / 2 : Nat) : Int) by rw [Int.tdiv_eq_ediv_of_nonneg (by omega)]; omega, atOf_in _ _ hk] at hmed
      rw [List.getElem?_eq_getElem hk]
      injection hmed with h1 _
      rw [h1]
    · simp at hmed
  exact ⟨liar_low hB' (by omega) (fun x hx => (hG x hx).1) hz, liar_high hB' (by omega) (fun x hx => (hG x hx).2) hz⟩
theorem near_weigh {far x m : Int} (h1 : b ≤ x ∧ x ≤ b + D) (h2 : b ≤ m ∧ m ≤ b + D) (hf : far = D) : weighL far x m = 1 := by
  unfold weighL; rw [if_neg (by omega)]
theorem near_markR {m far : Int} (hm : b ≤ m ∧ m ≤ b + D) (hf : far = D) : ∀ (r : List Sm) (mk : List Int), (∀ x ∈ r, ∃ i : Nat, x.who = (i : Int) ∧ (k ≤ i → b ≤ x.val ∧ x.val ≤ b + D)) → (∀ i, k ≤ i → mk.getD i 0 ≤ 1) → ∀ i, k ≤ i → (markR far m mk r).getD i 0 ≤ 1
  | [], mk, _, h => h
  | x :: r, mk, hx, h => by
    have e : markR far m mk (x :: r) = markR far m (mark1 far m mk x) r := rfl
    rw [e]
    refine near_markR hm hf r _ (fun y hy => hx y (List.mem_cons_of_mem _ hy)) (fun i hi => ?_)
    obtain ⟨j, hj, hn⟩ := hx x (List.mem_cons_self ..)
    unfold mark1
    rw [hj, Int.toNat_natCast, List.getD_eq_getElem?_getD, List.getElem?_set]
    by_cases hij : j = i
    · subst hij
      rw [if_pos rfl]
      split
      · have h1 := h j hi
        have h2 := near_weigh (hn hi) hm hf
        simp only [Option.getD_some]
        rw [h2]; omega
      · simp
    · rw [if_neg hij, ← List.getD_eq_getElem?_getD]; exact h i hi
theorem near_marks (hs : NearS k C D s) (hr : NearR k C b D row) (i : Nat) (hi : k ≤ i) : (marksL s (2 * (k : Int) + 1) [row]).getD i 0 ≤ 1 := by
  have e : marksL s (2 * (k : Int) + 1) [row] = markM s (2 * (k : Int) + 1) (List.replicate s.H.length 0) row := rfl
  have h0 : ∀ i, k ≤ i → (List.replicate s.H.length (0 : Int)).getD i 0 ≤ 1 := by
    intro i _
    rw [List.getD_eq_getElem?_getD, List.getElem?_replicate]
    split <;> simp
  rw [e]
  unfold markM
  split
  · next hok =>
    have hm : midS (heardL s.H row) (2 * (k : Int) + 1) = ((midS (heardL s.H row) (2 * (k : Int) + 1)).1, true) := by rw [← hok]
    refine near_markR (near_mid hr hm) hs.far _ _ (fun x hx => ?_) h0 i hi
    obtain ⟨j, h1, _, h3⟩ := hr.mem (List.mem_filter.1 hx).1
    exact ⟨j, h1, h3⟩
  · exact h0 i hi
theorem near_run (st pr : Int) (mk : List Int) (H : List Hd) (n : Nat) (hg : ∀ i, k ≤ i → i < H.length → H[i]? = some (false, 0)) (hm : ∀ i, k ≤ i → mk.getD i 0 ≤ 1) : ∀ i, k ≤ i → i < H.length → (runTo st pr mk H n).1[i]? = some (false, 0) := by
  induction n with
  | zero => exact hg
  | succ n ih =>
    intro i hi hl
    have e : (runTo st pr mk H (n + 1)).1 = (runTo st pr mk H n).1.set n (endH st pr ((runTo st pr mk H n).1.getD n (true, 0)) (mk.getD n 0)).1 := rfl
    rw [e, List.getElem?_set]
    by_cases hn : n = i
    · subst hn
      rw [if_pos rfl, if_pos (by rw [runTo_len]; exact hl)]
      have h1 := ih n hi hl
      rw [List.getD_eq_getElem?_getD, h1, Option.getD_some]
      have h2 := hm n hi
      unfold endH
      rw [if_neg (by simp), if_neg (by omega), if_neg (by simp)]
    · rw [if_neg hn]; exact ih i hi hl
theorem near_close (hs : NearS k C D s) (hr : NearR k C b D row) : NearS k C D (s.close [row] (2 * (k : Int) + 1)) := by
  refine ⟨hs.st, hs.pr, hs.far, ?_, ?_⟩
  · unfold Sc.close; dsimp only; rw [runTo_len]; exact hs.len
  · intro i hi hC
    unfold Sc.close
    exact near_run _ _ _ _ _ (fun j h1 h2 => hs.good j h1 (by rw [← hs.len]; exact h2)) (fun j hj => near_marks hs hr j hj) i hi (by rw [hs.len]; exact hC)
end
end Go.Proofs.Ytogmibmkkmbgoaa
