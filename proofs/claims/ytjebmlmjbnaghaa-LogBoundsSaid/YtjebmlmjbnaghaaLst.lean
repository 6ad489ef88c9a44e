/-
  For a region that leaves its order open and whose last operation waits for all others (a store at the end, most often): the condition that is held need not hold behind that one. No condition. Nothing of the program is named here.
-/
import Derived.WalkKit
import Derived.Deep.RegionHeld3
namespace Go.Proofs.Ytjebmlmjbnaghaa
set_option maxRecDepth 100000
open Go.RowKit

section
variable {P : Program} {ops : Array Oper} {Q : Exit → Act → World → Prop} {S : World → Prop}
/-- behind the others comes the last one -/
def AtLast (P : Program) (ops : Array Oper) (n : Nat) (Q : Exit → Act → World → Prop) : Exit → Act → World → Prop
  | .normal, a, w => wpOp P ops Q n (Q .normal) a w
  | x, a, w => Q x a w
theorem letsOut_atLast {n : Nat} (h : LetsOut (AtLast P ops n Q)) : LetsOut Q := h
theorem oper_atLast {n : Nat} {o : Oper} {a : Act} {w : World} {K : Act → World → Prop} (hh : o.wp P a w K (AtLast P ops n Q)) : o.wp P a w K Q := by
  unfold Oper.wp at *
  generalize (execOp a.eval o).run P w = r at *
  cases r with
  | ok n w' =>
    cases n <;> simp only [Oper.upon] at hh ⊢ <;>
      first
        | exact hh
        | exact Calls.mono hh (fun e w'' he => by cases e <;> exact he)
        | exact Rows.mono hh (fun _ _ he => he)
  | halt x w' => cases x <;> simp only [Oper.upon] at hh ⊢ <;> exact hh
theorem wpOp_atLast {n i : Nat} {a : Act} {w : World} {K : Act → World → Prop} (hh : wpOp P ops (AtLast P ops n Q) i K a w) : wpOp P ops Q i K a w := by
  unfold wpOp at *
  split
  · next ho => simpa [ho] using hh
  · next o ho =>
    simp only [ho] at hh
    split
    · next hw => simp only [hw, if_true] at hh; exact hh.imp oper_atLast (fun h => ⟨h.1, letsOut_atLast h.2⟩)
    · next hw => simp only [hw] at hh; exact hh
/-- each operation but n is waited for by one, n by none, and each waits for earlier ones only: so n comes up last -/
def lastB (ops : Array Oper) (n : Nat) : Bool :=
  decide (n < ops.size) && (List.range ops.size).all fun j => match ops[j]? with
    | none => true
    | some o => o.after.all (fun e => !Region.binds .any e || (decide (e.on < j) && e.on != n)) && (j == n || (List.range ops.size).any fun i => match ops[i]? with
      | none => false
      | some l => l.after.any fun e => Region.binds .any e && e.on == j)
theorem lastB_lt {n : Nat} (h : lastB ops n = true) : n < ops.size := by
  unfold lastB at h
  rw [Bool.and_eq_true] at h
  exact of_decide_eq_true h.1
theorem lastB_at {n j : Nat} {o : Oper} (h : lastB ops n = true) (ho : ops[j]? = some o) : (∀ e ∈ o.after, Region.binds .any e = true → e.on < j ∧ e.on ≠ n) ∧ (j = n ∨ ∃ (i : Nat) (l : Oper), ops[i]? = some l ∧ ∃ e ∈ l.after, Region.binds .any e = true ∧ e.on = j) := by
  have hlt := (Array.getElem?_eq_some_iff.1 ho).1
  unfold lastB at h
  rw [Bool.and_eq_true, List.all_eq_true] at h
  have h2 := h.2 j (List.mem_range.2 hlt)
  rw [ho] at h2
  simp only [Bool.and_eq_true, Bool.or_eq_true, beq_iff_eq] at h2
  obtain ⟨k1, k2⟩ := h2
  refine ⟨fun e he hb => ?_, ?_⟩
  · rw [Array.all_eq_true_iff_forall_mem] at k1
    have := k1 e he
    simp only [hb, Bool.not_true, Bool.or_eq_true, Bool.false_eq_true, false_or, Bool.and_eq_true, decide_eq_true_eq, bne_iff_ne] at this
    exact this
  · rcases k2 with k2 | k2
    · exact .inl k2
    · rw [List.any_eq_true] at k2
      obtain ⟨i, _, k2⟩ := k2
      split at k2
      · cases k2
      · next l hl =>
        rw [Array.any_eq_true'] at k2
        obtain ⟨e, he, h3⟩ := k2
        rw [Bool.and_eq_true, beq_iff_eq] at h3
        exact .inr ⟨i, l, hl, e, he, h3.1, h3.2⟩
/-- what came up, came up behind what it waits for -/
def InTurn (ops : Array Oper) (listed : Array Bool) : Prop := ∀ i o, ops[i]? = some o → listed.getD i false = true → ∀ e ∈ o.after, Region.binds .any e = true → listed.getD e.on false = true
theorem InTurn.start (k : Nat) : InTurn ops (Array.replicate k false) := fun i o ho h => by
  by_cases hk : i < k <;> simp [hk] at h
theorem InTurn.step {listed : Array Bool} {i : Nat} (h : InTurn ops listed) (hi : i ∈ Region.ready .any ops listed) : InTurn ops (listed.setIfInBounds i true) := fun j o ho hj e he hb => by
  by_cases hji : j = i
  · subst hji
    obtain ⟨_, o', ho', hall⟩ := mem_ready.1 hi
    rw [ho] at ho'
    cases ho'
    exact getD_set_true (hall e he hb)
  · rw [getD_set_ne false (Ne.symm hji)] at hj
    exact getD_set_true (h j o ho hj e he hb)
theorem ready_ne {n : Nat} (hB : lastB ops n = true) {listed : Array Bool} (hs : listed.size = ops.size) (hn : listed.getD n true = false) : Region.ready .any ops listed ≠ [] := by
  intro h0
  have all : ∀ j, j < ops.size → listed.getD j true = true := by
    intro j
    induction j using Nat.strongRecOn with
    | _ j ih =>
      intro hj
      cases hl : listed.getD j true
      · exfalso
        have : j ∈ Region.ready .any ops listed := mem_ready.2 ⟨hl, ops[j], Array.getElem?_eq_getElem hj, fun e he hb => by
          obtain ⟨h1, _⟩ := (lastB_at hB (Array.getElem?_eq_getElem hj)).1 e he hb
          have := ih e.on h1 (by omega)
          simpa [show e.on < listed.size by omega] using this⟩
        rw [h0] at this
        cases this
      · rfl
  rw [all n (lastB_lt hB)] at hn
  cases hn
theorem ready_back {n i : Nat} (hB : lastB ops n = true) {listed : Array Bool} (hi : i ∈ Region.ready .any ops (listed.setIfInBounds n true)) (hne : i ≠ n) : i ∈ Region.ready .any ops listed := by
  obtain ⟨h0, o, ho, hall⟩ := mem_ready.1 hi
  refine mem_ready.2 ⟨by rw [getD_set_ne true (Ne.symm hne)] at h0; exact h0, o, ho, fun e he hb => ?_⟩
  have h1 := hall e he hb
  have h2 := ((lastB_at hB ho).1 e he hb).2
  rw [getD_set_ne false (Ne.symm h2)] at h1
  exact h1
theorem ready_last {n : Nat} (hB : lastB ops n = true) {listed : Array Bool} (hs : listed.size = ops.size) (hT : InTurn ops listed) (hi : n ∈ Region.ready .any ops listed) : Region.ready .any ops (listed.setIfInBounds n true) = [] := by
  obtain ⟨_, l, hl, hall⟩ := mem_ready.1 hi
  have all : ∀ d j, ops.size - j ≤ d → j < ops.size → j ≠ n → listed.getD j false = true := by
    intro d
    induction d with
    | zero => intro j hd hj; omega
    | succ d ih =>
      intro j hd hj hne
      rcases (lastB_at hB (Array.getElem?_eq_getElem hj)).2 with e | ⟨i, l', hl', e, he, hb, heq⟩
      · exact absurd e hne
      · have h1 := ((lastB_at hB hl').1 e he hb).1
        rw [← heq]
        by_cases hin : i = n
        · subst hin
          rw [hl] at hl'
          cases hl'
          exact hall e he hb
        · exact hT i l' hl' (ih i (by omega) (Array.getElem?_eq_some_iff.1 hl').1 hin) e he hb
  refine List.eq_nil_iff_forall_not_mem.2 fun j hj => ?_
  obtain ⟨h0, o, ho, _⟩ := mem_ready.1 hj
  have hlt := (Array.getElem?_eq_some_iff.1 ho).1
  by_cases hjn : j = n
  · subst hjn
    simp [show j < listed.size by omega] at h0
  · rw [getD_set_ne true (Ne.symm hjn)] at h0
    have h1 := all _ j (Nat.le_refl _) hlt hjn
    simp [show j < listed.size by omega] at h0 h1
    rw [h0] at h1
    cases h1
theorem wpAny_last {n : Nat} (hB : lastB ops n = true) : ∀ (fuel : Nat) (listed : Array Bool) (a : Act) (w : World), listed.size = ops.size → InTurn ops listed → listed.getD n true = false →
    wpAnyH P .any ops (AtLast P ops n Q) S fuel (listed.setIfInBounds n true) a w → wpAny P .any ops Q (fuel + 1) listed a w := by
  intro fuel
  induction fuel with
  | zero =>
    intro listed a w hs hT hn h
    refine ⟨fun h0 => absurd h0 (ready_ne hB hs hn), fun i hi => ?_⟩
    have hin : i = n := by
      refine Classical.byContradiction fun hne => ?_
      have := ready_mono hi hne
      rw [h.1] at this
      cases this
    subst hin
    exact wpOp_mono (fun a' w' hq => ⟨h.1, hq⟩) h.2
  | succ fuel ih =>
    intro listed a w hs hT hn h
    refine ⟨fun h0 => absurd h0 (ready_ne hB hs hn), fun i hi => ?_⟩
    by_cases hin : i = n
    · subst hin
      have h0 := ready_last hB hs hT hi
      exact wpOp_mono (fun a' w' hq => ⟨fun _ => hq, by rw [h0]; simp⟩) (h.1 h0)
    · refine wpOp_mono (fun a' w' hq => ih _ a' w' (by simpa using hs) (hT.step hi) (by rw [getD_set_ne true hin]; exact hn) ?_) (wpOp_atLast (h.2 i (ready_mono hi hin)))
      rw [Array.setIfInBounds_comm _ _ hin]
      exact hq.2
/-- the beginning -/
theorem wp_region_last {id : Nat} {a : Act} {w : World} (n k : Nat) (l : Array Bool) (hm : P.follows .mixedOrders = true) (hB : lastB ops n = true) (hk : ops.size = k + 1) (hl : l = (Array.replicate ops.size false).setIfInBounds n true) (hS : S w.drew)
    (h : S w.drew → wpAnyH P .any ops (AtLast P ops n Q) S k l a w.drew) : (Code.region id ops true).wp P Q a w := by
  refine wp_region_any hm ?_
  have hlt := lastB_lt hB
  subst hl
  have := wpAny_last hB k (Array.replicate ops.size false) a w.drew (by simp) (InTurn.start _) (by simp [hlt]) (h hS)
  rw [← hk] at this
  exact this
/-- the last one -/
theorem atLast_step {n : Nat} {o : Oper} {a : Act} {w : World} (ho : ops[n]? = some o)
    (h : ∀ K' : Act → World → Prop, Shut (∀ a w, Q .normal a w → K' a w) → if Region.wanted o (yielded ops a.tmps) = true then Oper.wp P o a w K' Q else K' (a.put o.dst undef) w) : AtLast P ops n Q .normal a w :=
  wpOp_step ho h
end
end Go.Proofs.Ytjebmlmjbnaghaa
