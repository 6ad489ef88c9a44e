/-
  For a region that leaves its order open and whose last operation waits for all others (a store at the end, most often): the condition that is held need not hold behind that one. No condition. Nothing of the program is named here.
  Contract for package calm: one more want is put behind the others, the oldest goes for it. The condition: the object lies there, the want may be.
  Single operations of a walk on whole structs and arrays of many cells: a load, a store, a value built of parts, each taken in one step ('go_wp2_with (refine wpList_row .. ?_)'). No condition. Nothing of the program is named here.
  Contracts for package calm: Next, All, Set, New, of nil too. The condition of a call: the object lies there, slices read as numbers.
  Plain arithmetic for the walks: 64-bit words stand in the model as integers: 'q x' is the word x as that integer. Each operation of the model on such integers (sum, xor, or, shifts) is the operation of 64-bit words. No condition. Nothing of the program is named here.
  A configuration as the walks see it: 26 numbers, which are its cells. Whether a number lies within bounds. No condition.
  Contracts: the default, of the program and of the document. No condition.
-/
import Derived.WalkKit
import Derived.Deep.RegionHeld3
import Derived.Test.YthobbekocimcnaaGreatZ2
import Derived.Laws.Rows
import Derived.Laws.Tables
import Derived.Deep.WholeRow
import Derived.Great.Walk
import Derived.Test.YthobbekocimcnaaGreatRows
import Derived.Test.YthobbekocimcnaaGreatZ1
import Derived.WalkSpells
import Derived.WalkLawsBesides
section
namespace Go.Proofs.YthobbekocimcnaaGreat
set_option maxRecDepth 100000
open Go.RowKit

section
variable {P : Program} {ops : Array Oper} {Q : Exit → Act → World → Prop} {S : World → Prop}
/-- behind the others comes the last one -/
def AtLast (P : Program) (ops : Array Oper) (n : Nat) (Q : Exit → Act → World → Prop) : Exit → Act → World → Prop
  | .normal, a, w => wpOp P ops Q n (Q .normal) a w
  | x, a, w => Q x a w
theorem letsOut_atLast {n : Nat} (h : LetsOut (AtLast P ops n Q)) : LetsOut Q := h
theorem oper_atLast {n : Nat} {o : Oper} {a : Act} {w : World} {K : Act → World → Prop} (hh : o.wp P a w K (AtLast P ops n Q)) : o.wp P a w K Q := by
  unfold Oper.wp at *
  generalize (execOp a.eval o).run P w = r at *
  cases r with
  | ok n w' =>
    cases n <;> simp only [Oper.upon] at hh ⊢ <;>
      first
        | exact hh
        | exact Calls.mono hh (fun e w'' he => by cases e <;> exact he)
        | exact Rows.mono hh (fun _ _ he => he)
  | halt x w' => cases x <;> simp only [Oper.upon] at hh ⊢ <;> exact hh
theorem wpOp_atLast {n i : Nat} {a : Act} {w : World} {K : Act → World → Prop} (hh : wpOp P ops (AtLast P ops n Q) i K a w) : wpOp P ops Q i K a w := by
  unfold wpOp at *
  split
  · next ho => simpa [ho] using hh
  · next o ho =>
    simp only [ho] at hh
    split
    · next hw => simp only [hw, if_true] at hh; exact hh.imp oper_atLast (fun h => ⟨h.1, letsOut_atLast h.2⟩)
    · next hw => simp only [hw] at hh; exact hh
/-- each operation but n is waited for by one, n by none, and each waits for earlier ones only: so n comes up last -/
def lastB (ops : Array Oper) (n : Nat) : Bool :=
  decide (n < ops.size) && (List.range ops.size).all fun j => match ops[j]? with
    | none => true
    | some o => o.after.all (fun e => !Region.binds .any e || (decide (e.on < j) && e.on != n)) && (j == n || (List.range ops.size).any fun i => match ops[i]? with
      | none => false
      | some l => l.after.any fun e => Region.binds .any e && e.on == j)
theorem lastB_lt {n : Nat} (h : lastB ops n = true) : n < ops.size := by
  unfold lastB at h
  rw [Bool.and_eq_true] at h
  exact of_decide_eq_true h.1
theorem lastB_at {n j : Nat} {o : Oper} (h : lastB ops n = true) (ho : ops[j]? = some o) : (∀ e ∈ o.after, Region.binds .any e = true → e.on < j ∧ e.on ≠ n) ∧ (j = n ∨ ∃ (i : Nat) (l : Oper), ops[i]? = some l ∧ ∃ e ∈ l.after, Region.binds .any e = true ∧ e.on = j) := by
  have hlt := (Array.getElem?_eq_some_iff.1 ho).1
  unfold lastB at h
  rw [Bool.and_eq_true, List.all_eq_true] at h
  have h2 := h.2 j (List.mem_range.2 hlt)
  rw [ho] at h2
  simp only [Bool.and_eq_true, Bool.or_eq_true, beq_iff_eq] at h2
  obtain ⟨k1, k2⟩ := h2
  refine ⟨fun e he hb => ?_, ?_⟩
  · rw [Array.all_eq_true_iff_forall_mem] at k1
    have := k1 e he
    simp only [hb, Bool.not_true, Bool.or_eq_true, Bool.false_eq_true, false_or, Bool.and_eq_true, decide_eq_true_eq, bne_iff_ne] at this
    exact this
  · rcases k2 with k2 | k2
    · exact .inl k2
    · rw [List.any_eq_true] at k2
      obtain ⟨i, _, k2⟩ := k2
      split at k2
      · cases k2
      · next l hl =>
        rw [Array.any_eq_true'] at k2
        obtain ⟨e, he, h3⟩ := k2
        rw [Bool.and_eq_true, beq_iff_eq] at h3
        exact .inr ⟨i, l, hl, e, he, h3.1, h3.2⟩
/-- what came up, came up behind what it waits for -/
def InTurn (ops : Array Oper) (listed : Array Bool) : Prop := ∀ i o, ops[i]? = some o → listed.getD i false = true → ∀ e ∈ o.after, Region.binds .any e = true → listed.getD e.on false = true
theorem InTurn.start (k : Nat) : InTurn ops (Array.replicate k false) := fun i o ho h => by
  by_cases hk : i < k <;> simp [hk] at h
theorem InTurn.step {listed : Array Bool} {i : Nat} (h : InTurn ops listed) (hi : i ∈ Region.ready .any ops listed) : InTurn ops (listed.setIfInBounds i true) := fun j o ho hj e he hb => by
  by_cases hji : j = i
  · subst hji
    obtain ⟨_, o', ho', hall⟩ := mem_ready.1 hi
    rw [ho] at ho'
    cases ho'
    exact getD_set_true (hall e he hb)
  · rw [getD_set_ne false (Ne.symm hji)] at hj
    exact getD_set_true (h j o ho hj e he hb)
theorem ready_ne {n : Nat} (hB : lastB ops n = true) {listed : Array Bool} (hs : listed.size = ops.size) (hn : listed.getD n true = false) : Region.ready .any ops listed ≠ [] := by
  intro h0
  have all : ∀ j, j < ops.size → listed.getD j true = true := by
    intro j
    induction j using Nat.strongRecOn with
    | _ j ih =>
      intro hj
      cases hl : listed.getD j true
      · exfalso
        have : j ∈ Region.ready .any ops listed := mem_ready.2 ⟨hl, ops[j], Array.getElem?_eq_getElem hj, fun e he hb => by
          obtain ⟨h1, _⟩ := (lastB_at hB (Array.getElem?_eq_getElem hj)).1 e he hb
          have := ih e.on h1 (by omega)
          simpa [show e.on < listed.size by omega] using this⟩
        rw [h0] at this
        cases this
      · rfl
  rw [all n (lastB_lt hB)] at hn
  cases hn
theorem ready_back {n i : Nat} (hB : lastB ops n = true) {listed : Array Bool} (hi : i ∈ Region.ready .any ops (listed.setIfInBounds n true)) (hne : i ≠ n) : i ∈ Region.ready .any ops listed := by
  obtain ⟨h0, o, ho, hall⟩ := mem_ready.1 hi
  refine mem_ready.2 ⟨by rw [getD_set_ne true (Ne.symm hne)] at h0; exact h0, o, ho, fun e he hb => ?_⟩
  have h1 := hall e he hb
  have h2 := ((lastB_at hB ho).1 e he hb).2
  rw [getD_set_ne false (Ne.symm h2)] at h1
  exact h1
theorem ready_last {n : Nat} (hB : lastB ops n = true) {listed : Array Bool} (hs : listed.size = ops.size) (hT : InTurn ops listed) (hi : n ∈ Region.ready .any ops listed) : Region.ready .any ops (listed.setIfInBounds n true) = [] := by
  obtain ⟨_, l, hl, hall⟩ := mem_ready.1 hi
  have all : ∀ d j, ops.size - j ≤ d → j < ops.size → j ≠ n → listed.getD j false = true := by
    intro d
    induction d with
    | zero => intro j hd hj; omega
    | succ d ih =>
      intro j hd hj hne
      rcases (lastB_at hB (Array.getElem?_eq_getElem hj)).2 with e | ⟨i, l', hl', e, he, hb, heq⟩
      · exact absurd e hne
      · have h1 := ((lastB_at hB hl').1 e he hb).1
        rw [← heq]
        by_cases hin : i = n
        · subst hin
          rw [hl] at hl'
          cases hl'
          exact hall e he hb
        · exact hT i l' hl' (ih i (by omega) (Array.getElem?_eq_some_iff.1 hl').1 hin) e he hb
  refine List.eq_nil_iff_forall_not_mem.2 fun j hj => ?_
  obtain ⟨h0, o, ho, _⟩ := mem_ready.1 hj
  have hlt := (Array.getElem?_eq_some_iff.1 ho).1
  by_cases hjn : j = n
  · subst hjn
    simp [show j < listed.size by omega] at h0
  · rw [getD_set_ne true (Ne.symm hjn)] at h0
    have h1 := all _ j (Nat.le_refl _) hlt hjn
    simp [show j < listed.size by omega] at h0 h1
    rw [h0] at h1
    cases h1
theorem wpAny_last {n : Nat} (hB : lastB ops n = true) : ∀ (fuel : Nat) (listed : Array Bool) (a : Act) (w : World), listed.size = ops.size → InTurn ops listed → listed.getD n true = false →
    wpAnyH P .any ops (AtLast P ops n Q) S fuel (listed.setIfInBounds n true) a w → wpAny P .any ops Q (fuel + 1) listed a w := by
  intro fuel
  induction fuel with
  | zero =>
    intro listed a w hs hT hn h
    refine ⟨fun h0 => absurd h0 (ready_ne hB hs hn), fun i hi => ?_⟩
    have hin : i = n := by
      refine Classical.byContradiction fun hne => ?_
      have := ready_mono hi hne
      rw [h.1] at this
      cases this
    subst hin
    exact wpOp_mono (fun a' w' hq => ⟨h.1, hq⟩) h.2
  | succ fuel ih =>
    intro listed a w hs hT hn h
    refine ⟨fun h0 => absurd h0 (ready_ne hB hs hn), fun i hi => ?_⟩
    by_cases hin : i = n
    · subst hin
      have h0 := ready_last hB hs hT hi
      exact wpOp_mono (fun a' w' hq => ⟨fun _ => hq, by rw [h0]; simp⟩) (h.1 h0)
    · refine wpOp_mono (fun a' w' hq => ih _ a' w' (by simpa using hs) (hT.step hi) (by rw [getD_set_ne true hin]; exact hn) ?_) (wpOp_atLast (h.2 i (ready_mono hi hin)))
      rw [Array.setIfInBounds_comm _ _ hin]
      exact hq.2
/-- the beginning -/
theorem wp_region_last {id : Nat} {a : Act} {w : World} (n k : Nat) (l : Array Bool) (hm : P.follows .mixedOrders = true) (hB : lastB ops n = true) (hk : ops.size = k + 1) (hl : l = (Array.replicate ops.size false).setIfInBounds n true) (hS : S w.drew)
    (h : S w.drew → wpAnyH P .any ops (AtLast P ops n Q) S k l a w.drew) : (Code.region id ops true).wp P Q a w := by
  refine wp_region_any hm ?_
  have hlt := lastB_lt hB
  subst hl
  have := wpAny_last hB k (Array.replicate ops.size false) a w.drew (by simp) (InTurn.start _) (by simp [hlt]) (h hS)
  rw [← hk] at this
  exact this
/-- the last one -/
theorem atLast_step {n : Nat} {o : Oper} {a : Act} {w : World} (ho : ops[n]? = some o)
    (h : ∀ K' : Act → World → Prop, Shut (∀ a w, Q .normal a w → K' a w) → if Region.wanted o (yielded ops a.tmps) = true then Oper.wp P o a w K' Q else K' (a.put o.dst undef) w) : AtLast P ops n Q .normal a w :=
  wpOp_step ho h
end
end Go.Proofs.YthobbekocimcnaaGreat
end
section
set_option linter.unusedSimpArgs false
set_option linter.unusedVariables false
namespace Go.Proofs.YthobbekocimcnaaGreat
set_option maxRecDepth 100000
open Go.RowKit

theorem push_full {c : Ca} (h : c.l.length = c.most) (w : Int) : (c.push w).l = c.l.drop 1 ++ [mill w] := by
  have h1 : 1 ≤ c.most := by unfold Ca.most; omega
  show lastL (c.l ++ [mill w]) c.most = _
  unfold lastL
  rw [List.length_append, List.length_singleton, show c.l.length + 1 - c.most = 1 by omega, List.drop_append_of_le_length (by omega)]
theorem push_room {c : Ca} (h : c.l.length < c.most) (w : Int) : (c.push w).l = c.l ++ [mill w] := by
  show lastL (c.l ++ [mill w]) c.most = _
  exact lastL_all (by rw [List.length_append, List.length_singleton]; omega)
/-- what is kept of a call that puts x behind -/
def Putted (w : World) (b : Nat) (c : Ca) (e : Ending) (w' : World) : Prop := e = .returned (.tuple #[]) ∧ CaAt w' b c ∧ Chg [b] w w'
theorem put_fin {w w2 w3 : World} {b : Nat} {c : Ca} {ws : List Int} {K : Nat} {x : Int} {l0 : List Int} (ho : (c.push x).Ok) (h61 : ws.length = 61) (hx : mill x = x) (hl : ws.take K = l0) (hK : K < 61) (h0 : l0.length = K) (hp : (c.push x).l = l0 ++ [mill x])
    (hr : w3.heap[b]? = some (.cells (caCells c.up c.down (K + 1) ws) 89)) (hc : Chg [b] w w3) :
    CaAt (w3.setCell ⟨b, 3 + K, none⟩ (.int .i64 x)) b (c.push x) ∧ Chg [b] w (w3.setCell ⟨b, 3 + K, none⟩ (.int .i64 x)) := by
  have hlen : (c.push x).l.length = K + 1 := by rw [hp, List.length_append, h0]; rfl
  refine ⟨⟨⟨ws.set K x, by rw [List.length_set, h61], ?_, ?_⟩, ho⟩, hc.set (.inl (by simp)) _⟩
  · rw [hlen, List.take_succ_eq_append_getElem (by rw [List.length_set]; omega), hp, List.getElem_set_self, List.take_set_of_le (Nat.le_refl _), hl, hx]
  · rw [hlen]
    exact row_want hr K x

set_option maxHeartbeats 1600000 in
theorem put_any {b : Nat} {c : Ca} (x : Int) (hx : mill x = x) {w : World} (H : CaAt w b c) :
    Calls Tryz.prog 56 #[.pointer (some ⟨b, 0, none⟩), .int .i64 x] w (Putted w b (c.push x)) := by
  have A := hid (all_any H)
  have R := hid (fun W (h : w.grownBy W none) => room_any (H.grown h))
  have hml := most_le H.ok
  have hok := hid (Ca.push_ok H.ok x)
  have hn := H.ok.n
  have HH := hid H
  have PF := hid (fun h => push_full (c := c) h x)
  have PR := hid (fun h => push_room (c := c) h x)
  obtain ⟨⟨ws, h61, htk, hrow⟩, -⟩ := H
  have H61 := hid h61; have HTK := hid htk
  have hrw := hid (fun W (h : w.grownBy W none) => at_grown hrow h (by simp))
  have HX := hid hx
  have m1 : 1 ≤ c.most := by unfold Ca.most; omega
  obtain ⟨m, hm⟩ : ∃ m, c.most = m := ⟨_, rfl⟩
  obtain ⟨n, hN⟩ : ∃ n, c.l.length = n := ⟨_, rfl⟩
  rw [hm] at R hml hn m1
  rw [hN] at A hn hrw
  have HM := hid hm; have HN := hid hN
  clear hm hN h61 htk hrow hx
  by_cases hf : n = m
  · subst hf
    have s0 : ((n : Int) == (n : Int)) = true := by simp
    obtain ⟨K, hK⟩ : ∃ K, n = K + 1 := ⟨n - 1, by omega⟩
    have HKK := hid hK
    have AC := hid (arr_all b); have A1 := hid (arr_one b)
    have hs := fun u => arr_all b u
    have hs1 := fun u => arr_one b u
    clear hK
    go_enter Tryz.func56, Tryz.ntmps56
    go_wp2_with fail
    refine A.out.mono ?_
    rintro e w1 ⟨rfl, hg1⟩
    have G1 := hid hg1; clear hg1
    go_wp2_with fail
    refine (R.out _ G1.out).mono ?_
    rintro e w2 ⟨rfl, hg2⟩
    have G2 := hid (gb_trans G1.out hg2 (.inl rfl)); clear hg2
    go_wp2_with fail
    have HS := hid (hrw.out _ (gb_drew G2.out))
    have HI4 := hid (show IntsAt w2.drew (.slice (some ⟨b, 4, none⟩) 60 60) (ws.drop 1) from .inr ⟨_, 60, by rw [List.length_drop, H61.out], by rw [List.length_drop, H61.out]; omega, by unfold maxLen; omega, fun i hi => by
      rw [List.length_drop, H61.out] at hi
      rw [iadd_at, at_cell HS.out, show 4 + i = 3 + (1 + i) by omega, ca_cellk, List.getElem_drop, List.getElem?_eq_getElem]; rfl⟩)
    have hcp := fun ty => copy_into HS.out H61.out HI4.out (by rw [List.length_drop]; have := H61.out; omega) ty
    obtain ⟨w3, hc1, hc2, hc3⟩ := hcp 3
    rw [List.length_drop, H61.out] at hc1 hc2
    have HC2 := hid hc2; have HC3 := hid hc3
    clear hc2 hc3 hcp
    go_region
    go_wp2_with fail
    refine (keptn (m := K) HC2.out (-1) (K : Int) (by rw [IntWalk.i64_in _ (by omega)]; have := HKK.out; omega) rfl).mono ?_
    rintro e wq ⟨rfl, hrow, hch⟩
    have HROW0 := hid (show wq.drew.heap[b]? = _ from hrow)
    have HC := hid (show Chg [b] w wq.drew from ((chg_grown (gb_drew G2.out) [b]).then HC3.out).then hch |>.drew)
    have HFIN := hid (fun (w3 : World) hr hc => put_fin (w := w) (w2 := w) (w3 := w3) (b := b) (c := c) (ws := ws.drop 1 ++ ws.drop (61 - 1)) (K := K) (x := x) (l0 := c.l.drop 1) hok.out (by rw [List.length_append, List.length_drop, List.length_drop, H61.out]) HX.out (by
      have hk := HKK.out
      rw [List.take_append_of_le_length (by rw [List.length_drop, H61.out]; omega), List.take_drop, show 1 + K = n by omega, ← HN.out, HTK.out]) (by have := HKK.out; omega) (by rw [List.length_drop, HN.out, HKK.out]; rfl) (PF.out (HN.out.trans HM.out.symm)) hr hc)
    have HK5 := hid (show K < (ws.drop 1 ++ ws.drop (61 - 1)).length by rw [List.length_append, List.length_drop, List.length_drop, H61.out]; have := HKK.out; omega)
    generalize ws.drop 1 ++ ws.drop (61 - 1) = ws1 at *
    clear hrow hch HC2 HC3 HI4 HS hc1 w3 HTK H61
    have hk61 : K < 61 := by have := HKK.out; omega
    obtain ⟨z, hz⟩ : ∃ z : Int, z = (K : Int) + 1 := ⟨_, rfl⟩
    have HZ := hid (show IntKind.i64.wrap ((K : Int) + 1) = z by rw [← hz]; exact IntWalk.i64_in _ (by omega))
    have HZK := hid (show z = ((K + 1 : Nat) : Int) by omega)
    have s5 : IntKind.i64.wrap (z - 1) = (K : Int) := by rw [IntWalk.i64_in _ (by omega)]; omega
    have k5 : (K : Int) < 61 := by omega
    clear hz HKK s0
    go_wp2_with fail
    refine wp_region_last (S := (fun w' => (True))) 10 10 #[false, false, false, false, false, false, false, false, false, false, true] (by kernel_rfl) (by kernel_rfl) (by kernel_rfl) (by kernel_rfl) trivial (fun hHeld => ?_)
    try dsimp only at hHeld
    refine' wpAnyH_take (i := 0) (v := _) rfl (by kernel_rfl) (by kernel_rfl) (by kernel_rfl) (fun _ _ _ h => h) (Or.inl ⟨by rfl, ?_⟩) hHeld ?_
    rotate_left
    · (intro w hSw; (try dsimp only at hSw); go_simp; try with_reducible rfl)
    try simp only [Act.put, List.setIfInBounds_toArray, List.set_cons_zero, List.set_cons_succ, List.getElem_toArray, List.getElem_cons_succ, List.getElem_cons_zero]
    refine' wpAnyH_take (i := 1) (v := _) rfl (by kernel_rfl) (by kernel_rfl) (by kernel_rfl) (fun _ _ _ h => h) (Or.inl ⟨by rfl, ?_⟩) hHeld ?_
    rotate_left
    · (intro w hSw; (try dsimp only at hSw); go_simp; try with_reducible rfl)
    try simp only [Act.put, List.setIfInBounds_toArray, List.set_cons_zero, List.set_cons_succ, List.getElem_toArray, List.getElem_cons_succ, List.getElem_cons_zero]
    refine' wpAnyH_take (i := 2) (v := _) rfl (by kernel_rfl) (by kernel_rfl) (by kernel_rfl) (fun _ _ _ h => h) (Or.inl ⟨by rfl, ?_⟩) hHeld ?_
    rotate_left
    · (intro w hSw; (try dsimp only at hSw); go_simp; try with_reducible rfl)
    try simp only [Act.put, List.setIfInBounds_toArray, List.set_cons_zero, List.set_cons_succ, List.getElem_toArray, List.getElem_cons_succ, List.getElem_cons_zero]
    refine' wpAnyH_take (i := 3) (v := _) rfl (by kernel_rfl) (by kernel_rfl) (by kernel_rfl) (fun _ _ _ h => h) (Or.inl ⟨by rfl, ?_⟩) hHeld ?_
    rotate_left
    · (intro w hSw; (try dsimp only at hSw); go_simp; try with_reducible rfl)
    try simp only [Act.put, List.setIfInBounds_toArray, List.set_cons_zero, List.set_cons_succ, List.getElem_toArray, List.getElem_cons_succ, List.getElem_cons_zero]
    refine' wpAnyH_take (i := 6) (v := _) rfl (by kernel_rfl) (by kernel_rfl) (by kernel_rfl) (fun _ _ _ h => h) (Or.inl ⟨by rfl, ?_⟩) hHeld ?_
    rotate_left
    · (intro w hSw; (try dsimp only at hSw); go_simp; try with_reducible rfl)
    try simp only [Act.put, List.setIfInBounds_toArray, List.set_cons_zero, List.set_cons_succ, List.getElem_toArray, List.getElem_cons_succ, List.getElem_cons_zero]
    refine' wpAnyH_take (i := 7) (v := _) rfl (by kernel_rfl) (by kernel_rfl) (by kernel_rfl) (fun _ _ _ h => h) (Or.inl ⟨by rfl, ?_⟩) hHeld ?_
    rotate_left
    · (intro w hSw; (try dsimp only at hSw); go_simp; try with_reducible rfl)
    try simp only [Act.put, List.setIfInBounds_toArray, List.set_cons_zero, List.set_cons_succ, List.getElem_toArray, List.getElem_cons_succ, List.getElem_cons_zero]
    refine' wpAnyH_take (i := 8) (v := _) rfl (by kernel_rfl) (by kernel_rfl) (by kernel_rfl) (fun _ _ _ h => h) (Or.inl ⟨by rfl, ?_⟩) hHeld ?_
    rotate_left
    · (intro w hSw; (try dsimp only at hSw); go_simp; try with_reducible rfl)
    try simp only [Act.put, List.setIfInBounds_toArray, List.set_cons_zero, List.set_cons_succ, List.getElem_toArray, List.getElem_cons_succ, List.getElem_cons_zero]
    refine wpAnyH_ready (rs := [4]) (by kernel_rfl) (by simp) ?_
    refine AllReadyH.cons (o := _) rfl (fun K hK => ?_) AllReadyH.nil
    try simp only [List.getElem_toArray, List.getElem_cons_succ, List.getElem_cons_zero]
    go_simp
    have hH2 := hHeld
    have hp := hH2
    refine (keptn HROW0.out 1 z HZ.out HZK.out).mono ?_
    rintro e w1004 ⟨rfl, hrow, hch⟩
    have HR2 := hid hrow; have HC2 := hid (HC.out.then hch); clear hrow hch
    have hg := True.intro
    have L4 := hid (show (True) from hp)
    clear hHeld hg hp
    go_wp2_with fail
    refine hK.out _ _ ?_ (fun hHeld => ?_)
    · exact L4.out
    clear hK K
    try dsimp only at hHeld
    try simp only [Act.put, List.setIfInBounds_toArray, List.set_cons_zero, List.set_cons_succ, List.getElem_toArray, List.getElem_cons_succ, List.getElem_cons_zero]
    refine' wpAnyH_take (i := 5) (v := _) rfl (by kernel_rfl) (by kernel_rfl) (by kernel_rfl) (fun _ _ _ h => h) (Or.inl ⟨by rfl, ?_⟩) hHeld ?_
    rotate_left
    · (intro w hSw; (try dsimp only at hSw); go_simp; try with_reducible rfl)
    try simp only [Act.put, List.setIfInBounds_toArray, List.set_cons_zero, List.set_cons_succ, List.getElem_toArray, List.getElem_cons_succ, List.getElem_cons_zero]
    refine' wpAnyH_take (i := 9) (v := _) rfl (by kernel_rfl) (by kernel_rfl) (by kernel_rfl) (fun _ _ _ h => h) (Or.inl ⟨by rfl, ?_⟩) hHeld ?_
    rotate_left
    · (intro w hSw; (try dsimp only at hSw); go_simp; try with_reducible rfl)
    try simp only [Act.put, List.setIfInBounds_toArray, List.set_cons_zero, List.set_cons_succ, List.getElem_toArray, List.getElem_cons_succ, List.getElem_cons_zero]
    refine wpAnyH_done (by kernel_rfl) ?_ _
    have hp := hHeld
    have c5 := at_cell HR2.out (3 + K); have f5 := at_free HR2.out (3 + K)
    rw [ca_cellk, List.getElem?_eq_getElem HK5.out] at c5
    clear hp
    refine atLast_step (o := _) rfl (fun K hK => ?_)
    try simp only [List.getElem_toArray, List.getElem_cons_succ, List.getElem_cons_zero]
    go_simp
    refine hK.out _ _ ?_
    clear hK K c5 f5
    try simp only [Act.put, List.setIfInBounds_toArray, List.set_cons_zero, List.set_cons_succ, List.getElem_toArray, List.getElem_cons_succ, List.getElem_cons_zero]
    go_wp2_with fail
    go_end0
    exact ⟨rfl, HFIN.out _ HR2.out HC2.out⟩
  · have s0 : ((n : Int) == (m : Int)) = false := by simp; omega
    obtain ⟨K, hK⟩ : ∃ K, n = K := ⟨n, rfl⟩
    subst hK
    have s0' : ¬ (n : Int) = (m : Int) := by omega
    have hk61 : n < 61 := by omega
    have HLT := hid (show n < m by omega)
    clear hf
    go_enter Tryz.func56, Tryz.ntmps56
    go_wp2_with fail
    refine A.out.mono ?_
    rintro e w1 ⟨rfl, hg1⟩
    have G1 := hid hg1; clear hg1
    go_wp2_with fail
    refine (R.out _ G1.out).mono ?_
    rintro e wq ⟨rfl, hg2⟩
    have G2 := hid (gb_trans G1.out hg2 (.inl rfl)); clear hg2
    have HROW := hid (hrw.out _ (gb_drew G2.out))
    have HC := hid (chg_grown (gb_drew G2.out) [b])
    have HFIN := hid (fun (w3 : World) hr hc => put_fin (w := w) (w2 := w) (w3 := w3) (b := b) (c := c) (ws := ws) (K := n) (x := x) (l0 := c.l) hok.out H61.out HX.out (by rw [← HN.out]; exact HTK.out) hk61 HN.out (PR.out (by rw [HN.out, HM.out]; exact HLT.out)) hr hc)
    have HK5 := hid (show n < ws.length by rw [H61.out]; exact hk61)
    obtain ⟨z, hz⟩ : ∃ z : Int, z = (n : Int) + 1 := ⟨_, rfl⟩
    have HZ := hid (show IntKind.i64.wrap ((n : Int) + 1) = z by rw [← hz]; exact IntWalk.i64_in _ (by omega))
    have HZK := hid (show z = ((n + 1 : Nat) : Int) by omega)
    have s5 : IntKind.i64.wrap (z - 1) = (n : Int) := by rw [IntWalk.i64_in _ (by omega)]; omega
    have k5 : (n : Int) < 61 := by omega
    clear hz HTK H61
    go_wp2_with fail
    refine wp_region_last (S := (fun w' => (True))) 10 10 #[false, false, false, false, false, false, false, false, false, false, true] (by kernel_rfl) (by kernel_rfl) (by kernel_rfl) (by kernel_rfl) trivial (fun hHeld => ?_)
    try dsimp only at hHeld
    refine' wpAnyH_take (i := 0) (v := _) rfl (by kernel_rfl) (by kernel_rfl) (by kernel_rfl) (fun _ _ _ h => h) (Or.inl ⟨by rfl, ?_⟩) hHeld ?_
    rotate_left
    · (intro w hSw; (try dsimp only at hSw); go_simp; try with_reducible rfl)
    try simp only [Act.put, List.setIfInBounds_toArray, List.set_cons_zero, List.set_cons_succ, List.getElem_toArray, List.getElem_cons_succ, List.getElem_cons_zero]
    refine' wpAnyH_take (i := 1) (v := _) rfl (by kernel_rfl) (by kernel_rfl) (by kernel_rfl) (fun _ _ _ h => h) (Or.inl ⟨by rfl, ?_⟩) hHeld ?_
    rotate_left
    · (intro w hSw; (try dsimp only at hSw); go_simp; try with_reducible rfl)
    try simp only [Act.put, List.setIfInBounds_toArray, List.set_cons_zero, List.set_cons_succ, List.getElem_toArray, List.getElem_cons_succ, List.getElem_cons_zero]
    refine' wpAnyH_take (i := 2) (v := _) rfl (by kernel_rfl) (by kernel_rfl) (by kernel_rfl) (fun _ _ _ h => h) (Or.inl ⟨by rfl, ?_⟩) hHeld ?_
    rotate_left
    · (intro w hSw; (try dsimp only at hSw); go_simp; try with_reducible rfl)
    try simp only [Act.put, List.setIfInBounds_toArray, List.set_cons_zero, List.set_cons_succ, List.getElem_toArray, List.getElem_cons_succ, List.getElem_cons_zero]
    refine' wpAnyH_take (i := 3) (v := _) rfl (by kernel_rfl) (by kernel_rfl) (by kernel_rfl) (fun _ _ _ h => h) (Or.inl ⟨by rfl, ?_⟩) hHeld ?_
    rotate_left
    · (intro w hSw; (try dsimp only at hSw); go_simp; try with_reducible rfl)
    try simp only [Act.put, List.setIfInBounds_toArray, List.set_cons_zero, List.set_cons_succ, List.getElem_toArray, List.getElem_cons_succ, List.getElem_cons_zero]
    refine' wpAnyH_take (i := 6) (v := _) rfl (by kernel_rfl) (by kernel_rfl) (by kernel_rfl) (fun _ _ _ h => h) (Or.inl ⟨by rfl, ?_⟩) hHeld ?_
    rotate_left
    · (intro w hSw; (try dsimp only at hSw); go_simp; try with_reducible rfl)
    try simp only [Act.put, List.setIfInBounds_toArray, List.set_cons_zero, List.set_cons_succ, List.getElem_toArray, List.getElem_cons_succ, List.getElem_cons_zero]
    refine' wpAnyH_take (i := 7) (v := _) rfl (by kernel_rfl) (by kernel_rfl) (by kernel_rfl) (fun _ _ _ h => h) (Or.inl ⟨by rfl, ?_⟩) hHeld ?_
    rotate_left
    · (intro w hSw; (try dsimp only at hSw); go_simp; try with_reducible rfl)
    try simp only [Act.put, List.setIfInBounds_toArray, List.set_cons_zero, List.set_cons_succ, List.getElem_toArray, List.getElem_cons_succ, List.getElem_cons_zero]
    refine' wpAnyH_take (i := 8) (v := _) rfl (by kernel_rfl) (by kernel_rfl) (by kernel_rfl) (fun _ _ _ h => h) (Or.inl ⟨by rfl, ?_⟩) hHeld ?_
    rotate_left
    · (intro w hSw; (try dsimp only at hSw); go_simp; try with_reducible rfl)
    try simp only [Act.put, List.setIfInBounds_toArray, List.set_cons_zero, List.set_cons_succ, List.getElem_toArray, List.getElem_cons_succ, List.getElem_cons_zero]
    refine wpAnyH_ready (rs := [4]) (by kernel_rfl) (by simp) ?_
    refine AllReadyH.cons (o := _) rfl (fun K hK => ?_) AllReadyH.nil
    try simp only [List.getElem_toArray, List.getElem_cons_succ, List.getElem_cons_zero]
    go_simp
    have hH2 := hHeld
    have hp := hH2
    refine (keptn HROW.out 1 z HZ.out HZK.out).mono ?_
    rintro e w1004 ⟨rfl, hrow, hch⟩
    have HR2 := hid hrow; have HC2 := hid (HC.out.then hch); clear hrow hch
    have hg := True.intro
    have L4 := hid (show (True) from hp)
    clear hHeld hg hp
    go_wp2_with fail
    refine hK.out _ _ ?_ (fun hHeld => ?_)
    · exact L4.out
    clear hK K
    try dsimp only at hHeld
    try simp only [Act.put, List.setIfInBounds_toArray, List.set_cons_zero, List.set_cons_succ, List.getElem_toArray, List.getElem_cons_succ, List.getElem_cons_zero]
    refine' wpAnyH_take (i := 5) (v := _) rfl (by kernel_rfl) (by kernel_rfl) (by kernel_rfl) (fun _ _ _ h => h) (Or.inl ⟨by rfl, ?_⟩) hHeld ?_
    rotate_left
    · (intro w hSw; (try dsimp only at hSw); go_simp; try with_reducible rfl)
    try simp only [Act.put, List.setIfInBounds_toArray, List.set_cons_zero, List.set_cons_succ, List.getElem_toArray, List.getElem_cons_succ, List.getElem_cons_zero]
    refine' wpAnyH_take (i := 9) (v := _) rfl (by kernel_rfl) (by kernel_rfl) (by kernel_rfl) (fun _ _ _ h => h) (Or.inl ⟨by rfl, ?_⟩) hHeld ?_
    rotate_left
    · (intro w hSw; (try dsimp only at hSw); go_simp; try with_reducible rfl)
    try simp only [Act.put, List.setIfInBounds_toArray, List.set_cons_zero, List.set_cons_succ, List.getElem_toArray, List.getElem_cons_succ, List.getElem_cons_zero]
    refine wpAnyH_done (by kernel_rfl) ?_ _
    have hp := hHeld
    have c5 := at_cell HR2.out (3 + n); have f5 := at_free HR2.out (3 + n)
    rw [ca_cellk, List.getElem?_eq_getElem HK5.out] at c5
    clear hp
    refine atLast_step (o := _) rfl (fun K hK => ?_)
    try simp only [List.getElem_toArray, List.getElem_cons_succ, List.getElem_cons_zero]
    go_simp
    refine hK.out _ _ ?_
    clear hK K c5 f5
    try simp only [Act.put, List.setIfInBounds_toArray, List.set_cons_zero, List.set_cons_succ, List.getElem_toArray, List.getElem_cons_succ, List.getElem_cons_zero]
    go_wp2_with fail
    go_end0
    exact ⟨rfl, HFIN.out _ HR2.out HC2.out⟩
end Go.Proofs.YthobbekocimcnaaGreat
end
section
namespace Go.Proofs.YthobbekocimcnaaGreat
set_option maxRecDepth 100000
open Go.RowKit

section
variable {P : Program} {ops : Array Oper} {rest : List Oper} {o : Oper} {a : Act} {w : World} {Q : Exit → Act → World → Prop} {b : Nat} {t ty : TypeId} {x y : Operand} {dst : Option Tmp} {d : TypeDesc} {cs old : Array Value}

theorem wpList_row {fr : Nat × Nat} (h : w.heap[b]? = some (.cells cs t fr)) (hu : P.underlying ty = some d) (hd : (match d with | .struct _ | .array _ _ => true | _ => false) = true) (hi : (P.info? ty).map (·.size) = some cs.size)
    (hg : o.guard = none) (ho : o.op = .load ty x) (hdst : o.dst = dst) (hx : a.eval x = .pointer (some ⟨b, 0, none⟩))
    (k : wpList P ops Q rest (a.put dst (.agg cs)) w) : wpList P ops Q (o :: rest) a w := by
  refine Great.wpList_readTo hg dst hdst (.agg cs) ?_ k
  simp only [execOp, ho, hx, Sem.run_bind, Instr.loadAt, Instr.sureAddr, Sem.run_pure, Result.andThen_ok, run_loadVar_row w b t ty cs fr d h hu hd hi]

/-- the same, the operation guarded and its guard decided -/
theorem wpList_row_w {fr : Nat × Nat} (h : w.heap[b]? = some (.cells cs t fr)) (hu : P.underlying ty = some d) (hd : (match d with | .struct _ | .array _ _ => true | _ => false) = true) (hi : (P.info? ty).map (·.size) = some cs.size)
    (hw : Region.wanted o (yielded ops a.tmps) = true) (ho : o.op = .load ty x) (hdst : o.dst = dst) (hx : a.eval x = .pointer (some ⟨b, 0, none⟩))
    (k : wpList P ops Q rest (a.put dst (.agg cs)) w) : wpList P ops Q (o :: rest) a w := by
  subst hdst
  refine wpList_step fun K hK => ?_
  simp only [hw, if_true]
  unfold Oper.wp
  have e : (execOp a.eval o).run P w = .ok (.value (.agg cs)) w := by
    simp only [execOp, ho, hx, Sem.run_bind, Instr.loadAt, Instr.sureAddr, Sem.run_pure, Result.andThen_ok, run_loadVar_row w b t ty cs fr d h hu hd hi]
  rw [e, Oper.upon_value]
  exact hK _ _ k

theorem wpList_store_row (h : w.heap[b]? = some (.cells old t (0, 0))) (hi : (P.info? ty).map (·.size) = some cs.size) (hsz : old.size = cs.size) (h1 : cs.all (·.oneCell') = true)
    (hg : o.guard = none) (ho : o.op = .store ty x y) (hdst : o.dst = none) (hx : a.eval x = .pointer (some ⟨b, 0, none⟩)) (hy : a.eval y = .agg cs)
    (k : wpList P ops Q rest a (w.setRow b cs)) : wpList P ops Q (o :: rest) a w := by
  refine wpList_plain hg fun K hK => ?_
  unfold Oper.wp
  have e : (execOp a.eval o).run P w = .ok .skip (w.setRow b cs) := by
    simp only [execOp, ho, hx, hy, Sem.run_bind, Instr.storeAt, Instr.sureAddr, Sem.run_pure, Result.andThen_ok, run_storeVar_row w b t ty old cs h hi hsz h1]
  rw [e, Oper.upon_skip, hdst]
  exact hK _ _ k

/-- the store into the block that was made last -/
theorem wpList_store_new {n : Nat} (hn : w.heap.size = n) (hi : (P.info? ty).map (·.size) = some cs.size) (hsz : old.size = cs.size) (h1 : cs.all (·.oneCell') = true)
    (hg : o.guard = none) (ho : o.op = .store ty x y) (hdst : o.dst = none) (hx : a.eval x = .pointer (some ⟨n, 0, none⟩)) (hy : a.eval y = .agg cs)
    (k : wpList P ops Q rest a (w.alloc (.cells cs t))) : wpList P ops Q (o :: rest) a (w.alloc (.cells old t)) :=
  wpList_store_row (heap_alloc_last w _) hi hsz h1 hg ho hdst (by rw [hn]; exact hx) hy (by rw [World.setRow_alloc_new]; exact k)

theorem wpList_buildTo {parts : Array (Nat × Operand)} (hg : o.guard = none) (ho : o.op = .build ty parts) (hdst : o.dst = dst)
    (hb : P.built ty (parts.map fun (i, x) => (i, a.eval x)).toList = some cs)
    (k : wpList P ops Q rest (a.put dst (.agg cs)) w) : wpList P ops Q (o :: rest) a w := by
  refine Great.wpList_readTo hg dst hdst (.agg cs) ?_ k
  have e := run_build (P := P) w ty (parts.map fun (i, x) => (i, a.eval x)) cs hb
  simp only [execOp, ho, Sem.run_bind, e, Sem.run_pure, Result.andThen_ok]

/-- the same two in a region that leaves its order open ('wpAnyH_take') -/
theorem exec_row {ρ : Operand → Value} {fr : Nat × Nat} (h : w.heap[b]? = some (.cells cs t fr)) (hu : P.underlying ty = some d) (hd : (match d with | .struct _ | .array _ _ => true | _ => false) = true) (hi : (P.info? ty).map (·.size) = some cs.size)
    (ho : o.op = .load ty x) (hx : ρ x = .pointer (some ⟨b, 0, none⟩)) : (execOp ρ o).run P w = .ok (.value (.agg cs)) w := by
  simp only [execOp, ho, hx, Sem.run_bind, Instr.loadAt, Instr.sureAddr, Sem.run_pure, Result.andThen_ok, run_loadVar_row w b t ty cs fr d h hu hd hi]
theorem exec_build {ρ : Operand → Value} {parts : Array (Nat × Operand)} (ho : o.op = .build ty parts) (hb : P.built ty (parts.map fun (i, x) => (i, ρ x)).toList = some cs) : (execOp ρ o).run P w = .ok (.value (.agg cs)) w := by
  have e := run_build (P := P) w ty (parts.map fun (i, x) => (i, ρ x)) cs hb
  simp only [execOp, ho, Sem.run_bind, e, Sem.run_pure, Result.andThen_ok]
end

/-- what a store of a whole row leaves -/
theorem at_setRow {w : World} {b : Nat} {old cs : Array Value} {t : TypeId} {f : Nat × Nat} (h : w.heap[b]? = some (.cells old t f)) : (w.setRow b cs).heap[b]? = some (.cells cs t f) := by
  simp [World.setRow, Array.getElem?_modify, h]
theorem at_setRow_other {w : World} {b k : Nat} {cs : Array Value} {o : Option Obj} (h : w.heap[k]? = o) (hk : k ≠ b) : (w.setRow b cs).heap[k]? = o := by
  simp [World.setRow, Array.getElem?_modify, Ne.symm hk, h]
end Go.Proofs.YthobbekocimcnaaGreat
end
section
set_option linter.unusedSimpArgs false
set_option linter.unusedVariables false
namespace Go.Proofs.YthobbekocimcnaaGreat
set_option maxRecDepth 100000
open Go.RowKit

theorem push_mill (c : Ca) (x : Int) : c.push (mill x) = c.push x := by
  unfold Ca.push; rw [mill_id (mill_in x)]
theorem lo_in {c : Ca} (h : c.Ok) (hne : c.l ≠ []) : 0 ≤ c.lo ∧ c.lo ≤ 1000000 := h.m _ (lastL_mem (loL_mem (lastL_ne hne (Nat.succ_pos _))))
theorem hi_in {c : Ca} (h : c.Ok) (hne : c.l ≠ []) : 0 ≤ c.hi ∧ c.hi ≤ 1000000 := h.m _ (lastL_mem (hiL_mem (lastL_ne hne (Nat.succ_pos _))))
theorem out_plain {c : Ca} (h : c.Ok) (hne : c.l ≠ []) (n : Int) : c.out n = min c.hi (max n c.lo) := by
  have h1 := lo_in h hne; have h2 := hi_in h hne
  unfold Ca.out mill; omega
theorem next_nil (n x : Int) (w : World) :
    Calls Tryz.prog 32 #[.pointer none, .int .i64 n, .int .i64 x] w fun e w' => e = .returned (.int .i64 0) ∧ w = w' := by
  go_enter Tryz.func32, Tryz.ntmps32
  go_wp2_with fail
  go_ret
  exact ⟨rfl, rfl⟩
def Nexted (w : World) (b : Nat) (c : Ca) (n : Int) (e : Ending) (w' : World) : Prop := e = .returned (.int .i64 (c.out n)) ∧ CaAt w' b c ∧ Chg [b] w w'
set_option maxHeartbeats 1600000 in
theorem next_any {b : Nat} {c : Ca} (n x : Int) {w : World} (H : CaAt w b c) :
    Calls Tryz.prog 32 #[.pointer (some ⟨b, 0, none⟩), .int .i64 n, .int .i64 x] w (Nexted w b (c.push x) n) := by
  have P := hid (put_any (mill x) (mill_id (mill_in x)) H)
  rw [push_mill] at P
  have hne := Ca.push_ne c x
  have hok := Ca.push_ok H.ok x
  have ho := hid (out_plain hok hne n)
  have TA := hid (tame_any x)
  generalize c.push x = c1 at *
  generalize mill x = y at *
  have hu := hok.u; have hd := hok.d
  have L1 := hid (fun (W : World) (h : CaAt W b c1) => last_any c1.up hu h)
  have L2 := hid (fun (W : World) (h : CaAt W b c1) => last_any c1.down hd h)
  have N1 := hid (lastL_ne hne (Nat.succ_pos c1.up))
  have N2 := hid (lastL_ne hne (Nat.succ_pos c1.down))
  have CC := hid (fun (W : World) (h : CaAt W b c1) => h.cells)
  clear hu hd hok hne H
  go_enter Tryz.func32, Tryz.ntmps32
  go_wp2_with fail
  refine (TA.out _).mono ?_
  rintro e w0 ⟨rfl, rfl⟩
  go_wp2_with fail
  refine P.out.mono ?_
  rintro e w1 ⟨rfl, hc, hg⟩
  have H1 := hid hc; have G1 := hid hg
  obtain ⟨c0, -, -, -⟩ := CC.out _ hc
  clear hc hg P
  go_wp2_with fail
  refine (L1.out _ H1.out).mono ?_
  rintro e w2 ⟨⟨v, rfl, hv⟩, hg⟩
  have V := hid hv; have H2 := hid (H1.out.grown hg); have G2 := hid (G1.out.grown hg)
  clear hv hg c0
  go_wp2_with fail
  refine (min_any _ _ _ V.out N1.out).mono ?_
  rintro e w3 ⟨rfl, rfl⟩
  obtain ⟨-, c0, -, -⟩ := CC.out _ H2.out
  obtain ⟨z1, hz1⟩ : ∃ z, loL (lastL c1.l (c1.up + 1)) = z := ⟨_, rfl⟩
  rw [hz1]
  have Z1 := hid hz1; clear hz1
  go_wp2_with fail
  refine (L2.out _ H2.out).mono ?_
  rintro e w4 ⟨⟨u, rfl, hv⟩, hg⟩
  have U := hid hv; have H4 := hid (H2.out.grown hg); have G4 := hid (G2.out.grown hg)
  clear hv hg c0
  go_wp2_with fail
  refine (max_any _ _ _ U.out N2.out).mono ?_
  rintro e w5 ⟨rfl, rfl⟩
  obtain ⟨z2, hz2⟩ : ∃ z, hiL (lastL c1.l (c1.down + 1)) = z := ⟨_, rfl⟩
  rw [hz2]
  have Z2 := hid hz2; clear hz2
  go_wp2_with fail
  all_goals go_ret
  all_goals exact ⟨congrArg (fun z => Ending.returned (.int .i64 z)) (by
    have e1 : c1.lo = z1 := Z1.out
    have e2 : c1.hi = z2 := Z2.out
    rw [ho.out, e1, e2]; try omega), H4.out, G4.out⟩
/-- All -/
theorem all_nil (w : World) :
    Calls Tryz.prog 16 #[.pointer none] w fun e w' => e = .returned (.slice none 0 0) ∧ w = w' := by
  go_enter Tryz.func16, Tryz.ntmps16
  go_wp2_with fail
  go_ret
  exact ⟨rfl, rfl⟩
theorem clone_any (a : Addr) (n c : Nat) (l : List Int) (w : World) (h : IntsAt w (.slice (some a) n c) l) (hn : l.length ≤ 999999) :
    Calls Tryz.prog 37 #[.slice (some a) n c] w fun e w' => (∃ v, e = .returned v ∧ OwnN w.heap.size w' v l) ∧ w.grownBy w' none := by
  have HI := hid h
  have hnil := Lib.run_eql_slice_nil w 22 3 (some a) n c 0 0 Tryz.underlying22
  have HE := hid (OwnN.empty w)
  have HB := hid (HI.out.alloc (.cells #[] 3))
  have HL := hid hn
  clear h hn
  go_enter Tryz.func37, Tryz.ntmps37
  go_wp2_with (refine append_nums rfl _ _ rfl w.heap.size _ [] rfl HE.out _ l rfl HB.out (by have := HL.out; simp; omega) (gb_size (gb_alloc (.refl w none) _)) ?_; intro v' w' hown hgrow hat)
  go_ret
  exact ⟨⟨_, rfl, by simpa using hown⟩, gb_ownN (gb_alloc (.refl w none) _) HE.out (Nat.le_refl _) hgrow⟩
/-- All -/
theorem alls_any {b : Nat} {c : Ca} {w : World} (H : CaAt w b c) :
    Calls Tryz.prog 16 #[.pointer (some ⟨b, 0, none⟩)] w fun e w' => (∃ v, e = .returned v ∧ OwnN w.heap.size w' v c.l) ∧ w.grownBy w' none := by
  have A := hid (all_any H)
  have hn := H.ok.n61
  have C1 := hid (fun (W : World) (h : w.grownBy W none) => clone_any _ _ _ c.l W (H.grown h).ints (by omega))
  generalize c.l = l at *
  clear H
  go_enter Tryz.func16, Tryz.ntmps16
  go_wp2_with fail
  refine A.out.mono ?_
  rintro e w1 ⟨rfl, hg⟩
  have G1 := hid hg; clear hg
  go_wp2_with fail
  refine (C1.out _ G1.out).mono ?_
  rintro e w2 ⟨⟨v, rfl, hv⟩, hg⟩
  have V := hid (hv.le G1.out.size); have G2 := hid (gb_trans G1.out hg (.inl rfl))
  clear hv hg
  go_wp2_with fail
  go_ret
  exact ⟨⟨_, rfl, V.out⟩, G2.out⟩
end Go.Proofs.YthobbekocimcnaaGreat
end
section
namespace Go.Proofs.YthobbekocimcnaaGreat
set_option maxRecDepth 100000
open Go.RowKit

/-- a 64-bit word as the model's integer -/
def q (x : BitVec 64) : Int := (x.toNat : Int)
/-- a byte as the model's integer -/
def qb (c : BitVec 8) : Int := (c.toNat : Int)

theorem q_nonneg (x : BitVec 64) : 0 ≤ q x := by unfold q; omega
theorem q_lt (x : BitVec 64) : q x < 18446744073709551616 := by unfold q; have := x.isLt; omega
theorem q_inj {x y : BitVec 64} (h : q x = q y) : x = y := by
  unfold q at h; exact BitVec.eq_of_toNat_eq (by omega)
theorem q_inj_iff (x y : BitVec 64) : q x = q y ↔ x = y := ⟨q_inj, fun h => by rw [h]⟩
theorem q_beq (x y : BitVec 64) : (q x == q y) = (x == y) := by
  rw [Bool.eq_iff_iff]; simp [q_inj_iff]
theorem q_wf (x : BitVec 64) : (Lit.int .u64 (q x)).wf = true := by
  have h1 := q_nonneg x; have h2 := q_lt x
  simp [Lit.wf, IntKind.min, IntKind.max, IntKind.signed, IntKind.bits]; omega
theorem q_of {n : Int} (h : (Lit.int .u64 n).wf = true) : ∃ x : BitVec 64, n = q x := by
  have h' : 0 ≤ n ∧ n ≤ 18446744073709551615 := by simpa [Lit.wf, IntKind.min, IntKind.max, IntKind.signed, IntKind.bits] using h
  refine ⟨BitVec.ofNat 64 n.toNat, ?_⟩
  unfold q
  rw [BitVec.toNat_ofNat]
  omega
theorem qb_of {n : Int} (h : (Lit.int .u8 n).wf = true) : ∃ x : BitVec 8, n = qb x := by
  have h' : 0 ≤ n ∧ n ≤ 255 := by simpa [Lit.wf, IntKind.min, IntKind.max, IntKind.signed, IntKind.bits] using h
  refine ⟨BitVec.ofNat 8 n.toNat, ?_⟩
  unfold qb
  rw [BitVec.toNat_ofNat]
  omega
theorem qb_nonneg (x : BitVec 8) : 0 ≤ qb x := by unfold qb; omega
theorem qb_lt (x : BitVec 8) : qb x < 256 := by unfold qb; have := x.isLt; omega
theorem qb_wf (x : BitVec 8) : (Lit.int .u8 (qb x)).wf = true := by
  have h1 := qb_nonneg x; have h2 := qb_lt x
  simp [Lit.wf, IntKind.min, IntKind.max, IntKind.signed, IntKind.bits]; omega
theorem q_ofInt (x : BitVec 64) : BitVec.ofInt 64 (q x) = x := by
  unfold q; rw [BitVec.ofInt_natCast, BitVec.ofNat_toNat]; simp
theorem qb_ofInt (x : BitVec 8) : BitVec.ofInt 8 (qb x) = x := by
  unfold qb; rw [BitVec.ofInt_natCast, BitVec.ofNat_toNat]; simp
theorem wrap_toNat (x : BitVec 64) : IntKind.u64.wrap (x.toNat : Int) = q x := by
  rw [IntKind.wrap_u64]; unfold q; have := x.isLt; omega
theorem q_xor (x y : BitVec 64) : bits .xor .u64 (q x) (q y) = q (x ^^^ y) := by
  show IntKind.u64.wrap ((BitVec.ofInt 64 (q x) ^^^ BitVec.ofInt 64 (q y)).toNat : Int) = _
  rw [q_ofInt, q_ofInt]; exact wrap_toNat _
theorem q_or (x y : BitVec 64) : bits .or .u64 (q x) (q y) = q (x ||| y) := by
  show IntKind.u64.wrap ((BitVec.ofInt 64 (q x) ||| BitVec.ofInt 64 (q y)).toNat : Int) = _
  rw [q_ofInt, q_ofInt]; exact wrap_toNat _
theorem q_and (x y : BitVec 64) : bits .and .u64 (q x) (q y) = q (x &&& y) := by
  show IntKind.u64.wrap ((BitVec.ofInt 64 (q x) &&& BitVec.ofInt 64 (q y)).toNat : Int) = _
  rw [q_ofInt, q_ofInt]; exact wrap_toNat _
theorem q_xor_num (x : BitVec 64) (n : Int) : bits .xor .u64 (q x) n = q (x ^^^ BitVec.ofInt 64 n) := by
  show IntKind.u64.wrap ((BitVec.ofInt 64 (q x) ^^^ BitVec.ofInt 64 n).toNat : Int) = _
  rw [q_ofInt]; exact wrap_toNat _
theorem q_add (x y : BitVec 64) : IntKind.u64.wrap (q x + q y) = q (x + y) := by
  rw [IntKind.wrap_u64]; unfold q; rw [BitVec.toNat_add]; omega
theorem q_shl (x : BitVec 64) (n : Nat) : IntKind.u64.wrap (q x * 2 ^ n) = q (x <<< n) := by
  rw [IntKind.wrap_u64]
  unfold q
  rw [BitVec.toNat_shiftLeft, Nat.shiftLeft_eq]
  simp
theorem q_shr (x : BitVec 64) (n : Nat) : q x / 2 ^ n = q (x >>> n) := by
  unfold q
  rw [BitVec.toNat_ushiftRight, Nat.shiftRight_eq_div_pow]
  simp
attribute [go_sem ↓] q_xor q_or q_and q_add q_shl q_shr
theorem q_lit (n : Int) : IntKind.u64.wrap n = q (BitVec.ofInt 64 n) := by
  rw [IntKind.wrap_u64]; unfold q; rw [BitVec.toNat_ofInt]; omega
end Go.Proofs.YthobbekocimcnaaGreat
end
section
set_option linter.unusedSimpArgs false
namespace Go.Proofs.YthobbekocimcnaaGreat
set_option maxRecDepth 100000
open Go.RowKit

structure Conf where
  (n f m quorum fresh grace window t0 t1 t2 t3 tol min max calmup calmdown podsup pctup podsdown pctdown period far strikes probe sectors seed : Int)
@[reducible] def Conf.cells (c : Conf) : Array Value := #[.int .i64 c.n, .int .i64 c.f, .int .i64 c.m, .int .i64 c.quorum, .int .i64 c.fresh, .int .i64 c.grace, .int .i64 c.window, .int .i64 c.t0, .int .i64 c.t1, .int .i64 c.t2, .int .i64 c.t3, .int .i64 c.tol, .int .i64 c.min, .int .i64 c.max, .int .i64 c.calmup, .int .i64 c.calmdown, .int .i64 c.podsup, .int .i64 c.pctup, .int .i64 c.podsdown, .int .i64 c.pctdown, .int .i64 c.period, .int .i64 c.far, .int .i64 c.strikes, .int .i64 c.probe, .int .i64 c.sectors, .int .u64 c.seed]
@[reducible] def cf (c : Conf) : Value := .agg c.cells

theorem wrap_small {x : Int} (h : -9223372036854775808 ≤ x) (h' : x ≤ 9223372036854775807) : wrap64 x = x := by
  unfold wrap64; omega
theorem size_new (w : World) (o : Obj) : (w.alloc o).heap.size = w.heap.size + 1 := by
  show (w.heap.push o).size = _
  simp
def cwithin (n lo hi : Int) : Bool := decide (lo ≤ n) && decide (n ≤ hi)

theorem cwithin_any (n lo hi : Int) (w : World) :
    Calls Tryz.prog 68 #[.int .i64 n, .int .i64 lo, .int .i64 hi] w fun e w' => e = .returned (.bool (cwithin n lo hi)) ∧ w' = w := by
  unfold cwithin
  by_cases h1 : lo ≤ n <;> by_cases h2 : n ≤ hi <;> (
  go_enter Tryz.func68, Tryz.ntmps68
  go_wp2_with fail
  go_ret
  simp [h1, h2])
theorem cwithin64_any (n lo hi : Int) (w : World) :
    Calls Tryz.prog 70 #[.int .i64 n, .int .i64 lo, .int .i64 hi] w fun e w' => e = .returned (.bool (cwithin n lo hi)) ∧ w' = w := by
  unfold cwithin
  by_cases h1 : lo ≤ n <;> by_cases h2 : n ≤ hi <;> (
  go_enter Tryz.func70, Tryz.ntmps70
  go_wp2_with fail
  go_ret
  simp [h1, h2])
theorem cin_any (n lo hi : Int) (w : World) :
    Calls Tryz.prog 72 #[.int .i64 n, .int .i64 lo, .int .i64 hi] w fun e w' => e = .returned (.bool (cwithin n lo hi)) ∧ w' = w := by
  unfold cwithin
  by_cases h1 : lo ≤ n <;> by_cases h2 : n ≤ hi <;> (
  go_enter Tryz.func72, Tryz.ntmps72
  go_wp2_with fail
  go_ret
  simp [h1, h2])

/-- the function's own block: the configuration that came in; all else as it was, or new -/
structure BoxC (w : World) (c : Conf) (w' : World) : Prop where
  box : w'.heap[w.heap.size]? = some (.cells c.cells 28)
  g : w.grownBy w' none
theorem BoxC.grown {w : World} {c : Conf} {w1 w2 : World} (h : BoxC w c w1) (hg : w1.grownBy w2 none) : BoxC w c w2 := ⟨at_grown h.box hg (by simp), gb_trans h.g hg (.inl rfl)⟩
theorem BoxC.drew {w : World} {c : Conf} {w1 : World} (h : BoxC w c w1) : BoxC w c w1.drew := ⟨h.box, gb_drew h.g⟩
theorem boxc_new (w : World) (c : Conf) : BoxC w c (w.alloc (.cells c.cells 28)) := ⟨at_new w _, gb_alloc (.refl w none) _⟩

/-- a whole configuration, read from its block -/
theorem load_conf {w : World} {b : Nat} {c : Conf} {t : TypeId} {fr : Nat × Nat} (h : w.heap[b]? = some (.cells c.cells t fr)) :
    (loadVar 28 ⟨b, 0, none⟩).run Tryz.prog w = .ok (cf c) w :=
  run_loadVar_row w b t 28 c.cells fr _ h Tryz.underlying28 rfl (by kernel_rfl)

theorem loadAt_conf {w : World} {b : Nat} {c : Conf} {t : TypeId} {fr : Nat × Nat} (h : w.heap[b]? = some (.cells c.cells t fr)) :
    (Instr.loadAt 28 (.pointer (some ⟨b, 0, none⟩))).run Tryz.prog w = .ok (cf c) w := by
  simp only [Instr.loadAt, Instr.sureAddr, Sem.run_bind, Sem.run_pure, Result.andThen_ok, load_conf h]

/-- one operation of a walk: a whole configuration is read from its block -/
theorem wpList_conf {ops : Array Oper} {rest : List Oper} {o : Oper} {a : Act} {w : World} {Q : Exit → Act → World → Prop} {b : Nat} {c : Conf} {t : TypeId} {fr : Nat × Nat} {x : Operand} {dst : Option Tmp}
    (h : w.heap[b]? = some (.cells c.cells t fr)) (hg : o.guard = none) (ho : o.op = .load 28 x) (hdst : o.dst = dst) (hx : a.eval x = .pointer (some ⟨b, 0, none⟩))
    (k : wpList Tryz.prog ops Q rest (a.put dst (cf c)) w) : wpList Tryz.prog ops Q (o :: rest) a w := by
  refine Great.wpList_readTo hg dst hdst (cf c) ?_ k
  simp only [execOp, ho, hx, Sem.run_bind, loadAt_conf h, Result.andThen]
  rfl

end Go.Proofs.YthobbekocimcnaaGreat
end
section
set_option linter.unusedSimpArgs false
namespace Go.Proofs.YthobbekocimcnaaGreat
set_option maxRecDepth 100000
open Go.RowKit

/-- the default -/
@[reducible] def dflt : Conf := ⟨4, 1, 1, 3, 2, 2, 32, 1000, 0, 0, 0, 100, 1, 100, 0, 3, 4, 100, 4, 50, 2, 100, 3, 4, 256, 1⟩
@[reducible] def zeroC : Conf := ⟨0, 0, 0, 0, 0, 0, 0, 0, 0, 0, 0, 0, 0, 0, 0, 0, 0, 0, 0, 0, 0, 0, 0, 0, 0, 0⟩

theorem default_any (w : World) :
    Calls Tryz.prog 27 #[] w fun e w' => e = .returned (cf dflt) ∧ w.grownBy w' none := by
  go_enter Tryz.func27, Tryz.ntmps27
  go_wp2_with (first | refine wpList_buildTo (ty := 25) (cs := #[.int .i64 1000, .int .i64 0, .int .i64 0, .int .i64 0]) rfl rfl rfl (by kernel_rfl) ?_ | refine wpList_buildTo (ty := 28) (cs := dflt.cells) rfl rfl rfl (by kernel_rfl) ?_ | refine wpList_store_new (cs := dflt.cells) rfl (by kernel_rfl) (by kernel_rfl) (by kernel_rfl) rfl rfl rfl rfl rfl ?_)
  refine bodyPost_ret (v := cf dflt) ?_ rfl ⟨rfl, gb_alloc (.refl w none) _⟩
  exact results_cell_row rfl _ _ w.heap.size 28 dflt.cells (0, 0) _ rfl (heap_alloc_last _ _) Tryz.underlying28 rfl (by kernel_rfl)
theorem refdefault_any (w : World) :
    Calls Tryz.prog 18 #[] w fun e w' => e = .returned (cf dflt) ∧ w.grownBy w' none := by
  go_enter Tryz.func18, Tryz.ntmps18
  go_wp2_with (first | refine wpList_buildTo (ty := 25) (cs := #[.int .i64 1000, .int .i64 0, .int .i64 0, .int .i64 0]) rfl rfl rfl (by kernel_rfl) ?_ | refine wpList_buildTo (ty := 28) (cs := dflt.cells) rfl rfl rfl (by kernel_rfl) ?_ | refine wpList_store_new (cs := dflt.cells) rfl (by kernel_rfl) (by kernel_rfl) (by kernel_rfl) rfl rfl rfl rfl rfl ?_)
  refine bodyPost_ret (v := cf dflt) ?_ rfl ⟨rfl, gb_alloc (.refl w none) _⟩
  exact results_cell_row rfl _ _ w.heap.size 28 dflt.cells (0, 0) _ rfl (heap_alloc_last _ _) Tryz.underlying28 rfl (by kernel_rfl)
end Go.Proofs.YthobbekocimcnaaGreat
end
