/-
  Contracts for sync/atomic's Int64: Load, Add, Store of a number that lies in a cell that may be stored to.
  Contract for bytes.Clone: bytes copied into a slice of the call's own. The condition: a slice that is not nil and reads as bytes.
  A contract of the document's own answer for the sum of bytes: it is the sum of the padded bytes, eight at a time. The condition: the string has at most a hundred thousand bytes.
  For a region that leaves its order open and whose last operation waits for all others (a store at the end, most often): the condition that is held need not hold behind that one. No condition. Nothing of the program is named here.
  Contracts for slices.Grow, slices.Concat and slices.Sort at []int64: the numbers of all, in a slice of the call's own; sorted. The condition: slices that read as numbers, of a modest length together.
  Contracts for package order: Sort, Union, At, Rank, Same; and slices.Equal at []int64. The condition: slices that read as numbers, of a modest length.
-/
import Derived.Test.YtecggbndlbkhdaaGreatY1
import Derived.Test.YtecggbndlbkhdaaGreatRows
import Derived.WalkSpells
import Derived.WalkLawsBesides
import Derived.Lib.SliceRun
import Derived.Test.YtecggbndlbkhdaaGreatY10
import Derived.Test.YtecggbndlbkhdaaGreatY3
import Derived.Test.YtecggbndlbkhdaaGreatY6
import Derived.RegionTactic
import Derived.BigRegion
import Derived.Deep.DeepCutAuto
import Derived.WalkKit
import Derived.Deep.RegionHeld3
import Derived.Test.YtecggbndlbkhdaaGreatY20
import Derived.Test.YtecggbndlbkhdaaGreatY11
import Derived.Test.YtecggbndlbkhdaaGreatY2
import Derived.Lib.AppendZerosOnto
import Derived.Lib.AppendZeros
import Derived.Lib.OwnBridge
import Derived.Sort.Grow
import Derived.Shelf.SortM.SortNone
import Derived.Shelf.SortM.Plain
import Derived.BigQuiet
import Derived.Deep.QuietTactic
section
set_option linter.unusedSimpArgs false
namespace Go.Proofs.YtecggbndlbkhdaaGreat
set_option maxRecDepth 100000
open Go.RowKit

/-- sync/atomic's Int64 -/
theorem load_i64 (a : Addr) (x : Int) (w : World) (hc : w.cell? a = some (.int .i64 x)) :
    Calls Tryz.prog 100 #[.pointer (some a)] w fun e w' => e = .returned (.int .i64 x) ∧ w = w' := by
  have hl := run_call_load (P := Tryz.prog) Tryz.func197 (by kernel_rfl) (by kernel_rfl) (by kernel_rfl) .i64 (by kernel_rfl) hc
  go_enter Tryz.func100, Tryz.ntmps100
  go_wp2
  go_ret
  exact ⟨rfl, rfl⟩
theorem addn_i64 (a : Addr) (x y s : Int) (w : World) (hc : w.cell? a = some (.int .i64 x)) (hz : w.frozen? a = false) (hs : IntKind.i64.wrap (x + y) = s) :
    Calls Tryz.prog 155 #[.pointer (some a), .int .i64 y] w fun e w' => e = .returned (.int .i64 s) ∧ w' = w.setCell a (.int .i64 s) := by
  have hadd := run_call_add (P := Tryz.prog) Tryz.func250 (by kernel_rfl) (by kernel_rfl) (by kernel_rfl) .i64 (by kernel_rfl) (y := y) (s := s) hc hz (by rw [show Op.intArith .add .i64 x y = pure (.int .i64 (IntKind.i64.wrap (x + y))) from rfl, hs]; rfl)
  clear hs
  go_enter Tryz.func155, Tryz.ntmps155
  go_wp2
  go_ret
  exact ⟨rfl, rfl⟩
theorem store_i64 (a : Addr) (y : Int) (u : Value) (w : World) (hc : w.cell? a = some u) (hz : w.frozen? a = false) :
    Calls Tryz.prog 131 #[.pointer (some a), .int .i64 y] w fun e w' => e = .returned (.tuple #[]) ∧ w' = w.setCell a (.int .i64 y) := by
  have hs := run_call_store (P := Tryz.prog) Tryz.func224 (by kernel_rfl) (by kernel_rfl) (by kernel_rfl) (by kernel_rfl) (k := .i64) (y := y) hc hz
  go_enter Tryz.func131, Tryz.ntmps131
  go_wp2
  go_end0
  exact ⟨rfl, rfl⟩
theorem add_i64 (a : Addr) (x : Int) (w : World) (hc : w.cell? a = some (.int .i64 x)) (hz : w.frozen? a = false) (h0 : 0 ≤ x) (h1 : x < 1000000000000000000) :
    Calls Tryz.prog 155 #[.pointer (some a), .int .i64 1] w fun e w' => e = .returned (.int .i64 (x + 1)) ∧ w' = w.setCell a (.int .i64 (x + 1)) := by
  have hadd := run_call_add (P := Tryz.prog) Tryz.func250 (by kernel_rfl) (by kernel_rfl) (by kernel_rfl) .i64 (by kernel_rfl) (y := 1) (s := x + 1) hc hz (by simp [go_sem, IntKind.wrap, IntKind.bits, IntKind.signed]; omega)
  go_enter Tryz.func155, Tryz.ntmps155
  go_wp2
  go_ret
  exact ⟨rfl, rfl⟩
theorem still_of {f : FuncId} {args : Array Value} {w : World} {v : Value} (h : Calls Tryz.prog f args w fun e w' => e = .returned v ∧ w = w') : Calls Tryz.prog f args w fun e w' => e = .returned v ∧ w' = w := h.mono fun _ _ ⟨h1, h2⟩ => ⟨h1, h2.symm⟩
end Go.Proofs.YtecggbndlbkhdaaGreat
end
section
set_option linter.unusedSimpArgs false
set_option linter.unusedVariables false
namespace Go.Proofs.YtecggbndlbkhdaaGreat
set_option maxRecDepth 100000
open Go.RowKit

end Go.Proofs.YtecggbndlbkhdaaGreat
end
section
namespace Go.Proofs.YtecggbndlbkhdaaGreat
open Go.RowKit

/-- the padded bytes -/
def padded (s : ByteArray) : ByteArray := s ++ ⟨(List.replicate (7 - s.size % 8) (0 : UInt8)).toArray⟩ ++ ⟨[UInt8.ofNat s.size].toArray⟩
/-- the words behind i numbers of the padded bytes -/
def blocks (l : List UInt8) (v : W4) : Nat → W4
  | 0 => v
  | i + 1 => stirred (blocks l v i) (wordAt l (8 * i) 8)
end Go.Proofs.YtecggbndlbkhdaaGreat
end
section
namespace Go.Proofs.YtecggbndlbkhdaaGreat
set_option maxRecDepth 100000
open Go.RowKit

section
variable {P : Program} {ops : Array Oper} {Q : Exit → Act → World → Prop} {S : World → Prop}
/-- behind the others comes the last one -/
def AtLast (P : Program) (ops : Array Oper) (n : Nat) (Q : Exit → Act → World → Prop) : Exit → Act → World → Prop
  | .normal, a, w => wpOp P ops Q n (Q .normal) a w
  | x, a, w => Q x a w
theorem letsOut_atLast {n : Nat} (h : LetsOut (AtLast P ops n Q)) : LetsOut Q := h
theorem oper_atLast {n : Nat} {o : Oper} {a : Act} {w : World} {K : Act → World → Prop} (hh : o.wp P a w K (AtLast P ops n Q)) : o.wp P a w K Q := by
  unfold Oper.wp at *
  generalize (execOp a.eval o).run P w = r at *
  cases r with
  | ok n w' =>
    cases n <;> simp only [Oper.upon] at hh ⊢ <;>
      first
        | exact hh
        | exact Calls.mono hh (fun e w'' he => by cases e <;> exact he)
        | exact Rows.mono hh (fun _ _ he => he)
  | halt x w' => cases x <;> simp only [Oper.upon] at hh ⊢ <;> exact hh
theorem wpOp_atLast {n i : Nat} {a : Act} {w : World} {K : Act → World → Prop} (hh : wpOp P ops (AtLast P ops n Q) i K a w) : wpOp P ops Q i K a w := by
  unfold wpOp at *
  split
  · next ho => simpa [ho] using hh
  · next o ho =>
    simp only [ho] at hh
    split
    · next hw => simp only [hw, if_true] at hh; exact hh.imp oper_atLast (fun h => ⟨h.1, letsOut_atLast h.2⟩)
    · next hw => simp only [hw] at hh; exact hh
/-- each operation but n is waited for by one, n by none, and each waits for earlier ones only: so n comes up last -/
def lastB (ops : Array Oper) (n : Nat) : Bool :=
  decide (n < ops.size) && (List.range ops.size).all fun j => match ops[j]? with
    | none => true
    | some o => o.after.all (fun e => !Region.binds .any e || (decide (e.on < j) && e.on != n)) && (j == n || (List.range ops.size).any fun i => match ops[i]? with
      | none => false
      | some l => l.after.any fun e => Region.binds .any e && e.on == j)
theorem lastB_lt {n : Nat} (h : lastB ops n = true) : n < ops.size := by
  unfold lastB at h
  rw [Bool.and_eq_true] at h
  exact of_decide_eq_true h.1
theorem lastB_at {n j : Nat} {o : Oper} (h : lastB ops n = true) (ho : ops[j]? = some o) : (∀ e ∈ o.after, Region.binds .any e = true → e.on < j ∧ e.on ≠ n) ∧ (j = n ∨ ∃ (i : Nat) (l : Oper), ops[i]? = some l ∧ ∃ e ∈ l.after, Region.binds .any e = true ∧ e.on = j) := by
  have hlt := (Array.getElem?_eq_some_iff.1 ho).1
  unfold lastB at h
  rw [Bool.and_eq_true, List.all_eq_true] at h
  have h2 := h.2 j (List.mem_range.2 hlt)
  rw [ho] at h2
  simp only [Bool.and_eq_true, Bool.or_eq_true, beq_iff_eq] at h2
  obtain ⟨k1, k2⟩ := h2
  refine ⟨fun e he hb => ?_, ?_⟩
  · rw [Array.all_eq_true_iff_forall_mem] at k1
    have := k1 e he
    simp only [hb, Bool.not_true, Bool.or_eq_true, Bool.false_eq_true, false_or, Bool.and_eq_true, decide_eq_true_eq, bne_iff_ne] at this
    exact this
  · rcases k2 with k2 | k2
    · exact .inl k2
    · rw [List.any_eq_true] at k2
      obtain ⟨i, _, k2⟩ := k2
      split at k2
      · cases k2
      · next l hl =>
        rw [Array.any_eq_true'] at k2
        obtain ⟨e, he, h3⟩ := k2
        rw [Bool.and_eq_true, beq_iff_eq] at h3
        exact .inr ⟨i, l, hl, e, he, h3.1, h3.2⟩
/-- what came up, came up behind what it waits for -/
def InTurn (ops : Array Oper) (listed : Array Bool) : Prop := ∀ i o, ops[i]? = some o → listed.getD i false = true → ∀ e ∈ o.after, Region.binds .any e = true → listed.getD e.on false = true
theorem InTurn.start (k : Nat) : InTurn ops (Array.replicate k false) := fun i o ho h => by
  by_cases hk : i < k <;> simp [hk] at h
theorem InTurn.step {listed : Array Bool} {i : Nat} (h : InTurn ops listed) (hi : i ∈ Region.ready .any ops listed) : InTurn ops (listed.setIfInBounds i true) := fun j o ho hj e he hb => by
  by_cases hji : j = i
  · subst hji
    obtain ⟨_, o', ho', hall⟩ := mem_ready.1 hi
    rw [ho] at ho'
    cases ho'
    exact getD_set_true (hall e he hb)
  · rw [getD_set_ne false (Ne.symm hji)] at hj
    exact getD_set_true (h j o ho hj e he hb)
theorem ready_ne {n : Nat} (hB : lastB ops n = true) {listed : Array Bool} (hs : listed.size = ops.size) (hn : listed.getD n true = false) : Region.ready .any ops listed ≠ [] := by
  intro h0
  have all : ∀ j, j < ops.size → listed.getD j true = true := by
    intro j
    induction j using Nat.strongRecOn with
    | _ j ih =>
      intro hj
      cases hl : listed.getD j true
      · exfalso
        have : j ∈ Region.ready .any ops listed := mem_ready.2 ⟨hl, ops[j], Array.getElem?_eq_getElem hj, fun e he hb => by
          obtain ⟨h1, _⟩ := (lastB_at hB (Array.getElem?_eq_getElem hj)).1 e he hb
          have := ih e.on h1 (by omega)
          simpa [show e.on < listed.size by omega] using this⟩
        rw [h0] at this
        cases this
      · rfl
  rw [all n (lastB_lt hB)] at hn
  cases hn
theorem ready_last {n : Nat} (hB : lastB ops n = true) {listed : Array Bool} (hs : listed.size = ops.size) (hT : InTurn ops listed) (hi : n ∈ Region.ready .any ops listed) : Region.ready .any ops (listed.setIfInBounds n true) = [] := by
  obtain ⟨_, l, hl, hall⟩ := mem_ready.1 hi
  have all : ∀ d j, ops.size - j ≤ d → j < ops.size → j ≠ n → listed.getD j false = true := by
    intro d
    induction d with
    | zero => intro j hd hj; omega
    | succ d ih =>
      intro j hd hj hne
      rcases (lastB_at hB (Array.getElem?_eq_getElem hj)).2 with e | ⟨i, l', hl', e, he, hb, heq⟩
      · exact absurd e hne
      · have h1 := ((lastB_at hB hl').1 e he hb).1
        rw [← heq]
        by_cases hin : i = n
        · subst hin
          rw [hl] at hl'
          cases hl'
          exact hall e he hb
        · exact hT i l' hl' (ih i (by omega) (Array.getElem?_eq_some_iff.1 hl').1 hin) e he hb
  refine List.eq_nil_iff_forall_not_mem.2 fun j hj => ?_
  obtain ⟨h0, o, ho, _⟩ := mem_ready.1 hj
  have hlt := (Array.getElem?_eq_some_iff.1 ho).1
  by_cases hjn : j = n
  · subst hjn
    simp [show j < listed.size by omega] at h0
  · rw [getD_set_ne true (Ne.symm hjn)] at h0
    have h1 := all _ j (Nat.le_refl _) hlt hjn
    simp [show j < listed.size by omega] at h0 h1
    rw [h0] at h1
    cases h1
theorem wpAny_last {n : Nat} (hB : lastB ops n = true) : ∀ (fuel : Nat) (listed : Array Bool) (a : Act) (w : World), listed.size = ops.size → InTurn ops listed → listed.getD n true = false →
    wpAnyH P .any ops (AtLast P ops n Q) S fuel (listed.setIfInBounds n true) a w → wpAny P .any ops Q (fuel + 1) listed a w := by
  intro fuel
  induction fuel with
  | zero =>
    intro listed a w hs hT hn h
    refine ⟨fun h0 => absurd h0 (ready_ne hB hs hn), fun i hi => ?_⟩
    have hin : i = n := by
      refine Classical.byContradiction fun hne => ?_
      have := ready_mono hi hne
      rw [h.1] at this
      cases this
    subst hin
    exact wpOp_mono (fun a' w' hq => ⟨h.1, hq⟩) h.2
  | succ fuel ih =>
    intro listed a w hs hT hn h
    refine ⟨fun h0 => absurd h0 (ready_ne hB hs hn), fun i hi => ?_⟩
    by_cases hin : i = n
    · subst hin
      have h0 := ready_last hB hs hT hi
      exact wpOp_mono (fun a' w' hq => ⟨fun _ => hq, by rw [h0]; simp⟩) (h.1 h0)
    · refine wpOp_mono (fun a' w' hq => ih _ a' w' (by simpa using hs) (hT.step hi) (by rw [getD_set_ne true hin]; exact hn) ?_) (wpOp_atLast (h.2 i (ready_mono hi hin)))
      rw [Array.setIfInBounds_comm _ _ hin]
      exact hq.2
/-- the beginning -/
theorem wp_region_last {id : Nat} {a : Act} {w : World} (n k : Nat) (l : Array Bool) (hm : P.follows .mixedOrders = true) (hB : lastB ops n = true) (hk : ops.size = k + 1) (hl : l = (Array.replicate ops.size false).setIfInBounds n true) (hS : S w.drew)
    (h : S w.drew → wpAnyH P .any ops (AtLast P ops n Q) S k l a w.drew) : (Code.region id ops true).wp P Q a w := by
  refine wp_region_any hm ?_
  have hlt := lastB_lt hB
  subst hl
  have := wpAny_last hB k (Array.replicate ops.size false) a w.drew (by simp) (InTurn.start _) (by simp [hlt]) (h hS)
  rw [← hk] at this
  exact this
/-- the last one -/
theorem atLast_step {n : Nat} {o : Oper} {a : Act} {w : World} (ho : ops[n]? = some o)
    (h : ∀ K' : Act → World → Prop, Shut (∀ a w, Q .normal a w → K' a w) → if Region.wanted o (yielded ops a.tmps) = true then Oper.wp P o a w K' Q else K' (a.put o.dst undef) w) : AtLast P ops n Q .normal a w :=
  wpOp_step ho h
end
end Go.Proofs.YtecggbndlbkhdaaGreat
end
section
set_option linter.unusedSimpArgs false
set_option linter.unusedVariables false
namespace Go.Proofs.YtecggbndlbkhdaaGreat
set_option maxRecDepth 100000
open Go.RowKit

/-- all the numbers, one list behind the other -/
def flatI (ls : List (Value × List Int)) : List Int := ls.flatMap (·.2)
theorem flatI_take (ls : List (Value × List Int)) (k : Nat) (h : k < ls.length) : flatI (ls.take (k + 1)) = flatI (ls.take k) ++ ls[k].2 := by
  unfold flatI; rw [List.take_succ_eq_append_getElem h, List.flatMap_append]; simp only [List.flatMap_cons, List.flatMap_nil, List.append_nil]
theorem flatI_le (ls : List (Value × List Int)) (k : Nat) : (flatI (ls.take k)).length ≤ (flatI ls).length := by
  have e : flatI ls = flatI (ls.take k) ++ flatI (ls.drop k) := by
    unfold flatI; rw [← List.flatMap_append, List.take_append_drop]
  rw [e, List.length_append]; omega

set_option maxHeartbeats 1600000 in
/-- room for n numbers behind nothing -/
theorem growI_nil (n : Nat) (h1 : n ≤ 1000000) (w : World) :
    Calls Tryz.prog 433 #[.slice none 0 0, .int .i64 (n : Int)] w fun e w' => ∃ v, e = .returned v ∧ OwnI w.heap.size w' v [] ∧ w.grownBy w' none := by
  rcases Nat.eq_zero_or_pos n with h0 | h0
  · subst h0
    have HN := hid (OwnI.nil w.heap.size w)
    go_enter Tryz.func433, Tryz.ntmps433
    go_wp2_with fail
    go_ret
    exact ⟨_, rfl, HN.out, .refl w none⟩
  obtain ⟨i, hi, hz0, hz1, hz2⟩ := info_parts info_i64
  have hr : ∀ ty, (Builtin.append_ #[73, 3] ty #[.slice none 0 0, .int .i64 (n : Int)]).run Tryz.prog w = .ok (.slice (some ⟨w.heap.size, 0, none⟩) n (grownCap w n 0 2)) (w.drew.alloc (.cells (#[] ++ Builtin.zeroCells (Value.int .i64 0).cells n ++ Builtin.zeroCells (Value.int .i64 0).cells (grownCap w n 0 2 - n)) 2)) := fun ty => by
    have h := Lib.run_append_grow_zeros w 73 3 ty 2 i (.int .i64 0) .i64 .i64 Tryz.underlying73 Tryz.underlying3 hi hz0 none 0 0 []
      (by rw [hz1]; exact run_firstCells_none w.drew 1 0 0 0) n h0 (by omega) (by omega) (by omega) (by rw [hz2]; omega) (by rw [hz2]; exact growslice_fits (by omega) (by omega))
    rw [Nat.zero_add] at h
    exact h
  have hG := grownCap_ge w n 0 2
  have hM := grownCap_le_maxLen w n 0 2 (by unfold maxLen; omega)
  have hc : (#[] ++ Builtin.zeroCells (Value.int .i64 0).cells n ++ Builtin.zeroCells (Value.int .i64 0).cells (grownCap w n 0 2 - n)).size = grownCap w n 0 2 := by
    simp [Builtin.zeroCells, Value.cells]; omega
  generalize #[] ++ Builtin.zeroCells (Value.int .i64 0).cells n ++ Builtin.zeroCells (Value.int .i64 0).cells (grownCap w n 0 2 - n) = cs at hr hc
  obtain ⟨G, hGe⟩ : ∃ G, G = grownCap w n 0 2 := ⟨_, rfl⟩
  rw [← hGe] at hr hG hM hc
  clear hGe
  have HM := hid hM; have HC := hid hc; clear hM hc
  have hb : (G : Int) ≤ 9223372036854775807 := by have := HM.out; unfold maxLen at this; omega
  go_enter Tryz.func433, Tryz.ntmps433
  go_wp2_with (at_builtin; refine Lib.wpList_append_run _ rfl _ _ _ _ rfl _ _ rfl rfl _ _ (hr _) ?_)
  go_ret
  exact ⟨_, rfl, ⟨rfl, .inr ⟨w.heap.size, G, cs, rfl, Nat.le_refl _, at_new w.drew _, Nat.zero_le _, HM.out, by rw [HC.out, Nat.mul_one], rfl⟩⟩, gb_alloc (gb_drew (.refl w none)) _⟩

/-- the length of the first k -/
def lenI (ls : List (Value × List Int)) (k : Nat) : Nat := (flatI (ls.take k)).length
theorem lenI_succ (ls : List (Value × List Int)) (k : Nat) (h : k < ls.length) : lenI ls (k + 1) = lenI ls k + ls[k].2.length := by
  unfold lenI; rw [flatI_take ls k h, List.length_append]
theorem lenI_le (ls : List (Value × List Int)) (k : Nat) : lenI ls k ≤ (flatI ls).length := flatI_le ls k

set_option maxHeartbeats 3200000 in
theorem concatI_any (ls : List (Value × List Int)) (v : Value) (w : World) (h : RowsI w v ls) (hp : 0 < ls.length) (h1 : (flatI ls).length ≤ 1000000) :
    Calls Tryz.prog 424 #[v] w fun e w' => ∃ u, e = .returned u ∧ OwnI w.heap.size w' u (flatI ls) ∧ w.grownBy w' none := by
  have hn : (ls.length : Int) ≤ 9223372036854775807 := by
    obtain ⟨_, c, _, k1, k2, _⟩ := h
    unfold maxLen at k2; omega
  obtain ⟨ab, ao, cap, rfl, hc⟩ := h.cells hp
  have HR := hid h; have HC := hid hc; have H1 := hid h1; clear h hc h1
  obtain ⟨N, hN⟩ : ∃ N, N = ls.length := ⟨_, rfl⟩
  rw [← hN] at hp hn ⊢
  have HN := hid hN; clear hN
  have hfull : lenI ls N = (flatI ls).length := by unfold lenI; rw [HN.out, List.take_length]
  have HF := hid hfull; clear hfull
  go_enter Tryz.func424, Tryz.ntmps424
  go_wp2_with fail
  go_loop [3, 5, 11] (fun s _ i => ∃ k : Nat, k ≤ N ∧ i = .int .i64 (k : Int) ∧ s = .int .i64 (lenI ls k : Int)) (fun _ _ i => N - (intOf i).toNat)
  case atStart => exact ⟨0, Nat.zero_le _, rfl, rfl⟩
  case round =>
    obtain ⟨k, hk, rfl, rfl⟩ := hrel
    by_cases hlt : k < N
    · obtain ⟨cell, hby⟩ := HC.out k (by rw [← HN.out]; exact hlt)
      have hs := lenI_succ ls k (by rw [← HN.out]; exact hlt)
      have hl := lenI_le ls (k + 1)
      have H1' := H1.out
      generalize ls[k]'(by rw [← HN.out]; exact hlt) = vk at cell hby hs
      obtain ⟨vv, bk⟩ := vk
      obtain ⟨p, c, hf⟩ := hby.form
      dsimp only at hf cell hs
      rw [hf] at cell
      have hb1 : (0 : Int) ≤ (lenI ls k : Int) := by omega
      have hb2 : (lenI ls k : Int) + (bk.length : Int) ≤ 1000000 := by omega
      have hb3 : (0 : Int) ≤ (bk.length : Int) := by omega
      have HS := hid hs; clear hs hf hl H1' hby
      go_wp2_with fail
      go_round
      case rel => exact ⟨k + 1, by omega, by go_num, by rw [HS.out]; push_cast; rfl⟩
      case measure => simp [intOf]; omega
    · obtain rfl : k = N := by omega
      rw [HF.out]
      go_wp2_with fail
      refine (growI_nil _ H1.out _).mono ?_
      rintro e w1 ⟨v0, rfl, ho, hg⟩
      have HO := hid ho; have HG := hid hg; clear ho hg
      go_wp2_with fail
      go_loopw [6, 8, 27] (fun u _ i wr => ∃ j : Nat, j ≤ k ∧ i = .int .i64 (j : Int) ∧ OwnI w.heap.size wr u (flatI (ls.take j)) ∧ w.grownBy wr none) (fun _ _ i _ => k - (intOf i).toNat)
      case atStart => exact ⟨0, Nat.zero_le _, rfl, by simpa [flatI] using HO.out, HG.out⟩
      case round =>
        obtain ⟨j, hj, rfl, hown, hgr⟩ := hrel
        have HOW := hid hown; have HGR := hid hgr; clear hown hgr
        by_cases hjl : j < k
        · have hjl' : j < ls.length := by rw [← HN.out]; exact hjl
          obtain ⟨cell, hby⟩ := HC.out j hjl'
          have hs := flatI_take ls j hjl'
          have hl := flatI_le ls (j + 1)
          rw [hs, List.length_append] at hl
          have cell' := HGR.out.cell cell (by simp)
          have hby' := hby.grown HGR.out
          generalize ls[j] = vk at cell' hby' hs hl
          clear cell hby
          obtain ⟨vv, bk⟩ := vk
          have HB := hid hby'; have HS := hid hs; have HL := hid hl; clear hby' hs hl
          dsimp only at cell'
          have hsz := gb_size HGR.out
          go_wp2_with (refine append_ints rfl _ _ rfl w.heap.size _ _ rfl HOW.out _ _ rfl HB.out (by have := H1.out; have := HL.out; dsimp only at this ⊢; omega) hsz ?_; intro u1 w2 o1 g1 a1)
          go_roundw
          case rel => exact ⟨j + 1, by omega, by go_num, by rw [HS.out]; exact o1, gb_ownI HGR.out HOW.out (Nat.le_refl _) g1⟩
          case measure => simp [intOf]; omega
        · obtain rfl : j = k := by omega
          go_wp2_with fail
          go_ret
          refine ⟨_, rfl, ?_, HGR.out⟩
          have := HOW.out
          rwa [HN.out, List.take_length] at this

/-- the library's Sort, at a slice of the call's own -/
theorem sort_own {base : Nat} {w : World} {v : Value} {l : List Int} (h : OwnI base w v l) (hl : l.length ≤ 1000000) :
    Calls Tryz.prog 425 #[v] w fun e w' => e = .returned (.tuple #[]) ∧ OwnI base w' v (ms l) ∧ w.grownBy w' v.ownBlock := by
  by_cases hz : l = []
  · subst hz
    obtain ⟨p, c, rfl⟩ := h.form
    refine (AnyM.slices_Sort_int_none sortLaid p c w).mono fun e w' ⟨he, hw⟩ => ?_
    subst hw
    exact ⟨he, by rw [ms_nil]; exact h, .refl _ _⟩
  · have hv : v ≠ .slice none 0 0 := by
      rintro rfl
      rcases h.2 with ⟨_, h2⟩ | ⟨g, cap, cur, e, _⟩
      · exact hz (by simpa using h2)
      · cases e
    have h' : w.ownsRow base 2 1 v l.length (l.map (Value.int .i64)) := h
    obtain ⟨g, cap, rfl, hb, hg, hn, hm, _, hH⟩ := Lib.holds_of_ownsRow h' hv
    refine (AnyM.slices_Sort_int sortLaid g 0 cap l w hH hg (by omega)).mono fun e w' ⟨he, n, os, hw⟩ => ?_
    refine ⟨he, ?_, ?_⟩
    · have ho := Lib.ownsRow_putRow (q := n) h' (ms_len l) (Nat.le_refl _)
      have ho2 : OwnI base (Go.Sort.putRow (Value.int .i64) (Sort.ahead w n) g 0 (ms l).toArray) (.slice (some ⟨g, 0, none⟩) l.length cap) (ms l) := by
        unfold OwnI
        rw [ms_len l]
        have e1 : (ms l).take l.length = ms l := List.take_of_length_le (by rw [ms_len]; exact Nat.le_refl _)
        rw [e1] at ho
        exact ho
      subst hw
      refine ho2.grown (r := none) ⟨rfl, rfl, rfl, by simp [Go.Sort.grow], fun k hk _ => Go.Sort.heap_grow_old _ _ hk⟩ (by simp)
    · subst hw
      refine ⟨rfl, rfl, rfl, by simp [Go.Sort.grow], fun k hk hne => ?_⟩
      rw [Go.Sort.heap_grow_old _ _ (by simpa using hk)]
      have : g ≠ k := fun e => hne (by rw [← e]; rfl)
      simp [Go.Sort.putRow, Go.Sort.mapBlock, Sort.ahead, Array.getElem?_modify, this]
end Go.Proofs.YtecggbndlbkhdaaGreat
end
section
set_option linter.unusedSimpArgs false
set_option linter.unusedVariables false
namespace Go.Proofs.YtecggbndlbkhdaaGreat
set_option maxRecDepth 100000
open Go.RowKit

theorem rising_any (ls : List (Value × List Int)) (v : Value) (w : World) (h : RowsI w v ls) (hp : 0 < ls.length) (h1 : (flatI ls).length ≤ 1000000) :
    Calls Tryz.prog 414 #[v] w fun e w' => ∃ u, e = .returned u ∧ OwnI w.heap.size w' u (ms (flatI ls)) ∧ w.grownBy w' none := by
  have C1 := hid (concatI_any ls v w h hp h1)
  obtain ⟨a, cap, rfl, -⟩ := h
  clear hp
  generalize flatI ls = l at *
  generalize ls.length = n at *
  have H1 := hid h1; clear h1
  go_enter Tryz.func414, Tryz.ntmps414
  go_wp2_with fail
  refine C1.out.mono ?_
  rintro e w1 ⟨u, rfl, ho, hg⟩
  have HO := hid ho; have HG := hid hg
  obtain ⟨p, c, rfl⟩ := ho.form
  clear ho hg C1
  go_wp2_with fail
  refine (sort_own HO.out H1.out).mono ?_
  rintro e w2 ⟨rfl, ho2, hg2⟩
  have HO2 := hid ho2; have HG2 := hid (gb_ownI HG.out HO.out (Nat.le_refl _) hg2); clear ho2 hg2
  go_wp2_with fail
  go_ret
  exact ⟨_, rfl, HO2.out, HG2.out⟩

theorem flat_one (v : Value) (l : List Int) : flatI [(v, l)] = l := by simp [flatI]
theorem size_alloc' (w : World) (o : Obj) : (w.alloc o).heap.size = w.heap.size + 1 := by show (w.heap.push o).size = _; simp

/-- what comes back: the numbers, in a slice of the call's own -/
def Gives (w : World) (l : List Int) (e : Ending) (w' : World) : Prop := ∃ u, e = .returned u ∧ OwnI w.heap.size w' u l ∧ w.grownBy w' none

theorem rise_one {v : Value} {l : List Int} {w w0 : World} {b : Nat} {t : TypeId} (hb : w.heap[b]? = some (.cells #[v] t)) (h : IntsAt w v l) (h1 : l.length ≤ 1000000) :
    Calls Tryz.prog 414 #[.slice (some ⟨b, 0, none⟩) 1 1] w (Gives w (ms l)) := by
  have r := rising_any [(v, l)] (.slice (some ⟨b, 0, none⟩) 1 1) w (rows_one (w := w) hb h) (by simp) (by rw [flat_one]; exact h1)
  rw [flat_one] at r
  exact r
theorem Gives.alloc {w : World} {o : Obj} {l : List Int} {e : Ending} {w' : World} (h : Gives (w.alloc o) l e w') : Gives w l e w' := by
  obtain ⟨u, h0, h1, h2⟩ := h
  exact ⟨u, h0, h1.le (by rw [size_alloc']; omega), gb_trans (World.grownBy_alloc w o none) h2 (.inl rfl)⟩

/-- Sort -/
theorem osort_any (v : Value) (l : List Int) (w : World) (h : IntsAt w v l) (h1 : l.length ≤ 1000000) :
    Calls Tryz.prog 397 #[v] w (Gives w (ms l)) := by
  have C1 := hid (rise_one (w0 := w) (at_new w (.cells #[v] 73)) (h.alloc _) h1)
  obtain ⟨p, c, rfl⟩ := h.form
  generalize ms l = m at *
  generalize l.length = n at *
  clear h h1
  go_enter Tryz.func397, Tryz.ntmps397
  go_wp2_with fail
  refine C1.out.mono ?_
  intro e w1 hG
  obtain ⟨u, rfl, h2⟩ := hG.alloc
  have H2 := hid h2; clear h2 hG C1
  go_wp2_with fail
  go_ret
  exact ⟨_, rfl, H2.out⟩

/-- At -/
theorem oat_out (v : Value) (l : List Int) (k : Int) (w : World) (h : IntsAt w v l) (hk : ¬ (0 ≤ k ∧ k < (l.length : Int))) :
    Calls Tryz.prog 401 #[v, .int .i64 k] w fun e w' => e = .returned (.tuple #[.int .i64 0, .bool false]) ∧ w.grownBy w' none := by
  obtain ⟨p, c, rfl⟩ := h.form
  have hn := h.len
  generalize l.length = n at *
  clear h
  unfold maxLen at hn
  by_cases h0 : k < 0
  · have d0 : decide (k < 0) = true := by simpa using h0
    clear hk
    go_enter Tryz.func401, Tryz.ntmps401
    go_wp2_with fail
    go_ret2
    exact ⟨rfl, .refl w none⟩
  · have d0 : decide (k < 0) = false := by simpa using h0
    have d1 : decide ((n : Int) ≤ k) = true := by simp; omega
    clear hk
    go_enter Tryz.func401, Tryz.ntmps401
    go_wp2_with fail
    go_ret2
    exact ⟨rfl, .refl w none⟩
theorem oat_in (v : Value) (l : List Int) (k : Nat) (x : Int) (w : World) (h : IntsAt w v l) (hk : (ms l)[k]? = some x) (h1 : l.length ≤ 1000000) :
    Calls Tryz.prog 401 #[v, .int .i64 (k : Int)] w fun e w' => e = .returned (.tuple #[.int .i64 x, .bool true]) ∧ w.grownBy w' none := by
  have C1 := hid (rise_one (w0 := w) (at_new w (.cells #[v] 73)) (h.alloc _) h1)
  obtain ⟨p, c, rfl⟩ := h.form
  have hlen := ms_len l
  generalize ms l = m at *
  generalize l.length = n at *
  clear h
  subst hlen
  obtain ⟨hkl, hx⟩ := List.getElem?_eq_some_iff.1 hk
  clear hk
  have d0 : decide ((k : Int) < 0) = false := by simp
  have d1 : decide ((m.length : Int) ≤ (k : Int)) = false := by simp; omega
  go_enter Tryz.func401, Tryz.ntmps401
  go_wp2_with fail
  refine C1.out.mono ?_
  intro e w1 hG
  obtain ⟨u, rfl, h2, h3⟩ := hG.alloc
  obtain ⟨pu, cu, rfl⟩ := h2.form
  have hc := h2.ints.cell hkl
  obtain ⟨ab, ao, rfl, -, hcc, hcell⟩ := hc
  rw [hx] at hcell
  have H3 := hid h3; clear h2 h3 hG C1 hx
  go_wp2_with fail
  go_ret2
  exact ⟨rfl, H3.out⟩
theorem oat_any (v : Value) (l : List Int) (k : Int) (w : World) (h : IntsAt w v l) (h1 : l.length ≤ 1000000) :
    Calls Tryz.prog 401 #[v, .int .i64 k] w fun e w' => e = .returned (.tuple #[.int .i64 (atOf l k).1, .bool (atOf l k).2]) ∧ w.grownBy w' none := by
  by_cases hk : 0 ≤ k ∧ k < (l.length : Int)
  · obtain ⟨j, rfl⟩ := Int.eq_ofNat_of_zero_le hk.1
    have hj : j < (ms l).length := by have := hk.2; rw [ms_len]; omega
    have e := atOf_in l j hj
    rw [e]
    exact oat_in v l j _ w h (List.getElem?_eq_getElem hj) h1
  · rw [atOf_out l k hk]
    exact oat_out v l k w h hk

end Go.Proofs.YtecggbndlbkhdaaGreat
end
