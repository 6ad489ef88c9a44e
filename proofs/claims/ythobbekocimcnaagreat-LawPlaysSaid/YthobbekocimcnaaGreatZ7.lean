/-
  Contracts: whether just the metrics that there are have targets: by the program, and by the document. No condition.
  Contract: the first part that may not be, as the program finds it. No condition.
  Contract: whether a configuration may be. No condition.
  Contracts for package calm: Set, New, of nil too. The condition of a call: the object lies there, slices read as numbers.
  Literals of numbers: what a new block of them reads as. No condition. Nothing of the program's functions is named here.
  Contract: the law's own examples: the program tells what the document says of a few. And: what a walk keeps of objects of the call's own. No condition.
  Of a world keep just what is said: small lemmas for the walks. No condition. Nothing of the program is named here.
  A configuration of the law's own, in a block. No condition.
-/
import Derived.Test.YthobbekocimcnaaGreatZ3
import Derived.LoopTactic
import Derived.Test.YthobbekocimcnaaGreatZ6
import Derived.Deep.MidRow
import Derived.Test.YthobbekocimcnaaGreatZ2
import Derived.WalkKit
section
set_option linter.unusedSimpArgs false
namespace Go.Proofs.YthobbekocimcnaaGreat
set_option maxRecDepth 100000
open Go.RowKit

/-- may the i-th of m metrics have this target? -/
def tgt (m i t : Int) : Bool := if i < m then cwithin t 1 1099511627776 else t == 0
def tgts (m t0 t1 t2 t3 : Int) : Bool := tgt m 0 t0 && tgt m 1 t1 && tgt m 2 t2 && tgt m 3 t3
/-- those ahead of the k-th -/
def tgtsTo (m t0 t1 t2 t3 : Int) : Nat → Prop
  | 0 => True
  | 1 => tgt m 0 t0 = true
  | 2 => tgt m 0 t0 = true ∧ tgt m 1 t1 = true
  | 3 => tgt m 0 t0 = true ∧ tgt m 1 t1 = true ∧ tgt m 2 t2 = true
  | _ => tgt m 0 t0 = true ∧ tgt m 1 t1 = true ∧ tgt m 2 t2 = true ∧ tgt m 3 t3 = true
theorem tgts_all {m t0 t1 t2 t3 : Int} (h : tgtsTo m t0 t1 t2 t3 4) : tgts m t0 t1 t2 t3 = true := by
  simp only [tgtsTo] at h
  simp [tgts, h]

section
variable (t0 t1 t2 t3 : Int) (w : World)
theorem ix0 : (Instr.index 25 (.agg #[.int .i64 t0, .int .i64 t1, .int .i64 t2, .int .i64 t3]) (.int .i64 0)).run Tryz.prog w = .ok (.int .i64 t0) w := by
  simp [Instr.index, run_underlying Tryz.underlying25, asIntOf, go_sem]
theorem ix1 : (Instr.index 25 (.agg #[.int .i64 t0, .int .i64 t1, .int .i64 t2, .int .i64 t3]) (.int .i64 1)).run Tryz.prog w = .ok (.int .i64 t1) w := by
  simp [Instr.index, run_underlying Tryz.underlying25, asIntOf, go_sem]
theorem ix2 : (Instr.index 25 (.agg #[.int .i64 t0, .int .i64 t1, .int .i64 t2, .int .i64 t3]) (.int .i64 2)).run Tryz.prog w = .ok (.int .i64 t2) w := by
  simp [Instr.index, run_underlying Tryz.underlying25, asIntOf, go_sem]
theorem ix3 : (Instr.index 25 (.agg #[.int .i64 t0, .int .i64 t1, .int .i64 t2, .int .i64 t3]) (.int .i64 3)).run Tryz.prog w = .ok (.int .i64 t3) w := by
  simp [Instr.index, run_underlying Tryz.underlying25, asIntOf, go_sem]
end

set_option maxHeartbeats 3200000 in
theorem targets_any (t0 t1 t2 t3 m : Int) (w : World) :
    Calls Tryz.prog 69 #[.agg #[.int .i64 t0, .int .i64 t1, .int .i64 t2, .int .i64 t3], .int .i64 m] w fun e w' => e = .returned (.bool (tgts m t0 t1 t2 t3)) ∧ w.grownBy w' none := by
  go_enter Tryz.func69, Tryz.ntmps69
  go_wp2_with fail
  go_loopw [8] (fun i wr => ∃ k : Nat, k ≤ 4 ∧ i = .int .i64 (k : Int) ∧ tgtsTo m t0 t1 t2 t3 k ∧ w.grownBy wr none) (fun i _ => 4 - (intOf i).toNat)
  case atStart => exact ⟨0, by omega, rfl, trivial, gb_alloc (.refl w none) _⟩
  case round =>
    obtain ⟨k, hk, rfl, hd, hg⟩ := hrel
    have HD := hid hd; have HG := hid hg; clear hd hg
    have i0 := fun w => ix0 t0 t1 t2 t3 w
    have i1 := fun w => ix1 t0 t1 t2 t3 w
    have i2 := fun w => ix2 t0 t1 t2 t3 w
    have i3 := fun w => ix3 t0 t1 t2 t3 w
    have h5 : k = 0 ∨ k = 1 ∨ k = 2 ∨ k = 3 ∨ k = 4 := by omega
    rcases h5 with rfl | rfl | rfl | rfl | rfl
    · clear hk
      by_cases h : (0 : Int) < m
      · have h' : ¬ m ≤ (0 : Int) := by omega
        have hc := fun w => cwithin64_any t0 1 1099511627776 w
        cases hb : cwithin t0 1 1099511627776 with
        | true =>
          rw [hb] at hc
          go_wp2_with fail
          refine (hc _).mono ?_
          rintro e w1 ⟨rfl, rfl⟩
          go_wp2_with fail
          go_roundw
          case rel => exact ⟨1, by omega, rfl, by have h1 : tgt m 0 t0 = true := (by simp [tgt, h, hb]); have h2 := HD.out; simp_all [tgtsTo], HG.out⟩
          case measure => simp [intOf]
        | false =>
          rw [hb] at hc
          go_wp2_with fail
          refine (hc _).mono ?_
          rintro e w1 ⟨rfl, rfl⟩
          go_wp2_with fail
          go_ret
          exact ⟨by have h1 : tgt m 0 t0 = false := (by simp [tgt, h, hb]); simp [tgts, h1], HG.out⟩
      · have h' : m ≤ (0 : Int) := by omega
        by_cases hz : t0 = 0
        · subst hz
          go_wp2_with fail
          go_roundw
          case rel => exact ⟨1, by omega, rfl, by have h1 : tgt m 0 0 = true := (by unfold tgt; rw [if_neg (by omega)]; rfl); have h2 := HD.out; simp_all [tgtsTo], HG.out⟩
          case measure => simp [intOf]
        · have hzb : (t0 != 0) = true := by simp [hz]
          have HZ := hid hz; clear hz
          go_wp2_with fail
          go_ret
          have hz := HZ.out
          exact ⟨by have h1 : tgt m 0 t0 = false := (by unfold tgt; rw [if_neg (by omega)]; simp [hz]); simp [tgts, h1], HG.out⟩
    · clear hk
      by_cases h : (1 : Int) < m
      · have h' : ¬ m ≤ (1 : Int) := by omega
        have hc := fun w => cwithin64_any t1 1 1099511627776 w
        cases hb : cwithin t1 1 1099511627776 with
        | true =>
          rw [hb] at hc
          go_wp2_with fail
          refine (hc _).mono ?_
          rintro e w1 ⟨rfl, rfl⟩
          go_wp2_with fail
          go_roundw
          case rel => exact ⟨2, by omega, rfl, by have h1 : tgt m 1 t1 = true := (by simp [tgt, h, hb]); have h2 := HD.out; simp_all [tgtsTo], HG.out⟩
          case measure => simp [intOf]
        | false =>
          rw [hb] at hc
          go_wp2_with fail
          refine (hc _).mono ?_
          rintro e w1 ⟨rfl, rfl⟩
          go_wp2_with fail
          go_ret
          exact ⟨by have h1 : tgt m 1 t1 = false := (by simp [tgt, h, hb]); simp [tgts, h1], HG.out⟩
      · have h' : m ≤ (1 : Int) := by omega
        by_cases hz : t1 = 0
        · subst hz
          go_wp2_with fail
          go_roundw
          case rel => exact ⟨2, by omega, rfl, by have h1 : tgt m 1 0 = true := (by unfold tgt; rw [if_neg (by omega)]; rfl); have h2 := HD.out; simp_all [tgtsTo], HG.out⟩
          case measure => simp [intOf]
        · have hzb : (t1 != 0) = true := by simp [hz]
          have HZ := hid hz; clear hz
          go_wp2_with fail
          go_ret
          have hz := HZ.out
          exact ⟨by have h1 : tgt m 1 t1 = false := (by unfold tgt; rw [if_neg (by omega)]; simp [hz]); simp [tgts, h1], HG.out⟩
    · clear hk
      by_cases h : (2 : Int) < m
      · have h' : ¬ m ≤ (2 : Int) := by omega
        have hc := fun w => cwithin64_any t2 1 1099511627776 w
        cases hb : cwithin t2 1 1099511627776 with
        | true =>
          rw [hb] at hc
          go_wp2_with fail
          refine (hc _).mono ?_
          rintro e w1 ⟨rfl, rfl⟩
          go_wp2_with fail
          go_roundw
          case rel => exact ⟨3, by omega, rfl, by have h1 : tgt m 2 t2 = true := (by simp [tgt, h, hb]); have h2 := HD.out; simp_all [tgtsTo], HG.out⟩
          case measure => simp [intOf]
        | false =>
          rw [hb] at hc
          go_wp2_with fail
          refine (hc _).mono ?_
          rintro e w1 ⟨rfl, rfl⟩
          go_wp2_with fail
          go_ret
          exact ⟨by have h1 : tgt m 2 t2 = false := (by simp [tgt, h, hb]); simp [tgts, h1], HG.out⟩
      · have h' : m ≤ (2 : Int) := by omega
        by_cases hz : t2 = 0
        · subst hz
          go_wp2_with fail
          go_roundw
          case rel => exact ⟨3, by omega, rfl, by have h1 : tgt m 2 0 = true := (by unfold tgt; rw [if_neg (by omega)]; rfl); have h2 := HD.out; simp_all [tgtsTo], HG.out⟩
          case measure => simp [intOf]
        · have hzb : (t2 != 0) = true := by simp [hz]
          have HZ := hid hz; clear hz
          go_wp2_with fail
          go_ret
          have hz := HZ.out
          exact ⟨by have h1 : tgt m 2 t2 = false := (by unfold tgt; rw [if_neg (by omega)]; simp [hz]); simp [tgts, h1], HG.out⟩
    · clear hk
      by_cases h : (3 : Int) < m
      · have h' : ¬ m ≤ (3 : Int) := by omega
        have hc := fun w => cwithin64_any t3 1 1099511627776 w
        cases hb : cwithin t3 1 1099511627776 with
        | true =>
          rw [hb] at hc
          go_wp2_with fail
          refine (hc _).mono ?_
          rintro e w1 ⟨rfl, rfl⟩
          go_wp2_with fail
          go_roundw
          case rel => exact ⟨4, by omega, rfl, by have h1 : tgt m 3 t3 = true := (by simp [tgt, h, hb]); have h2 := HD.out; simp_all [tgtsTo], HG.out⟩
          case measure => simp [intOf]
        | false =>
          rw [hb] at hc
          go_wp2_with fail
          refine (hc _).mono ?_
          rintro e w1 ⟨rfl, rfl⟩
          go_wp2_with fail
          go_ret
          exact ⟨by have h1 : tgt m 3 t3 = false := (by simp [tgt, h, hb]); simp [tgts, h1], HG.out⟩
      · have h' : m ≤ (3 : Int) := by omega
        by_cases hz : t3 = 0
        · subst hz
          go_wp2_with fail
          go_roundw
          case rel => exact ⟨4, by omega, rfl, by have h1 : tgt m 3 0 = true := (by unfold tgt; rw [if_neg (by omega)]; rfl); have h2 := HD.out; simp_all [tgtsTo], HG.out⟩
          case measure => simp [intOf]
        · have hzb : (t3 != 0) = true := by simp [hz]
          have HZ := hid hz; clear hz
          go_wp2_with fail
          go_ret
          have hz := HZ.out
          exact ⟨by have h1 : tgt m 3 t3 = false := (by unfold tgt; rw [if_neg (by omega)]; simp [hz]); simp [tgts, h1], HG.out⟩
    · clear hk
      go_wp2_with fail
      go_ret
      exact ⟨by rw [tgts_all HD.out]; rfl, HG.out⟩

set_option maxHeartbeats 3200000 in
theorem reftargets_any (c : Conf) (w : World) :
    Calls Tryz.prog 73 #[cf c] w fun e w' => e = .returned (.bool (tgts c.m c.t0 c.t1 c.t2 c.t3)) ∧ w.grownBy w' none := by
  go_enter Tryz.func73, Tryz.ntmps73
  go_wp2_with fail
  go_loopw [3] (fun i wr => ∃ k : Nat, k ≤ 4 ∧ i = .int .i64 (k : Int) ∧ tgtsTo c.m c.t0 c.t1 c.t2 c.t3 k ∧ BoxC w c wr) (fun i _ => 4 - (intOf i).toNat)
  case atStart => exact ⟨0, by omega, rfl, trivial, boxc_new w c⟩
  case round =>
    obtain ⟨k, hk, rfl, hd, hg⟩ := hrel
    have cm : wr.cell? ⟨w.heap.size, 2, none⟩ = some (.int .i64 c.m) := at_cell hg.box 2
    have c0 : wr.cell? ⟨w.heap.size, 7, none⟩ = some (.int .i64 c.t0) := at_cell hg.box 7
    have c1 : wr.cell? ⟨w.heap.size, 8, none⟩ = some (.int .i64 c.t1) := at_cell hg.box 8
    have c2 : wr.cell? ⟨w.heap.size, 9, none⟩ = some (.int .i64 c.t2) := at_cell hg.box 9
    have c3 : wr.cell? ⟨w.heap.size, 10, none⟩ = some (.int .i64 c.t3) := at_cell hg.box 10
    have HD := hid hd; have HG := hid hg; clear hd hg
    have h5 : k = 0 ∨ k = 1 ∨ k = 2 ∨ k = 3 ∨ k = 4 := by omega
    rcases h5 with rfl | rfl | rfl | rfl | rfl
    · clear hk
      obtain ⟨t, ht⟩ : ∃ t, t = c.t0 := ⟨_, rfl⟩
      rw [← ht] at c0
      obtain ⟨m, hm⟩ : ∃ m, m = c.m := ⟨_, rfl⟩
      rw [← hm] at cm
      by_cases h : (0 : Int) < m
      · have h' : ¬ m ≤ (0 : Int) := by omega
        by_cases h1 : t < 1
        · have hn : tgt m 0 t = false := by unfold tgt cwithin; rw [if_pos h, decide_eq_false (by omega : ¬ 1 ≤ t)]; rfl
          have HN := hid hn; clear hn
          go_wp2_with fail
          go_ret
          have hn := HN.out
          exact ⟨by subst ht hm; simp [tgts, hn], HG.out.g⟩
        · by_cases h2 : 1099511627776 < t
          · have hn : tgt m 0 t = false := by unfold tgt cwithin; rw [if_pos h, decide_eq_false (by omega : ¬ t ≤ 1099511627776)]; simp
            have HN := hid hn; clear hn
            go_wp2_with fail
            go_ret
            have hn := HN.out
            exact ⟨by subst ht hm; simp [tgts, hn], HG.out.g⟩
          · have hn : tgt m 0 t = true := by unfold tgt cwithin; rw [if_pos h, decide_eq_true (by omega : 1 ≤ t), decide_eq_true (by omega : t ≤ 1099511627776)]; rfl
            have HN := hid hn; clear hn
            go_wp2_with fail
            go_roundw
            case rel => exact ⟨1, by omega, rfl, by have h1 := HN.out; have h2 := HD.out; subst ht hm; simp_all [tgtsTo], HG.out⟩
            case measure => simp [intOf]
      · have h' : m ≤ (0 : Int) := by omega
        by_cases hz : t = 0
        · have hn : tgt m 0 t = true := by unfold tgt; rw [if_neg h, hz]; rfl
          have hzb : (t != 0) = false := by simp [hz]
          have HN := hid hn; clear hn hz
          go_wp2_with fail
          go_roundw
          case rel => exact ⟨1, by omega, rfl, by have h1 := HN.out; have h2 := HD.out; subst ht hm; simp_all [tgtsTo], HG.out⟩
          case measure => simp [intOf]
        · have hn : tgt m 0 t = false := by unfold tgt; rw [if_neg h]; simp [hz]
          have hzb : (t != 0) = true := by simp [hz]
          have HN := hid hn; clear hn hz
          go_wp2_with fail
          go_ret
          have hn := HN.out
          exact ⟨by subst ht hm; simp [tgts, hn], HG.out.g⟩
    · clear hk
      obtain ⟨t, ht⟩ : ∃ t, t = c.t1 := ⟨_, rfl⟩
      rw [← ht] at c1
      obtain ⟨m, hm⟩ : ∃ m, m = c.m := ⟨_, rfl⟩
      rw [← hm] at cm
      by_cases h : (1 : Int) < m
      · have h' : ¬ m ≤ (1 : Int) := by omega
        by_cases h1 : t < 1
        · have hn : tgt m 1 t = false := by unfold tgt cwithin; rw [if_pos h, decide_eq_false (by omega : ¬ 1 ≤ t)]; rfl
          have HN := hid hn; clear hn
          go_wp2_with fail
          go_ret
          have hn := HN.out
          exact ⟨by subst ht hm; simp [tgts, hn], HG.out.g⟩
        · by_cases h2 : 1099511627776 < t
          · have hn : tgt m 1 t = false := by unfold tgt cwithin; rw [if_pos h, decide_eq_false (by omega : ¬ t ≤ 1099511627776)]; simp
            have HN := hid hn; clear hn
            go_wp2_with fail
            go_ret
            have hn := HN.out
            exact ⟨by subst ht hm; simp [tgts, hn], HG.out.g⟩
          · have hn : tgt m 1 t = true := by unfold tgt cwithin; rw [if_pos h, decide_eq_true (by omega : 1 ≤ t), decide_eq_true (by omega : t ≤ 1099511627776)]; rfl
            have HN := hid hn; clear hn
            go_wp2_with fail
            go_roundw
            case rel => exact ⟨2, by omega, rfl, by have h1 := HN.out; have h2 := HD.out; subst ht hm; simp_all [tgtsTo], HG.out⟩
            case measure => simp [intOf]
      · have h' : m ≤ (1 : Int) := by omega
        by_cases hz : t = 0
        · have hn : tgt m 1 t = true := by unfold tgt; rw [if_neg h, hz]; rfl
          have hzb : (t != 0) = false := by simp [hz]
          have HN := hid hn; clear hn hz
          go_wp2_with fail
          go_roundw
          case rel => exact ⟨2, by omega, rfl, by have h1 := HN.out; have h2 := HD.out; subst ht hm; simp_all [tgtsTo], HG.out⟩
          case measure => simp [intOf]
        · have hn : tgt m 1 t = false := by unfold tgt; rw [if_neg h]; simp [hz]
          have hzb : (t != 0) = true := by simp [hz]
          have HN := hid hn; clear hn hz
          go_wp2_with fail
          go_ret
          have hn := HN.out
          exact ⟨by subst ht hm; simp [tgts, hn], HG.out.g⟩
    · clear hk
      obtain ⟨t, ht⟩ : ∃ t, t = c.t2 := ⟨_, rfl⟩
      rw [← ht] at c2
      obtain ⟨m, hm⟩ : ∃ m, m = c.m := ⟨_, rfl⟩
      rw [← hm] at cm
      by_cases h : (2 : Int) < m
      · have h' : ¬ m ≤ (2 : Int) := by omega
        by_cases h1 : t < 1
        · have hn : tgt m 2 t = false := by unfold tgt cwithin; rw [if_pos h, decide_eq_false (by omega : ¬ 1 ≤ t)]; rfl
          have HN := hid hn; clear hn
          go_wp2_with fail
          go_ret
          have hn := HN.out
          exact ⟨by subst ht hm; simp [tgts, hn], HG.out.g⟩
        · by_cases h2 : 1099511627776 < t
          · have hn : tgt m 2 t = false := by unfold tgt cwithin; rw [if_pos h, decide_eq_false (by omega : ¬ t ≤ 1099511627776)]; simp
            have HN := hid hn; clear hn
            go_wp2_with fail
            go_ret
            have hn := HN.out
            exact ⟨by subst ht hm; simp [tgts, hn], HG.out.g⟩
          · have hn : tgt m 2 t = true := by unfold tgt cwithin; rw [if_pos h, decide_eq_true (by omega : 1 ≤ t), decide_eq_true (by omega : t ≤ 1099511627776)]; rfl
            have HN := hid hn; clear hn
            go_wp2_with fail
            go_roundw
            case rel => exact ⟨3, by omega, rfl, by have h1 := HN.out; have h2 := HD.out; subst ht hm; simp_all [tgtsTo], HG.out⟩
            case measure => simp [intOf]
      · have h' : m ≤ (2 : Int) := by omega
        by_cases hz : t = 0
        · have hn : tgt m 2 t = true := by unfold tgt; rw [if_neg h, hz]; rfl
          have hzb : (t != 0) = false := by simp [hz]
          have HN := hid hn; clear hn hz
          go_wp2_with fail
          go_roundw
          case rel => exact ⟨3, by omega, rfl, by have h1 := HN.out; have h2 := HD.out; subst ht hm; simp_all [tgtsTo], HG.out⟩
          case measure => simp [intOf]
        · have hn : tgt m 2 t = false := by unfold tgt; rw [if_neg h]; simp [hz]
          have hzb : (t != 0) = true := by simp [hz]
          have HN := hid hn; clear hn hz
          go_wp2_with fail
          go_ret
          have hn := HN.out
          exact ⟨by subst ht hm; simp [tgts, hn], HG.out.g⟩
    · clear hk
      obtain ⟨t, ht⟩ : ∃ t, t = c.t3 := ⟨_, rfl⟩
      rw [← ht] at c3
      obtain ⟨m, hm⟩ : ∃ m, m = c.m := ⟨_, rfl⟩
      rw [← hm] at cm
      by_cases h : (3 : Int) < m
      · have h' : ¬ m ≤ (3 : Int) := by omega
        by_cases h1 : t < 1
        · have hn : tgt m 3 t = false := by unfold tgt cwithin; rw [if_pos h, decide_eq_false (by omega : ¬ 1 ≤ t)]; rfl
          have HN := hid hn; clear hn
          go_wp2_with fail
          go_ret
          have hn := HN.out
          exact ⟨by subst ht hm; simp [tgts, hn], HG.out.g⟩
        · by_cases h2 : 1099511627776 < t
          · have hn : tgt m 3 t = false := by unfold tgt cwithin; rw [if_pos h, decide_eq_false (by omega : ¬ t ≤ 1099511627776)]; simp
            have HN := hid hn; clear hn
            go_wp2_with fail
            go_ret
            have hn := HN.out
            exact ⟨by subst ht hm; simp [tgts, hn], HG.out.g⟩
          · have hn : tgt m 3 t = true := by unfold tgt cwithin; rw [if_pos h, decide_eq_true (by omega : 1 ≤ t), decide_eq_true (by omega : t ≤ 1099511627776)]; rfl
            have HN := hid hn; clear hn
            go_wp2_with fail
            go_roundw
            case rel => exact ⟨4, by omega, rfl, by have h1 := HN.out; have h2 := HD.out; subst ht hm; simp_all [tgtsTo], HG.out⟩
            case measure => simp [intOf]
      · have h' : m ≤ (3 : Int) := by omega
        by_cases hz : t = 0
        · have hn : tgt m 3 t = true := by unfold tgt; rw [if_neg h, hz]; rfl
          have hzb : (t != 0) = false := by simp [hz]
          have HN := hid hn; clear hn hz
          go_wp2_with fail
          go_roundw
          case rel => exact ⟨4, by omega, rfl, by have h1 := HN.out; have h2 := HD.out; subst ht hm; simp_all [tgtsTo], HG.out⟩
          case measure => simp [intOf]
        · have hn : tgt m 3 t = false := by unfold tgt; rw [if_neg h]; simp [hz]
          have hzb : (t != 0) = true := by simp [hz]
          have HN := hid hn; clear hn hz
          go_wp2_with fail
          go_ret
          have hn := HN.out
          exact ⟨by subst ht hm; simp [tgts, hn], HG.out.g⟩
    · go_wp2_with fail
      go_ret
      exact ⟨by rw [tgts_all HD.out]; rfl, HG.out.g⟩
end Go.Proofs.YthobbekocimcnaaGreat
end
section
set_option linter.unusedSimpArgs false
namespace Go.Proofs.YthobbekocimcnaaGreat
set_option maxRecDepth 100000
open Go.RowKit

theorem told1_eq (st : Option ByteArray) : told1 st = ansObj (if st.isSome then 1 else 0) (st.getD ⟨#[]⟩) := by cases st <;> rfl

/-- the names, and whether each part may be, as the program reckons it -/
def st1 (c : Conf) : Option ByteArray := ask1 none ⟨#[110]⟩ (cwithin c.n 1 16)
def st2 (c : Conf) : Option ByteArray := ask1 (st1 c) ⟨#[102]⟩ (cwithin c.f 0 (wrap64 ((wrap64 (c.n - 1)).tdiv 3)))
def st3 (c : Conf) : Option ByteArray := ask1 (st2 c) ⟨#[109]⟩ (cwithin c.m 1 4)
def st4 (c : Conf) : Option ByteArray := ask1 (st3 c) ⟨#[113, 117, 111, 114, 117, 109]⟩ (cwithin c.quorum (wrap64 (wrap64 (2 * c.f) + 1)) c.n)
def st5 (c : Conf) : Option ByteArray := ask1 (st4 c) ⟨#[102, 114, 101, 115, 104]⟩ (cwithin c.fresh 1 8)
def st6 (c : Conf) : Option ByteArray := ask1 (st5 c) ⟨#[103, 114, 97, 99, 101]⟩ (cwithin c.grace 1 100)
def st7 (c : Conf) : Option ByteArray := ask1 (st6 c) ⟨#[119, 105, 110, 100, 111, 119]⟩ (cwithin c.window 1 64)
def st8 (c : Conf) : Option ByteArray := ask1 (st7 c) ⟨#[116, 97, 114, 103, 101, 116]⟩ (tgts c.m c.t0 c.t1 c.t2 c.t3)
def st9 (c : Conf) : Option ByteArray := ask1 (st8 c) ⟨#[116, 111, 108]⟩ (cwithin c.tol 0 1000)
def st10 (c : Conf) : Option ByteArray := ask1 (st9 c) ⟨#[109, 105, 110]⟩ (cwithin c.min 1 10000)
def st11 (c : Conf) : Option ByteArray := ask1 (st10 c) ⟨#[109, 97, 120]⟩ (cwithin c.max c.min 10000)
def st12 (c : Conf) : Option ByteArray := ask1 (st11 c) ⟨#[99, 97, 108, 109, 117, 112]⟩ (cwithin c.calmup 0 60)
def st13 (c : Conf) : Option ByteArray := ask1 (st12 c) ⟨#[99, 97, 108, 109, 100, 111, 119, 110]⟩ (cwithin c.calmdown 0 60)
def st14 (c : Conf) : Option ByteArray := ask1 (st13 c) ⟨#[112, 111, 100, 115, 117, 112]⟩ (cwithin c.podsup 1 1000)
def st15 (c : Conf) : Option ByteArray := ask1 (st14 c) ⟨#[112, 99, 116, 117, 112]⟩ (cwithin c.pctup 1 1000)
def st16 (c : Conf) : Option ByteArray := ask1 (st15 c) ⟨#[112, 111, 100, 115, 100, 111, 119, 110]⟩ (cwithin c.podsdown 1 1000)
def st17 (c : Conf) : Option ByteArray := ask1 (st16 c) ⟨#[112, 99, 116, 100, 111, 119, 110]⟩ (cwithin c.pctdown 1 100)
def st18 (c : Conf) : Option ByteArray := ask1 (st17 c) ⟨#[112, 101, 114, 105, 111, 100]⟩ (cwithin c.period 1 60)
def st19 (c : Conf) : Option ByteArray := ask1 (st18 c) ⟨#[102, 97, 114]⟩ (cwithin c.far 0 1099511627776)
def st20 (c : Conf) : Option ByteArray := ask1 (st19 c) ⟨#[115, 116, 114, 105, 107, 101, 115]⟩ (cwithin c.strikes 1 100)
def st21 (c : Conf) : Option ByteArray := ask1 (st20 c) ⟨#[112, 114, 111, 98, 101]⟩ (cwithin c.probe 1 100)
def st22 (c : Conf) : Option ByteArray := ask1 (st21 c) ⟨#[115, 101, 99, 116, 111, 114, 115]⟩ (cwithin c.sectors 64 4096)

/-- the function's own blocks: the configuration that came in, and the answer -/
structure WK (w : World) (c : Conf) (st : Option ByteArray) (w' : World) : Prop where
  box : BoxC w c w'
  ans : w'.heap[w.heap.size + 1]? = some (told1 st)
theorem WK.grown {w : World} {c : Conf} {st : Option ByteArray} {w1 w2 : World} (h : WK w c st w1) (hg : w1.grownBy w2 none) : WK w c st w2 := ⟨h.box.grown hg, at_grown h.ans hg (by simp)⟩
theorem WK.step {w : World} {c : Conf} {st st' : Option ByteArray} {w1 w2 : World} (h : WK w c st w1) (hb : w2.heap[w.heap.size + 1]? = some (told1 st')) (hg : w1.grownBy w2 (some (w.heap.size + 1))) : WK w c st' w2 :=
  ⟨⟨at_grown h.box.box hg (by simp), gb_trans h.box.g hg (.inr (.inr ⟨_, rfl, by omega⟩))⟩, hb⟩

set_option maxHeartbeats 6400000 in
theorem wrong_any (c : Conf) (w : World) :
    Calls Tryz.prog 41 #[cf c] w fun e w' => e = .returned (.string ((st22 c).getD ⟨#[]⟩)) ∧ w.grownBy w' none := by
  have hs0 : (w.alloc (.cells c.cells 28)).heap.size = w.heap.size + 1 := size_new _ _
  have h0 : WK w c none ((w.alloc (.cells c.cells 28)).alloc (ansObj 0 ⟨#[]⟩)) := ⟨(boxc_new w c).grown (World.grownBy_alloc _ _ _), by rw [← hs0]; exact at_new _ _⟩
  have H0 := hid h0; clear h0
  go_enter Tryz.func41, Tryz.ntmps41
  have z0 : ((w.alloc (.cells c.cells 28)).alloc (ansObj 0 ⟨#[]⟩)).cell? ⟨w.heap.size, 0, none⟩ = some (.int .i64 c.n) := at_cell H0.out.box.box 0
  go_wp2_with fail
  refine (cwithin_any _ _ _ _).mono ?_
  rintro e v1 ⟨rfl, rfl⟩
  clear z0
  go_wp2_with fail
  refine (ask_any (w.heap.size + 1) ⟨#[110]⟩ (cwithin c.n 1 16) none _ H0.out.ans).mono ?_
  rintro e w1 ⟨rfl, ha, hg⟩
  have H1 : Hid (WK w c (st1 c) w1) := hid (H0.out.step ha hg); clear ha hg H0
  have z1 : w1.cell? ⟨w.heap.size, 1, none⟩ = some (.int .i64 c.f) := at_cell H1.out.box.box 1
  have z0 : w1.cell? ⟨w.heap.size, 0, none⟩ = some (.int .i64 c.n) := at_cell H1.out.box.box 0
  go_wp2_with fail
  refine (cwithin_any _ _ _ _).mono ?_
  rintro e v2 ⟨rfl, rfl⟩
  clear z1 z0
  go_wp2_with fail
  refine (ask_any (w.heap.size + 1) ⟨#[102]⟩ (cwithin c.f 0 (wrap64 ((wrap64 (c.n - 1)).tdiv 3))) (st1 c) _ H1.out.ans).mono ?_
  rintro e w2 ⟨rfl, ha, hg⟩
  have H2 : Hid (WK w c (st2 c) w2) := hid (H1.out.step ha hg); clear ha hg H1
  have z2 : w2.cell? ⟨w.heap.size, 2, none⟩ = some (.int .i64 c.m) := at_cell H2.out.box.box 2
  go_wp2_with fail
  refine (cwithin_any _ _ _ _).mono ?_
  rintro e v3 ⟨rfl, rfl⟩
  clear z2
  go_wp2_with fail
  refine (ask_any (w.heap.size + 1) ⟨#[109]⟩ (cwithin c.m 1 4) (st2 c) _ H2.out.ans).mono ?_
  rintro e w3 ⟨rfl, ha, hg⟩
  have H3 : Hid (WK w c (st3 c) w3) := hid (H2.out.step ha hg); clear ha hg H2
  have z3 : w3.cell? ⟨w.heap.size, 3, none⟩ = some (.int .i64 c.quorum) := at_cell H3.out.box.box 3
  have z1 : w3.cell? ⟨w.heap.size, 1, none⟩ = some (.int .i64 c.f) := at_cell H3.out.box.box 1
  have z0 : w3.cell? ⟨w.heap.size, 0, none⟩ = some (.int .i64 c.n) := at_cell H3.out.box.box 0
  go_wp2_with fail
  refine (cwithin_any _ _ _ _).mono ?_
  rintro e v4 ⟨rfl, rfl⟩
  clear z3 z1 z0
  go_wp2_with fail
  refine (ask_any (w.heap.size + 1) ⟨#[113, 117, 111, 114, 117, 109]⟩ (cwithin c.quorum (wrap64 (wrap64 (2 * c.f) + 1)) c.n) (st3 c) _ H3.out.ans).mono ?_
  rintro e w4 ⟨rfl, ha, hg⟩
  have H4 : Hid (WK w c (st4 c) w4) := hid (H3.out.step ha hg); clear ha hg H3
  have z4 : w4.cell? ⟨w.heap.size, 4, none⟩ = some (.int .i64 c.fresh) := at_cell H4.out.box.box 4
  go_wp2_with fail
  refine (cwithin_any _ _ _ _).mono ?_
  rintro e v5 ⟨rfl, rfl⟩
  clear z4
  go_wp2_with fail
  refine (ask_any (w.heap.size + 1) ⟨#[102, 114, 101, 115, 104]⟩ (cwithin c.fresh 1 8) (st4 c) _ H4.out.ans).mono ?_
  rintro e w5 ⟨rfl, ha, hg⟩
  have H5 : Hid (WK w c (st5 c) w5) := hid (H4.out.step ha hg); clear ha hg H4
  have z5 : w5.cell? ⟨w.heap.size, 5, none⟩ = some (.int .i64 c.grace) := at_cell H5.out.box.box 5
  go_wp2_with fail
  refine (cwithin_any _ _ _ _).mono ?_
  rintro e v6 ⟨rfl, rfl⟩
  clear z5
  go_wp2_with fail
  refine (ask_any (w.heap.size + 1) ⟨#[103, 114, 97, 99, 101]⟩ (cwithin c.grace 1 100) (st5 c) _ H5.out.ans).mono ?_
  rintro e w6 ⟨rfl, ha, hg⟩
  have H6 : Hid (WK w c (st6 c) w6) := hid (H5.out.step ha hg); clear ha hg H5
  have z6 : w6.cell? ⟨w.heap.size, 6, none⟩ = some (.int .i64 c.window) := at_cell H6.out.box.box 6
  go_wp2_with fail
  refine (cwithin_any _ _ _ _).mono ?_
  rintro e v7 ⟨rfl, rfl⟩
  clear z6
  go_wp2_with fail
  refine (ask_any (w.heap.size + 1) ⟨#[119, 105, 110, 100, 111, 119]⟩ (cwithin c.window 1 64) (st6 c) _ H6.out.ans).mono ?_
  rintro e w7 ⟨rfl, ha, hg⟩
  have H7 : Hid (WK w c (st7 c) w7) := hid (H6.out.step ha hg); clear ha hg H6
  have z7 : w7.cell? ⟨w.heap.size, 7, none⟩ = some (.int .i64 c.t0) := at_cell H7.out.box.box 7
  have z8 : w7.cell? ⟨w.heap.size, 8, none⟩ = some (.int .i64 c.t1) := at_cell H7.out.box.box 8
  have z9 : w7.cell? ⟨w.heap.size, 9, none⟩ = some (.int .i64 c.t2) := at_cell H7.out.box.box 9
  have z10 : w7.cell? ⟨w.heap.size, 10, none⟩ = some (.int .i64 c.t3) := at_cell H7.out.box.box 10
  have z2 : w7.cell? ⟨w.heap.size, 2, none⟩ = some (.int .i64 c.m) := at_cell H7.out.box.box 2
  go_wp2_with fail
  refine (targets_any c.t0 c.t1 c.t2 c.t3 c.m _).mono ?_
  rintro e v8 ⟨rfl, hg⟩
  have K8 := hid (H7.out.grown hg); clear hg z7 z8 z9 z10 z2 H7
  go_wp2_with fail
  refine (ask_any (w.heap.size + 1) ⟨#[116, 97, 114, 103, 101, 116]⟩ (tgts c.m c.t0 c.t1 c.t2 c.t3) (st7 c) _ K8.out.ans).mono ?_
  rintro e w8 ⟨rfl, ha, hg⟩
  have H8 : Hid (WK w c (st8 c) w8) := hid (K8.out.step ha hg); clear ha hg K8
  have z11 : w8.cell? ⟨w.heap.size, 11, none⟩ = some (.int .i64 c.tol) := at_cell H8.out.box.box 11
  go_wp2_with fail
  refine (cwithin_any _ _ _ _).mono ?_
  rintro e v9 ⟨rfl, rfl⟩
  clear z11
  go_wp2_with fail
  refine (ask_any (w.heap.size + 1) ⟨#[116, 111, 108]⟩ (cwithin c.tol 0 1000) (st8 c) _ H8.out.ans).mono ?_
  rintro e w9 ⟨rfl, ha, hg⟩
  have H9 : Hid (WK w c (st9 c) w9) := hid (H8.out.step ha hg); clear ha hg H8
  have z12 : w9.cell? ⟨w.heap.size, 12, none⟩ = some (.int .i64 c.min) := at_cell H9.out.box.box 12
  go_wp2_with fail
  refine (cwithin_any _ _ _ _).mono ?_
  rintro e v10 ⟨rfl, rfl⟩
  clear z12
  go_wp2_with fail
  refine (ask_any (w.heap.size + 1) ⟨#[109, 105, 110]⟩ (cwithin c.min 1 10000) (st9 c) _ H9.out.ans).mono ?_
  rintro e w10 ⟨rfl, ha, hg⟩
  have H10 : Hid (WK w c (st10 c) w10) := hid (H9.out.step ha hg); clear ha hg H9
  have z13 : w10.cell? ⟨w.heap.size, 13, none⟩ = some (.int .i64 c.max) := at_cell H10.out.box.box 13
  have z12 : w10.cell? ⟨w.heap.size, 12, none⟩ = some (.int .i64 c.min) := at_cell H10.out.box.box 12
  go_wp2_with fail
  refine (cwithin_any _ _ _ _).mono ?_
  rintro e v11 ⟨rfl, rfl⟩
  clear z13 z12
  go_wp2_with fail
  refine (ask_any (w.heap.size + 1) ⟨#[109, 97, 120]⟩ (cwithin c.max c.min 10000) (st10 c) _ H10.out.ans).mono ?_
  rintro e w11 ⟨rfl, ha, hg⟩
  have H11 : Hid (WK w c (st11 c) w11) := hid (H10.out.step ha hg); clear ha hg H10
  have z14 : w11.cell? ⟨w.heap.size, 14, none⟩ = some (.int .i64 c.calmup) := at_cell H11.out.box.box 14
  go_wp2_with fail
  refine (cwithin_any _ _ _ _).mono ?_
  rintro e v12 ⟨rfl, rfl⟩
  clear z14
  go_wp2_with fail
  refine (ask_any (w.heap.size + 1) ⟨#[99, 97, 108, 109, 117, 112]⟩ (cwithin c.calmup 0 60) (st11 c) _ H11.out.ans).mono ?_
  rintro e w12 ⟨rfl, ha, hg⟩
  have H12 : Hid (WK w c (st12 c) w12) := hid (H11.out.step ha hg); clear ha hg H11
  have z15 : w12.cell? ⟨w.heap.size, 15, none⟩ = some (.int .i64 c.calmdown) := at_cell H12.out.box.box 15
  go_wp2_with fail
  refine (cwithin_any _ _ _ _).mono ?_
  rintro e v13 ⟨rfl, rfl⟩
  clear z15
  go_wp2_with fail
  refine (ask_any (w.heap.size + 1) ⟨#[99, 97, 108, 109, 100, 111, 119, 110]⟩ (cwithin c.calmdown 0 60) (st12 c) _ H12.out.ans).mono ?_
  rintro e w13 ⟨rfl, ha, hg⟩
  have H13 : Hid (WK w c (st13 c) w13) := hid (H12.out.step ha hg); clear ha hg H12
  have z16 : w13.cell? ⟨w.heap.size, 16, none⟩ = some (.int .i64 c.podsup) := at_cell H13.out.box.box 16
  go_wp2_with fail
  refine (cwithin_any _ _ _ _).mono ?_
  rintro e v14 ⟨rfl, rfl⟩
  clear z16
  go_wp2_with fail
  refine (ask_any (w.heap.size + 1) ⟨#[112, 111, 100, 115, 117, 112]⟩ (cwithin c.podsup 1 1000) (st13 c) _ H13.out.ans).mono ?_
  rintro e w14 ⟨rfl, ha, hg⟩
  have H14 : Hid (WK w c (st14 c) w14) := hid (H13.out.step ha hg); clear ha hg H13
  have z17 : w14.cell? ⟨w.heap.size, 17, none⟩ = some (.int .i64 c.pctup) := at_cell H14.out.box.box 17
  go_wp2_with fail
  refine (cwithin_any _ _ _ _).mono ?_
  rintro e v15 ⟨rfl, rfl⟩
  clear z17
  go_wp2_with fail
  refine (ask_any (w.heap.size + 1) ⟨#[112, 99, 116, 117, 112]⟩ (cwithin c.pctup 1 1000) (st14 c) _ H14.out.ans).mono ?_
  rintro e w15 ⟨rfl, ha, hg⟩
  have H15 : Hid (WK w c (st15 c) w15) := hid (H14.out.step ha hg); clear ha hg H14
  have z18 : w15.cell? ⟨w.heap.size, 18, none⟩ = some (.int .i64 c.podsdown) := at_cell H15.out.box.box 18
  go_wp2_with fail
  refine (cwithin_any _ _ _ _).mono ?_
  rintro e v16 ⟨rfl, rfl⟩
  clear z18
  go_wp2_with fail
  refine (ask_any (w.heap.size + 1) ⟨#[112, 111, 100, 115, 100, 111, 119, 110]⟩ (cwithin c.podsdown 1 1000) (st15 c) _ H15.out.ans).mono ?_
  rintro e w16 ⟨rfl, ha, hg⟩
  have H16 : Hid (WK w c (st16 c) w16) := hid (H15.out.step ha hg); clear ha hg H15
  have z19 : w16.cell? ⟨w.heap.size, 19, none⟩ = some (.int .i64 c.pctdown) := at_cell H16.out.box.box 19
  go_wp2_with fail
  refine (cwithin_any _ _ _ _).mono ?_
  rintro e v17 ⟨rfl, rfl⟩
  clear z19
  go_wp2_with fail
  refine (ask_any (w.heap.size + 1) ⟨#[112, 99, 116, 100, 111, 119, 110]⟩ (cwithin c.pctdown 1 100) (st16 c) _ H16.out.ans).mono ?_
  rintro e w17 ⟨rfl, ha, hg⟩
  have H17 : Hid (WK w c (st17 c) w17) := hid (H16.out.step ha hg); clear ha hg H16
  have z20 : w17.cell? ⟨w.heap.size, 20, none⟩ = some (.int .i64 c.period) := at_cell H17.out.box.box 20
  go_wp2_with fail
  refine (cwithin_any _ _ _ _).mono ?_
  rintro e v18 ⟨rfl, rfl⟩
  clear z20
  go_wp2_with fail
  refine (ask_any (w.heap.size + 1) ⟨#[112, 101, 114, 105, 111, 100]⟩ (cwithin c.period 1 60) (st17 c) _ H17.out.ans).mono ?_
  rintro e w18 ⟨rfl, ha, hg⟩
  have H18 : Hid (WK w c (st18 c) w18) := hid (H17.out.step ha hg); clear ha hg H17
  have z21 : w18.cell? ⟨w.heap.size, 21, none⟩ = some (.int .i64 c.far) := at_cell H18.out.box.box 21
  go_wp2_with fail
  refine (cwithin64_any _ _ _ _).mono ?_
  rintro e v19 ⟨rfl, rfl⟩
  clear z21
  go_wp2_with fail
  refine (ask_any (w.heap.size + 1) ⟨#[102, 97, 114]⟩ (cwithin c.far 0 1099511627776) (st18 c) _ H18.out.ans).mono ?_
  rintro e w19 ⟨rfl, ha, hg⟩
  have H19 : Hid (WK w c (st19 c) w19) := hid (H18.out.step ha hg); clear ha hg H18
  have z22 : w19.cell? ⟨w.heap.size, 22, none⟩ = some (.int .i64 c.strikes) := at_cell H19.out.box.box 22
  go_wp2_with fail
  refine (cwithin_any _ _ _ _).mono ?_
  rintro e v20 ⟨rfl, rfl⟩
  clear z22
  go_wp2_with fail
  refine (ask_any (w.heap.size + 1) ⟨#[115, 116, 114, 105, 107, 101, 115]⟩ (cwithin c.strikes 1 100) (st19 c) _ H19.out.ans).mono ?_
  rintro e w20 ⟨rfl, ha, hg⟩
  have H20 : Hid (WK w c (st20 c) w20) := hid (H19.out.step ha hg); clear ha hg H19
  have z23 : w20.cell? ⟨w.heap.size, 23, none⟩ = some (.int .i64 c.probe) := at_cell H20.out.box.box 23
  go_wp2_with fail
  refine (cwithin_any _ _ _ _).mono ?_
  rintro e v21 ⟨rfl, rfl⟩
  clear z23
  go_wp2_with fail
  refine (ask_any (w.heap.size + 1) ⟨#[112, 114, 111, 98, 101]⟩ (cwithin c.probe 1 100) (st20 c) _ H20.out.ans).mono ?_
  rintro e w21 ⟨rfl, ha, hg⟩
  have H21 : Hid (WK w c (st21 c) w21) := hid (H20.out.step ha hg); clear ha hg H20
  have z24 : w21.cell? ⟨w.heap.size, 24, none⟩ = some (.int .i64 c.sectors) := at_cell H21.out.box.box 24
  go_wp2_with fail
  refine (cwithin_any _ _ _ _).mono ?_
  rintro e v22 ⟨rfl, rfl⟩
  clear z24
  go_wp2_with fail
  refine (ask_any (w.heap.size + 1) ⟨#[115, 101, 99, 116, 111, 114, 115]⟩ (cwithin c.sectors 64 4096) (st21 c) _ H21.out.ans).mono ?_
  rintro e w22 ⟨rfl, ha, hg⟩
  have H22 : Hid (WK w c (st22 c) w22) := hid (H21.out.step ha hg); clear ha hg H21
  have z : w22.cell? ⟨w.heap.size + 1, 3, none⟩ = some (.string ((st22 c).getD ⟨#[]⟩)) := at_cell (H22.out.ans.trans (congrArg some (told1_eq _))) 3
  go_wp2_with fail
  go_ret
  exact ⟨rfl, H22.out.box.g⟩
end Go.Proofs.YthobbekocimcnaaGreat
end
section
set_option linter.unusedSimpArgs false
namespace Go.Proofs.YthobbekocimcnaaGreat
set_option maxRecDepth 100000
open Go.RowKit

theorem cmay_any (c : Conf) (w : World) :
    Calls Tryz.prog 19 #[cf c] w fun e w' => e = .returned (.bool ((st22 c).getD ⟨#[]⟩).toList.isEmpty) ∧ w.grownBy w' none := by
  have h0 := boxc_new w c
  have H0 := hid h0; clear h0
  have hw := wrong_any c
  obtain ⟨s, hs⟩ : ∃ s, s = (st22 c).getD ⟨#[]⟩ := ⟨_, rfl⟩
  rw [← hs] at hw ⊢
  clear hs
  go_enter Tryz.func19, Tryz.ntmps19
  go_wp2_with (refine wpList_conf H0.out.box rfl rfl rfl rfl ?_)
  refine (hw _).mono ?_
  rintro e w1 ⟨rfl, hg⟩
  have G1 := hid hg; clear hg
  go_wp2_with fail
  go_ret
  exact ⟨rfl, gb_trans (gb_alloc (.refl w none) _) G1.out (.inl rfl)⟩
end Go.Proofs.YthobbekocimcnaaGreat
end
section
set_option linter.unusedSimpArgs false
set_option linter.unusedVariables false
namespace Go.Proofs.YthobbekocimcnaaGreat
set_option maxRecDepth 100000
open Go.RowKit

theorem all_hit {l : List Int} {k : Nat} {x : Int} (h : l[k]? = some x) (hx : okC x = false) : l.all okC = false := by
  obtain ⟨hk, rfl⟩ := List.getElem?_eq_some_iff.1 h
  cases hb : l.all okC with
  | false => rfl
  | true => rw [List.all_eq_true] at hb; rw [hb _ (List.getElem_mem hk)] at hx; cases hx
theorem all_none {l : List Int} (h : ∀ (i : Nat) (x : Int), i < l.length → l[i]? = some x → okC x = true) : l.all okC = true := by
  rw [List.all_eq_true]
  intro x hx
  obtain ⟨i, hi, rfl⟩ := List.mem_iff_getElem.1 hx
  exact h i _ hi (List.getElem?_eq_getElem hi)

def Setted (w : World) (b : Nat) (c : Ca) (l : List Int) (e : Ending) (w' : World) : Prop :=
  (c.mayset l = true ∧ e = .returned (.int .i64 0) ∧ CaAt w' b { c with l := l } ∧ Chg [b] w w') ∨ (c.mayset l = false ∧ e = .returned (.int .i64 1) ∧ w.grownBy w' none)
theorem mayset_eq (c : Ca) (l : List Int) : c.mayset l = (decide (l.length ≤ c.most) && l.all okC) := rfl
theorem set_ok {c : Ca} (h : c.Ok) {l : List Int} (hl : c.mayset l = true) : ({ c with l := l } : Ca).Ok := by
  rw [mayset_eq, Bool.and_eq_true, decide_eq_true_eq, List.all_eq_true] at hl
  refine ⟨h.u, h.d, hl.1, fun x hx => ?_⟩
  have := hl.2 x hx
  unfold okC at this
  rw [Bool.and_eq_true, decide_eq_true_eq, decide_eq_true_eq] at this
  exact this
theorem new_nil (u d : Int) (h : ¬ (0 ≤ u ∧ u ≤ 60 ∧ 0 ≤ d ∧ d ≤ 60)) (w : World) :
    Calls Tryz.prog 22 #[.int .i64 u, .int .i64 d] w fun e w' => e = .returned (.pointer none) ∧ w = w' := by
  have M1 := hid (may_any u 60); have M2 := hid (may_any d 60)
  cases h1 : decide (0 ≤ u) && decide (u ≤ 60) with
  | false =>
    rw [h1] at M1
    clear h h1
    go_enter Tryz.func22, Tryz.ntmps22
    go_wp2_with fail
    refine (M1.out _).mono ?_
    rintro e w1 ⟨rfl, rfl⟩
    go_wp2_with fail
    go_ret
    exact ⟨rfl, rfl⟩
  | true =>
    have h2 : (decide (0 ≤ d) && decide (d ≤ 60)) = false := by
      cases h3 : decide (0 ≤ d) && decide (d ≤ 60) with
      | false => rfl
      | true => simp at h1 h3; exact absurd ⟨h1.1, h1.2, h3.1, h3.2⟩ h
    rw [h1] at M1; rw [h2] at M2
    clear h h1 h2
    go_enter Tryz.func22, Tryz.ntmps22
    go_wp2_with fail
    refine (M1.out _).mono ?_
    rintro e w1 ⟨rfl, rfl⟩
    go_wp2_with fail
    refine (M2.out _).mono ?_
    rintro e w1 ⟨rfl, rfl⟩
    go_wp2_with fail
    go_ret
    exact ⟨rfl, rfl⟩
def MadeC (w : World) (c : Ca) (e : Ending) (w' : World) : Prop := ∃ b, e = .returned (.pointer (some ⟨b, 0, none⟩)) ∧ CaAt w' b c ∧ w.grownBy w' none ∧ w.heap.size ≤ b
theorem new_ok (u d : Nat) (hu : u ≤ 60) (hd : d ≤ 60) (w : World) :
    Calls Tryz.prog 22 #[.int .i64 (u : Int), .int .i64 (d : Int)] w (MadeC w ⟨u, d, []⟩) := by
  have M1 := hid (may_any (u : Int) 60); have M2 := hid (may_any (d : Int) 60)
  have h1 : (decide (0 ≤ (u : Int)) && decide ((u : Int) ≤ 60)) = true := by simp; omega
  have h2 : (decide (0 ≤ (d : Int)) && decide ((d : Int) ≤ 60)) = true := by simp; omega
  rw [h1] at M1; rw [h2] at M2
  clear h1 h2
  have L := hid (show CaAt (w.alloc (.cells (caCells u d 0 (List.replicate 61 0)) 89)) w.heap.size ⟨u, d, []⟩ from ⟨⟨List.replicate 61 0, rfl, rfl, at_new w _⟩, ⟨hu, hd, Nat.zero_le _, fun x hx => by cases hx⟩⟩)
  go_enter Tryz.func22, Tryz.ntmps22
  go_wp2_with fail
  refine (M1.out _).mono ?_
  rintro e w1 ⟨rfl, rfl⟩
  go_wp2_with fail
  refine (M2.out _).mono ?_
  rintro e w1 ⟨rfl, rfl⟩
  go_wp2_with fail
  go_ret
  exact ⟨_, rfl, L.out, gb_alloc (.refl w none) _, Nat.le_refl _⟩
end Go.Proofs.YthobbekocimcnaaGreat
end
section
set_option linter.unusedSimpArgs false
set_option linter.unusedVariables false
namespace Go.Proofs.YthobbekocimcnaaGreat
set_option maxRecDepth 100000
open Go.RowKit

theorem size_ln (w : World) (o : Obj) : (w.alloc o).heap.size = w.heap.size + 1 := by show (w.heap.push o).size = _; simp
theorem ints_new (w : World) (l : List Int) (hl : l.length ≤ maxLen) : IntsAt (w.alloc (.cells (l.map iv).toArray 2)) (.slice (some ⟨w.heap.size, 0, none⟩) l.length l.length) l := ints_of_cells l (at_new w _) hl
theorem lit_new (w : World) (l : List Int) (c : Array Value) (hc : (l.map iv).toArray = c) (n : Nat) (hn : l.length = n) (hl : n ≤ maxLen) : IntsAt (w.alloc (.cells c 2)) (.slice (some ⟨w.heap.size, 0, none⟩) n n) l := by
  subst hc; subst hn; exact ints_new w l hl
theorem lit_new2 (w : World) (o : Obj) (l : List Int) (c : Array Value) (hc : (l.map iv).toArray = c) (n : Nat) (hn : l.length = n) (hl : n ≤ maxLen) : IntsAt ((w.alloc o).alloc (.cells c 2)) (.slice (some ⟨w.heap.size + 1, 0, none⟩) n n) l := by
  have h := lit_new (w.alloc o) l c hc n hn hl
  rw [size_ln] at h
  exact h
theorem le_max (n : Nat) (h : n ≤ 100) : n ≤ maxLen := by unfold maxLen; omega
end Go.Proofs.YthobbekocimcnaaGreat
end
section
set_option linter.unusedSimpArgs false
set_option linter.unusedVariables false
namespace Go.Proofs.YthobbekocimcnaaGreat
set_option maxRecDepth 100000
open Go.RowKit

section
variable {w W W' : World} {b b1 b2 : Nat} {c c' c1 c2 : Ca} {n x z : Int} {v : Value} {l : List Int}
theorem gb_chg (h : w.grownBy W none) (hc : Chg [b] W W') (hb : w.heap.size ≤ b) : w.grownBy W' none :=
  ((chg_grown h []).trans hc (fun y hy => by rw [List.mem_singleton] at hy; subst hy; exact .inr hb)).free (fun y hy => by cases hy)
/-- one object of the call's own; two -/
structure Ck1 (w : World) (b : Nat) (c : Ca) (W : World) : Prop where
  gr : w.grownBy W none
  at1 : CaAt W b c
  lo : w.heap.size ≤ b
structure Ck2 (w : World) (b1 : Nat) (c1 : Ca) (b2 : Nat) (c2 : Ca) (W : World) : Prop where
  k1 : Ck1 w b1 c1 W
  k2 : Ck1 w b2 c2 W
  ne : b1 ≠ b2
theorem Ck1.grown (h : Ck1 w b c W) (hg : W.grownBy W' none) : Ck1 w b c W' := ⟨gb_trans h.gr hg (.inl rfl), h.at1.grown hg, h.lo⟩
theorem Ck1.drew (h : Ck1 w b c W) : Ck1 w b c W.drew := ⟨gb_drew h.gr, h.at1.drew, h.lo⟩
theorem Ck1.chg (h : Ck1 w b c W) (hc : CaAt W' b c') (hg : Chg [b] W W') : Ck1 w b c' W' := ⟨gb_chg h.gr hg h.lo, hc, h.lo⟩
theorem Ck2.grown (h : Ck2 w b1 c1 b2 c2 W) (hg : W.grownBy W' none) : Ck2 w b1 c1 b2 c2 W' := ⟨h.k1.grown hg, h.k2.grown hg, h.ne⟩
theorem Ck2.drew (h : Ck2 w b1 c1 b2 c2 W) : Ck2 w b1 c1 b2 c2 W.drew := ⟨h.k1.drew, h.k2.drew, h.ne⟩
theorem Ck2.chg1 (h : Ck2 w b1 c1 b2 c2 W) (hc : CaAt W' b1 c') (hg : Chg [b1] W W') : Ck2 w b1 c' b2 c2 W' :=
  ⟨h.k1.chg hc hg, ⟨gb_chg h.k1.gr hg h.k1.lo, h.k2.at1.chg hg (by simp [h.ne.symm]), h.k2.lo⟩, h.ne⟩
theorem Ck2.swap (h : Ck2 w b1 c1 b2 c2 W) : Ck2 w b2 c2 b1 c1 W := ⟨h.k2, h.k1, h.ne.symm⟩
theorem Ck2.chg2 (h : Ck2 w b1 c1 b2 c2 W) (hc : CaAt W' b2 c') (hg : Chg [b2] W W') : Ck2 w b1 c1 b2 c' W' := (h.swap.chg1 hc hg).swap
theorem Ck1.start (h : CaAt W b c) (hg : w.grownBy W none) (hb : w.heap.size ≤ b) : Ck1 w b c W := ⟨hg, h, hb⟩
theorem Ck2.start (h : Ck1 w b1 c1 W) (h2 : CaAt W' b c) (hg : W.grownBy W' none) (hb : W.heap.size ≤ b) : Ck2 w b1 c1 b c W' :=
  ⟨h.grown hg, ⟨gb_trans h.gr hg (.inl rfl), h2, Nat.le_trans h.gr.size hb⟩, by have := h.at1.lt; omega⟩
theorem new_as (u d : Nat) {U D : Int} (hU : (u : Int) = U) (hD : (d : Int) = D) (hu : u ≤ 60) (hd : d ≤ 60) (w : World) : Calls Tryz.prog 22 #[.int .i64 U, .int .i64 D] w (MadeC w ⟨u, d, []⟩) := by
  subst hU; subst hD; exact new_ok u d hu hd w
theorem next_as (H : CaAt W b c) (h1 : c.push x = c') (h2 : c'.out n = z) :
    Calls Tryz.prog 32 #[.pointer (some ⟨b, 0, none⟩), .int .i64 n, .int .i64 x] W fun e w' => e = .returned (.int .i64 z) ∧ CaAt w' b c' ∧ Chg [b] W w' := by
  subst h1; subst h2; exact next_any n x H
/-- All, its length alone -/
theorem alls_len (H : CaAt W b c) (k : Nat) (h : c.l.length = k) :
    Calls Tryz.prog 16 #[.pointer (some ⟨b, 0, none⟩)] W fun e w' => (∃ p m, e = .returned (.slice p k m)) ∧ W.grownBy w' none :=
  (alls_any H).mono fun e w' ⟨⟨v, h1, h2⟩, hg⟩ => by
    obtain ⟨p, m, rfl⟩ := h2.form
    exact ⟨⟨p, m, by rw [h1, h]⟩, hg⟩
end

end Go.Proofs.YthobbekocimcnaaGreat
end
section
namespace Go.Proofs.YthobbekocimcnaaGreat
set_option maxRecDepth 100000
open Go.RowKit
theorem wp_gen {C : Program} {c : Code} {Q : Exit → Act → World → Prop} {a : Act} {w : World} (P : World → Prop) (h : P w) (k : ∀ wx, P wx → Code.wp C c Q a wx) : Code.wp C c Q a w := k w h
theorem cut_gen {K : Act → World → Prop} {a : Act} {w : World} (P : World → Prop) (h : P w) (k : ∀ wx, P wx → K a wx) : K a w := k w h
end Go.Proofs.YthobbekocimcnaaGreat
end
section
set_option linter.unusedSimpArgs false
namespace Go.Proofs.YthobbekocimcnaaGreat
set_option maxRecDepth 100000
open Go.RowKit

/-- the block x holds the configuration c; all else as it was, or new -/
structure Cfx (w0 : World) (x : Nat) (c : Conf) (w : World) : Prop where
  box : w.heap[x]? = some (.cells c.cells 28)
  g : w0.grownBy w none
theorem Cfx.grown {w0 : World} {x : Nat} {c : Conf} {w1 w2 : World} (h : Cfx w0 x c w1) (hg : w1.grownBy w2 none) : Cfx w0 x c w2 := ⟨at_grown h.box hg (by simp), gb_trans h.g hg (.inl rfl)⟩
theorem Cfx.drew {w0 : World} {x : Nat} {c : Conf} {w1 : World} (h : Cfx w0 x c w1) : Cfx w0 x c w1.drew := ⟨h.box, gb_drew h.g⟩
theorem cfx_new {w0 w1 : World} (c : Conf) (h : w0.grownBy w1 none) : Cfx w0 w1.heap.size c (w1.alloc (.cells c.cells 28)) := ⟨at_new w1 _, gb_alloc h _⟩

/-- a number out of 'int(uint(x) % m)' -/
theorem mod_small (x : Int) {m : Int} (h0 : 0 < m) (h1 : m ≤ 4611686018427387904) : 0 ≤ wrap64 ((IntKind.u64.wrap x).tmod m) ∧ wrap64 ((IntKind.u64.wrap x).tmod m) < m := by
  have h : 0 ≤ IntKind.u64.wrap x := by
    show 0 ≤ x % _
    exact Int.emod_nonneg _ (by decide)
  rw [Int.tmod_eq_emod_of_nonneg h]
  have a := Int.emod_nonneg (IntKind.u64.wrap x) (Int.ne_of_gt h0)
  have b := Int.emod_lt_of_pos (IntKind.u64.wrap x) h0
  rw [wrap_small (by omega) (by omega)]
  exact ⟨a, b⟩
end Go.Proofs.YthobbekocimcnaaGreat
end
