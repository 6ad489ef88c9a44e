/-
  Contracts: whether just the metrics that there are have targets: by the program, and by the document. No condition.
-/
import Derived.Test.YtgpdcapnnejdeaaGreatY2
import Derived.LoopTactic
set_option linter.unusedSimpArgs false
namespace Go.Proofs.YtgpdcapnnejdeaaGreat
set_option maxRecDepth 100000
open Go.RowKit

def tgt (m i t : Int) : Bool := if i < m then cwithin t 1 1099511627776 else t == 0
def tgts (m t0 t1 t2 t3 : Int) : Bool := tgt m 0 t0 && tgt m 1 t1 && tgt m 2 t2 && tgt m 3 t3
def tgtsTo (m t0 t1 t2 t3 : Int) : Nat → Prop
 | 0 => True
 | 1 => tgt m 0 t0 = true
 | 2 => tgt m 0 t0 = true ∧ tgt m 1 t1 = true
 | 3 => tgt m 0 t0 = true ∧ tgt m 1 t1 = true ∧ tgt m 2 t2 = true
 | _ => tgt m 0 t0 = true ∧ tgt m 1 t1 = true ∧ tgt m 2 t2 = true ∧ tgt m 3 t3 = true
theorem tgts_all {m t0 t1 t2 t3 : Int} (h : tgtsTo m t0 t1 t2 t3 4) : tgts m t0 t1 t2 t3 = true := by
 simp only [tgtsTo] at h
 simp [tgts, h]

section
variable (t0 t1 t2 t3 : Int) (w : World)
theorem ix0 : (Instr.index 24 (.agg #[.int .i64 t0, .int .i64 t1, .int .i64 t2, .int .i64 t3]) (.int .i64 0)).run Tryz.prog w = .ok (.int .i64 t0) w := by
 simp [Instr.index, run_underlying Tryz.underlying24, asIntOf, go_sem]
theorem ix1 : (Instr.index 24 (.agg #[.int .i64 t0, .int .i64 t1, .int .i64 t2, .int .i64 t3]) (.int .i64 1)).run Tryz.prog w = .ok (.int .i64 t1) w := by
 simp [Instr.index, run_underlying Tryz.underlying24, asIntOf, go_sem]
theorem ix2 : (Instr.index 24 (.agg #[.int .i64 t0, .int .i64 t1, .int .i64 t2, .int .i64 t3]) (.int .i64 2)).run Tryz.prog w = .ok (.int .i64 t2) w := by
 simp [Instr.index, run_underlying Tryz.underlying24, asIntOf, go_sem]
theorem ix3 : (Instr.index 24 (.agg #[.int .i64 t0, .int .i64 t1, .int .i64 t2, .int .i64 t3]) (.int .i64 3)).run Tryz.prog w = .ok (.int .i64 t3) w := by
 simp [Instr.index, run_underlying Tryz.underlying24, asIntOf, go_sem]
end

set_option maxHeartbeats 3200000 in
theorem targets_any (t0 t1 t2 t3 m : Int) (w : World) :
  Calls Tryz.prog 120 #[.agg #[.int .i64 t0, .int .i64 t1, .int .i64 t2, .int .i64 t3], .int .i64 m] w fun e w' => e = .returned (.bool (tgts m t0 t1 t2 t3)) ∧ w.grownBy w' none := by
 go_enter Tryz.func120, Tryz.ntmps120
 go_wp2_with fail
 go_loopw [8] (fun i wr => ∃ k : Nat, k ≤ 4 ∧ i = .int .i64 (k : Int) ∧ tgtsTo m t0 t1 t2 t3 k ∧ w.grownBy wr none) (fun i _ => 4 - (intOf i).toNat)
 case atStart => exact ⟨0, by omega, rfl, trivial, gb_alloc (.refl w none) _⟩
 case round =>
  obtain ⟨k, hk, rfl, hd, hg⟩ := hrel
  have HD := hid hd; have HG := hid hg; clear hd hg
  have i0 := fun w => ix0 t0 t1 t2 t3 w
  have i1 := fun w => ix1 t0 t1 t2 t3 w
  have i2 := fun w => ix2 t0 t1 t2 t3 w
  have i3 := fun w => ix3 t0 t1 t2 t3 w
  have h5 : k = 0 ∨ k = 1 ∨ k = 2 ∨ k = 3 ∨ k = 4 := by omega
  rcases h5 with rfl | rfl | rfl | rfl | rfl
  ·clear hk
   by_cases h : (0 : Int) < m
   ·have h' : ¬ m ≤ (0 : Int) := by omega
    have hc := fun w => cwithin64_any t0 1 1099511627776 w
    cases hb : cwithin t0 1 1099511627776 with
    | true =>
     rw [hb] at hc
     go_wp2_with fail
     refine (hc _).mono ?_
     rintro e w1 ⟨rfl, rfl⟩
     go_wp2_with fail
     go_roundw
     case rel => exact ⟨1, by omega, rfl, by have h1 : tgt m 0 t0 = true := (by simp [tgt, h, hb]); have h2 := HD.out; simp_all [tgtsTo], HG.out⟩
     case measure => simp [intOf]
    | false =>
     rw [hb] at hc
     go_wp2_with fail
     refine (hc _).mono ?_
     rintro e w1 ⟨rfl, rfl⟩
     go_wp2_with fail
     go_ret
     exact ⟨by have h1 : tgt m 0 t0 = false := (by simp [tgt, h, hb]); simp [tgts, h1], HG.out⟩
   ·have h' : m ≤ (0 : Int) := by omega
    by_cases hz : t0 = 0
    ·subst hz
     go_wp2_with fail
     go_roundw
     case rel => exact ⟨1, by omega, rfl, by have h1 : tgt m 0 0 = true := (by unfold tgt; rw [if_neg (by omega)]; rfl); have h2 := HD.out; simp_all [tgtsTo], HG.out⟩
     case measure => simp [intOf]
    ·have hzb : (t0 != 0) = true := by simp [hz]
     have HZ := hid hz; clear hz
     go_wp2_with fail
     go_ret
     have hz := HZ.out
     exact ⟨by have h1 : tgt m 0 t0 = false := (by unfold tgt; rw [if_neg (by omega)]; simp [hz]); simp [tgts, h1], HG.out⟩
  ·clear hk
   by_cases h : (1 : Int) < m
   ·have h' : ¬ m ≤ (1 : Int) := by omega
    have hc := fun w => cwithin64_any t1 1 1099511627776 w
    cases hb : cwithin t1 1 1099511627776 with
    | true =>
     rw [hb] at hc
     go_wp2_with fail
     refine (hc _).mono ?_
     rintro e w1 ⟨rfl, rfl⟩
     go_wp2_with fail
     go_roundw
     case rel => exact ⟨2, by omega, rfl, by have h1 : tgt m 1 t1 = true := (by simp [tgt, h, hb]); have h2 := HD.out; simp_all [tgtsTo], HG.out⟩
     case measure => simp [intOf]
    | false =>
     rw [hb] at hc
     go_wp2_with fail
     refine (hc _).mono ?_
     rintro e w1 ⟨rfl, rfl⟩
     go_wp2_with fail
     go_ret
     exact ⟨by have h1 : tgt m 1 t1 = false := (by simp [tgt, h, hb]); simp [tgts, h1], HG.out⟩
   ·have h' : m ≤ (1 : Int) := by omega
    by_cases hz : t1 = 0
    ·subst hz
     go_wp2_with fail
     go_roundw
     case rel => exact ⟨2, by omega, rfl, by have h1 : tgt m 1 0 = true := (by unfold tgt; rw [if_neg (by omega)]; rfl); have h2 := HD.out; simp_all [tgtsTo], HG.out⟩
     case measure => simp [intOf]
    ·have hzb : (t1 != 0) = true := by simp [hz]
     have HZ := hid hz; clear hz
     go_wp2_with fail
     go_ret
     have hz := HZ.out
     exact ⟨by have h1 : tgt m 1 t1 = false := (by unfold tgt; rw [if_neg (by omega)]; simp [hz]); simp [tgts, h1], HG.out⟩
  ·clear hk
   by_cases h : (2 : Int) < m
   ·have h' : ¬ m ≤ (2 : Int) := by omega
    have hc := fun w => cwithin64_any t2 1 1099511627776 w
    cases hb : cwithin t2 1 1099511627776 with
    | true =>
     rw [hb] at hc
     go_wp2_with fail
     refine (hc _).mono ?_
     rintro e w1 ⟨rfl, rfl⟩
     go_wp2_with fail
     go_roundw
     case rel => exact ⟨3, by omega, rfl, by have h1 : tgt m 2 t2 = true := (by simp [tgt, h, hb]); have h2 := HD.out; simp_all [tgtsTo], HG.out⟩
     case measure => simp [intOf]
    | false =>
     rw [hb] at hc
     go_wp2_with fail
     refine (hc _).mono ?_
     rintro e w1 ⟨rfl, rfl⟩
     go_wp2_with fail
     go_ret
     exact ⟨by have h1 : tgt m 2 t2 = false := (by simp [tgt, h, hb]); simp [tgts, h1], HG.out⟩
   ·have h' : m ≤ (2 : Int) := by omega
    by_cases hz : t2 = 0
    ·subst hz
     go_wp2_with fail
     go_roundw
     case rel => exact ⟨3, by omega, rfl, by have h1 : tgt m 2 0 = true := (by unfold tgt; rw [if_neg (by omega)]; rfl); have h2 := HD.out; simp_all [tgtsTo], HG.out⟩
     case measure => simp [intOf]
    ·have hzb : (t2 != 0) = true := by simp [hz]
     have HZ := hid hz; clear hz
     go_wp2_with fail
     go_ret
     have hz := HZ.out
     exact ⟨by have h1 : tgt m 2 t2 = false := (by unfold tgt; rw [if_neg (by omega)]; simp [hz]); simp [tgts, h1], HG.out⟩
  ·clear hk
   by_cases h : (3 : Int) < m
   ·have h' : ¬ m ≤ (3 : Int) := by omega
    have hc := fun w => cwithin64_any t3 1 1099511627776 w
    cases hb : cwithin t3 1 1099511627776 with
    | true =>
     rw [hb] at hc
     go_wp2_with fail
     refine (hc _).mono ?_
     rintro e w1 ⟨rfl, rfl⟩
     go_wp2_with fail
     go_roundw
     case rel => exact ⟨4, by omega, rfl, by have h1 : tgt m 3 t3 = true := (by simp [tgt, h, hb]); have h2 := HD.out; simp_all [tgtsTo], HG.out⟩
     case measure => simp [intOf]
    | false =>
     rw [hb] at hc
     go_wp2_with fail
     refine (hc _).mono ?_
     rintro e w1 ⟨rfl, rfl⟩
     go_wp2_with fail
     go_ret
     exact ⟨by have h1 : tgt m 3 t3 = false := (by simp [tgt, h, hb]); simp [tgts, h1], HG.out⟩
   ·have h' : m ≤ (3 : Int) := by omega
    by_cases hz : t3 = 0
    ·subst hz
     go_wp2_with fail
     go_roundw
     case rel => exact ⟨4, by omega, rfl, by have h1 : tgt m 3 0 = true := (by unfold tgt; rw [if_neg (by omega)]; rfl); have h2 := HD.out; simp_all [tgtsTo], HG.out⟩
     case measure => simp [intOf]
    ·have hzb : (t3 != 0) = true := by simp [hz]
     have HZ := hid hz; clear hz
     go_wp2_with fail
     go_ret
     have hz := HZ.out
     exact ⟨by have h1 : tgt m 3 t3 = false := (by unfold tgt; rw [if_neg (by omega)]; simp [hz]); simp [tgts, h1], HG.out⟩
  ·clear hk
   go_wp2_with fail
   go_ret
   exact ⟨by rw [tgts_all HD.out]; rfl, HG.out⟩

set_option maxHeartbeats 3200000 in
theorem reftargets_any (c : Conf) (w : World) :
  Calls Tryz.prog 122 #[cf c] w fun e w' => e = .returned (.bool (tgts c.m c.t0 c.t1 c.t2 c.t3)) ∧ w.grownBy w' none := by
 go_enter Tryz.func122, Tryz.ntmps122
 go_wp2_with fail
 go_loopw [3] (fun i wr => ∃ k : Nat, k ≤ 4 ∧ i = .int .i64 (k : Int) ∧ tgtsTo c.m c.t0 c.t1 c.t2 c.t3 k ∧ BoxC w c wr) (fun i _ => 4 - (intOf i).toNat)
 case atStart => exact ⟨0, by omega, rfl, trivial, boxc_new w c⟩
 case round =>
  obtain ⟨k, hk, rfl, hd, hg⟩ := hrel
  have cm : wr.cell? ⟨w.heap.size, 2, none⟩ = some (.int .i64 c.m) := at_cell hg.box 2
  have c0 : wr.cell? ⟨w.heap.size, 7, none⟩ = some (.int .i64 c.t0) := at_cell hg.box 7
  have c1 : wr.cell? ⟨w.heap.size, 8, none⟩ = some (.int .i64 c.t1) := at_cell hg.box 8
  have c2 : wr.cell? ⟨w.heap.size, 9, none⟩ = some (.int .i64 c.t2) := at_cell hg.box 9
  have c3 : wr.cell? ⟨w.heap.size, 10, none⟩ = some (.int .i64 c.t3) := at_cell hg.box 10
  have HD := hid hd; have HG := hid hg; clear hd hg
  have h5 : k = 0 ∨ k = 1 ∨ k = 2 ∨ k = 3 ∨ k = 4 := by omega
  rcases h5 with rfl | rfl | rfl | rfl | rfl
  ·clear hk
   obtain ⟨t, ht⟩ : ∃ t, t = c.t0 := ⟨_, rfl⟩
   rw [← ht] at c0
   obtain ⟨m, hm⟩ : ∃ m, m = c.m := ⟨_, rfl⟩
   rw [← hm] at cm
   by_cases h : (0 : Int) < m
   ·have h' : ¬ m ≤ (0 : Int) := by omega
    by_cases h1 : t < 1
    ·have hn : tgt m 0 t = false := by unfold tgt cwithin; rw [if_pos h, decide_eq_false (by omega : ¬ 1 ≤ t)]; rfl
     have HN := hid hn; clear hn
     go_wp2_with fail
     go_ret
     have hn := HN.out
     exact ⟨by subst ht hm; simp [tgts, hn], HG.out.g⟩
    ·by_cases h2 : 1099511627776 < t
     ·have hn : tgt m 0 t = false := by unfold tgt cwithin; rw [if_pos h, decide_eq_false (by omega : ¬ t ≤ 1099511627776)]; simp
      have HN := hid hn; clear hn
      go_wp2_with fail
      go_ret
      have hn := HN.out
      exact ⟨by subst ht hm; simp [tgts, hn], HG.out.g⟩
     ·have hn : tgt m 0 t = true := by unfold tgt cwithin; rw [if_pos h, decide_eq_true (by omega : 1 ≤ t), decide_eq_true (by omega : t ≤ 1099511627776)]; rfl
      have HN := hid hn; clear hn
      go_wp2_with fail
      go_roundw
      case rel => exact ⟨1, by omega, rfl, by have h1 := HN.out; have h2 := HD.out; subst ht hm; simp_all [tgtsTo], HG.out⟩
      case measure => simp [intOf]
   ·have h' : m ≤ (0 : Int) := by omega
    by_cases hz : t = 0
    ·have hn : tgt m 0 t = true := by unfold tgt; rw [if_neg h, hz]; rfl
     have hzb : (t != 0) = false := by simp [hz]
     have HN := hid hn; clear hn hz
     go_wp2_with fail
     go_roundw
     case rel => exact ⟨1, by omega, rfl, by have h1 := HN.out; have h2 := HD.out; subst ht hm; simp_all [tgtsTo], HG.out⟩
     case measure => simp [intOf]
    ·have hn : tgt m 0 t = false := by unfold tgt; rw [if_neg h]; simp [hz]
     have hzb : (t != 0) = true := by simp [hz]
     have HN := hid hn; clear hn hz
     go_wp2_with fail
     go_ret
     have hn := HN.out
     exact ⟨by subst ht hm; simp [tgts, hn], HG.out.g⟩
  ·clear hk
   obtain ⟨t, ht⟩ : ∃ t, t = c.t1 := ⟨_, rfl⟩
   rw [← ht] at c1
   obtain ⟨m, hm⟩ : ∃ m, m = c.m := ⟨_, rfl⟩
   rw [← hm] at cm
   by_cases h : (1 : Int) < m
   ·have h' : ¬ m ≤ (1 : Int) := by omega
    by_cases h1 : t < 1
    ·have hn : tgt m 1 t = false := by unfold tgt cwithin; rw [if_pos h, decide_eq_false (by omega : ¬ 1 ≤ t)]; rfl
     have HN := hid hn; clear hn
     go_wp2_with fail
     go_ret
     have hn := HN.out
     exact ⟨by subst ht hm; simp [tgts, hn], HG.out.g⟩
    ·by_cases h2 : 1099511627776 < t
     ·have hn : tgt m 1 t = false := by unfold tgt cwithin; rw [if_pos h, decide_eq_false (by omega : ¬ t ≤ 1099511627776)]; simp
      have HN := hid hn; clear hn
      go_wp2_with fail
      go_ret
      have hn := HN.out
      exact ⟨by subst ht hm; simp [tgts, hn], HG.out.g⟩
     ·have hn : tgt m 1 t = true := by unfold tgt cwithin; rw [if_pos h, decide_eq_true (by omega : 1 ≤ t), decide_eq_true (by omega : t ≤ 1099511627776)]; rfl
      have HN := hid hn; clear hn
      go_wp2_with fail
      go_roundw
      case rel => exact ⟨2, by omega, rfl, by have h1 := HN.out; have h2 := HD.out; subst ht hm; simp_all [tgtsTo], HG.out⟩
      case measure => simp [intOf]
   ·have h' : m ≤ (1 : Int) := by omega
    by_cases hz : t = 0
    ·have hn : tgt m 1 t = true := by unfold tgt; rw [if_neg h, hz]; rfl
     have hzb : (t != 0) = false := by simp [hz]
     have HN := hid hn; clear hn hz
     go_wp2_with fail
     go_roundw
     case rel => exact ⟨2, by omega, rfl, by have h1 := HN.out; have h2 := HD.out; subst ht hm; simp_all [tgtsTo], HG.out⟩
     case measure => simp [intOf]
    ·have hn : tgt m 1 t = false := by unfold tgt; rw [if_neg h]; simp [hz]
     have hzb : (t != 0) = true := by simp [hz]
     have HN := hid hn; clear hn hz
     go_wp2_with fail
     go_ret
     have hn := HN.out
     exact ⟨by subst ht hm; simp [tgts, hn], HG.out.g⟩
  ·clear hk
   obtain ⟨t, ht⟩ : ∃ t, t = c.t2 := ⟨_, rfl⟩
   rw [← ht] at c2
   obtain ⟨m, hm⟩ : ∃ m, m = c.m := ⟨_, rfl⟩
   rw [← hm] at cm
   by_cases h : (2 : Int) < m
   ·have h' : ¬ m ≤ (2 : Int) := by omega
    by_cases h1 : t < 1
    ·have hn : tgt m 2 t = false := by unfold tgt cwithin; rw [if_pos h, decide_eq_false (by omega : ¬ 1 ≤ t)]; rfl
     have HN := hid hn; clear hn
     go_wp2_with fail
     go_ret
     have hn := HN.out
     exact ⟨by subst ht hm; simp [tgts, hn], HG.out.g⟩
    ·by_cases h2 : 1099511627776 < t
     ·have hn : tgt m 2 t = false := by unfold tgt cwithin; rw [if_pos h, decide_eq_false (by omega : ¬ t ≤ 1099511627776)]; simp
      have HN := hid hn; clear hn
      go_wp2_with fail
      go_ret
      have hn := HN.out
      exact ⟨by subst ht hm; simp [tgts, hn], HG.out.g⟩
     ·have hn : tgt m 2 t = true := by unfold tgt cwithin; rw [if_pos h, decide_eq_true (by omega : 1 ≤ t), decide_eq_true (by omega : t ≤ 1099511627776)]; rfl
      have HN := hid hn; clear hn
      go_wp2_with fail
      go_roundw
      case rel => exact ⟨3, by omega, rfl, by have h1 := HN.out; have h2 := HD.out; subst ht hm; simp_all [tgtsTo], HG.out⟩
      case measure => simp [intOf]
   ·have h' : m ≤ (2 : Int) := by omega
    by_cases hz : t = 0
    ·have hn : tgt m 2 t = true := by unfold tgt; rw [if_neg h, hz]; rfl
     have hzb : (t != 0) = false := by simp [hz]
     have HN := hid hn; clear hn hz
     go_wp2_with fail
     go_roundw
     case rel => exact ⟨3, by omega, rfl, by have h1 := HN.out; have h2 := HD.out; subst ht hm; simp_all [tgtsTo], HG.out⟩
     case measure => simp [intOf]
    ·have hn : tgt m 2 t = false := by unfold tgt; rw [if_neg h]; simp [hz]
     have hzb : (t != 0) = true := by simp [hz]
     have HN := hid hn; clear hn hz
     go_wp2_with fail
     go_ret
     have hn := HN.out
     exact ⟨by subst ht hm; simp [tgts, hn], HG.out.g⟩
  ·clear hk
   obtain ⟨t, ht⟩ : ∃ t, t = c.t3 := ⟨_, rfl⟩
   rw [← ht] at c3
   obtain ⟨m, hm⟩ : ∃ m, m = c.m := ⟨_, rfl⟩
   rw [← hm] at cm
   by_cases h : (3 : Int) < m
   ·have h' : ¬ m ≤ (3 : Int) := by omega
    by_cases h1 : t < 1
    ·have hn : tgt m 3 t = false := by unfold tgt cwithin; rw [if_pos h, decide_eq_false (by omega : ¬ 1 ≤ t)]; rfl
     have HN := hid hn; clear hn
     go_wp2_with fail
     go_ret
     have hn := HN.out
     exact ⟨by subst ht hm; simp [tgts, hn], HG.out.g⟩
    ·by_cases h2 : 1099511627776 < t
     ·have hn : tgt m 3 t = false := by unfold tgt cwithin; rw [if_pos h, decide_eq_false (by omega : ¬ t ≤ 1099511627776)]; simp
      have HN := hid hn; clear hn
      go_wp2_with fail
      go_ret
      have hn := HN.out
      exact ⟨by subst ht hm; simp [tgts, hn], HG.out.g⟩
     ·have hn : tgt m 3 t = true := by unfold tgt cwithin; rw [if_pos h, decide_eq_true (by omega : 1 ≤ t), decide_eq_true (by omega : t ≤ 1099511627776)]; rfl
      have HN := hid hn; clear hn
      go_wp2_with fail
      go_roundw
      case rel => exact ⟨4, by omega, rfl, by have h1 := HN.out; have h2 := HD.out; subst ht hm; simp_all [tgtsTo], HG.out⟩
      case measure => simp [intOf]
   ·have h' : m ≤ (3 : Int) := by omega
    by_cases hz : t = 0
    ·have hn : tgt m 3 t = true := by unfold tgt; rw [if_neg h, hz]; rfl
     have hzb : (t != 0) = false := by simp [hz]
     have HN := hid hn; clear hn hz
     go_wp2_with fail
     go_roundw
     case rel => exact ⟨4, by omega, rfl, by have h1 := HN.out; have h2 := HD.out; subst ht hm; simp_all [tgtsTo], HG.out⟩
     case measure => simp [intOf]
    ·have hn : tgt m 3 t = false := by unfold tgt; rw [if_neg h]; simp [hz]
     have hzb : (t != 0) = true := by simp [hz]
     have HN := hid hn; clear hn hz
     go_wp2_with fail
     go_ret
     have hn := HN.out
     exact ⟨by subst ht hm; simp [tgts, hn], HG.out.g⟩
  ·go_wp2_with fail
   go_ret
   exact ⟨by rw [tgts_all HD.out]; rfl, HG.out.g⟩
end Go.Proofs.YtgpdcapnnejdeaaGreat
