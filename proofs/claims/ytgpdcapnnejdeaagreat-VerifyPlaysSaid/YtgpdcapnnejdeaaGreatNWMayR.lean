/-
  Contract: whether a message may be, as the document has it. No condition.
-/
import Derived.Test.YtgpdcapnnejdeaaGreatY9
set_option linter.unusedSimpArgs false
set_option linter.unusedVariables false
namespace Go.Proofs.YtgpdcapnnejdeaaGreat
set_option maxRecDepth 100000
open Go.RowKit

theorem within_not_low {n lo hi : Int} (h : n < lo) : within n lo hi = false := by unfold within; simp; omega
theorem within_not_high {n lo hi : Int} (h : hi < n) : within n lo hi = false := by unfold within; simp; omega
theorem within_yes {n lo hi : Int} (h0 : lo ≤ n) (h1 : n ≤ hi) : within n lo hi = true := by unfold within; simp; omega
theorem and5 {a b c d e f : Bool} (h : a = false ∨ b = false ∨ c = false ∨ d = false ∨ e = false) : (a && b && c && d && e && f) = false := by
 rcases h with rfl | rfl | rfl | rfl | rfl <;> simp
theorem and6 {a b c d e f r : Bool} (ha : a = true) (hb : b = true) (hc : c = true) (hd : d = true) (he : e = true) (hf : f = r) : (a && b && c && d && e && f) = r := by
 subst ha; subst hb; subst hc; subst hd; subst he; simp [hf]
theorem ret_bool {a b : Bool} (h : b = a) : Ending.returned (.bool a) = Ending.returned (.bool b) := by rw [h]
theorem meas_one {m : Mg} (hk : m.kind = 1) {r : Bool} (h : (within m.metric 0 3 && within m.value 0 1099511627776) = r) : measB m = r := by unfold measB; rw [if_pos hk]; exact h
theorem meas_not {m : Mg} (hk : ¬ m.kind = 1) {r : Bool} (h : (decide (m.metric = 0) && decide (m.value = 0)) = r) : measB m = r := by unfold measB; rw [if_neg hk]; exact h
set_option maxHeartbeats 6400000 in
theorem maymsg_any (m : Mg) (w : World) :
  Calls Tryz.prog 66 #[mg m] w fun e w' => e = .returned (.bool (mayOf m)) ∧ w.grownBy w' none := by
 obtain ⟨r, hr⟩ : ∃ r, mayOf m = r := ⟨_, rfl⟩
 rw [hr]
 rw [may_bool] at hr
 have HR := hid hr; clear hr
 have c1 := fun w => in_any m.kind 1 3 w
 obtain ⟨x1, h1⟩ : ∃ x, within m.kind 1 3 = x := ⟨_, rfl⟩
 rw [h1] at c1
 have C1 := hid c1; have E1 := hid h1; clear c1 h1
 have c2 := fun w => in_any m.who 0 15 w
 obtain ⟨x2, h2⟩ : ∃ x, within m.who 0 15 = x := ⟨_, rfl⟩
 rw [h2] at c2
 have C2 := hid c2; have E2 := hid h2; clear c2 h2
 have c3 := fun w => in_any m.gen 0 60000 w
 obtain ⟨x3, h3⟩ : ∃ x, within m.gen 0 60000 = x := ⟨_, rfl⟩
 rw [h3] at c3
 have C3 := hid c3; have E3 := hid h3; clear c3 h3
 have c4 := fun w => in_any m.metric 0 3 w
 obtain ⟨x4, h4⟩ : ∃ x, within m.metric 0 3 = x := ⟨_, rfl⟩
 rw [h4] at c4
 have C4 := hid c4; have E4 := hid h4; clear c4 h4
 cases x1
 ·go_enter Tryz.func66, Tryz.ntmps66
  go_wp2_with (go_at_call 107; (with_reducible first | refine (C1.out _).mono ?_ | refine (C5.out _).mono ?_ | refine (C2.out _).mono ?_ | refine (C3.out _).mono ?_ | refine (C4.out _).mono ?_); rintro e w1 ⟨rfl, rfl⟩)
  go_ret
  exact ⟨ret_bool (HR.out.symm.trans (and5 (.inl E1.out))), gb_alloc (.refl w none) _⟩
 cases x2
 ·go_enter Tryz.func66, Tryz.ntmps66
  go_wp2_with (go_at_call 107; (with_reducible first | refine (C1.out _).mono ?_ | refine (C5.out _).mono ?_ | refine (C2.out _).mono ?_ | refine (C3.out _).mono ?_ | refine (C4.out _).mono ?_); rintro e w1 ⟨rfl, rfl⟩)
  go_ret
  exact ⟨ret_bool (HR.out.symm.trans (and5 (.inr (.inl E2.out)))), gb_alloc (.refl w none) _⟩
 cases x3
 ·go_enter Tryz.func66, Tryz.ntmps66
  go_wp2_with (go_at_call 107; (with_reducible first | refine (C1.out _).mono ?_ | refine (C5.out _).mono ?_ | refine (C2.out _).mono ?_ | refine (C3.out _).mono ?_ | refine (C4.out _).mono ?_); rintro e w1 ⟨rfl, rfl⟩)
  go_ret
  exact ⟨ret_bool (HR.out.symm.trans (and5 (.inr (.inr (.inl E3.out))))), gb_alloc (.refl w none) _⟩
 by_cases l0 : m.seq < 1
 ·have b0 := within_not_low (hi := 1099511627776) l0
  have B0 := hid b0; clear b0
  go_enter Tryz.func66, Tryz.ntmps66
  go_wp2_with (go_at_call 107; (with_reducible first | refine (C1.out _).mono ?_ | refine (C5.out _).mono ?_ | refine (C2.out _).mono ?_ | refine (C3.out _).mono ?_ | refine (C4.out _).mono ?_); rintro e w1 ⟨rfl, rfl⟩)
  go_ret
  exact ⟨ret_bool (HR.out.symm.trans (and5 (.inr (.inr (.inr (.inl (B0.out))))))), gb_alloc (.refl w none) _⟩
 by_cases u0 : 1099511627776 < m.seq
 ·have b0 := within_not_high (lo := 1) u0
  have B0 := hid b0; clear b0
  go_enter Tryz.func66, Tryz.ntmps66
  go_wp2_with (go_at_call 107; (with_reducible first | refine (C1.out _).mono ?_ | refine (C5.out _).mono ?_ | refine (C2.out _).mono ?_ | refine (C3.out _).mono ?_ | refine (C4.out _).mono ?_); rintro e w1 ⟨rfl, rfl⟩)
  go_ret
  exact ⟨ret_bool (HR.out.symm.trans (and5 (.inr (.inr (.inr (.inl (B0.out))))))), gb_alloc (.refl w none) _⟩
 have g0 := within_yes (lo := 1) (hi := 1099511627776) (Int.not_lt.1 l0) (Int.not_lt.1 u0)
 have GB0 := hid g0; clear g0
 by_cases l1 : m.epoch < 0
 ·have b1 := within_not_low (hi := 1099511627776) l1
  have B1 := hid b1; clear b1
  go_enter Tryz.func66, Tryz.ntmps66
  go_wp2_with (go_at_call 107; (with_reducible first | refine (C1.out _).mono ?_ | refine (C5.out _).mono ?_ | refine (C2.out _).mono ?_ | refine (C3.out _).mono ?_ | refine (C4.out _).mono ?_); rintro e w1 ⟨rfl, rfl⟩)
  go_ret
  exact ⟨ret_bool (HR.out.symm.trans (and5 (.inr (.inr (.inr (.inr (B1.out))))))), gb_alloc (.refl w none) _⟩
 by_cases u1 : 1099511627776 < m.epoch
 ·have b1 := within_not_high (lo := 0) u1
  have B1 := hid b1; clear b1
  go_enter Tryz.func66, Tryz.ntmps66
  go_wp2_with (go_at_call 107; (with_reducible first | refine (C1.out _).mono ?_ | refine (C5.out _).mono ?_ | refine (C2.out _).mono ?_ | refine (C3.out _).mono ?_ | refine (C4.out _).mono ?_); rintro e w1 ⟨rfl, rfl⟩)
  go_ret
  exact ⟨ret_bool (HR.out.symm.trans (and5 (.inr (.inr (.inr (.inr (B1.out))))))), gb_alloc (.refl w none) _⟩
 have g1 := within_yes (lo := 0) (hi := 1099511627776) (Int.not_lt.1 l1) (Int.not_lt.1 u1)
 have GB1 := hid g1; clear g1
 by_cases hk : m.kind = 1
 ·have HK := hid hk
  have c5 := C1.out
  rw [hk] at c5
  have C5 := hid c5; clear c5
  cases x4
  ·have HZ := hid (meas_one (r := false) HK.out (by rw [E4.out]; rfl))
   go_enter Tryz.func66, Tryz.ntmps66
   go_wp2_with (go_at_call 107; (with_reducible first | refine (C1.out _).mono ?_ | refine (C5.out _).mono ?_ | refine (C2.out _).mono ?_ | refine (C3.out _).mono ?_ | refine (C4.out _).mono ?_); rintro e w1 ⟨rfl, rfl⟩)
   go_ret
   exact ⟨ret_bool (HR.out.symm.trans (and6 E1.out E2.out E3.out GB0.out GB1.out HZ.out)), gb_alloc (.refl w none) _⟩
  by_cases l2 : m.value < 0
  ·have HZ := hid (meas_one (r := false) HK.out (by rw [within_not_low l2]; simp))
   go_enter Tryz.func66, Tryz.ntmps66
   go_wp2_with (go_at_call 107; (with_reducible first | refine (C1.out _).mono ?_ | refine (C5.out _).mono ?_ | refine (C2.out _).mono ?_ | refine (C3.out _).mono ?_ | refine (C4.out _).mono ?_); rintro e w1 ⟨rfl, rfl⟩)
   go_ret
   exact ⟨ret_bool (HR.out.symm.trans (and6 E1.out E2.out E3.out GB0.out GB1.out HZ.out)), gb_alloc (.refl w none) _⟩
  by_cases u2 : 1099511627776 < m.value
  ·have HZ := hid (meas_one (r := decide (m.value ≤ 1099511627776)) HK.out (by rw [within_not_high u2]; simp; omega))
   go_enter Tryz.func66, Tryz.ntmps66
   go_wp2_with (go_at_call 107; (with_reducible first | refine (C1.out _).mono ?_ | refine (C5.out _).mono ?_ | refine (C2.out _).mono ?_ | refine (C3.out _).mono ?_ | refine (C4.out _).mono ?_); rintro e w1 ⟨rfl, rfl⟩)
   go_ret
   exact ⟨ret_bool (HR.out.symm.trans (and6 E1.out E2.out E3.out GB0.out GB1.out HZ.out)), gb_alloc (.refl w none) _⟩
  have HZ := hid (meas_one (r := true) HK.out (by rw [E4.out, within_yes (Int.not_lt.1 l2) (Int.not_lt.1 u2)]; rfl))
  go_enter Tryz.func66, Tryz.ntmps66
  go_wp2_with (go_at_call 107; (with_reducible first | refine (C1.out _).mono ?_ | refine (C5.out _).mono ?_ | refine (C2.out _).mono ?_ | refine (C3.out _).mono ?_ | refine (C4.out _).mono ?_); rintro e w1 ⟨rfl, rfl⟩)
  go_ret
  exact ⟨ret_bool (HR.out.symm.trans (and6 E1.out E2.out E3.out GB0.out GB1.out HZ.out)), gb_alloc (.refl w none) _⟩
 ·by_cases h1 : m.metric = 0
  ·by_cases h2 : m.value = 0
   ·have HZ := hid (meas_not (r := true) hk (by simp [h1, h2]))
    go_enter Tryz.func66, Tryz.ntmps66
    go_wp2_with (go_at_call 107; (with_reducible first | refine (C1.out _).mono ?_ | refine (C5.out _).mono ?_ | refine (C2.out _).mono ?_ | refine (C3.out _).mono ?_ | refine (C4.out _).mono ?_); rintro e w1 ⟨rfl, rfl⟩)
    go_ret
    exact ⟨ret_bool (HR.out.symm.trans (and6 E1.out E2.out E3.out GB0.out GB1.out HZ.out)), gb_alloc (.refl w none) _⟩
   ·have HZ := hid (meas_not (r := (m.value == 0)) hk (by simp [h1, h2]))
    go_enter Tryz.func66, Tryz.ntmps66
    go_wp2_with (go_at_call 107; (with_reducible first | refine (C1.out _).mono ?_ | refine (C5.out _).mono ?_ | refine (C2.out _).mono ?_ | refine (C3.out _).mono ?_ | refine (C4.out _).mono ?_); rintro e w1 ⟨rfl, rfl⟩)
    go_ret
    exact ⟨ret_bool (HR.out.symm.trans (and6 E1.out E2.out E3.out GB0.out GB1.out HZ.out)), gb_alloc (.refl w none) _⟩
  ·have HZ := hid (meas_not (r := false) hk (by simp [h1]))
   go_enter Tryz.func66, Tryz.ntmps66
   go_wp2_with (go_at_call 107; (with_reducible first | refine (C1.out _).mono ?_ | refine (C5.out _).mono ?_ | refine (C2.out _).mono ?_ | refine (C3.out _).mono ?_ | refine (C4.out _).mono ?_); rintro e w1 ⟨rfl, rfl⟩)
   go_ret
   exact ⟨ret_bool (HR.out.symm.trans (and6 E1.out E2.out E3.out GB0.out GB1.out HZ.out)), gb_alloc (.refl w none) _⟩
end Go.Proofs.YtgpdcapnnejdeaaGreat
