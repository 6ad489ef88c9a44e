/-
  Contracts for package replay's Set. The condition of a call: the object lies there.
-/
import Derived.Test.YtecggbndlbkhdaaGreatY7
set_option linter.unusedSimpArgs false
set_option linter.unusedVariables false
namespace Go.Proofs.YtecggbndlbkhdaaGreat
set_option maxRecDepth 100000
open Go.RowKit

theorem lowest_int (x : Int) (h : 0 ≤ x) (w : World) :
    Calls Tryz.prog 323 #[.int .i64 x] w fun e w' => e = .returned (.int .u64 (q (low x.toNat))) ∧ w = w' := by
  obtain ⟨k, rfl⟩ := Int.eq_ofNat_of_zero_le h
  exact lowest_any k w
theorem q_andnot (x y : BitVec 64) : bits .andNot .u64 (q x) (q y) = q (x &&& ~~~y) := by
  show IntKind.u64.wrap ((BitVec.ofInt 64 (q x) &&& ~~~BitVec.ofInt 64 (q y)).toNat : Int) = _
  rw [q_ofInt, q_ofInt]; exact wrap_toNat _
theorem and_one_bit (x : BitVec 64) : (x &&& 1#64 = 0#64) ↔ x.getLsbD 0 = false := by
  have := shr_bit x 0
  simpa using this
theorem pset_range {b : Nat} {r : Rp} (t : Int) (x : BitVec 64) (w : World) (H : RpAt w b r) (h : t < 0 ∨ 1099511627776 < t) :
    Calls Tryz.prog 265 #[.pointer (some ⟨b, 0, none⟩), .int .i64 t, .int .u64 (q x)] w (LeavesP w b (1, r)) := by
  have L := hid (leavesP_same 1 H)
  clear H
  by_cases h1 : t < 0
  · have d1 : decide (t < 0) = true := by simpa using h1
    clear h
    go_enter Tryz.func265, Tryz.ntmps265
    go_wp2_with fail
    go_ret
    exact L.out
  · have d1 : decide (t < 0) = false := by simpa using h1
    have d2 : decide (1099511627776 < t) = true := by simp; omega
    clear h
    go_enter Tryz.func265, Tryz.ntmps265
    go_wp2_with fail
    go_ret
    exact L.out
set_option maxHeartbeats 1600000 in
theorem pset_bits {b : Nat} {r : Rp} (t : Int) (x : BitVec 64) (w : World) (H : RpAt w b r) (h1 : 0 ≤ t) (h2 : t ≤ 1099511627776) (h3 : (x &&& ~~~ low (min t r.win).toNat) ≠ 0#64) :
    Calls Tryz.prog 265 #[.pointer (some ⟨b, 0, none⟩), .int .i64 t, .int .u64 (q x)] w (LeavesP w b (1, r)) := by
  obtain ⟨c0, c1, c2, f1, f2⟩ := H.cells
  have L := hid (leavesP_same 1 H)
  obtain ⟨m, hm, hm0, hm1⟩ : ∃ m : Int, min t (r.win : Int) = m ∧ 0 ≤ m ∧ ((m = t ∧ t ≤ (r.win : Int)) ∨ (m = (r.win : Int) ∧ (r.win : Int) < t)) := ⟨_, rfl, by omega, by omega⟩
  rw [hm] at h3
  clear H
  have d1 : decide (t < 0) = false := by simpa using h1
  have d2 : decide (1099511627776 < t) = false := by simpa using h2
  have s1 := q_andnot x (low m.toNat)
  have s2 : (q (x &&& ~~~ low m.toNat) == 0) = false := by rw [q_zero]; simpa using h3
  have s3 : (q (x &&& ~~~ low m.toNat) != 0) = true := by rw [bne, s2]; rfl
  clear h3
  go_enter Tryz.func265, Tryz.ntmps265
  rcases hm1 with ⟨rfl, hm2⟩ | ⟨rfl, hm2⟩
  all_goals
    go_wp2_with fail
    refine (lowest_int _ hm0 _).mono ?_
    rintro e w1 ⟨rfl, rfl⟩
    generalize low (Int.toNat _) = l at *
    go_wp2_with fail
    go_ret
    exact L.out
set_option maxHeartbeats 1600000 in
theorem pset_low {b : Nat} {r : Rp} (t : Int) (x : BitVec 64) (w : World) (H : RpAt w b r) (h1 : 0 < t) (h2 : t ≤ 1099511627776) (h3 : (x &&& ~~~ low (min t r.win).toNat) = 0#64) (h4 : x.getLsbD 0 = false) :
    Calls Tryz.prog 265 #[.pointer (some ⟨b, 0, none⟩), .int .i64 t, .int .u64 (q x)] w (LeavesP w b (1, r)) := by
  obtain ⟨c0, c1, c2, f1, f2⟩ := H.cells
  have L := hid (leavesP_same 1 H)
  obtain ⟨m, hm, hm0, hm1⟩ : ∃ m : Int, min t (r.win : Int) = m ∧ 0 ≤ m ∧ ((m = t ∧ t ≤ (r.win : Int)) ∨ (m = (r.win : Int) ∧ (r.win : Int) < t)) := ⟨_, rfl, by omega, by omega⟩
  rw [hm] at h3
  clear H
  have d0 : decide (0 < t) = true := by simpa using h1
  have d1 : decide (t < 0) = false := by simp; omega
  have d2 : decide (1099511627776 < t) = false := by simpa using h2
  have s1 := q_andnot x (low m.toNat)
  have s2 : (q (x &&& ~~~ low m.toNat) == 0) = true := by rw [q_zero]; simpa using h3
  have s3 : (q (x &&& ~~~ low m.toNat) != 0) = false := by rw [bne, s2]; rfl
  have s4 := q_and_one x
  have s5 : (q (x &&& 1#64) == 0) = true := by rw [q_zero]; exact decide_eq_true ((and_one_bit x).2 h4)
  clear h3 h4
  generalize x &&& 1#64 = y at *
  go_enter Tryz.func265, Tryz.ntmps265
  rcases hm1 with ⟨rfl, hm2⟩ | ⟨rfl, hm2⟩
  all_goals
    go_wp2_with fail
    refine (lowest_int _ hm0 _).mono ?_
    rintro e w1 ⟨rfl, rfl⟩
    generalize low (Int.toNat _) = l at *
    go_wp2_with fail
    go_ret
    exact L.out
set_option maxHeartbeats 1600000 in
theorem pset_ok {b : Nat} {r : Rp} (t : Int) (x : BitVec 64) (w : World) (H : RpAt w b r) (h1 : 0 ≤ t) (h2 : t ≤ 1099511627776) (h3 : (x &&& ~~~ low (min t r.win).toNat) = 0#64) (h4 : 0 < t → x.getLsbD 0 = true) :
    Calls Tryz.prog 265 #[.pointer (some ⟨b, 0, none⟩), .int .i64 t, .int .u64 (q x)] w (LeavesP w b (0, ⟨r.win, t, x⟩)) := by
  obtain ⟨c0, c1, c2, f1, f2⟩ := H.cells
  have L : Hid (LeavesP w b (0, ⟨r.win, t, x⟩) (.returned (.int .i64 0)) ((w.setCell ⟨b, 1, none⟩ (.int .i64 t)).setCell ⟨b, 2, none⟩ (.int .u64 (q x)))) :=
    hid ⟨rfl, ⟨by have := at_set (at_set H.top 1 (.int .i64 t)) 2 (.int .u64 (q x)); exact this, rp_can H.ok (decide_eq_true ⟨h1, h2, h3, h4⟩)⟩, ((chg_refl w [b]).set (.inl (by simp)) _).set (.inl (by simp)) _⟩
  obtain ⟨m, hm, hm0, hm1⟩ : ∃ m : Int, min t (r.win : Int) = m ∧ 0 ≤ m ∧ ((m = t ∧ t ≤ (r.win : Int)) ∨ (m = (r.win : Int) ∧ (r.win : Int) < t)) := ⟨_, rfl, by omega, by omega⟩
  rw [hm] at h3
  clear H
  have d1 : decide (t < 0) = false := by simp; omega
  have d2 : decide (1099511627776 < t) = false := by simpa using h2
  have s1 := q_andnot x (low m.toNat)
  have s2 : (q (x &&& ~~~ low m.toNat) == 0) = true := by rw [q_zero]; simpa using h3
  have s3 : (q (x &&& ~~~ low m.toNat) != 0) = false := by rw [bne, s2]; rfl
  have s4 := q_and_one x
  have h5 := and_one_bit x
  clear h3
  obtain ⟨d0, d5⟩ : ∃ z, decide (0 < t) = z ∧ ((q (x &&& 1#64) == 0) = false ∨ z = false) := by
    by_cases h : 0 < t
    · exact ⟨true, by simpa using h, .inl (by rw [q_zero, decide_eq_false_iff_not, h5, h4 h]; simp)⟩
    · exact ⟨false, by simpa using h, .inr rfl⟩
  obtain ⟨d6, d5⟩ := d5
  clear h4 h5
  generalize x &&& 1#64 = y at *
  have hy : (q y == 0) = false ∨ ((q y == 0) = true ∧ d0 = false) := by
    by_cases h : (q y == 0) = true
    · rcases d5 with d5 | d5
      · rw [h] at d5; cases d5
      · exact .inr ⟨h, d5⟩
    · exact .inl (by simpa using h)
  clear d5
  rcases hm1 with ⟨rfl, hm2⟩ | ⟨rfl, hm2⟩
  all_goals
    rcases hy with hy | ⟨hy, rfl⟩
  all_goals
    go_enter Tryz.func265, Tryz.ntmps265
    go_wp2_with fail
    refine (lowest_int _ hm0 _).mono ?_
    rintro e w1 ⟨rfl, rfl⟩
    generalize low (Int.toNat _) = l at *
    go_wp2_with fail
    refine (store_i64 _ _ _ _ c1 f1).mono ?_
    rintro e w1 ⟨rfl, rfl⟩
    go_wp2_with fail
    go_ret
    exact L.out
theorem pset_any {b : Nat} {r : Rp} (t : Int) (x : BitVec 64) (w : World) (H : RpAt w b r) :
    Calls Tryz.prog 265 #[.pointer (some ⟨b, 0, none⟩), .int .i64 t, .int .u64 (q x)] w (LeavesP w b (r.set t x)) := by
  unfold Rp.set
  by_cases hc : r.can t x = true
  · rw [if_pos hc]
    obtain ⟨h1, h2, h3, h4⟩ := of_decide_eq_true hc
    exact pset_ok t x w H h1 h2 h3 h4
  · rw [if_neg hc]
    by_cases h1 : 0 ≤ t ∧ t ≤ 1099511627776
    · by_cases h3 : (x &&& ~~~ low (min t r.win).toNat) = 0#64
      · have h4 : ¬ (0 < t → x.getLsbD 0 = true) := fun h4 => hc (decide_eq_true ⟨h1.1, h1.2, h3, h4⟩)
        by_cases h5 : 0 < t
        · exact pset_low t x w H h5 h1.2 h3 (by cases h : x.getLsbD 0 with | false => rfl | true => exact absurd (fun _ => h) h4)
        · exact absurd (fun h => absurd h h5) h4
      · exact pset_bits t x w H h1.1 h1.2 h3
    · exact pset_range t x w H (by omega)
end Go.Proofs.YtecggbndlbkhdaaGreat
