/-
  The walk of the statement ReplayWindow. No condition.
-/
import Derived.Test.YtanlhecjoklhaaaRpTold
import Derived.Test.YtanlhecjoklhaaaUmi
set_option linter.unusedSimpArgs false
set_option linter.unusedVariables false
namespace Go.Proofs.Ytanlhecjoklhaaa
set_option maxRecDepth 100000
open Go.RowKit
theorem tp_new_int {w0 W : World} (x : Int) (h1 : 1 ≤ x) (h2 : x ≤ 64) (hg : w0.grownBy W none) : Calls Try.prog 8 #[.int .i64 x] W fun e w' => ∃ b, e = .returned (.pointer (some ⟨b, 0, none⟩)) ∧ Tp w0 b (.new x.toNat) w' ∧ W.grownBy w' none ∧ W.heap.size ≤ b := by
  obtain ⟨k, rfl⟩ := Int.eq_ofNat_of_zero_le (show 0 ≤ x by omega)
  exact tp_new k (by omega) (by omega) hg
theorem first_take (m t : Int) (h1 : 1 ≤ m) (h2 : m ≤ 64) (t0 : 1 ≤ t) (t1 : t ≤ 1099511627776) : (Rp.new m.toNat).take t = (0, ⟨m.toNat, t, 1#64⟩) := by
  have hm : (Rp.new m.toNat).may t = true := decide_eq_true ⟨t0, t1, .inl (by show (0 : Int) < t; omega)⟩
  unfold Rp.take
  rw [if_pos hm]
  unfold Rp.put
  rw [if_pos (by show (0 : Int) < t; omega)]
  simp [Rp.new]
theorem first_may (m t n : Int) (h1 : 1 ≤ m) (n0 : 1 ≤ n) (n1 : n ≤ 1099511627776) : (Rp.mk m.toNat t 1#64).may n = (decide (t - m < n) && !(n == t)) := by
  unfold Rp.may
  rw [Bool.eq_iff_iff]
  simp only [decide_eq_true_eq, Bool.and_eq_true, Bool.not_eq_true', beq_eq_false_iff_ne, BitVec.getLsbD_one]
  constructor
  · rintro ⟨_, _, h | ⟨h3, h4⟩⟩
    · exact ⟨by omega, by omega⟩
    · simp at h4; exact ⟨by omega, by omega⟩
  · rintro ⟨h3, h4⟩
    refine ⟨n0, n1, ?_⟩
    by_cases h : t < n
    · exact .inl h
    · refine .inr ⟨by omega, ?_⟩
      simp; omega
namespace window
set_option maxHeartbeats 6400000 in
theorem walk (window top tby : Int) {w : World} :
    Calls Try.prog 7 #[.int .i64 window, .int .i64 top, .int .i64 tby] w fun e w' => e = .returned (.bool true) ∧ w.grownBy w' none := by
  obtain ⟨k, k0, k1, ek⟩ := umod_int window 64 (by omega)
  obtain ⟨x, x0, x1, ex⟩ := umod_int top 1000000 (by omega)
  obtain ⟨y, y0, y1, ey⟩ := umod_int tby 140 (by omega)
  replace ek : (IntKind.u64.wrap window).tmod 64 = k := ek
  replace ex : (IntKind.u64.wrap top).tmod 1000000 = x := ex
  replace ey : (IntKind.u64.wrap tby).tmod 140 = y := ey
  replace k1 : k < 64 := k1
  replace x1 : x < 1000000 := x1
  replace y1 : y < 140 := y1
  go_enter Try.func7, Try.ntmps7
  go_wp2_with fail
  clear ek ex ey
  obtain ⟨n, hn⟩ : ∃ n, n = 100 + x - 70 + y := ⟨_, rfl⟩
  rw [← hn]
  obtain ⟨t, ht⟩ : ∃ t, t = 100 + x := ⟨_, rfl⟩
  rw [← ht]
  obtain ⟨m, hm⟩ : ∃ m, m = 1 + k := ⟨_, rfl⟩
  rw [← hm]
  have t0 : 100 ≤ t := by omega
  have t1 : t ≤ 1000100 := by omega
  have n0 : 30 ≤ n := by omega
  have n1 : n ≤ 1000200 := by omega
  have m0 : 1 ≤ m := by omega
  have m1 : m ≤ 64 := by omega
  clear hn ht hm k0 k1 x0 x1 y0 y1
  refine (tp_new_int (w0 := w) m m0 m1 (.refl w none)).mono ?_
  rintro e w1 ⟨b, rfl, T, _, _⟩
  have T0 := hid T; clear T
  go_wp2_with fail
  refine (T0.out.take t _ _ (first_take m t m0 m1 (by omega) (by omega))).mono ?_
  rintro e w2 ⟨rfl, T⟩
  have T1 := hid T; clear T T0
  have hmay := first_may m t n m0 (by omega) (by omega)
  by_cases a : t - m < n
  · by_cases c : n = t
    · subst c
      have s1 : IntKind.i64.wrap (n - m) = n - m := IntWalk.i64_in _ (by omega)
      have d1 : decide (n - m < n) = true := by simpa using a
      have hz : (Rp.mk m.toNat n 1#64).may n = false := by rw [hmay]; simp
      have ht : (Rp.mk m.toNat n 1#64).take n = (6, Rp.mk m.toNat n 1#64) := by unfold Rp.take; rw [hz]; rfl
      have HZ := hid hz; have HT := hid ht
      clear hz ht hmay
      go_wp2_with fail
      refine (rtold_any _).mono ?_
      rintro e w3 ⟨rfl, hg⟩
      have T2 := hid (T1.out.grown hg); clear hg T1
      go_wp2_with fail
      refine (T2.out.may n _ HZ.out).mono ?_
      rintro e w4 ⟨rfl, T⟩
      have T3 := hid T; clear T T2
      go_wp2_with fail
      refine (T3.out.take n _ _ HT.out).mono ?_
      rintro e w5 ⟨rfl, T⟩
      have T4 := hid T; clear T T3
      go_wp2_with fail
      refine (T4.out.topIs (x := n) rfl).mono ?_
      rintro e w6 ⟨rfl, T⟩
      have T5 := hid T; clear T T4
      go_wp2_with fail
      go_ret
      exact ⟨rfl, T5.out.gr⟩
    · have d2 : (n == t) = false := by simpa using c
      have d5 : (n != t) = true := by simpa using c
      have d1 : decide (t - m < n) = true := by simpa using a
      by_cases g : t < n
      · have s1 : IntKind.i64.wrap (t - m) = t - m := IntWalk.i64_in _ (by omega)
        have d3 : decide (n ≤ t) = false := by simp; omega
        have hz : (Rp.mk m.toNat t 1#64).may n = true := by rw [hmay]; simp; omega
        have ht : (Rp.mk m.toNat t 1#64).take n = (0, (Rp.mk m.toNat t 1#64).put n) := by unfold Rp.take; rw [hz]; rfl
        have hp : ((Rp.mk m.toNat t 1#64).put n).top = n := by unfold Rp.put; rw [if_pos (show t < n from g)]
        have HZ := hid hz; have HT := hid ht; have HP := hid hp
        clear hz ht hp hmay
        go_wp2_with fail
        refine (rtold_any _).mono ?_
        rintro e w3 ⟨rfl, hg⟩
        have T2 := hid (T1.out.grown hg); clear hg T1
        go_wp2_with fail
        refine (T2.out.may n _ HZ.out).mono ?_
        rintro e w4 ⟨rfl, T⟩
        have T3 := hid T; clear T T2
        go_wp2_with fail
        refine (T3.out.take n _ _ HT.out).mono ?_
        rintro e w5 ⟨rfl, T⟩
        have T4 := hid T; clear T T3
        go_wp2_with fail
        refine (T4.out.topIs HP.out).mono ?_
        rintro e w6 ⟨rfl, T⟩
        have T5 := hid T; clear T T4
        go_wp2_with fail
        go_ret
        exact ⟨rfl, T5.out.gr⟩
      · have s1 : IntKind.i64.wrap (t - m) = t - m := IntWalk.i64_in _ (by omega)
        have d3 : decide (t ≤ n) = false := by simp; omega
        have d4 : n < t := by omega
        have hz : (Rp.mk m.toNat t 1#64).may n = true := by rw [hmay]; simp; omega
        have ht : (Rp.mk m.toNat t 1#64).take n = (0, (Rp.mk m.toNat t 1#64).put n) := by unfold Rp.take; rw [hz]; rfl
        have hp : ((Rp.mk m.toNat t 1#64).put n).top = t := by unfold Rp.put; rw [if_neg (show ¬ t < n from g)]
        have HZ := hid hz; have HT := hid ht; have HP := hid hp
        clear hz ht hp hmay
        go_wp2_with fail
        refine (rtold_any _).mono ?_
        rintro e w3 ⟨rfl, hg⟩
        have T2 := hid (T1.out.grown hg); clear hg T1
        go_wp2_with fail
        refine (T2.out.may n _ HZ.out).mono ?_
        rintro e w4 ⟨rfl, T⟩
        have T3 := hid T; clear T T2
        go_wp2_with fail
        refine (T3.out.take n _ _ HT.out).mono ?_
        rintro e w5 ⟨rfl, T⟩
        have T4 := hid T; clear T T3
        go_wp2_with fail
        refine (T4.out.topIs HP.out).mono ?_
        rintro e w6 ⟨rfl, T⟩
        have T5 := hid T; clear T T4
        go_wp2_with fail
        go_ret
        exact ⟨rfl, T5.out.gr⟩
  · have d1 : decide (t - m < n) = false := by simpa using a
    have s1 : IntKind.i64.wrap (t - m) = t - m := IntWalk.i64_in _ (by omega)
    have d4 : n ≤ t - m := by omega
    have hz : (Rp.mk m.toNat t 1#64).may n = false := by rw [hmay]; simp; omega
    have ht : (Rp.mk m.toNat t 1#64).take n = (6, Rp.mk m.toNat t 1#64) := by unfold Rp.take; rw [hz]; rfl
    have HZ := hid hz; have HT := hid ht
    clear hz ht hmay
    go_wp2_with fail
    refine (rtold_any _).mono ?_
    rintro e w3 ⟨rfl, hg⟩
    have T2 := hid (T1.out.grown hg); clear hg T1
    go_wp2_with fail
    refine (T2.out.may n _ HZ.out).mono ?_
    rintro e w4 ⟨rfl, T⟩
    have T3 := hid T; clear T T2
    go_wp2_with fail
    refine (T3.out.take n _ _ HT.out).mono ?_
    rintro e w5 ⟨rfl, T⟩
    have T4 := hid T; clear T T3
    go_wp2_with fail
    refine (T4.out.topIs (x := t) rfl).mono ?_
    rintro e w6 ⟨rfl, T⟩
    have T5 := hid T; clear T T4
    go_wp2_with fail
    go_ret
    exact ⟨rfl, T5.out.gr⟩
end window
end Go.Proofs.Ytanlhecjoklhaaa
