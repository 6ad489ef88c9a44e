/-
  Contracts for package replay's Take and Set. The condition of a call: the object lies there.
-/
import Derived.Test.YtanlhecjoklhaaaRpA
import Derived.StillTailTactics
set_option linter.unusedSimpArgs false
set_option linter.unusedVariables false
namespace Go.Proofs.Ytanlhecjoklhaaa
set_option maxRecDepth 100000
open Go.RowKit

theorem still_of {f : FuncId} {args : Array Value} {w : World} {v : Value} (h : Calls Try.prog f args w fun e w' => e = .returned v ∧ w = w') : Calls Try.prog f args w fun e w' => e = .returned v ∧ w' = w := h.mono fun _ _ ⟨h1, h2⟩ => ⟨h1, h2.symm⟩
/-- what Take and Set leave -/
def LeavesP (w : World) (b : Nat) (k : Int × Rp) (e : Ending) (w' : World) : Prop := e = .returned (.int .i64 k.1) ∧ RpAt w' b k.2 ∧ Chg [b] w w'
theorem leavesP_same {w : World} {b : Nat} {r : Rp} (c : Int) (H : RpAt w b r) : LeavesP w b (c, r) (.returned (.int .i64 c)) w := ⟨rfl, H, chg_refl w _⟩

theorem wrap_pow (k : Nat) : IntKind.u64.wrap (2 ^ k) = q (1#64 <<< k) := by
  have := q_shl 1#64 k
  rw [show q 1#64 = 1 from rfl, Int.one_mul] at this
  exact this
theorem ptake_nil (n : Int) (w : World) :
    Calls Try.prog 13 #[.pointer none, .int .i64 n] w fun e w' => e = .returned (.int .i64 1) ∧ w = w' := by
  go_enter Try.func13, Try.ntmps13
  go_wp2_with fail
  go_ret
  exact ⟨rfl, rfl⟩
theorem ptake_no {b : Nat} {r : Rp} (n : Int) (w : World) (H : RpAt w b r) (hm : r.may n = false) :
    Calls Try.prog 13 #[.pointer (some ⟨b, 0, none⟩), .int .i64 n] w (LeavesP w b (6, r)) := by
  have L := hid (leavesP_same 6 H)
  have H1 := pmay_any n w H
  rw [hm] at H1
  have H2 := hid H1
  clear H H1 hm
  go_enter Try.func13, Try.ntmps13
  go_wp2_with fail
  refine H2.out.mono ?_
  rintro e w1 ⟨rfl, rfl⟩
  go_wp2_with fail
  go_ret
  exact L.out
set_option maxHeartbeats 1600000 in
theorem ptake_below {b : Nat} {r : Rp} (n : Int) (w : World) (H : RpAt w b r) (hm : r.may n = true) (hl : ¬ r.top < n) :
    Calls Try.prog 13 #[.pointer (some ⟨b, 0, none⟩), .int .i64 n] w (LeavesP w b (0, r.put n)) := by
  obtain ⟨c0, c1, c2, f1, f2⟩ := H.cells
  have k0 := H.ok.t0; have k1 := H.ok.t1; have w2 := H.ok.w2
  have hmm := of_decide_eq_true hm
  have L : Hid (LeavesP w b (0, r.put n) (.returned (.int .i64 0)) (w.setCell ⟨b, 2, none⟩ (.int .u64 (q (r.bits ||| 1#64 <<< (r.top - n).toNat)))).drew) := by
    have ok := H.ok.put hm
    have e : r.put n = ⟨r.win, r.top, r.bits ||| 1#64 <<< (r.top - n).toNat⟩ := by unfold Rp.put; rw [if_neg hl]
    rw [e] at ok ⊢
    exact hid ⟨rfl, ⟨by have := at_set H.top 2 (.int .u64 (q (r.bits ||| 1#64 <<< (r.top - n).toNat))); exact this, ok⟩, ((chg_refl w [b]).set (.inl (by simp)) _).drew⟩
  have H1 := pmay_any n w H
  rw [hm] at H1
  have H2 := hid H1
  clear H H1 hm
  generalize r.put n = r' at L ⊢
  generalize r.top = t at *
  generalize r.bits = x at *
  have d1 : decide (t < n) = false := by simp; omega
  have d2 : 0 ≤ t - n := by omega
  have d3 : t - n ≤ 64 := by omega
  have s1 := wrap_pow (t - n).toNat
  have s2 : IntKind.i64.wrap (t - n) = t - n := IntWalk.i64_in _ (by omega)
  clear hmm hl
  go_enter Try.func13, Try.ntmps13
  go_wp2_with fail
  refine H2.out.mono ?_
  rintro e w1 ⟨rfl, rfl⟩
  go_wp2_with fail
  refine (load_i64 _ t _ c1).mono ?_
  rintro e w1 ⟨rfl, rfl⟩
  go_wp2_with fail
  refine wp_region_still_tail 14 (by kernel_rfl) (by kernel_rfl) ?_
  simp only [List.take_succ_cons, List.take_zero, List.drop_succ_cons, List.drop_zero]
  change wpStill _ _ w.drew _ _ _
  repeat still_step
  still_call (still_of (load_i64 _ t _ c1))
  repeat still_step
  refine wpStill_nil ?_
  change wpList _ _ _ _ _ w.drew
  go_wp2_with fail
  go_ret
  exact L.out
theorem q_or_one (x : BitVec 64) : bits .or .u64 (q x) 1 = q (x ||| 1#64) := q_or x 1#64
set_option maxHeartbeats 1600000 in
theorem ptake_above {b : Nat} {r : Rp} (n : Int) (w : World) (H : RpAt w b r) (hm : r.may n = true) (hl : r.top < n) :
    Calls Try.prog 13 #[.pointer (some ⟨b, 0, none⟩), .int .i64 n] w (LeavesP w b (0, r.put n)) := by
  obtain ⟨c0, c1, c2, f1, f2⟩ := H.cells
  have k0 := H.ok.t0; have k1 := H.ok.t1; have w2 := H.ok.w2
  have hmm := of_decide_eq_true hm
  have k2 := hmm.1; have k3 := hmm.2.1
  have L : Hid (∀ y z : BitVec 64, z = ((r.bits <<< (n - r.top).toNat &&& low r.win) ||| 1#64) → LeavesP w b (0, r.put n) (.returned (.int .i64 0)) ((((w.setCell ⟨b, 1, none⟩ (.int .i64 n)).setCell ⟨b, 2, none⟩ (.int .u64 (q y))).setCell ⟨b, 2, none⟩ (.int .u64 (q z))).drew.drew)) := by
    have ok := H.ok.put hm
    have e : r.put n = ⟨r.win, n, (r.bits <<< (n - r.top).toNat &&& low r.win) ||| 1#64⟩ := by unfold Rp.put; rw [if_pos hl]
    rw [e] at ok ⊢
    intro y z hz
    subst hz
    exact ⟨rfl, ⟨by have := at_set (at_set (at_set H.top 1 (.int .i64 n)) 2 (.int .u64 (q y))) 2 (.int .u64 (q ((r.bits <<< (n - r.top).toNat &&& low r.win) ||| 1#64))); exact this, ok⟩, (((((chg_refl w [b]).set (.inl (by simp)) _).set (.inl (by simp)) _).set (.inl (by simp)) _).drew).drew⟩
  have H1 := pmay_any n w H
  rw [hm] at H1
  have H2 := hid H1
  clear H H1 hm
  have s1 := shl_any r.bits .i64 (n - r.top) (by omega)
  generalize r.put n = r' at L ⊢
  generalize r.top = t at *
  generalize r.bits = x at *
  generalize r.win = m at *
  have d1 : decide (t < n) = true := by simp; omega
  have s2 : IntKind.i64.wrap 0 = 0 := rfl
  have s3 : IntKind.i64.wrap (n - t) = n - t := IntWalk.i64_in _ (by omega)
  have s5 : IntKind.i64.wrap (t + (n - t)) = n := by rw [show t + (n - t) = n by omega]; exact IntWalk.i64_in _ (by omega)
  clear hmm
  go_enter Try.func13, Try.ntmps13
  go_wp2_with fail
  refine H2.out.mono ?_
  rintro e w1 ⟨rfl, rfl⟩
  go_wp2_with fail
  refine (load_i64 _ t _ c1).mono ?_
  rintro e w1 ⟨rfl, rfl⟩
  go_wp2_with fail
  refine (addn_i64 _ t _ n _ c1 f1 s5).mono ?_
  rintro e w1 ⟨rfl, rfl⟩
  go_wp2_with fail
  refine wp_region_still_tail 15 (by kernel_rfl) (by kernel_rfl) ?_
  simp only [List.take_succ_cons, List.take_zero, List.drop_succ_cons, List.drop_zero]
  change wpStill _ _ (w.setCell ⟨b, 1, none⟩ (.int .i64 n)).drew _ _ _
  repeat still_step
  still_call (still_of (lowest_any m _))
  repeat still_step
  refine wpStill_nil ?_
  change wpList _ _ _ _ _ (w.setCell ⟨b, 1, none⟩ (.int .i64 n)).drew
  go_wp2_with fail
  generalize (x <<< (n - t).toNat &&& low m) = y at *
  have s7 := q_or_one y
  have c1' : (((w.setCell ⟨b, 1, none⟩ (.int .i64 n)).setCell ⟨b, 2, none⟩ (.int .u64 (q y))).drew.drew).cell? ⟨b, 1, none⟩ = some (.int .i64 n) := by go_simp
  refine wp_region_still_tail 14 (by kernel_rfl) (by kernel_rfl) ?_
  simp only [List.take_succ_cons, List.take_zero, List.drop_succ_cons, List.drop_zero]
  change wpStill _ _ ((w.setCell ⟨b, 1, none⟩ (.int .i64 n)).setCell ⟨b, 2, none⟩ (.int .u64 (q y))).drew.drew _ _ _
  repeat still_step
  still_call (still_of (load_i64 _ n _ c1'))
  repeat still_step
  refine wpStill_nil ?_
  change wpList _ _ _ _ _ ((w.setCell ⟨b, 1, none⟩ (.int .i64 n)).setCell ⟨b, 2, none⟩ (.int .u64 (q y))).drew.drew
  go_wp2_with fail
  go_ret
  have hL := L.out y _ rfl
  rw [← s7] at hL
  exact hL
theorem ptake_any {b : Nat} {r : Rp} (n : Int) (w : World) (H : RpAt w b r) :
    Calls Try.prog 13 #[.pointer (some ⟨b, 0, none⟩), .int .i64 n] w (LeavesP w b (r.take n)) := by
  unfold Rp.take
  by_cases hm : r.may n = true
  · rw [if_pos hm]
    by_cases hl : r.top < n
    · exact ptake_above n w H hm hl
    · exact ptake_below n w H hm hl
  · rw [if_neg hm]
    exact ptake_no n w H (by simpa using hm)
end Go.Proofs.Ytanlhecjoklhaaa
