/-
  Of a world keep just what is said: small lemmas for the walks. No condition. Nothing of the program is named here. And 5 texts more that this one stands on. No condition.
-/
import Derived.WalkKit
import Derived.Test.YtgpdcapnnejdeaaGreatRows
import Derived.Test.YtgpdcapnnejdeaaGreatY20
import Derived.WalkSpells
import Derived.WalkLawsBesides
import Derived.BigQuiet
import Derived.Deep.RegionHeld3
import Derived.StillTailTactics
import Derived.Test.YtgpdcapnnejdeaaGreatNCfWrong
import Derived.Test.YtgpdcapnnejdeaaGreatY2
import Derived.Test.YtgpdcapnnejdeaaGreatNCfRef
section
namespace Go.Proofs.YtgpdcapnnejdeaaGreat
set_option maxRecDepth 100000
open Go.RowKit
theorem wp_gen {C : Program} {c : Code} {Q : Exit → Act → World → Prop} {a : Act} {w : World} (P : World → Prop) (h : P w) (k : ∀ wx, P wx → Code.wp C c Q a wx) : Code.wp C c Q a w := k w h
end Go.Proofs.YtgpdcapnnejdeaaGreat
end
section
set_option linter.unusedSimpArgs false
set_option linter.unusedVariables false
namespace Go.Proofs.YtgpdcapnnejdeaaGreat
set_option maxRecDepth 100000
open Go.RowKit

theorem shl_any (x : BitVec 64) (yk : IntKind) (y : Int) (h : 0 ≤ y) : Op.shift .shl .u64 (q x) yk y = pure (.int .u64 (q (x <<< y.toNat))) := by
 have hm : min y.toNat 64 = if y.toNat ≤ 64 then y.toNat else 64 := by split <;> omega
 have h0 : ¬ y < 0 := by omega
 simp only [Op.shift, h0, if_false, IntKind.bits, hm]
 split
 ·rw [q_shl]
 ·next hg =>
  rw [q_shl]
  have e1 : x <<< 64 = 0#64 := BitVec.shiftLeft_eq_zero (Nat.le_refl _)
  have e2 : x <<< y.toNat = 0#64 := BitVec.shiftLeft_eq_zero (by omega)
  rw [e1, e2]
theorem shl_one (yk : IntKind) (y : Int) (h : 0 ≤ y) : Op.shift .shl .u64 1 yk y = pure (.int .u64 (q (1#64 <<< y.toNat))) := shl_any 1#64 yk y h
theorem q_sub_one (x : BitVec 64) : IntKind.u64.wrap (q x - 1) = q (x - 1#64) := by
 rw [IntKind.wrap_u64]; unfold q
 rw [BitVec.toNat_sub]
 have := x.isLt
 simp only [BitVec.toNat_ofNat]
 omega

theorem lowest_any (n : Nat) (w : World) :
  Calls Tryz.prog 104 #[.int .i64 (n : Int)] w fun e w' => e = .returned (.int .u64 (q (low n))) ∧ w = w' := by
 have h1 := shl_one .i64 (n : Int) (by omega)
 have h2 := q_sub_one (1#64 <<< (n : Int).toNat)
 unfold low
 rw [Int.toNat_natCast] at *
 generalize (1#64 <<< n) = z at *
 go_enter Tryz.func104, Tryz.ntmps104
 go_wp2
 go_ret
 exact ⟨rfl, rfl⟩

structure RpAt (w : World) (b : Nat) (r : Rp) : Prop where
 top : w.heap[b]? = some (.cells #[.int .i64 (r.win : Int), .int .i64 r.top, .int .u64 (q r.bits)] 143)
 ok : r.Ok
section
variable {w w' : World} {F : List Nat} {b : Nat} {r : Rp}
theorem RpAt.chg (H : RpAt w b r) (hc : Chg F w w') (hb : b ∉ F) : RpAt w' b r := ⟨hc.at H.top hb, H.ok⟩
theorem RpAt.grown (H : RpAt w b r) (hg : w.grownBy w' none) : RpAt w' b r := H.chg (chg_grown hg []) (by simp)
theorem RpAt.drew (H : RpAt w b r) : RpAt w.drew b r := ⟨H.top, H.ok⟩
theorem RpAt.lt (H : RpAt w b r) : b < w.heap.size := at_lt H.top
theorem RpAt.cells (H : RpAt w b r) : w.cell? ⟨b, 0, none⟩ = some (.int .i64 (r.win : Int)) ∧ w.cell? ⟨b, 1, none⟩ = some (.int .i64 r.top) ∧ w.cell? ⟨b, 2, none⟩ = some (.int .u64 (q r.bits)) ∧ w.frozen? ⟨b, 1, none⟩ = false ∧ w.frozen? ⟨b, 2, none⟩ = false :=
 ⟨at_cell H.top 0, at_cell H.top 1, at_cell H.top 2, at_free H.top 1, at_free H.top 2⟩
end
def MadeP (w : World) (r : Rp) (e : Ending) (w' : World) : Prop := ∃ b, e = .returned (.pointer (some ⟨b, 0, none⟩)) ∧ RpAt w' b r ∧ w.grownBy w' none ∧ w.heap.size ≤ b
set_option maxHeartbeats 1600000 in
theorem pnew_ok (n : Nat) (h1 : 1 ≤ n) (h2 : n ≤ 64) (w : World) :
  Calls Tryz.prog 42 #[.int .i64 (n : Int)] w (MadeP w (.new n)) := by
 have L : Hid (RpAt (w.alloc (.cells #[.int .i64 (n : Int), .int .i64 0, .int .u64 0] 143)) w.heap.size (.new n)) := hid ⟨at_new w _, rp_new_ok h1 h2⟩
 have d1 : decide ((n : Int) < 1) = false := by simp; omega
 have d2 : decide ((64 : Int) < (n : Int)) = false := by simp; omega
 go_enter Tryz.func42, Tryz.ntmps42
 go_wp2_with fail
 go_ret
 exact ⟨_, rfl, L.out, gb_alloc (.refl w none) _, Nat.le_refl _⟩

theorem pmay_out {b : Nat} {r : Rp} (n : Int) (w : World) (H : RpAt w b r) (h : n < 1 ∨ 1099511627776 < n) :
  Calls Tryz.prog 57 #[.pointer (some ⟨b, 0, none⟩), .int .i64 n] w fun e w' => e = .returned (.bool false) ∧ w = w' := by
 clear H
 by_cases h1 : n < 1
 ·have d1 : decide (n < 1) = true := by simpa using h1
  clear h
  go_enter Tryz.func57, Tryz.ntmps57
  go_wp2_with fail
  go_ret
  exact ⟨rfl, rfl⟩
 ·have d1 : decide (n < 1) = false := by simpa using h1
  have d2 : decide (1099511627776 < n) = true := by simp; omega
  clear h
  go_enter Tryz.func57, Tryz.ntmps57
  go_wp2_with fail
  go_ret
  exact ⟨rfl, rfl⟩
theorem pmay_above {b : Nat} {r : Rp} (n : Int) (w : World) (H : RpAt w b r) (h1 : 1 ≤ n) (h2 : n ≤ 1099511627776) (h3 : r.top < n) :
  Calls Tryz.prog 57 #[.pointer (some ⟨b, 0, none⟩), .int .i64 n] w fun e w' => e = .returned (.bool true) ∧ w = w' := by
 obtain ⟨c0, c1, c2, f1, f2⟩ := H.cells
 have t0 := H.ok.t0; have t1 := H.ok.t1
 clear H
 generalize r.top = t at *
 have d1 : decide (n < 1) = false := by simp; omega
 have d2 : decide (1099511627776 < n) = false := by simp; omega
 have d3 : decide (t - n < 0) = true := by simp; omega
 go_enter Tryz.func57, Tryz.ntmps57
 go_wp2_with fail
 refine (load_i64 _ t _ c1).mono ?_
 rintro e w1 ⟨rfl, rfl⟩
 go_wp2_with fail
 go_ret
 exact ⟨rfl, rfl⟩
theorem pmay_old {b : Nat} {r : Rp} (n : Int) (w : World) (H : RpAt w b r) (h1 : 1 ≤ n) (h2 : n ≤ 1099511627776) (h3 : n ≤ r.top) (h4 : (r.win : Int) ≤ r.top - n) :
  Calls Tryz.prog 57 #[.pointer (some ⟨b, 0, none⟩), .int .i64 n] w fun e w' => e = .returned (.bool false) ∧ w = w' := by
 obtain ⟨c0, c1, c2, f1, f2⟩ := H.cells
 have t0 := H.ok.t0; have t1 := H.ok.t1
 clear H
 generalize r.top = t at *
 have d1 : decide (n < 1) = false := by simp; omega
 have d2 : decide (1099511627776 < n) = false := by simp; omega
 have d3 : decide (t - n < 0) = false := by simp; omega
 have d4 : decide (t - n < (r.win : Int)) = false := by simp; omega
 go_enter Tryz.func57, Tryz.ntmps57
 go_wp2_with fail
 refine (load_i64 _ t _ c1).mono ?_
 rintro e w1 ⟨rfl, rfl⟩
 go_wp2_with fail
 go_ret
 exact ⟨rfl, rfl⟩
theorem q_and_one (x : BitVec 64) : bits .and .u64 (q x) 1 = q (x &&& 1#64) := q_and x 1#64
theorem q_zero (x : BitVec 64) : (q x == 0) = decide (x = 0#64) := by
 rw [show (0 : Int) = q 0#64 from rfl, q_beq, Bool.eq_iff_iff]; simp
theorem pmay_in {b : Nat} {r : Rp} (n : Int) (w : World) (H : RpAt w b r) (h1 : 1 ≤ n) (h2 : n ≤ 1099511627776) (h3 : n ≤ r.top) (h4 : r.top - n < (r.win : Int)) :
  Calls Tryz.prog 57 #[.pointer (some ⟨b, 0, none⟩), .int .i64 n] w fun e w' => e = .returned (.bool (!r.bits.getLsbD (r.top - n).toNat)) ∧ w = w' := by
 obtain ⟨c0, c1, c2, f1, f2⟩ := H.cells
 have t0 := H.ok.t0; have t1 := H.ok.t1; have w2 := H.ok.w2
 clear H
 generalize r.top = t at *
 have d1 : decide (n < 1) = false := by simp; omega
 have d2 : decide (1099511627776 < n) = false := by simp; omega
 have d3 : decide (t - n < 0) = false := by simp; omega
 have d4 : decide (t - n < (r.win : Int)) = true := by simp; omega
 have g1 := q_and_one (r.bits >>> (t - n).toNat)
 have g2 : (q ((r.bits >>> (t - n).toNat) &&& 1#64) == 0) = !r.bits.getLsbD (t - n).toNat := by
  rw [q_zero, Bool.eq_iff_iff, decide_eq_true_eq, shr_bit]; simp
 generalize r.bits.getLsbD (t - n).toNat = z at *
 have z0 : 0 ≤ t - n := by omega
 have z1 : t - n ≤ 64 := by omega
 go_enter Tryz.func57, Tryz.ntmps57
 go_wp2_with fail
 refine (load_i64 _ t _ c1).mono ?_
 rintro e w1 ⟨rfl, rfl⟩
 go_wp2_with fail
 go_ret
 exact ⟨rfl, rfl⟩
theorem pmay_any {b : Nat} {r : Rp} (n : Int) (w : World) (H : RpAt w b r) :
  Calls Tryz.prog 57 #[.pointer (some ⟨b, 0, none⟩), .int .i64 n] w fun e w' => e = .returned (.bool (r.may n)) ∧ w = w' := by
 by_cases h1 : 1 ≤ n ∧ n ≤ 1099511627776
 ·by_cases h2 : r.top < n
  ·have e : r.may n = true := decide_eq_true ⟨h1.1, h1.2, .inl h2⟩
   rw [e]; exact pmay_above n w H h1.1 h1.2 h2
  ·by_cases h3 : r.top - n < r.win
   ·have e : r.may n = !r.bits.getLsbD (r.top - n).toNat := by
     unfold Rp.may
     rw [Bool.eq_iff_iff, decide_eq_true_eq]
     simp [h1.1, h1.2, h2, h3]
    rw [e]; exact pmay_in n w H h1.1 h1.2 (by omega) h3
   ·have e : r.may n = false := decide_eq_false (by omega)
    rw [e]; exact pmay_old n w H h1.1 h1.2 (by omega) (by omega)
 ·have e : r.may n = false := decide_eq_false (by omega)
  rw [e]; exact pmay_out n w H (by omega)
theorem ptop_any {b : Nat} {r : Rp} (w : World) (H : RpAt w b r) :
  Calls Tryz.prog 27 #[.pointer (some ⟨b, 0, none⟩)] w fun e w' => e = .returned (.int .i64 r.top) ∧ w = w' := by
 obtain ⟨c0, c1, c2, f1, f2⟩ := H.cells
 clear H
 go_enter Tryz.func27, Tryz.ntmps27
 go_wp2_with fail
 refine (load_i64 _ r.top _ c1).mono ?_
 rintro e w1 ⟨rfl, rfl⟩
 go_wp2_with fail
 go_ret
 exact ⟨rfl, rfl⟩
theorem pbits_any {b : Nat} {r : Rp} (w : World) (H : RpAt w b r) :
  Calls Tryz.prog 28 #[.pointer (some ⟨b, 0, none⟩)] w fun e w' => e = .returned (.int .u64 (q r.bits)) ∧ w = w' := by
 obtain ⟨c0, c1, c2, f1, f2⟩ := H.cells
 clear H
 go_enter Tryz.func28, Tryz.ntmps28
 go_wp2_with fail
 go_ret
 exact ⟨rfl, rfl⟩
end Go.Proofs.YtgpdcapnnejdeaaGreat
end
section
set_option linter.unusedSimpArgs false
set_option linter.unusedVariables false
namespace Go.Proofs.YtgpdcapnnejdeaaGreat
set_option maxRecDepth 100000
open Go.RowKit

def LeavesP (w : World) (b : Nat) (k : Int × Rp) (e : Ending) (w' : World) : Prop := e = .returned (.int .i64 k.1) ∧ RpAt w' b k.2 ∧ Chg [b] w w'
theorem leavesP_same {w : World} {b : Nat} {r : Rp} (c : Int) (H : RpAt w b r) : LeavesP w b (c, r) (.returned (.int .i64 c)) w := ⟨rfl, H, chg_refl w _⟩

theorem wrap_pow (k : Nat) : IntKind.u64.wrap (2 ^ k) = q (1#64 <<< k) := by
 have := q_shl 1#64 k
 rw [show q 1#64 = 1 from rfl, Int.one_mul] at this
 exact this
theorem ptake_no {b : Nat} {r : Rp} (n : Int) (w : World) (H : RpAt w b r) (hm : r.may n = false) :
  Calls Tryz.prog 63 #[.pointer (some ⟨b, 0, none⟩), .int .i64 n] w (LeavesP w b (6, r)) := by
 have L := hid (leavesP_same 6 H)
 have H1 := pmay_any n w H
 rw [hm] at H1
 have H2 := hid H1
 clear H H1 hm
 go_enter Tryz.func63, Tryz.ntmps63
 go_wp2_with fail
 refine H2.out.mono ?_
 rintro e w1 ⟨rfl, rfl⟩
 go_wp2_with fail
 go_ret
 exact L.out
set_option maxHeartbeats 1600000 in
theorem ptake_below {b : Nat} {r : Rp} (n : Int) (w : World) (H : RpAt w b r) (hm : r.may n = true) (hl : ¬ r.top < n) :
  Calls Tryz.prog 63 #[.pointer (some ⟨b, 0, none⟩), .int .i64 n] w (LeavesP w b (0, r.put n)) := by
 obtain ⟨c0, c1, c2, f1, f2⟩ := H.cells
 have k0 := H.ok.t0; have k1 := H.ok.t1; have w2 := H.ok.w2
 have hmm := of_decide_eq_true hm
 have L : Hid (LeavesP w b (0, r.put n) (.returned (.int .i64 0)) (w.setCell ⟨b, 2, none⟩ (.int .u64 (q (r.bits ||| 1#64 <<< (r.top - n).toNat)))).drew) := by
  have ok := H.ok.put hm
  have e : r.put n = ⟨r.win, r.top, r.bits ||| 1#64 <<< (r.top - n).toNat⟩ := by unfold Rp.put; rw [if_neg hl]
  rw [e] at ok ⊢
  exact hid ⟨rfl, ⟨by have := at_set H.top 2 (.int .u64 (q (r.bits ||| 1#64 <<< (r.top - n).toNat))); exact this, ok⟩, ((chg_refl w [b]).set (.inl (by simp)) _).drew⟩
 have H1 := pmay_any n w H
 rw [hm] at H1
 have H2 := hid H1
 clear H H1 hm
 generalize r.put n = r' at L ⊢
 generalize r.top = t at *
 generalize r.bits = x at *
 have d1 : decide (t < n) = false := by simp; omega
 have d2 : 0 ≤ t - n := by omega
 have d3 : t - n ≤ 64 := by omega
 have s1 := wrap_pow (t - n).toNat
 have s2 : IntKind.i64.wrap (t - n) = t - n := IntWalk.i64_in _ (by omega)
 clear hmm hl
 go_enter Tryz.func63, Tryz.ntmps63
 go_wp2_with fail
 refine H2.out.mono ?_
 rintro e w1 ⟨rfl, rfl⟩
 go_wp2_with fail
 refine (load_i64 _ t _ c1).mono ?_
 rintro e w1 ⟨rfl, rfl⟩
 go_wp2_with fail
 refine wp_region_still_tail 14 (by kernel_rfl) (by kernel_rfl) ?_
 simp only [List.take_succ_cons, List.take_zero, List.drop_succ_cons, List.drop_zero]
 change wpStill _ _ w.drew _ _ _
 repeat still_step
 still_call (still_of (load_i64 _ t _ c1))
 repeat still_step
 refine wpStill_nil ?_
 change wpList _ _ _ _ _ w.drew
 go_wp2_with fail
 go_ret
 exact L.out
theorem q_or_one (x : BitVec 64) : bits .or .u64 (q x) 1 = q (x ||| 1#64) := q_or x 1#64
set_option maxHeartbeats 1600000 in
theorem ptake_above {b : Nat} {r : Rp} (n : Int) (w : World) (H : RpAt w b r) (hm : r.may n = true) (hl : r.top < n) :
  Calls Tryz.prog 63 #[.pointer (some ⟨b, 0, none⟩), .int .i64 n] w (LeavesP w b (0, r.put n)) := by
 obtain ⟨c0, c1, c2, f1, f2⟩ := H.cells
 have k0 := H.ok.t0; have k1 := H.ok.t1; have w2 := H.ok.w2
 have hmm := of_decide_eq_true hm
 have k2 := hmm.1; have k3 := hmm.2.1
 have L : Hid (∀ y z : BitVec 64, z = ((r.bits <<< (n - r.top).toNat &&& low r.win) ||| 1#64) → LeavesP w b (0, r.put n) (.returned (.int .i64 0)) ((((w.setCell ⟨b, 1, none⟩ (.int .i64 n)).setCell ⟨b, 2, none⟩ (.int .u64 (q y))).setCell ⟨b, 2, none⟩ (.int .u64 (q z))).drew.drew)) := by
  have ok := H.ok.put hm
  have e : r.put n = ⟨r.win, n, (r.bits <<< (n - r.top).toNat &&& low r.win) ||| 1#64⟩ := by unfold Rp.put; rw [if_pos hl]
  rw [e] at ok ⊢
  intro y z hz
  subst hz
  exact ⟨rfl, ⟨by have := at_set (at_set (at_set H.top 1 (.int .i64 n)) 2 (.int .u64 (q y))) 2 (.int .u64 (q ((r.bits <<< (n - r.top).toNat &&& low r.win) ||| 1#64))); exact this, ok⟩, (((((chg_refl w [b]).set (.inl (by simp)) _).set (.inl (by simp)) _).set (.inl (by simp)) _).drew).drew⟩
 have H1 := pmay_any n w H
 rw [hm] at H1
 have H2 := hid H1
 clear H H1 hm
 have s1 := shl_any r.bits .i64 (n - r.top) (by omega)
 generalize r.put n = r' at L ⊢
 generalize r.top = t at *
 generalize r.bits = x at *
 generalize r.win = m at *
 have d1 : decide (t < n) = true := by simp; omega
 have s2 : IntKind.i64.wrap 0 = 0 := rfl
 have s3 : IntKind.i64.wrap (n - t) = n - t := IntWalk.i64_in _ (by omega)
 have s5 : IntKind.i64.wrap (t + (n - t)) = n := by rw [show t + (n - t) = n by omega]; exact IntWalk.i64_in _ (by omega)
 clear hmm
 go_enter Tryz.func63, Tryz.ntmps63
 go_wp2_with fail
 refine H2.out.mono ?_
 rintro e w1 ⟨rfl, rfl⟩
 go_wp2_with fail
 refine (load_i64 _ t _ c1).mono ?_
 rintro e w1 ⟨rfl, rfl⟩
 go_wp2_with fail
 refine (addn_i64 _ t _ n _ c1 f1 s5).mono ?_
 rintro e w1 ⟨rfl, rfl⟩
 go_wp2_with fail
 refine wp_region_still_tail 15 (by kernel_rfl) (by kernel_rfl) ?_
 simp only [List.take_succ_cons, List.take_zero, List.drop_succ_cons, List.drop_zero]
 change wpStill _ _ (w.setCell ⟨b, 1, none⟩ (.int .i64 n)).drew _ _ _
 repeat still_step
 still_call (still_of (lowest_any m _))
 repeat still_step
 refine wpStill_nil ?_
 change wpList _ _ _ _ _ (w.setCell ⟨b, 1, none⟩ (.int .i64 n)).drew
 go_wp2_with fail
 generalize (x <<< (n - t).toNat &&& low m) = y at *
 have s7 := q_or_one y
 have c1' : (((w.setCell ⟨b, 1, none⟩ (.int .i64 n)).setCell ⟨b, 2, none⟩ (.int .u64 (q y))).drew.drew).cell? ⟨b, 1, none⟩ = some (.int .i64 n) := by go_simp
 refine wp_region_still_tail 14 (by kernel_rfl) (by kernel_rfl) ?_
 simp only [List.take_succ_cons, List.take_zero, List.drop_succ_cons, List.drop_zero]
 change wpStill _ _ ((w.setCell ⟨b, 1, none⟩ (.int .i64 n)).setCell ⟨b, 2, none⟩ (.int .u64 (q y))).drew.drew _ _ _
 repeat still_step
 still_call (still_of (load_i64 _ n _ c1'))
 repeat still_step
 refine wpStill_nil ?_
 change wpList _ _ _ _ _ ((w.setCell ⟨b, 1, none⟩ (.int .i64 n)).setCell ⟨b, 2, none⟩ (.int .u64 (q y))).drew.drew
 go_wp2_with fail
 go_ret
 have hL := L.out y _ rfl
 rw [← s7] at hL
 exact hL
theorem ptake_any {b : Nat} {r : Rp} (n : Int) (w : World) (H : RpAt w b r) :
  Calls Tryz.prog 63 #[.pointer (some ⟨b, 0, none⟩), .int .i64 n] w (LeavesP w b (r.take n)) := by
 unfold Rp.take
 by_cases hm : r.may n = true
 ·rw [if_pos hm]
  by_cases hl : r.top < n
  ·exact ptake_above n w H hm hl
  ·exact ptake_below n w H hm hl
 ·rw [if_neg hm]
  exact ptake_no n w H (by simpa using hm)
end Go.Proofs.YtgpdcapnnejdeaaGreat
end
section
namespace Go.Proofs.YtgpdcapnnejdeaaGreat
set_option maxRecDepth 100000
open Go.RowKit
theorem held_stronger {P : Program} {md : Region.Mode} {ops : Array Oper} {Q : Exit → Act → World → Prop} {S S' : World → Prop} (hS : ∀ w, S' w → S w) :
  ∀ (fuel : Nat) (listed : Array Bool) (a : Act) (w : World), wpAnyH P md ops Q S' fuel listed a w → wpAnyH P md ops Q S fuel listed a w
 | 0, _, _, _, h => h
 | fuel + 1, _, _, _, h => ⟨h.1, fun i hi => wpOp_mono (fun a' w' h' => ⟨hS _ h'.1, held_stronger hS fuel _ a' w' h'.2⟩) (h.2 i hi)⟩
end Go.Proofs.YtgpdcapnnejdeaaGreat
end
section
set_option linter.unusedSimpArgs false
namespace Go.Proofs.YtgpdcapnnejdeaaGreat
set_option maxRecDepth 100000
open Go.RowKit

theorem cmay_any (c : Conf) (w : World) :
  Calls Tryz.prog 40 #[cf c] w fun e w' => e = .returned (.bool ((st22 c).getD ⟨#[]⟩).toList.isEmpty) ∧ w.grownBy w' none := by
 have h0 := boxc_new w c
 have H0 := hid h0; clear h0
 have hw := wrong_any c
 obtain ⟨s, hs⟩ : ∃ s, s = (st22 c).getD ⟨#[]⟩ := ⟨_, rfl⟩
 rw [← hs] at hw ⊢
 clear hs
 go_enter Tryz.func40, Tryz.ntmps40
 go_wp2_with (refine wpList_conf H0.out.box rfl rfl rfl rfl ?_)
 refine (hw _).mono ?_
 rintro e w1 ⟨rfl, hg⟩
 have G1 := hid hg; clear hg
 go_wp2_with fail
 go_ret
 exact ⟨rfl, gb_trans (gb_alloc (.refl w none) _) G1.out (.inl rfl)⟩
end Go.Proofs.YtgpdcapnnejdeaaGreat
end
section
set_option linter.unusedSimpArgs false
namespace Go.Proofs.YtgpdcapnnejdeaaGreat
set_option maxRecDepth 100000
open Go.RowKit

structure Cfx (w0 : World) (x : Nat) (c : Conf) (w : World) : Prop where
 box : w.heap[x]? = some (.cells c.cells 27)
 g : w0.grownBy w none
theorem Cfx.grown {w0 : World} {x : Nat} {c : Conf} {w1 w2 : World} (h : Cfx w0 x c w1) (hg : w1.grownBy w2 none) : Cfx w0 x c w2 := ⟨at_grown h.box hg (by simp), gb_trans h.g hg (.inl rfl)⟩
theorem Cfx.drew {w0 : World} {x : Nat} {c : Conf} {w1 : World} (h : Cfx w0 x c w1) : Cfx w0 x c w1.drew := ⟨h.box, gb_drew h.g⟩
theorem cfx_new {w0 w1 : World} (c : Conf) (h : w0.grownBy w1 none) : Cfx w0 w1.heap.size c (w1.alloc (.cells c.cells 27)) := ⟨at_new w1 _, gb_alloc h _⟩

theorem mod_small (x : Int) {m : Int} (h0 : 0 < m) (h1 : m ≤ 4611686018427387904) : 0 ≤ wrap64 ((IntKind.u64.wrap x).tmod m) ∧ wrap64 ((IntKind.u64.wrap x).tmod m) < m := by
 have h : 0 ≤ IntKind.u64.wrap x := by
  show 0 ≤ x % _
  exact Int.emod_nonneg _ (by decide)
 rw [Int.tmod_eq_emod_of_nonneg h]
 have a := Int.emod_nonneg (IntKind.u64.wrap x) (Int.ne_of_gt h0)
 have b := Int.emod_lt_of_pos (IntKind.u64.wrap x) h0
 rw [wrap_small (by omega) (by omega)]
 exact ⟨a, b⟩
end Go.Proofs.YtgpdcapnnejdeaaGreat
end
