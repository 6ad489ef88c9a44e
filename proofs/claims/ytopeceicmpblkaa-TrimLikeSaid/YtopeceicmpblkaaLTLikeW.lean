/-
  The walk of the statement TrimLike: of like numbers the median, the mean, the span are that number. No condition.
-/
import Derived.Test.YtopeceicmpblkaaTTold
import Derived.Test.YtopeceicmpblkaaTl
import Derived.Test.YtopeceicmpblkaaTf
set_option linter.unusedSimpArgs false
set_option linter.unusedVariables false
namespace Go.Proofs.Ytopeceicmpblkaa.tlike
set_option maxRecDepth 100000
open Go.RowKit

set_option maxHeartbeats 1600000 in
theorem walk {w : World} (v : Int) (n : Int) (f : Int) :
    Calls Try.prog 6 #[.int .i64 v, .int .i64 n, .int .i64 f] w fun e w' => e = .returned (.bool true) ∧ w.grownBy w' none := by
  have hx := fv_in v
  have e1 : (IntKind.u64.wrap v).tmod 1099511627777 = fv v := rfl
  generalize fv v = x at *
  obtain ⟨k1, hk1, e2'⟩ := umod_small n 40 (by decide)
  have e2 : (IntKind.u64.wrap n).tmod 40 = (k1 : Int) := e2'
  clear e2'
  obtain ⟨K, hK⟩ : ∃ K : Nat, K = k1 + 1 := ⟨_, rfl⟩
  have e3 : IntKind.i64.wrap (1 + (k1 : Int)) = (K : Int) := by rw [show 1 + (k1 : Int) = (K : Int) by omega]; exact IntWalk.i64_in _ (by omega)
  have e4 : IntKind.i64.wrap ((K : Int) + 1) = ((K + 1 : Nat) : Int) := IntWalk.i64_in _ (by omega)
  obtain ⟨H, hH⟩ : ∃ H : Nat, H = (K + 1) / 2 := ⟨_, rfl⟩
  have e5 : IntKind.i64.wrap (((K + 1 : Nat) : Int).tdiv 2) = (H : Int) := by rw [Int.tdiv_eq_ediv_of_nonneg (by omega), show ((K + 1 : Nat) : Int) / 2 = (H : Int) by omega]; exact IntWalk.i64_in _ (by omega)
  have e7 : IntKind.i64.wrap (((K + 1 : Nat) : Int) / 2) = (H : Int) := by rw [show ((K + 1 : Nat) : Int) / 2 = (H : Int) by omega]; exact IntWalk.i64_in _ (by omega)
  obtain ⟨c, hc, e6⟩ := umod_small f H (by omega)
  have M1 := hid (med_like (k := K) (x := x) (by omega) (by omega) hx.1 hx.2)
  have M2 := hid (show meanL (midL (List.replicate K x) (c : Int)) = (x, true) by rw [mid_like (by omega) (by omega) hx.1 hx.2]; exact mean_like (by omega))
  have M3 := hid (show spanL (midL (List.replicate K x) (c : Int)) = (x, x, true) by rw [mid_like (by omega) (by omega) hx.1 hx.2]; exact span_like (by omega))
  have M4 := hid (show meanL (midL (List.replicate K x) (H : Int)) = (0, false) by
    rw [midL_out (fun e => by have := e.2.2; rw [List.length_replicate] at this; omega)]; rfl)
  have BC := hid (show (-9223372036854775808 : Int) ≤ (c : Int) ∧ (c : Int) ≤ 9223372036854775807 by omega)
  have BH := hid (show (-9223372036854775808 : Int) ≤ (H : Int) ∧ (H : Int) ≤ 9223372036854775807 by omega)
  have HZ := hid (show OwnI w.heap.size w (.slice none 0 0) (List.replicate 0 x) from OwnI.nil _ _)
  have hK1 : K ≤ 40 := by omega
  have hH1 : 1 ≤ H ∧ H ≤ 21 := by omega
  clear hK hH
  generalize K + 1 = K2 at *
  go_enter Try.func6, Try.ntmps6
  go_wp2_with fail
  go_loopw [9, 10] (fun u i wr => ∃ k : Nat, k ≤ K ∧ i = .int .i64 (k : Int) ∧ OwnI w.heap.size wr u (List.replicate k x) ∧ w.grownBy wr none) (fun _ i _ => K - (intOf i).toNat)
  case atStart => exact ⟨0, Nat.zero_le _, rfl, HZ.out, .refl w none⟩
  case round =>
    obtain ⟨k, hk, rfl, ho, hgr⟩ := hrel
    have HO := hid ho; have HGR := hid hgr
    have hfl := List.length_replicate (n := k) (a := x)
    have hsz := gb_size hgr
    obtain ⟨pu, cu, rfl⟩ := ho.form
    clear ho hgr HZ
    by_cases hlt : k < K
    · have hs := List.replicate_succ' (n := k) (a := x)
      have HS := hid hs
      generalize List.replicate k x = r at *
      clear hs
      go_wp2_with (at_builtin; refine append_int rfl _ _ rfl w.heap.size _ _ (by rfl) (HO.out.grown (World.grownBy_alloc wr _ none) (by simp)) wr.heap.size x (by rfl) (at_cell (at_new wr _) 0) (by omega) (by rw [show (wr.alloc (.cells #[.int .i64 x] 2)).heap.size = wr.heap.size + 1 from by show (wr.heap.push _).size = _; simp]; omega) ?_; intro u2 w3 hown hgrow hat)
      go_roundw
      case rel => exact ⟨k + 1, by omega, by go_num, by rw [HS.out]; exact hown, gb_ownI (gb_alloc HGR.out _) (HO.out.grown (World.grownBy_alloc wr _ none) (by simp)) (Nat.le_refl _) hgrow⟩
      case measure => simp [intOf]; omega
    · obtain rfl : k = K := by omega
      have K0 := hid ((Kl.mk HGR.out (by intro p hp; cases hp) : Kl w [] wr).add HO.out.ints)
      generalize List.replicate k x = r at *
      rw [hfl] at K0 ⊢
      clear HO HGR
      go_wp2_with fail
      refine (median_as K0.out.i0 M1.out).mono ?_
      rintro e w1 ⟨rfl, hg⟩
      have K1 := hid (K0.out.grown hg); clear hg K0
      go_wp2_with fail
      refine (mean_as K1.out.i0 BC.out M2.out).mono ?_
      rintro e w2 ⟨rfl, hg⟩
      have K2 := hid (K1.out.grown hg); clear hg K1
      go_wp2_with fail
      refine (span_as K2.out.i0 BC.out M3.out).mono ?_
      rintro e w3 ⟨rfl, hg⟩
      have K3 := hid (K2.out.grown hg); clear hg K2
      go_wp2_with fail
      refine (mean_as K3.out.i0 BH.out M4.out).mono ?_
      rintro e w4 ⟨rfl, hg⟩
      have K4 := hid (K3.out.grown hg); clear hg K3
      go_wp2_with fail
      refine (ttold_any _).mono ?_
      rintro e w5 ⟨rfl, hg⟩
      have K5 := hid (K4.out.grown hg); clear hg K4
      go_wp2_with fail
      go_ret
      exact ⟨rfl, K5.out.gr⟩
end Go.Proofs.Ytopeceicmpblkaa.tlike
