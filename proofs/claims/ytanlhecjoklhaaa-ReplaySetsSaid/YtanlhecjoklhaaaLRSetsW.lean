/-
  The walk of the statement ReplaySets. No condition.
-/
import Derived.Test.YtanlhecjoklhaaaPQ
import Derived.Deep.QuietTactic
import Derived.BigQuiet
import Derived.Deep.CutRange
import Derived.Deep.CutBlock
import Derived.Deep.RegionHeld3
import Derived.Test.YtanlhecjoklhaaaHeld
set_option linter.unusedSimpArgs false
set_option linter.unusedVariables false
namespace Go.Proofs.Ytanlhecjoklhaaa.rsets
set_option maxRecDepth 100000
open Go.RowKit

set_option maxHeartbeats 12800000 in
theorem walk (window top : Int) (bits : BitVec 64) (l : List Int) (p : Option Addr) (c : Nat) {w : World} (hl : IntsAt w (.slice p l.length c) l) :
    Calls Try.prog 4 #[.int .i64 window, .int .i64 top, .int .u64 (q bits), .slice p l.length c] w fun e w' => e = .returned (.bool true) ∧ w.grownBy w' none := by
  obtain ⟨k, k0, k1, ek⟩ := umod_int window 64 (by omega)
  replace ek : (IntKind.u64.wrap window).tmod 64 = k := ek
  replace k1 : k < 64 := k1
  have HI := hid hl
  obtain ⟨len, hlen⟩ : ∃ len, len = l.length := ⟨_, rfl⟩
  rw [← hlen] at HI ⊢
  clear hl
  have hmax := HI.out.len.2
  unfold maxLen at hmax
  clear hlen
  go_enter Try.func4, Try.ntmps4
  go_wp2_with fail
  clear ek
  obtain ⟨m, hm⟩ : ∃ m, m = 1 + k := ⟨_, rfl⟩
  rw [← hm]
  have m0 : 1 ≤ m := by omega
  have m1 : m ≤ 64 := by omega
  clear hm k0 k1
  refine (tp_new_int (w0 := w) m m0 m1 (.refl w none)).mono ?_
  rintro e w1 ⟨b, rfl, T, _, _⟩
  have T0 := hid T; clear T
  go_wp2_with fail
  refine (pq_new m m0 m1 T0.out).mono ?_
  rintro e w2 ⟨d, rfl, T⟩
  have A0 := hid T; clear T T0
  by_cases h20 : 20 < len
  · have d1 : decide ((20 : Int) < (len : Int)) = true := by simp; omega
    clear h20
    go_wp2_with fail
    refine (rtold_any _).mono ?_
    rintro e w3 ⟨rfl, hg⟩
    have T2 := hid (A0.out.grown hg); clear hg A0
    go_wp2_with fail
    go_ret
    exact ⟨rfl, T2.out.tp.gr⟩
  have d1 : decide ((20 : Int) < (len : Int)) = false := by simp; omega
  have h20' : len ≤ 20 := by omega
  clear h20
  obtain ⟨c1, hc1⟩ : ∃ c, ((Rp.new m.toNat).set top bits).1 = c := ⟨_, rfl⟩
  obtain ⟨r1, hr1⟩ : ∃ r, ((Rp.new m.toNat).set top bits).2 = r := ⟨_, rfl⟩
  have hcc : c1 = 0 ∨ c1 = 1 := by
    rw [← hc1]; unfold Rp.set; split
    · exact .inl rfl
    · exact .inr rfl
  have HS := hid (show (Rp.new m.toNat).set top bits = (c1, r1) by rw [← hc1, ← hr1])
  have HC := hid hcc
  clear hc1 hr1 hcc
  go_wp2_with fail
  refine (A0.out.setP top bits c1 r1 HS.out).mono ?_
  rintro e w3 ⟨rfl, ho⟩
  have A1 := hid ho; clear ho A0
  go_wp2_with fail
  refine (A1.out.setQ top bits c1 r1 HS.out).mono ?_
  rintro e w4 ⟨rfl, ho⟩
  have A2 := hid (show PQ w b d 64 r1 r1 w4 from ho); clear ho A1
  obtain ⟨t, ht⟩ : ∃ t, r1.top = t := ⟨_, rfl⟩
  obtain ⟨y, hy⟩ : ∃ t, q r1.bits = t := ⟨_, rfl⟩
  have hcell := A2.out.cell
  rw [ht] at hcell
  have C1 := hid (fun n => ptop_any _ (A2.out.tp.rp.grown (gb_drewN w4 n)))
  have C2 := hid (fun n => pbits_any _ (A2.out.tp.rp.grown (gb_drewN w4 n)))
  obtain ⟨v, hv1, _⟩ := A2.out.rq
  have C3 := hid (fun n => qbits_any _ (hv1.grown (gb_drewN w4 n)) (by decide))
  rw [ht] at C1
  rw [hy] at C2 C3
  clear hv1 ht hy
  go_wp2_with fail
  go_quiet ((first | (go_at_call 15; exact Calls.quiet_of_same (still_of (C1.out _))) | (go_at_call 16; exact Calls.quiet_of_same (still_of (C2.out _))) | (go_at_call 17; exact Calls.quiet_of_same (still_of (C3.out _)))))
  have A3 := hid (A2.out.grown (gb_drewN w4 nq)); clear A2 C1 C2 C3 hcell
  generalize w4.drewN nq = w5 at *
  go_wp2_with fail
  go_loopw [14] (fun i wr => ∃ (k : Nat) (r : Rp), k ≤ len ∧ i = .int .i64 (k : Int) ∧ PQ w b d (64 + k) r r wr) (fun i _ => len - (intOf i).toNat)
  case atStart => exact ⟨0, _, Nat.zero_le _, rfl, A3.out⟩
  case round =>
    obtain ⟨k, r, hk, rfl, hon⟩ := hrel
    have A2 := hid hon
    clear hon A3
    by_cases hlt : k < len
    · have hi2 := HI.out.chg (chg_grown A2.out.tp.gr []) (by simp)
      obtain ⟨ab, ao, z, rfl, hz, hc⟩ := hi2.cell hlt
      obtain ⟨x, x0, x1, ex⟩ := umod_int z 100 (by omega)
      replace ex : (IntKind.u64.wrap z).tmod 100 = x := ex
      replace x1 : x < 100 := x1
      clear hi2 hz
      have q0 : (k : Int) < (len : Int) := by omega
      have q1 : (0 : Int) ≤ (k : Int) := by omega
      have t0 := A2.out.ok.t0; have t1 := A2.out.ok.t1
      obtain ⟨t, ht⟩ : ∃ t, r.top = t := ⟨_, rfl⟩
      have hcell := A2.out.cell
      rw [ht] at t0 t1 hcell
      have s1 : IntKind.i64.wrap x = x := IntWalk.i64_in _ (by omega)
      have s2 : IntKind.i64.wrap (t + x) = t + x := IntWalk.i64_in _ (by omega)
      have s3 : IntKind.i64.wrap (t + x - 70) = t + x - 70 := IntWalk.i64_in _ (by omega)
      have HTR := hid ht; clear ht
      go_wp2_with fail
      go_quiet (fail)
      generalize t + x - 70 = n at *
      clear hcell s1 s2 s3 ex t0 t1 x0 x1 q1
      have A4 := hid (A2.out.grown (gb_drewN _ nq)); clear A2
      generalize World.drewN _ nq = wd at *
      obtain ⟨c2, hc2⟩ : ∃ c, (r.take n).1 = c := ⟨_, rfl⟩
      obtain ⟨r2, hr2⟩ : ∃ r2, (r.take n).2 = r2 := ⟨_, rfl⟩
      obtain ⟨y2, hy2⟩ : ∃ t, q r2.bits = t := ⟨_, rfl⟩
      have HT := hid (show r.take n = (c2, r2) by rw [← hc2, ← hr2])
      have HB := hid hy2
      have HK2 := hid (show 64 + k ≤ 999999 by omega); have HK3 := hid (show 64 + k + 1 ≤ 1000000 by omega)
      clear hc2 hr2 hy2
      go_wp2_with fail
      refine (A4.out.takeP n c2 r2 HT.out).mono ?_
      rintro e w6 ⟨rfl, ho⟩
      have A5 := hid ho; clear ho A4
      go_wp2_with fail
      refine (A5.out.takeQ HK2.out n c2 r2 HT.out).mono ?_
      rintro e w7 ⟨rfl, ho⟩
      have A6 := hid ho; clear ho A5
      go_wp2_with fail
      refine (A6.out.bitsP y2 HB.out).mono ?_
      rintro e w8 ⟨rfl, ho⟩
      have A7 := hid ho; clear ho A6
      go_wp2_with fail
      refine (A7.out.bitsQ HK3.out y2 HB.out).mono ?_
      rintro e w9 ⟨rfl, ho⟩
      have A8 := hid ho; clear ho A7
      go_wp2_with fail
      go_roundw
      case rel => exact ⟨k + 1, r2, by omega, by go_num, A8.out⟩
      case measure => simp [intOf]; omega
    · have hkl : k = len := by omega
      subst hkl
      go_wp2_with fail
      refine (rtold_any _).mono ?_
      rintro e w6 ⟨rfl, hg⟩
      have T2 := hid (A2.out.grown hg); clear hg A2
      rcases HC.out with rfl | rfl
      all_goals
        go_wp2_with fail
        go_ret
        exact ⟨rfl, T2.out.tp.gr⟩
end Go.Proofs.Ytanlhecjoklhaaa.rsets
