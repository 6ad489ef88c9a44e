/-
  The walk of the statement ReplayBack. No condition.
-/
import Derived.Test.YtanlhecjoklhaaaLOnceW
set_option linter.unusedSimpArgs false
set_option linter.unusedVariables false
namespace Go.Proofs.Ytanlhecjoklhaaa
set_option maxRecDepth 100000
open Go.RowKit
/-- what a Replay tells can be set in another one -/
theorem set_self {r : Rp} (ok : r.Ok) (s : Rp) (h : s.win = r.win) : s.set r.top r.bits = (0, r) := by
  have w2 := ok.w2
  have hc : s.can r.top r.bits = true := decide_eq_true ⟨ok.t0, ok.t1, (low_none _ _ (by rw [h]; omega)).2 fun i hi => by have := ok.bs i hi; rw [h]; omega, ok.b0⟩
  unfold Rp.set
  rw [if_pos hc, h]
/-- two of the program's -/
structure Tw (w0 : World) (a b : Nat) (r s : Rp) (W : World) : Prop where
  ta : Tp w0 a r W
  tb : Tp w0 b s W
  ne : a ≠ b
section
variable {w0 W : World} {a b : Nat} {r s : Rp}
theorem Tw.grown {W' : World} (T : Tw w0 a b r s W) (hg : W.grownBy W' none) : Tw w0 a b r s W' := ⟨T.ta.grown hg, T.tb.grown hg, T.ne⟩
theorem Tp.chg {F : List Nat} {W' : World} (T : Tp w0 a r W) (hc : Chg F W W') (hF : ∀ x ∈ F, w0.heap.size ≤ x) (ha : a ∉ F) : Tp w0 a r W' :=
  ⟨((chg_grown T.gr []).trans hc (fun g hg => .inr (hF g hg))).free (by simp), T.rp.chg hc ha, T.lo⟩
theorem Tw.takeA (T : Tw w0 a b r s W) (n : Int) : Calls Try.prog 13 #[.pointer (some ⟨a, 0, none⟩), .int .i64 n] W fun e w' => e = .returned (.int .i64 (r.take n).1) ∧ Tw w0 a b (r.take n).2 s w' :=
  (ptake_any n W T.ta.rp).mono fun _ _ L => ⟨L.1, T.ta.leave L, T.tb.chg L.2.2 (fun x hx => by simp at hx; subst hx; exact T.ta.lo) (by simpa using T.ne.symm), T.ne⟩
theorem Tw.takeB (T : Tw w0 a b r s W) (n : Int) : Calls Try.prog 13 #[.pointer (some ⟨b, 0, none⟩), .int .i64 n] W fun e w' => e = .returned (.int .i64 (s.take n).1) ∧ Tw w0 a b r (s.take n).2 w' :=
  (ptake_any n W T.tb.rp).mono fun _ _ L => ⟨L.1, T.ta.chg L.2.2 (fun x hx => by simp at hx; subst hx; exact T.tb.lo) (by simpa using T.ne), T.tb.leave L, T.ne⟩
theorem Tw.setB (T : Tw w0 a b r s W) (h : s.win = r.win) : Calls Try.prog 18 #[.pointer (some ⟨b, 0, none⟩), .int .i64 r.top, .int .u64 (q r.bits)] W fun e w' => e = .returned (.int .i64 0) ∧ Tw w0 a b r r w' :=
  (pset_any r.top r.bits W T.tb.rp).mono fun _ _ L => by
    rw [set_self T.ta.rp.ok s h] at L
    exact ⟨L.1, T.ta.chg L.2.2 (fun x hx => by simp at hx; subst hx; exact T.tb.lo) (by simpa using T.ne), T.tb.leave L, T.ne⟩
theorem Tw.mayA (T : Tw w0 a b r s W) (n : Int) : Calls Try.prog 11 #[.pointer (some ⟨a, 0, none⟩), .int .i64 n] W fun e w' => e = .returned (.bool (r.may n)) ∧ Tw w0 a b r s w' :=
  (pmay_any n W T.ta.rp).mono fun _ _ ⟨h1, h2⟩ => ⟨h1, h2 ▸ T⟩
theorem Tw.mayB (T : Tw w0 a b r s W) (n : Int) : Calls Try.prog 11 #[.pointer (some ⟨b, 0, none⟩), .int .i64 n] W fun e w' => e = .returned (.bool (s.may n)) ∧ Tw w0 a b r s w' :=
  (pmay_any n W T.tb.rp).mono fun _ _ ⟨h1, h2⟩ => ⟨h1, h2 ▸ T⟩
theorem Tw.topA (T : Tw w0 a b r s W) : Calls Try.prog 15 #[.pointer (some ⟨a, 0, none⟩)] W fun e w' => e = .returned (.int .i64 r.top) ∧ Tw w0 a b r s w' :=
  (ptop_any W T.ta.rp).mono fun _ _ ⟨h1, h2⟩ => ⟨h1, h2 ▸ T⟩
theorem Tw.topB (T : Tw w0 a b r s W) : Calls Try.prog 15 #[.pointer (some ⟨b, 0, none⟩)] W fun e w' => e = .returned (.int .i64 s.top) ∧ Tw w0 a b r s w' :=
  (ptop_any W T.tb.rp).mono fun _ _ ⟨h1, h2⟩ => ⟨h1, h2 ▸ T⟩
theorem Tw.bitsA (T : Tw w0 a b r s W) : Calls Try.prog 16 #[.pointer (some ⟨a, 0, none⟩)] W fun e w' => e = .returned (.int .u64 (q r.bits)) ∧ Tw w0 a b r s w' :=
  (pbits_any W T.ta.rp).mono fun _ _ ⟨h1, h2⟩ => ⟨h1, h2 ▸ T⟩
theorem Tw.bitsB (T : Tw w0 a b r s W) : Calls Try.prog 16 #[.pointer (some ⟨b, 0, none⟩)] W fun e w' => e = .returned (.int .u64 (q s.bits)) ∧ Tw w0 a b r s w' :=
  (pbits_any W T.tb.rp).mono fun _ _ ⟨h1, h2⟩ => ⟨h1, h2 ▸ T⟩
end
namespace back
set_option maxHeartbeats 6400000 in
theorem walk (window : Int) (l : List Int) (p : Option Addr) (c : Nat) (more : List Int) (p2 : Option Addr) (c2 : Nat) {w : World} (hl : IntsAt w (.slice p l.length c) l) (hm : IntsAt w (.slice p2 more.length c2) more) :
    Calls Try.prog 6 #[.int .i64 window, .slice p l.length c, .slice p2 more.length c2] w fun e w' => e = .returned (.bool true) ∧ w.grownBy w' none := by
  obtain ⟨k, k0, k1, ek⟩ := umod_int window 64 (by omega)
  replace ek : (IntKind.u64.wrap window).tmod 64 = k := ek
  replace k1 : k < 64 := k1
  have HI := hid hl; have HJ := hid hm
  obtain ⟨len, hlen⟩ : ∃ len, len = l.length := ⟨_, rfl⟩
  obtain ⟨len2, hlen2⟩ : ∃ len, len = more.length := ⟨_, rfl⟩
  rw [← hlen] at HI ⊢
  rw [← hlen2] at HJ ⊢
  clear hl hm
  have hmax := HI.out.len.2
  have hmax2 := HJ.out.len.2
  unfold maxLen at hmax hmax2
  clear hlen hlen2
  go_enter Try.func6, Try.ntmps6
  go_wp2_with fail
  clear ek
  obtain ⟨m, hm⟩ : ∃ m, m = 1 + k := ⟨_, rfl⟩
  rw [← hm]
  have m0 : 1 ≤ m := by omega
  have m1 : m ≤ 64 := by omega
  clear hm k0 k1
  refine (tp_new_int (w0 := w) m m0 m1 (.refl w none)).mono ?_
  rintro e w1 ⟨a, rfl, T, _, _⟩
  have T0 := hid T; clear T
  go_wp2_with fail
  refine (tp_new_int (w0 := w) m m0 m1 T0.out.gr).mono ?_
  rintro e w2 ⟨b, rfl, T, hg, hb⟩
  have hlt := T0.out.rp.lt
  have A0 := hid (show Tw w a b (.new m.toNat) (.new m.toNat) w2 from ⟨T0.out.grown hg, T, by omega⟩); clear T hg hb hlt T0
  by_cases hbig : 40 < len ∨ 20 < len2
  · by_cases h40 : 40 < len
    · have d1 : decide ((40 : Int) < (len : Int)) = true := by simp; omega
      clear hbig
      go_wp2_with fail
      refine (rtold_any _).mono ?_
      rintro e w3 ⟨rfl, hg⟩
      have T2 := hid (A0.out.grown hg); clear hg A0
      go_wp2_with fail
      go_ret
      exact ⟨rfl, T2.out.ta.gr⟩
    · have d1 : decide ((40 : Int) < (len : Int)) = false := by simp; omega
      have d2 : decide ((20 : Int) < (len2 : Int)) = true := by simp; omega
      clear hbig
      go_wp2_with fail
      refine (rtold_any _).mono ?_
      rintro e w3 ⟨rfl, hg⟩
      have T2 := hid (A0.out.grown hg); clear hg A0
      go_wp2_with fail
      go_ret
      exact ⟨rfl, T2.out.ta.gr⟩
  have d1 : decide ((40 : Int) < (len : Int)) = false := by simp; omega
  have d2 : decide ((20 : Int) < (len2 : Int)) = false := by simp; omega
  have l1 : len ≤ 40 := by omega
  have l2 : len2 ≤ 20 := by omega
  clear hbig
  go_wp2_with fail
  go_loopw [10] (fun i wr => ∃ (k : Nat) (r : Rp), k ≤ len ∧ i = .int .i64 (k : Int) ∧ r.win = m.toNat ∧ Tw w a b r (.new m.toNat) wr) (fun i _ => len - (intOf i).toNat)
  case atStart => exact ⟨0, _, Nat.zero_le _, rfl, rfl, A0.out⟩
  case round =>
    obtain ⟨k, r, hk, rfl, hwin, hon⟩ := hrel
    have A2 := hid hon; have HW := hid hwin
    clear hon hwin A0
    by_cases hlt : k < len
    · have hi2 := HI.out.chg (chg_grown A2.out.ta.gr []) (by simp)
      obtain ⟨ab, ao, z, rfl, hz, hc⟩ := hi2.cell hlt
      obtain ⟨x, x0, x1, ex⟩ := umod_int z 80 (by omega)
      replace ex : (IntKind.u64.wrap z).tmod 80 = x := ex
      replace x1 : x < 80 := x1
      clear hi2 hz
      have q0 : (k : Int) < (len : Int) := by omega
      have q1 : (0 : Int) ≤ (k : Int) := by omega
      have t0 := A2.out.ta.rp.ok.t0; have t1 := A2.out.ta.rp.ok.t1
      obtain ⟨t, ht⟩ : ∃ t, r.top = t := ⟨_, rfl⟩
      have CT := ptop_any _ A2.out.ta.drew.rp
      rw [ht] at t0 t1 CT
      replace CT := hid CT
      have s1 : IntKind.i64.wrap x = x := IntWalk.i64_in _ (by omega)
      have s2 : IntKind.i64.wrap (t + x) = t + x := IntWalk.i64_in _ (by omega)
      have s3 : IntKind.i64.wrap (t + x - 50) = t + x - 50 := IntWalk.i64_in _ (by omega)
      clear ht
      go_wp2_with fail
      refine wp_region_still_tail 12 (by kernel_rfl) (by kernel_rfl) ?_
      simp only [List.take_succ_cons, List.take_zero, List.drop_succ_cons, List.drop_zero]
      change wpStill _ _ wr.drew _ _ _
      repeat still_step
      still_call (still_of CT.out)
      repeat still_step
      refine wpStill_nil ?_
      change wpList _ _ _ _ _ wr.drew
      go_wp2_with fail
      refine ((A2.out.grown (gb_drew (.refl wr none))).takeA _).mono ?_
      rintro e w3 ⟨rfl, ho⟩
      have A3 := hid ho; clear ho A2
      go_wp2_with fail
      go_roundw
      case rel => exact ⟨k + 1, _, by omega, by go_num, (take_win _ _).trans HW.out, A3.out⟩
      case measure => simp [intOf]; omega
    · have hkl : k = len := by omega
      subst hkl
      go_wp2_with fail
      refine A2.out.topA.mono ?_
      rintro e w3 ⟨rfl, ho⟩
      have A3 := hid ho; clear ho A2
      go_wp2_with fail
      refine A3.out.bitsA.mono ?_
      rintro e w4 ⟨rfl, ho⟩
      have A4 := hid ho; clear ho A3
      go_wp2_with fail
      refine (A4.out.setB HW.out.symm).mono ?_
      rintro e w5 ⟨rfl, ho⟩
      have A5 := hid ho; clear ho A4
      go_wp2_with fail
      go_loopw [11] (fun i wq => ∃ (k : Nat) (r : Rp), k ≤ len2 ∧ i = .int .i64 (k : Int) ∧ Tw w a b r r wq) (fun i _ => len2 - (intOf i).toNat)
      case atStart => exact ⟨0, _, Nat.zero_le _, rfl, A5.out⟩
      case round =>
        obtain ⟨k2, r2, hk2, rfl, hon⟩ := hrel
        have B1 := hid hon; clear hon A5
        by_cases hlt2 : k2 < len2
        · have hi2 := HJ.out.chg (chg_grown B1.out.ta.gr []) (by simp)
          obtain ⟨ab, ao, z, rfl, hz, hc⟩ := hi2.cell hlt2
          obtain ⟨x, x0, x1, ex⟩ := umod_int z 80 (by omega)
          replace ex : (IntKind.u64.wrap z).tmod 80 = x := ex
          replace x1 : x < 80 := x1
          clear hi2 hz
          have q0 : (k2 : Int) < (len2 : Int) := by omega
          have q1 : (0 : Int) ≤ (k2 : Int) := by omega
          have t0 := B1.out.ta.rp.ok.t0; have t1 := B1.out.ta.rp.ok.t1
          obtain ⟨t, ht⟩ : ∃ t, r2.top = t := ⟨_, rfl⟩
          have CT := fun n => ptop_any _ (B1.out.ta.rp.grown (gb_drewN _ n))
          rw [ht] at t0 t1
          simp only [ht] at CT
          replace CT := hid CT
          have s1 : IntKind.i64.wrap x = x := IntWalk.i64_in _ (by omega)
          have s2 : IntKind.i64.wrap (t + x) = t + x := IntWalk.i64_in _ (by omega)
          have s3 : IntKind.i64.wrap (t + x - 50) = t + x - 50 := IntWalk.i64_in _ (by omega)
          clear ht
          go_wp2_with fail
          go_quiet ((go_at_call 15; exact Calls.quiet_of_same (still_of (CT.out _))))
          generalize t + x - 50 = n at *
          clear s1 s2 s3 ex CT
          have B2 := hid (B1.out.grown (gb_drewN _ nq)); clear B1
          generalize World.drewN _ nq = wd at *
          go_wp2_with fail
          refine (B2.out.mayA n).mono ?_
          rintro e w6 ⟨rfl, ho⟩
          have B3 := hid ho; clear ho B2
          go_wp2_with fail
          refine (B3.out.mayB n).mono ?_
          rintro e w7 ⟨rfl, ho⟩
          have B4 := hid ho; clear ho B3
          go_wp2_with fail
          refine (B4.out.takeA n).mono ?_
          rintro e w8 ⟨rfl, ho⟩
          have B5 := hid ho; clear ho B4
          go_wp2_with fail
          refine (B5.out.takeB n).mono ?_
          rintro e w9 ⟨rfl, ho⟩
          have B6 := hid ho; clear ho B5
          generalize (r2.take n).1 = e1 at *
          generalize (r2.take n).2 = r3 at *
          go_wp2_with fail
          refine B6.out.bitsA.mono ?_
          rintro e w10 ⟨rfl, ho⟩
          have B7 := hid ho; clear ho B6
          go_wp2_with fail
          refine B7.out.bitsB.mono ?_
          rintro e w11 ⟨rfl, ho⟩
          have B8 := hid ho; clear ho B7
          go_wp2_with fail
          refine B8.out.topA.mono ?_
          rintro e w12 ⟨rfl, ho⟩
          have B9 := hid ho; clear ho B8
          go_wp2_with fail
          refine B9.out.topB.mono ?_
          rintro e w13 ⟨rfl, ho⟩
          have B10 := hid ho; clear ho B9
          go_wp2_with fail
          go_roundw
          case rel => exact ⟨k2 + 1, _, by omega, by go_num, B10.out⟩
          case measure => simp [intOf]; omega
        · have hkl : k2 = len2 := by omega
          subst hkl
          go_wp2_with fail
          refine (rtold_any _).mono ?_
          rintro e w6 ⟨rfl, hg⟩
          have T2 := hid (B1.out.grown hg); clear hg B1
          go_wp2_with fail
          go_ret
          exact ⟨rfl, T2.out.ta.gr⟩
end back
end Go.Proofs.Ytanlhecjoklhaaa
