/-
  The walk of the statement RingOthers: what one collector does changes nothing of the others'. No condition.
-/
import Derived.Test.YtmnmekjbjccamaaLGraceW
set_option linter.unusedSimpArgs false
set_option linter.unusedVariables false
namespace Go.Proofs.Ytmnmekjbjccamaa.others
set_option maxRecDepth 100000
open Go.RowKit
open Go.Proofs.Ytmnmekjbjccamaa.grace (umod_int keyObj rkey_is rot_is key_yes key_no)

/-- the ring behind j rotations of i, each at its own number -/
def ro (seed : BitVec 64) (k i : Nat) (j : Int) : Rg := (Rg.new seed k 5).put i j j
theorem ro_zero (seed : BitVec 64) (k i : Nat) : ro seed k i 0 = .new seed k 5 := by
  simp only [ro, Rg.put, Rg.new]
  congr 1 <;> (funext j; split <;> rfl)
theorem ro_rot (seed : BitVec 64) (k i : Nat) (j z v : Int) (hi : i < k) (hv : v = i) (hz : z = j + 1) (h0 : 0 ≤ j) (h1 : j < 100) : (ro seed k i j).rot v z z = (0, ro seed k i z) := by
  subst hz hv
  have e : (ro seed k i j).gen i = j := by simp [ro, Rg.put]
  have n : (ro seed k i j).n = k := rfl
  unfold Rg.rot
  rw [n, if_pos ⟨by omega, by omega⟩, Int.toNat_natCast, if_pos ⟨by rw [e], by omega⟩, if_pos ⟨by omega, by omega⟩]
  have : (ro seed k i j).put i (j + 1) (j + 1) = ro seed k i (j + 1) := by
    simp only [ro, Rg.put, Rg.new]
    congr 1 <;> (funext i; split <;> simp_all)
  rw [this]
theorem rgen_is {b h : Nat} {r : Rg} {who : Int} (x : Int) (w : World) (H : RgAt w b h r) (h0 : 0 ≤ who ∧ who < (r.n : Int)) (e : r.gen who.toNat = x) :
    Calls Try.prog 29 #[.pointer (some ⟨b, 0, none⟩), .int .i64 who] w fun e w' => e = .returned (.int .i64 x) ∧ w = w' := by
  obtain ⟨i, rfl⟩ := Int.eq_ofNat_of_zero_le h0.1
  subst e
  exact rgen_in i w H (by have := h0.2; omega)
theorem rsince_is {b h : Nat} {r : Rg} {who : Int} (x : Int) (w : World) (H : RgAt w b h r) (h0 : 0 ≤ who ∧ who < (r.n : Int)) (e : r.since who.toNat = x) :
    Calls Try.prog 30 #[.pointer (some ⟨b, 0, none⟩), .int .i64 who] w fun e w' => e = .returned (.int .i64 x) ∧ w = w' := by
  obtain ⟨i, rfl⟩ := Int.eq_ofNat_of_zero_le h0.1
  subst e
  exact rsince_in i w H (by have := h0.2; omega)
theorem fkey_is {w : World} {b g s : Nat} {r : Rg} {who gen now : Int} (k : Two64) (c : Int) (H : RfAt w b g s r) (e : r.key who gen now = (k, c)) :
    Calls Try.prog 28 #[.pointer (some ⟨b, 0, none⟩), .int .i64 who, .int .i64 gen, .int .i64 now] w fun e w' => e = .returned (.tuple #[.agg #[.int .u64 (q k.a), .int .u64 (q k.b)], .int .i64 c]) ∧ w.grownBy w' none := by
  have h := fkey_any who gen now w H
  rw [e] at h
  exact h
section
variable (seed : BitVec 64) (k i : Nat) (j z : Int) (hz : 0 ≤ z ∧ z < (k : Int)) (hne : z ≠ (i : Int))
theorem ro_gen : (ro seed k i j).gen i = j := by simp [ro, Rg.put]
include hz hne
theorem ro_gen_other : (ro seed k i j).gen z.toNat = 0 := by
  have : z.toNat ≠ i := by omega
  simp [ro, Rg.put, Rg.new, this]
theorem ro_since_other : (ro seed k i j).since z.toNat = 0 := by
  have : z.toNat ≠ i := by omega
  simp [ro, Rg.put, Rg.new, this]
theorem ro_key_other : (ro seed k i j).key z 0 1000 = (ofOf seed z 0, 0) :=
  key_yes hz ⟨by decide, .inl (ro_gen_other seed k i j z hz hne).symm⟩
omit hne in
theorem new_key : (Rg.new seed k 5).key z 0 1000 = (ofOf seed z 0, 0) := key_yes hz ⟨by decide, .inl rfl⟩
end

set_option maxHeartbeats 6400000 in
theorem walk (seed : BitVec 64) (n who turns : Int) {w : World} :
    Calls Try.prog 7 #[.int .u64 (q seed), .int .i64 n, .int .i64 who, .int .i64 turns] w fun e w' => e = .returned (.bool true) ∧ w.grownBy w' none := by
  obtain ⟨n0, n0a, n0b, en⟩ := umod_int n 16 (by omega)
  replace en : (IntKind.u64.wrap n).tmod 16 = n0 := en
  replace n0b : n0 < 16 := n0b
  obtain ⟨K, hK⟩ : ∃ K : Nat, (K : Int) = 1 + n0 := ⟨(1 + n0).toNat, by omega⟩
  obtain ⟨I, hI, ew⟩ := umod_small who K (by omega)
  rw [hK] at ew
  obtain ⟨wv, hwv⟩ : ∃ wv : Int, wv = (I : Int) := ⟨_, rfl⟩
  rw [← hwv] at ew
  have w0 : 0 ≤ wv := by omega
  have w1 : wv < 1 + n0 := by omega
  obtain ⟨m, m0, m1, em⟩ := umod_int turns 21 (by omega)
  replace em : (IntKind.u64.wrap turns).tmod 21 = m := em
  replace m1 : m < 21 := m1
  have hn := rnew_ok seed K 5 (by omega) (by omega) (by decide) (by decide) w
  have hf := fun w => fnew_ok seed K 5 (by omega) (by omega) (by decide) (by decide) w
  rw [hK, ← ro_zero seed K I] at hn
  rw [hK] at hf
  have HN := hid (show Calls Try.prog 20 #[.int .u64 (q seed), .int .i64 (1 + n0), .int .i64 5] w _ from hn)
  have HF := hid (show ∀ w, Calls Try.prog 21 #[.int .u64 (q seed), .int .i64 (1 + n0), .int .i64 5] w (MadeF w (.new seed K 5)) from hf)
  have HK := hid hK; have HI := hid hI; have HWV := hid hwv
  clear hn hf hK hI hwv
  go_enter Try.func7, Try.ntmps7
  go_wp2_with fail
  refine HN.out.mono ?_
  rintro e wn ⟨b, h, rfl, hr, hg, hb0, hh0⟩
  have A1 := hid (show Rk w b h _ wn from ⟨chg_grown hg _, hr, hb0, hh0⟩); clear hr hg hb0 hh0
  clear en ew
  go_wp2_with fail
  obtain ⟨kv, hkv⟩ : ∃ kv : Int, kv = 1 + n0 := ⟨_, rfl⟩
  rw [← hkv]
  rw [← hkv] at w1 HF HK
  have kv0 : 1 ≤ kv := by omega
  have kv1 : kv ≤ 16 := by omega
  clear hkv n0a n0b
  go_loopw [12] (fun i wr => ∃ (j z : Int), z = 1 + j ∧ 0 ≤ j ∧ j ≤ m ∧ i = .int .i64 z ∧ Rk w b h (ro seed K I j) wr) (fun i _ => (m + 1 - (intOf i)).toNat)
  case atStart => exact ⟨0, 1, rfl, by omega, by omega, rfl, A1.out⟩
  case round =>
    obtain ⟨j, z, hz, hj0, hj, rfl, ha⟩ := hrel
    have A2 := hid ha; clear ha A1
    by_cases hlt : j < m
    · have HJ := hid hj; have HJ0 := hid hj0
      have HZ := hid hz
      have hd : z ≤ m := by omega
      have hw1 : z ≤ 100 := by omega
      have hw0 : 0 ≤ z := by omega
      have HL := hid hlt
      clear hj hlt hz hj0
      go_wp2_with fail
      have hj := HJ.out; have hlt := HL.out; have hz := HZ.out; have hj0 := HJ0.out
      refine (A2.out.leave (rot_is _ A2.out.r (ro_rot seed K I j z wv HI.out HWV.out (by omega) hj0 (by omega)))).mono ?_
      rintro e w2 ⟨rfl, ha⟩
      have A3 := hid ha; clear ha A2 hj hlt hz hj0
      go_wp2_with fail
      have hj := HJ.out; have hlt := HL.out; have hz := HZ.out; have hj0 := HJ0.out
      go_roundw
      case rel => exact ⟨z, z + 1, by omega, by omega, by omega, by go_num, A3.out⟩
      case measure => simp [intOf]; omega
    · have hjk : j = m := by omega
      have hd : m < z := by omega
      subst hjk
      have AG := hid A2.out.fin; have HR := hid A2.out.r
      clear hj hlt hz hj0
      go_wp2_with fail
      clear hd
      go_loopw [13] (fun i wx => ∃ z2 : Int, 0 ≤ z2 ∧ z2 ≤ kv ∧ i = .int .i64 z2 ∧ Kp wr [] [] wx) (fun i _ => (kv - (intOf i)).toNat)
      case atStart => exact ⟨0, by omega, by omega, rfl, kp_start wr⟩
      case round =>
        obtain ⟨z2, z0, z1, rfl, ha⟩ := hrel
        have L1 := hid ha; clear ha
        have Z0 := hid z0
        by_cases hlt : z2 < kv
        · have HB := hid (show 0 ≤ z2 ∧ z2 < (K : Int) by have := HK.out; omega)
          have Z1 := hid hlt
          have EN := hid (new_key seed K z2 HB.out)
          by_cases hne : z2 = wv
          · subst hne
            have GI := hid (show (ro seed K I j).gen z2.toNat = j by rw [show z2.toNat = I by have := HWV.out; omega]; exact ro_gen seed K I j)
            obtain ⟨k0, c0, e0⟩ : ∃ k c, (ro seed K I j).key z2 0 1000 = (k, c) := ⟨_, _, rfl⟩
            have E0 := hid e0; clear e0
            generalize ofOf seed z2 0 = kz at EN
            clear z1
            go_wp2_with fail
            refine (rkey_is _ _ (HR.out.grown L1.out.g) E0.out).mono ?_
            rintro e w2 ⟨rfl, hg⟩
            have L2 := hid ((L1.out.grown hg).alloc (keyObj k0)); clear hg
            go_wp2_with fail
            refine (rgen_is j _ (HR.out.grown L2.out.g) HB.out GI.out).mono ?_
            rintro e w3 ⟨rfl, rfl⟩
            go_wp2_with fail
            refine (HF.out _).mono ?_
            rintro e w5 ⟨fb, fg, fs, rfl, hf, hg, _, _, _⟩
            have L5 := hid (L2.out.grown hg); have F5 := hid hf; clear hf hg
            go_wp2_with fail
            refine (fkey_is _ _ F5.out EN.out).mono ?_
            rintro e w6 ⟨rfl, hg⟩
            have L6 := hid ((L5.out.grown hg).alloc (keyObj kz)); clear hg
            go_wp2_with fail
            go_roundw
            case rel => exact ⟨z2 + 1, by have := Z0.out; omega, by have := Z1.out; omega, by go_num, (kp_start _).grown L6.out.g⟩
            case measure => have := Z1.out; simp [intOf]; omega
          · have GI := hid (ro_gen_other seed K I j z2 HB.out (by have := HWV.out; omega))
            have SI := hid (ro_since_other seed K I j z2 HB.out (by have := HWV.out; omega))
            have E0 := hid (ro_key_other seed K I j z2 HB.out (by have := HWV.out; omega))
            have hne1 : (z2 != wv) = true := by simpa using hne
            have hne2 : (z2 == wv) = false := by simpa using hne
            clear hne
            generalize ofOf seed z2 0 = kz at EN E0
            have ht : ∀ w, (Op.equalIn 10000 34 (.agg #[.int .u64 (q kz.a), .int .u64 (q kz.b)]) (.agg #[.int .u64 (q kz.a), .int .u64 (q kz.b)])).run Try.prog w = .ok true w := fun w => by
              rw [key_equal]; simp
            clear z1
            go_wp2_with fail
            refine (rkey_is _ _ (HR.out.grown L1.out.g) E0.out).mono ?_
            rintro e w2 ⟨rfl, hg⟩
            have L2 := hid ((L1.out.grown hg).alloc (keyObj kz)); clear hg
            go_wp2_with fail
            refine (rgen_is 0 _ (HR.out.grown L2.out.g) HB.out GI.out).mono ?_
            rintro e w3 ⟨rfl, rfl⟩
            go_wp2_with fail
            refine (rsince_is 0 _ (HR.out.grown L2.out.g) HB.out SI.out).mono ?_
            rintro e w3 ⟨rfl, rfl⟩
            go_wp2_with fail
            refine (HF.out _).mono ?_
            rintro e w5 ⟨fb, fg, fs, rfl, hf, hg, _, _, _⟩
            have L5 := hid (L2.out.grown hg); have F5 := hid hf; clear hf hg
            go_wp2_with fail
            refine (fkey_is _ _ F5.out EN.out).mono ?_
            rintro e w6 ⟨rfl, hg⟩
            have L6 := hid ((L5.out.grown hg).alloc (keyObj kz)); clear hg
            go_wp2_with (first | refine wpList_row_w L6.out.b0 Try.underlying34 rfl (by kernel_rfl) rfl rfl rfl rfl ?_ | refine wpList_row_w L6.out.b1 Try.underlying34 rfl (by kernel_rfl) rfl rfl rfl rfl ?_)
            go_roundw
            case rel => exact ⟨z2 + 1, by have := Z0.out; omega, by have := Z1.out; omega, by go_num, (kp_start _).grown L6.out.g⟩
            case measure => have := Z1.out; simp [intOf]; omega
        · have hz2 : kv ≤ z2 := by omega
          have AL := hid L1.out.g
          go_wp2_with fail
          refine (told_any _).mono ?_
          rintro e w9 ⟨rfl, hg⟩
          have A9 := hid (gb_trans (gb_trans AG.out AL.out (.inl rfl)) hg (.inl rfl)); clear hg
          go_wp2_with fail
          go_ret
          exact ⟨rfl, A9.out⟩
end Go.Proofs.Ytmnmekjbjccamaa.others
