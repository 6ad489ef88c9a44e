/-
  The walk of the statement SectorTorn: of a torn write just the first bytes are there, the others as they were; all other sectors stay. No condition.
-/
import Derived.Test.YtjjlakekjihnoaaSeT
import Derived.Test.YtjjlakekjihnoaaUmi
set_option linter.unusedSimpArgs false
set_option linter.unusedVariables false
namespace Go.Proofs.Ytjjlakekjihnoaa.lstorn
set_option maxRecDepth 100000
open Go.RowKit

/-- i of five sectors are written -/
def dA (a : UInt8) (i : Nat) : Dk := ⟨List.replicate i (rep a) ++ List.replicate (5 - i) (rep 0), false, 0, false, i⟩
theorem dA_step (a : UInt8) {i : Nat} (h : i < 5) : (dA a i).code (i : Int) (rep a) = 0 ∧ (dA a i).write (i : Int) (rep a) = dA a (i + 1) ∧ (dA a i).n < 1000000000 := by
  have : i = 0 ∨ i = 1 ∨ i = 2 ∨ i = 3 ∨ i = 4 := by omega
  rcases this with rfl | rfl | rfl | rfl | rfl <;> exact ⟨rfl, rfl, by simp [dA]⟩
def dT (a b : UInt8) (k st : Nat) : Dk := ⟨(List.replicate 5 (rep a)).set k ((rep b).take st ++ (rep a).drop st), false, st, true, 6⟩
theorem dT_code (a b : UInt8) {k : Nat} (h : k < 5) (n : Int) : ((dA a 5).tear n).code (k : Int) (rep b) = 10 ∧ ((dA a 5).tear n).write (k : Int) (rep b) = dT a b k (clampS n) ∧ ((dA a 5).tear n).n < 1000000000 := by
  have : k = 0 ∨ k = 1 ∨ k = 2 ∨ k = 3 ∨ k = 4 := by omega
  rcases this with rfl | rfl | rfl | rfl | rfl <;> exact ⟨rfl, rfl, by show 5 < _; omega⟩
theorem dT_ends (a b : UInt8) (k st : Nat) : (dT a b k st).down = true ∧ (dT a b k st).code 0 (rep 1) = 10 ∧ (dT a b k st).write 0 (rep 1) = dT a b k st ∧ (dT a b k st).n < 1000000000 := ⟨rfl, rfl, rfl, by show 6 < _; omega⟩
theorem dT_has (a b : UInt8) (k st : Nat) {i : Nat} (h : i < 5) : readC (dT a b k st) (i : Int) = 0 ∧ readL (dT a b k st) (i : Int) = (dT a b k st).at i := by
  have : (dT a b k st).has (i : Int) = true := Dk.has_of (by unfold dT; simpa using h)
  unfold readC readL; rw [this]; exact ⟨rfl, rfl⟩
theorem dT_at (a b : UInt8) {k : Nat} (hk : k < 5) (st : Nat) {i : Nat} (h : i < 5) : (dT a b k st).at i = if i = k then (rep b).take st ++ (rep a).drop st else rep a := by
  unfold dT Dk.at
  rw [List.getD_eq_getElem?_getD, List.getElem?_set]
  by_cases e : k = i
  · rw [if_pos e, if_pos (by simpa using hk), if_pos e.symm]; rfl
  · rw [if_neg e, if_neg (fun x => e x.symm), List.getElem?_replicate, if_pos h]; rfl
theorem dT_len (a b : UInt8) {k : Nat} (hk : k < 5) {st : Nat} (hs : st ≤ 64) {i : Nat} (h : i < 5) : ((dT a b k st).at i).length = 64 := by
  rw [dT_at a b hk st h]
  split
  · simp; omega
  · simp
theorem dT_byte (a b : UInt8) {k : Nat} (hk : k < 5) (n : Int) {i : Nat} (h : i < 5) {j : Nat} (hj : j < 64) : ((dT a b k (clampS n)).at i).getD j 0 = if i = k ∧ (j : Int) < n then b else a := by
  rw [dT_at a b hk _ h]
  have hs := clampS_eq n
  by_cases e : i = k
  · rw [if_pos e, List.getD_eq_getElem?_getD, List.getElem?_append, List.length_take, List.length_replicate]
    by_cases e2 : (j : Int) < n
    · rw [if_pos (show i = k ∧ (j : Int) < n from ⟨e, e2⟩), if_pos (by omega), List.getElem?_take, if_pos (by omega), List.getElem?_replicate, if_pos hj]; rfl
    · rw [if_neg (show ¬ (i = k ∧ (j : Int) < n) from fun x => e2 x.2), if_neg (by omega), List.getElem?_drop, List.getElem?_replicate, if_pos (by omega)]; rfl
  · rw [if_neg e, if_neg (fun x => e x.1), List.getD_eq_getElem?_getD, List.getElem?_replicate, if_pos hj]; rfl

set_option maxHeartbeats 12800000 in
theorem walk {w : World} (a b : UInt8) (n q : Int) :
    Calls Try.prog 5 #[.int .u8 (a.toNat : Int), .int .u8 (b.toNat : Int), .int .i64 n, .int .i64 q] w fun e w' => e = .returned (.bool true) ∧ w.grownBy w' none := by
  obtain ⟨k, hk, mk⟩ := umod_small q 5 (by omega)
  rw [show ((5 : Nat) : Int) = 5 from rfl] at mk
  have wk : IntKind.i64.wrap (k : Int) = (k : Int) := IntWalk.i64_in _ (by omega)
  have S0 := hid (show Dk.new 5 = dA a 0 from rfl)
  have SA := hid (fun i h => dA_step a (i := i) h)
  have ST := hid (dT_code a b hk n)
  have HE := hid (dT_ends a b k (clampS n)); have HA := hid (fun i h => dT_has a b k (clampS n) (i := i) h)
  have HL := hid (fun i h => dT_len a b hk (clampS_le n) (i := i) h); have HB := hid (fun i h j hj => dT_byte a b hk n (i := i) h (j := j) hj)
  obtain ⟨dt, hdt⟩ : ∃ d, (dA a 5).tear n = d := ⟨_, rfl⟩
  have HDT := hid hdt
  rw [hdt] at ST
  generalize dT a b k (clampS n) = d6 at *
  obtain ⟨A, hA⟩ : ∃ A : Int, (a.toNat : Int) = A := ⟨_, rfl⟩
  obtain ⟨B, hB⟩ : ∃ B : Int, (b.toNat : Int) = B := ⟨_, rfl⟩
  rw [hA, hB]
  have HHA := hid hA; have HHB := hid hB
  clear hdt hA hB
  obtain ⟨D, hD⟩ : ∃ D, dA a = D := ⟨_, rfl⟩
  rw [hD] at S0 SA HDT
  clear hD
  go_enter Try.func5, Try.ntmps5
  go_wp2_with fail
  refine (dnew_as 5 rfl (by decide) (by decide) _).mono ?_
  rintro e w1 ⟨c, s, rfl, hd, hg, h1, h2⟩
  rw [S0.out] at hd
  have K := hid (Sk.start hd hg h1 h2 (.refl w none)); clear hd hg h1 h2
  go_wp2_with fail
  go_loopw [11] (fun i wr => ∃ j : Nat, j ≤ 5 ∧ i = .int .i64 (j : Int) ∧ Sk w c s (D j) [] wr) (fun i _ => 5 - (intOf i).toNat)
  case atStart => exact ⟨0, Nat.zero_le _, rfl, K.out⟩
  case round =>
    obtain ⟨j, hj, rfl, hk1⟩ := hrel
    replace K := hid hk1; clear hk1
    by_cases hlt : j < 5
    · have hj1 : (j : Int) < 5 := by omega
      obtain ⟨s1, s2, s3⟩ := SA.out j hlt
      have S1 := hid s1; have S2 := hid s2; have S3 := hid s3
      clear s1 s2 s3
      go_wp2_with fail
      refine (K.out.fill a HHA.out).mono ?_
      rintro e w2 ⟨v, rfl, hk1⟩
      replace K := hid hk1; clear hk1
      go_wp2_with fail
      refine (K.out.write (j : Int) S3.out S1.out S2.out).mono ?_
      rintro e w3 ⟨rfl, hk1⟩
      replace K := hid hk1; clear hk1
      go_wp2_with fail
      go_roundw
      case rel => exact ⟨j + 1, by omega, by go_num, K.out⟩
      case measure => simp [intOf]; omega
    · have hj2 : j = 5 := by omega
      subst hj2
      go_wp2_with fail
      refine (K.out.tear n HDT.out).mono ?_
      rintro e w2 ⟨rfl, hk1⟩
      replace K := hid hk1; clear hk1
      go_wp2_with fail
      refine (K.out.fill b HHB.out).mono ?_
      rintro e w3 ⟨v, rfl, hk1⟩
      replace K := hid hk1; clear hk1
      go_wp2_with fail
      refine (K.out.write (k : Int) ST.out.2.2 ST.out.1 ST.out.2.1).mono ?_
      rintro e w4 ⟨rfl, hk1⟩
      replace K := hid hk1; clear hk1
      clear S0 SA ST HDT hlt hj
      go_wp2_with fail
      go_loopw [13] (fun i wr => ∃ j : Nat, j ≤ 5 ∧ i = .int .i64 (j : Int) ∧ Sk w c s d6 [] wr) (fun i _ => 5 - (intOf i).toNat)
      case atStart => exact ⟨0, Nat.zero_le _, rfl, K.out⟩
      case round =>
        obtain ⟨i, hi, rfl, hk1⟩ := hrel
        replace K := hid hk1; clear hk1
        by_cases hlt : i < 5
        · have hi1 : (i : Int) < 5 := by omega
          have HX := hid (HL.out i hlt); have HBI := hid (HB.out i hlt); have RC := hid (HA.out i hlt).1; have RL := hid (HA.out i hlt).2
          go_wp2_with fail
          refine (K.out.read (i : Int) RL.out RC.out).mono ?_
          rintro e w5 ⟨u, rfl, ho, hg, hk1⟩
          obtain ⟨g, cx, rfl, hcx, -, -, -⟩ := ho.whole HX.out (by decide)
          replace K := hid hk1; clear hk1 ho hg RC RL
          go_wp2_with fail
          go_loopw [16] (fun jj wr => ∃ j : Nat, j ≤ 64 ∧ jj = .int .i64 (j : Int) ∧ w5 = wr) (fun jj _ => 64 - (intOf jj).toNat)
          case atStart => exact ⟨0, Nat.zero_le _, rfl, rfl⟩
          case round =>
            obtain ⟨j, hj, rfl, rfl⟩ := hrel
            by_cases hl2 : j < 64
            · have hj0 : (0 : Int) ≤ (j : Int) := by omega
              have hj1 : (j : Int) < 64 := by omega
              have cb := byte_at K.out.r0 j (by rw [HX.out]; exact hl2)
              have hb := HBI.out j hl2
              by_cases e1 : i = k
              · have e1' : (i : Int) = (k : Int) := by omega
                by_cases e2 : (j : Int) < n
                · rw [hb, if_pos ⟨e1, e2⟩, HHB.out] at cb
                  clear hb e1
                  go_wp2_with fail
                  go_roundw
                  case rel => exact ⟨j + 1, by omega, by go_num, by simp⟩
                  case measure => simp [intOf]; omega
                · rw [hb, if_neg (fun x => e2 x.2), HHA.out] at cb
                  clear hb e1
                  go_wp2_with fail
                  go_roundw
                  case rel => exact ⟨j + 1, by omega, by go_num, by simp⟩
                  case measure => simp [intOf]; omega
              · have e1' : ¬ (i : Int) = (k : Int) := by omega
                rw [hb, if_neg (fun x => e1 x.1), HHA.out] at cb
                clear hb e1
                go_wp2_with fail
                go_roundw
                case rel => exact ⟨j + 1, by omega, by go_num, by simp⟩
                case measure => simp [intOf]; omega
            · have hj2 : j = 64 := by omega
              subst hj2
              go_wp2_with fail
              go_roundw
              case rel => exact ⟨i + 1, by omega, by go_num, K.out.tl⟩
              case measure => simp [intOf]; omega
        · have hi2 : i = 5 := by omega
          subst hi2
          go_wp2_with fail
          refine (told_any _).mono ?_
          rintro e w11 ⟨rfl, hg⟩
          replace K := hid (K.out.grown hg); clear hg
          go_wp2_with fail
          refine (K.out.down HE.out.1).mono ?_
          rintro e w12 ⟨rfl, rfl⟩
          go_wp2_with fail
          refine (K.out.fill 1 rfl).mono ?_
          rintro e w13 ⟨v, rfl, hk1⟩
          replace K := hid hk1; clear hk1
          go_wp2_with fail
          refine (K.out.write 0 HE.out.2.2.2 HE.out.2.1 HE.out.2.2.1).mono ?_
          rintro e w14 ⟨rfl, hk1⟩
          replace K := hid hk1; clear hk1
          go_wp2_with fail
          go_ret
          exact ⟨rfl, K.out.gr⟩
end Go.Proofs.Ytjjlakekjihnoaa.lstorn
