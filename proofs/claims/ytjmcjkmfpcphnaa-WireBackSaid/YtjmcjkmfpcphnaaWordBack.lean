/-
  Eight bytes come back from the number that they make. No condition but on the length. Nothing of the program is named here.
-/
import Derived.Test.YtjmcjkmfpcphnaaNums
set_option linter.unusedSimpArgs false
namespace Go.Proofs.Ytjmcjkmfpcphnaa
set_option maxRecDepth 100000
open Go.RowKit

/-- bit t of the number that k bytes make -/
theorem word_bit (l : List UInt8) (m : Nat) : ∀ (k : Nat), k ≤ 8 → ∀ t, (wordAt l m k).getLsbD t = (decide (t < 8 * k) && (byteAt l (m + t / 8)).toNat.testBit (t % 8))
  | 0, _, t => by simp [wordAt]
  | k + 1, hk, t => by
    have ih := word_bit l m k (by omega) t
    have hb : (byteAt l (m + k)).toNat < 2 ^ 8 := (byteAt l (m + k)).toNat_lt
    unfold wordAt
    rw [BitVec.getLsbD_or, ih, BitVec.getLsbD_shiftLeft, BitVec.getLsbD_ofNat]
    by_cases h1 : t < 8 * k
    · simp [h1, show t < 8 * (k + 1) by omega]
    · by_cases h2 : t < 8 * (k + 1)
      · have e1 : t / 8 = k := by omega
        have e2 : t % 8 = t - 8 * k := by omega
        simp [h1, h2, e1, e2, show t < 64 by omega, show t - 8 * k < 64 by omega]
      · have h3 : (byteAt l (m + k)).toNat.testBit (t - 8 * k) = false := Nat.testBit_lt_two_pow (Nat.lt_of_lt_of_le hb (Nat.pow_le_pow_right (by decide) (by omega)))
        simp [h1, h2, h3]
theorem word_byte (l : List UInt8) (m i : Nat) (hi : i < 8) : putByte (wordAt l m 8) i = byteAt l (m + i) := by
  apply UInt8.toNat_inj.1
  apply Nat.eq_of_testBit_eq
  intro k
  unfold putByte
  rw [UInt8.toNat_ofNat']
  rw [show (2 : Nat) ^ 8 = 2 ^ 8 from rfl, Nat.testBit_mod_two_pow]
  have h1 : (wordAt l m 8 >>> (8 * i)).toNat.testBit k = (wordAt l m 8).getLsbD (8 * i + k) := by
    rw [← BitVec.getLsbD_ushiftRight]; rfl
  rw [h1, word_bit l m 8 (Nat.le_refl 8)]
  by_cases hk : k < 8
  · have e1 : (8 * i + k) / 8 = i := by omega
    have e2 : (8 * i + k) % 8 = k := by omega
    simp [hk, e1, e2, show 8 * i + k < 64 by omega]
  · have h3 : (byteAt l (m + i)).toNat.testBit k = false := Nat.testBit_lt_two_pow (Nat.lt_of_lt_of_le (byteAt l (m + i)).toNat_lt (Nat.pow_le_pow_right (by decide) (by omega)))
    simp [hk, h3]
/-- a list of sixteen bytes is the bytes of its two words -/
theorem put_words (l : List UInt8) (h : l.length = 16) : put8 (wordAt l 0 8) ++ put8 (wordAt l 8 8) = l := by
  match l, h with
  | [b0, b1, b2, b3, b4, b5, b6, b7, b8, b9, b10, b11, b12, b13, b14, b15], _ =>
    simp only [put8, word_byte _ _ _ (show 0 < 8 by decide), word_byte _ _ _ (show 1 < 8 by decide), word_byte _ _ _ (show 2 < 8 by decide), word_byte _ _ _ (show 3 < 8 by decide), word_byte _ _ _ (show 4 < 8 by decide), word_byte _ _ _ (show 5 < 8 by decide), word_byte _ _ _ (show 6 < 8 by decide), word_byte _ _ _ (show 7 < 8 by decide)]
    rfl
end Go.Proofs.Ytjmcjkmfpcphnaa
