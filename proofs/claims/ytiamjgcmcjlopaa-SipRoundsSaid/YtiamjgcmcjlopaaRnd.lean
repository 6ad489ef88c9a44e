/-
  Plain mathematics: a round of the hash is one to one on four words. No condition.
-/
import Derived.Test.YtiamjgcmcjlopaaPure
namespace Go.Proofs.Ytiamjgcmcjlopaa

theorem rotl_bit (x : BitVec 64) (n i : Nat) (h1 : n < 64) (hi : i < 64) : (rotl x n).getLsbD (if i + n < 64 then i + n else i + n - 64) = x.getLsbD i := by
  unfold rotl
  rw [BitVec.getLsbD_or, BitVec.getLsbD_shiftLeft, BitVec.getLsbD_ushiftRight]
  by_cases h : i + n < 64
  · rw [if_pos h]
    have e : x.getLsbD (64 - n + (i + n)) = false := BitVec.getLsbD_of_ge _ _ (by omega)
    rw [e]
    have e2 : decide (i + n < 64) = true := by simpa using h
    have e3 : decide (i + n < n) = false := by simp
    rw [e2, e3, show i + n - n = i by omega]
    simp
  · rw [if_neg h]
    have e3 : decide (i + n - 64 < n) = true := by simp; omega
    rw [e3, show 64 - n + (i + n - 64) = i by omega]
    simp
theorem rotl_inj {x y : BitVec 64} (n : Nat) (h1 : n < 64) (h : rotl x n = rotl y n) : x = y := by
  apply BitVec.eq_of_getLsbD_eq
  intro i hi
  rw [← rotl_bit x n i h1 hi, ← rotl_bit y n i h1 hi, h]
theorem xor_right {x y z : BitVec 64} (h : x ^^^ z = y ^^^ z) : x = y := by
  have := congrArg (· ^^^ z) h
  simpa [BitVec.xor_assoc] using this
theorem add_right {x y z : BitVec 64} (h : x + z = y + z) : x = y := by
  have := congrArg (· - z) h
  simpa using this

theorem rnd_inj {a b c d a' b' c' d' : BitVec 64} (h : rnd a b c d = rnd a' b' c' d') : a = a' ∧ b = b' ∧ c = c' ∧ d = d' := by
  simp only [rnd, Prod.mk.injEq] at h
  obtain ⟨h1, h2, h3, h4⟩ := h
  have c2 := rotl_inj 32 (by omega) h3
  rw [c2] at h2
  have b1 := rotl_inj 17 (by omega) (xor_right h2)
  rw [b1] at c2
  have c1 := add_right c2
  rw [h1] at h4
  have d1 := rotl_inj 21 (by omega) (xor_right h4)
  rw [d1] at h1
  have a1 := rotl_inj 32 (by omega) (add_right h1)
  rw [a1] at b1
  have hb := rotl_inj 13 (by omega) (xor_right b1)
  rw [c1] at d1
  have hd := rotl_inj 16 (by omega) (xor_right d1)
  rw [hb] at a1
  rw [hd] at c1
  exact ⟨add_right a1, hb, add_right c1, hd⟩
end Go.Proofs.Ytiamjgcmcjlopaa
