/-
  Plain mathematics: the sum of the padded bytes, eight at a time, is the sum of the bytes one by one. No condition.
-/
import Derived.Test.YtmnmekjbjccamaaRefSum
namespace Go.Proofs.Ytmnmekjbjccamaa
set_option maxRecDepth 100000

theorem St.add_n (s : St) (x : UInt8) : (s.add x).n = s.n + 1 := by
  unfold St.add; dsimp only; split <;> rfl
/-- what a hash holds behind so many bytes -/
def stAt (k0 k1 : BitVec 64) (l : List UInt8) (i : Nat) : St := ⟨blocks l (keyed k0 k1) (i / 8), wordAt l (8 * (i / 8)) (i % 8), i⟩
theorem stAt_step (k0 k1 : BitVec 64) (l : List UInt8) (i : Nat) (h : i < l.length) : (stAt k0 k1 l i).add l[i] = stAt k0 k1 l (i + 1) := by
  have hb : byteAt l (8 * (i / 8) + i % 8) = l[i] := by
    rw [show 8 * (i / 8) + i % 8 = i by omega]; exact byteAt_eq h
  have hw : wordAt l (8 * (i / 8)) (i % 8 + 1) = wordAt l (8 * (i / 8)) (i % 8) ||| (BitVec.ofNat 64 (l[i]).toNat <<< (i % 8 * 8)) := by
    rw [wordAt, hb, Nat.mul_comm 8 (i % 8)]
  by_cases h7 : i % 8 = 7
  · rw [St.add_end _ _ (by simpa [stAt] using h7)]
    have e1 : (i + 1) / 8 = i / 8 + 1 := by omega
    have e2 : (i + 1) % 8 = 0 := by omega
    have hw8 : wordAt l (8 * (i / 8)) 8 = wordAt l (8 * (i / 8)) (i % 8) ||| (BitVec.ofNat 64 (l[i]).toNat <<< (i % 8 * 8)) := by
      rw [← hw, h7]
    simp only [stAt, e1, e2, blocks, hw8]
    rfl
  · rw [St.add_mid _ _ (by simpa [stAt] using h7)]
    have e1 : (i + 1) / 8 = i / 8 := by omega
    have e2 : (i + 1) % 8 = i % 8 + 1 := by omega
    simp only [stAt, e1, e2, hw]
theorem stAt_take (k0 k1 : BitVec 64) (l : List UInt8) (i : Nat) (h : i ≤ l.length) : (l.take i).foldl St.add (St.new k0 k1) = stAt k0 k1 l i := by
  induction i with
  | zero => rfl
  | succ i ih =>
    rw [List.take_succ_eq_append_getElem (by omega), List.foldl_append, ih (by omega)]
    exact stAt_step k0 k1 l i (by omega)
theorem stAt_all (k0 k1 : BitVec 64) (l : List UInt8) : l.foldl St.add (St.new k0 k1) = stAt k0 k1 l l.length := by
  have := stAt_take k0 k1 l l.length (Nat.le_refl _)
  rwa [List.take_of_length_le (Nat.le_refl _)] at this

theorem byteAt_left (l r : List UInt8) (i : Nat) (h : i < l.length) : byteAt (l ++ r) i = byteAt l i := by
  rw [byteAt_eq h, byteAt_eq (by simp; omega), List.getElem_append_left h]
theorem wordAt_left (l r : List UInt8) (m k : Nat) (h : m + k ≤ l.length) : wordAt (l ++ r) m k = wordAt l m k := by
  induction k with
  | zero => rfl
  | succ k ih => rw [wordAt, wordAt, ih (by omega), byteAt_left l r _ (by omega)]
theorem blocks_left (l r : List UInt8) (v : W4) (j : Nat) (h : 8 * j ≤ l.length) : blocks (l ++ r) v j = blocks l v j := by
  induction j with
  | zero => rfl
  | succ j ih => rw [blocks, blocks, ih (by omega), wordAt_left l r _ _ (by omega)]
theorem wordAt_zeros (l : List UInt8) (m k j : Nat) (h : ∀ i, k ≤ i → i < k + j → byteAt l (m + i) = 0) : wordAt l m (k + j) = wordAt l m k := by
  induction j with
  | zero => rfl
  | succ j ih =>
    rw [← Nat.add_assoc, wordAt, ih (fun i h1 h2 => h i h1 (by omega)), h (k + j) (by omega) (by omega)]
    simp
theorem padded_list (s : ByteArray) : (padded s).data.toList = s.data.toList ++ (List.replicate (7 - s.size % 8) (0 : UInt8) ++ [UInt8.ofNat s.size]) := by
  unfold padded
  rw [ByteArray.data_append, ByteArray.data_append]
  simp

theorem refSum_eq (k0 k1 : BitVec 64) (s : ByteArray) : refSumOf k0 k1 s = sumOf k0 k1 s.data.toList := by
  have hlen : s.data.toList.length = s.size := by rw [Array.length_toList]; rfl
  unfold refSumOf sumOf
  rw [stAt_all, padded_list]
  generalize hl : s.data.toList = l at *
  have hb : blocks (l ++ (List.replicate (7 - s.size % 8) (0 : UInt8) ++ [UInt8.ofNat s.size])) (keyed k0 k1) (s.size / 8 + 1)
      = stirred (blocks l (keyed k0 k1) (l.length / 8)) (wordAt l (8 * (l.length / 8)) (l.length % 8) ||| (BitVec.ofNat 64 (l.length % 256) <<< 56)) := by
    rw [blocks, blocks_left _ _ _ _ (by omega), ← hlen]
    congr 1
    have hlast : byteAt (l ++ (List.replicate (7 - l.length % 8) (0 : UInt8) ++ [UInt8.ofNat l.length])) (8 * (l.length / 8) + 7) = UInt8.ofNat l.length := by
      rw [byteAt_eq (by simp; omega), List.getElem_append_right (by omega), List.getElem_append_right (by simp; omega)]
      simp
    have hz : ∀ i, l.length % 8 ≤ i → i < l.length % 8 + (7 - l.length % 8) → byteAt (l ++ (List.replicate (7 - l.length % 8) (0 : UInt8) ++ [UInt8.ofNat l.length])) (8 * (l.length / 8) + i) = 0 := by
      intro i h1 h2
      rw [byteAt_eq (by simp; omega), List.getElem_append_right (by omega), List.getElem_append_left (by simp; omega)]
      simp
    have h7 := wordAt_zeros _ (8 * (l.length / 8)) (l.length % 8) (7 - l.length % 8) hz
    rw [show l.length % 8 + (7 - l.length % 8) = 7 by omega] at h7
    rw [wordAt, hlast, h7, wordAt_left _ _ _ _ (by omega)]
    have e : (UInt8.ofNat l.length).toNat = l.length % 256 := by simp
    rw [e]
  rw [hb]
  rfl
end Go.Proofs.Ytmnmekjbjccamaa
