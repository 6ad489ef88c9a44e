/-
  Plain mathematics: a number comes back from its eight bytes, wherever these stand. And slices of words that came in. No condition. Nothing of the program's functions is named here.
-/
import Derived.Test.YtjmcjkmfpcphnaaOwn
namespace Go.Proofs.Ytjmcjkmfpcphnaa
set_option maxRecDepth 100000
open Go.RowKit

theorem byte_mask (n : BitVec 64) (i : Nat) : BitVec.ofNat 64 (putByte n i).toNat <<< (8 * i) = n &&& (255#64 <<< (8 * i)) := by
  have hb : BitVec.ofNat 64 (putByte n i).toNat = (n >>> (8 * i)) &&& 255#64 := by
    apply BitVec.eq_of_toNat_eq
    unfold putByte
    rw [BitVec.toNat_ofNat, BitVec.toNat_and]
    have e : (255#64).toNat = 2 ^ 8 - 1 := by decide
    rw [e, Nat.and_two_pow_sub_one_eq_mod]
    simp
    omega
  rw [hb]
  apply BitVec.eq_of_getLsbD_eq
  intro j hj
  rw [BitVec.getLsbD_shiftLeft, BitVec.getLsbD_and, BitVec.getLsbD_and, BitVec.getLsbD_ushiftRight, BitVec.getLsbD_shiftLeft]
  by_cases h1 : j < 8 * i
  · simp [h1]
  · rw [show 8 * i + (j - 8 * i) = j by omega]
    cases n.getLsbD j <;> simp
theorem mask_all : (255#64 <<< (8 * 0)) ||| (255#64 <<< (8 * 1)) ||| (255#64 <<< (8 * 2)) ||| (255#64 <<< (8 * 3)) ||| (255#64 <<< (8 * 4)) ||| (255#64 <<< (8 * 5)) ||| (255#64 <<< (8 * 6)) ||| (255#64 <<< (8 * 7)) = BitVec.allOnes 64 := by decide
/-- a number comes back from its bytes -/
theorem wordAt_put (l : List UInt8) (m : Nat) (n : BitVec 64) (h : ∀ i, i < 8 → byteAt l (m + i) = putByte n i) : wordAt l m 8 = n := by
  simp only [wordAt]
  rw [h 0 (by omega), h 1 (by omega), h 2 (by omega), h 3 (by omega), h 4 (by omega), h 5 (by omega), h 6 (by omega), h 7 (by omega)]
  rw [byte_mask n 0, byte_mask n 1, byte_mask n 2, byte_mask n 3, byte_mask n 4, byte_mask n 5, byte_mask n 6, byte_mask n 7]
  have z : ∀ x : BitVec 64, 0 ||| x = x := fun x => BitVec.zero_or
  rw [z, ← BitVec.and_or_distrib_left, ← BitVec.and_or_distrib_left, ← BitVec.and_or_distrib_left, ← BitVec.and_or_distrib_left, ← BitVec.and_or_distrib_left, ← BitVec.and_or_distrib_left, ← BitVec.and_or_distrib_left]
  rw [mask_all]
  exact BitVec.and_allOnes
/-- numbers, each in its eight bytes -/
def putAll (l : List (BitVec 64)) : List UInt8 := l.flatMap put8
theorem putAll_length (l : List (BitVec 64)) : (putAll l).length = 8 * l.length := by
  induction l with
  | nil => rfl
  | cons n l ih => simp only [putAll, List.flatMap_cons, List.length_append, put8_length, List.length_cons] at ih ⊢; rw [ih]; omega
theorem putAll_snoc (l : List (BitVec 64)) (n : BitVec 64) : putAll (l ++ [n]) = putAll l ++ put8 n := by simp [putAll]
theorem put8_byte (n : BitVec 64) (i : Nat) (h : i < 8) : byteAt (put8 n) i = putByte n i := by
  match i, h with
  | 0, _ => rfl
  | 1, _ => rfl
  | 2, _ => rfl
  | 3, _ => rfl
  | 4, _ => rfl
  | 5, _ => rfl
  | 6, _ => rfl
  | 7, _ => rfl
theorem byteAt_right (l r : List UInt8) (i : Nat) (h : i < r.length) : byteAt (l ++ r) (l.length + i) = byteAt r i := by
  rw [byteAt_eq (by simp; omega), byteAt_eq h, List.getElem_append_right (by omega)]
  congr 1
  omega
theorem byteAt_first (l r : List UInt8) (i : Nat) (h : i < l.length) : byteAt (l ++ r) i = byteAt l i := by
  rw [byteAt_eq h, byteAt_eq (by simp; omega), List.getElem_append_left h]
theorem putAll_byte (l : List (BitVec 64)) (k i : Nat) (hk : k < l.length) (hi : i < 8) : byteAt (putAll l) (8 * k + i) = putByte l[k] i := by
  induction l generalizing k with
  | nil => cases hk
  | cons n l ih =>
    have e : putAll (n :: l) = put8 n ++ putAll l := by simp [putAll]
    rw [e]
    cases k with
    | zero => rw [show 8 * 0 + i = i by omega, byteAt_first _ _ _ (by rw [put8_length]; exact hi)]; exact put8_byte n i hi
    | succ k =>
      have hk' : k < l.length := by simpa using hk
      rw [show 8 * (k + 1) + i = (put8 n).length + (8 * k + i) by rw [put8_length]; omega, byteAt_right _ _ _ (by rw [putAll_length]; omega)]
      exact ih k hk'
/-- each number of those behind bytes ahead -/
theorem wordAt_all (a : List UInt8) (l : List (BitVec 64)) (k : Nat) (hk : k < l.length) : wordAt (a ++ putAll l) (a.length + 8 * k) 8 = l[k] := by
  apply wordAt_put
  intro i hi
  rw [Nat.add_assoc, byteAt_right _ _ _ (by rw [putAll_length]; omega)]
  exact putAll_byte l k i hk hi

/-- a slice that reads as these words -/
def NumsAt (w : World) (v : Value) (l : List (BitVec 64)) : Prop :=
  (v = .slice none 0 0 ∧ l = []) ∨
  ∃ a cap, v = .slice (some a) l.length cap ∧ l.length ≤ cap ∧ cap ≤ maxLen ∧ ∀ i, (h : i < l.length) → w.cell? (a.add i) = some (.int .u64 (q l[i]))
theorem NumsAt.grown {w w1 : World} {v : Value} {l : List (BitVec 64)} (h : NumsAt w v l) (hg : w.grownBy w1 none) : NumsAt w1 v l := by
  rcases h with h | ⟨a, cap, rfl, h1, h2, h3⟩
  · exact .inl h
  · exact .inr ⟨a, cap, rfl, h1, h2, fun i hi => hg.cell (h3 i hi) (by simp)⟩
theorem NumsAt.cells {w : World} {v : Value} {l : List (BitVec 64)} (h : NumsAt w v l) (hp : 0 < l.length) :
    ∃ ab ao cap, v = .slice (some ⟨ab, ao, none⟩) l.length cap ∧ ∀ i, (h : i < l.length) → w.cell? ⟨ab, ao + i, none⟩ = some (.int .u64 (q l[i])) := by
  rcases h with ⟨_, rfl⟩ | ⟨⟨ab, ao, asp⟩, cap, rfl, _, _, h3⟩
  · cases hp
  · have h0 := h3 0 hp
    have hsp : asp = none := by simpa [Addr.add] using World.cell?_spot h0
    subst hsp
    refine ⟨ab, ao, cap, rfl, fun i hi => ?_⟩
    have := h3 i hi
    unfold Addr.add at this
    split at this
    · next h => subst h; simpa using this
    · simpa using this
end Go.Proofs.Ytjmcjkmfpcphnaa
