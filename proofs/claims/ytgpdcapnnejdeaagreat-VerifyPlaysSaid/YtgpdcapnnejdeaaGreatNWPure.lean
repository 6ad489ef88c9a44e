/-
  Plain arithmetic of messages: which may be, their 32 bytes, what is read from bytes; a message comes back from its bytes, and from these alone; the document's own way is the same one. No condition. Nothing of the program is named here.
-/
import Derived.Test.YtgpdcapnnejdeaaGreatY4
set_option linter.unusedSimpArgs false
namespace Go.Proofs.YtgpdcapnnejdeaaGreat
set_option maxRecDepth 100000
open Go.RowKit

structure Mg where
 kind : Int
 who : Int
 gen : Int
 seq : Int
 epoch : Int
 value : Int
 metric : Int
def May (m : Mg) : Prop := (1 ≤ m.kind ∧ m.kind ≤ 3) ∧ (0 ≤ m.who ∧ m.who ≤ 15) ∧ (0 ≤ m.gen ∧ m.gen ≤ 60000) ∧ (1 ≤ m.seq ∧ m.seq ≤ 1099511627776) ∧ (0 ≤ m.epoch ∧ m.epoch ≤ 1099511627776) ∧
 (m.kind = 1 → (0 ≤ m.metric ∧ m.metric ≤ 3) ∧ (0 ≤ m.value ∧ m.value ≤ 1099511627776)) ∧ (m.kind ≠ 1 → m.metric = 0 ∧ m.value = 0)
instance (m : Mg) : Decidable (May m) := by unfold May; infer_instance
def mayOf (m : Mg) : Bool := decide (May m)
theorem may_of {m : Mg} (h : mayOf m = true) : May m := of_decide_eq_true h
theorem may_metric {m : Mg} (h : May m) : (0 ≤ m.metric ∧ m.metric ≤ 3) ∧ (0 ≤ m.value ∧ m.value ≤ 1099511627776) := by
 obtain ⟨_, _, _, _, _, h6, h7⟩ := h
 by_cases e : m.kind = 1
 ·exact h6 e
 ·have := h7 e; omega

def w64 (n : Int) : BitVec 64 := BitVec.ofInt 64 n
def headOf (m : Mg) : BitVec 64 := 1#64 ||| w64 m.kind <<< 8 ||| w64 m.who <<< 16 ||| w64 m.metric <<< 24 ||| w64 m.gen <<< 32
def putOf (m : Mg) : List UInt8 := put8 (headOf m) ++ put8 (w64 m.seq) ++ put8 (w64 m.epoch) ++ put8 (w64 m.value)
theorem putOf_all (m : Mg) : putOf m = putAll [headOf m, w64 m.seq, w64 m.epoch, w64 m.value] := by simp [putOf, putAll]
theorem putOf_length (m : Mg) : (putOf m).length = 32 := rfl

theorem w64_toNat {n : Int} (h0 : 0 ≤ n) (h1 : n < 18446744073709551616) : (w64 n).toNat = n.toNat := by
 unfold w64; rw [BitVec.toNat_ofInt]; omega
theorem or_shift (x y : BitVec 64) (i : Nat) (hx : x.toNat < 2 ^ i) (hy : y.toNat * 2 ^ i < 2 ^ 64) : (x ||| y <<< i).toNat = x.toNat + y.toNat * 2 ^ i := by
 rw [BitVec.toNat_or, BitVec.toNat_shiftLeft, Nat.shiftLeft_eq, Nat.mod_eq_of_lt hy, Nat.or_comm, ← Nat.shiftLeft_eq, ← Nat.shiftLeft_add_eq_or_of_lt hx, Nat.shiftLeft_eq, Nat.add_comm]
theorem head_nat {m : Mg} (h : May m) : (headOf m).toNat = 1 + m.kind.toNat * 256 + m.who.toNat * 65536 + m.metric.toNat * 16777216 + m.gen.toNat * 4294967296 := by
 have hm := may_metric h
 obtain ⟨hk, hw, hg, _⟩ := h
 have k := w64_toNat (n := m.kind) (by omega) (by omega)
 have w := w64_toNat (n := m.who) (by omega) (by omega)
 have t := w64_toNat (n := m.metric) (by omega) (by omega)
 have g := w64_toNat (n := m.gen) (by omega) (by omega)
 unfold headOf
 have e1 := or_shift 1#64 (w64 m.kind) 8 (by decide) (by rw [k]; omega)
 rw [k] at e1
 have e2 := or_shift (1#64 ||| w64 m.kind <<< 8) (w64 m.who) 16 (by rw [e1]; simp; omega) (by rw [w]; omega)
 rw [e1, w] at e2
 have e3 := or_shift (1#64 ||| w64 m.kind <<< 8 ||| w64 m.who <<< 16) (w64 m.metric) 24 (by rw [e2]; simp; omega) (by rw [t]; omega)
 rw [e2, t] at e3
 have e4 := or_shift (1#64 ||| w64 m.kind <<< 8 ||| w64 m.who <<< 16 ||| w64 m.metric <<< 24) (w64 m.gen) 32 (by rw [e3]; simp; omega) (by rw [g]; omega)
 rw [e3, g] at e4
 rw [e4]; simp

theorem byte_of (x : BitVec 64) (i n : Nat) (h : x.toNat / 2 ^ (8 * i) % 256 = n % 256) : putByte x i = UInt8.ofNat n := by
 unfold putByte
 apply UInt8.toNat_inj.1
 rw [BitVec.toNat_ushiftRight, Nat.shiftRight_eq_div_pow]
 simp only [UInt8.toNat_ofNat']
 exact h
def u8of (n : Int) : UInt8 := UInt8.ofNat (n % 256).toNat
theorem u8of_wrap (n : Int) : IntKind.u8.wrap n = ((u8of n).toNat : Int) := by
 have h : IntKind.u8.wrap n = n % 256 := by simp [IntKind.wrap, IntKind.bits, IntKind.signed]
 rw [h]
 unfold u8of
 simp only [UInt8.toNat_ofNat']
 omega
theorem head_byte0 {m : Mg} (h : May m) : putByte (headOf m) 0 = 1 := byte_of _ 0 1 (by rw [head_nat h]; simp; omega)
theorem head_byte1 {m : Mg} (h : May m) : putByte (headOf m) 1 = u8of m.kind := byte_of _ 1 _ (by have := may_metric h; rw [head_nat h]; obtain ⟨_, _, _, _⟩ := h; simp; omega)
theorem head_byte2 {m : Mg} (h : May m) : putByte (headOf m) 2 = u8of m.who := byte_of _ 2 _ (by have := may_metric h; rw [head_nat h]; obtain ⟨_, _, _, _⟩ := h; simp; omega)
theorem head_byte3 {m : Mg} (h : May m) : putByte (headOf m) 3 = u8of m.metric := byte_of _ 3 _ (by have := may_metric h; rw [head_nat h]; obtain ⟨_, _, _, _⟩ := h; simp; omega)
theorem head_gen {m : Mg} (h : May m) (i : Nat) (hi : i < 4) : putByte (headOf m) (4 + i) = putByte (w64 m.gen) i := by
 have hm := may_metric h
 have hn := head_nat h
 obtain ⟨_, _, hg, _⟩ := h
 have g := w64_toNat (n := m.gen) (by omega) (by omega)
 refine (byte_of _ _ ((w64 m.gen).toNat / 2 ^ (8 * i)) ?_).trans (byte_of _ _ _ rfl).symm
 rw [hn, g]
 rcases (by omega : i = 0 ∨ i = 1 ∨ i = 2 ∨ i = 3) with rfl | rfl | rfl | rfl <;> simp <;> omega
theorem gen_high {m : Mg} (h : May m) (i : Nat) (hi : 4 ≤ i) (h8 : i < 8) : putByte (w64 m.gen) i = 0 := by
 obtain ⟨_, _, hg, _⟩ := h
 have g := w64_toNat (n := m.gen) (by omega) (by omega)
 refine byte_of _ _ 0 ?_
 rw [g]
 rcases (by omega : i = 4 ∨ i = 5 ∨ i = 6 ∨ i = 7) with rfl | rfl | rfl | rfl <;> simp <;> omega

def refPutOf (m : Mg) : List UInt8 := [1, u8of m.kind, u8of m.who, u8of m.metric] ++ (put8 (w64 m.gen)).take 4 ++ put8 (w64 m.seq) ++ put8 (w64 m.epoch) ++ put8 (w64 m.value)
theorem refPut_eq {m : Mg} (h : May m) : refPutOf m = putOf m := by
 have e0 := head_byte0 h; have e1 := head_byte1 h; have e2 := head_byte2 h; have e3 := head_byte3 h
 have g0 := head_gen h 0 (by omega); have g1 := head_gen h 1 (by omega); have g2 := head_gen h 2 (by omega); have g3 := head_gen h 3 (by omega)
 have hh : put8 (headOf m) = [1, u8of m.kind, u8of m.who, u8of m.metric] ++ (put8 (w64 m.gen)).take 4 := by
  simp only [Nat.add_zero, Nat.reduceAdd] at g0 g1 g2 g3
  simp [put8, e0, e1, e2, e3, g0, g1, g2, g3]
 unfold putOf refPutOf
 rw [hh]

def readOf (l : List UInt8) : Mg where
 kind := ((wordAt l 0 8).toNat / 256 % 256 : Nat)
 who := ((wordAt l 0 8).toNat / 65536 % 256 : Nat)
 gen := ((wordAt l 0 8).toNat / 4294967296 : Nat)
 seq := (wordAt l 8 8).toInt
 epoch := (wordAt l 16 8).toInt
 value := (wordAt l 24 8).toInt
 metric := ((wordAt l 0 8).toNat / 16777216 % 256 : Nat)
def getOf (l : List UInt8) : Option Mg := if l.length = 32 ∧ (wordAt l 0 8).toNat % 256 = 1 ∧ May (readOf l) then some (readOf l) else none

theorem word_at (a : List (BitVec 64)) (k : Nat) (hk : k < a.length) : wordAt (putAll a) (8 * k) 8 = a[k] := by
 have := wordAt_all [] a k hk
 simpa using this
theorem put_w0 (m : Mg) : wordAt (putOf m) 0 8 = headOf m := by rw [putOf_all]; exact word_at _ 0 (by simp)
theorem put_w1 (m : Mg) : wordAt (putOf m) 8 8 = w64 m.seq := by rw [putOf_all]; exact word_at _ 1 (by simp)
theorem put_w2 (m : Mg) : wordAt (putOf m) 16 8 = w64 m.epoch := by rw [putOf_all]; exact word_at _ 2 (by simp)
theorem put_w3 (m : Mg) : wordAt (putOf m) 24 8 = w64 m.value := by rw [putOf_all]; exact word_at _ 3 (by simp)
theorem w64_toInt {n : Int} (h0 : 0 ≤ n) (h1 : n ≤ 1099511627776) : (w64 n).toInt = n := by
 unfold w64; rw [BitVec.toInt_ofInt]; exact Int.bmod_eq_of_le (by omega) (by omega)
theorem w64_of (x : BitVec 64) : w64 x.toInt = x := BitVec.ofInt_toInt
theorem read_put {m : Mg} (h : May m) : readOf (putOf m) = m := by
 have hm := may_metric h
 have hn := head_nat h
 obtain ⟨hk, hw, hg, hs, he, _⟩ := h
 have s := w64_toInt (n := m.seq) (by omega) (by omega)
 have e := w64_toInt (n := m.epoch) (by omega) (by omega)
 have v := w64_toInt (n := m.value) (by omega) (by omega)
 unfold readOf
 rw [put_w0, put_w1, put_w2, put_w3, s, e, v, hn]
 cases m with | mk kind who gen seq epoch value metric =>
 simp only at hk hw hg hm ⊢
 congr 1 <;> omega
theorem get_put {m : Mg} (h : May m) : getOf (putOf m) = some m := by
 unfold getOf
 rw [read_put h, put_w0, head_nat h, if_pos ⟨putOf_length m, by omega, h⟩]
theorem all_words (l : List UInt8) (h : l.length = 32) : l = putAll [wordAt l 0 8, wordAt l 8 8, wordAt l 16 8, wordAt l 24 8] := by
 apply List.ext_getElem
 ·rw [putAll_length]; simpa using h
 intro j h1 h2
 rw [← byteAt_eq h1, ← byteAt_eq h2]
 have hj : j < 32 := by omega
 have hd : j = 8 * (j / 8) + j % 8 := by omega
 rw [hd, putAll_byte _ (j / 8) (j % 8) (by simp; omega) (by omega)]
 rcases (by omega : j / 8 = 0 ∨ j / 8 = 1 ∨ j / 8 = 2 ∨ j / 8 = 3) with e | e | e | e <;> rw [← hd] <;> simp only [e, List.getElem_cons_zero, List.getElem_cons_succ] <;> rw [word_byte l _ (j % 8) (by omega)] <;> congr 1 <;> omega
theorem put_get {l : List UInt8} {m : Mg} (h : getOf l = some m) : May m ∧ l = putOf m := by
 unfold getOf at h
 split at h
 ·rename_i hc
  obtain ⟨hl, h1, hm⟩ := hc
  cases h
  refine ⟨hm, ?_⟩
  rw [putOf_all]
  have hh : headOf (readOf l) = wordAt l 0 8 := by
   apply BitVec.eq_of_toNat_eq
   rw [head_nat hm]
   unfold readOf
   simp only [Int.toNat_natCast]
   have := (wordAt l 0 8).isLt
   omega
  have hs : w64 (readOf l).seq = wordAt l 8 8 := w64_of _
  have he : w64 (readOf l).epoch = wordAt l 16 8 := w64_of _
  have hv : w64 (readOf l).value = wordAt l 24 8 := w64_of _
  rw [hh, hs, he, hv]
  exact all_words l hl
 ·cases h

def refReadOf (l : List UInt8) : Mg where
 kind := (byteAt l 1).toNat
 who := (byteAt l 2).toNat
 gen := (wordAt ((l.drop 4).take 4 ++ [0, 0, 0, 0]) 0 8).toInt
 seq := (wordAt l 8 8).toInt
 epoch := (wordAt l 16 8).toInt
 value := (wordAt l 24 8).toInt
 metric := (byteAt l 3).toNat
def refGetOf (l : List UInt8) : Option Mg := if l.length = 32 ∧ May (refReadOf l) ∧ refPutOf (refReadOf l) = l then some (refReadOf l) else none
theorem put_byte (m : Mg) (i : Nat) (h : i < 8) : byteAt (putOf m) i = putByte (headOf m) i := by
 rw [putOf_all]; have := putAll_byte [headOf m, w64 m.seq, w64 m.epoch, w64 m.value] 0 i (by simp) h; simpa using this
theorem u8of_nat {n : Int} (h0 : 0 ≤ n) (h1 : n < 256) : ((u8of n).toNat : Int) = n := by
 unfold u8of; simp only [UInt8.toNat_ofNat']; omega
theorem refread_put {m : Mg} (h : May m) : refReadOf (putOf m) = m := by
 have hm := may_metric h
 have b1 := put_byte m 1 (by omega); have b2 := put_byte m 2 (by omega); have b3 := put_byte m 3 (by omega)
 rw [head_byte1 h] at b1; rw [head_byte2 h] at b2; rw [head_byte3 h] at b3
 have hgen : wordAt (((putOf m).drop 4).take 4 ++ [0, 0, 0, 0]) 0 8 = w64 m.gen := by
  refine wordAt_put _ 0 _ fun i hi => ?_
  rw [Nat.zero_add]
  have hlen : (((putOf m).drop 4).take 4).length = 4 := by simp [putOf_length]
  by_cases h4 : i < 4
  ·rw [byteAt_first _ _ _ (by omega), ← head_gen h i h4, ← put_byte m (4 + i) (by omega)]
   unfold byteAt
   simp only [List.getD_eq_getElem?_getD]
   rw [List.getElem?_take_of_lt h4, List.getElem?_drop]
  ·rw [gen_high h i (by omega) hi]
   have e := byteAt_right (((putOf m).drop 4).take 4) [0, 0, 0, 0] (i - 4) (by simp; omega)
   rw [hlen, show 4 + (i - 4) = i by omega] at e
   rw [e]
   rcases (by omega : i = 4 ∨ i = 5 ∨ i = 6 ∨ i = 7) with rfl | rfl | rfl | rfl <;> rfl
 obtain ⟨hk, hw, hg, hs, he, _⟩ := h
 have s := w64_toInt (n := m.seq) (by omega) (by omega)
 have e := w64_toInt (n := m.epoch) (by omega) (by omega)
 have v := w64_toInt (n := m.value) (by omega) (by omega)
 have g := w64_toInt (n := m.gen) (by omega) (by omega)
 unfold refReadOf
 rw [b1, b2, b3, hgen, put_w1, put_w2, put_w3, s, e, v, g, u8of_nat (by omega) (by omega), u8of_nat (by omega) (by omega), u8of_nat (by omega) (by omega)]
theorem refGet_eq (l : List UInt8) : refGetOf l = getOf l := by
 cases hg : getOf l with
 | some m =>
  obtain ⟨hm, rfl⟩ := put_get hg
  unfold refGetOf
  rw [refread_put hm, if_pos ⟨putOf_length m, hm, refPut_eq hm⟩]
 | none =>
  unfold refGetOf
  split
  ·rename_i hc
   obtain ⟨hl, hm, hp⟩ := hc
   rw [refPut_eq hm] at hp
   have := get_put hm
   rw [hp, hg] at this
   cases this
  ·rfl
end Go.Proofs.YtgpdcapnnejdeaaGreat
