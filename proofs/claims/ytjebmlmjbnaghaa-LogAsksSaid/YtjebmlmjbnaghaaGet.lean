/-
  Contracts for numbers out of bytes: the number whose eight bytes stand at a place, or the code for bytes that are wrong, by the program and by the document's own answer. No condition but that the bytes read as bytes.
-/
import Derived.Test.YtjebmlmjbnaghaaPut
namespace Go.Proofs.Ytjebmlmjbnaghaa
set_option maxRecDepth 100000
open Go.RowKit

/-- the number of k bytes from a place on, the lowest first -/
def wordAt (l : List UInt8) (m : Nat) : Nat → BitVec 64
  | 0 => 0
  | k + 1 => wordAt l m k ||| (BitVec.ofNat 64 (byteAt l (m + k)).toNat <<< (8 * k))

theorem wordAt_succ (l : List UInt8) (m k : Nat) : wordAt l m k ||| (BitVec.ofNat 64 (byteAt l (m + k)).toNat <<< (8 * k)) = wordAt l m (k + 1) := rfl
/-- a place that no number stands at -/
theorem get_low (v : Value) (a : Int) (ha : a < 0) (w : World) :
    Calls Try.prog 31 #[v, .int .i64 a] w fun e w' => e = .returned (.tuple #[.int .u64 0, .int .i64 2]) ∧ w = w' := by
  go_enter Try.func31, Try.ntmps31
  go_wp2_with fail
  go_ret2
  exact ⟨rfl, rfl⟩
theorem get_high (p : Option Addr) (n c : Nat) (hn : n ≤ maxLen) (a : Int) (h0 : 0 ≤ a) (ha : (n : Int) - 8 < a) (w : World) :
    Calls Try.prog 31 #[.slice p n c, .int .i64 a] w fun e w' => e = .returned (.tuple #[.int .u64 0, .int .i64 2]) ∧ w = w' := by
  unfold maxLen at hn
  go_enter Try.func31, Try.ntmps31
  go_wp2_with fail
  go_ret2
  exact ⟨rfl, rfl⟩

set_option maxHeartbeats 800000 in
theorem get_in (l : List UInt8) (v : Value) (m : Nat) (w : World) (hl : BytesAt w v l) (hm : m + 8 ≤ l.length) :
    Calls Try.prog 31 #[v, .int .i64 (m : Int)] w fun e w' => e = .returned (.tuple #[.int .u64 (q (wordAt l m 8)), .int .i64 0]) ∧ w = w' := by
  have hle := hl.le
  unfold maxLen at hle
  obtain ⟨ab, ao, cap, rfl, hc⟩ := hl.cells (by omega)
  have hcap : l.length ≤ cap := by
    rcases hl with ⟨h, _⟩ | ⟨_, _, h, h2, _⟩
    · cases h
    · cases h; exact h2
  have HC := hid hc; clear hc
  have hm0 : (0 : Int) ≤ (m : Int) := by omega
  have hm1 : (m : Int) + 8 ≤ (l.length : Int) := by omega
  have hm2 : (m : Int) + 8 ≤ (cap : Int) := by omega
  have hd1 : decide ((m : Int) < 0) = false := by simp
  have hd2 : decide ((l.length : Int) - 8 < (m : Int)) = false := by simp; omega
  clear hl
  go_enter Try.func31, Try.ntmps31
  go_wp2_with fail
  go_loop [24, 6] (fun i n => ∃ k : Nat, k ≤ 8 ∧ i = .int .i64 (k : Int) ∧ n = .int .u64 (q (wordAt l m k))) (fun i _ => 8 - (intOf i).toNat)
  case atStart => exact ⟨0, by omega, rfl, rfl⟩
  case round =>
    obtain ⟨k, hk, rfl, rfl⟩ := hrel
    by_cases hlt : k < 8
    · have c0 : w.cell? ⟨ab, ao + m + k, none⟩ = some (.int .u8 (((byteAt l (m + k)).toNat : Nat) : Int)) := by
        have := HC.out (m + k) (by omega)
        rw [show ao + m + k = ao + (m + k) by omega, this]
        rw [byteAt_eq (show m + k < l.length by omega)]
      have hk0 : (0 : Int) ≤ (k : Int) := by omega
      have hk1 : (k : Int) < 8 := by omega
      have hk2 : k < m + 8 - m := by omega
      have hbq := byte_q (byteAt l (m + k))
      have hwd := wordAt_succ l m k
      go_wp2_with fail
      go_round
      case rel => exact ⟨k + 1, by omega, by go_num, rfl⟩
      case measure => simp [intOf]; omega
    · have hk8 : k = 8 := by omega
      subst hk8
      go_wp2_with fail
      go_ret2
      exact ⟨rfl, rfl⟩

theorem refget_low (s : ByteArray) (a : Int) (ha : a < 0) (w : World) :
    Calls Try.prog 28 #[.string s, .int .i64 a] w fun e w' => e = .returned (.tuple #[.int .u64 0, .int .i64 2]) ∧ w = w' := by
  go_enter Try.func28, Try.ntmps28
  go_wp2_with fail
  go_ret2
  exact ⟨rfl, rfl⟩
theorem refget_high (s : ByteArray) (_hn : s.size ≤ 9223372036854775807) (a : Int) (h0 : 0 ≤ a) (ha : (s.size : Int) - 8 < a) (w : World) :
    Calls Try.prog 28 #[.string s, .int .i64 a] w fun e w' => e = .returned (.tuple #[.int .u64 0, .int .i64 2]) ∧ w = w' := by
  by_cases hc : (s.size : Int) < a
  · go_enter Try.func28, Try.ntmps28
    go_wp2_with fail
    go_ret2
    exact ⟨rfl, rfl⟩
  · go_enter Try.func28, Try.ntmps28
    go_wp2_with fail
    go_ret2
    exact ⟨rfl, rfl⟩

theorem byteAt_bytes (s : ByteArray) (i : Nat) (h : i < s.size) : byteAt s.data.toList i = s[i] := by
  rw [byteAt_eq (by simpa using h)]; rfl

set_option maxHeartbeats 800000 in
theorem refget_in (s : ByteArray) (m : Nat) (w : World) (hn : s.size ≤ maxLen) (hm : m + 8 ≤ s.size) :
    Calls Try.prog 28 #[.string s, .int .i64 (m : Int)] w fun e w' => e = .returned (.tuple #[.int .u64 (q (wordAt s.data.toList m 8)), .int .i64 0]) ∧ w = w' := by
  unfold maxLen at hn
  have hm0 : (0 : Int) ≤ (m : Int) := by omega
  have hm1 : (m : Int) + 8 ≤ (s.size : Int) := by omega
  have hd1 : decide ((m : Int) < 0) = false := by simp
  have hd2 : decide (s.size < m) = false := by simp; omega
  have hd3 : decide ((s.size : Int) - (m : Int) < 8) = false := by simp; omega
  go_enter Try.func28, Try.ntmps28
  go_wp2_with fail
  go_loop [7, 6] (fun i n => ∃ k : Nat, k ≤ 8 ∧ i = .int .i64 (k : Int) ∧ n = .int .u64 (q (wordAt s.data.toList m k))) (fun i _ => 8 - (intOf i).toNat)
  case atStart => exact ⟨0, by omega, rfl, rfl⟩
  case round =>
    obtain ⟨k, hk, rfl, rfl⟩ := hrel
    by_cases hlt : k < 8
    · have hk0 : (0 : Int) ≤ (k : Int) := by omega
      have hk1 : (k : Int) < 8 := by omega
      have hk2 : m + k < s.size := by omega
      have hb := byteAt_bytes s (m + k) hk2
      have hbq := byte_q s[m + k]
      have hwd := wordAt_succ s.data.toList m k
      rw [hb] at hwd
      clear hb
      go_wp2_with fail
      go_round
      case rel => exact ⟨k + 1, by omega, by go_num, rfl⟩
      case measure => simp [intOf]; omega
    · have hk8 : k = 8 := by omega
      subst hk8
      go_wp2_with fail
      go_ret2
      exact ⟨rfl, rfl⟩
end Go.Proofs.Ytjebmlmjbnaghaa
