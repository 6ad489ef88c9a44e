/-
  Contracts of the functions that only compute with words: a turn to the left by the counts that the program uses, and a round, of the program and of the document's own answer: each is the same function of words. No condition.
-/
import Derived.Test.YtmnmekjbjccamaaRows
import Derived.Test.YtmnmekjbjccamaaQ
import Derived.WalkSpells
import Derived.WalkLawsBesides
namespace Go.Proofs.Ytmnmekjbjccamaa
set_option maxRecDepth 100000
open Go.RowKit

/-- a word turned to the left -/
def rotl (x : BitVec 64) (n : Nat) : BitVec 64 := (x <<< n) ||| (x >>> (64 - n))

theorem and63 (n : Int) (h0 : 0 ≤ n) (h1 : n < 64) : bits .and .u64 n 63 = n := by
  obtain ⟨m, rfl⟩ := Int.eq_ofNat_of_zero_le h0
  have hm : m < 64 := by omega
  show IntKind.u64.wrap ((BitVec.ofInt 64 (m : Int) &&& BitVec.ofInt 64 63).toNat : Int) = _
  rw [wrap_toNat]; unfold q
  rw [BitVec.toNat_and, BitVec.ofInt_natCast, BitVec.toNat_ofNat]
  have e : (BitVec.ofInt 64 63).toNat = 2 ^ 6 - 1 := by decide
  rw [e, Nat.and_two_pow_sub_one_eq_mod]
  omega

set_option maxHeartbeats 400000 in
theorem rot_any (x : BitVec 64) (n : Nat) (h0 : 1 ≤ n) (h1 : n < 64) (w : World) :
    Calls Try.prog 67 #[.int .u64 (q x), .int .i64 (n : Int)] w fun e w' => e = .returned (.int .u64 (q (rotl x n))) ∧ w = w' := by
  have ha := and63 (n : Int) (by omega) (by omega)
  have hs : IntKind.u64.wrap (64 - (n : Int)) = 64 - (n : Int) := by rw [IntKind.wrap_u64]; omega
  have hs1 : (64 - (n : Int)).toNat = 64 - n := by omega
  have hs0 : 0 ≤ 64 - (n : Int) := by omega
  go_enter Try.func67, Try.ntmps67
  go_wp2_with fail
  go_ret
  exact ⟨rfl, rfl⟩

theorem rot_int (x : BitVec 64) (n : Int) (h0 : 1 ≤ n) (h1 : n < 64) (w : World) :
    Calls Try.prog 67 #[.int .u64 (q x), .int .i64 n] w fun e w' => e = .returned (.int .u64 (q (rotl x n.toNat))) ∧ w = w' := by
  obtain ⟨m, rfl⟩ := Int.eq_ofNat_of_zero_le (show 0 ≤ n by omega)
  exact rot_any x m (by omega) (by omega) w

/-- a round on four words -/
def rnd (a b c d : BitVec 64) : BitVec 64 × BitVec 64 × BitVec 64 × BitVec 64 :=
  let a1 := a + b
  let b1 := rotl b 13 ^^^ a1
  let a2 := rotl a1 32
  let c1 := c + d
  let d1 := rotl d 16 ^^^ c1
  let a3 := a2 + d1
  let d2 := rotl d1 21 ^^^ a3
  let c2 := c1 + b1
  let b2 := rotl b1 17 ^^^ c2
  (a3, b2, rotl c2 32, d2)

/-- four words as the model's tuple -/
@[reducible] def q4 (r : BitVec 64 × BitVec 64 × BitVec 64 × BitVec 64) : Value :=
  .tuple #[.int .u64 (q r.1), .int .u64 (q r.2.1), .int .u64 (q r.2.2.1), .int .u64 (q r.2.2.2)]

set_option maxHeartbeats 400000 in
theorem round_any (a b c d : BitVec 64) (w : World) :
    Calls Try.prog 64 #[.int .u64 (q a), .int .u64 (q b), .int .u64 (q c), .int .u64 (q d)] w fun e w' => e = .returned (q4 (rnd a b c d)) ∧ w = w' := by
  go_enter Try.func64, Try.ntmps64
  go_wp2_with (go_at_call 67; (with_reducible refine (rot_int _ _ (by omega) (by omega) _).mono ?_); rintro e w' ⟨rfl, rfl⟩)
  refine bodyPost_ret (v := q4 (rnd a b c d)) (by simp [results, Try.results64, go_sem, q4, rnd]) rfl ⟨rfl, rfl⟩

set_option maxHeartbeats 400000 in
theorem turn_any (x : BitVec 64) (n : Nat) (h0 : 1 ≤ n) (h1 : n < 64) (w : World) :
    Calls Try.prog 59 #[.int .u64 (q x), .int .u64 (n : Int)] w fun e w' => e = .returned (.int .u64 (q (rotl x n))) ∧ w = w' := by
  have hs : IntKind.u64.wrap (64 - (n : Int)) = 64 - (n : Int) := by rw [IntKind.wrap_u64]; omega
  have hs1 : (64 - (n : Int)).toNat = 64 - n := by omega
  have hs0 : 0 ≤ 64 - (n : Int) := by omega
  go_enter Try.func59, Try.ntmps59
  go_wp2_with fail
  go_ret
  exact ⟨rfl, rfl⟩
theorem turn_int (x : BitVec 64) (n : Int) (h0 : 1 ≤ n) (h1 : n < 64) (w : World) :
    Calls Try.prog 59 #[.int .u64 (q x), .int .u64 n] w fun e w' => e = .returned (.int .u64 (q (rotl x n.toNat))) ∧ w = w' := by
  obtain ⟨m, rfl⟩ := Int.eq_ofNat_of_zero_le (show 0 ≤ n by omega)
  exact turn_any x m (by omega) (by omega) w

set_option maxHeartbeats 400000 in
theorem refround_any (a b c d : BitVec 64) (w : World) :
    Calls Try.prog 50 #[.int .u64 (q a), .int .u64 (q b), .int .u64 (q c), .int .u64 (q d)] w fun e w' => e = .returned (q4 (rnd a b c d)) ∧ w = w' := by
  go_enter Try.func50, Try.ntmps50
  go_wp2_with (go_at_call 59; (with_reducible refine (turn_int _ _ (by omega) (by omega) _).mono ?_); rintro e w' ⟨rfl, rfl⟩)
  refine bodyPost_ret (v := q4 (rnd a b c d)) (by simp [results, Try.results50, go_sem, q4, rnd]) rfl ⟨rfl, rfl⟩
end Go.Proofs.Ytmnmekjbjccamaa
