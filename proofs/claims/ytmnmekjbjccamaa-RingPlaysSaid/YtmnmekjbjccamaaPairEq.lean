/-
  Two pairs of words are the same just if both words are: '==' of arrays of two. No condition.
-/
import Derived.Test.YtmnmekjbjccamaaMac
import Derived.ChangeKeysEq
set_option linter.unusedSimpArgs false
namespace Go.Proofs.Ytmnmekjbjccamaa
set_option maxRecDepth 100000
open Go.RowKit

theorem pair_equal {t : TypeId} {i : TypeInfo} (hu : Try.prog.underlying t = some (.array 2 22)) (hi : Try.prog.info? 22 = some i) (hc : Try.prog.cellsOf 22 = 1) (a b c d : BitVec 64) (w : World) :
    (Op.equalIn 10000 t (.agg #[.int .u64 (q a), .int .u64 (q b)]) (.agg #[.int .u64 (q c), .int .u64 (q d)])).run Try.prog w = .ok (a == c && b == d) w := by
  have hp : ∀ (x y : BitVec 64), (part 22 #[Value.int .u64 (q x), .int .u64 (q y)] 0).run Try.prog w = .ok (.int .u64 (q x)) w ∧ (part 22 #[Value.int .u64 (q x), .int .u64 (q y)] 1).run Try.prog w = .ok (.int .u64 (q y)) w := fun x y => by
    simp [part, isAgg, run_underlying Try.underlying22]
  have he : ∀ (x y : BitVec 64), (Op.equalIn 9999 22 (.int .u64 (q x)) (.int .u64 (q y))).run Try.prog w = .ok (x == y) w := fun x y => by
    rw [run_equalIn_int w 9998 22 .u64 .u64 _ _ Try.underlying22, q_beq]
  rw [run_equalIn_array w 9999 _ _ hu hi, hc]
  simp only [show List.range 2 = [0, 1] from rfl, Op.eqItems, Sem.run_bind, Nat.zero_mul, Nat.one_mul, (hp _ _).1, he, Result.andThen_ok]
  cases h1 : (a == c)
  · simp
  · simp only [Bool.not_true, Bool.false_eq_true, if_false, Sem.run_bind, (hp _ _).2, he, Result.andThen_ok]
    cases h2 : (b == d) <;> simp
theorem tag_equal (a b c d : BitVec 64) (w : World) :
    (Op.equalIn 10000 30 (.agg #[.int .u64 (q a), .int .u64 (q b)]) (.agg #[.int .u64 (q c), .int .u64 (q d)])).run Try.prog w = .ok (a == c && b == d) w := by
  obtain ⟨i, hi⟩ := Option.isSome_iff_exists.1 (show (Try.prog.info? 22).isSome = true by kernel_rfl)
  exact pair_equal Try.underlying30 hi (by kernel_rfl) a b c d w
theorem key_equal (a b c d : BitVec 64) (w : World) :
    (Op.equalIn 10000 34 (.agg #[.int .u64 (q a), .int .u64 (q b)]) (.agg #[.int .u64 (q c), .int .u64 (q d)])).run Try.prog w = .ok (a == c && b == d) w := by
  obtain ⟨i, hi⟩ := Option.isSome_iff_exists.1 (show (Try.prog.info? 22).isSome = true by kernel_rfl)
  exact pair_equal Try.underlying34 hi (by kernel_rfl) a b c d w
theorem words_equal (a b c d : BitVec 64) (w : World) :
    (Op.equalIn 10000 23 (.agg #[.int .u64 (q a), .int .u64 (q b)]) (.agg #[.int .u64 (q c), .int .u64 (q d)])).run Try.prog w = .ok (a == c && b == d) w := by
  obtain ⟨i, hi⟩ := Option.isSome_iff_exists.1 (show (Try.prog.info? 22).isSome = true by kernel_rfl)
  exact pair_equal Try.underlying23 hi (by kernel_rfl) a b c d w
end Go.Proofs.Ytmnmekjbjccamaa
