/-
  Two pairs of words are the same just if both words are: '==' of arrays of two. No condition.
-/
import Derived.Test.YtfhifnhnkgdnlaaGreatY1
import Derived.ChangeKeysEq
set_option linter.unusedSimpArgs false
namespace Go.Proofs.YtfhifnhnkgdnlaaGreat
set_option maxRecDepth 100000
open Go.RowKit

theorem pair_equal {t : TypeId} {i : TypeInfo} (hu : Tryz.prog.underlying t = some (.array 2 25)) (hi : Tryz.prog.info? 25 = some i) (hc : Tryz.prog.cellsOf 25 = 1) (a b c d : BitVec 64) (w : World) :
    (Op.equalIn 10000 t (.agg #[.int .u64 (q a), .int .u64 (q b)]) (.agg #[.int .u64 (q c), .int .u64 (q d)])).run Tryz.prog w = .ok (a == c && b == d) w := by
  have hp : ∀ (x y : BitVec 64), (part 25 #[Value.int .u64 (q x), .int .u64 (q y)] 0).run Tryz.prog w = .ok (.int .u64 (q x)) w ∧ (part 25 #[Value.int .u64 (q x), .int .u64 (q y)] 1).run Tryz.prog w = .ok (.int .u64 (q y)) w := fun x y => by
    simp [part, isAgg, run_underlying Tryz.underlying25]
  have he : ∀ (x y : BitVec 64), (Op.equalIn 9999 25 (.int .u64 (q x)) (.int .u64 (q y))).run Tryz.prog w = .ok (x == y) w := fun x y => by
    rw [run_equalIn_int w 9998 25 .u64 .u64 _ _ Tryz.underlying25, q_beq]
  rw [run_equalIn_array w 9999 _ _ hu hi, hc]
  simp only [show List.range 2 = [0, 1] from rfl, Op.eqItems, Sem.run_bind, Nat.zero_mul, Nat.one_mul, (hp _ _).1, he, Result.andThen_ok]
  cases h1 : (a == c)
  · simp
  · simp only [Bool.not_true, Bool.false_eq_true, if_false, Sem.run_bind, (hp _ _).2, he, Result.andThen_ok]
    cases h2 : (b == d) <;> simp
theorem tag_equal (a b c d : BitVec 64) (w : World) :
    (Op.equalIn 10000 83 (.agg #[.int .u64 (q a), .int .u64 (q b)]) (.agg #[.int .u64 (q c), .int .u64 (q d)])).run Tryz.prog w = .ok (a == c && b == d) w := by
  obtain ⟨i, hi⟩ := Option.isSome_iff_exists.1 (show (Tryz.prog.info? 25).isSome = true by kernel_rfl)
  exact pair_equal Tryz.underlying83 hi (by kernel_rfl) a b c d w
end Go.Proofs.YtfhifnhnkgdnlaaGreat
