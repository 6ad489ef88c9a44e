/-
  Contracts of the two methods of the program's four words: so many rounds; a number stirred in. Each gives back the words that the plain functions here say; it makes memory of its own and changes nothing that was there. No condition but that the count of rounds is at most a thousand.
-/
import Derived.Test.YtmnmekjbjccamaaPure
import Derived.Test.YtmnmekjbjccamaaGrow
namespace Go.Proofs.Ytmnmekjbjccamaa
set_option maxRecDepth 100000
open Go.RowKit

/-- four words -/
structure W4 where
  a : BitVec 64
  b : BitVec 64
  c : BitVec 64
  d : BitVec 64
def W4.of (r : BitVec 64 × BitVec 64 × BitVec 64 × BitVec 64) : W4 := ⟨r.1, r.2.1, r.2.2.1, r.2.2.2⟩
@[reducible] def W4.val (v : W4) : Value := .agg #[.int .u64 (q v.a), .int .u64 (q v.b), .int .u64 (q v.c), .int .u64 (q v.d)]
def rnds : Nat → W4 → W4
  | 0, v => v
  | n + 1, v => W4.of (rnd (rnds n v).a (rnds n v).b (rnds n v).c (rnds n v).d)
def stirred (v : W4) (m : BitVec 64) : W4 :=
  let r := rnds 2 ⟨v.a, v.b, v.c, v.d ^^^ m⟩
  ⟨r.a ^^^ m, r.b, r.c, r.d⟩

set_option maxHeartbeats 400000 in
theorem rounds_any (v : W4) (n : Nat) (hn : n ≤ 1000) (w : World) :
    Calls Try.prog 58 #[.agg #[.int .u64 (q v.a), .int .u64 (q v.b), .int .u64 (q v.c), .int .u64 (q v.d)], .int .i64 (n : Int)] w fun e w' => e = .returned (rnds n v).val ∧ w.grownBy w' none := by
  go_enter Try.func58, Try.ntmps58
  go_wp2_with fail
  go_loopw [6, 8] (fun i _ wr => ∃ k : Nat, k ≤ n ∧ i = .int .i64 (k : Int) ∧ wr = (w.alloc (.cells #[.int .u64 (q (rnds k v).a), .int .u64 (q (rnds k v).b), .int .u64 (q (rnds k v).c), .int .u64 (q (rnds k v).d)] 115)).alloc (.cells #[.int .u64 0, .int .u64 0, .int .u64 0, .int .u64 0] 115)) (fun i _ _ => n - (intOf i).toNat)
  case atStart => exact ⟨0, Nat.zero_le _, rfl, rfl⟩
  case round =>
    obtain ⟨k, hk, rfl, rfl⟩ := hrel
    by_cases hlt : k < n
    · go_wp2_with (go_at_call 64; (with_reducible refine (round_any _ _ _ _ _).mono ?_); rintro e w' ⟨rfl, rfl⟩)
      go_roundw
      case rel => exact ⟨k + 1, by omega, by go_num, rfl⟩
      case measure => simp [intOf]; omega
    · have hkn : k = n := by omega
      subst hkn
      go_wp2_with fail
      exact bodyPost_ret (v := (rnds k v).val) (by simp [results, Try.results58, go_sem, W4.val]) rfl ⟨rfl, gb_alloc (gb_alloc (.refl _ _) _) _⟩

set_option maxHeartbeats 400000 in
theorem stir_any (v : W4) (m : BitVec 64) (w : World) :
    Calls Try.prog 57 #[.agg #[.int .u64 (q v.a), .int .u64 (q v.b), .int .u64 (q v.c), .int .u64 (q v.d)], .int .u64 (q m)] w fun e w' => e = .returned (stirred v m).val ∧ w.grownBy w' none := by
  go_enter Try.func57, Try.ntmps57
  go_wp2_with (fail)
  refine (rounds_any ⟨v.a, v.b, v.c, v.d ^^^ m⟩ 2 (by omega) _).mono ?_
  rintro e w' ⟨rfl, hg⟩
  have hb0 := at_grown (at_alloc (at_new w _) _) hg (by simp)
  have hb1 : w'.heap[w.heap.size + 1]? = _ := at_grown (b := w.heap.size + 1) (by simpa using at_new (w.alloc _) _) hg (by simp)
  have c0 : w'.cell? ⟨w.heap.size, 0, none⟩ = some (.int .u64 (q v.a)) := at_cell hb0 0
  have c1 : w'.cell? ⟨w.heap.size, 1, none⟩ = some (.int .u64 (q v.b)) := at_cell hb0 1
  have c2 : w'.cell? ⟨w.heap.size, 2, none⟩ = some (.int .u64 (q v.c)) := at_cell hb0 2
  have c3 : w'.cell? ⟨w.heap.size, 3, none⟩ = some (.int .u64 (q (v.d ^^^ m))) := at_cell hb0 3
  have f0 := fun i => at_free hb0 i
  have d0 : w'.cell? ⟨w.heap.size + 1, 0, none⟩ = some (.int .u64 0) := at_cell hb1 0
  have d1 : w'.cell? ⟨w.heap.size + 1, 1, none⟩ = some (.int .u64 0) := at_cell hb1 1
  have d2 : w'.cell? ⟨w.heap.size + 1, 2, none⟩ = some (.int .u64 0) := at_cell hb1 2
  have d3 : w'.cell? ⟨w.heap.size + 1, 3, none⟩ = some (.int .u64 0) := at_cell hb1 3
  have f1 := fun i => at_free hb1 i
  clear hb0 hb1
  go_wp2_with fail
  refine bodyPost_ret (v := (stirred v m).val) (by simp [results, Try.results57, go_sem, stirred, d0, d1, d2, d3]) rfl ⟨rfl, ?_⟩
  have hg1 := gb_trans (gb_alloc (gb_alloc (.refl w none) _) _) hg (.inl rfl)
  exact gb_new (gb_new (gb_new (gb_new (gb_new (gb_new (gb_new (gb_new (gb_new hg1 (by simp) _) (by simp) _) (by simp) _) (by simp) _) (by simp) _) (by simp) _) (by simp) _) (by simp) _) (by simp) _
end Go.Proofs.Ytmnmekjbjccamaa
