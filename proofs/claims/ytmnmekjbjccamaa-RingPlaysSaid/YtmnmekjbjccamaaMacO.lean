/-
  Contracts for package mac: the root's key, a collector's key of a generation. No condition.
-/
import Derived.Test.YtmnmekjbjccamaaMacD
set_option linter.unusedSimpArgs false
namespace Go.Proofs.Ytmnmekjbjccamaa
set_option maxRecDepth 100000
open Go.RowKit

/-- the answer's block, under way -/
structure Ans (w : World) (t : TypeId) (w' : World) : Prop where
  ans : ∃ x y, w'.heap[w.heap.size]? = some (.cells #[x, y] t)
  g : w.grownBy w' none
theorem Ans.new (w : World) (t : TypeId) (x y : Value) : Ans w t (w.alloc (.cells #[x, y] t)) := ⟨⟨x, y, at_new w _⟩, gb_alloc (.refl w none) _⟩
theorem Ans.grown {w : World} {t : TypeId} {w1 w2 : World} (h : Ans w t w1) (hg : w1.grownBy w2 none) : Ans w t w2 :=
  ⟨by obtain ⟨x, y, h⟩ := h.ans; exact ⟨x, y, at_grown h hg (by simp)⟩, gb_trans h.g hg (.inl rfl)⟩
theorem Ans.drew {w : World} {t : TypeId} {w1 : World} (h : Ans w t w1) : Ans w t w1.drew := ⟨h.ans, gb_drew h.g⟩
theorem Ans.cells {w : World} {t : TypeId} {w1 : World} (h : Ans w t w1) : ∃ x y, w1.cell? ⟨w.heap.size, 0, none⟩ = some x ∧ w1.cell? ⟨w.heap.size, 1, none⟩ = some y ∧ w1.frozen? ⟨w.heap.size, 0, none⟩ = false ∧ w1.frozen? ⟨w.heap.size, 1, none⟩ = false := by
  obtain ⟨x, y, h⟩ := h.ans
  exact ⟨x, y, at_cell h 0, at_cell h 1, at_free h 0, at_free h 1⟩
theorem Ans.store {w : World} {t : TypeId} {w1 : World} (h : Ans w t w1) (a b : Value) :
    ((w1.setCell ⟨w.heap.size, 0, none⟩ a).setCell ⟨w.heap.size, 1, none⟩ b).heap[w.heap.size]? = some (.cells #[a, b] t) ∧ w.grownBy ((w1.setCell ⟨w.heap.size, 0, none⟩ a).setCell ⟨w.heap.size, 1, none⟩ b) none := by
  obtain ⟨x, y, hxy⟩ := h.ans
  exact ⟨at_set (at_set hxy 0 a) 1 b, gb_new (gb_new h.g (by simp) a) (by simp) b⟩

/-- a pair of words -/
structure Two64 where
  a : BitVec 64
  b : BitVec 64
def Two64.val (k : Two64) : Value := pair k.a k.b
/-- a derived key -/
def keyOf (k : Two64) (s : ByteArray) (n : BitVec 64) : Two64 := ⟨derived k.a k.b s n 1, derived k.a k.b s n 2⟩
def rootOf (seed : BitVec 64) : Two64 := keyOf ⟨seed, seed + 1⟩ ⟨#[114, 111, 111, 116]⟩ 0
def ofOf (seed : BitVec 64) (who gen : Int) : Two64 := keyOf (keyOf (rootOf seed) ⟨#[119, 104, 111]⟩ (BitVec.ofInt 64 who)) ⟨#[103, 101, 110]⟩ (BitVec.ofInt 64 gen)

theorem key_derive (k : Two64) (s : ByteArray) (hs : s.size ≤ 100000) (n : BitVec 64) (w : World) :
    Calls Try.prog 14 #[.agg #[.int .u64 (q k.a), .int .u64 (q k.b)], .string s, .int .u64 (q n)] w fun e w' => e = .returned (.agg #[.int .u64 (q (keyOf k s n).a), .int .u64 (q (keyOf k s n).b)]) ∧ w.grownBy w' none := derive_any k.a k.b s hs n w

theorem q_succ (x : BitVec 64) : IntKind.u64.wrap (q x + 1) = q (x + 1) := q_add x 1#64

set_option maxHeartbeats 1600000 in
theorem root_any (seed : BitVec 64) (w : World) :
    Calls Try.prog 16 #[.int .u64 (q seed)] w fun e w' => e = .returned (.agg #[.int .u64 (q (rootOf seed).a), .int .u64 (q (rootOf seed).b)]) ∧ w.grownBy w' none := by
  have hq := q_succ seed
  have hd := key_derive ⟨seed, seed + 1⟩ ⟨#[114, 111, 111, 116]⟩ (by decide) 0 (w.alloc (.cells #[.int .u64 0, .int .u64 0] 34))
  change Calls _ _ _ _ (fun e w' => e = .returned (.agg #[.int .u64 (q (rootOf seed).a), .int .u64 (q (rootOf seed).b)]) ∧ _) at hd
  generalize rootOf seed = r at hd ⊢
  have A0 := hid (Ans.new w 34 (.int .u64 0) (.int .u64 0))
  have HD := hid hd; clear hd
  go_enter Try.func16, Try.ntmps16
  go_wp2_with fail
  refine HD.out.mono ?_
  rintro e w1 ⟨rfl, hg⟩
  have A1 := hid (A0.out.grown hg); clear hg HD
  obtain ⟨x, y, c0, c1, f0, f1⟩ := A1.out.cells
  go_wp2_with fail
  clear c0 c1 f0 f1
  have hst := A1.out.store (.int .u64 (q r.a)) (.int .u64 (q r.b))
  generalize (w1.setCell ⟨w.heap.size, 0, none⟩ (.int .u64 (q r.a))).setCell ⟨w.heap.size, 1, none⟩ (.int .u64 (q r.b)) = wx at hst ⊢
  obtain ⟨r0, r1⟩ := pair_cells hst.1
  exact bodyPost_ret (v := .agg #[.int .u64 (q r.a), .int .u64 (q r.b)]) (by simp [results, Try.results16, go_sem, r0, r1]) rfl ⟨rfl, hst.2⟩

theorem wrap_i64 (x : Int) : IntKind.u64.wrap x = q (BitVec.ofInt 64 x) := q_lit x

set_option maxHeartbeats 1600000 in
theorem of_any (seed : BitVec 64) (who gen : Int) (w : World) :
    Calls Try.prog 18 #[.int .u64 (q seed), .int .i64 who, .int .i64 gen] w fun e w' => e = .returned (.agg #[.int .u64 (q (ofOf seed who gen).a), .int .u64 (q (ofOf seed who gen).b)]) ∧ w.grownBy w' none := by
  have hq1 := wrap_i64 who
  have hq2 := wrap_i64 gen
  have hd := fun w => root_any seed w
  unfold ofOf
  generalize rootOf seed = r at hd ⊢
  have hd1 := fun w => key_derive r ⟨#[119, 104, 111]⟩ (by decide) (BitVec.ofInt 64 who) w
  generalize keyOf r ⟨#[119, 104, 111]⟩ (BitVec.ofInt 64 who) = k1 at hd1 ⊢
  have hd2 := fun w => key_derive k1 ⟨#[103, 101, 110]⟩ (by decide) (BitVec.ofInt 64 gen) w
  generalize keyOf k1 ⟨#[103, 101, 110]⟩ (BitVec.ofInt 64 gen) = k2 at hd2 ⊢
  have HD := hid hd; have HD1 := hid hd1; have HD2 := hid hd2; clear hd hd1 hd2
  have A0 := hid (Ans.new w 34 (.int .u64 0) (.int .u64 0))
  go_enter Try.func18, Try.ntmps18
  go_wp2_with fail
  refine (HD.out _).mono ?_
  rintro e w1 ⟨rfl, hg⟩
  have A1 := hid (A0.out.grown hg); clear hg
  go_wp2_with fail
  refine (HD1.out _).mono ?_
  rintro e w2 ⟨rfl, hg⟩
  have A2 := hid (A1.out.grown hg); clear hg
  go_wp2_with fail
  refine (HD2.out _).mono ?_
  rintro e w3 ⟨rfl, hg⟩
  have A3 := hid (A2.out.grown hg); clear hg
  obtain ⟨x, y, c0, c1, f0, f1⟩ := A3.out.cells
  go_wp2_with fail
  clear c0 c1 f0 f1
  have hst := A3.out.store (.int .u64 (q k2.a)) (.int .u64 (q k2.b))
  generalize (w3.setCell ⟨w.heap.size, 0, none⟩ (.int .u64 (q k2.a))).setCell ⟨w.heap.size, 1, none⟩ (.int .u64 (q k2.b)) = wx at hst ⊢
  obtain ⟨r0, r1⟩ := pair_cells hst.1
  exact bodyPost_ret (v := .agg #[.int .u64 (q k2.a), .int .u64 (q k2.b)]) (by simp [results, Try.results18, go_sem, r0, r1]) rfl ⟨rfl, hst.2⟩
end Go.Proofs.Ytmnmekjbjccamaa
