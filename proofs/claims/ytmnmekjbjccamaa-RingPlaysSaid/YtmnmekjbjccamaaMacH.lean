/-
  Contracts for the document's own root and collectors' keys. No condition.
-/
import Derived.Test.YtmnmekjbjccamaaMacG
set_option linter.unusedSimpArgs false
namespace Go.Proofs.Ytmnmekjbjccamaa
set_option maxRecDepth 100000
open Go.RowKit

theorem refkey_derive (k : Two64) (s : ByteArray) (hs : s.size ≤ 1000) (n : BitVec 64) (w : World) :
    Calls Try.prog 15 #[.agg #[.int .u64 (q k.a), .int .u64 (q k.b)], .string s, .int .u64 (q n)] w fun e w' => e = .returned (.agg #[.int .u64 (q (keyOf k s n).a), .int .u64 (q (keyOf k s n).b)]) ∧ w.grownBy w' none := refderive_any k.a k.b s hs n w

set_option maxHeartbeats 1600000 in
theorem refroot_any (seed : BitVec 64) (w : World) :
    Calls Try.prog 17 #[.int .u64 (q seed)] w fun e w' => e = .returned (.agg #[.int .u64 (q (rootOf seed).a), .int .u64 (q (rootOf seed).b)]) ∧ w.grownBy w' none := by
  have hq := q_succ seed
  have hd := refkey_derive ⟨seed, seed + 1⟩ ⟨#[114, 111, 111, 116]⟩ (by decide) 0 (w.alloc (.cells #[.int .u64 0, .int .u64 0] 34))
  change Calls _ _ _ _ (fun e w' => e = .returned (.agg #[.int .u64 (q (rootOf seed).a), .int .u64 (q (rootOf seed).b)]) ∧ _) at hd
  generalize rootOf seed = r at hd ⊢
  have A0 := hid (Ans.new w 34 (.int .u64 0) (.int .u64 0))
  have HD := hid hd; clear hd
  go_enter Try.func17, Try.ntmps17
  go_wp2_with fail
  refine HD.out.mono ?_
  rintro e w1 ⟨rfl, hg⟩
  have A1 := hid (A0.out.grown hg); clear hg HD
  obtain ⟨x, y, c0, c1, f0, f1⟩ := A1.out.cells
  go_wp2_with fail
  clear c0 c1 f0 f1
  have hst := A1.out.store (.int .u64 (q r.a)) (.int .u64 (q r.b))
  generalize (w1.setCell ⟨w.heap.size, 0, none⟩ (.int .u64 (q r.a))).setCell ⟨w.heap.size, 1, none⟩ (.int .u64 (q r.b)) = wx at hst ⊢
  obtain ⟨r0, r1⟩ := pair_cells hst.1
  exact bodyPost_ret (v := .agg #[.int .u64 (q r.a), .int .u64 (q r.b)]) (by simp [results, Try.results17, go_sem, r0, r1]) rfl ⟨rfl, hst.2⟩

set_option maxHeartbeats 1600000 in
theorem refof_any (seed : BitVec 64) (who gen : Int) (w : World) :
    Calls Try.prog 19 #[.int .u64 (q seed), .int .i64 who, .int .i64 gen] w fun e w' => e = .returned (.agg #[.int .u64 (q (ofOf seed who gen).a), .int .u64 (q (ofOf seed who gen).b)]) ∧ w.grownBy w' none := by
  have hq1 := wrap_i64 who
  have hq2 := wrap_i64 gen
  have hd := fun w => refroot_any seed w
  unfold ofOf
  generalize rootOf seed = r at hd ⊢
  have hd1 := fun w => refkey_derive r ⟨#[119, 104, 111]⟩ (by decide) (BitVec.ofInt 64 who) w
  generalize keyOf r ⟨#[119, 104, 111]⟩ (BitVec.ofInt 64 who) = k1 at hd1 ⊢
  have hd2 := fun w => refkey_derive k1 ⟨#[103, 101, 110]⟩ (by decide) (BitVec.ofInt 64 gen) w
  generalize keyOf k1 ⟨#[103, 101, 110]⟩ (BitVec.ofInt 64 gen) = k2 at hd2 ⊢
  have HD := hid hd; have HD1 := hid hd1; have HD2 := hid hd2; clear hd hd1 hd2
  have A0 := hid (Ans.new w 34 (.int .u64 0) (.int .u64 0))
  go_enter Try.func19, Try.ntmps19
  go_wp2_with fail
  refine (HD.out _).mono ?_
  rintro e w1 ⟨rfl, hg⟩
  have A1 := hid (A0.out.grown hg); clear hg
  go_wp2_with fail
  refine (HD1.out _).mono ?_
  rintro e w2 ⟨rfl, hg⟩
  have A2 := hid (A1.out.grown hg); clear hg
  go_wp2_with fail
  refine (HD2.out _).mono ?_
  rintro e w3 ⟨rfl, hg⟩
  have A3 := hid (A2.out.grown hg); clear hg
  obtain ⟨x, y, c0, c1, f0, f1⟩ := A3.out.cells
  go_wp2_with fail
  clear c0 c1 f0 f1
  have hst := A3.out.store (.int .u64 (q k2.a)) (.int .u64 (q k2.b))
  generalize (w3.setCell ⟨w.heap.size, 0, none⟩ (.int .u64 (q k2.a))).setCell ⟨w.heap.size, 1, none⟩ (.int .u64 (q k2.b)) = wx at hst ⊢
  obtain ⟨r0, r1⟩ := pair_cells hst.1
  exact bodyPost_ret (v := .agg #[.int .u64 (q k2.a), .int .u64 (q k2.b)]) (by simp [results, Try.results19, go_sem, r0, r1]) rfl ⟨rfl, hst.2⟩
end Go.Proofs.Ytmnmekjbjccamaa
