/-
  The walk of the statement MacKeys: each collector's key of each generation is derived in two steps from the root. No condition.
-/
import Derived.Test.YtedbdilmebeicaaMTold
set_option linter.unusedSimpArgs false
namespace Go.Proofs.Ytedbdilmebeicaa.keys
set_option maxRecDepth 100000
open Go.RowKit

set_option maxHeartbeats 3200000 in
theorem walk (seed : BitVec 64) (who : Int) (_ww : (Lit.int .i64 who).wf = true) (gen : Int) (_wg : (Lit.int .i64 gen).wf = true) {w : World} :
    Calls Try.prog 8 #[.int .u64 (q seed), .int .i64 who, .int .i64 gen] w fun e w' => e = .returned (.bool true) ∧ w.grownBy w' none := by
  have hq1 := wrap_i64 who
  have hq2 := wrap_i64 gen
  have hq3 := q_succ seed
  have hke := key_equal
  have ho := fun w => of_any seed who gen w
  have hr := fun w => root_any seed w
  have hd := fun w => key_derive ⟨seed, seed + 1⟩ ⟨#[114, 111, 111, 116]⟩ (by decide) 0 w
  change ∀ w, Calls Try.prog 15 #[.agg #[.int .u64 (q seed), .int .u64 (q (seed + 1))], .string ⟨#[114, 111, 111, 116]⟩, .int .u64 0] w (fun e w' => e = .returned (.agg #[.int .u64 (q (rootOf seed).a), .int .u64 (q (rootOf seed).b)]) ∧ w.grownBy w' none) at hd
  unfold ofOf at ho
  generalize rootOf seed = r at ho hr hd
  have hd1 := fun w => key_derive r ⟨#[119, 104, 111]⟩ (by decide) (BitVec.ofInt 64 who) w
  generalize keyOf r ⟨#[119, 104, 111]⟩ (BitVec.ofInt 64 who) = k1 at hd1 ho
  have hd2 := fun w => key_derive k1 ⟨#[103, 101, 110]⟩ (by decide) (BitVec.ofInt 64 gen) w
  generalize keyOf k1 ⟨#[103, 101, 110]⟩ (BitVec.ofInt 64 gen) = k2 at hd2 ho
  have O := hid ho; have R := hid hr; have D := hid hd; have D1 := hid hd1; have D2 := hid hd2; clear ho hr hd hd1 hd2
  go_enter Try.func8, Try.ntmps8
  go_wp2_with fail
  refine (told_any _).mono ?_
  rintro e w1 ⟨rfl, hg⟩
  have G1 := hid hg; clear hg
  go_wp2_with fail
  refine (O.out _).mono ?_
  rintro e w2 ⟨rfl, hg⟩
  have G2 := hid (gb_trans G1.out hg (.inl rfl)); clear hg
  go_wp2_with fail
  refine (R.out _).mono ?_
  rintro e w3 ⟨rfl, hg⟩
  have G3 := hid (gb_trans G2.out hg (.inl rfl)); clear hg
  go_wp2_with fail
  refine (D1.out _).mono ?_
  rintro e w4 ⟨rfl, hg⟩
  have G4 := hid (gb_trans G3.out hg (.inl rfl)); clear hg
  go_wp2_with fail
  refine (D2.out _).mono ?_
  rintro e w5 ⟨rfl, hg⟩
  have G5 := hid (gb_trans G4.out hg (.inl rfl)); clear hg
  go_wp2_with fail
  refine (R.out _).mono ?_
  rintro e w6 ⟨rfl, hg⟩
  have G6 := hid (gb_trans G5.out hg (.inl rfl)); clear hg
  go_wp2_with fail
  refine (D.out _).mono ?_
  rintro e w7 ⟨rfl, hg⟩
  have G7 := hid (gb_trans G6.out hg (.inl rfl)); clear hg
  go_wp2_with fail
  go_ret
  exact ⟨rfl, G7.out⟩
end Go.Proofs.Ytedbdilmebeicaa.keys
