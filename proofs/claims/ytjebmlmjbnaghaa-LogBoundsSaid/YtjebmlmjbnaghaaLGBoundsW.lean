/-
  The walk of the statement LogBounds: each part of a cell has its bounds. No condition.
-/
import Derived.Test.YtjebmlmjbnaghaaLgN
set_option linter.unusedSimpArgs false
set_option linter.unusedVariables false
namespace Go.Proofs.Ytjebmlmjbnaghaa.lgbounds
set_option maxRecDepth 100000
open Go.RowKit

@[reducible] def bO (p q k : Int) (v : Value) : Obj := .cells #[.int .u32 p, .int .i64 q, .int .i64 k, v] 31
theorem mk_some (m : Nat) (hm : m ≤ 64) : ∃ OZ : Obj, (∀ u : World, (Instr.makeSlice 23 (.int .i64 (m : Int)) (.int .i64 (m : Int))).run Try.prog u = .ok (.slice (some ⟨u.heap.size, 0, none⟩) m m) (u.alloc OZ)) ∧ ∀ u : World, BytesAt (u.alloc OZ) (.slice (some ⟨u.heap.size, 0, none⟩) m m) (List.replicate m 0) := by
  obtain ⟨i, hi, hz0, hz1, hz2⟩ := info_parts info_u8
  refine ⟨.cells ((List.replicate m (0 : UInt8)).map bv).toArray 5, fun u => ?_, fun u => ?_⟩
  · have := run_makeSlice (P := Try.prog) u 23 5 i _ Try.underlying23 hi hz0 .i64 .i64 (m : Int) (m : Int) (by omega) (Int.le_refl _) (by rw [hz1]; omega) (by rw [hz2]; omega) (by omega)
    rw [this, hz1]
    have e : madeCells #[Value.int .u8 0] m = ((List.replicate m (0 : UInt8)).map bv).toArray := by
      apply Array.ext'
      rw [toList_madeCells_one]
      simp [bv]
    rw [← e]
    simp [Value.cells]
  · have := (own_block (base := 0) (List.replicate m (0 : UInt8)) (at_new u _) (by rw [List.length_replicate]; unfold maxLen; omega) (Nat.zero_le _)).bytes
    rwa [List.length_replicate] at this
/-- what Put and May tell of a cell that may be, or may not -/
def Tells (p q k : Int) (v : Value) (may : Bool) : Prop :=
  (∀ W : World, Calls Try.prog 14 #[.agg #[.int .u32 p, .int .i64 q, .int .i64 k, v]] W fun e w' => e = .returned (.bool may) ∧ W.grownBy w' none)
theorem tells_may (p : Nat) (q k : Int) (a : Option Addr) (n c : Nat) {b : Bool} (h : mayN p q k n = b) {P : Int} (hP : (p : Int) = P) (W : World) : Calls Try.prog 14 #[.agg #[.int .u32 P, .int .i64 q, .int .i64 k, .slice a n c]] W fun e w' => e = .returned (.bool b) ∧ W.grownBy w' none := by
  subst hP; rw [← h]; exact lmay_any p q k a n c W
theorem tells_bad (p : Nat) (q k : Int) (a : Option Addr) (n c : Nat) (h : mayN p q k n = false) {P : Int} (hP : (p : Int) = P) (W : World) : Calls Try.prog 10 #[.agg #[.int .u32 P, .int .i64 q, .int .i64 k, .slice a n c]] W fun e w' => e = .returned (.tuple #[.slice none 0 0, .int .i64 1]) ∧ W.grownBy w' none := by
  subst hP; exact lput_bad p q k a n c h W
theorem tells_good (p q k : Nat) (l : List UInt8) (h : mayN p q k l.length = true) {P Q K : Int} (hP : (p : Int) = P) (hQ : (q : Int) = Q) (hK : (k : Int) = K) {v : Value} (W : World) (hv : BytesAt W v l) : Calls Try.prog 10 #[.agg #[.int .u32 P, .int .i64 Q, .int .i64 K, v]] W fun e w' => ∃ g r, e = .returned (.tuple #[.slice (some ⟨g, 0, none⟩) 64 r, .int .i64 0]) ∧ W.grownBy w' none := by
  have hm : (⟨p, q, k, l⟩ : Cl).May := may_of_cl h
  refine (lput_as ⟨p, q, k, l⟩ hm hP hQ hK hv rfl).mono ?_
  rintro e w' ⟨u, rfl, ho, hg⟩
  obtain ⟨g, r, rfl, -, -, -, -⟩ := ho.fulln (putL_len hm.d) (by decide)
  exact ⟨g, r, rfl, hg⟩
set_option maxHeartbeats 3200000 in
theorem way_0_0 (part edge : Int) (h1 : (IntKind.u64.wrap part).tmod 4 = 0) (h2 : (IntKind.u64.wrap edge).tmod 4 = 0) (w : World) :
    Calls Try.prog 8 #[.int .i64 part, .int .i64 edge] w fun e w' => e = .returned (.bool true) ∧ w.grownBy w' none := by
  go_enter Try.func8, Try.ntmps8
  go_upto_region 12 with fail
  refine wp_gen (Kp w [(w.heap.size, (bO 1 (0) 1 (.slice none 0 0)))] []) (((kp_start w).alloc (bO 1 (0) 1 (.slice none 0 0))).grown (World.grownBy_alloc (w.alloc (bO 1 (0) 1 (.slice none 0 0))) (.cells #[.int .u32 (1), .int .u32 (250), .int .u32 (0), .int .u32 (251)] 22) none)) (fun W kk => ?_)
  have K := hid kk
  clear kk
  go_wp2_with (first | refine wpList_row_w K.out.b0 Try.underlying31 rfl (by kernel_rfl) rfl rfl rfl rfl ?_ | refine wpList_row K.out.b0 Try.underlying31 rfl (by kernel_rfl) rfl rfl rfl rfl ?_)
  refine (tells_good 1 0 1 [] (by decide) rfl rfl rfl _ (.inl ⟨rfl, rfl⟩)).mono ?_
  rintro e w1 ⟨g, r, rfl, hg⟩
  have K1 := hid (K.out.grown hg)
  clear hg
  go_wp2_with fail
  refine (told_any _).mono ?_
  rintro e w2 ⟨rfl, hg⟩
  have K2 := hid (K1.out.grown hg)
  clear hg
  go_wp2_with (first | refine wpList_row_w K2.out.b0 Try.underlying31 rfl (by kernel_rfl) rfl rfl rfl rfl ?_ | refine wpList_row K2.out.b0 Try.underlying31 rfl (by kernel_rfl) rfl rfl rfl rfl ?_)
  refine (tells_may 1 (0) 1 none 0 0 (b := true) (by decide) rfl _).mono ?_
  rintro e w3 ⟨rfl, hg⟩
  have K3 := hid (K2.out.grown hg)
  clear hg
  go_wp2_with fail
  go_ret
  exact ⟨rfl, K3.out.g⟩
set_option maxHeartbeats 3200000 in
theorem way_0_1 (part edge : Int) (h1 : (IntKind.u64.wrap part).tmod 4 = 0) (h2 : (IntKind.u64.wrap edge).tmod 4 = 1) (w : World) :
    Calls Try.prog 8 #[.int .i64 part, .int .i64 edge] w fun e w' => e = .returned (.bool true) ∧ w.grownBy w' none := by
  go_enter Try.func8, Try.ntmps8
  go_upto_region 12 with fail
  refine wp_gen (Kp w [(w.heap.size, (bO 250 (0) 1 (.slice none 0 0)))] []) (((kp_start w).alloc (bO 250 (0) 1 (.slice none 0 0))).grown (World.grownBy_alloc (w.alloc (bO 250 (0) 1 (.slice none 0 0))) (.cells #[.int .u32 (1), .int .u32 (250), .int .u32 (0), .int .u32 (251)] 22) none)) (fun W kk => ?_)
  have K := hid kk
  clear kk
  go_wp2_with (first | refine wpList_row_w K.out.b0 Try.underlying31 rfl (by kernel_rfl) rfl rfl rfl rfl ?_ | refine wpList_row K.out.b0 Try.underlying31 rfl (by kernel_rfl) rfl rfl rfl rfl ?_)
  refine (tells_good 250 0 1 [] (by decide) rfl rfl rfl _ (.inl ⟨rfl, rfl⟩)).mono ?_
  rintro e w1 ⟨g, r, rfl, hg⟩
  have K1 := hid (K.out.grown hg)
  clear hg
  go_wp2_with fail
  refine (told_any _).mono ?_
  rintro e w2 ⟨rfl, hg⟩
  have K2 := hid (K1.out.grown hg)
  clear hg
  go_wp2_with (first | refine wpList_row_w K2.out.b0 Try.underlying31 rfl (by kernel_rfl) rfl rfl rfl rfl ?_ | refine wpList_row K2.out.b0 Try.underlying31 rfl (by kernel_rfl) rfl rfl rfl rfl ?_)
  refine (tells_may 250 (0) 1 none 0 0 (b := true) (by decide) rfl _).mono ?_
  rintro e w3 ⟨rfl, hg⟩
  have K3 := hid (K2.out.grown hg)
  clear hg
  go_wp2_with fail
  go_ret
  exact ⟨rfl, K3.out.g⟩
set_option maxHeartbeats 3200000 in
theorem way_0_2 (part edge : Int) (h1 : (IntKind.u64.wrap part).tmod 4 = 0) (h2 : (IntKind.u64.wrap edge).tmod 4 = 2) (w : World) :
    Calls Try.prog 8 #[.int .i64 part, .int .i64 edge] w fun e w' => e = .returned (.bool true) ∧ w.grownBy w' none := by
  go_enter Try.func8, Try.ntmps8
  go_upto_region 12 with fail
  refine wp_gen (Kp w [(w.heap.size, (bO 0 (0) 1 (.slice none 0 0)))] []) (((kp_start w).alloc (bO 0 (0) 1 (.slice none 0 0))).grown (World.grownBy_alloc (w.alloc (bO 0 (0) 1 (.slice none 0 0))) (.cells #[.int .u32 (1), .int .u32 (250), .int .u32 (0), .int .u32 (251)] 22) none)) (fun W kk => ?_)
  have K := hid kk
  clear kk
  go_wp2_with (first | refine wpList_row_w K.out.b0 Try.underlying31 rfl (by kernel_rfl) rfl rfl rfl rfl ?_ | refine wpList_row K.out.b0 Try.underlying31 rfl (by kernel_rfl) rfl rfl rfl rfl ?_)
  refine (tells_bad 0 (0) 1 none 0 0 (by decide) rfl _).mono ?_
  rintro e w1 ⟨rfl, hg⟩
  have K1 := hid (K.out.grown hg)
  clear hg
  go_wp2_with fail
  refine (told_any _).mono ?_
  rintro e w2 ⟨rfl, hg⟩
  have K2 := hid (K1.out.grown hg)
  clear hg
  go_wp2_with (first | refine wpList_row_w K2.out.b0 Try.underlying31 rfl (by kernel_rfl) rfl rfl rfl rfl ?_ | refine wpList_row K2.out.b0 Try.underlying31 rfl (by kernel_rfl) rfl rfl rfl rfl ?_)
  refine (tells_may 0 (0) 1 none 0 0 (b := false) (by decide) rfl _).mono ?_
  rintro e w3 ⟨rfl, hg⟩
  have K3 := hid (K2.out.grown hg)
  clear hg
  go_wp2_with fail
  go_ret
  exact ⟨rfl, K3.out.g⟩
set_option maxHeartbeats 3200000 in
theorem way_0_3 (part edge : Int) (h1 : (IntKind.u64.wrap part).tmod 4 = 0) (h2 : (IntKind.u64.wrap edge).tmod 4 = 3) (w : World) :
    Calls Try.prog 8 #[.int .i64 part, .int .i64 edge] w fun e w' => e = .returned (.bool true) ∧ w.grownBy w' none := by
  go_enter Try.func8, Try.ntmps8
  go_upto_region 12 with fail
  refine wp_gen (Kp w [(w.heap.size, (bO 251 (0) 1 (.slice none 0 0)))] []) (((kp_start w).alloc (bO 251 (0) 1 (.slice none 0 0))).grown (World.grownBy_alloc (w.alloc (bO 251 (0) 1 (.slice none 0 0))) (.cells #[.int .u32 (1), .int .u32 (250), .int .u32 (0), .int .u32 (251)] 22) none)) (fun W kk => ?_)
  have K := hid kk
  clear kk
  go_wp2_with (first | refine wpList_row_w K.out.b0 Try.underlying31 rfl (by kernel_rfl) rfl rfl rfl rfl ?_ | refine wpList_row K.out.b0 Try.underlying31 rfl (by kernel_rfl) rfl rfl rfl rfl ?_)
  refine (tells_bad 251 (0) 1 none 0 0 (by decide) rfl _).mono ?_
  rintro e w1 ⟨rfl, hg⟩
  have K1 := hid (K.out.grown hg)
  clear hg
  go_wp2_with fail
  refine (told_any _).mono ?_
  rintro e w2 ⟨rfl, hg⟩
  have K2 := hid (K1.out.grown hg)
  clear hg
  go_wp2_with (first | refine wpList_row_w K2.out.b0 Try.underlying31 rfl (by kernel_rfl) rfl rfl rfl rfl ?_ | refine wpList_row K2.out.b0 Try.underlying31 rfl (by kernel_rfl) rfl rfl rfl rfl ?_)
  refine (tells_may 251 (0) 1 none 0 0 (b := false) (by decide) rfl _).mono ?_
  rintro e w3 ⟨rfl, hg⟩
  have K3 := hid (K2.out.grown hg)
  clear hg
  go_wp2_with fail
  go_ret
  exact ⟨rfl, K3.out.g⟩
set_option maxHeartbeats 3200000 in
theorem way_1_0 (part edge : Int) (h1 : (IntKind.u64.wrap part).tmod 4 = 1) (h2 : (IntKind.u64.wrap edge).tmod 4 = 0) (w : World) :
    Calls Try.prog 8 #[.int .i64 part, .int .i64 edge] w fun e w' => e = .returned (.bool true) ∧ w.grownBy w' none := by
  go_enter Try.func8, Try.ntmps8
  go_upto_region 12 with fail
  refine wp_gen (Kp w [(w.heap.size, (bO 1 (0) 1 (.slice none 0 0)))] []) (((kp_start w).alloc (bO 1 (0) 1 (.slice none 0 0))).grown (World.grownBy_alloc (w.alloc (bO 1 (0) 1 (.slice none 0 0))) (.cells #[.int .i64 (0), .int .i64 (4096), .int .i64 (-1), .int .i64 (4097)] 3) none)) (fun W kk => ?_)
  have K := hid kk
  clear kk
  go_wp2_with (first | refine wpList_row_w K.out.b0 Try.underlying31 rfl (by kernel_rfl) rfl rfl rfl rfl ?_ | refine wpList_row K.out.b0 Try.underlying31 rfl (by kernel_rfl) rfl rfl rfl rfl ?_)
  refine (tells_good 1 0 1 [] (by decide) rfl rfl rfl _ (.inl ⟨rfl, rfl⟩)).mono ?_
  rintro e w1 ⟨g, r, rfl, hg⟩
  have K1 := hid (K.out.grown hg)
  clear hg
  go_wp2_with fail
  refine (told_any _).mono ?_
  rintro e w2 ⟨rfl, hg⟩
  have K2 := hid (K1.out.grown hg)
  clear hg
  go_wp2_with (first | refine wpList_row_w K2.out.b0 Try.underlying31 rfl (by kernel_rfl) rfl rfl rfl rfl ?_ | refine wpList_row K2.out.b0 Try.underlying31 rfl (by kernel_rfl) rfl rfl rfl rfl ?_)
  refine (tells_may 1 (0) 1 none 0 0 (b := true) (by decide) rfl _).mono ?_
  rintro e w3 ⟨rfl, hg⟩
  have K3 := hid (K2.out.grown hg)
  clear hg
  go_wp2_with fail
  go_ret
  exact ⟨rfl, K3.out.g⟩
set_option maxHeartbeats 3200000 in
theorem way_1_1 (part edge : Int) (h1 : (IntKind.u64.wrap part).tmod 4 = 1) (h2 : (IntKind.u64.wrap edge).tmod 4 = 1) (w : World) :
    Calls Try.prog 8 #[.int .i64 part, .int .i64 edge] w fun e w' => e = .returned (.bool true) ∧ w.grownBy w' none := by
  go_enter Try.func8, Try.ntmps8
  go_upto_region 12 with fail
  refine wp_gen (Kp w [(w.heap.size, (bO 1 (4096) 1 (.slice none 0 0)))] []) (((kp_start w).alloc (bO 1 (4096) 1 (.slice none 0 0))).grown (World.grownBy_alloc (w.alloc (bO 1 (4096) 1 (.slice none 0 0))) (.cells #[.int .i64 (0), .int .i64 (4096), .int .i64 (-1), .int .i64 (4097)] 3) none)) (fun W kk => ?_)
  have K := hid kk
  clear kk
  go_wp2_with (first | refine wpList_row_w K.out.b0 Try.underlying31 rfl (by kernel_rfl) rfl rfl rfl rfl ?_ | refine wpList_row K.out.b0 Try.underlying31 rfl (by kernel_rfl) rfl rfl rfl rfl ?_)
  refine (tells_good 1 4096 1 [] (by decide) rfl rfl rfl _ (.inl ⟨rfl, rfl⟩)).mono ?_
  rintro e w1 ⟨g, r, rfl, hg⟩
  have K1 := hid (K.out.grown hg)
  clear hg
  go_wp2_with fail
  refine (told_any _).mono ?_
  rintro e w2 ⟨rfl, hg⟩
  have K2 := hid (K1.out.grown hg)
  clear hg
  go_wp2_with (first | refine wpList_row_w K2.out.b0 Try.underlying31 rfl (by kernel_rfl) rfl rfl rfl rfl ?_ | refine wpList_row K2.out.b0 Try.underlying31 rfl (by kernel_rfl) rfl rfl rfl rfl ?_)
  refine (tells_may 1 (4096) 1 none 0 0 (b := true) (by decide) rfl _).mono ?_
  rintro e w3 ⟨rfl, hg⟩
  have K3 := hid (K2.out.grown hg)
  clear hg
  go_wp2_with fail
  go_ret
  exact ⟨rfl, K3.out.g⟩
set_option maxHeartbeats 3200000 in
theorem way_1_2 (part edge : Int) (h1 : (IntKind.u64.wrap part).tmod 4 = 1) (h2 : (IntKind.u64.wrap edge).tmod 4 = 2) (w : World) :
    Calls Try.prog 8 #[.int .i64 part, .int .i64 edge] w fun e w' => e = .returned (.bool true) ∧ w.grownBy w' none := by
  go_enter Try.func8, Try.ntmps8
  go_upto_region 12 with fail
  refine wp_gen (Kp w [(w.heap.size, (bO 1 (-1) 1 (.slice none 0 0)))] []) (((kp_start w).alloc (bO 1 (-1) 1 (.slice none 0 0))).grown (World.grownBy_alloc (w.alloc (bO 1 (-1) 1 (.slice none 0 0))) (.cells #[.int .i64 (0), .int .i64 (4096), .int .i64 (-1), .int .i64 (4097)] 3) none)) (fun W kk => ?_)
  have K := hid kk
  clear kk
  go_wp2_with (first | refine wpList_row_w K.out.b0 Try.underlying31 rfl (by kernel_rfl) rfl rfl rfl rfl ?_ | refine wpList_row K.out.b0 Try.underlying31 rfl (by kernel_rfl) rfl rfl rfl rfl ?_)
  refine (tells_bad 1 (-1) 1 none 0 0 (by decide) rfl _).mono ?_
  rintro e w1 ⟨rfl, hg⟩
  have K1 := hid (K.out.grown hg)
  clear hg
  go_wp2_with fail
  refine (told_any _).mono ?_
  rintro e w2 ⟨rfl, hg⟩
  have K2 := hid (K1.out.grown hg)
  clear hg
  go_wp2_with (first | refine wpList_row_w K2.out.b0 Try.underlying31 rfl (by kernel_rfl) rfl rfl rfl rfl ?_ | refine wpList_row K2.out.b0 Try.underlying31 rfl (by kernel_rfl) rfl rfl rfl rfl ?_)
  refine (tells_may 1 (-1) 1 none 0 0 (b := false) (by decide) rfl _).mono ?_
  rintro e w3 ⟨rfl, hg⟩
  have K3 := hid (K2.out.grown hg)
  clear hg
  go_wp2_with fail
  go_ret
  exact ⟨rfl, K3.out.g⟩
set_option maxHeartbeats 3200000 in
theorem way_1_3 (part edge : Int) (h1 : (IntKind.u64.wrap part).tmod 4 = 1) (h2 : (IntKind.u64.wrap edge).tmod 4 = 3) (w : World) :
    Calls Try.prog 8 #[.int .i64 part, .int .i64 edge] w fun e w' => e = .returned (.bool true) ∧ w.grownBy w' none := by
  go_enter Try.func8, Try.ntmps8
  go_upto_region 12 with fail
  refine wp_gen (Kp w [(w.heap.size, (bO 1 (4097) 1 (.slice none 0 0)))] []) (((kp_start w).alloc (bO 1 (4097) 1 (.slice none 0 0))).grown (World.grownBy_alloc (w.alloc (bO 1 (4097) 1 (.slice none 0 0))) (.cells #[.int .i64 (0), .int .i64 (4096), .int .i64 (-1), .int .i64 (4097)] 3) none)) (fun W kk => ?_)
  have K := hid kk
  clear kk
  go_wp2_with (first | refine wpList_row_w K.out.b0 Try.underlying31 rfl (by kernel_rfl) rfl rfl rfl rfl ?_ | refine wpList_row K.out.b0 Try.underlying31 rfl (by kernel_rfl) rfl rfl rfl rfl ?_)
  refine (tells_bad 1 (4097) 1 none 0 0 (by decide) rfl _).mono ?_
  rintro e w1 ⟨rfl, hg⟩
  have K1 := hid (K.out.grown hg)
  clear hg
  go_wp2_with fail
  refine (told_any _).mono ?_
  rintro e w2 ⟨rfl, hg⟩
  have K2 := hid (K1.out.grown hg)
  clear hg
  go_wp2_with (first | refine wpList_row_w K2.out.b0 Try.underlying31 rfl (by kernel_rfl) rfl rfl rfl rfl ?_ | refine wpList_row K2.out.b0 Try.underlying31 rfl (by kernel_rfl) rfl rfl rfl rfl ?_)
  refine (tells_may 1 (4097) 1 none 0 0 (b := false) (by decide) rfl _).mono ?_
  rintro e w3 ⟨rfl, hg⟩
  have K3 := hid (K2.out.grown hg)
  clear hg
  go_wp2_with fail
  go_ret
  exact ⟨rfl, K3.out.g⟩
set_option maxHeartbeats 3200000 in
theorem way_2_0 (part edge : Int) (h1 : (IntKind.u64.wrap part).tmod 4 = 2) (h2 : (IntKind.u64.wrap edge).tmod 4 = 0) (w : World) :
    Calls Try.prog 8 #[.int .i64 part, .int .i64 edge] w fun e w' => e = .returned (.bool true) ∧ w.grownBy w' none := by
  go_enter Try.func8, Try.ntmps8
  go_upto_region 12 with fail
  refine wp_gen (Kp w [(w.heap.size, (bO 1 (0) 1 (.slice none 0 0)))] []) (((kp_start w).alloc (bO 1 (0) 1 (.slice none 0 0))).grown (World.grownBy_alloc (w.alloc (bO 1 (0) 1 (.slice none 0 0))) (.cells #[.int .i64 (1), .int .i64 (3), .int .i64 (0), .int .i64 (4)] 3) none)) (fun W kk => ?_)
  have K := hid kk
  clear kk
  go_wp2_with (first | refine wpList_row_w K.out.b0 Try.underlying31 rfl (by kernel_rfl) rfl rfl rfl rfl ?_ | refine wpList_row K.out.b0 Try.underlying31 rfl (by kernel_rfl) rfl rfl rfl rfl ?_)
  refine (tells_good 1 0 1 [] (by decide) rfl rfl rfl _ (.inl ⟨rfl, rfl⟩)).mono ?_
  rintro e w1 ⟨g, r, rfl, hg⟩
  have K1 := hid (K.out.grown hg)
  clear hg
  go_wp2_with fail
  refine (told_any _).mono ?_
  rintro e w2 ⟨rfl, hg⟩
  have K2 := hid (K1.out.grown hg)
  clear hg
  go_wp2_with (first | refine wpList_row_w K2.out.b0 Try.underlying31 rfl (by kernel_rfl) rfl rfl rfl rfl ?_ | refine wpList_row K2.out.b0 Try.underlying31 rfl (by kernel_rfl) rfl rfl rfl rfl ?_)
  refine (tells_may 1 (0) 1 none 0 0 (b := true) (by decide) rfl _).mono ?_
  rintro e w3 ⟨rfl, hg⟩
  have K3 := hid (K2.out.grown hg)
  clear hg
  go_wp2_with fail
  go_ret
  exact ⟨rfl, K3.out.g⟩
set_option maxHeartbeats 3200000 in
theorem way_2_1 (part edge : Int) (h1 : (IntKind.u64.wrap part).tmod 4 = 2) (h2 : (IntKind.u64.wrap edge).tmod 4 = 1) (w : World) :
    Calls Try.prog 8 #[.int .i64 part, .int .i64 edge] w fun e w' => e = .returned (.bool true) ∧ w.grownBy w' none := by
  go_enter Try.func8, Try.ntmps8
  go_upto_region 12 with fail
  refine wp_gen (Kp w [(w.heap.size, (bO 1 (0) 3 (.slice none 0 0)))] []) (((kp_start w).alloc (bO 1 (0) 3 (.slice none 0 0))).grown (World.grownBy_alloc (w.alloc (bO 1 (0) 3 (.slice none 0 0))) (.cells #[.int .i64 (1), .int .i64 (3), .int .i64 (0), .int .i64 (4)] 3) none)) (fun W kk => ?_)
  have K := hid kk
  clear kk
  go_wp2_with (first | refine wpList_row_w K.out.b0 Try.underlying31 rfl (by kernel_rfl) rfl rfl rfl rfl ?_ | refine wpList_row K.out.b0 Try.underlying31 rfl (by kernel_rfl) rfl rfl rfl rfl ?_)
  refine (tells_good 1 0 3 [] (by decide) rfl rfl rfl _ (.inl ⟨rfl, rfl⟩)).mono ?_
  rintro e w1 ⟨g, r, rfl, hg⟩
  have K1 := hid (K.out.grown hg)
  clear hg
  go_wp2_with fail
  refine (told_any _).mono ?_
  rintro e w2 ⟨rfl, hg⟩
  have K2 := hid (K1.out.grown hg)
  clear hg
  go_wp2_with (first | refine wpList_row_w K2.out.b0 Try.underlying31 rfl (by kernel_rfl) rfl rfl rfl rfl ?_ | refine wpList_row K2.out.b0 Try.underlying31 rfl (by kernel_rfl) rfl rfl rfl rfl ?_)
  refine (tells_may 1 (0) 3 none 0 0 (b := true) (by decide) rfl _).mono ?_
  rintro e w3 ⟨rfl, hg⟩
  have K3 := hid (K2.out.grown hg)
  clear hg
  go_wp2_with fail
  go_ret
  exact ⟨rfl, K3.out.g⟩
set_option maxHeartbeats 3200000 in
theorem way_2_2 (part edge : Int) (h1 : (IntKind.u64.wrap part).tmod 4 = 2) (h2 : (IntKind.u64.wrap edge).tmod 4 = 2) (w : World) :
    Calls Try.prog 8 #[.int .i64 part, .int .i64 edge] w fun e w' => e = .returned (.bool true) ∧ w.grownBy w' none := by
  go_enter Try.func8, Try.ntmps8
  go_upto_region 12 with fail
  refine wp_gen (Kp w [(w.heap.size, (bO 1 (0) 0 (.slice none 0 0)))] []) (((kp_start w).alloc (bO 1 (0) 0 (.slice none 0 0))).grown (World.grownBy_alloc (w.alloc (bO 1 (0) 0 (.slice none 0 0))) (.cells #[.int .i64 (1), .int .i64 (3), .int .i64 (0), .int .i64 (4)] 3) none)) (fun W kk => ?_)
  have K := hid kk
  clear kk
  go_wp2_with (first | refine wpList_row_w K.out.b0 Try.underlying31 rfl (by kernel_rfl) rfl rfl rfl rfl ?_ | refine wpList_row K.out.b0 Try.underlying31 rfl (by kernel_rfl) rfl rfl rfl rfl ?_)
  refine (tells_bad 1 (0) 0 none 0 0 (by decide) rfl _).mono ?_
  rintro e w1 ⟨rfl, hg⟩
  have K1 := hid (K.out.grown hg)
  clear hg
  go_wp2_with fail
  refine (told_any _).mono ?_
  rintro e w2 ⟨rfl, hg⟩
  have K2 := hid (K1.out.grown hg)
  clear hg
  go_wp2_with (first | refine wpList_row_w K2.out.b0 Try.underlying31 rfl (by kernel_rfl) rfl rfl rfl rfl ?_ | refine wpList_row K2.out.b0 Try.underlying31 rfl (by kernel_rfl) rfl rfl rfl rfl ?_)
  refine (tells_may 1 (0) 0 none 0 0 (b := false) (by decide) rfl _).mono ?_
  rintro e w3 ⟨rfl, hg⟩
  have K3 := hid (K2.out.grown hg)
  clear hg
  go_wp2_with fail
  go_ret
  exact ⟨rfl, K3.out.g⟩
set_option maxHeartbeats 3200000 in
theorem way_2_3 (part edge : Int) (h1 : (IntKind.u64.wrap part).tmod 4 = 2) (h2 : (IntKind.u64.wrap edge).tmod 4 = 3) (w : World) :
    Calls Try.prog 8 #[.int .i64 part, .int .i64 edge] w fun e w' => e = .returned (.bool true) ∧ w.grownBy w' none := by
  go_enter Try.func8, Try.ntmps8
  go_upto_region 12 with fail
  refine wp_gen (Kp w [(w.heap.size, (bO 1 (0) 4 (.slice none 0 0)))] []) (((kp_start w).alloc (bO 1 (0) 4 (.slice none 0 0))).grown (World.grownBy_alloc (w.alloc (bO 1 (0) 4 (.slice none 0 0))) (.cells #[.int .i64 (1), .int .i64 (3), .int .i64 (0), .int .i64 (4)] 3) none)) (fun W kk => ?_)
  have K := hid kk
  clear kk
  go_wp2_with (first | refine wpList_row_w K.out.b0 Try.underlying31 rfl (by kernel_rfl) rfl rfl rfl rfl ?_ | refine wpList_row K.out.b0 Try.underlying31 rfl (by kernel_rfl) rfl rfl rfl rfl ?_)
  refine (tells_bad 1 (0) 4 none 0 0 (by decide) rfl _).mono ?_
  rintro e w1 ⟨rfl, hg⟩
  have K1 := hid (K.out.grown hg)
  clear hg
  go_wp2_with fail
  refine (told_any _).mono ?_
  rintro e w2 ⟨rfl, hg⟩
  have K2 := hid (K1.out.grown hg)
  clear hg
  go_wp2_with (first | refine wpList_row_w K2.out.b0 Try.underlying31 rfl (by kernel_rfl) rfl rfl rfl rfl ?_ | refine wpList_row K2.out.b0 Try.underlying31 rfl (by kernel_rfl) rfl rfl rfl rfl ?_)
  refine (tells_may 1 (0) 4 none 0 0 (b := false) (by decide) rfl _).mono ?_
  rintro e w3 ⟨rfl, hg⟩
  have K3 := hid (K2.out.grown hg)
  clear hg
  go_wp2_with fail
  go_ret
  exact ⟨rfl, K3.out.g⟩
set_option maxHeartbeats 3200000 in
theorem way_3_0 (part edge : Int) (h1 : (IntKind.u64.wrap part).tmod 4 = 3) (h2 : (IntKind.u64.wrap edge).tmod 4 = 0) (w : World) :
    Calls Try.prog 8 #[.int .i64 part, .int .i64 edge] w fun e w' => e = .returned (.bool true) ∧ w.grownBy w' none := by
  obtain ⟨OZ, hmk, hzb⟩ := mk_some 0 (by decide)
  have HZB := hid hzb
  rw [show ((0 : Nat) : Int) = 0 from rfl] at hmk
  clear hzb
  go_enter Try.func8, Try.ntmps8
  go_upto_region 12 with fail
  refine wp_gen (Kp w [(w.heap.size, (bO 1 (0) 1 (.slice (some ⟨w.heap.size + 1 + 1, 0, none⟩) 0 0)))] [(.slice (some ⟨w.heap.size + 1 + 1, 0, none⟩) 0 0, List.replicate 0 0)]) (((((kp_start w).alloc (bO 1 (0) 1 (.slice (some ⟨w.heap.size + 1 + 1, 0, none⟩) 0 0))).grown (World.grownBy_alloc (w.alloc (bO 1 (0) 1 (.slice (some ⟨w.heap.size + 1 + 1, 0, none⟩) 0 0))) (.cells #[.int .i64 (0), .int .i64 (48), .int .i64 (49), .int .i64 (60)] 3) none)).grown (World.grownBy_alloc ((w.alloc (bO 1 (0) 1 (.slice (some ⟨w.heap.size + 1 + 1, 0, none⟩) 0 0))).alloc (.cells #[.int .i64 (0), .int .i64 (48), .int .i64 (49), .int .i64 (60)] 3)) OZ none)).addY (by have h := HZB.out ((w.alloc (bO 1 (0) 1 (.slice (some ⟨w.heap.size + 1 + 1, 0, none⟩) 0 0))).alloc (.cells #[.int .i64 (0), .int .i64 (48), .int .i64 (49), .int .i64 (60)] 3)); rw [alloc_size, alloc_size] at h; exact h)) (fun W kk => ?_)
  have K := hid kk
  clear kk
  go_wp2_with (first | refine wpList_row_w K.out.b0 Try.underlying31 rfl (by kernel_rfl) rfl rfl rfl rfl ?_ | refine wpList_row K.out.b0 Try.underlying31 rfl (by kernel_rfl) rfl rfl rfl rfl ?_)
  refine (tells_good 1 0 1 (List.replicate 0 0) (by decide) rfl rfl rfl _ K.out.y0).mono ?_
  rintro e w1 ⟨g, r, rfl, hg⟩
  have K1 := hid (K.out.grown hg)
  clear hg
  go_wp2_with fail
  refine (told_any _).mono ?_
  rintro e w2 ⟨rfl, hg⟩
  have K2 := hid (K1.out.grown hg)
  clear hg
  go_wp2_with (first | refine wpList_row_w K2.out.b0 Try.underlying31 rfl (by kernel_rfl) rfl rfl rfl rfl ?_ | refine wpList_row K2.out.b0 Try.underlying31 rfl (by kernel_rfl) rfl rfl rfl rfl ?_)
  refine (tells_may 1 (0) 1 (some ⟨w.heap.size + 1 + 1, 0, none⟩) 0 0 (b := true) (by decide) rfl _).mono ?_
  rintro e w3 ⟨rfl, hg⟩
  have K3 := hid (K2.out.grown hg)
  clear hg
  go_wp2_with fail
  go_ret
  exact ⟨rfl, K3.out.g⟩
set_option maxHeartbeats 3200000 in
theorem way_3_1 (part edge : Int) (h1 : (IntKind.u64.wrap part).tmod 4 = 3) (h2 : (IntKind.u64.wrap edge).tmod 4 = 1) (w : World) :
    Calls Try.prog 8 #[.int .i64 part, .int .i64 edge] w fun e w' => e = .returned (.bool true) ∧ w.grownBy w' none := by
  obtain ⟨OZ, hmk, hzb⟩ := mk_some 48 (by decide)
  have HZB := hid hzb
  rw [show ((48 : Nat) : Int) = 48 from rfl] at hmk
  clear hzb
  go_enter Try.func8, Try.ntmps8
  go_upto_region 12 with fail
  refine wp_gen (Kp w [(w.heap.size, (bO 1 (0) 1 (.slice (some ⟨w.heap.size + 1 + 1, 0, none⟩) 48 48)))] [(.slice (some ⟨w.heap.size + 1 + 1, 0, none⟩) 48 48, List.replicate 48 0)]) (((((kp_start w).alloc (bO 1 (0) 1 (.slice (some ⟨w.heap.size + 1 + 1, 0, none⟩) 48 48))).grown (World.grownBy_alloc (w.alloc (bO 1 (0) 1 (.slice (some ⟨w.heap.size + 1 + 1, 0, none⟩) 48 48))) (.cells #[.int .i64 (0), .int .i64 (48), .int .i64 (49), .int .i64 (60)] 3) none)).grown (World.grownBy_alloc ((w.alloc (bO 1 (0) 1 (.slice (some ⟨w.heap.size + 1 + 1, 0, none⟩) 48 48))).alloc (.cells #[.int .i64 (0), .int .i64 (48), .int .i64 (49), .int .i64 (60)] 3)) OZ none)).addY (by have h := HZB.out ((w.alloc (bO 1 (0) 1 (.slice (some ⟨w.heap.size + 1 + 1, 0, none⟩) 48 48))).alloc (.cells #[.int .i64 (0), .int .i64 (48), .int .i64 (49), .int .i64 (60)] 3)); rw [alloc_size, alloc_size] at h; exact h)) (fun W kk => ?_)
  have K := hid kk
  clear kk
  go_wp2_with (first | refine wpList_row_w K.out.b0 Try.underlying31 rfl (by kernel_rfl) rfl rfl rfl rfl ?_ | refine wpList_row K.out.b0 Try.underlying31 rfl (by kernel_rfl) rfl rfl rfl rfl ?_)
  refine (tells_good 1 0 1 (List.replicate 48 0) (by decide) rfl rfl rfl _ K.out.y0).mono ?_
  rintro e w1 ⟨g, r, rfl, hg⟩
  have K1 := hid (K.out.grown hg)
  clear hg
  go_wp2_with fail
  refine (told_any _).mono ?_
  rintro e w2 ⟨rfl, hg⟩
  have K2 := hid (K1.out.grown hg)
  clear hg
  go_wp2_with (first | refine wpList_row_w K2.out.b0 Try.underlying31 rfl (by kernel_rfl) rfl rfl rfl rfl ?_ | refine wpList_row K2.out.b0 Try.underlying31 rfl (by kernel_rfl) rfl rfl rfl rfl ?_)
  refine (tells_may 1 (0) 1 (some ⟨w.heap.size + 1 + 1, 0, none⟩) 48 48 (b := true) (by decide) rfl _).mono ?_
  rintro e w3 ⟨rfl, hg⟩
  have K3 := hid (K2.out.grown hg)
  clear hg
  go_wp2_with fail
  go_ret
  exact ⟨rfl, K3.out.g⟩
set_option maxHeartbeats 3200000 in
theorem way_3_2 (part edge : Int) (h1 : (IntKind.u64.wrap part).tmod 4 = 3) (h2 : (IntKind.u64.wrap edge).tmod 4 = 2) (w : World) :
    Calls Try.prog 8 #[.int .i64 part, .int .i64 edge] w fun e w' => e = .returned (.bool true) ∧ w.grownBy w' none := by
  obtain ⟨OZ, hmk, hzb⟩ := mk_some 49 (by decide)
  have HZB := hid hzb
  rw [show ((49 : Nat) : Int) = 49 from rfl] at hmk
  clear hzb
  go_enter Try.func8, Try.ntmps8
  go_upto_region 12 with fail
  refine wp_gen (Kp w [(w.heap.size, (bO 1 (0) 1 (.slice (some ⟨w.heap.size + 1 + 1, 0, none⟩) 49 49)))] [(.slice (some ⟨w.heap.size + 1 + 1, 0, none⟩) 49 49, List.replicate 49 0)]) (((((kp_start w).alloc (bO 1 (0) 1 (.slice (some ⟨w.heap.size + 1 + 1, 0, none⟩) 49 49))).grown (World.grownBy_alloc (w.alloc (bO 1 (0) 1 (.slice (some ⟨w.heap.size + 1 + 1, 0, none⟩) 49 49))) (.cells #[.int .i64 (0), .int .i64 (48), .int .i64 (49), .int .i64 (60)] 3) none)).grown (World.grownBy_alloc ((w.alloc (bO 1 (0) 1 (.slice (some ⟨w.heap.size + 1 + 1, 0, none⟩) 49 49))).alloc (.cells #[.int .i64 (0), .int .i64 (48), .int .i64 (49), .int .i64 (60)] 3)) OZ none)).addY (by have h := HZB.out ((w.alloc (bO 1 (0) 1 (.slice (some ⟨w.heap.size + 1 + 1, 0, none⟩) 49 49))).alloc (.cells #[.int .i64 (0), .int .i64 (48), .int .i64 (49), .int .i64 (60)] 3)); rw [alloc_size, alloc_size] at h; exact h)) (fun W kk => ?_)
  have K := hid kk
  clear kk
  go_wp2_with (first | refine wpList_row_w K.out.b0 Try.underlying31 rfl (by kernel_rfl) rfl rfl rfl rfl ?_ | refine wpList_row K.out.b0 Try.underlying31 rfl (by kernel_rfl) rfl rfl rfl rfl ?_)
  refine (tells_bad 1 (0) 1 (some ⟨w.heap.size + 1 + 1, 0, none⟩) 49 49 (by decide) rfl _).mono ?_
  rintro e w1 ⟨rfl, hg⟩
  have K1 := hid (K.out.grown hg)
  clear hg
  go_wp2_with fail
  refine (told_any _).mono ?_
  rintro e w2 ⟨rfl, hg⟩
  have K2 := hid (K1.out.grown hg)
  clear hg
  go_wp2_with (first | refine wpList_row_w K2.out.b0 Try.underlying31 rfl (by kernel_rfl) rfl rfl rfl rfl ?_ | refine wpList_row K2.out.b0 Try.underlying31 rfl (by kernel_rfl) rfl rfl rfl rfl ?_)
  refine (tells_may 1 (0) 1 (some ⟨w.heap.size + 1 + 1, 0, none⟩) 49 49 (b := false) (by decide) rfl _).mono ?_
  rintro e w3 ⟨rfl, hg⟩
  have K3 := hid (K2.out.grown hg)
  clear hg
  go_wp2_with fail
  go_ret
  exact ⟨rfl, K3.out.g⟩
set_option maxHeartbeats 3200000 in
theorem way_3_3 (part edge : Int) (h1 : (IntKind.u64.wrap part).tmod 4 = 3) (h2 : (IntKind.u64.wrap edge).tmod 4 = 3) (w : World) :
    Calls Try.prog 8 #[.int .i64 part, .int .i64 edge] w fun e w' => e = .returned (.bool true) ∧ w.grownBy w' none := by
  obtain ⟨OZ, hmk, hzb⟩ := mk_some 60 (by decide)
  have HZB := hid hzb
  rw [show ((60 : Nat) : Int) = 60 from rfl] at hmk
  clear hzb
  go_enter Try.func8, Try.ntmps8
  go_upto_region 12 with fail
  refine wp_gen (Kp w [(w.heap.size, (bO 1 (0) 1 (.slice (some ⟨w.heap.size + 1 + 1, 0, none⟩) 60 60)))] [(.slice (some ⟨w.heap.size + 1 + 1, 0, none⟩) 60 60, List.replicate 60 0)]) (((((kp_start w).alloc (bO 1 (0) 1 (.slice (some ⟨w.heap.size + 1 + 1, 0, none⟩) 60 60))).grown (World.grownBy_alloc (w.alloc (bO 1 (0) 1 (.slice (some ⟨w.heap.size + 1 + 1, 0, none⟩) 60 60))) (.cells #[.int .i64 (0), .int .i64 (48), .int .i64 (49), .int .i64 (60)] 3) none)).grown (World.grownBy_alloc ((w.alloc (bO 1 (0) 1 (.slice (some ⟨w.heap.size + 1 + 1, 0, none⟩) 60 60))).alloc (.cells #[.int .i64 (0), .int .i64 (48), .int .i64 (49), .int .i64 (60)] 3)) OZ none)).addY (by have h := HZB.out ((w.alloc (bO 1 (0) 1 (.slice (some ⟨w.heap.size + 1 + 1, 0, none⟩) 60 60))).alloc (.cells #[.int .i64 (0), .int .i64 (48), .int .i64 (49), .int .i64 (60)] 3)); rw [alloc_size, alloc_size] at h; exact h)) (fun W kk => ?_)
  have K := hid kk
  clear kk
  go_wp2_with (first | refine wpList_row_w K.out.b0 Try.underlying31 rfl (by kernel_rfl) rfl rfl rfl rfl ?_ | refine wpList_row K.out.b0 Try.underlying31 rfl (by kernel_rfl) rfl rfl rfl rfl ?_)
  refine (tells_bad 1 (0) 1 (some ⟨w.heap.size + 1 + 1, 0, none⟩) 60 60 (by decide) rfl _).mono ?_
  rintro e w1 ⟨rfl, hg⟩
  have K1 := hid (K.out.grown hg)
  clear hg
  go_wp2_with fail
  refine (told_any _).mono ?_
  rintro e w2 ⟨rfl, hg⟩
  have K2 := hid (K1.out.grown hg)
  clear hg
  go_wp2_with (first | refine wpList_row_w K2.out.b0 Try.underlying31 rfl (by kernel_rfl) rfl rfl rfl rfl ?_ | refine wpList_row K2.out.b0 Try.underlying31 rfl (by kernel_rfl) rfl rfl rfl rfl ?_)
  refine (tells_may 1 (0) 1 (some ⟨w.heap.size + 1 + 1, 0, none⟩) 60 60 (b := false) (by decide) rfl _).mono ?_
  rintro e w3 ⟨rfl, hg⟩
  have K3 := hid (K2.out.grown hg)
  clear hg
  go_wp2_with fail
  go_ret
  exact ⟨rfl, K3.out.g⟩
theorem walk {w : World} (part edge : Int) : Calls Try.prog 8 #[.int .i64 part, .int .i64 edge] w fun e w' => e = .returned (.bool true) ∧ w.grownBy w' none := by
  obtain ⟨i, hi, mi⟩ := umod_small part 4 (by omega)
  obtain ⟨j, hj, mj⟩ := umod_small edge 4 (by omega)
  rw [show ((4 : Nat) : Int) = 4 from rfl] at mi mj
  have ci : i = 0 ∨ i = 1 ∨ i = 2 ∨ i = 3 := by omega
  have cj : j = 0 ∨ j = 1 ∨ j = 2 ∨ j = 3 := by omega
  rcases ci with rfl | rfl | rfl | rfl <;> rcases cj with rfl | rfl | rfl | rfl
  · exact way_0_0 part edge mi mj w
  · exact way_0_1 part edge mi mj w
  · exact way_0_2 part edge mi mj w
  · exact way_0_3 part edge mi mj w
  · exact way_1_0 part edge mi mj w
  · exact way_1_1 part edge mi mj w
  · exact way_1_2 part edge mi mj w
  · exact way_1_3 part edge mi mj w
  · exact way_2_0 part edge mi mj w
  · exact way_2_1 part edge mi mj w
  · exact way_2_2 part edge mi mj w
  · exact way_2_3 part edge mi mj w
  · exact way_3_0 part edge mi mj w
  · exact way_3_1 part edge mi mj w
  · exact way_3_2 part edge mi mj w
  · exact way_3_3 part edge mi mj w
end Go.Proofs.Ytjebmlmjbnaghaa.lgbounds
