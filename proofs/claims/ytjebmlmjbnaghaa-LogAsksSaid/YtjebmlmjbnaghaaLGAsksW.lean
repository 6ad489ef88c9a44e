/-
  The walk of the statement LogAsks: which cells may be, their bytes, sums, marks, what is in bytes, is what the document says. No condition.
-/
import Derived.Test.YtjebmlmjbnaghaaLgQ
import Derived.Test.YtjebmlmjbnaghaaHeld
import Derived.Deep.RegionHeld3
set_option linter.unusedSimpArgs false
set_option linter.unusedVariables false
namespace Go.Proofs.Ytjebmlmjbnaghaa.lgasks
set_option maxRecDepth 100000
open Go.RowKit

theorem out_walk (P Q K : Int) (ad ae : Option Addr) (n cp m cq : Nat) (z : Int) (h : 60 < n ∨ 80 < m) (w : World) :
    Calls Try.prog 3 #[.agg #[.int .u32 P, .int .i64 Q, .int .i64 K, .slice ad n cp], .slice ae m cq, .int .u32 z] w fun e w' => e = .returned (.bool true) ∧ w.grownBy w' none := by
  by_cases h1 : 60 < n
  · have e1 : (60 : Int) < (n : Int) := by omega
    clear h h1
    go_enter Try.func3, Try.ntmps3
    go_wp2_with fail
    refine (told_any _).mono ?_
    rintro e w1 ⟨rfl, hg⟩
    go_wp2_with fail
    go_ret
    exact ⟨rfl, gb_trans (gb_alloc (.refl w none) _) hg (.inl rfl)⟩
  · have e1 : ¬ (60 : Int) < (n : Int) := by omega
    have e2 : (80 : Int) < (m : Int) := by omega
    clear h h1
    go_enter Try.func3, Try.ntmps3
    go_wp2_with fail
    refine (told_any _).mono ?_
    rintro e w1 ⟨rfl, hg⟩
    go_wp2_with fail
    go_ret
    exact ⟨rfl, gb_trans (gb_alloc (.refl w none) _) hg (.inl rfl)⟩
@[reducible] def dO (P Q K : Int) (X : ByteArray) : Obj := .cells #[.int .u32 P, .int .i64 Q, .int .i64 K, .string X] 28
@[reducible] def aO (P Q K : Int) (v : Value) : Obj := .cells #[.int .u32 P, .int .i64 Q, .int .i64 K, v] 25
set_option maxHeartbeats 6400000 in
theorem in_walk (P Q K G1 G2 G3 Z gc mk S z : Int) (gw x : Bool) (ad ae : Option Addr) (n cp m cq : Nat) (l b PL gd : List UInt8) (SL SM SP SG : ByteArray) (h60 : n ≤ 60) (h80 : m ≤ 80) (w : World)
    (hl : ∀ W v, BytesAt W v l → (convert 23 9 v).run Try.prog W = .ok (.string SL) W) (hb : ∀ W v, BytesAt W v b → (convert 23 9 v).run Try.prog W = .ok (.string SM) W) (hp : ∀ W v, BytesAt W v PL → (convert 23 9 v).run Try.prog W = .ok (.string SP) W)
    (hP1 : ∀ (v : Value) (W : World), BytesAt W v l → Calls Try.prog 10 #[.agg #[.int .u32 P, .int .i64 Q, .int .i64 K, v]] W fun e w' => ∃ a n c, e = .returned (.tuple #[.slice a n c, .int .i64 Z]) ∧ BytesAt w' (.slice a n c) PL ∧ W.grownBy w' none)
    (hP2 : ∀ W : World, Calls Try.prog 11 #[.agg #[.int .u32 P, .int .i64 Q, .int .i64 K, .string SL]] W fun e w' => e = .returned (.tuple #[.string SP, .int .i64 Z]) ∧ W.grownBy w' none)
    (hG1 : ∀ (v : Value) (W : World), BytesAt W v b → Calls Try.prog 12 #[v] W fun e w' => ∃ p n k, e = .returned (.tuple #[.agg #[.int .u32 G1, .int .i64 G2, .int .i64 G3, .slice p n k], .bool gw, .int .i64 gc]) ∧ BytesAt w' (.slice p n k) gd ∧ W.grownBy w' none)
    (hG2 : ∀ W : World, Calls Try.prog 13 #[.string SM] W fun e w' => e = .returned (.tuple #[.agg #[.int .u32 G1, .int .i64 G2, .int .i64 G3, .string SG], .bool gw, .int .i64 gc]) ∧ W.grownBy w' none)
    (hM1 : ∀ W : World, Calls Try.prog 14 #[.agg #[.int .u32 P, .int .i64 Q, .int .i64 K, .slice ad n cp]] W fun e w' => e = .returned (.bool x) ∧ W.grownBy w' none)
    (hM2 : ∀ W : World, Calls Try.prog 15 #[.agg #[.int .u32 P, .int .i64 Q, .int .i64 K, .string SL]] W fun e w' => e = .returned (.bool x) ∧ W.grownBy w' none)
    (hE : ∀ (p : Option Addr) (n k : Nat) (W : World), BytesAt W (.slice p n k) gd → Calls Try.prog 16 #[.agg #[.int .u32 G1, .int .i64 G2, .int .i64 G3, .slice p n k], .agg #[.int .u32 G1, .int .i64 G2, .int .i64 G3, .string SG]] W fun e w' => e = .returned (.bool true) ∧ W.grownBy w' none)
    (hK1 : ∀ W : World, Calls Try.prog 17 #[.int .u32 z] W fun e w' => e = .returned (.int .u8 mk) ∧ W.grownBy w' none)
    (hK2 : ∀ W : World, Calls Try.prog 18 #[.int .u32 z] W fun e w' => e = .returned (.int .u8 mk) ∧ W.grownBy w' none)
    (hS1 : ∀ (v : Value) (W : World), BytesAt W v b → Calls Try.prog 19 #[v] W fun e w' => e = .returned (.int .u32 S) ∧ W.grownBy w' none)
    (hS2 : ∀ W : World, Calls Try.prog 20 #[.string SM] W fun e w' => e = .returned (.int .u32 S) ∧ W.grownBy w' none)
    (hv1 : BytesAt w (.slice ad n cp) l) (hv2 : BytesAt w (.slice ae m cq) b) :
    Calls Try.prog 3 #[.agg #[.int .u32 P, .int .i64 Q, .int .i64 K, .slice ad n cp], .slice ae m cq, .int .u32 z] w fun e w' => e = .returned (.bool true) ∧ w.grownBy w' none := by
  have HL := hid hl; have HB := hid hb; have HP := hid hp; have P1 := hid hP1; have P2 := hid hP2; have A1 := hid hG1; have A2 := hid hG2; have M1 := hid hM1; have M2 := hid hM2; have HE := hid hE; have C1 := hid hK1; have C2 := hid hK2; have S1 := hid hS1; have S2 := hid hS2
  have e1 : ¬ (60 : Int) < (n : Int) := by omega
  have e2 : ¬ (80 : Int) < (m : Int) := by omega
  have K0 := hid ((((kp_start w).addY hv2).addY hv1).alloc (aO P Q K (.slice ad n cp)))
  clear hl hb hp hP1 hP2 hG1 hG2 hM1 hM2 hE hK1 hK2 hS1 hS2 hv1 hv2 h60 h80
  go_enter Try.func3, Try.ntmps3
  go_upto_region 3 with fail
  clear e1 e2
  generalize w.alloc (aO P Q K (.slice ad n cp)) = w0 at *
  have d0 := at_cell K0.out.b0 0; have d1 := at_cell K0.out.b0 1; have d2 := at_cell K0.out.b0 2; have d3 := at_cell K0.out.b0 3
  rw [show (#[Value.int .u32 P, Value.int .i64 Q, Value.int .i64 K, Value.slice ad n cp] : Array Value)[0]? = some (Value.int .u32 P) from rfl] at d0
  rw [show (#[Value.int .u32 P, Value.int .i64 Q, Value.int .i64 K, Value.slice ad n cp] : Array Value)[1]? = some (Value.int .i64 Q) from rfl] at d1
  rw [show (#[Value.int .u32 P, Value.int .i64 Q, Value.int .i64 K, Value.slice ad n cp] : Array Value)[2]? = some (Value.int .i64 K) from rfl] at d2
  rw [show (#[Value.int .u32 P, Value.int .i64 Q, Value.int .i64 K, Value.slice ad n cp] : Array Value)[3]? = some (Value.slice ad n cp) from rfl] at d3
  have v1 := HL.out _ _ K0.out.y0
  go_upto_region 4 with fail
  clear d0 d1 d2 d3 v1
  have K1 := hid (K0.out.alloc (dO P Q K SL))
  obtain ⟨b7, hb7⟩ : ∃ b, b = w0.heap.size := ⟨_, rfl⟩
  rw [← hb7] at K1 ⊢
  generalize w0.alloc (dO P Q K SL) = w1 at *
  clear hb7 K0
  go_wp2_with (first | refine wpList_row_w K1.out.b1 Try.underlying25 rfl (by kernel_rfl) rfl rfl rfl rfl ?_ | refine wpList_row K1.out.b1 Try.underlying25 rfl (by kernel_rfl) rfl rfl rfl rfl ?_)
  refine (P1.out _ _ K1.out.y0).mono ?_
  rintro e w2 ⟨a2, n2, c2, rfl, hb2, hg⟩
  have K2 := hid ((K1.out.grown hg).addY hb2)
  clear hb2 hg
  go_wp2_with (first | refine wpList_row_w K2.out.b0 Try.underlying28 rfl (by kernel_rfl) rfl rfl rfl rfl ?_ | refine wpList_row K2.out.b0 Try.underlying28 rfl (by kernel_rfl) rfl rfl rfl rfl ?_)
  refine (P2.out _).mono ?_
  rintro e w3 ⟨rfl, hg⟩
  have K3 := hid (K2.out.grown hg)
  clear hg
  go_wp2_with fail
  refine (A1.out _ _ K3.out.y2).mono ?_
  rintro e w4 ⟨p6, n6, k6, rfl, hb6, hg⟩
  have K4 := hid (((K3.out.grown hg).addY hb6).alloc (.cells #[.int .u32 G1, .int .i64 G2, .int .i64 G3, .slice p6 n6 k6] 31))
  obtain ⟨b12, hb12⟩ : ∃ b, b = w4.heap.size := ⟨_, rfl⟩
  rw [← hb12] at K4
  clear hb6 hg
  go_upto_region 7 with fail
  rw [← hb12]
  generalize w4.alloc (.cells #[.int .u32 G1, .int .i64 G2, .int .i64 G3, .slice p6 n6 k6] 31) = w5 at *
  clear hb12
  have v2 := HB.out _ _ K4.out.y3
  go_wp2_with fail
  clear v2
  refine (A2.out _).mono ?_
  rintro e w6 ⟨rfl, hg⟩
  have K5 := hid ((K4.out.grown hg).alloc (dO G1 G2 G3 SG))
  obtain ⟨b15, hb15⟩ : ∃ b, b = w6.heap.size := ⟨_, rfl⟩
  rw [← hb15] at K5
  clear hg
  go_upto_region 8 with fail
  rw [← hb15]
  generalize w6.alloc (dO G1 G2 G3 SG) = w7 at *
  clear hb15 K1 K2 K3 K4
  obtain ⟨BS, hBS⟩ : ∃ BS, BS = [(b15, dO G1 G2 G3 SG), (b12, (.cells #[.int .u32 G1, .int .i64 G2, .int .i64 G3, .slice p6 n6 k6] 31 : Obj)), (b7, dO P Q K SL), (w.heap.size, aO P Q K (.slice ad n cp))] := ⟨_, rfl⟩
  obtain ⟨YS, hYS⟩ : ∃ YS, YS = [(Value.slice p6 n6 k6, gd), (.slice a2 n2 c2, PL), (.slice ad n cp, l), (.slice ae m cq, b)] := ⟨_, rfl⟩
  have EB := hid hBS; have EY := hid hYS
  rw [← hBS, ← hYS] at K5
  clear hBS hYS
  refine wp_region_held_drew (S := (fun w' => (Kp w BS YS w'))) (by kernel_rfl) K5.out.drew (fun hHeld => ?_)
  try dsimp only at hHeld
  refine wpAnyH_ready (rs := [0]) (by kernel_rfl) (by simp) ?_
  refine AllReadyH.cons (o := _) rfl (fun K hK => ?_) AllReadyH.nil
  try simp only [List.getElem_toArray, List.getElem_cons_succ, List.getElem_cons_zero]
  go_simp
  have hH2 := hHeld
  have k := hH2
  refine (told_any _).mono ?_
  rintro e w1000 ⟨rfl, hg⟩
  have L0 := hid (show (Kp w BS YS w1000) from (k.grown hg))
  clear hHeld hg k
  go_wp2_with fail
  refine hK.out _ _ ?_ (fun hHeld => ?_)
  · exact L0.out
  clear hK K
  try dsimp only at hHeld
  try simp only [Act.put, List.setIfInBounds_toArray, List.set_cons_zero, List.set_cons_succ, List.getElem_toArray, List.getElem_cons_succ, List.getElem_cons_zero]
  refine' wpAnyH_take (i := 1) (v := _) rfl (by kernel_rfl) (by kernel_rfl) (by kernel_rfl) (fun _ _ _ h => h) (Or.inl ⟨by rfl, ?_⟩) hHeld ?_
  rotate_left
  · (intro w hSw; (try dsimp only at hSw); go_simp; try with_reducible rfl)
  try simp only [Act.put, List.setIfInBounds_toArray, List.set_cons_zero, List.set_cons_succ, List.getElem_toArray, List.getElem_cons_succ, List.getElem_cons_zero]
  refine' wpAnyH_take (i := 2) (v := _) rfl (by kernel_rfl) (by kernel_rfl) (by kernel_rfl) (fun _ _ _ h => h) (Or.inl ⟨by rfl, ?_⟩) hHeld ?_
  rotate_left
  · (intro w hSw; (try dsimp only at hSw); (try simp only [List.getElem_toArray, List.getElem_cons_succ, List.getElem_cons_zero]); refine exec_row (x := .tmp 3) (by rw [EB.out] at hSw; exact hSw.b3) Try.underlying25 rfl (by kernel_rfl) ?_ ?_ <;> rfl)
  try simp only [Act.put, List.setIfInBounds_toArray, List.set_cons_zero, List.set_cons_succ, List.getElem_toArray, List.getElem_cons_succ, List.getElem_cons_zero]
  refine' wpAnyH_take (i := 4) (v := _) rfl (by kernel_rfl) (by kernel_rfl) (by kernel_rfl) (fun _ _ _ h => h) (Or.inl ⟨by rfl, ?_⟩) hHeld ?_
  rotate_left
  · (intro w hSw; (try dsimp only at hSw); (try simp only [List.getElem_toArray, List.getElem_cons_succ, List.getElem_cons_zero]); refine exec_row (x := .tmp 7) (by rw [EB.out] at hSw; exact hSw.b2) Try.underlying28 rfl (by kernel_rfl) ?_ ?_ <;> rfl)
  try simp only [Act.put, List.setIfInBounds_toArray, List.set_cons_zero, List.set_cons_succ, List.getElem_toArray, List.getElem_cons_succ, List.getElem_cons_zero]
  refine wpAnyH_ready (rs := [3]) (by kernel_rfl) (by simp) ?_
  refine AllReadyH.cons (o := _) rfl (fun K hK => ?_) AllReadyH.nil
  try simp only [List.getElem_toArray, List.getElem_cons_succ, List.getElem_cons_zero]
  go_simp
  have hH2 := hHeld
  have k := hH2
  refine (M1.out _).mono ?_
  rintro e w1003 ⟨rfl, hg⟩
  have L3 := hid (show (Kp w BS YS w1003) from (k.grown hg))
  clear hHeld hg k
  go_wp2_with fail
  refine hK.out _ _ ?_ (fun hHeld => ?_)
  · exact L3.out
  clear hK K
  try dsimp only at hHeld
  try simp only [Act.put, List.setIfInBounds_toArray, List.set_cons_zero, List.set_cons_succ, List.getElem_toArray, List.getElem_cons_succ, List.getElem_cons_zero]
  refine wpAnyH_ready (rs := [5]) (by kernel_rfl) (by simp) ?_
  refine AllReadyH.cons (o := _) rfl (fun K hK => ?_) AllReadyH.nil
  try simp only [List.getElem_toArray, List.getElem_cons_succ, List.getElem_cons_zero]
  go_simp
  have hH2 := hHeld
  have k := hH2
  refine (M2.out _).mono ?_
  rintro e w1005 ⟨rfl, hg⟩
  have L5 := hid (show (Kp w BS YS w1005) from (k.grown hg))
  clear hHeld hg k
  go_wp2_with fail
  refine hK.out _ _ ?_ (fun hHeld => ?_)
  · exact L5.out
  clear hK K
  try dsimp only at hHeld
  try simp only [Act.put, List.setIfInBounds_toArray, List.set_cons_zero, List.set_cons_succ, List.getElem_toArray, List.getElem_cons_succ, List.getElem_cons_zero]
  refine' wpAnyH_take (i := 6) (v := _) rfl (by kernel_rfl) (by kernel_rfl) (by kernel_rfl) (fun _ _ _ h => h) (Or.inl ⟨by rfl, ?_⟩) hHeld ?_
  rotate_left
  · (intro w hSw; (try dsimp only at hSw); go_simp; try with_reducible rfl)
  try simp only [Act.put, List.setIfInBounds_toArray, List.set_cons_zero, List.set_cons_succ, List.getElem_toArray, List.getElem_cons_succ, List.getElem_cons_zero]
  refine' wpAnyH_take (i := 7) (v := _) rfl (by kernel_rfl) (by kernel_rfl) (by kernel_rfl) (fun _ _ _ h => h) (Or.inl ⟨by rfl, ?_⟩) hHeld ?_
  rotate_left
  · (intro w hSw; (try dsimp only at hSw); go_simp; try with_reducible rfl)
  try simp only [Act.put, List.setIfInBounds_toArray, List.set_cons_zero, List.set_cons_succ, List.getElem_toArray, List.getElem_cons_succ, List.getElem_cons_zero]
  refine' wpAnyH_take (i := 8) (v := _) rfl (by kernel_rfl) (by kernel_rfl) (by kernel_rfl) (fun _ _ _ h => h) (Or.inl ⟨by rfl, ?_⟩) hHeld ?_
  rotate_left
  · (intro w hSw; (try dsimp only at hSw); go_simp; try with_reducible rfl)
  try simp only [Act.put, List.setIfInBounds_toArray, List.set_cons_zero, List.set_cons_succ, List.getElem_toArray, List.getElem_cons_succ, List.getElem_cons_zero]
  refine' wpAnyH_take (i := 9) (v := _) rfl (by kernel_rfl) (by kernel_rfl) (by kernel_rfl) (fun _ _ _ h => h) (Or.inl ⟨by rfl, ?_⟩) hHeld ?_
  rotate_left
  · (intro w hSw; (try dsimp only at hSw); go_simp; try with_reducible rfl)
  try simp only [Act.put, List.setIfInBounds_toArray, List.set_cons_zero, List.set_cons_succ, List.getElem_toArray, List.getElem_cons_succ, List.getElem_cons_zero]
  refine' wpAnyH_take (i := 10) (v := _) rfl (by kernel_rfl) (by kernel_rfl) (by kernel_rfl) (fun _ _ _ h => h) (Or.inl ⟨by rfl, ?_⟩) hHeld ?_
  rotate_left
  · (intro w hSw; (try dsimp only at hSw); go_simp; try with_reducible rfl)
  try simp only [Act.put, List.setIfInBounds_toArray, List.set_cons_zero, List.set_cons_succ, List.getElem_toArray, List.getElem_cons_succ, List.getElem_cons_zero]
  refine' wpAnyH_take (i := 11) (v := _) rfl (by kernel_rfl) (by kernel_rfl) (by kernel_rfl) (fun _ _ _ h => h) (Or.inl ⟨by rfl, ?_⟩) hHeld ?_
  rotate_left
  · (intro w hSw; (try dsimp only at hSw); go_simp; try with_reducible rfl)
  try simp only [Act.put, List.setIfInBounds_toArray, List.set_cons_zero, List.set_cons_succ, List.getElem_toArray, List.getElem_cons_succ, List.getElem_cons_zero]
  refine' wpAnyH_take (i := 12) (v := _) rfl (by kernel_rfl) (by kernel_rfl) (by kernel_rfl) (fun _ _ _ h => h) (Or.inl ⟨by rfl, ?_⟩) hHeld ?_
  rotate_left
  · (intro w hSw; (try dsimp only at hSw); go_simp; try with_reducible rfl)
  try simp only [Act.put, List.setIfInBounds_toArray, List.set_cons_zero, List.set_cons_succ, List.getElem_toArray, List.getElem_cons_succ, List.getElem_cons_zero]
  refine' wpAnyH_take (i := 13) (v := _) rfl (by kernel_rfl) (by kernel_rfl) (by kernel_rfl) (fun _ _ _ h => h) (Or.inl ⟨by rfl, ?_⟩) hHeld ?_
  rotate_left
  · (intro w hSw; (try dsimp only at hSw); go_simp; try with_reducible rfl)
  try simp only [Act.put, List.setIfInBounds_toArray, List.set_cons_zero, List.set_cons_succ, List.getElem_toArray, List.getElem_cons_succ, List.getElem_cons_zero]
  refine' wpAnyH_take (i := 14) (v := _) rfl (by kernel_rfl) (by kernel_rfl) (by kernel_rfl) (fun _ _ _ h => h) (Or.inl ⟨by rfl, ?_⟩) hHeld ?_
  rotate_left
  · (intro w hSw; (try dsimp only at hSw); go_simp; try with_reducible rfl)
  try simp only [Act.put, List.setIfInBounds_toArray, List.set_cons_zero, List.set_cons_succ, List.getElem_toArray, List.getElem_cons_succ, List.getElem_cons_zero]
  refine' wpAnyH_take (i := 15) (v := _) rfl (by kernel_rfl) (by kernel_rfl) (by kernel_rfl) (fun _ _ _ h => h) (Or.inl ⟨by rfl, ?_⟩) hHeld ?_
  rotate_left
  · (intro w hSw; (try dsimp only at hSw); have k := hSw; rw [EY.out] at k; have cv := HP.out _ _ k.y1; go_simp; try with_reducible rfl)
  try simp only [Act.put, List.setIfInBounds_toArray, List.set_cons_zero, List.set_cons_succ, List.getElem_toArray, List.getElem_cons_succ, List.getElem_cons_zero]
  refine' wpAnyH_take (i := 16) (v := _) rfl (by kernel_rfl) (by kernel_rfl) (by kernel_rfl) (fun _ _ _ h => h) (Or.inl ⟨by rfl, ?_⟩) hHeld ?_
  rotate_left
  · (intro w hSw; (try dsimp only at hSw); go_simp; try with_reducible rfl)
  try simp only [Act.put, List.setIfInBounds_toArray, List.set_cons_zero, List.set_cons_succ, List.getElem_toArray, List.getElem_cons_succ, List.getElem_cons_zero]
  refine' wpAnyH_take (i := 17) (v := _) rfl (by kernel_rfl) (by kernel_rfl) (by kernel_rfl) (fun _ _ _ h => h) (Or.inl ⟨by rfl, ?_⟩) hHeld ?_
  rotate_left
  · (intro w hSw; (try dsimp only at hSw); go_simp; try with_reducible rfl)
  try simp only [Act.put, List.setIfInBounds_toArray, List.set_cons_zero, List.set_cons_succ, List.getElem_toArray, List.getElem_cons_succ, List.getElem_cons_zero]
  refine' wpAnyH_take (i := 18) (v := _) rfl (by kernel_rfl) (by kernel_rfl) (by kernel_rfl) (fun _ _ _ h => h) (Or.inl ⟨by rfl, ?_⟩) hHeld ?_
  rotate_left
  · (intro w hSw; (try dsimp only at hSw); go_simp; try with_reducible rfl)
  try simp only [Act.put, List.setIfInBounds_toArray, List.set_cons_zero, List.set_cons_succ, List.getElem_toArray, List.getElem_cons_succ, List.getElem_cons_zero]
  refine' wpAnyH_take (i := 19) (v := _) rfl (by kernel_rfl) (by kernel_rfl) (by kernel_rfl) (fun _ _ _ h => h) (Or.inl ⟨by rfl, ?_⟩) hHeld ?_
  rotate_left
  · (intro w hSw; (try dsimp only at hSw); go_simp; try with_reducible rfl)
  try simp only [Act.put, List.setIfInBounds_toArray, List.set_cons_zero, List.set_cons_succ, List.getElem_toArray, List.getElem_cons_succ, List.getElem_cons_zero]
  refine' wpAnyH_take (i := 20) (v := _) rfl (by kernel_rfl) (by kernel_rfl) (by kernel_rfl) (fun _ _ _ h => h) (Or.inl ⟨by rfl, ?_⟩) hHeld ?_
  rotate_left
  · (intro w hSw; (try dsimp only at hSw); (try simp only [List.getElem_toArray, List.getElem_cons_succ, List.getElem_cons_zero]); refine exec_row (x := .tmp 12) (by rw [EB.out] at hSw; exact hSw.b1) Try.underlying31 rfl (by kernel_rfl) ?_ ?_ <;> rfl)
  try simp only [Act.put, List.setIfInBounds_toArray, List.set_cons_zero, List.set_cons_succ, List.getElem_toArray, List.getElem_cons_succ, List.getElem_cons_zero]
  refine' wpAnyH_take (i := 21) (v := _) rfl (by kernel_rfl) (by kernel_rfl) (by kernel_rfl) (fun _ _ _ h => h) (Or.inl ⟨by rfl, ?_⟩) hHeld ?_
  rotate_left
  · (intro w hSw; (try dsimp only at hSw); (try simp only [List.getElem_toArray, List.getElem_cons_succ, List.getElem_cons_zero]); refine exec_row (x := .tmp 15) (by rw [EB.out] at hSw; exact hSw.b0) Try.underlying28 rfl (by kernel_rfl) ?_ ?_ <;> rfl)
  try simp only [Act.put, List.setIfInBounds_toArray, List.set_cons_zero, List.set_cons_succ, List.getElem_toArray, List.getElem_cons_succ, List.getElem_cons_zero]
  refine wpAnyH_ready (rs := [22]) (by kernel_rfl) (by simp) ?_
  refine AllReadyH.cons (o := _) rfl (fun K hK => ?_) AllReadyH.nil
  try simp only [List.getElem_toArray, List.getElem_cons_succ, List.getElem_cons_zero]
  go_simp
  have hH2 := hHeld
  have k := hH2
  refine (HE.out _ _ _ _ (by rw [EY.out] at k; exact k.y0)).mono ?_
  rintro e w1022 ⟨rfl, hg⟩
  have L22 := hid (show (Kp w BS YS w1022) from (k.grown hg))
  clear hHeld hg k
  go_wp2_with fail
  refine hK.out _ _ ?_ (fun hHeld => ?_)
  · exact L22.out
  clear hK K
  try dsimp only at hHeld
  try simp only [Act.put, List.setIfInBounds_toArray, List.set_cons_zero, List.set_cons_succ, List.getElem_toArray, List.getElem_cons_succ, List.getElem_cons_zero]
  refine' wpAnyH_take (i := 23) (v := _) rfl (by kernel_rfl) (by kernel_rfl) (by kernel_rfl) (fun _ _ _ h => h) (Or.inl ⟨by rfl, ?_⟩) hHeld ?_
  rotate_left
  · (intro w hSw; (try dsimp only at hSw); go_simp; try with_reducible rfl)
  try simp only [Act.put, List.setIfInBounds_toArray, List.set_cons_zero, List.set_cons_succ, List.getElem_toArray, List.getElem_cons_succ, List.getElem_cons_zero]
  refine' wpAnyH_take (i := 24) (v := _) rfl (by kernel_rfl) (by kernel_rfl) (by kernel_rfl) (fun _ _ _ h => h) (Or.inl ⟨by rfl, ?_⟩) hHeld ?_
  rotate_left
  · (intro w hSw; (try dsimp only at hSw); go_simp; try with_reducible rfl)
  try simp only [Act.put, List.setIfInBounds_toArray, List.set_cons_zero, List.set_cons_succ, List.getElem_toArray, List.getElem_cons_succ, List.getElem_cons_zero]
  refine' wpAnyH_take (i := 25) (v := _) rfl (by kernel_rfl) (by kernel_rfl) (by kernel_rfl) (fun _ _ _ h => h) (Or.inl ⟨by rfl, ?_⟩) hHeld ?_
  rotate_left
  · (intro w hSw; (try dsimp only at hSw); go_simp; try with_reducible rfl)
  try simp only [Act.put, List.setIfInBounds_toArray, List.set_cons_zero, List.set_cons_succ, List.getElem_toArray, List.getElem_cons_succ, List.getElem_cons_zero]
  refine' wpAnyH_take (i := 26) (v := _) rfl (by kernel_rfl) (by kernel_rfl) (by kernel_rfl) (fun _ _ _ h => h) (Or.inl ⟨by rfl, ?_⟩) hHeld ?_
  rotate_left
  · (intro w hSw; (try dsimp only at hSw); go_simp; try with_reducible rfl)
  try simp only [Act.put, List.setIfInBounds_toArray, List.set_cons_zero, List.set_cons_succ, List.getElem_toArray, List.getElem_cons_succ, List.getElem_cons_zero]
  refine' wpAnyH_take (i := 27) (v := _) rfl (by kernel_rfl) (by kernel_rfl) (by kernel_rfl) (fun _ _ _ h => h) (Or.inl ⟨by rfl, ?_⟩) hHeld ?_
  rotate_left
  · (intro w hSw; (try dsimp only at hSw); go_simp; try with_reducible rfl)
  try simp only [Act.put, List.setIfInBounds_toArray, List.set_cons_zero, List.set_cons_succ, List.getElem_toArray, List.getElem_cons_succ, List.getElem_cons_zero]
  refine' wpAnyH_take (i := 28) (v := _) rfl (by kernel_rfl) (by kernel_rfl) (by kernel_rfl) (fun _ _ _ h => h) (Or.inl ⟨by rfl, ?_⟩) hHeld ?_
  rotate_left
  · (intro w hSw; (try dsimp only at hSw); go_simp; try with_reducible rfl)
  try simp only [Act.put, List.setIfInBounds_toArray, List.set_cons_zero, List.set_cons_succ, List.getElem_toArray, List.getElem_cons_succ, List.getElem_cons_zero]
  refine' wpAnyH_take (i := 29) (v := _) rfl (by kernel_rfl) (by kernel_rfl) (by kernel_rfl) (fun _ _ _ h => h) (Or.inl ⟨by rfl, ?_⟩) hHeld ?_
  rotate_left
  · (intro w hSw; (try dsimp only at hSw); go_simp; try with_reducible rfl)
  try simp only [Act.put, List.setIfInBounds_toArray, List.set_cons_zero, List.set_cons_succ, List.getElem_toArray, List.getElem_cons_succ, List.getElem_cons_zero]
  refine' wpAnyH_take (i := 30) (v := _) rfl (by kernel_rfl) (by kernel_rfl) (by kernel_rfl) (fun _ _ _ h => h) (Or.inl ⟨by rfl, ?_⟩) hHeld ?_
  rotate_left
  · (intro w hSw; (try dsimp only at hSw); go_simp; try with_reducible rfl)
  try simp only [Act.put, List.setIfInBounds_toArray, List.set_cons_zero, List.set_cons_succ, List.getElem_toArray, List.getElem_cons_succ, List.getElem_cons_zero]
  refine' wpAnyH_take (i := 31) (v := _) rfl (by kernel_rfl) (by kernel_rfl) (by kernel_rfl) (fun _ _ _ h => h) (Or.inl ⟨by rfl, ?_⟩) hHeld ?_
  rotate_left
  · (intro w hSw; (try dsimp only at hSw); go_simp; try with_reducible rfl)
  try simp only [Act.put, List.setIfInBounds_toArray, List.set_cons_zero, List.set_cons_succ, List.getElem_toArray, List.getElem_cons_succ, List.getElem_cons_zero]
  refine' wpAnyH_take (i := 32) (v := _) rfl (by kernel_rfl) (by kernel_rfl) (by kernel_rfl) (fun _ _ _ h => h) (Or.inl ⟨by rfl, ?_⟩) hHeld ?_
  rotate_left
  · (intro w hSw; (try dsimp only at hSw); go_simp; try with_reducible rfl)
  try simp only [Act.put, List.setIfInBounds_toArray, List.set_cons_zero, List.set_cons_succ, List.getElem_toArray, List.getElem_cons_succ, List.getElem_cons_zero]
  refine' wpAnyH_take (i := 33) (v := _) rfl (by kernel_rfl) (by kernel_rfl) (by kernel_rfl) (fun _ _ _ h => h) (Or.inl ⟨by rfl, ?_⟩) hHeld ?_
  rotate_left
  · (intro w hSw; (try dsimp only at hSw); go_simp; try with_reducible rfl)
  try simp only [Act.put, List.setIfInBounds_toArray, List.set_cons_zero, List.set_cons_succ, List.getElem_toArray, List.getElem_cons_succ, List.getElem_cons_zero]
  refine' wpAnyH_take (i := 34) (v := _) rfl (by kernel_rfl) (by kernel_rfl) (by kernel_rfl) (fun _ _ _ h => h) (Or.inl ⟨by rfl, ?_⟩) hHeld ?_
  rotate_left
  · (intro w hSw; (try dsimp only at hSw); go_simp; try with_reducible rfl)
  try simp only [Act.put, List.setIfInBounds_toArray, List.set_cons_zero, List.set_cons_succ, List.getElem_toArray, List.getElem_cons_succ, List.getElem_cons_zero]
  refine' wpAnyH_take (i := 35) (v := _) rfl (by kernel_rfl) (by kernel_rfl) (by kernel_rfl) (fun _ _ _ h => h) (Or.inl ⟨by rfl, ?_⟩) hHeld ?_
  rotate_left
  · (intro w hSw; (try dsimp only at hSw); go_simp; try with_reducible rfl)
  try simp only [Act.put, List.setIfInBounds_toArray, List.set_cons_zero, List.set_cons_succ, List.getElem_toArray, List.getElem_cons_succ, List.getElem_cons_zero]
  refine' wpAnyH_take (i := 37) (v := _) rfl (by kernel_rfl) (by kernel_rfl) (by kernel_rfl) (fun _ _ _ h => h) (Or.inl ⟨by rfl, ?_⟩) hHeld ?_
  rotate_left
  · (intro w hSw; (try dsimp only at hSw); go_simp; try with_reducible rfl)
  try simp only [Act.put, List.setIfInBounds_toArray, List.set_cons_zero, List.set_cons_succ, List.getElem_toArray, List.getElem_cons_succ, List.getElem_cons_zero]
  refine wpAnyH_ready (rs := [36]) (by kernel_rfl) (by simp) ?_
  refine AllReadyH.cons (o := _) rfl (fun K hK => ?_) AllReadyH.nil
  try simp only [List.getElem_toArray, List.getElem_cons_succ, List.getElem_cons_zero]
  go_simp
  have hH2 := hHeld
  have k := hH2
  refine (C1.out _).mono ?_
  rintro e w1036 ⟨rfl, hg⟩
  have L36 := hid (show (Kp w BS YS w1036) from (k.grown hg))
  clear hHeld hg k
  go_wp2_with fail
  refine hK.out _ _ ?_ (fun hHeld => ?_)
  · exact L36.out
  clear hK K
  try dsimp only at hHeld
  try simp only [Act.put, List.setIfInBounds_toArray, List.set_cons_zero, List.set_cons_succ, List.getElem_toArray, List.getElem_cons_succ, List.getElem_cons_zero]
  refine wpAnyH_ready (rs := [38]) (by kernel_rfl) (by simp) ?_
  refine AllReadyH.cons (o := _) rfl (fun K hK => ?_) AllReadyH.nil
  try simp only [List.getElem_toArray, List.getElem_cons_succ, List.getElem_cons_zero]
  go_simp
  have hH2 := hHeld
  have k := hH2
  refine (C2.out _).mono ?_
  rintro e w1038 ⟨rfl, hg⟩
  have L38 := hid (show (Kp w BS YS w1038) from (k.grown hg))
  clear hHeld hg k
  go_wp2_with fail
  refine hK.out _ _ ?_ (fun hHeld => ?_)
  · exact L38.out
  clear hK K
  try dsimp only at hHeld
  try simp only [Act.put, List.setIfInBounds_toArray, List.set_cons_zero, List.set_cons_succ, List.getElem_toArray, List.getElem_cons_succ, List.getElem_cons_zero]
  refine' wpAnyH_take (i := 39) (v := _) rfl (by kernel_rfl) (by kernel_rfl) (by kernel_rfl) (fun _ _ _ h => h) (Or.inl ⟨by rfl, ?_⟩) hHeld ?_
  rotate_left
  · (intro w hSw; (try dsimp only at hSw); go_simp; try with_reducible rfl)
  try simp only [Act.put, List.setIfInBounds_toArray, List.set_cons_zero, List.set_cons_succ, List.getElem_toArray, List.getElem_cons_succ, List.getElem_cons_zero]
  refine' wpAnyH_take (i := 40) (v := _) rfl (by kernel_rfl) (by kernel_rfl) (by kernel_rfl) (fun _ _ _ h => h) (Or.inl ⟨by rfl, ?_⟩) hHeld ?_
  rotate_left
  · (intro w hSw; (try dsimp only at hSw); go_simp; try with_reducible rfl)
  try simp only [Act.put, List.setIfInBounds_toArray, List.set_cons_zero, List.set_cons_succ, List.getElem_toArray, List.getElem_cons_succ, List.getElem_cons_zero]
  refine' wpAnyH_take (i := 41) (v := _) rfl (by kernel_rfl) (by kernel_rfl) (by kernel_rfl) (fun _ _ _ h => h) (Or.inl ⟨by rfl, ?_⟩) hHeld ?_
  rotate_left
  · (intro w hSw; (try dsimp only at hSw); go_simp; try with_reducible rfl)
  try simp only [Act.put, List.setIfInBounds_toArray, List.set_cons_zero, List.set_cons_succ, List.getElem_toArray, List.getElem_cons_succ, List.getElem_cons_zero]
  refine' wpAnyH_take (i := 42) (v := _) rfl (by kernel_rfl) (by kernel_rfl) (by kernel_rfl) (fun _ _ _ h => h) (Or.inl ⟨by rfl, ?_⟩) hHeld ?_
  rotate_left
  · (intro w hSw; (try dsimp only at hSw); go_simp; try with_reducible rfl)
  try simp only [Act.put, List.setIfInBounds_toArray, List.set_cons_zero, List.set_cons_succ, List.getElem_toArray, List.getElem_cons_succ, List.getElem_cons_zero]
  refine' wpAnyH_take (i := 44) (v := _) rfl (by kernel_rfl) (by kernel_rfl) (by kernel_rfl) (fun _ _ _ h => h) (Or.inl ⟨by rfl, ?_⟩) hHeld ?_
  rotate_left
  · (intro w hSw; (try dsimp only at hSw); go_simp; try with_reducible rfl)
  try simp only [Act.put, List.setIfInBounds_toArray, List.set_cons_zero, List.set_cons_succ, List.getElem_toArray, List.getElem_cons_succ, List.getElem_cons_zero]
  refine' wpAnyH_take (i := 45) (v := _) rfl (by kernel_rfl) (by kernel_rfl) (by kernel_rfl) (fun _ _ _ h => h) (Or.inl ⟨by rfl, ?_⟩) hHeld ?_
  rotate_left
  · (intro w hSw; (try dsimp only at hSw); have k := hSw; rw [EY.out] at k; have cv := HB.out _ _ k.y3; go_simp; try with_reducible rfl)
  try simp only [Act.put, List.setIfInBounds_toArray, List.set_cons_zero, List.set_cons_succ, List.getElem_toArray, List.getElem_cons_succ, List.getElem_cons_zero]
  refine wpAnyH_ready (rs := [43]) (by kernel_rfl) (by simp) ?_
  refine AllReadyH.cons (o := _) rfl (fun K hK => ?_) AllReadyH.nil
  try simp only [List.getElem_toArray, List.getElem_cons_succ, List.getElem_cons_zero]
  go_simp
  have hH2 := hHeld
  have k := hH2
  refine (S1.out _ _ (by rw [EY.out] at k; exact k.y3)).mono ?_
  rintro e w1043 ⟨rfl, hg⟩
  have L43 := hid (show (Kp w BS YS w1043) from (k.grown hg))
  clear hHeld hg k
  go_wp2_with fail
  refine hK.out _ _ ?_ (fun hHeld => ?_)
  · exact L43.out
  clear hK K
  try dsimp only at hHeld
  try simp only [Act.put, List.setIfInBounds_toArray, List.set_cons_zero, List.set_cons_succ, List.getElem_toArray, List.getElem_cons_succ, List.getElem_cons_zero]
  refine wpAnyH_ready (rs := [46]) (by kernel_rfl) (by simp) ?_
  refine AllReadyH.cons (o := _) rfl (fun K hK => ?_) AllReadyH.nil
  try simp only [List.getElem_toArray, List.getElem_cons_succ, List.getElem_cons_zero]
  go_simp
  have hH2 := hHeld
  have k := hH2
  refine (S2.out _).mono ?_
  rintro e w1046 ⟨rfl, hg⟩
  have L46 := hid (show (Kp w BS YS w1046) from (k.grown hg))
  clear hHeld hg k
  go_wp2_with fail
  refine hK.out _ _ ?_ (fun hHeld => ?_)
  · exact L46.out
  clear hK K
  try dsimp only at hHeld
  try simp only [Act.put, List.setIfInBounds_toArray, List.set_cons_zero, List.set_cons_succ, List.getElem_toArray, List.getElem_cons_succ, List.getElem_cons_zero]
  refine' wpAnyH_take (i := 47) (v := _) rfl (by kernel_rfl) (by kernel_rfl) (by kernel_rfl) (fun _ _ _ h => h) (Or.inl ⟨by rfl, ?_⟩) hHeld ?_
  rotate_left
  · (intro w hSw; (try dsimp only at hSw); go_simp; try with_reducible rfl)
  try simp only [Act.put, List.setIfInBounds_toArray, List.set_cons_zero, List.set_cons_succ, List.getElem_toArray, List.getElem_cons_succ, List.getElem_cons_zero]
  refine' wpAnyH_take (i := 48) (v := _) rfl (by kernel_rfl) (by kernel_rfl) (by kernel_rfl) (fun _ _ _ h => h) (Or.inl ⟨by rfl, ?_⟩) hHeld ?_
  rotate_left
  · (intro w hSw; (try dsimp only at hSw); go_simp; try with_reducible rfl)
  try simp only [Act.put, List.setIfInBounds_toArray, List.set_cons_zero, List.set_cons_succ, List.getElem_toArray, List.getElem_cons_succ, List.getElem_cons_zero]
  refine' wpAnyH_take (i := 49) (v := _) rfl (by kernel_rfl) (by kernel_rfl) (by kernel_rfl) (fun _ _ _ h => h) (Or.inl ⟨by rfl, ?_⟩) hHeld ?_
  rotate_left
  · (intro w hSw; (try dsimp only at hSw); go_simp; try with_reducible rfl)
  try simp only [Act.put, List.setIfInBounds_toArray, List.set_cons_zero, List.set_cons_succ, List.getElem_toArray, List.getElem_cons_succ, List.getElem_cons_zero]
  refine wpAnyH_done (by kernel_rfl) ?_ _
  have k := hHeld
  have KK := hid k; clear k
  go_wp2_with fail
  go_ret
  exact ⟨rfl, KK.out.g⟩
theorem walk {w : World} (p : Nat) (Q K : Int) (u : Value) (l : List UInt8) (hb1 : BytesAt w u l) (b : List UInt8) {q : Option Addr} {cq : Nat} (hb2 : BytesAt w (.slice q b.length cq) b) (z : Nat) (hz : z < 4294967296) :
    Calls Try.prog 3 #[lcV p Q K u, .slice q b.length cq, .int .u32 (z : Int)] w fun e w' => e = .returned (.bool true) ∧ w.grownBy w' none := by
  obtain ⟨a, cp, rfl⟩ := hb1.form
  by_cases h : 60 < l.length ∨ 80 < b.length
  · exact out_walk _ _ _ _ _ _ _ _ _ _ h w
  obtain ⟨PL, Z, hP1, hP2⟩ := put_both p Q K l
  have hsz : (⟨l.toArray⟩ : ByteArray).size = l.length := rfl
  refine in_walk (p : Int) Q K ((gotL b).pass : Int) ((gotL b).place : Int) ((gotL b).kind : Int) Z (gotC b) (markN z : Int) (sumN b : Int) (z : Int) (gotW b) (mayN p Q K l.length) a q l.length cp b.length cq l b PL (gotL b).data ⟨l.toArray⟩ ⟨b.toArray⟩ ⟨PL.toArray⟩ ⟨(gotL b).data.toArray⟩ (by omega) (by omega) w
    (fun W v h => conv_bytes h) (fun W v h => conv_bytes h) (fun W v h => conv_bytes h) hP1 hP2 (fun v W h => ?_) (fun W => rcget_any b (by omega) W) (fun W => lmay_any p Q K a l.length cp W) (fun W => rcmay_any p Q K ⟨l.toArray⟩ W)
    (fun p n k W h => lsame_yes (gotL b) W h) (fun W => (mark_any z W).mono fun e w' h => ⟨h.1, h.2 ▸ .refl W none⟩) (fun W => (rmark_any z W).mono fun e w' h => ⟨h.1, h.2 ▸ .refl W none⟩) (fun v W h => lsum_any b v W h (by omega)) (fun W => ?_) hb1 hb2
  · refine (lget_any v b W h).mono ?_
    rintro e w' ⟨u, rfl, ho, hg⟩
    obtain ⟨p, k, rfl⟩ := ho.form
    exact ⟨p, _, k, rfl, ho.bytes, hg⟩
  · exact (rsum_any ⟨b.toArray⟩ (by show b.length ≤ 100; omega) W).mono fun e w' h => ⟨h.1, h.2 ▸ .refl W none⟩
end Go.Proofs.Ytjebmlmjbnaghaa.lgasks
