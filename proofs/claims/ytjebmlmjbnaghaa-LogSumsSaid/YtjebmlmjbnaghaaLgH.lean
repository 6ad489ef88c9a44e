/-
  Contract for the document's own PutCell: a cell's bytes as a string, or an error. No condition.
-/
import Derived.Test.YtjebmlmjbnaghaaLgG
import Derived.Test.YtjebmlmjbnaghaaHeld
import Derived.Test.YtjebmlmjbnaghaaGen
import Derived.Deep.CutRange
set_option linter.unusedSimpArgs false
set_option linter.unusedVariables false
namespace Go.Proofs.Ytjebmlmjbnaghaa
set_option maxRecDepth 100000
open Go.RowKit

set_option maxHeartbeats 3200000 in
theorem rcput_walk (P : Nat) (Q K : Int) (D S1 S2 S4 B56 : ByteArray) (SM m : Nat) (kb nb mb : UInt8) (W1 W2 W4 : BitVec 64) (R : ByteArray)
    (hM : ∀ w, Calls Try.prog 15 #[.agg #[.int .u32 (P : Int), .int .i64 Q, .int .i64 K, .string D]] w fun e w' => e = .returned (.bool true) ∧ w.grownBy w' none)
    (h1 : ∀ w, Calls Try.prog 25 #[.int .u64 (q W1)] w fun e w' => e = .returned (.string S1) ∧ w.grownBy w' none)
    (h2 : ∀ w, Calls Try.prog 25 #[.int .u64 (q W2)] w fun e w' => e = .returned (.string S2) ∧ w.grownBy w' none)
    (h3 : ∀ w, Calls Try.prog 20 #[.string B56] w fun e w' => e = .returned (.int .u32 (SM : Int)) ∧ w.grownBy w' none)
    (h4 : ∀ w, Calls Try.prog 25 #[.int .u64 (q W4)] w fun e w' => e = .returned (.string S4) ∧ w.grownBy w' none)
    (h5 : ∀ w, Calls Try.prog 18 #[.int .u32 (P : Int)] w fun e w' => e = .returned (.int .u8 (mb.toNat : Int)) ∧ w.grownBy w' none)
    (w1 : IntKind.u64.wrap (P : Int) = q W1) (w2 : IntKind.u64.wrap Q = q W2) (w4 : IntKind.u64.wrap (SM : Int) = q W4)
    (hk : IntKind.u8.wrap K = (kb.toNat : Int)) (hn : IntKind.u8.wrap (D.size : Int) = (nb.toNat : Int)) (hd : (48 : Int) - (D.size : Int) = (m : Int))
    (z1 : S1.size = 8) (z2 : S2.size = 8) (z4 : S4.size = 8) (zB : B56.size = 56)
    (e1 : S1.extract 0 4 ++ S2.extract 0 2 ++ ⟨[kb, nb].toArray⟩ ++ D ++ ⟨(List.replicate m 0).toArray⟩ = B56)
    (e2 : B56 ++ S4.extract 0 4 ++ ⟨[0, 0, 0, mb].toArray⟩ = R) (w : World) :
    Calls Try.prog 11 #[.agg #[.int .u32 (P : Int), .int .i64 Q, .int .i64 K, .string D]] w fun e w' => e = .returned (.tuple #[.string R, .int .i64 0]) ∧ w.grownBy w' none := by
  subst e2
  have HE1 := hid e1; clear e1
  have M := hid hM; have P1 := hid h1; have P2 := hid h2; have P3 := hid h3; have P4 := hid h4; have P5 := hid h5
  have HM := hid (show m ≤ 48 by omega)
  obtain ⟨OZ, hmk, hz⟩ : ∃ OZ : Obj, (∀ u, (Instr.makeSlice 23 (.int .i64 (m : Int)) (.int .i64 (m : Int))).run Try.prog u = .ok (.slice (some ⟨u.heap.size, 0, none⟩) m m) (u.alloc OZ)) ∧ (∀ u, BytesAt (u.alloc OZ) (.slice (some ⟨u.heap.size, 0, none⟩) m m) (List.replicate m 0)) :=
    ⟨_, fun u => mk_zeros m (show m ≤ 48 by omega) u, fun u => zeros_at u (show m ≤ 48 by omega)⟩
  have HMK := hid hmk; have HZ := hid hz
  clear hmk hz
  have hmw : IntKind.i64.wrap (m : Int) = (m : Int) := by rw [IntKind.wrap_i64]; omega
  have hz8 : ¬ 9223372036854775807 < 8 + D.size := by omega
  have hz9 : ¬ 9223372036854775807 < 8 + D.size + m := by omega
  have B0 := hid (rk_new w #[.int .u32 (P : Int), .int .i64 Q, .int .i64 K, .string D])
  obtain ⟨CS, hCS⟩ : ∃ CS : Array Value, #[.int .u32 (P : Int), .int .i64 Q, .int .i64 K, .string D] = CS := ⟨_, rfl⟩
  have HC := hid hCS
  clear hM h1 h2 h3 h4 h5 hCS
  go_enter Try.func11, Try.ntmps11
  go_wp2_with (refine wpList_row B0.out.box Try.underlying28 rfl (by kernel_rfl) rfl rfl rfl rfl ?_)
  refine (M.out _).mono ?_
  rintro e w1 ⟨rfl, hg⟩
  have B := hid (B0.out.grown hg)
  rw [HC.out] at B
  clear hg B0 M
  go_wp2_with fail
  go_cut [4] from 8 to 38 (fun s wx => s = .string B56 ∧ Rk w CS wx)
  case first =>
    refine wp_region_held_drew (S := (fun w' => (Rk w CS w'))) (by kernel_rfl) B.out.drew (fun hHeld => ?_)
    try dsimp only at hHeld
    refine' wpAnyH_take (i := 0) (v := _) rfl (by kernel_rfl) (by kernel_rfl) (by kernel_rfl) (fun _ _ _ h => h) (Or.inl ⟨by rfl, ?_⟩) hHeld ?_
    rotate_left
    · (intro w hSw; (try dsimp only at hSw); go_simp; try with_reducible rfl)
    try simp only [Act.put, List.setIfInBounds_toArray, List.set_cons_zero, List.set_cons_succ, List.getElem_toArray, List.getElem_cons_succ, List.getElem_cons_zero]
    refine' wpAnyH_take (i := 1) (v := _) rfl (by kernel_rfl) (by kernel_rfl) (by kernel_rfl) (fun _ _ _ h => h) (Or.inl ⟨by rfl, ?_⟩) hHeld ?_
    rotate_left
    · (intro w hSw; (try dsimp only at hSw); have bx := hSw; rw [← HC.out] at bx; obtain ⟨d0, d1, d2, d3⟩ := bx.cells; go_simp; try with_reducible rfl)
    try simp only [Act.put, List.setIfInBounds_toArray, List.set_cons_zero, List.set_cons_succ, List.getElem_toArray, List.getElem_cons_succ, List.getElem_cons_zero]
    refine' wpAnyH_take (i := 2) (v := _) rfl (by kernel_rfl) (by kernel_rfl) (by kernel_rfl) (fun _ _ _ h => h) (Or.inl ⟨by rfl, ?_⟩) hHeld ?_
    rotate_left
    · (intro w hSw; (try dsimp only at hSw); go_simp; try with_reducible rfl)
    try simp only [Act.put, List.setIfInBounds_toArray, List.set_cons_zero, List.set_cons_succ, List.getElem_toArray, List.getElem_cons_succ, List.getElem_cons_zero]
    refine' wpAnyH_take (i := 5) (v := _) rfl (by kernel_rfl) (by kernel_rfl) (by kernel_rfl) (fun _ _ _ h => h) (Or.inl ⟨by rfl, ?_⟩) hHeld ?_
    rotate_left
    · (intro w hSw; (try dsimp only at hSw); go_simp; try with_reducible rfl)
    try simp only [Act.put, List.setIfInBounds_toArray, List.set_cons_zero, List.set_cons_succ, List.getElem_toArray, List.getElem_cons_succ, List.getElem_cons_zero]
    refine' wpAnyH_take (i := 6) (v := _) rfl (by kernel_rfl) (by kernel_rfl) (by kernel_rfl) (fun _ _ _ h => h) (Or.inl ⟨by rfl, ?_⟩) hHeld ?_
    rotate_left
    · (intro w hSw; (try dsimp only at hSw); have bx := hSw; rw [← HC.out] at bx; obtain ⟨d0, d1, d2, d3⟩ := bx.cells; go_simp; try with_reducible rfl)
    try simp only [Act.put, List.setIfInBounds_toArray, List.set_cons_zero, List.set_cons_succ, List.getElem_toArray, List.getElem_cons_succ, List.getElem_cons_zero]
    refine' wpAnyH_take (i := 7) (v := _) rfl (by kernel_rfl) (by kernel_rfl) (by kernel_rfl) (fun _ _ _ h => h) (Or.inl ⟨by rfl, ?_⟩) hHeld ?_
    rotate_left
    · (intro w hSw; (try dsimp only at hSw); go_simp; try with_reducible rfl)
    try simp only [Act.put, List.setIfInBounds_toArray, List.set_cons_zero, List.set_cons_succ, List.getElem_toArray, List.getElem_cons_succ, List.getElem_cons_zero]
    refine' wpAnyH_take (i := 11) (v := _) rfl (by kernel_rfl) (by kernel_rfl) (by kernel_rfl) (fun _ _ _ h => h) (Or.inl ⟨by rfl, ?_⟩) hHeld ?_
    rotate_left
    · (intro w hSw; (try dsimp only at hSw); go_simp; try with_reducible rfl)
    try simp only [Act.put, List.setIfInBounds_toArray, List.set_cons_zero, List.set_cons_succ, List.getElem_toArray, List.getElem_cons_succ, List.getElem_cons_zero]
    refine' wpAnyH_take (i := 12) (v := _) rfl (by kernel_rfl) (by kernel_rfl) (by kernel_rfl) (fun _ _ _ h => h) (Or.inl ⟨by rfl, ?_⟩) hHeld ?_
    rotate_left
    · (intro w hSw; (try dsimp only at hSw); have bx := hSw; rw [← HC.out] at bx; obtain ⟨d0, d1, d2, d3⟩ := bx.cells; go_simp; try with_reducible rfl)
    try simp only [Act.put, List.setIfInBounds_toArray, List.set_cons_zero, List.set_cons_succ, List.getElem_toArray, List.getElem_cons_succ, List.getElem_cons_zero]
    refine' wpAnyH_take (i := 13) (v := _) rfl (by kernel_rfl) (by kernel_rfl) (by kernel_rfl) (fun _ _ _ h => h) (Or.inl ⟨by rfl, ?_⟩) hHeld ?_
    rotate_left
    · (intro w hSw; (try dsimp only at hSw); go_simp; try with_reducible rfl)
    try simp only [Act.put, List.setIfInBounds_toArray, List.set_cons_zero, List.set_cons_succ, List.getElem_toArray, List.getElem_cons_succ, List.getElem_cons_zero]
    refine' wpAnyH_take (i := 14) (v := _) rfl (by kernel_rfl) (by kernel_rfl) (by kernel_rfl) (fun _ _ _ h => h) (Or.inl ⟨by rfl, ?_⟩) hHeld ?_
    rotate_left
    · (intro w hSw; (try dsimp only at hSw); go_simp; try with_reducible rfl)
    try simp only [Act.put, List.setIfInBounds_toArray, List.set_cons_zero, List.set_cons_succ, List.getElem_toArray, List.getElem_cons_succ, List.getElem_cons_zero]
    refine' wpAnyH_take (i := 15) (v := _) rfl (by kernel_rfl) (by kernel_rfl) (by kernel_rfl) (fun _ _ _ h => h) (Or.inl ⟨by rfl, ?_⟩) hHeld ?_
    rotate_left
    · (intro w hSw; (try dsimp only at hSw); have bx := hSw; rw [← HC.out] at bx; obtain ⟨d0, d1, d2, d3⟩ := bx.cells; go_simp; try with_reducible rfl)
    try simp only [Act.put, List.setIfInBounds_toArray, List.set_cons_zero, List.set_cons_succ, List.getElem_toArray, List.getElem_cons_succ, List.getElem_cons_zero]
    refine' wpAnyH_take (i := 16) (v := _) rfl (by kernel_rfl) (by kernel_rfl) (by kernel_rfl) (fun _ _ _ h => h) (Or.inl ⟨by rfl, ?_⟩) hHeld ?_
    rotate_left
    · (intro w hSw; (try dsimp only at hSw); go_simp; try with_reducible rfl)
    try simp only [Act.put, List.setIfInBounds_toArray, List.set_cons_zero, List.set_cons_succ, List.getElem_toArray, List.getElem_cons_succ, List.getElem_cons_zero]
    refine' wpAnyH_take (i := 17) (v := _) rfl (by kernel_rfl) (by kernel_rfl) (by kernel_rfl) (fun _ _ _ h => h) (Or.inl ⟨by rfl, ?_⟩) hHeld ?_
    rotate_left
    · (intro w hSw; (try dsimp only at hSw); go_simp; try with_reducible rfl)
    try simp only [Act.put, List.setIfInBounds_toArray, List.set_cons_zero, List.set_cons_succ, List.getElem_toArray, List.getElem_cons_succ, List.getElem_cons_zero]
    refine' wpAnyH_take (i := 21) (v := _) rfl (by kernel_rfl) (by kernel_rfl) (by kernel_rfl) (fun _ _ _ h => h) (Or.inl ⟨by rfl, ?_⟩) hHeld ?_
    rotate_left
    · (intro w hSw; (try dsimp only at hSw); go_simp; try with_reducible rfl)
    try simp only [Act.put, List.setIfInBounds_toArray, List.set_cons_zero, List.set_cons_succ, List.getElem_toArray, List.getElem_cons_succ, List.getElem_cons_zero]
    refine' wpAnyH_take (i := 22) (v := _) rfl (by kernel_rfl) (by kernel_rfl) (by kernel_rfl) (fun _ _ _ h => h) (Or.inl ⟨by rfl, ?_⟩) hHeld ?_
    rotate_left
    · (intro w hSw; (try dsimp only at hSw); have bx := hSw; rw [← HC.out] at bx; obtain ⟨d0, d1, d2, d3⟩ := bx.cells; go_simp; try with_reducible rfl)
    try simp only [Act.put, List.setIfInBounds_toArray, List.set_cons_zero, List.set_cons_succ, List.getElem_toArray, List.getElem_cons_succ, List.getElem_cons_zero]
    refine' wpAnyH_take (i := 24) (v := _) rfl (by kernel_rfl) (by kernel_rfl) (by kernel_rfl) (fun _ _ _ h => h) (Or.inl ⟨by rfl, ?_⟩) hHeld ?_
    rotate_left
    · (intro w hSw; (try dsimp only at hSw); go_simp; try with_reducible rfl)
    try simp only [Act.put, List.setIfInBounds_toArray, List.set_cons_zero, List.set_cons_succ, List.getElem_toArray, List.getElem_cons_succ, List.getElem_cons_zero]
    refine' wpAnyH_take (i := 25) (v := _) rfl (by kernel_rfl) (by kernel_rfl) (by kernel_rfl) (fun _ _ _ h => h) (Or.inl ⟨by rfl, ?_⟩) hHeld ?_
    rotate_left
    · (intro w hSw; (try dsimp only at hSw); have bx := hSw; rw [← HC.out] at bx; obtain ⟨d0, d1, d2, d3⟩ := bx.cells; go_simp; try with_reducible rfl)
    try simp only [Act.put, List.setIfInBounds_toArray, List.set_cons_zero, List.set_cons_succ, List.getElem_toArray, List.getElem_cons_succ, List.getElem_cons_zero]
    refine' wpAnyH_take (i := 26) (v := _) rfl (by kernel_rfl) (by kernel_rfl) (by kernel_rfl) (fun _ _ _ h => h) (Or.inl ⟨by rfl, ?_⟩) hHeld ?_
    rotate_left
    · (intro w hSw; (try dsimp only at hSw); go_simp; try with_reducible rfl)
    try simp only [Act.put, List.setIfInBounds_toArray, List.set_cons_zero, List.set_cons_succ, List.getElem_toArray, List.getElem_cons_succ, List.getElem_cons_zero]
    refine' wpAnyH_take (i := 27) (v := _) rfl (by kernel_rfl) (by kernel_rfl) (by kernel_rfl) (fun _ _ _ h => h) (Or.inl ⟨by rfl, ?_⟩) hHeld ?_
    rotate_left
    · (intro w hSw; (try dsimp only at hSw); go_simp; try with_reducible rfl)
    try simp only [Act.put, List.setIfInBounds_toArray, List.set_cons_zero, List.set_cons_succ, List.getElem_toArray, List.getElem_cons_succ, List.getElem_cons_zero]
    refine wpAnyH_ready (rs := [3, 18, 28]) (by kernel_rfl) (by simp) ?_
    refine AllReadyH.cons (o := _) rfl (fun K hK => ?_) (AllReadyH.cons (o := _) rfl (fun K hK => ?_) (AllReadyH.cons (o := _) rfl (fun K hK => ?_) AllReadyH.nil))
    · try simp only [List.getElem_toArray, List.getElem_cons_succ, List.getElem_cons_zero]
      go_simp
      have hH2 := hHeld
      have bx := hH2
      refine (P1.out _).mono ?_
      rintro e w1003 ⟨rfl, hg⟩
      have L3 := hid (show (Rk w CS w1003) from (bx.grown hg))
      clear hHeld hg bx
      go_wp2_with fail
      refine hK.out _ _ ?_ (fun hHeld => ?_)
      · exact L3.out
      clear hK K
      try dsimp only at hHeld
      try simp only [Act.put, List.setIfInBounds_toArray, List.set_cons_zero, List.set_cons_succ, List.getElem_toArray, List.getElem_cons_succ, List.getElem_cons_zero]
      refine' wpAnyH_take (i := 4) (v := _) rfl (by kernel_rfl) (by kernel_rfl) (by kernel_rfl) (fun _ _ _ h => h) (Or.inl ⟨by rfl, ?_⟩) hHeld ?_
      rotate_left
      · (intro w hSw; (try dsimp only at hSw); go_simp; try with_reducible rfl)
      try simp only [Act.put, List.setIfInBounds_toArray, List.set_cons_zero, List.set_cons_succ, List.getElem_toArray, List.getElem_cons_succ, List.getElem_cons_zero]
      refine wpAnyH_ready (rs := [8, 18, 28]) (by kernel_rfl) (by simp) ?_
      refine AllReadyH.cons (o := _) rfl (fun K hK => ?_) (AllReadyH.cons (o := _) rfl (fun K hK => ?_) (AllReadyH.cons (o := _) rfl (fun K hK => ?_) AllReadyH.nil))
      · try simp only [List.getElem_toArray, List.getElem_cons_succ, List.getElem_cons_zero]
        go_simp
        have hH2 := hHeld
        have bx := hH2
        refine (P2.out _).mono ?_
        rintro e w1008 ⟨rfl, hg⟩
        have L8 := hid (show (Rk w CS w1008) from (bx.grown hg))
        clear hHeld hg bx
        go_wp2_with fail
        refine hK.out _ _ ?_ (fun hHeld => ?_)
        · exact L8.out
        clear hK K
        try dsimp only at hHeld
        try simp only [Act.put, List.setIfInBounds_toArray, List.set_cons_zero, List.set_cons_succ, List.getElem_toArray, List.getElem_cons_succ, List.getElem_cons_zero]
        refine' wpAnyH_take (i := 9) (v := _) rfl (by kernel_rfl) (by kernel_rfl) (by kernel_rfl) (fun _ _ _ h => h) (Or.inl ⟨by rfl, ?_⟩) hHeld ?_
        rotate_left
        · (intro w hSw; (try dsimp only at hSw); go_simp; try with_reducible rfl)
        try simp only [Act.put, List.setIfInBounds_toArray, List.set_cons_zero, List.set_cons_succ, List.getElem_toArray, List.getElem_cons_succ, List.getElem_cons_zero]
        refine' wpAnyH_take (i := 10) (v := _) rfl (by kernel_rfl) (by kernel_rfl) (by kernel_rfl) (fun _ _ _ h => h) (Or.inl ⟨by rfl, ?_⟩) hHeld ?_
        rotate_left
        · (intro w hSw; (try dsimp only at hSw); go_simp; try with_reducible rfl)
        try simp only [Act.put, List.setIfInBounds_toArray, List.set_cons_zero, List.set_cons_succ, List.getElem_toArray, List.getElem_cons_succ, List.getElem_cons_zero]
        refine wpAnyH_ready (rs := [18, 28]) (by kernel_rfl) (by simp) ?_
        refine AllReadyH.cons (o := _) rfl (fun K hK => ?_) (AllReadyH.cons (o := _) rfl (fun K hK => ?_) AllReadyH.nil)
        · have hH2 := hHeld
          have bx := hH2
          have hg : (w1008).grownBy (w1008.alloc (.cells #[.int .u8 (kb.toNat : Int), .int .u8 (nb.toNat : Int)] 5)) none := World.grownBy_alloc (w1008) _ _
          have L18 := hid (show (Rk w CS (w1008.alloc (.cells #[.int .u8 (kb.toNat : Int), .int .u8 (nb.toNat : Int)] 5))) from (bx.grown hg))
          have Nfb := hid (show BytesAt (w1008.alloc (.cells #[.int .u8 (kb.toNat : Int), .int .u8 (nb.toNat : Int)] 5)) (.slice (some ⟨w1008.heap.size, 0, none⟩) 2 2) [kb, nb] from (own_block [kb, nb] (at_new (w1008) _) (by unfold maxLen; simp) (Nat.le_refl _)).bytes)
          clear hHeld hg bx
          try simp only [List.getElem_toArray, List.getElem_cons_succ, List.getElem_cons_zero]
          go_simp
          refine hK.out _ _ ?_ (fun hHeld => ?_)
          · exact L18.out
          clear hK K
          try dsimp only at hHeld
          try simp only [Act.put, List.setIfInBounds_toArray, List.set_cons_zero, List.set_cons_succ, List.getElem_toArray, List.getElem_cons_succ, List.getElem_cons_zero]
          refine held_stronger (S' := fun w' => (fun w' => BytesAt w' (.slice (some ⟨w1008.heap.size, 0, none⟩) 2 2) [kb, nb]) w' ∧ ((fun w' => (Rk w CS w'))) w') (fun _ h => h.2) _ _ _ _ ?_
          replace hHeld := And.intro Nfb.out hHeld
          try dsimp only at hHeld
          refine' wpAnyH_take (i := 19) (v := _) rfl (by kernel_rfl) (by kernel_rfl) (by kernel_rfl) (fun _ _ _ h => h) (Or.inl ⟨by rfl, ?_⟩) hHeld ?_
          rotate_left
          · (intro w hSw; (try dsimp only at hSw); obtain ⟨fb, bx⟩ := hSw; have cv := conv_bytes fb; go_simp; try with_reducible rfl)
          try simp only [Act.put, List.setIfInBounds_toArray, List.set_cons_zero, List.set_cons_succ, List.getElem_toArray, List.getElem_cons_succ, List.getElem_cons_zero]
          refine' wpAnyH_take (i := 20) (v := _) rfl (by kernel_rfl) (by kernel_rfl) (by kernel_rfl) (fun _ _ _ h => h) (Or.inl ⟨by rfl, ?_⟩) hHeld ?_
          rotate_left
          · (intro w hSw; (try dsimp only at hSw); go_simp; try with_reducible rfl)
          try simp only [Act.put, List.setIfInBounds_toArray, List.set_cons_zero, List.set_cons_succ, List.getElem_toArray, List.getElem_cons_succ, List.getElem_cons_zero]
          refine' wpAnyH_take (i := 23) (v := _) rfl (by kernel_rfl) (by kernel_rfl) (by kernel_rfl) (fun _ _ _ h => h) (Or.inl ⟨by rfl, ?_⟩) hHeld ?_
          rotate_left
          · (intro w hSw; (try dsimp only at hSw); go_simp; try with_reducible rfl)
          try simp only [Act.put, List.setIfInBounds_toArray, List.set_cons_zero, List.set_cons_succ, List.getElem_toArray, List.getElem_cons_succ, List.getElem_cons_zero]
          refine wpAnyH_ready (rs := [28]) (by kernel_rfl) (by simp) ?_
          refine AllReadyH.cons (o := _) rfl (fun K hK => ?_) AllReadyH.nil
          have hH2 := hHeld
          obtain ⟨fb, bx⟩ := hH2
          have hmk := HMK.out ((w1008.alloc (.cells #[.int .u8 (kb.toNat : Int), .int .u8 (nb.toNat : Int)] 5)))
          have hg : ((w1008.alloc (.cells #[.int .u8 (kb.toNat : Int), .int .u8 (nb.toNat : Int)] 5))).grownBy ((w1008.alloc (.cells #[.int .u8 (kb.toNat : Int), .int .u8 (nb.toNat : Int)] 5)).alloc OZ) none := World.grownBy_alloc ((w1008.alloc (.cells #[.int .u8 (kb.toNat : Int), .int .u8 (nb.toNat : Int)] 5))) _ _
          have L28 := hid (show (BytesAt ((w1008.alloc (.cells #[.int .u8 (kb.toNat : Int), .int .u8 (nb.toNat : Int)] 5)).alloc OZ) (.slice (some ⟨w1008.heap.size, 0, none⟩) 2 2) [kb, nb]) ∧ (Rk w CS ((w1008.alloc (.cells #[.int .u8 (kb.toNat : Int), .int .u8 (nb.toNat : Int)] 5)).alloc OZ)) from ⟨fb.grown hg (by simp), bx.grown hg⟩)
          have Nfz := hid (show BytesAt ((w1008.alloc (.cells #[.int .u8 (kb.toNat : Int), .int .u8 (nb.toNat : Int)] 5)).alloc OZ) (.slice (some ⟨w1008.heap.size + 1, 0, none⟩) m m) (List.replicate m 0) from (by have h := HZ.out ((w1008.alloc (.cells #[.int .u8 (kb.toNat : Int), .int .u8 (nb.toNat : Int)] 5))); rw [show ((w1008.alloc (.cells #[.int .u8 (kb.toNat : Int), .int .u8 (nb.toNat : Int)] 5))).heap.size = w1008.heap.size + 1 from alloc_size _ _] at h; exact h))
          clear hHeld hg fb bx
          try simp only [List.getElem_toArray, List.getElem_cons_succ, List.getElem_cons_zero]
          go_simp
          refine hK.out _ _ ?_ (fun hHeld => ?_)
          · exact L28.out
          clear hK K
          try dsimp only at hHeld
          try simp only [Act.put, List.setIfInBounds_toArray, List.set_cons_zero, List.set_cons_succ, List.getElem_toArray, List.getElem_cons_succ, List.getElem_cons_zero]
          refine held_stronger (S' := fun w' => (fun w' => BytesAt w' (.slice (some ⟨w1008.heap.size + 1, 0, none⟩) m m) (List.replicate m 0)) w' ∧ ((fun w' => (BytesAt w' (.slice (some ⟨w1008.heap.size, 0, none⟩) 2 2) [kb, nb]) ∧ (Rk w CS w'))) w') (fun _ h => h.2) _ _ _ _ ?_
          replace hHeld := And.intro Nfz.out hHeld
          try dsimp only at hHeld
          refine' wpAnyH_take (i := 29) (v := _) rfl (by kernel_rfl) (by kernel_rfl) (by kernel_rfl) (fun _ _ _ h => h) (Or.inl ⟨by rfl, ?_⟩) hHeld ?_
          rotate_left
          · (intro w hSw; (try dsimp only at hSw); obtain ⟨fz, fb, bx⟩ := hSw; have cv := conv_bytes fz; go_simp; try with_reducible rfl)
          try simp only [Act.put, List.setIfInBounds_toArray, List.set_cons_zero, List.set_cons_succ, List.getElem_toArray, List.getElem_cons_succ, List.getElem_cons_zero]
          refine' wpAnyH_take (i := 30) (v := _) rfl (by kernel_rfl) (by kernel_rfl) (by kernel_rfl) (fun _ _ _ h => h) (Or.inl ⟨by rfl, ?_⟩) hHeld ?_
          rotate_left
          · (intro w hSw; (try dsimp only at hSw); go_simp; try with_reducible rfl)
          try simp only [Act.put, List.setIfInBounds_toArray, List.set_cons_zero, List.set_cons_succ, List.getElem_toArray, List.getElem_cons_succ, List.getElem_cons_zero]
          refine' wpAnyH_take (i := 31) (v := _) rfl (by kernel_rfl) (by kernel_rfl) (by kernel_rfl) (fun _ _ _ h => h) (Or.inl ⟨by rfl, ?_⟩) hHeld ?_
          rotate_left
          · (intro w hSw; (try dsimp only at hSw); go_simp; try with_reducible rfl)
          try simp only [Act.put, List.setIfInBounds_toArray, List.set_cons_zero, List.set_cons_succ, List.getElem_toArray, List.getElem_cons_succ, List.getElem_cons_zero]
          refine wpAnyH_done (by kernel_rfl) ?_ _
          obtain ⟨fz, fb, bx⟩ := hHeld
          have BX := hid bx; clear fz fb bx
          go_wp2_with fail
          go_meet
          exact ⟨congrArg Value.string HE1.out, BX.out⟩
        · have hH2 := hHeld
          have bx := hH2
          have hmk := HMK.out (w1008)
          have hg : (w1008).grownBy (w1008.alloc OZ) none := World.grownBy_alloc (w1008) _ _
          have L28 := hid (show (Rk w CS (w1008.alloc OZ)) from (bx.grown hg))
          have Nfz := hid (show BytesAt (w1008.alloc OZ) (.slice (some ⟨w1008.heap.size, 0, none⟩) m m) (List.replicate m 0) from HZ.out (w1008))
          clear hHeld hg bx
          try simp only [List.getElem_toArray, List.getElem_cons_succ, List.getElem_cons_zero]
          go_simp
          refine hK.out _ _ ?_ (fun hHeld => ?_)
          · exact L28.out
          clear hK K
          try dsimp only at hHeld
          try simp only [Act.put, List.setIfInBounds_toArray, List.set_cons_zero, List.set_cons_succ, List.getElem_toArray, List.getElem_cons_succ, List.getElem_cons_zero]
          refine held_stronger (S' := fun w' => (fun w' => BytesAt w' (.slice (some ⟨w1008.heap.size, 0, none⟩) m m) (List.replicate m 0)) w' ∧ ((fun w' => (Rk w CS w'))) w') (fun _ h => h.2) _ _ _ _ ?_
          replace hHeld := And.intro Nfz.out hHeld
          try dsimp only at hHeld
          refine' wpAnyH_take (i := 29) (v := _) rfl (by kernel_rfl) (by kernel_rfl) (by kernel_rfl) (fun _ _ _ h => h) (Or.inl ⟨by rfl, ?_⟩) hHeld ?_
          rotate_left
          · (intro w hSw; (try dsimp only at hSw); obtain ⟨fz, bx⟩ := hSw; have cv := conv_bytes fz; go_simp; try with_reducible rfl)
          try simp only [Act.put, List.setIfInBounds_toArray, List.set_cons_zero, List.set_cons_succ, List.getElem_toArray, List.getElem_cons_succ, List.getElem_cons_zero]
          refine wpAnyH_ready (rs := [18]) (by kernel_rfl) (by simp) ?_
          refine AllReadyH.cons (o := _) rfl (fun K hK => ?_) AllReadyH.nil
          have hH2 := hHeld
          obtain ⟨fz, bx⟩ := hH2
          have hg : ((w1008.alloc OZ)).grownBy ((w1008.alloc OZ).alloc (.cells #[.int .u8 (kb.toNat : Int), .int .u8 (nb.toNat : Int)] 5)) none := World.grownBy_alloc ((w1008.alloc OZ)) _ _
          have L18 := hid (show (BytesAt ((w1008.alloc OZ).alloc (.cells #[.int .u8 (kb.toNat : Int), .int .u8 (nb.toNat : Int)] 5)) (.slice (some ⟨w1008.heap.size, 0, none⟩) m m) (List.replicate m 0)) ∧ (Rk w CS ((w1008.alloc OZ).alloc (.cells #[.int .u8 (kb.toNat : Int), .int .u8 (nb.toNat : Int)] 5))) from ⟨fz.grown hg (by simp), bx.grown hg⟩)
          have Nfb := hid (show BytesAt ((w1008.alloc OZ).alloc (.cells #[.int .u8 (kb.toNat : Int), .int .u8 (nb.toNat : Int)] 5)) (.slice (some ⟨w1008.heap.size + 1, 0, none⟩) 2 2) [kb, nb] from (by have h := (own_block [kb, nb] (at_new ((w1008.alloc OZ)) _) (by unfold maxLen; simp) (Nat.le_refl _)).bytes; rw [show ((w1008.alloc OZ)).heap.size = w1008.heap.size + 1 from alloc_size _ _] at h; exact h))
          clear hHeld hg fz bx
          try simp only [List.getElem_toArray, List.getElem_cons_succ, List.getElem_cons_zero]
          go_simp
          refine hK.out _ _ ?_ (fun hHeld => ?_)
          · exact L18.out
          clear hK K
          try dsimp only at hHeld
          try simp only [Act.put, List.setIfInBounds_toArray, List.set_cons_zero, List.set_cons_succ, List.getElem_toArray, List.getElem_cons_succ, List.getElem_cons_zero]
          refine held_stronger (S' := fun w' => (fun w' => BytesAt w' (.slice (some ⟨w1008.heap.size + 1, 0, none⟩) 2 2) [kb, nb]) w' ∧ ((fun w' => (BytesAt w' (.slice (some ⟨w1008.heap.size, 0, none⟩) m m) (List.replicate m 0)) ∧ (Rk w CS w'))) w') (fun _ h => h.2) _ _ _ _ ?_
          replace hHeld := And.intro Nfb.out hHeld
          try dsimp only at hHeld
          refine' wpAnyH_take (i := 19) (v := _) rfl (by kernel_rfl) (by kernel_rfl) (by kernel_rfl) (fun _ _ _ h => h) (Or.inl ⟨by rfl, ?_⟩) hHeld ?_
          rotate_left
          · (intro w hSw; (try dsimp only at hSw); obtain ⟨fb, fz, bx⟩ := hSw; have cv := conv_bytes fb; go_simp; try with_reducible rfl)
          try simp only [Act.put, List.setIfInBounds_toArray, List.set_cons_zero, List.set_cons_succ, List.getElem_toArray, List.getElem_cons_succ, List.getElem_cons_zero]
          refine' wpAnyH_take (i := 20) (v := _) rfl (by kernel_rfl) (by kernel_rfl) (by kernel_rfl) (fun _ _ _ h => h) (Or.inl ⟨by rfl, ?_⟩) hHeld ?_
          rotate_left
          · (intro w hSw; (try dsimp only at hSw); go_simp; try with_reducible rfl)
          try simp only [Act.put, List.setIfInBounds_toArray, List.set_cons_zero, List.set_cons_succ, List.getElem_toArray, List.getElem_cons_succ, List.getElem_cons_zero]
          refine' wpAnyH_take (i := 23) (v := _) rfl (by kernel_rfl) (by kernel_rfl) (by kernel_rfl) (fun _ _ _ h => h) (Or.inl ⟨by rfl, ?_⟩) hHeld ?_
          rotate_left
          · (intro w hSw; (try dsimp only at hSw); go_simp; try with_reducible rfl)
          try simp only [Act.put, List.setIfInBounds_toArray, List.set_cons_zero, List.set_cons_succ, List.getElem_toArray, List.getElem_cons_succ, List.getElem_cons_zero]
          refine' wpAnyH_take (i := 30) (v := _) rfl (by kernel_rfl) (by kernel_rfl) (by kernel_rfl) (fun _ _ _ h => h) (Or.inl ⟨by rfl, ?_⟩) hHeld ?_
          rotate_left
          · (intro w hSw; (try dsimp only at hSw); go_simp; try with_reducible rfl)
          try simp only [Act.put, List.setIfInBounds_toArray, List.set_cons_zero, List.set_cons_succ, List.getElem_toArray, List.getElem_cons_succ, List.getElem_cons_zero]
          refine' wpAnyH_take (i := 31) (v := _) rfl (by kernel_rfl) (by kernel_rfl) (by kernel_rfl) (fun _ _ _ h => h) (Or.inl ⟨by rfl, ?_⟩) hHeld ?_
          rotate_left
          · (intro w hSw; (try dsimp only at hSw); go_simp; try with_reducible rfl)
          try simp only [Act.put, List.setIfInBounds_toArray, List.set_cons_zero, List.set_cons_succ, List.getElem_toArray, List.getElem_cons_succ, List.getElem_cons_zero]
          refine wpAnyH_done (by kernel_rfl) ?_ _
          obtain ⟨fb, fz, bx⟩ := hHeld
          have BX := hid bx; clear fb fz bx
          go_wp2_with fail
          go_meet
          exact ⟨congrArg Value.string HE1.out, BX.out⟩
      · have hH2 := hHeld
        have bx := hH2
        have hg : (w1003).grownBy (w1003.alloc (.cells #[.int .u8 (kb.toNat : Int), .int .u8 (nb.toNat : Int)] 5)) none := World.grownBy_alloc (w1003) _ _
        have L18 := hid (show (Rk w CS (w1003.alloc (.cells #[.int .u8 (kb.toNat : Int), .int .u8 (nb.toNat : Int)] 5))) from (bx.grown hg))
        have Nfb := hid (show BytesAt (w1003.alloc (.cells #[.int .u8 (kb.toNat : Int), .int .u8 (nb.toNat : Int)] 5)) (.slice (some ⟨w1003.heap.size, 0, none⟩) 2 2) [kb, nb] from (own_block [kb, nb] (at_new (w1003) _) (by unfold maxLen; simp) (Nat.le_refl _)).bytes)
        clear hHeld hg bx
        try simp only [List.getElem_toArray, List.getElem_cons_succ, List.getElem_cons_zero]
        go_simp
        refine hK.out _ _ ?_ (fun hHeld => ?_)
        · exact L18.out
        clear hK K
        try dsimp only at hHeld
        try simp only [Act.put, List.setIfInBounds_toArray, List.set_cons_zero, List.set_cons_succ, List.getElem_toArray, List.getElem_cons_succ, List.getElem_cons_zero]
        refine held_stronger (S' := fun w' => (fun w' => BytesAt w' (.slice (some ⟨w1003.heap.size, 0, none⟩) 2 2) [kb, nb]) w' ∧ ((fun w' => (Rk w CS w'))) w') (fun _ h => h.2) _ _ _ _ ?_
        replace hHeld := And.intro Nfb.out hHeld
        try dsimp only at hHeld
        refine' wpAnyH_take (i := 19) (v := _) rfl (by kernel_rfl) (by kernel_rfl) (by kernel_rfl) (fun _ _ _ h => h) (Or.inl ⟨by rfl, ?_⟩) hHeld ?_
        rotate_left
        · (intro w hSw; (try dsimp only at hSw); obtain ⟨fb, bx⟩ := hSw; have cv := conv_bytes fb; go_simp; try with_reducible rfl)
        try simp only [Act.put, List.setIfInBounds_toArray, List.set_cons_zero, List.set_cons_succ, List.getElem_toArray, List.getElem_cons_succ, List.getElem_cons_zero]
        refine wpAnyH_ready (rs := [8, 28]) (by kernel_rfl) (by simp) ?_
        refine AllReadyH.cons (o := _) rfl (fun K hK => ?_) (AllReadyH.cons (o := _) rfl (fun K hK => ?_) AllReadyH.nil)
        · try simp only [List.getElem_toArray, List.getElem_cons_succ, List.getElem_cons_zero]
          go_simp
          have hH2 := hHeld
          obtain ⟨fb, bx⟩ := hH2
          refine (P2.out _).mono ?_
          rintro e w1008 ⟨rfl, hg⟩
          have L8 := hid (show (BytesAt w1008 (.slice (some ⟨w1003.heap.size, 0, none⟩) 2 2) [kb, nb]) ∧ (Rk w CS w1008) from ⟨fb.grown hg (by simp), bx.grown hg⟩)
          clear hHeld hg fb bx
          go_wp2_with fail
          refine hK.out _ _ ?_ (fun hHeld => ?_)
          · exact L8.out
          clear hK K
          try dsimp only at hHeld
          try simp only [Act.put, List.setIfInBounds_toArray, List.set_cons_zero, List.set_cons_succ, List.getElem_toArray, List.getElem_cons_succ, List.getElem_cons_zero]
          refine' wpAnyH_take (i := 9) (v := _) rfl (by kernel_rfl) (by kernel_rfl) (by kernel_rfl) (fun _ _ _ h => h) (Or.inl ⟨by rfl, ?_⟩) hHeld ?_
          rotate_left
          · (intro w hSw; (try dsimp only at hSw); go_simp; try with_reducible rfl)
          try simp only [Act.put, List.setIfInBounds_toArray, List.set_cons_zero, List.set_cons_succ, List.getElem_toArray, List.getElem_cons_succ, List.getElem_cons_zero]
          refine' wpAnyH_take (i := 10) (v := _) rfl (by kernel_rfl) (by kernel_rfl) (by kernel_rfl) (fun _ _ _ h => h) (Or.inl ⟨by rfl, ?_⟩) hHeld ?_
          rotate_left
          · (intro w hSw; (try dsimp only at hSw); go_simp; try with_reducible rfl)
          try simp only [Act.put, List.setIfInBounds_toArray, List.set_cons_zero, List.set_cons_succ, List.getElem_toArray, List.getElem_cons_succ, List.getElem_cons_zero]
          refine' wpAnyH_take (i := 20) (v := _) rfl (by kernel_rfl) (by kernel_rfl) (by kernel_rfl) (fun _ _ _ h => h) (Or.inl ⟨by rfl, ?_⟩) hHeld ?_
          rotate_left
          · (intro w hSw; (try dsimp only at hSw); go_simp; try with_reducible rfl)
          try simp only [Act.put, List.setIfInBounds_toArray, List.set_cons_zero, List.set_cons_succ, List.getElem_toArray, List.getElem_cons_succ, List.getElem_cons_zero]
          refine' wpAnyH_take (i := 23) (v := _) rfl (by kernel_rfl) (by kernel_rfl) (by kernel_rfl) (fun _ _ _ h => h) (Or.inl ⟨by rfl, ?_⟩) hHeld ?_
          rotate_left
          · (intro w hSw; (try dsimp only at hSw); go_simp; try with_reducible rfl)
          try simp only [Act.put, List.setIfInBounds_toArray, List.set_cons_zero, List.set_cons_succ, List.getElem_toArray, List.getElem_cons_succ, List.getElem_cons_zero]
          refine wpAnyH_ready (rs := [28]) (by kernel_rfl) (by simp) ?_
          refine AllReadyH.cons (o := _) rfl (fun K hK => ?_) AllReadyH.nil
          have hH2 := hHeld
          obtain ⟨fb, bx⟩ := hH2
          have hmk := HMK.out (w1008)
          have hg : (w1008).grownBy (w1008.alloc OZ) none := World.grownBy_alloc (w1008) _ _
          have L28 := hid (show (BytesAt (w1008.alloc OZ) (.slice (some ⟨w1003.heap.size, 0, none⟩) 2 2) [kb, nb]) ∧ (Rk w CS (w1008.alloc OZ)) from ⟨fb.grown hg (by simp), bx.grown hg⟩)
          have Nfz := hid (show BytesAt (w1008.alloc OZ) (.slice (some ⟨w1008.heap.size, 0, none⟩) m m) (List.replicate m 0) from HZ.out (w1008))
          clear hHeld hg fb bx
          try simp only [List.getElem_toArray, List.getElem_cons_succ, List.getElem_cons_zero]
          go_simp
          refine hK.out _ _ ?_ (fun hHeld => ?_)
          · exact L28.out
          clear hK K
          try dsimp only at hHeld
          try simp only [Act.put, List.setIfInBounds_toArray, List.set_cons_zero, List.set_cons_succ, List.getElem_toArray, List.getElem_cons_succ, List.getElem_cons_zero]
          refine held_stronger (S' := fun w' => (fun w' => BytesAt w' (.slice (some ⟨w1008.heap.size, 0, none⟩) m m) (List.replicate m 0)) w' ∧ ((fun w' => (BytesAt w' (.slice (some ⟨w1003.heap.size, 0, none⟩) 2 2) [kb, nb]) ∧ (Rk w CS w'))) w') (fun _ h => h.2) _ _ _ _ ?_
          replace hHeld := And.intro Nfz.out hHeld
          try dsimp only at hHeld
          refine' wpAnyH_take (i := 29) (v := _) rfl (by kernel_rfl) (by kernel_rfl) (by kernel_rfl) (fun _ _ _ h => h) (Or.inl ⟨by rfl, ?_⟩) hHeld ?_
          rotate_left
          · (intro w hSw; (try dsimp only at hSw); obtain ⟨fz, fb, bx⟩ := hSw; have cv := conv_bytes fz; go_simp; try with_reducible rfl)
          try simp only [Act.put, List.setIfInBounds_toArray, List.set_cons_zero, List.set_cons_succ, List.getElem_toArray, List.getElem_cons_succ, List.getElem_cons_zero]
          refine' wpAnyH_take (i := 30) (v := _) rfl (by kernel_rfl) (by kernel_rfl) (by kernel_rfl) (fun _ _ _ h => h) (Or.inl ⟨by rfl, ?_⟩) hHeld ?_
          rotate_left
          · (intro w hSw; (try dsimp only at hSw); go_simp; try with_reducible rfl)
          try simp only [Act.put, List.setIfInBounds_toArray, List.set_cons_zero, List.set_cons_succ, List.getElem_toArray, List.getElem_cons_succ, List.getElem_cons_zero]
          refine' wpAnyH_take (i := 31) (v := _) rfl (by kernel_rfl) (by kernel_rfl) (by kernel_rfl) (fun _ _ _ h => h) (Or.inl ⟨by rfl, ?_⟩) hHeld ?_
          rotate_left
          · (intro w hSw; (try dsimp only at hSw); go_simp; try with_reducible rfl)
          try simp only [Act.put, List.setIfInBounds_toArray, List.set_cons_zero, List.set_cons_succ, List.getElem_toArray, List.getElem_cons_succ, List.getElem_cons_zero]
          refine wpAnyH_done (by kernel_rfl) ?_ _
          obtain ⟨fz, fb, bx⟩ := hHeld
          have BX := hid bx; clear fz fb bx
          go_wp2_with fail
          go_meet
          exact ⟨congrArg Value.string HE1.out, BX.out⟩
        · have hH2 := hHeld
          obtain ⟨fb, bx⟩ := hH2
          have hmk := HMK.out ((w1003.alloc (.cells #[.int .u8 (kb.toNat : Int), .int .u8 (nb.toNat : Int)] 5)))
          have hg : ((w1003.alloc (.cells #[.int .u8 (kb.toNat : Int), .int .u8 (nb.toNat : Int)] 5))).grownBy ((w1003.alloc (.cells #[.int .u8 (kb.toNat : Int), .int .u8 (nb.toNat : Int)] 5)).alloc OZ) none := World.grownBy_alloc ((w1003.alloc (.cells #[.int .u8 (kb.toNat : Int), .int .u8 (nb.toNat : Int)] 5))) _ _
          have L28 := hid (show (BytesAt ((w1003.alloc (.cells #[.int .u8 (kb.toNat : Int), .int .u8 (nb.toNat : Int)] 5)).alloc OZ) (.slice (some ⟨w1003.heap.size, 0, none⟩) 2 2) [kb, nb]) ∧ (Rk w CS ((w1003.alloc (.cells #[.int .u8 (kb.toNat : Int), .int .u8 (nb.toNat : Int)] 5)).alloc OZ)) from ⟨fb.grown hg (by simp), bx.grown hg⟩)
          have Nfz := hid (show BytesAt ((w1003.alloc (.cells #[.int .u8 (kb.toNat : Int), .int .u8 (nb.toNat : Int)] 5)).alloc OZ) (.slice (some ⟨w1003.heap.size + 1, 0, none⟩) m m) (List.replicate m 0) from (by have h := HZ.out ((w1003.alloc (.cells #[.int .u8 (kb.toNat : Int), .int .u8 (nb.toNat : Int)] 5))); rw [show ((w1003.alloc (.cells #[.int .u8 (kb.toNat : Int), .int .u8 (nb.toNat : Int)] 5))).heap.size = w1003.heap.size + 1 from alloc_size _ _] at h; exact h))
          clear hHeld hg fb bx
          try simp only [List.getElem_toArray, List.getElem_cons_succ, List.getElem_cons_zero]
          go_simp
          refine hK.out _ _ ?_ (fun hHeld => ?_)
          · exact L28.out
          clear hK K
          try dsimp only at hHeld
          try simp only [Act.put, List.setIfInBounds_toArray, List.set_cons_zero, List.set_cons_succ, List.getElem_toArray, List.getElem_cons_succ, List.getElem_cons_zero]
          refine held_stronger (S' := fun w' => (fun w' => BytesAt w' (.slice (some ⟨w1003.heap.size + 1, 0, none⟩) m m) (List.replicate m 0)) w' ∧ ((fun w' => (BytesAt w' (.slice (some ⟨w1003.heap.size, 0, none⟩) 2 2) [kb, nb]) ∧ (Rk w CS w'))) w') (fun _ h => h.2) _ _ _ _ ?_
          replace hHeld := And.intro Nfz.out hHeld
          try dsimp only at hHeld
          refine' wpAnyH_take (i := 29) (v := _) rfl (by kernel_rfl) (by kernel_rfl) (by kernel_rfl) (fun _ _ _ h => h) (Or.inl ⟨by rfl, ?_⟩) hHeld ?_
          rotate_left
          · (intro w hSw; (try dsimp only at hSw); obtain ⟨fz, fb, bx⟩ := hSw; have cv := conv_bytes fz; go_simp; try with_reducible rfl)
          try simp only [Act.put, List.setIfInBounds_toArray, List.set_cons_zero, List.set_cons_succ, List.getElem_toArray, List.getElem_cons_succ, List.getElem_cons_zero]
          refine wpAnyH_ready (rs := [8]) (by kernel_rfl) (by simp) ?_
          refine AllReadyH.cons (o := _) rfl (fun K hK => ?_) AllReadyH.nil
          try simp only [List.getElem_toArray, List.getElem_cons_succ, List.getElem_cons_zero]
          go_simp
          have hH2 := hHeld
          obtain ⟨fz, fb, bx⟩ := hH2
          refine (P2.out _).mono ?_
          rintro e w1008 ⟨rfl, hg⟩
          have L8 := hid (show (BytesAt w1008 (.slice (some ⟨w1003.heap.size + 1, 0, none⟩) m m) (List.replicate m 0)) ∧ (BytesAt w1008 (.slice (some ⟨w1003.heap.size, 0, none⟩) 2 2) [kb, nb]) ∧ (Rk w CS w1008) from ⟨fz.grown hg (by simp), fb.grown hg (by simp), bx.grown hg⟩)
          clear hHeld hg fz fb bx
          go_wp2_with fail
          refine hK.out _ _ ?_ (fun hHeld => ?_)
          · exact L8.out
          clear hK K
          try dsimp only at hHeld
          try simp only [Act.put, List.setIfInBounds_toArray, List.set_cons_zero, List.set_cons_succ, List.getElem_toArray, List.getElem_cons_succ, List.getElem_cons_zero]
          refine' wpAnyH_take (i := 9) (v := _) rfl (by kernel_rfl) (by kernel_rfl) (by kernel_rfl) (fun _ _ _ h => h) (Or.inl ⟨by rfl, ?_⟩) hHeld ?_
          rotate_left
          · (intro w hSw; (try dsimp only at hSw); go_simp; try with_reducible rfl)
          try simp only [Act.put, List.setIfInBounds_toArray, List.set_cons_zero, List.set_cons_succ, List.getElem_toArray, List.getElem_cons_succ, List.getElem_cons_zero]
          refine' wpAnyH_take (i := 10) (v := _) rfl (by kernel_rfl) (by kernel_rfl) (by kernel_rfl) (fun _ _ _ h => h) (Or.inl ⟨by rfl, ?_⟩) hHeld ?_
          rotate_left
          · (intro w hSw; (try dsimp only at hSw); go_simp; try with_reducible rfl)
          try simp only [Act.put, List.setIfInBounds_toArray, List.set_cons_zero, List.set_cons_succ, List.getElem_toArray, List.getElem_cons_succ, List.getElem_cons_zero]
          refine' wpAnyH_take (i := 20) (v := _) rfl (by kernel_rfl) (by kernel_rfl) (by kernel_rfl) (fun _ _ _ h => h) (Or.inl ⟨by rfl, ?_⟩) hHeld ?_
          rotate_left
          · (intro w hSw; (try dsimp only at hSw); go_simp; try with_reducible rfl)
          try simp only [Act.put, List.setIfInBounds_toArray, List.set_cons_zero, List.set_cons_succ, List.getElem_toArray, List.getElem_cons_succ, List.getElem_cons_zero]
          refine' wpAnyH_take (i := 23) (v := _) rfl (by kernel_rfl) (by kernel_rfl) (by kernel_rfl) (fun _ _ _ h => h) (Or.inl ⟨by rfl, ?_⟩) hHeld ?_
          rotate_left
          · (intro w hSw; (try dsimp only at hSw); go_simp; try with_reducible rfl)
          try simp only [Act.put, List.setIfInBounds_toArray, List.set_cons_zero, List.set_cons_succ, List.getElem_toArray, List.getElem_cons_succ, List.getElem_cons_zero]
          refine' wpAnyH_take (i := 30) (v := _) rfl (by kernel_rfl) (by kernel_rfl) (by kernel_rfl) (fun _ _ _ h => h) (Or.inl ⟨by rfl, ?_⟩) hHeld ?_
          rotate_left
          · (intro w hSw; (try dsimp only at hSw); go_simp; try with_reducible rfl)
          try simp only [Act.put, List.setIfInBounds_toArray, List.set_cons_zero, List.set_cons_succ, List.getElem_toArray, List.getElem_cons_succ, List.getElem_cons_zero]
          refine' wpAnyH_take (i := 31) (v := _) rfl (by kernel_rfl) (by kernel_rfl) (by kernel_rfl) (fun _ _ _ h => h) (Or.inl ⟨by rfl, ?_⟩) hHeld ?_
          rotate_left
          · (intro w hSw; (try dsimp only at hSw); go_simp; try with_reducible rfl)
          try simp only [Act.put, List.setIfInBounds_toArray, List.set_cons_zero, List.set_cons_succ, List.getElem_toArray, List.getElem_cons_succ, List.getElem_cons_zero]
          refine wpAnyH_done (by kernel_rfl) ?_ _
          obtain ⟨fz, fb, bx⟩ := hHeld
          have BX := hid bx; clear fz fb bx
          go_wp2_with fail
          go_meet
          exact ⟨congrArg Value.string HE1.out, BX.out⟩
      · have hH2 := hHeld
        have bx := hH2
        have hmk := HMK.out (w1003)
        have hg : (w1003).grownBy (w1003.alloc OZ) none := World.grownBy_alloc (w1003) _ _
        have L28 := hid (show (Rk w CS (w1003.alloc OZ)) from (bx.grown hg))
        have Nfz := hid (show BytesAt (w1003.alloc OZ) (.slice (some ⟨w1003.heap.size, 0, none⟩) m m) (List.replicate m 0) from HZ.out (w1003))
        clear hHeld hg bx
        try simp only [List.getElem_toArray, List.getElem_cons_succ, List.getElem_cons_zero]
        go_simp
        refine hK.out _ _ ?_ (fun hHeld => ?_)
        · exact L28.out
        clear hK K
        try dsimp only at hHeld
        try simp only [Act.put, List.setIfInBounds_toArray, List.set_cons_zero, List.set_cons_succ, List.getElem_toArray, List.getElem_cons_succ, List.getElem_cons_zero]
        refine held_stronger (S' := fun w' => (fun w' => BytesAt w' (.slice (some ⟨w1003.heap.size, 0, none⟩) m m) (List.replicate m 0)) w' ∧ ((fun w' => (Rk w CS w'))) w') (fun _ h => h.2) _ _ _ _ ?_
        replace hHeld := And.intro Nfz.out hHeld
        try dsimp only at hHeld
        refine' wpAnyH_take (i := 29) (v := _) rfl (by kernel_rfl) (by kernel_rfl) (by kernel_rfl) (fun _ _ _ h => h) (Or.inl ⟨by rfl, ?_⟩) hHeld ?_
        rotate_left
        · (intro w hSw; (try dsimp only at hSw); obtain ⟨fz, bx⟩ := hSw; have cv := conv_bytes fz; go_simp; try with_reducible rfl)
        try simp only [Act.put, List.setIfInBounds_toArray, List.set_cons_zero, List.set_cons_succ, List.getElem_toArray, List.getElem_cons_succ, List.getElem_cons_zero]
        refine wpAnyH_ready (rs := [8, 18]) (by kernel_rfl) (by simp) ?_
        refine AllReadyH.cons (o := _) rfl (fun K hK => ?_) (AllReadyH.cons (o := _) rfl (fun K hK => ?_) AllReadyH.nil)
        · try simp only [List.getElem_toArray, List.getElem_cons_succ, List.getElem_cons_zero]
          go_simp
          have hH2 := hHeld
          obtain ⟨fz, bx⟩ := hH2
          refine (P2.out _).mono ?_
          rintro e w1008 ⟨rfl, hg⟩
          have L8 := hid (show (BytesAt w1008 (.slice (some ⟨w1003.heap.size, 0, none⟩) m m) (List.replicate m 0)) ∧ (Rk w CS w1008) from ⟨fz.grown hg (by simp), bx.grown hg⟩)
          clear hHeld hg fz bx
          go_wp2_with fail
          refine hK.out _ _ ?_ (fun hHeld => ?_)
          · exact L8.out
          clear hK K
          try dsimp only at hHeld
          try simp only [Act.put, List.setIfInBounds_toArray, List.set_cons_zero, List.set_cons_succ, List.getElem_toArray, List.getElem_cons_succ, List.getElem_cons_zero]
          refine' wpAnyH_take (i := 9) (v := _) rfl (by kernel_rfl) (by kernel_rfl) (by kernel_rfl) (fun _ _ _ h => h) (Or.inl ⟨by rfl, ?_⟩) hHeld ?_
          rotate_left
          · (intro w hSw; (try dsimp only at hSw); go_simp; try with_reducible rfl)
          try simp only [Act.put, List.setIfInBounds_toArray, List.set_cons_zero, List.set_cons_succ, List.getElem_toArray, List.getElem_cons_succ, List.getElem_cons_zero]
          refine' wpAnyH_take (i := 10) (v := _) rfl (by kernel_rfl) (by kernel_rfl) (by kernel_rfl) (fun _ _ _ h => h) (Or.inl ⟨by rfl, ?_⟩) hHeld ?_
          rotate_left
          · (intro w hSw; (try dsimp only at hSw); go_simp; try with_reducible rfl)
          try simp only [Act.put, List.setIfInBounds_toArray, List.set_cons_zero, List.set_cons_succ, List.getElem_toArray, List.getElem_cons_succ, List.getElem_cons_zero]
          refine wpAnyH_ready (rs := [18]) (by kernel_rfl) (by simp) ?_
          refine AllReadyH.cons (o := _) rfl (fun K hK => ?_) AllReadyH.nil
          have hH2 := hHeld
          obtain ⟨fz, bx⟩ := hH2
          have hg : (w1008).grownBy (w1008.alloc (.cells #[.int .u8 (kb.toNat : Int), .int .u8 (nb.toNat : Int)] 5)) none := World.grownBy_alloc (w1008) _ _
          have L18 := hid (show (BytesAt (w1008.alloc (.cells #[.int .u8 (kb.toNat : Int), .int .u8 (nb.toNat : Int)] 5)) (.slice (some ⟨w1003.heap.size, 0, none⟩) m m) (List.replicate m 0)) ∧ (Rk w CS (w1008.alloc (.cells #[.int .u8 (kb.toNat : Int), .int .u8 (nb.toNat : Int)] 5))) from ⟨fz.grown hg (by simp), bx.grown hg⟩)
          have Nfb := hid (show BytesAt (w1008.alloc (.cells #[.int .u8 (kb.toNat : Int), .int .u8 (nb.toNat : Int)] 5)) (.slice (some ⟨w1008.heap.size, 0, none⟩) 2 2) [kb, nb] from (own_block [kb, nb] (at_new (w1008) _) (by unfold maxLen; simp) (Nat.le_refl _)).bytes)
          clear hHeld hg fz bx
          try simp only [List.getElem_toArray, List.getElem_cons_succ, List.getElem_cons_zero]
          go_simp
          refine hK.out _ _ ?_ (fun hHeld => ?_)
          · exact L18.out
          clear hK K
          try dsimp only at hHeld
          try simp only [Act.put, List.setIfInBounds_toArray, List.set_cons_zero, List.set_cons_succ, List.getElem_toArray, List.getElem_cons_succ, List.getElem_cons_zero]
          refine held_stronger (S' := fun w' => (fun w' => BytesAt w' (.slice (some ⟨w1008.heap.size, 0, none⟩) 2 2) [kb, nb]) w' ∧ ((fun w' => (BytesAt w' (.slice (some ⟨w1003.heap.size, 0, none⟩) m m) (List.replicate m 0)) ∧ (Rk w CS w'))) w') (fun _ h => h.2) _ _ _ _ ?_
          replace hHeld := And.intro Nfb.out hHeld
          try dsimp only at hHeld
          refine' wpAnyH_take (i := 19) (v := _) rfl (by kernel_rfl) (by kernel_rfl) (by kernel_rfl) (fun _ _ _ h => h) (Or.inl ⟨by rfl, ?_⟩) hHeld ?_
          rotate_left
          · (intro w hSw; (try dsimp only at hSw); obtain ⟨fb, fz, bx⟩ := hSw; have cv := conv_bytes fb; go_simp; try with_reducible rfl)
          try simp only [Act.put, List.setIfInBounds_toArray, List.set_cons_zero, List.set_cons_succ, List.getElem_toArray, List.getElem_cons_succ, List.getElem_cons_zero]
          refine' wpAnyH_take (i := 20) (v := _) rfl (by kernel_rfl) (by kernel_rfl) (by kernel_rfl) (fun _ _ _ h => h) (Or.inl ⟨by rfl, ?_⟩) hHeld ?_
          rotate_left
          · (intro w hSw; (try dsimp only at hSw); go_simp; try with_reducible rfl)
          try simp only [Act.put, List.setIfInBounds_toArray, List.set_cons_zero, List.set_cons_succ, List.getElem_toArray, List.getElem_cons_succ, List.getElem_cons_zero]
          refine' wpAnyH_take (i := 23) (v := _) rfl (by kernel_rfl) (by kernel_rfl) (by kernel_rfl) (fun _ _ _ h => h) (Or.inl ⟨by rfl, ?_⟩) hHeld ?_
          rotate_left
          · (intro w hSw; (try dsimp only at hSw); go_simp; try with_reducible rfl)
          try simp only [Act.put, List.setIfInBounds_toArray, List.set_cons_zero, List.set_cons_succ, List.getElem_toArray, List.getElem_cons_succ, List.getElem_cons_zero]
          refine' wpAnyH_take (i := 30) (v := _) rfl (by kernel_rfl) (by kernel_rfl) (by kernel_rfl) (fun _ _ _ h => h) (Or.inl ⟨by rfl, ?_⟩) hHeld ?_
          rotate_left
          · (intro w hSw; (try dsimp only at hSw); go_simp; try with_reducible rfl)
          try simp only [Act.put, List.setIfInBounds_toArray, List.set_cons_zero, List.set_cons_succ, List.getElem_toArray, List.getElem_cons_succ, List.getElem_cons_zero]
          refine' wpAnyH_take (i := 31) (v := _) rfl (by kernel_rfl) (by kernel_rfl) (by kernel_rfl) (fun _ _ _ h => h) (Or.inl ⟨by rfl, ?_⟩) hHeld ?_
          rotate_left
          · (intro w hSw; (try dsimp only at hSw); go_simp; try with_reducible rfl)
          try simp only [Act.put, List.setIfInBounds_toArray, List.set_cons_zero, List.set_cons_succ, List.getElem_toArray, List.getElem_cons_succ, List.getElem_cons_zero]
          refine wpAnyH_done (by kernel_rfl) ?_ _
          obtain ⟨fb, fz, bx⟩ := hHeld
          have BX := hid bx; clear fb fz bx
          go_wp2_with fail
          go_meet
          exact ⟨congrArg Value.string HE1.out, BX.out⟩
        · have hH2 := hHeld
          obtain ⟨fz, bx⟩ := hH2
          have hg : ((w1003.alloc OZ)).grownBy ((w1003.alloc OZ).alloc (.cells #[.int .u8 (kb.toNat : Int), .int .u8 (nb.toNat : Int)] 5)) none := World.grownBy_alloc ((w1003.alloc OZ)) _ _
          have L18 := hid (show (BytesAt ((w1003.alloc OZ).alloc (.cells #[.int .u8 (kb.toNat : Int), .int .u8 (nb.toNat : Int)] 5)) (.slice (some ⟨w1003.heap.size, 0, none⟩) m m) (List.replicate m 0)) ∧ (Rk w CS ((w1003.alloc OZ).alloc (.cells #[.int .u8 (kb.toNat : Int), .int .u8 (nb.toNat : Int)] 5))) from ⟨fz.grown hg (by simp), bx.grown hg⟩)
          have Nfb := hid (show BytesAt ((w1003.alloc OZ).alloc (.cells #[.int .u8 (kb.toNat : Int), .int .u8 (nb.toNat : Int)] 5)) (.slice (some ⟨w1003.heap.size + 1, 0, none⟩) 2 2) [kb, nb] from (by have h := (own_block [kb, nb] (at_new ((w1003.alloc OZ)) _) (by unfold maxLen; simp) (Nat.le_refl _)).bytes; rw [show ((w1003.alloc OZ)).heap.size = w1003.heap.size + 1 from alloc_size _ _] at h; exact h))
          clear hHeld hg fz bx
          try simp only [List.getElem_toArray, List.getElem_cons_succ, List.getElem_cons_zero]
          go_simp
          refine hK.out _ _ ?_ (fun hHeld => ?_)
          · exact L18.out
          clear hK K
          try dsimp only at hHeld
          try simp only [Act.put, List.setIfInBounds_toArray, List.set_cons_zero, List.set_cons_succ, List.getElem_toArray, List.getElem_cons_succ, List.getElem_cons_zero]
          refine held_stronger (S' := fun w' => (fun w' => BytesAt w' (.slice (some ⟨w1003.heap.size + 1, 0, none⟩) 2 2) [kb, nb]) w' ∧ ((fun w' => (BytesAt w' (.slice (some ⟨w1003.heap.size, 0, none⟩) m m) (List.replicate m 0)) ∧ (Rk w CS w'))) w') (fun _ h => h.2) _ _ _ _ ?_
          replace hHeld := And.intro Nfb.out hHeld
          try dsimp only at hHeld
          refine' wpAnyH_take (i := 19) (v := _) rfl (by kernel_rfl) (by kernel_rfl) (by kernel_rfl) (fun _ _ _ h => h) (Or.inl ⟨by rfl, ?_⟩) hHeld ?_
          rotate_left
          · (intro w hSw; (try dsimp only at hSw); obtain ⟨fb, fz, bx⟩ := hSw; have cv := conv_bytes fb; go_simp; try with_reducible rfl)
          try simp only [Act.put, List.setIfInBounds_toArray, List.set_cons_zero, List.set_cons_succ, List.getElem_toArray, List.getElem_cons_succ, List.getElem_cons_zero]
          refine wpAnyH_ready (rs := [8]) (by kernel_rfl) (by simp) ?_
          refine AllReadyH.cons (o := _) rfl (fun K hK => ?_) AllReadyH.nil
          try simp only [List.getElem_toArray, List.getElem_cons_succ, List.getElem_cons_zero]
          go_simp
          have hH2 := hHeld
          obtain ⟨fb, fz, bx⟩ := hH2
          refine (P2.out _).mono ?_
          rintro e w1008 ⟨rfl, hg⟩
          have L8 := hid (show (BytesAt w1008 (.slice (some ⟨w1003.heap.size + 1, 0, none⟩) 2 2) [kb, nb]) ∧ (BytesAt w1008 (.slice (some ⟨w1003.heap.size, 0, none⟩) m m) (List.replicate m 0)) ∧ (Rk w CS w1008) from ⟨fb.grown hg (by simp), fz.grown hg (by simp), bx.grown hg⟩)
          clear hHeld hg fb fz bx
          go_wp2_with fail
          refine hK.out _ _ ?_ (fun hHeld => ?_)
          · exact L8.out
          clear hK K
          try dsimp only at hHeld
          try simp only [Act.put, List.setIfInBounds_toArray, List.set_cons_zero, List.set_cons_succ, List.getElem_toArray, List.getElem_cons_succ, List.getElem_cons_zero]
          refine' wpAnyH_take (i := 9) (v := _) rfl (by kernel_rfl) (by kernel_rfl) (by kernel_rfl) (fun _ _ _ h => h) (Or.inl ⟨by rfl, ?_⟩) hHeld ?_
          rotate_left
          · (intro w hSw; (try dsimp only at hSw); go_simp; try with_reducible rfl)
          try simp only [Act.put, List.setIfInBounds_toArray, List.set_cons_zero, List.set_cons_succ, List.getElem_toArray, List.getElem_cons_succ, List.getElem_cons_zero]
          refine' wpAnyH_take (i := 10) (v := _) rfl (by kernel_rfl) (by kernel_rfl) (by kernel_rfl) (fun _ _ _ h => h) (Or.inl ⟨by rfl, ?_⟩) hHeld ?_
          rotate_left
          · (intro w hSw; (try dsimp only at hSw); go_simp; try with_reducible rfl)
          try simp only [Act.put, List.setIfInBounds_toArray, List.set_cons_zero, List.set_cons_succ, List.getElem_toArray, List.getElem_cons_succ, List.getElem_cons_zero]
          refine' wpAnyH_take (i := 20) (v := _) rfl (by kernel_rfl) (by kernel_rfl) (by kernel_rfl) (fun _ _ _ h => h) (Or.inl ⟨by rfl, ?_⟩) hHeld ?_
          rotate_left
          · (intro w hSw; (try dsimp only at hSw); go_simp; try with_reducible rfl)
          try simp only [Act.put, List.setIfInBounds_toArray, List.set_cons_zero, List.set_cons_succ, List.getElem_toArray, List.getElem_cons_succ, List.getElem_cons_zero]
          refine' wpAnyH_take (i := 23) (v := _) rfl (by kernel_rfl) (by kernel_rfl) (by kernel_rfl) (fun _ _ _ h => h) (Or.inl ⟨by rfl, ?_⟩) hHeld ?_
          rotate_left
          · (intro w hSw; (try dsimp only at hSw); go_simp; try with_reducible rfl)
          try simp only [Act.put, List.setIfInBounds_toArray, List.set_cons_zero, List.set_cons_succ, List.getElem_toArray, List.getElem_cons_succ, List.getElem_cons_zero]
          refine' wpAnyH_take (i := 30) (v := _) rfl (by kernel_rfl) (by kernel_rfl) (by kernel_rfl) (fun _ _ _ h => h) (Or.inl ⟨by rfl, ?_⟩) hHeld ?_
          rotate_left
          · (intro w hSw; (try dsimp only at hSw); go_simp; try with_reducible rfl)
          try simp only [Act.put, List.setIfInBounds_toArray, List.set_cons_zero, List.set_cons_succ, List.getElem_toArray, List.getElem_cons_succ, List.getElem_cons_zero]
          refine' wpAnyH_take (i := 31) (v := _) rfl (by kernel_rfl) (by kernel_rfl) (by kernel_rfl) (fun _ _ _ h => h) (Or.inl ⟨by rfl, ?_⟩) hHeld ?_
          rotate_left
          · (intro w hSw; (try dsimp only at hSw); go_simp; try with_reducible rfl)
          try simp only [Act.put, List.setIfInBounds_toArray, List.set_cons_zero, List.set_cons_succ, List.getElem_toArray, List.getElem_cons_succ, List.getElem_cons_zero]
          refine wpAnyH_done (by kernel_rfl) ?_ _
          obtain ⟨fb, fz, bx⟩ := hHeld
          have BX := hid bx; clear fb fz bx
          go_wp2_with fail
          go_meet
          exact ⟨congrArg Value.string HE1.out, BX.out⟩
    · have hH2 := hHeld
      have bx := hH2
      have hg : (w1.drew).grownBy ((w1.alloc (.cells #[.int .u8 (kb.toNat : Int), .int .u8 (nb.toNat : Int)] 5)).drew) none := World.grownBy_alloc (w1.drew) _ _
      have L18 := hid (show (Rk w CS ((w1.alloc (.cells #[.int .u8 (kb.toNat : Int), .int .u8 (nb.toNat : Int)] 5)).drew)) from (bx.grown hg))
      have Nfb := hid (show BytesAt ((w1.alloc (.cells #[.int .u8 (kb.toNat : Int), .int .u8 (nb.toNat : Int)] 5)).drew) (.slice (some ⟨w1.heap.size, 0, none⟩) 2 2) [kb, nb] from (own_block [kb, nb] (at_new (w1.drew) _) (by unfold maxLen; simp) (Nat.le_refl _)).bytes)
      clear hHeld hg bx
      try simp only [List.getElem_toArray, List.getElem_cons_succ, List.getElem_cons_zero]
      go_simp
      refine hK.out _ _ ?_ (fun hHeld => ?_)
      · exact L18.out
      clear hK K
      try dsimp only at hHeld
      try simp only [Act.put, List.setIfInBounds_toArray, List.set_cons_zero, List.set_cons_succ, List.getElem_toArray, List.getElem_cons_succ, List.getElem_cons_zero]
      refine held_stronger (S' := fun w' => (fun w' => BytesAt w' (.slice (some ⟨w1.heap.size, 0, none⟩) 2 2) [kb, nb]) w' ∧ ((fun w' => (Rk w CS w'))) w') (fun _ h => h.2) _ _ _ _ ?_
      replace hHeld := And.intro Nfb.out hHeld
      try dsimp only at hHeld
      refine' wpAnyH_take (i := 19) (v := _) rfl (by kernel_rfl) (by kernel_rfl) (by kernel_rfl) (fun _ _ _ h => h) (Or.inl ⟨by rfl, ?_⟩) hHeld ?_
      rotate_left
      · (intro w hSw; (try dsimp only at hSw); obtain ⟨fb, bx⟩ := hSw; have cv := conv_bytes fb; go_simp; try with_reducible rfl)
      try simp only [Act.put, List.setIfInBounds_toArray, List.set_cons_zero, List.set_cons_succ, List.getElem_toArray, List.getElem_cons_succ, List.getElem_cons_zero]
      refine wpAnyH_ready (rs := [3, 28]) (by kernel_rfl) (by simp) ?_
      refine AllReadyH.cons (o := _) rfl (fun K hK => ?_) (AllReadyH.cons (o := _) rfl (fun K hK => ?_) AllReadyH.nil)
      · try simp only [List.getElem_toArray, List.getElem_cons_succ, List.getElem_cons_zero]
        go_simp
        have hH2 := hHeld
        obtain ⟨fb, bx⟩ := hH2
        refine (P1.out _).mono ?_
        rintro e w1003 ⟨rfl, hg⟩
        have L3 := hid (show (BytesAt w1003 (.slice (some ⟨w1.heap.size, 0, none⟩) 2 2) [kb, nb]) ∧ (Rk w CS w1003) from ⟨fb.grown hg (by simp), bx.grown hg⟩)
        clear hHeld hg fb bx
        go_wp2_with fail
        refine hK.out _ _ ?_ (fun hHeld => ?_)
        · exact L3.out
        clear hK K
        try dsimp only at hHeld
        try simp only [Act.put, List.setIfInBounds_toArray, List.set_cons_zero, List.set_cons_succ, List.getElem_toArray, List.getElem_cons_succ, List.getElem_cons_zero]
        refine' wpAnyH_take (i := 4) (v := _) rfl (by kernel_rfl) (by kernel_rfl) (by kernel_rfl) (fun _ _ _ h => h) (Or.inl ⟨by rfl, ?_⟩) hHeld ?_
        rotate_left
        · (intro w hSw; (try dsimp only at hSw); go_simp; try with_reducible rfl)
        try simp only [Act.put, List.setIfInBounds_toArray, List.set_cons_zero, List.set_cons_succ, List.getElem_toArray, List.getElem_cons_succ, List.getElem_cons_zero]
        refine wpAnyH_ready (rs := [8, 28]) (by kernel_rfl) (by simp) ?_
        refine AllReadyH.cons (o := _) rfl (fun K hK => ?_) (AllReadyH.cons (o := _) rfl (fun K hK => ?_) AllReadyH.nil)
        · try simp only [List.getElem_toArray, List.getElem_cons_succ, List.getElem_cons_zero]
          go_simp
          have hH2 := hHeld
          obtain ⟨fb, bx⟩ := hH2
          refine (P2.out _).mono ?_
          rintro e w1008 ⟨rfl, hg⟩
          have L8 := hid (show (BytesAt w1008 (.slice (some ⟨w1.heap.size, 0, none⟩) 2 2) [kb, nb]) ∧ (Rk w CS w1008) from ⟨fb.grown hg (by simp), bx.grown hg⟩)
          clear hHeld hg fb bx
          go_wp2_with fail
          refine hK.out _ _ ?_ (fun hHeld => ?_)
          · exact L8.out
          clear hK K
          try dsimp only at hHeld
          try simp only [Act.put, List.setIfInBounds_toArray, List.set_cons_zero, List.set_cons_succ, List.getElem_toArray, List.getElem_cons_succ, List.getElem_cons_zero]
          refine' wpAnyH_take (i := 9) (v := _) rfl (by kernel_rfl) (by kernel_rfl) (by kernel_rfl) (fun _ _ _ h => h) (Or.inl ⟨by rfl, ?_⟩) hHeld ?_
          rotate_left
          · (intro w hSw; (try dsimp only at hSw); go_simp; try with_reducible rfl)
          try simp only [Act.put, List.setIfInBounds_toArray, List.set_cons_zero, List.set_cons_succ, List.getElem_toArray, List.getElem_cons_succ, List.getElem_cons_zero]
          refine' wpAnyH_take (i := 10) (v := _) rfl (by kernel_rfl) (by kernel_rfl) (by kernel_rfl) (fun _ _ _ h => h) (Or.inl ⟨by rfl, ?_⟩) hHeld ?_
          rotate_left
          · (intro w hSw; (try dsimp only at hSw); go_simp; try with_reducible rfl)
          try simp only [Act.put, List.setIfInBounds_toArray, List.set_cons_zero, List.set_cons_succ, List.getElem_toArray, List.getElem_cons_succ, List.getElem_cons_zero]
          refine' wpAnyH_take (i := 20) (v := _) rfl (by kernel_rfl) (by kernel_rfl) (by kernel_rfl) (fun _ _ _ h => h) (Or.inl ⟨by rfl, ?_⟩) hHeld ?_
          rotate_left
          · (intro w hSw; (try dsimp only at hSw); go_simp; try with_reducible rfl)
          try simp only [Act.put, List.setIfInBounds_toArray, List.set_cons_zero, List.set_cons_succ, List.getElem_toArray, List.getElem_cons_succ, List.getElem_cons_zero]
          refine' wpAnyH_take (i := 23) (v := _) rfl (by kernel_rfl) (by kernel_rfl) (by kernel_rfl) (fun _ _ _ h => h) (Or.inl ⟨by rfl, ?_⟩) hHeld ?_
          rotate_left
          · (intro w hSw; (try dsimp only at hSw); go_simp; try with_reducible rfl)
          try simp only [Act.put, List.setIfInBounds_toArray, List.set_cons_zero, List.set_cons_succ, List.getElem_toArray, List.getElem_cons_succ, List.getElem_cons_zero]
          refine wpAnyH_ready (rs := [28]) (by kernel_rfl) (by simp) ?_
          refine AllReadyH.cons (o := _) rfl (fun K hK => ?_) AllReadyH.nil
          have hH2 := hHeld
          obtain ⟨fb, bx⟩ := hH2
          have hmk := HMK.out (w1008)
          have hg : (w1008).grownBy (w1008.alloc OZ) none := World.grownBy_alloc (w1008) _ _
          have L28 := hid (show (BytesAt (w1008.alloc OZ) (.slice (some ⟨w1.heap.size, 0, none⟩) 2 2) [kb, nb]) ∧ (Rk w CS (w1008.alloc OZ)) from ⟨fb.grown hg (by simp), bx.grown hg⟩)
          have Nfz := hid (show BytesAt (w1008.alloc OZ) (.slice (some ⟨w1008.heap.size, 0, none⟩) m m) (List.replicate m 0) from HZ.out (w1008))
          clear hHeld hg fb bx
          try simp only [List.getElem_toArray, List.getElem_cons_succ, List.getElem_cons_zero]
          go_simp
          refine hK.out _ _ ?_ (fun hHeld => ?_)
          · exact L28.out
          clear hK K
          try dsimp only at hHeld
          try simp only [Act.put, List.setIfInBounds_toArray, List.set_cons_zero, List.set_cons_succ, List.getElem_toArray, List.getElem_cons_succ, List.getElem_cons_zero]
          refine held_stronger (S' := fun w' => (fun w' => BytesAt w' (.slice (some ⟨w1008.heap.size, 0, none⟩) m m) (List.replicate m 0)) w' ∧ ((fun w' => (BytesAt w' (.slice (some ⟨w1.heap.size, 0, none⟩) 2 2) [kb, nb]) ∧ (Rk w CS w'))) w') (fun _ h => h.2) _ _ _ _ ?_
          replace hHeld := And.intro Nfz.out hHeld
          try dsimp only at hHeld
          refine' wpAnyH_take (i := 29) (v := _) rfl (by kernel_rfl) (by kernel_rfl) (by kernel_rfl) (fun _ _ _ h => h) (Or.inl ⟨by rfl, ?_⟩) hHeld ?_
          rotate_left
          · (intro w hSw; (try dsimp only at hSw); obtain ⟨fz, fb, bx⟩ := hSw; have cv := conv_bytes fz; go_simp; try with_reducible rfl)
          try simp only [Act.put, List.setIfInBounds_toArray, List.set_cons_zero, List.set_cons_succ, List.getElem_toArray, List.getElem_cons_succ, List.getElem_cons_zero]
          refine' wpAnyH_take (i := 30) (v := _) rfl (by kernel_rfl) (by kernel_rfl) (by kernel_rfl) (fun _ _ _ h => h) (Or.inl ⟨by rfl, ?_⟩) hHeld ?_
          rotate_left
          · (intro w hSw; (try dsimp only at hSw); go_simp; try with_reducible rfl)
          try simp only [Act.put, List.setIfInBounds_toArray, List.set_cons_zero, List.set_cons_succ, List.getElem_toArray, List.getElem_cons_succ, List.getElem_cons_zero]
          refine' wpAnyH_take (i := 31) (v := _) rfl (by kernel_rfl) (by kernel_rfl) (by kernel_rfl) (fun _ _ _ h => h) (Or.inl ⟨by rfl, ?_⟩) hHeld ?_
          rotate_left
          · (intro w hSw; (try dsimp only at hSw); go_simp; try with_reducible rfl)
          try simp only [Act.put, List.setIfInBounds_toArray, List.set_cons_zero, List.set_cons_succ, List.getElem_toArray, List.getElem_cons_succ, List.getElem_cons_zero]
          refine wpAnyH_done (by kernel_rfl) ?_ _
          obtain ⟨fz, fb, bx⟩ := hHeld
          have BX := hid bx; clear fz fb bx
          go_wp2_with fail
          go_meet
          exact ⟨congrArg Value.string HE1.out, BX.out⟩
        · have hH2 := hHeld
          obtain ⟨fb, bx⟩ := hH2
          have hmk := HMK.out (w1003)
          have hg : (w1003).grownBy (w1003.alloc OZ) none := World.grownBy_alloc (w1003) _ _
          have L28 := hid (show (BytesAt (w1003.alloc OZ) (.slice (some ⟨w1.heap.size, 0, none⟩) 2 2) [kb, nb]) ∧ (Rk w CS (w1003.alloc OZ)) from ⟨fb.grown hg (by simp), bx.grown hg⟩)
          have Nfz := hid (show BytesAt (w1003.alloc OZ) (.slice (some ⟨w1003.heap.size, 0, none⟩) m m) (List.replicate m 0) from HZ.out (w1003))
          clear hHeld hg fb bx
          try simp only [List.getElem_toArray, List.getElem_cons_succ, List.getElem_cons_zero]
          go_simp
          refine hK.out _ _ ?_ (fun hHeld => ?_)
          · exact L28.out
          clear hK K
          try dsimp only at hHeld
          try simp only [Act.put, List.setIfInBounds_toArray, List.set_cons_zero, List.set_cons_succ, List.getElem_toArray, List.getElem_cons_succ, List.getElem_cons_zero]
          refine held_stronger (S' := fun w' => (fun w' => BytesAt w' (.slice (some ⟨w1003.heap.size, 0, none⟩) m m) (List.replicate m 0)) w' ∧ ((fun w' => (BytesAt w' (.slice (some ⟨w1.heap.size, 0, none⟩) 2 2) [kb, nb]) ∧ (Rk w CS w'))) w') (fun _ h => h.2) _ _ _ _ ?_
          replace hHeld := And.intro Nfz.out hHeld
          try dsimp only at hHeld
          refine' wpAnyH_take (i := 29) (v := _) rfl (by kernel_rfl) (by kernel_rfl) (by kernel_rfl) (fun _ _ _ h => h) (Or.inl ⟨by rfl, ?_⟩) hHeld ?_
          rotate_left
          · (intro w hSw; (try dsimp only at hSw); obtain ⟨fz, fb, bx⟩ := hSw; have cv := conv_bytes fz; go_simp; try with_reducible rfl)
          try simp only [Act.put, List.setIfInBounds_toArray, List.set_cons_zero, List.set_cons_succ, List.getElem_toArray, List.getElem_cons_succ, List.getElem_cons_zero]
          refine wpAnyH_ready (rs := [8]) (by kernel_rfl) (by simp) ?_
          refine AllReadyH.cons (o := _) rfl (fun K hK => ?_) AllReadyH.nil
          try simp only [List.getElem_toArray, List.getElem_cons_succ, List.getElem_cons_zero]
          go_simp
          have hH2 := hHeld
          obtain ⟨fz, fb, bx⟩ := hH2
          refine (P2.out _).mono ?_
          rintro e w1008 ⟨rfl, hg⟩
          have L8 := hid (show (BytesAt w1008 (.slice (some ⟨w1003.heap.size, 0, none⟩) m m) (List.replicate m 0)) ∧ (BytesAt w1008 (.slice (some ⟨w1.heap.size, 0, none⟩) 2 2) [kb, nb]) ∧ (Rk w CS w1008) from ⟨fz.grown hg (by simp), fb.grown hg (by simp), bx.grown hg⟩)
          clear hHeld hg fz fb bx
          go_wp2_with fail
          refine hK.out _ _ ?_ (fun hHeld => ?_)
          · exact L8.out
          clear hK K
          try dsimp only at hHeld
          try simp only [Act.put, List.setIfInBounds_toArray, List.set_cons_zero, List.set_cons_succ, List.getElem_toArray, List.getElem_cons_succ, List.getElem_cons_zero]
          refine' wpAnyH_take (i := 9) (v := _) rfl (by kernel_rfl) (by kernel_rfl) (by kernel_rfl) (fun _ _ _ h => h) (Or.inl ⟨by rfl, ?_⟩) hHeld ?_
          rotate_left
          · (intro w hSw; (try dsimp only at hSw); go_simp; try with_reducible rfl)
          try simp only [Act.put, List.setIfInBounds_toArray, List.set_cons_zero, List.set_cons_succ, List.getElem_toArray, List.getElem_cons_succ, List.getElem_cons_zero]
          refine' wpAnyH_take (i := 10) (v := _) rfl (by kernel_rfl) (by kernel_rfl) (by kernel_rfl) (fun _ _ _ h => h) (Or.inl ⟨by rfl, ?_⟩) hHeld ?_
          rotate_left
          · (intro w hSw; (try dsimp only at hSw); go_simp; try with_reducible rfl)
          try simp only [Act.put, List.setIfInBounds_toArray, List.set_cons_zero, List.set_cons_succ, List.getElem_toArray, List.getElem_cons_succ, List.getElem_cons_zero]
          refine' wpAnyH_take (i := 20) (v := _) rfl (by kernel_rfl) (by kernel_rfl) (by kernel_rfl) (fun _ _ _ h => h) (Or.inl ⟨by rfl, ?_⟩) hHeld ?_
          rotate_left
          · (intro w hSw; (try dsimp only at hSw); go_simp; try with_reducible rfl)
          try simp only [Act.put, List.setIfInBounds_toArray, List.set_cons_zero, List.set_cons_succ, List.getElem_toArray, List.getElem_cons_succ, List.getElem_cons_zero]
          refine' wpAnyH_take (i := 23) (v := _) rfl (by kernel_rfl) (by kernel_rfl) (by kernel_rfl) (fun _ _ _ h => h) (Or.inl ⟨by rfl, ?_⟩) hHeld ?_
          rotate_left
          · (intro w hSw; (try dsimp only at hSw); go_simp; try with_reducible rfl)
          try simp only [Act.put, List.setIfInBounds_toArray, List.set_cons_zero, List.set_cons_succ, List.getElem_toArray, List.getElem_cons_succ, List.getElem_cons_zero]
          refine' wpAnyH_take (i := 30) (v := _) rfl (by kernel_rfl) (by kernel_rfl) (by kernel_rfl) (fun _ _ _ h => h) (Or.inl ⟨by rfl, ?_⟩) hHeld ?_
          rotate_left
          · (intro w hSw; (try dsimp only at hSw); go_simp; try with_reducible rfl)
          try simp only [Act.put, List.setIfInBounds_toArray, List.set_cons_zero, List.set_cons_succ, List.getElem_toArray, List.getElem_cons_succ, List.getElem_cons_zero]
          refine' wpAnyH_take (i := 31) (v := _) rfl (by kernel_rfl) (by kernel_rfl) (by kernel_rfl) (fun _ _ _ h => h) (Or.inl ⟨by rfl, ?_⟩) hHeld ?_
          rotate_left
          · (intro w hSw; (try dsimp only at hSw); go_simp; try with_reducible rfl)
          try simp only [Act.put, List.setIfInBounds_toArray, List.set_cons_zero, List.set_cons_succ, List.getElem_toArray, List.getElem_cons_succ, List.getElem_cons_zero]
          refine wpAnyH_done (by kernel_rfl) ?_ _
          obtain ⟨fz, fb, bx⟩ := hHeld
          have BX := hid bx; clear fz fb bx
          go_wp2_with fail
          go_meet
          exact ⟨congrArg Value.string HE1.out, BX.out⟩
      · have hH2 := hHeld
        obtain ⟨fb, bx⟩ := hH2
        have hmk := HMK.out (((w1.alloc (.cells #[.int .u8 (kb.toNat : Int), .int .u8 (nb.toNat : Int)] 5)).drew))
        have hg : (((w1.alloc (.cells #[.int .u8 (kb.toNat : Int), .int .u8 (nb.toNat : Int)] 5)).drew)).grownBy (((w1.alloc (.cells #[.int .u8 (kb.toNat : Int), .int .u8 (nb.toNat : Int)] 5)).drew).alloc OZ) none := World.grownBy_alloc (((w1.alloc (.cells #[.int .u8 (kb.toNat : Int), .int .u8 (nb.toNat : Int)] 5)).drew)) _ _
        have L28 := hid (show (BytesAt (((w1.alloc (.cells #[.int .u8 (kb.toNat : Int), .int .u8 (nb.toNat : Int)] 5)).drew).alloc OZ) (.slice (some ⟨w1.heap.size, 0, none⟩) 2 2) [kb, nb]) ∧ (Rk w CS (((w1.alloc (.cells #[.int .u8 (kb.toNat : Int), .int .u8 (nb.toNat : Int)] 5)).drew).alloc OZ)) from ⟨fb.grown hg (by simp), bx.grown hg⟩)
        have Nfz := hid (show BytesAt (((w1.alloc (.cells #[.int .u8 (kb.toNat : Int), .int .u8 (nb.toNat : Int)] 5)).drew).alloc OZ) (.slice (some ⟨w1.heap.size + 1, 0, none⟩) m m) (List.replicate m 0) from (by have h := HZ.out (((w1.alloc (.cells #[.int .u8 (kb.toNat : Int), .int .u8 (nb.toNat : Int)] 5)).drew)); rw [show (((w1.alloc (.cells #[.int .u8 (kb.toNat : Int), .int .u8 (nb.toNat : Int)] 5)).drew)).heap.size = w1.heap.size + 1 from alloc_size _ _] at h; exact h))
        clear hHeld hg fb bx
        try simp only [List.getElem_toArray, List.getElem_cons_succ, List.getElem_cons_zero]
        go_simp
        refine hK.out _ _ ?_ (fun hHeld => ?_)
        · exact L28.out
        clear hK K
        try dsimp only at hHeld
        try simp only [Act.put, List.setIfInBounds_toArray, List.set_cons_zero, List.set_cons_succ, List.getElem_toArray, List.getElem_cons_succ, List.getElem_cons_zero]
        refine held_stronger (S' := fun w' => (fun w' => BytesAt w' (.slice (some ⟨w1.heap.size + 1, 0, none⟩) m m) (List.replicate m 0)) w' ∧ ((fun w' => (BytesAt w' (.slice (some ⟨w1.heap.size, 0, none⟩) 2 2) [kb, nb]) ∧ (Rk w CS w'))) w') (fun _ h => h.2) _ _ _ _ ?_
        replace hHeld := And.intro Nfz.out hHeld
        try dsimp only at hHeld
        refine' wpAnyH_take (i := 29) (v := _) rfl (by kernel_rfl) (by kernel_rfl) (by kernel_rfl) (fun _ _ _ h => h) (Or.inl ⟨by rfl, ?_⟩) hHeld ?_
        rotate_left
        · (intro w hSw; (try dsimp only at hSw); obtain ⟨fz, fb, bx⟩ := hSw; have cv := conv_bytes fz; go_simp; try with_reducible rfl)
        try simp only [Act.put, List.setIfInBounds_toArray, List.set_cons_zero, List.set_cons_succ, List.getElem_toArray, List.getElem_cons_succ, List.getElem_cons_zero]
        refine wpAnyH_ready (rs := [3]) (by kernel_rfl) (by simp) ?_
        refine AllReadyH.cons (o := _) rfl (fun K hK => ?_) AllReadyH.nil
        try simp only [List.getElem_toArray, List.getElem_cons_succ, List.getElem_cons_zero]
        go_simp
        have hH2 := hHeld
        obtain ⟨fz, fb, bx⟩ := hH2
        refine (P1.out _).mono ?_
        rintro e w1003 ⟨rfl, hg⟩
        have L3 := hid (show (BytesAt w1003 (.slice (some ⟨w1.heap.size + 1, 0, none⟩) m m) (List.replicate m 0)) ∧ (BytesAt w1003 (.slice (some ⟨w1.heap.size, 0, none⟩) 2 2) [kb, nb]) ∧ (Rk w CS w1003) from ⟨fz.grown hg (by simp), fb.grown hg (by simp), bx.grown hg⟩)
        clear hHeld hg fz fb bx
        go_wp2_with fail
        refine hK.out _ _ ?_ (fun hHeld => ?_)
        · exact L3.out
        clear hK K
        try dsimp only at hHeld
        try simp only [Act.put, List.setIfInBounds_toArray, List.set_cons_zero, List.set_cons_succ, List.getElem_toArray, List.getElem_cons_succ, List.getElem_cons_zero]
        refine' wpAnyH_take (i := 4) (v := _) rfl (by kernel_rfl) (by kernel_rfl) (by kernel_rfl) (fun _ _ _ h => h) (Or.inl ⟨by rfl, ?_⟩) hHeld ?_
        rotate_left
        · (intro w hSw; (try dsimp only at hSw); go_simp; try with_reducible rfl)
        try simp only [Act.put, List.setIfInBounds_toArray, List.set_cons_zero, List.set_cons_succ, List.getElem_toArray, List.getElem_cons_succ, List.getElem_cons_zero]
        refine wpAnyH_ready (rs := [8]) (by kernel_rfl) (by simp) ?_
        refine AllReadyH.cons (o := _) rfl (fun K hK => ?_) AllReadyH.nil
        try simp only [List.getElem_toArray, List.getElem_cons_succ, List.getElem_cons_zero]
        go_simp
        have hH2 := hHeld
        obtain ⟨fz, fb, bx⟩ := hH2
        refine (P2.out _).mono ?_
        rintro e w1008 ⟨rfl, hg⟩
        have L8 := hid (show (BytesAt w1008 (.slice (some ⟨w1.heap.size + 1, 0, none⟩) m m) (List.replicate m 0)) ∧ (BytesAt w1008 (.slice (some ⟨w1.heap.size, 0, none⟩) 2 2) [kb, nb]) ∧ (Rk w CS w1008) from ⟨fz.grown hg (by simp), fb.grown hg (by simp), bx.grown hg⟩)
        clear hHeld hg fz fb bx
        go_wp2_with fail
        refine hK.out _ _ ?_ (fun hHeld => ?_)
        · exact L8.out
        clear hK K
        try dsimp only at hHeld
        try simp only [Act.put, List.setIfInBounds_toArray, List.set_cons_zero, List.set_cons_succ, List.getElem_toArray, List.getElem_cons_succ, List.getElem_cons_zero]
        refine' wpAnyH_take (i := 9) (v := _) rfl (by kernel_rfl) (by kernel_rfl) (by kernel_rfl) (fun _ _ _ h => h) (Or.inl ⟨by rfl, ?_⟩) hHeld ?_
        rotate_left
        · (intro w hSw; (try dsimp only at hSw); go_simp; try with_reducible rfl)
        try simp only [Act.put, List.setIfInBounds_toArray, List.set_cons_zero, List.set_cons_succ, List.getElem_toArray, List.getElem_cons_succ, List.getElem_cons_zero]
        refine' wpAnyH_take (i := 10) (v := _) rfl (by kernel_rfl) (by kernel_rfl) (by kernel_rfl) (fun _ _ _ h => h) (Or.inl ⟨by rfl, ?_⟩) hHeld ?_
        rotate_left
        · (intro w hSw; (try dsimp only at hSw); go_simp; try with_reducible rfl)
        try simp only [Act.put, List.setIfInBounds_toArray, List.set_cons_zero, List.set_cons_succ, List.getElem_toArray, List.getElem_cons_succ, List.getElem_cons_zero]
        refine' wpAnyH_take (i := 20) (v := _) rfl (by kernel_rfl) (by kernel_rfl) (by kernel_rfl) (fun _ _ _ h => h) (Or.inl ⟨by rfl, ?_⟩) hHeld ?_
        rotate_left
        · (intro w hSw; (try dsimp only at hSw); go_simp; try with_reducible rfl)
        try simp only [Act.put, List.setIfInBounds_toArray, List.set_cons_zero, List.set_cons_succ, List.getElem_toArray, List.getElem_cons_succ, List.getElem_cons_zero]
        refine' wpAnyH_take (i := 23) (v := _) rfl (by kernel_rfl) (by kernel_rfl) (by kernel_rfl) (fun _ _ _ h => h) (Or.inl ⟨by rfl, ?_⟩) hHeld ?_
        rotate_left
        · (intro w hSw; (try dsimp only at hSw); go_simp; try with_reducible rfl)
        try simp only [Act.put, List.setIfInBounds_toArray, List.set_cons_zero, List.set_cons_succ, List.getElem_toArray, List.getElem_cons_succ, List.getElem_cons_zero]
        refine' wpAnyH_take (i := 30) (v := _) rfl (by kernel_rfl) (by kernel_rfl) (by kernel_rfl) (fun _ _ _ h => h) (Or.inl ⟨by rfl, ?_⟩) hHeld ?_
        rotate_left
        · (intro w hSw; (try dsimp only at hSw); go_simp; try with_reducible rfl)
        try simp only [Act.put, List.setIfInBounds_toArray, List.set_cons_zero, List.set_cons_succ, List.getElem_toArray, List.getElem_cons_succ, List.getElem_cons_zero]
        refine' wpAnyH_take (i := 31) (v := _) rfl (by kernel_rfl) (by kernel_rfl) (by kernel_rfl) (fun _ _ _ h => h) (Or.inl ⟨by rfl, ?_⟩) hHeld ?_
        rotate_left
        · (intro w hSw; (try dsimp only at hSw); go_simp; try with_reducible rfl)
        try simp only [Act.put, List.setIfInBounds_toArray, List.set_cons_zero, List.set_cons_succ, List.getElem_toArray, List.getElem_cons_succ, List.getElem_cons_zero]
        refine wpAnyH_done (by kernel_rfl) ?_ _
        obtain ⟨fz, fb, bx⟩ := hHeld
        have BX := hid bx; clear fz fb bx
        go_wp2_with fail
        go_meet
        exact ⟨congrArg Value.string HE1.out, BX.out⟩
    · have hH2 := hHeld
      have bx := hH2
      have hmk := HMK.out (w1.drew)
      have hg : (w1.drew).grownBy ((w1.alloc OZ).drew) none := World.grownBy_alloc (w1.drew) _ _
      have L28 := hid (show (Rk w CS ((w1.alloc OZ).drew)) from (bx.grown hg))
      have Nfz := hid (show BytesAt ((w1.alloc OZ).drew) (.slice (some ⟨w1.heap.size, 0, none⟩) m m) (List.replicate m 0) from HZ.out (w1.drew))
      clear hHeld hg bx
      try simp only [List.getElem_toArray, List.getElem_cons_succ, List.getElem_cons_zero]
      go_simp
      refine hK.out _ _ ?_ (fun hHeld => ?_)
      · exact L28.out
      clear hK K
      try dsimp only at hHeld
      try simp only [Act.put, List.setIfInBounds_toArray, List.set_cons_zero, List.set_cons_succ, List.getElem_toArray, List.getElem_cons_succ, List.getElem_cons_zero]
      refine held_stronger (S' := fun w' => (fun w' => BytesAt w' (.slice (some ⟨w1.heap.size, 0, none⟩) m m) (List.replicate m 0)) w' ∧ ((fun w' => (Rk w CS w'))) w') (fun _ h => h.2) _ _ _ _ ?_
      replace hHeld := And.intro Nfz.out hHeld
      try dsimp only at hHeld
      refine' wpAnyH_take (i := 29) (v := _) rfl (by kernel_rfl) (by kernel_rfl) (by kernel_rfl) (fun _ _ _ h => h) (Or.inl ⟨by rfl, ?_⟩) hHeld ?_
      rotate_left
      · (intro w hSw; (try dsimp only at hSw); obtain ⟨fz, bx⟩ := hSw; have cv := conv_bytes fz; go_simp; try with_reducible rfl)
      try simp only [Act.put, List.setIfInBounds_toArray, List.set_cons_zero, List.set_cons_succ, List.getElem_toArray, List.getElem_cons_succ, List.getElem_cons_zero]
      refine wpAnyH_ready (rs := [3, 18]) (by kernel_rfl) (by simp) ?_
      refine AllReadyH.cons (o := _) rfl (fun K hK => ?_) (AllReadyH.cons (o := _) rfl (fun K hK => ?_) AllReadyH.nil)
      · try simp only [List.getElem_toArray, List.getElem_cons_succ, List.getElem_cons_zero]
        go_simp
        have hH2 := hHeld
        obtain ⟨fz, bx⟩ := hH2
        refine (P1.out _).mono ?_
        rintro e w1003 ⟨rfl, hg⟩
        have L3 := hid (show (BytesAt w1003 (.slice (some ⟨w1.heap.size, 0, none⟩) m m) (List.replicate m 0)) ∧ (Rk w CS w1003) from ⟨fz.grown hg (by simp), bx.grown hg⟩)
        clear hHeld hg fz bx
        go_wp2_with fail
        refine hK.out _ _ ?_ (fun hHeld => ?_)
        · exact L3.out
        clear hK K
        try dsimp only at hHeld
        try simp only [Act.put, List.setIfInBounds_toArray, List.set_cons_zero, List.set_cons_succ, List.getElem_toArray, List.getElem_cons_succ, List.getElem_cons_zero]
        refine' wpAnyH_take (i := 4) (v := _) rfl (by kernel_rfl) (by kernel_rfl) (by kernel_rfl) (fun _ _ _ h => h) (Or.inl ⟨by rfl, ?_⟩) hHeld ?_
        rotate_left
        · (intro w hSw; (try dsimp only at hSw); go_simp; try with_reducible rfl)
        try simp only [Act.put, List.setIfInBounds_toArray, List.set_cons_zero, List.set_cons_succ, List.getElem_toArray, List.getElem_cons_succ, List.getElem_cons_zero]
        refine wpAnyH_ready (rs := [8, 18]) (by kernel_rfl) (by simp) ?_
        refine AllReadyH.cons (o := _) rfl (fun K hK => ?_) (AllReadyH.cons (o := _) rfl (fun K hK => ?_) AllReadyH.nil)
        · try simp only [List.getElem_toArray, List.getElem_cons_succ, List.getElem_cons_zero]
          go_simp
          have hH2 := hHeld
          obtain ⟨fz, bx⟩ := hH2
          refine (P2.out _).mono ?_
          rintro e w1008 ⟨rfl, hg⟩
          have L8 := hid (show (BytesAt w1008 (.slice (some ⟨w1.heap.size, 0, none⟩) m m) (List.replicate m 0)) ∧ (Rk w CS w1008) from ⟨fz.grown hg (by simp), bx.grown hg⟩)
          clear hHeld hg fz bx
          go_wp2_with fail
          refine hK.out _ _ ?_ (fun hHeld => ?_)
          · exact L8.out
          clear hK K
          try dsimp only at hHeld
          try simp only [Act.put, List.setIfInBounds_toArray, List.set_cons_zero, List.set_cons_succ, List.getElem_toArray, List.getElem_cons_succ, List.getElem_cons_zero]
          refine' wpAnyH_take (i := 9) (v := _) rfl (by kernel_rfl) (by kernel_rfl) (by kernel_rfl) (fun _ _ _ h => h) (Or.inl ⟨by rfl, ?_⟩) hHeld ?_
          rotate_left
          · (intro w hSw; (try dsimp only at hSw); go_simp; try with_reducible rfl)
          try simp only [Act.put, List.setIfInBounds_toArray, List.set_cons_zero, List.set_cons_succ, List.getElem_toArray, List.getElem_cons_succ, List.getElem_cons_zero]
          refine' wpAnyH_take (i := 10) (v := _) rfl (by kernel_rfl) (by kernel_rfl) (by kernel_rfl) (fun _ _ _ h => h) (Or.inl ⟨by rfl, ?_⟩) hHeld ?_
          rotate_left
          · (intro w hSw; (try dsimp only at hSw); go_simp; try with_reducible rfl)
          try simp only [Act.put, List.setIfInBounds_toArray, List.set_cons_zero, List.set_cons_succ, List.getElem_toArray, List.getElem_cons_succ, List.getElem_cons_zero]
          refine wpAnyH_ready (rs := [18]) (by kernel_rfl) (by simp) ?_
          refine AllReadyH.cons (o := _) rfl (fun K hK => ?_) AllReadyH.nil
          have hH2 := hHeld
          obtain ⟨fz, bx⟩ := hH2
          have hg : (w1008).grownBy (w1008.alloc (.cells #[.int .u8 (kb.toNat : Int), .int .u8 (nb.toNat : Int)] 5)) none := World.grownBy_alloc (w1008) _ _
          have L18 := hid (show (BytesAt (w1008.alloc (.cells #[.int .u8 (kb.toNat : Int), .int .u8 (nb.toNat : Int)] 5)) (.slice (some ⟨w1.heap.size, 0, none⟩) m m) (List.replicate m 0)) ∧ (Rk w CS (w1008.alloc (.cells #[.int .u8 (kb.toNat : Int), .int .u8 (nb.toNat : Int)] 5))) from ⟨fz.grown hg (by simp), bx.grown hg⟩)
          have Nfb := hid (show BytesAt (w1008.alloc (.cells #[.int .u8 (kb.toNat : Int), .int .u8 (nb.toNat : Int)] 5)) (.slice (some ⟨w1008.heap.size, 0, none⟩) 2 2) [kb, nb] from (own_block [kb, nb] (at_new (w1008) _) (by unfold maxLen; simp) (Nat.le_refl _)).bytes)
          clear hHeld hg fz bx
          try simp only [List.getElem_toArray, List.getElem_cons_succ, List.getElem_cons_zero]
          go_simp
          refine hK.out _ _ ?_ (fun hHeld => ?_)
          · exact L18.out
          clear hK K
          try dsimp only at hHeld
          try simp only [Act.put, List.setIfInBounds_toArray, List.set_cons_zero, List.set_cons_succ, List.getElem_toArray, List.getElem_cons_succ, List.getElem_cons_zero]
          refine held_stronger (S' := fun w' => (fun w' => BytesAt w' (.slice (some ⟨w1008.heap.size, 0, none⟩) 2 2) [kb, nb]) w' ∧ ((fun w' => (BytesAt w' (.slice (some ⟨w1.heap.size, 0, none⟩) m m) (List.replicate m 0)) ∧ (Rk w CS w'))) w') (fun _ h => h.2) _ _ _ _ ?_
          replace hHeld := And.intro Nfb.out hHeld
          try dsimp only at hHeld
          refine' wpAnyH_take (i := 19) (v := _) rfl (by kernel_rfl) (by kernel_rfl) (by kernel_rfl) (fun _ _ _ h => h) (Or.inl ⟨by rfl, ?_⟩) hHeld ?_
          rotate_left
          · (intro w hSw; (try dsimp only at hSw); obtain ⟨fb, fz, bx⟩ := hSw; have cv := conv_bytes fb; go_simp; try with_reducible rfl)
          try simp only [Act.put, List.setIfInBounds_toArray, List.set_cons_zero, List.set_cons_succ, List.getElem_toArray, List.getElem_cons_succ, List.getElem_cons_zero]
          refine' wpAnyH_take (i := 20) (v := _) rfl (by kernel_rfl) (by kernel_rfl) (by kernel_rfl) (fun _ _ _ h => h) (Or.inl ⟨by rfl, ?_⟩) hHeld ?_
          rotate_left
          · (intro w hSw; (try dsimp only at hSw); go_simp; try with_reducible rfl)
          try simp only [Act.put, List.setIfInBounds_toArray, List.set_cons_zero, List.set_cons_succ, List.getElem_toArray, List.getElem_cons_succ, List.getElem_cons_zero]
          refine' wpAnyH_take (i := 23) (v := _) rfl (by kernel_rfl) (by kernel_rfl) (by kernel_rfl) (fun _ _ _ h => h) (Or.inl ⟨by rfl, ?_⟩) hHeld ?_
          rotate_left
          · (intro w hSw; (try dsimp only at hSw); go_simp; try with_reducible rfl)
          try simp only [Act.put, List.setIfInBounds_toArray, List.set_cons_zero, List.set_cons_succ, List.getElem_toArray, List.getElem_cons_succ, List.getElem_cons_zero]
          refine' wpAnyH_take (i := 30) (v := _) rfl (by kernel_rfl) (by kernel_rfl) (by kernel_rfl) (fun _ _ _ h => h) (Or.inl ⟨by rfl, ?_⟩) hHeld ?_
          rotate_left
          · (intro w hSw; (try dsimp only at hSw); go_simp; try with_reducible rfl)
          try simp only [Act.put, List.setIfInBounds_toArray, List.set_cons_zero, List.set_cons_succ, List.getElem_toArray, List.getElem_cons_succ, List.getElem_cons_zero]
          refine' wpAnyH_take (i := 31) (v := _) rfl (by kernel_rfl) (by kernel_rfl) (by kernel_rfl) (fun _ _ _ h => h) (Or.inl ⟨by rfl, ?_⟩) hHeld ?_
          rotate_left
          · (intro w hSw; (try dsimp only at hSw); go_simp; try with_reducible rfl)
          try simp only [Act.put, List.setIfInBounds_toArray, List.set_cons_zero, List.set_cons_succ, List.getElem_toArray, List.getElem_cons_succ, List.getElem_cons_zero]
          refine wpAnyH_done (by kernel_rfl) ?_ _
          obtain ⟨fb, fz, bx⟩ := hHeld
          have BX := hid bx; clear fb fz bx
          go_wp2_with fail
          go_meet
          exact ⟨congrArg Value.string HE1.out, BX.out⟩
        · have hH2 := hHeld
          obtain ⟨fz, bx⟩ := hH2
          have hg : (w1003).grownBy (w1003.alloc (.cells #[.int .u8 (kb.toNat : Int), .int .u8 (nb.toNat : Int)] 5)) none := World.grownBy_alloc (w1003) _ _
          have L18 := hid (show (BytesAt (w1003.alloc (.cells #[.int .u8 (kb.toNat : Int), .int .u8 (nb.toNat : Int)] 5)) (.slice (some ⟨w1.heap.size, 0, none⟩) m m) (List.replicate m 0)) ∧ (Rk w CS (w1003.alloc (.cells #[.int .u8 (kb.toNat : Int), .int .u8 (nb.toNat : Int)] 5))) from ⟨fz.grown hg (by simp), bx.grown hg⟩)
          have Nfb := hid (show BytesAt (w1003.alloc (.cells #[.int .u8 (kb.toNat : Int), .int .u8 (nb.toNat : Int)] 5)) (.slice (some ⟨w1003.heap.size, 0, none⟩) 2 2) [kb, nb] from (own_block [kb, nb] (at_new (w1003) _) (by unfold maxLen; simp) (Nat.le_refl _)).bytes)
          clear hHeld hg fz bx
          try simp only [List.getElem_toArray, List.getElem_cons_succ, List.getElem_cons_zero]
          go_simp
          refine hK.out _ _ ?_ (fun hHeld => ?_)
          · exact L18.out
          clear hK K
          try dsimp only at hHeld
          try simp only [Act.put, List.setIfInBounds_toArray, List.set_cons_zero, List.set_cons_succ, List.getElem_toArray, List.getElem_cons_succ, List.getElem_cons_zero]
          refine held_stronger (S' := fun w' => (fun w' => BytesAt w' (.slice (some ⟨w1003.heap.size, 0, none⟩) 2 2) [kb, nb]) w' ∧ ((fun w' => (BytesAt w' (.slice (some ⟨w1.heap.size, 0, none⟩) m m) (List.replicate m 0)) ∧ (Rk w CS w'))) w') (fun _ h => h.2) _ _ _ _ ?_
          replace hHeld := And.intro Nfb.out hHeld
          try dsimp only at hHeld
          refine' wpAnyH_take (i := 19) (v := _) rfl (by kernel_rfl) (by kernel_rfl) (by kernel_rfl) (fun _ _ _ h => h) (Or.inl ⟨by rfl, ?_⟩) hHeld ?_
          rotate_left
          · (intro w hSw; (try dsimp only at hSw); obtain ⟨fb, fz, bx⟩ := hSw; have cv := conv_bytes fb; go_simp; try with_reducible rfl)
          try simp only [Act.put, List.setIfInBounds_toArray, List.set_cons_zero, List.set_cons_succ, List.getElem_toArray, List.getElem_cons_succ, List.getElem_cons_zero]
          refine wpAnyH_ready (rs := [8]) (by kernel_rfl) (by simp) ?_
          refine AllReadyH.cons (o := _) rfl (fun K hK => ?_) AllReadyH.nil
          try simp only [List.getElem_toArray, List.getElem_cons_succ, List.getElem_cons_zero]
          go_simp
          have hH2 := hHeld
          obtain ⟨fb, fz, bx⟩ := hH2
          refine (P2.out _).mono ?_
          rintro e w1008 ⟨rfl, hg⟩
          have L8 := hid (show (BytesAt w1008 (.slice (some ⟨w1003.heap.size, 0, none⟩) 2 2) [kb, nb]) ∧ (BytesAt w1008 (.slice (some ⟨w1.heap.size, 0, none⟩) m m) (List.replicate m 0)) ∧ (Rk w CS w1008) from ⟨fb.grown hg (by simp), fz.grown hg (by simp), bx.grown hg⟩)
          clear hHeld hg fb fz bx
          go_wp2_with fail
          refine hK.out _ _ ?_ (fun hHeld => ?_)
          · exact L8.out
          clear hK K
          try dsimp only at hHeld
          try simp only [Act.put, List.setIfInBounds_toArray, List.set_cons_zero, List.set_cons_succ, List.getElem_toArray, List.getElem_cons_succ, List.getElem_cons_zero]
          refine' wpAnyH_take (i := 9) (v := _) rfl (by kernel_rfl) (by kernel_rfl) (by kernel_rfl) (fun _ _ _ h => h) (Or.inl ⟨by rfl, ?_⟩) hHeld ?_
          rotate_left
          · (intro w hSw; (try dsimp only at hSw); go_simp; try with_reducible rfl)
          try simp only [Act.put, List.setIfInBounds_toArray, List.set_cons_zero, List.set_cons_succ, List.getElem_toArray, List.getElem_cons_succ, List.getElem_cons_zero]
          refine' wpAnyH_take (i := 10) (v := _) rfl (by kernel_rfl) (by kernel_rfl) (by kernel_rfl) (fun _ _ _ h => h) (Or.inl ⟨by rfl, ?_⟩) hHeld ?_
          rotate_left
          · (intro w hSw; (try dsimp only at hSw); go_simp; try with_reducible rfl)
          try simp only [Act.put, List.setIfInBounds_toArray, List.set_cons_zero, List.set_cons_succ, List.getElem_toArray, List.getElem_cons_succ, List.getElem_cons_zero]
          refine' wpAnyH_take (i := 20) (v := _) rfl (by kernel_rfl) (by kernel_rfl) (by kernel_rfl) (fun _ _ _ h => h) (Or.inl ⟨by rfl, ?_⟩) hHeld ?_
          rotate_left
          · (intro w hSw; (try dsimp only at hSw); go_simp; try with_reducible rfl)
          try simp only [Act.put, List.setIfInBounds_toArray, List.set_cons_zero, List.set_cons_succ, List.getElem_toArray, List.getElem_cons_succ, List.getElem_cons_zero]
          refine' wpAnyH_take (i := 23) (v := _) rfl (by kernel_rfl) (by kernel_rfl) (by kernel_rfl) (fun _ _ _ h => h) (Or.inl ⟨by rfl, ?_⟩) hHeld ?_
          rotate_left
          · (intro w hSw; (try dsimp only at hSw); go_simp; try with_reducible rfl)
          try simp only [Act.put, List.setIfInBounds_toArray, List.set_cons_zero, List.set_cons_succ, List.getElem_toArray, List.getElem_cons_succ, List.getElem_cons_zero]
          refine' wpAnyH_take (i := 30) (v := _) rfl (by kernel_rfl) (by kernel_rfl) (by kernel_rfl) (fun _ _ _ h => h) (Or.inl ⟨by rfl, ?_⟩) hHeld ?_
          rotate_left
          · (intro w hSw; (try dsimp only at hSw); go_simp; try with_reducible rfl)
          try simp only [Act.put, List.setIfInBounds_toArray, List.set_cons_zero, List.set_cons_succ, List.getElem_toArray, List.getElem_cons_succ, List.getElem_cons_zero]
          refine' wpAnyH_take (i := 31) (v := _) rfl (by kernel_rfl) (by kernel_rfl) (by kernel_rfl) (fun _ _ _ h => h) (Or.inl ⟨by rfl, ?_⟩) hHeld ?_
          rotate_left
          · (intro w hSw; (try dsimp only at hSw); go_simp; try with_reducible rfl)
          try simp only [Act.put, List.setIfInBounds_toArray, List.set_cons_zero, List.set_cons_succ, List.getElem_toArray, List.getElem_cons_succ, List.getElem_cons_zero]
          refine wpAnyH_done (by kernel_rfl) ?_ _
          obtain ⟨fb, fz, bx⟩ := hHeld
          have BX := hid bx; clear fb fz bx
          go_wp2_with fail
          go_meet
          exact ⟨congrArg Value.string HE1.out, BX.out⟩
      · have hH2 := hHeld
        obtain ⟨fz, bx⟩ := hH2
        have hg : (((w1.alloc OZ).drew)).grownBy (((w1.alloc OZ).drew).alloc (.cells #[.int .u8 (kb.toNat : Int), .int .u8 (nb.toNat : Int)] 5)) none := World.grownBy_alloc (((w1.alloc OZ).drew)) _ _
        have L18 := hid (show (BytesAt (((w1.alloc OZ).drew).alloc (.cells #[.int .u8 (kb.toNat : Int), .int .u8 (nb.toNat : Int)] 5)) (.slice (some ⟨w1.heap.size, 0, none⟩) m m) (List.replicate m 0)) ∧ (Rk w CS (((w1.alloc OZ).drew).alloc (.cells #[.int .u8 (kb.toNat : Int), .int .u8 (nb.toNat : Int)] 5))) from ⟨fz.grown hg (by simp), bx.grown hg⟩)
        have Nfb := hid (show BytesAt (((w1.alloc OZ).drew).alloc (.cells #[.int .u8 (kb.toNat : Int), .int .u8 (nb.toNat : Int)] 5)) (.slice (some ⟨w1.heap.size + 1, 0, none⟩) 2 2) [kb, nb] from (by have h := (own_block [kb, nb] (at_new (((w1.alloc OZ).drew)) _) (by unfold maxLen; simp) (Nat.le_refl _)).bytes; rw [show (((w1.alloc OZ).drew)).heap.size = w1.heap.size + 1 from alloc_size _ _] at h; exact h))
        clear hHeld hg fz bx
        try simp only [List.getElem_toArray, List.getElem_cons_succ, List.getElem_cons_zero]
        go_simp
        refine hK.out _ _ ?_ (fun hHeld => ?_)
        · exact L18.out
        clear hK K
        try dsimp only at hHeld
        try simp only [Act.put, List.setIfInBounds_toArray, List.set_cons_zero, List.set_cons_succ, List.getElem_toArray, List.getElem_cons_succ, List.getElem_cons_zero]
        refine held_stronger (S' := fun w' => (fun w' => BytesAt w' (.slice (some ⟨w1.heap.size + 1, 0, none⟩) 2 2) [kb, nb]) w' ∧ ((fun w' => (BytesAt w' (.slice (some ⟨w1.heap.size, 0, none⟩) m m) (List.replicate m 0)) ∧ (Rk w CS w'))) w') (fun _ h => h.2) _ _ _ _ ?_
        replace hHeld := And.intro Nfb.out hHeld
        try dsimp only at hHeld
        refine' wpAnyH_take (i := 19) (v := _) rfl (by kernel_rfl) (by kernel_rfl) (by kernel_rfl) (fun _ _ _ h => h) (Or.inl ⟨by rfl, ?_⟩) hHeld ?_
        rotate_left
        · (intro w hSw; (try dsimp only at hSw); obtain ⟨fb, fz, bx⟩ := hSw; have cv := conv_bytes fb; go_simp; try with_reducible rfl)
        try simp only [Act.put, List.setIfInBounds_toArray, List.set_cons_zero, List.set_cons_succ, List.getElem_toArray, List.getElem_cons_succ, List.getElem_cons_zero]
        refine wpAnyH_ready (rs := [3]) (by kernel_rfl) (by simp) ?_
        refine AllReadyH.cons (o := _) rfl (fun K hK => ?_) AllReadyH.nil
        try simp only [List.getElem_toArray, List.getElem_cons_succ, List.getElem_cons_zero]
        go_simp
        have hH2 := hHeld
        obtain ⟨fb, fz, bx⟩ := hH2
        refine (P1.out _).mono ?_
        rintro e w1003 ⟨rfl, hg⟩
        have L3 := hid (show (BytesAt w1003 (.slice (some ⟨w1.heap.size + 1, 0, none⟩) 2 2) [kb, nb]) ∧ (BytesAt w1003 (.slice (some ⟨w1.heap.size, 0, none⟩) m m) (List.replicate m 0)) ∧ (Rk w CS w1003) from ⟨fb.grown hg (by simp), fz.grown hg (by simp), bx.grown hg⟩)
        clear hHeld hg fb fz bx
        go_wp2_with fail
        refine hK.out _ _ ?_ (fun hHeld => ?_)
        · exact L3.out
        clear hK K
        try dsimp only at hHeld
        try simp only [Act.put, List.setIfInBounds_toArray, List.set_cons_zero, List.set_cons_succ, List.getElem_toArray, List.getElem_cons_succ, List.getElem_cons_zero]
        refine' wpAnyH_take (i := 4) (v := _) rfl (by kernel_rfl) (by kernel_rfl) (by kernel_rfl) (fun _ _ _ h => h) (Or.inl ⟨by rfl, ?_⟩) hHeld ?_
        rotate_left
        · (intro w hSw; (try dsimp only at hSw); go_simp; try with_reducible rfl)
        try simp only [Act.put, List.setIfInBounds_toArray, List.set_cons_zero, List.set_cons_succ, List.getElem_toArray, List.getElem_cons_succ, List.getElem_cons_zero]
        refine wpAnyH_ready (rs := [8]) (by kernel_rfl) (by simp) ?_
        refine AllReadyH.cons (o := _) rfl (fun K hK => ?_) AllReadyH.nil
        try simp only [List.getElem_toArray, List.getElem_cons_succ, List.getElem_cons_zero]
        go_simp
        have hH2 := hHeld
        obtain ⟨fb, fz, bx⟩ := hH2
        refine (P2.out _).mono ?_
        rintro e w1008 ⟨rfl, hg⟩
        have L8 := hid (show (BytesAt w1008 (.slice (some ⟨w1.heap.size + 1, 0, none⟩) 2 2) [kb, nb]) ∧ (BytesAt w1008 (.slice (some ⟨w1.heap.size, 0, none⟩) m m) (List.replicate m 0)) ∧ (Rk w CS w1008) from ⟨fb.grown hg (by simp), fz.grown hg (by simp), bx.grown hg⟩)
        clear hHeld hg fb fz bx
        go_wp2_with fail
        refine hK.out _ _ ?_ (fun hHeld => ?_)
        · exact L8.out
        clear hK K
        try dsimp only at hHeld
        try simp only [Act.put, List.setIfInBounds_toArray, List.set_cons_zero, List.set_cons_succ, List.getElem_toArray, List.getElem_cons_succ, List.getElem_cons_zero]
        refine' wpAnyH_take (i := 9) (v := _) rfl (by kernel_rfl) (by kernel_rfl) (by kernel_rfl) (fun _ _ _ h => h) (Or.inl ⟨by rfl, ?_⟩) hHeld ?_
        rotate_left
        · (intro w hSw; (try dsimp only at hSw); go_simp; try with_reducible rfl)
        try simp only [Act.put, List.setIfInBounds_toArray, List.set_cons_zero, List.set_cons_succ, List.getElem_toArray, List.getElem_cons_succ, List.getElem_cons_zero]
        refine' wpAnyH_take (i := 10) (v := _) rfl (by kernel_rfl) (by kernel_rfl) (by kernel_rfl) (fun _ _ _ h => h) (Or.inl ⟨by rfl, ?_⟩) hHeld ?_
        rotate_left
        · (intro w hSw; (try dsimp only at hSw); go_simp; try with_reducible rfl)
        try simp only [Act.put, List.setIfInBounds_toArray, List.set_cons_zero, List.set_cons_succ, List.getElem_toArray, List.getElem_cons_succ, List.getElem_cons_zero]
        refine' wpAnyH_take (i := 20) (v := _) rfl (by kernel_rfl) (by kernel_rfl) (by kernel_rfl) (fun _ _ _ h => h) (Or.inl ⟨by rfl, ?_⟩) hHeld ?_
        rotate_left
        · (intro w hSw; (try dsimp only at hSw); go_simp; try with_reducible rfl)
        try simp only [Act.put, List.setIfInBounds_toArray, List.set_cons_zero, List.set_cons_succ, List.getElem_toArray, List.getElem_cons_succ, List.getElem_cons_zero]
        refine' wpAnyH_take (i := 23) (v := _) rfl (by kernel_rfl) (by kernel_rfl) (by kernel_rfl) (fun _ _ _ h => h) (Or.inl ⟨by rfl, ?_⟩) hHeld ?_
        rotate_left
        · (intro w hSw; (try dsimp only at hSw); go_simp; try with_reducible rfl)
        try simp only [Act.put, List.setIfInBounds_toArray, List.set_cons_zero, List.set_cons_succ, List.getElem_toArray, List.getElem_cons_succ, List.getElem_cons_zero]
        refine' wpAnyH_take (i := 30) (v := _) rfl (by kernel_rfl) (by kernel_rfl) (by kernel_rfl) (fun _ _ _ h => h) (Or.inl ⟨by rfl, ?_⟩) hHeld ?_
        rotate_left
        · (intro w hSw; (try dsimp only at hSw); go_simp; try with_reducible rfl)
        try simp only [Act.put, List.setIfInBounds_toArray, List.set_cons_zero, List.set_cons_succ, List.getElem_toArray, List.getElem_cons_succ, List.getElem_cons_zero]
        refine' wpAnyH_take (i := 31) (v := _) rfl (by kernel_rfl) (by kernel_rfl) (by kernel_rfl) (fun _ _ _ h => h) (Or.inl ⟨by rfl, ?_⟩) hHeld ?_
        rotate_left
        · (intro w hSw; (try dsimp only at hSw); go_simp; try with_reducible rfl)
        try simp only [Act.put, List.setIfInBounds_toArray, List.set_cons_zero, List.set_cons_succ, List.getElem_toArray, List.getElem_cons_succ, List.getElem_cons_zero]
        refine wpAnyH_done (by kernel_rfl) ?_ _
        obtain ⟨fb, fz, bx⟩ := hHeld
        have BX := hid bx; clear fb fz bx
        go_wp2_with fail
        go_meet
        exact ⟨congrArg Value.string HE1.out, BX.out⟩
  case rest =>
    obtain ⟨rfl, hr⟩ := hcut
    have B4 := hid hr
    clear hr B
    go_wp2_with fail
    refine wp_region_held_drew (S := (fun w' => (Rk w CS w'))) (by kernel_rfl) B4.out.drew (fun hHeld => ?_)
    try dsimp only at hHeld
    refine' wpAnyH_take (i := 0) (v := _) rfl (by kernel_rfl) (by kernel_rfl) (by kernel_rfl) (fun _ _ _ h => h) (Or.inl ⟨by rfl, ?_⟩) hHeld ?_
    rotate_left
    · (intro w hSw; (try dsimp only at hSw); go_simp; try with_reducible rfl)
    try simp only [Act.put, List.setIfInBounds_toArray, List.set_cons_zero, List.set_cons_succ, List.getElem_toArray, List.getElem_cons_succ, List.getElem_cons_zero]
    refine' wpAnyH_take (i := 1) (v := _) rfl (by kernel_rfl) (by kernel_rfl) (by kernel_rfl) (fun _ _ _ h => h) (Or.inl ⟨by rfl, ?_⟩) hHeld ?_
    rotate_left
    · (intro w hSw; (try dsimp only at hSw); go_simp; try with_reducible rfl)
    try simp only [Act.put, List.setIfInBounds_toArray, List.set_cons_zero, List.set_cons_succ, List.getElem_toArray, List.getElem_cons_succ, List.getElem_cons_zero]
    refine' wpAnyH_take (i := 7) (v := _) rfl (by kernel_rfl) (by kernel_rfl) (by kernel_rfl) (fun _ _ _ h => h) (Or.inl ⟨by rfl, ?_⟩) hHeld ?_
    rotate_left
    · (intro w hSw; (try dsimp only at hSw); go_simp; try with_reducible rfl)
    try simp only [Act.put, List.setIfInBounds_toArray, List.set_cons_zero, List.set_cons_succ, List.getElem_toArray, List.getElem_cons_succ, List.getElem_cons_zero]
    refine' wpAnyH_take (i := 8) (v := _) rfl (by kernel_rfl) (by kernel_rfl) (by kernel_rfl) (fun _ _ _ h => h) (Or.inl ⟨by rfl, ?_⟩) hHeld ?_
    rotate_left
    · (intro w hSw; (try dsimp only at hSw); have bx := hSw; rw [← HC.out] at bx; obtain ⟨d0, d1, d2, d3⟩ := bx.cells; go_simp; try with_reducible rfl)
    try simp only [Act.put, List.setIfInBounds_toArray, List.set_cons_zero, List.set_cons_succ, List.getElem_toArray, List.getElem_cons_succ, List.getElem_cons_zero]
    refine wpAnyH_ready (rs := [2]) (by kernel_rfl) (by simp) ?_
    refine AllReadyH.cons (o := _) rfl (fun K hK => ?_) AllReadyH.nil
    try simp only [List.getElem_toArray, List.getElem_cons_succ, List.getElem_cons_zero]
    go_simp
    have hH2 := hHeld
    have bx := hH2
    refine (P3.out _).mono ?_
    rintro e w1002 ⟨rfl, hg⟩
    have L2 := hid (show (Rk w CS w1002) from (bx.grown hg))
    clear hHeld hg bx
    go_wp2_with fail
    refine hK.out _ _ ?_ (fun hHeld => ?_)
    · exact L2.out
    clear hK K
    try dsimp only at hHeld
    try simp only [Act.put, List.setIfInBounds_toArray, List.set_cons_zero, List.set_cons_succ, List.getElem_toArray, List.getElem_cons_succ, List.getElem_cons_zero]
    refine' wpAnyH_take (i := 3) (v := _) rfl (by kernel_rfl) (by kernel_rfl) (by kernel_rfl) (fun _ _ _ h => h) (Or.inl ⟨by rfl, ?_⟩) hHeld ?_
    rotate_left
    · (intro w hSw; (try dsimp only at hSw); go_simp; try with_reducible rfl)
    try simp only [Act.put, List.setIfInBounds_toArray, List.set_cons_zero, List.set_cons_succ, List.getElem_toArray, List.getElem_cons_succ, List.getElem_cons_zero]
    refine wpAnyH_ready (rs := [4]) (by kernel_rfl) (by simp) ?_
    refine AllReadyH.cons (o := _) rfl (fun K hK => ?_) AllReadyH.nil
    try simp only [List.getElem_toArray, List.getElem_cons_succ, List.getElem_cons_zero]
    go_simp
    have hH2 := hHeld
    have bx := hH2
    refine (P4.out _).mono ?_
    rintro e w1004 ⟨rfl, hg⟩
    have L4 := hid (show (Rk w CS w1004) from (bx.grown hg))
    clear hHeld hg bx
    go_wp2_with fail
    refine hK.out _ _ ?_ (fun hHeld => ?_)
    · exact L4.out
    clear hK K
    try dsimp only at hHeld
    try simp only [Act.put, List.setIfInBounds_toArray, List.set_cons_zero, List.set_cons_succ, List.getElem_toArray, List.getElem_cons_succ, List.getElem_cons_zero]
    refine' wpAnyH_take (i := 5) (v := _) rfl (by kernel_rfl) (by kernel_rfl) (by kernel_rfl) (fun _ _ _ h => h) (Or.inl ⟨by rfl, ?_⟩) hHeld ?_
    rotate_left
    · (intro w hSw; (try dsimp only at hSw); go_simp; try with_reducible rfl)
    try simp only [Act.put, List.setIfInBounds_toArray, List.set_cons_zero, List.set_cons_succ, List.getElem_toArray, List.getElem_cons_succ, List.getElem_cons_zero]
    refine' wpAnyH_take (i := 6) (v := _) rfl (by kernel_rfl) (by kernel_rfl) (by kernel_rfl) (fun _ _ _ h => h) (Or.inl ⟨by rfl, ?_⟩) hHeld ?_
    rotate_left
    · (intro w hSw; (try dsimp only at hSw); go_simp; try with_reducible rfl)
    try simp only [Act.put, List.setIfInBounds_toArray, List.set_cons_zero, List.set_cons_succ, List.getElem_toArray, List.getElem_cons_succ, List.getElem_cons_zero]
    refine wpAnyH_ready (rs := [9]) (by kernel_rfl) (by simp) ?_
    refine AllReadyH.cons (o := _) rfl (fun K hK => ?_) AllReadyH.nil
    try simp only [List.getElem_toArray, List.getElem_cons_succ, List.getElem_cons_zero]
    go_simp
    have hH2 := hHeld
    have bx := hH2
    refine (P5.out _).mono ?_
    rintro e w1009 ⟨rfl, hg⟩
    have L9 := hid (show (Rk w CS w1009) from (bx.grown hg))
    clear hHeld hg bx
    go_wp2_with fail
    refine hK.out _ _ ?_ (fun hHeld => ?_)
    · exact L9.out
    clear hK K
    try dsimp only at hHeld
    try simp only [Act.put, List.setIfInBounds_toArray, List.set_cons_zero, List.set_cons_succ, List.getElem_toArray, List.getElem_cons_succ, List.getElem_cons_zero]
    refine wpAnyH_ready (rs := [10]) (by kernel_rfl) (by simp) ?_
    refine AllReadyH.cons (o := _) rfl (fun K hK => ?_) AllReadyH.nil
    have hH2 := hHeld
    have bx := hH2
    have hg : w1009.grownBy (w1009.alloc (.cells #[.int .u8 0, .int .u8 0, .int .u8 0, .int .u8 (mb.toNat : Int)] 5)) none := World.grownBy_alloc _ _ _
    have L10 := hid (show (Rk w CS (w1009.alloc (.cells #[.int .u8 0, .int .u8 0, .int .u8 0, .int .u8 (mb.toNat : Int)] 5))) from (bx.grown hg))
    have Nfb := hid (show BytesAt (w1009.alloc (.cells #[.int .u8 0, .int .u8 0, .int .u8 0, .int .u8 (mb.toNat : Int)] 5)) (.slice (some ⟨w1009.heap.size, 0, none⟩) 4 4) [0, 0, 0, mb] from (own_block [0, 0, 0, mb] (at_new (w1009) _) (by unfold maxLen; simp) (Nat.le_refl _)).bytes)
    clear hHeld hg bx
    try simp only [List.getElem_toArray, List.getElem_cons_succ, List.getElem_cons_zero]
    go_simp
    refine hK.out _ _ ?_ (fun hHeld => ?_)
    · exact L10.out
    clear hK K
    try dsimp only at hHeld
    try simp only [Act.put, List.setIfInBounds_toArray, List.set_cons_zero, List.set_cons_succ, List.getElem_toArray, List.getElem_cons_succ, List.getElem_cons_zero]
    refine held_stronger (S' := fun w' => (fun w' => BytesAt w' (.slice (some ⟨w1009.heap.size, 0, none⟩) 4 4) [0, 0, 0, mb]) w' ∧ ((fun w' => (Rk w CS w'))) w') (fun _ h => h.2) _ _ _ _ ?_
    replace hHeld := And.intro Nfb.out hHeld
    try dsimp only at hHeld
    refine' wpAnyH_take (i := 11) (v := _) rfl (by kernel_rfl) (by kernel_rfl) (by kernel_rfl) (fun _ _ _ h => h) (Or.inl ⟨by rfl, ?_⟩) hHeld ?_
    rotate_left
    · (intro w hSw; (try dsimp only at hSw); obtain ⟨fb, bx⟩ := hSw; have cv := conv_bytes fb; go_simp; try with_reducible rfl)
    try simp only [Act.put, List.setIfInBounds_toArray, List.set_cons_zero, List.set_cons_succ, List.getElem_toArray, List.getElem_cons_succ, List.getElem_cons_zero]
    refine' wpAnyH_take (i := 12) (v := _) rfl (by kernel_rfl) (by kernel_rfl) (by kernel_rfl) (fun _ _ _ h => h) (Or.inl ⟨by rfl, ?_⟩) hHeld ?_
    rotate_left
    · (intro w hSw; (try dsimp only at hSw); go_simp; try with_reducible rfl)
    try simp only [Act.put, List.setIfInBounds_toArray, List.set_cons_zero, List.set_cons_succ, List.getElem_toArray, List.getElem_cons_succ, List.getElem_cons_zero]
    refine' wpAnyH_take (i := 13) (v := _) rfl (by kernel_rfl) (by kernel_rfl) (by kernel_rfl) (fun _ _ _ h => h) (Or.inl ⟨by rfl, ?_⟩) hHeld ?_
    rotate_left
    · (intro w hSw; (try dsimp only at hSw); go_simp; try with_reducible rfl)
    try simp only [Act.put, List.setIfInBounds_toArray, List.set_cons_zero, List.set_cons_succ, List.getElem_toArray, List.getElem_cons_succ, List.getElem_cons_zero]
    refine' wpAnyH_take (i := 14) (v := _) rfl (by kernel_rfl) (by kernel_rfl) (by kernel_rfl) (fun _ _ _ h => h) (Or.inl ⟨by rfl, ?_⟩) hHeld ?_
    rotate_left
    · (intro w hSw; (try dsimp only at hSw); go_simp; try with_reducible rfl)
    try simp only [Act.put, List.setIfInBounds_toArray, List.set_cons_zero, List.set_cons_succ, List.getElem_toArray, List.getElem_cons_succ, List.getElem_cons_zero]
    refine wpAnyH_done (by kernel_rfl) ?_ _
    obtain ⟨fb, bx⟩ := hHeld
    have BX := hid bx; clear fb bx
    go_wp2_with fail
    go_ret2
    exact ⟨rfl, BX.out.g⟩
end Go.Proofs.Ytjebmlmjbnaghaa
