/-
  Contracts for the document's own messages as bytes. No condition.
  Contracts: whether a message may be, as the program and as the document has it; a message's first eight bytes as a number. No condition.
  Slices of slices of bytes that came in. No condition. Nothing of the program's functions is named here.
  Contracts for slices.Concat and bytes.Clone at bytes: the bytes of all, in a slice of the call's own. The condition: slices that read as bytes, of a modest length together.
  Contract for wire.Put: a message's 32 bytes, in a slice of the call's own; an error of one that may not be. No condition.
  Contracts for wire.Seal and bytes.Clone: a message's bytes and behind them their tag, in a slice of the call's own; an error of one that may not be; bytes copied. No condition.
  Contract for the reader of a message's numbers: the next number, of eight bytes. The condition: the reader's block is as the program makes it, so many bytes are there, elsewhere.
-/
import Derived.Test.YtfhifnhnkgdnlaaGreatZ2
import Derived.Test.YtfhifnhnkgdnlaaGreatZ1
import Derived.Lib.AppendZerosOnto
import Derived.Lib.AppendZeros
import Derived.Lib.SliceRun
section
set_option linter.unusedSimpArgs false
set_option linter.unusedVariables false
namespace Go.Proofs.YtfhifnhnkgdnlaaGreat
set_option maxRecDepth 100000
open Go.RowKit

set_option maxHeartbeats 1600000 in
theorem rput_bad (m : Mg) (hm : mayOf m = false) (w : World) :
    Calls Tryz.prog 48 #[mg m] w fun e w' => e = .returned (.tuple #[.string ⟨#[]⟩, .int .i64 1]) ∧ w.grownBy w' none := by
  have hc := maymsg_any m
  rw [hm] at hc
  have C := hid hc; clear hc hm
  have B := hid (boxm_new w m)
  go_enter Tryz.func48, Tryz.ntmps48
  go_wp2_with (refine wpList_row B.out.box Tryz.underlying39 rfl (by kernel_rfl) rfl rfl rfl rfl ?_)
  refine (C.out _).mono ?_
  rintro e w1 ⟨rfl, hg⟩
  have G := hid hg; clear hg
  go_wp2_with fail
  go_ret2
  exact ⟨rfl, gb_trans (gb_alloc (.refl w none) _) G.out (.inl rfl)⟩

set_option maxHeartbeats 3200000 in
theorem rput_good (m : Mg) (hm : mayOf m = true) (w : World) :
    Calls Tryz.prog 48 #[mg m] w fun e w' => e = .returned (.tuple #[.string ⟨(refPutOf m).toArray⟩, .int .i64 0]) ∧ w.grownBy w' none := by
  have hc := maymsg_any m
  rw [hm] at hc
  have C := hid hc; clear hc hm
  have B0 := hid (boxm_new w m)
  have he : (⟨[1, u8of m.kind, u8of m.who, u8of m.metric].toArray⟩ : ByteArray) ++ (⟨(put8 (w64 m.gen)).toArray⟩ : ByteArray).extract 0 4 ++ ⟨(put8 (w64 m.seq)).toArray⟩ ++ ⟨(put8 (w64 m.epoch)).toArray⟩ ++ ⟨(put8 (w64 m.value)).toArray⟩ = ⟨(refPutOf m).toArray⟩ := by
    apply ByteArray.ext; simp [refPutOf, put8]
  have p1 := fun w => refput_any (w64 m.gen) w
  have p2 := fun w => refput_any (w64 m.seq) w
  have p3 := fun w => refput_any (w64 m.epoch) w
  have p4 := fun w => refput_any (w64 m.value) w
  have z1 : (⟨(put8 (w64 m.gen)).toArray⟩ : ByteArray).size = 8 := rfl
  have z2 : (⟨(put8 (w64 m.seq)).toArray⟩ : ByteArray).size = 8 := rfl
  have z3 : (⟨(put8 (w64 m.epoch)).toArray⟩ : ByteArray).size = 8 := rfl
  have z4 : (⟨(put8 (w64 m.value)).toArray⟩ : ByteArray).size = 8 := rfl
  generalize (⟨(put8 (w64 m.gen)).toArray⟩ : ByteArray) = s1 at he p1 z1
  generalize (⟨(put8 (w64 m.seq)).toArray⟩ : ByteArray) = s2 at he p2 z2
  generalize (⟨(put8 (w64 m.epoch)).toArray⟩ : ByteArray) = s3 at he p3 z3
  generalize (⟨(put8 (w64 m.value)).toArray⟩ : ByteArray) = s4 at he p4 z4
  generalize (⟨(refPutOf m).toArray⟩ : ByteArray) = s5 at he ⊢
  subst he
  have P1 := hid p1; have P2 := hid p2; have P3 := hid p3; have P4 := hid p4; clear p1 p2 p3 p4
  go_enter Tryz.func48, Tryz.ntmps48
  go_wp2_with (refine wpList_row B0.out.box Tryz.underlying39 rfl (by kernel_rfl) rfl rfl rfl rfl ?_)
  refine (C.out _).mono ?_
  rintro e w1 ⟨rfl, hg⟩
  have B := hid (B0.out.grown hg); clear hg B0 C
  have hk := u8of_wrap m.kind; have hw := u8of_wrap m.who; have hmt := u8of_wrap m.metric
  have hgn : IntKind.u64.wrap m.gen = q (w64 m.gen) := q_lit m.gen
  have hs : IntKind.u64.wrap m.seq = q (w64 m.seq) := q_lit m.seq
  have he : IntKind.u64.wrap m.epoch = q (w64 m.epoch) := q_lit m.epoch
  have hv : IntKind.u64.wrap m.value = q (w64 m.value) := q_lit m.value
  go_wp2_with fail
  refine wp_region_held_drew (S := (fun w' => (BoxM w m w'))) (by kernel_rfl) B.out.drew (fun hHeld => ?_)
  try dsimp only at hHeld
  refine' wpAnyH_take (i := 0) (v := _) rfl (by kernel_rfl) (by kernel_rfl) (by kernel_rfl) (fun _ _ _ h => h) (Or.inl ⟨by rfl, ?_⟩) hHeld ?_
  rotate_left
  · (intro w hSw; (try dsimp only at hSw); go_simp; try with_reducible rfl)
  try simp only [Act.put, List.setIfInBounds_toArray, List.set_cons_zero, List.set_cons_succ, List.getElem_toArray, List.getElem_cons_succ, List.getElem_cons_zero]
  refine' wpAnyH_take (i := 1) (v := _) rfl (by kernel_rfl) (by kernel_rfl) (by kernel_rfl) (fun _ _ _ h => h) (Or.inl ⟨by rfl, ?_⟩) hHeld ?_
  rotate_left
  · (intro w hSw; (try dsimp only at hSw); have bx := hSw; obtain ⟨d0, d1, d2, d3, d4, d5, d6⟩ := msg_cells bx.box; go_simp; try with_reducible rfl)
  try simp only [Act.put, List.setIfInBounds_toArray, List.set_cons_zero, List.set_cons_succ, List.getElem_toArray, List.getElem_cons_succ, List.getElem_cons_zero]
  refine' wpAnyH_take (i := 2) (v := _) rfl (by kernel_rfl) (by kernel_rfl) (by kernel_rfl) (fun _ _ _ h => h) (Or.inl ⟨by rfl, ?_⟩) hHeld ?_
  rotate_left
  · (intro w hSw; (try dsimp only at hSw); go_simp; try with_reducible rfl)
  try simp only [Act.put, List.setIfInBounds_toArray, List.set_cons_zero, List.set_cons_succ, List.getElem_toArray, List.getElem_cons_succ, List.getElem_cons_zero]
  refine' wpAnyH_take (i := 3) (v := _) rfl (by kernel_rfl) (by kernel_rfl) (by kernel_rfl) (fun _ _ _ h => h) (Or.inl ⟨by rfl, ?_⟩) hHeld ?_
  rotate_left
  · (intro w hSw; (try dsimp only at hSw); go_simp; try with_reducible rfl)
  try simp only [Act.put, List.setIfInBounds_toArray, List.set_cons_zero, List.set_cons_succ, List.getElem_toArray, List.getElem_cons_succ, List.getElem_cons_zero]
  refine' wpAnyH_take (i := 4) (v := _) rfl (by kernel_rfl) (by kernel_rfl) (by kernel_rfl) (fun _ _ _ h => h) (Or.inl ⟨by rfl, ?_⟩) hHeld ?_
  rotate_left
  · (intro w hSw; (try dsimp only at hSw); have bx := hSw; obtain ⟨d0, d1, d2, d3, d4, d5, d6⟩ := msg_cells bx.box; go_simp; try with_reducible rfl)
  try simp only [Act.put, List.setIfInBounds_toArray, List.set_cons_zero, List.set_cons_succ, List.getElem_toArray, List.getElem_cons_succ, List.getElem_cons_zero]
  refine' wpAnyH_take (i := 5) (v := _) rfl (by kernel_rfl) (by kernel_rfl) (by kernel_rfl) (fun _ _ _ h => h) (Or.inl ⟨by rfl, ?_⟩) hHeld ?_
  rotate_left
  · (intro w hSw; (try dsimp only at hSw); go_simp; try with_reducible rfl)
  try simp only [Act.put, List.setIfInBounds_toArray, List.set_cons_zero, List.set_cons_succ, List.getElem_toArray, List.getElem_cons_succ, List.getElem_cons_zero]
  refine' wpAnyH_take (i := 6) (v := _) rfl (by kernel_rfl) (by kernel_rfl) (by kernel_rfl) (fun _ _ _ h => h) (Or.inl ⟨by rfl, ?_⟩) hHeld ?_
  rotate_left
  · (intro w hSw; (try dsimp only at hSw); go_simp; try with_reducible rfl)
  try simp only [Act.put, List.setIfInBounds_toArray, List.set_cons_zero, List.set_cons_succ, List.getElem_toArray, List.getElem_cons_succ, List.getElem_cons_zero]
  refine' wpAnyH_take (i := 7) (v := _) rfl (by kernel_rfl) (by kernel_rfl) (by kernel_rfl) (fun _ _ _ h => h) (Or.inl ⟨by rfl, ?_⟩) hHeld ?_
  rotate_left
  · (intro w hSw; (try dsimp only at hSw); have bx := hSw; obtain ⟨d0, d1, d2, d3, d4, d5, d6⟩ := msg_cells bx.box; go_simp; try with_reducible rfl)
  try simp only [Act.put, List.setIfInBounds_toArray, List.set_cons_zero, List.set_cons_succ, List.getElem_toArray, List.getElem_cons_succ, List.getElem_cons_zero]
  refine' wpAnyH_take (i := 8) (v := _) rfl (by kernel_rfl) (by kernel_rfl) (by kernel_rfl) (fun _ _ _ h => h) (Or.inl ⟨by rfl, ?_⟩) hHeld ?_
  rotate_left
  · (intro w hSw; (try dsimp only at hSw); go_simp; try with_reducible rfl)
  try simp only [Act.put, List.setIfInBounds_toArray, List.set_cons_zero, List.set_cons_succ, List.getElem_toArray, List.getElem_cons_succ, List.getElem_cons_zero]
  refine' wpAnyH_take (i := 11) (v := _) rfl (by kernel_rfl) (by kernel_rfl) (by kernel_rfl) (fun _ _ _ h => h) (Or.inl ⟨by rfl, ?_⟩) hHeld ?_
  rotate_left
  · (intro w hSw; (try dsimp only at hSw); go_simp; try with_reducible rfl)
  try simp only [Act.put, List.setIfInBounds_toArray, List.set_cons_zero, List.set_cons_succ, List.getElem_toArray, List.getElem_cons_succ, List.getElem_cons_zero]
  refine' wpAnyH_take (i := 12) (v := _) rfl (by kernel_rfl) (by kernel_rfl) (by kernel_rfl) (fun _ _ _ h => h) (Or.inl ⟨by rfl, ?_⟩) hHeld ?_
  rotate_left
  · (intro w hSw; (try dsimp only at hSw); have bx := hSw; obtain ⟨d0, d1, d2, d3, d4, d5, d6⟩ := msg_cells bx.box; go_simp; try with_reducible rfl)
  try simp only [Act.put, List.setIfInBounds_toArray, List.set_cons_zero, List.set_cons_succ, List.getElem_toArray, List.getElem_cons_succ, List.getElem_cons_zero]
  refine' wpAnyH_take (i := 13) (v := _) rfl (by kernel_rfl) (by kernel_rfl) (by kernel_rfl) (fun _ _ _ h => h) (Or.inl ⟨by rfl, ?_⟩) hHeld ?_
  rotate_left
  · (intro w hSw; (try dsimp only at hSw); go_simp; try with_reducible rfl)
  try simp only [Act.put, List.setIfInBounds_toArray, List.set_cons_zero, List.set_cons_succ, List.getElem_toArray, List.getElem_cons_succ, List.getElem_cons_zero]
  refine' wpAnyH_take (i := 17) (v := _) rfl (by kernel_rfl) (by kernel_rfl) (by kernel_rfl) (fun _ _ _ h => h) (Or.inl ⟨by rfl, ?_⟩) hHeld ?_
  rotate_left
  · (intro w hSw; (try dsimp only at hSw); go_simp; try with_reducible rfl)
  try simp only [Act.put, List.setIfInBounds_toArray, List.set_cons_zero, List.set_cons_succ, List.getElem_toArray, List.getElem_cons_succ, List.getElem_cons_zero]
  refine' wpAnyH_take (i := 18) (v := _) rfl (by kernel_rfl) (by kernel_rfl) (by kernel_rfl) (fun _ _ _ h => h) (Or.inl ⟨by rfl, ?_⟩) hHeld ?_
  rotate_left
  · (intro w hSw; (try dsimp only at hSw); have bx := hSw; obtain ⟨d0, d1, d2, d3, d4, d5, d6⟩ := msg_cells bx.box; go_simp; try with_reducible rfl)
  try simp only [Act.put, List.setIfInBounds_toArray, List.set_cons_zero, List.set_cons_succ, List.getElem_toArray, List.getElem_cons_succ, List.getElem_cons_zero]
  refine' wpAnyH_take (i := 19) (v := _) rfl (by kernel_rfl) (by kernel_rfl) (by kernel_rfl) (fun _ _ _ h => h) (Or.inl ⟨by rfl, ?_⟩) hHeld ?_
  rotate_left
  · (intro w hSw; (try dsimp only at hSw); go_simp; try with_reducible rfl)
  try simp only [Act.put, List.setIfInBounds_toArray, List.set_cons_zero, List.set_cons_succ, List.getElem_toArray, List.getElem_cons_succ, List.getElem_cons_zero]
  refine' wpAnyH_take (i := 22) (v := _) rfl (by kernel_rfl) (by kernel_rfl) (by kernel_rfl) (fun _ _ _ h => h) (Or.inl ⟨by rfl, ?_⟩) hHeld ?_
  rotate_left
  · (intro w hSw; (try dsimp only at hSw); go_simp; try with_reducible rfl)
  try simp only [Act.put, List.setIfInBounds_toArray, List.set_cons_zero, List.set_cons_succ, List.getElem_toArray, List.getElem_cons_succ, List.getElem_cons_zero]
  refine' wpAnyH_take (i := 23) (v := _) rfl (by kernel_rfl) (by kernel_rfl) (by kernel_rfl) (fun _ _ _ h => h) (Or.inl ⟨by rfl, ?_⟩) hHeld ?_
  rotate_left
  · (intro w hSw; (try dsimp only at hSw); have bx := hSw; obtain ⟨d0, d1, d2, d3, d4, d5, d6⟩ := msg_cells bx.box; go_simp; try with_reducible rfl)
  try simp only [Act.put, List.setIfInBounds_toArray, List.set_cons_zero, List.set_cons_succ, List.getElem_toArray, List.getElem_cons_succ, List.getElem_cons_zero]
  refine' wpAnyH_take (i := 24) (v := _) rfl (by kernel_rfl) (by kernel_rfl) (by kernel_rfl) (fun _ _ _ h => h) (Or.inl ⟨by rfl, ?_⟩) hHeld ?_
  rotate_left
  · (intro w hSw; (try dsimp only at hSw); go_simp; try with_reducible rfl)
  try simp only [Act.put, List.setIfInBounds_toArray, List.set_cons_zero, List.set_cons_succ, List.getElem_toArray, List.getElem_cons_succ, List.getElem_cons_zero]
  refine' wpAnyH_take (i := 27) (v := _) rfl (by kernel_rfl) (by kernel_rfl) (by kernel_rfl) (fun _ _ _ h => h) (Or.inl ⟨by rfl, ?_⟩) hHeld ?_
  rotate_left
  · (intro w hSw; (try dsimp only at hSw); go_simp; try with_reducible rfl)
  try simp only [Act.put, List.setIfInBounds_toArray, List.set_cons_zero, List.set_cons_succ, List.getElem_toArray, List.getElem_cons_succ, List.getElem_cons_zero]
  refine' wpAnyH_take (i := 28) (v := _) rfl (by kernel_rfl) (by kernel_rfl) (by kernel_rfl) (fun _ _ _ h => h) (Or.inl ⟨by rfl, ?_⟩) hHeld ?_
  rotate_left
  · (intro w hSw; (try dsimp only at hSw); have bx := hSw; obtain ⟨d0, d1, d2, d3, d4, d5, d6⟩ := msg_cells bx.box; go_simp; try with_reducible rfl)
  try simp only [Act.put, List.setIfInBounds_toArray, List.set_cons_zero, List.set_cons_succ, List.getElem_toArray, List.getElem_cons_succ, List.getElem_cons_zero]
  refine' wpAnyH_take (i := 29) (v := _) rfl (by kernel_rfl) (by kernel_rfl) (by kernel_rfl) (fun _ _ _ h => h) (Or.inl ⟨by rfl, ?_⟩) hHeld ?_
  rotate_left
  · (intro w hSw; (try dsimp only at hSw); go_simp; try with_reducible rfl)
  try simp only [Act.put, List.setIfInBounds_toArray, List.set_cons_zero, List.set_cons_succ, List.getElem_toArray, List.getElem_cons_succ, List.getElem_cons_zero]
  refine wpAnyH_ready (rs := [9, 14]) (by kernel_rfl) (by simp) ?_
  refine AllReadyH.cons (o := _) rfl (fun K hK => ?_) (AllReadyH.cons (o := _) rfl (fun K hK => ?_) AllReadyH.nil)
  · have hH2 := hHeld
    have bx := hH2
    have hg : w1.drew.grownBy (w1.drew.alloc (.cells #[.int .u8 1, .int .u8 ((u8of m.kind).toNat : Int), .int .u8 ((u8of m.who).toNat : Int), .int .u8 ((u8of m.metric).toNat : Int)] 5)) none := World.grownBy_alloc _ _ _
    have L9 := hid (show (BoxM w m (w1.drew.alloc (.cells #[.int .u8 1, .int .u8 ((u8of m.kind).toNat : Int), .int .u8 ((u8of m.who).toNat : Int), .int .u8 ((u8of m.metric).toNat : Int)] 5))) from bx.grown hg)
    have Nfb := hid (own_block [1, u8of m.kind, u8of m.who, u8of m.metric] (at_new w1.drew _) (by unfold maxLen; simp) (Nat.le_refl _)).bytes
    clear hHeld hg bx
    try simp only [List.getElem_toArray, List.getElem_cons_succ, List.getElem_cons_zero]
    go_simp
    refine hK.out _ _ ?_ (fun hHeld => ?_)
    · exact L9.out
    clear hK K
    try dsimp only at hHeld
    try simp only [Act.put, List.setIfInBounds_toArray, List.set_cons_zero, List.set_cons_succ, List.getElem_toArray, List.getElem_cons_succ, List.getElem_cons_zero]
    refine held_stronger (S' := fun w' => (fun w' => BytesAt w' (.slice (some ⟨w1.heap.size, 0, none⟩) 4 4) [1, u8of m.kind, u8of m.who, u8of m.metric]) w' ∧ ((fun w' => (BoxM w m w'))) w') (fun _ h => h.2) _ _ _ _ ?_
    replace hHeld := And.intro Nfb.out hHeld
    try dsimp only at hHeld
    refine' wpAnyH_take (i := 10) (v := _) rfl (by kernel_rfl) (by kernel_rfl) (by kernel_rfl) (fun _ _ _ h => h) (Or.inl ⟨by rfl, ?_⟩) hHeld ?_
    rotate_left
    · (intro w hSw; (try dsimp only at hSw); obtain ⟨fb, bx⟩ := hSw; have cv := conv_bytes fb; go_simp; try with_reducible rfl)
    try simp only [Act.put, List.setIfInBounds_toArray, List.set_cons_zero, List.set_cons_succ, List.getElem_toArray, List.getElem_cons_succ, List.getElem_cons_zero]
    refine wpAnyH_ready (rs := [14]) (by kernel_rfl) (by simp) ?_
    refine AllReadyH.cons (o := _) rfl (fun K hK => ?_) AllReadyH.nil
    try simp only [List.getElem_toArray, List.getElem_cons_succ, List.getElem_cons_zero]
    go_simp
    have hH2 := hHeld
    obtain ⟨fb, bx⟩ := hH2
    refine (P1.out _).mono ?_
    rintro e w1014 ⟨rfl, hg⟩
    have L14 := hid (show (BytesAt w1014 (.slice (some ⟨w1.heap.size, 0, none⟩) 4 4) [1, u8of m.kind, u8of m.who, u8of m.metric]) ∧ (BoxM w m w1014) from ⟨fb.grown hg (by simp), bx.grown hg⟩)
    clear hHeld hg fb bx
    go_wp2_with fail
    refine hK.out _ _ ?_ (fun hHeld => ?_)
    · exact L14.out
    clear hK K
    try dsimp only at hHeld
    try simp only [Act.put, List.setIfInBounds_toArray, List.set_cons_zero, List.set_cons_succ, List.getElem_toArray, List.getElem_cons_succ, List.getElem_cons_zero]
    refine' wpAnyH_take (i := 15) (v := _) rfl (by kernel_rfl) (by kernel_rfl) (by kernel_rfl) (fun _ _ _ h => h) (Or.inl ⟨by rfl, ?_⟩) hHeld ?_
    rotate_left
    · (intro w hSw; (try dsimp only at hSw); go_simp; try with_reducible rfl)
    try simp only [Act.put, List.setIfInBounds_toArray, List.set_cons_zero, List.set_cons_succ, List.getElem_toArray, List.getElem_cons_succ, List.getElem_cons_zero]
    refine' wpAnyH_take (i := 16) (v := _) rfl (by kernel_rfl) (by kernel_rfl) (by kernel_rfl) (fun _ _ _ h => h) (Or.inl ⟨by rfl, ?_⟩) hHeld ?_
    rotate_left
    · (intro w hSw; (try dsimp only at hSw); go_simp; try with_reducible rfl)
    try simp only [Act.put, List.setIfInBounds_toArray, List.set_cons_zero, List.set_cons_succ, List.getElem_toArray, List.getElem_cons_succ, List.getElem_cons_zero]
    refine wpAnyH_ready (rs := [20]) (by kernel_rfl) (by simp) ?_
    refine AllReadyH.cons (o := _) rfl (fun K hK => ?_) AllReadyH.nil
    try simp only [List.getElem_toArray, List.getElem_cons_succ, List.getElem_cons_zero]
    go_simp
    have hH2 := hHeld
    obtain ⟨fb, bx⟩ := hH2
    refine (P2.out _).mono ?_
    rintro e w1020 ⟨rfl, hg⟩
    have L20 := hid (show (BytesAt w1020 (.slice (some ⟨w1.heap.size, 0, none⟩) 4 4) [1, u8of m.kind, u8of m.who, u8of m.metric]) ∧ (BoxM w m w1020) from ⟨fb.grown hg (by simp), bx.grown hg⟩)
    clear hHeld hg fb bx
    go_wp2_with fail
    refine hK.out _ _ ?_ (fun hHeld => ?_)
    · exact L20.out
    clear hK K
    try dsimp only at hHeld
    try simp only [Act.put, List.setIfInBounds_toArray, List.set_cons_zero, List.set_cons_succ, List.getElem_toArray, List.getElem_cons_succ, List.getElem_cons_zero]
    refine' wpAnyH_take (i := 21) (v := _) rfl (by kernel_rfl) (by kernel_rfl) (by kernel_rfl) (fun _ _ _ h => h) (Or.inl ⟨by rfl, ?_⟩) hHeld ?_
    rotate_left
    · (intro w hSw; (try dsimp only at hSw); go_simp; try with_reducible rfl)
    try simp only [Act.put, List.setIfInBounds_toArray, List.set_cons_zero, List.set_cons_succ, List.getElem_toArray, List.getElem_cons_succ, List.getElem_cons_zero]
    refine wpAnyH_ready (rs := [25]) (by kernel_rfl) (by simp) ?_
    refine AllReadyH.cons (o := _) rfl (fun K hK => ?_) AllReadyH.nil
    try simp only [List.getElem_toArray, List.getElem_cons_succ, List.getElem_cons_zero]
    go_simp
    have hH2 := hHeld
    obtain ⟨fb, bx⟩ := hH2
    refine (P3.out _).mono ?_
    rintro e w1025 ⟨rfl, hg⟩
    have L25 := hid (show (BytesAt w1025 (.slice (some ⟨w1.heap.size, 0, none⟩) 4 4) [1, u8of m.kind, u8of m.who, u8of m.metric]) ∧ (BoxM w m w1025) from ⟨fb.grown hg (by simp), bx.grown hg⟩)
    clear hHeld hg fb bx
    go_wp2_with fail
    refine hK.out _ _ ?_ (fun hHeld => ?_)
    · exact L25.out
    clear hK K
    try dsimp only at hHeld
    try simp only [Act.put, List.setIfInBounds_toArray, List.set_cons_zero, List.set_cons_succ, List.getElem_toArray, List.getElem_cons_succ, List.getElem_cons_zero]
    refine' wpAnyH_take (i := 26) (v := _) rfl (by kernel_rfl) (by kernel_rfl) (by kernel_rfl) (fun _ _ _ h => h) (Or.inl ⟨by rfl, ?_⟩) hHeld ?_
    rotate_left
    · (intro w hSw; (try dsimp only at hSw); go_simp; try with_reducible rfl)
    try simp only [Act.put, List.setIfInBounds_toArray, List.set_cons_zero, List.set_cons_succ, List.getElem_toArray, List.getElem_cons_succ, List.getElem_cons_zero]
    refine wpAnyH_ready (rs := [30]) (by kernel_rfl) (by simp) ?_
    refine AllReadyH.cons (o := _) rfl (fun K hK => ?_) AllReadyH.nil
    try simp only [List.getElem_toArray, List.getElem_cons_succ, List.getElem_cons_zero]
    go_simp
    have hH2 := hHeld
    obtain ⟨fb, bx⟩ := hH2
    refine (P4.out _).mono ?_
    rintro e w1030 ⟨rfl, hg⟩
    have L30 := hid (show (BytesAt w1030 (.slice (some ⟨w1.heap.size, 0, none⟩) 4 4) [1, u8of m.kind, u8of m.who, u8of m.metric]) ∧ (BoxM w m w1030) from ⟨fb.grown hg (by simp), bx.grown hg⟩)
    clear hHeld hg fb bx
    go_wp2_with fail
    refine hK.out _ _ ?_ (fun hHeld => ?_)
    · exact L30.out
    clear hK K
    try dsimp only at hHeld
    try simp only [Act.put, List.setIfInBounds_toArray, List.set_cons_zero, List.set_cons_succ, List.getElem_toArray, List.getElem_cons_succ, List.getElem_cons_zero]
    refine' wpAnyH_take (i := 31) (v := _) rfl (by kernel_rfl) (by kernel_rfl) (by kernel_rfl) (fun _ _ _ h => h) (Or.inl ⟨by rfl, ?_⟩) hHeld ?_
    rotate_left
    · (intro w hSw; (try dsimp only at hSw); go_simp; try with_reducible rfl)
    try simp only [Act.put, List.setIfInBounds_toArray, List.set_cons_zero, List.set_cons_succ, List.getElem_toArray, List.getElem_cons_succ, List.getElem_cons_zero]
    refine' wpAnyH_take (i := 32) (v := _) rfl (by kernel_rfl) (by kernel_rfl) (by kernel_rfl) (fun _ _ _ h => h) (Or.inl ⟨by rfl, ?_⟩) hHeld ?_
    rotate_left
    · (intro w hSw; (try dsimp only at hSw); go_simp; try with_reducible rfl)
    try simp only [Act.put, List.setIfInBounds_toArray, List.set_cons_zero, List.set_cons_succ, List.getElem_toArray, List.getElem_cons_succ, List.getElem_cons_zero]
    refine' wpAnyH_take (i := 33) (v := _) rfl (by kernel_rfl) (by kernel_rfl) (by kernel_rfl) (fun _ _ _ h => h) (Or.inl ⟨by rfl, ?_⟩) hHeld ?_
    rotate_left
    · (intro w hSw; (try dsimp only at hSw); go_simp; try with_reducible rfl)
    try simp only [Act.put, List.setIfInBounds_toArray, List.set_cons_zero, List.set_cons_succ, List.getElem_toArray, List.getElem_cons_succ, List.getElem_cons_zero]
    refine wpAnyH_done (by kernel_rfl) ?_ _
    obtain ⟨fb, bx⟩ := hHeld
    have BX := hid bx; clear fb bx
    go_wp2_with fail
    go_ret2
    exact ⟨rfl, BX.out.g⟩
  · try simp only [List.getElem_toArray, List.getElem_cons_succ, List.getElem_cons_zero]
    go_simp
    have hH2 := hHeld
    have bx := hH2
    refine (P1.out _).mono ?_
    rintro e w1014 ⟨rfl, hg⟩
    have L14 := hid (show (BoxM w m w1014) from bx.grown hg)
    clear hHeld hg bx
    go_wp2_with fail
    refine hK.out _ _ ?_ (fun hHeld => ?_)
    · exact L14.out
    clear hK K
    try dsimp only at hHeld
    try simp only [Act.put, List.setIfInBounds_toArray, List.set_cons_zero, List.set_cons_succ, List.getElem_toArray, List.getElem_cons_succ, List.getElem_cons_zero]
    refine' wpAnyH_take (i := 15) (v := _) rfl (by kernel_rfl) (by kernel_rfl) (by kernel_rfl) (fun _ _ _ h => h) (Or.inl ⟨by rfl, ?_⟩) hHeld ?_
    rotate_left
    · (intro w hSw; (try dsimp only at hSw); go_simp; try with_reducible rfl)
    try simp only [Act.put, List.setIfInBounds_toArray, List.set_cons_zero, List.set_cons_succ, List.getElem_toArray, List.getElem_cons_succ, List.getElem_cons_zero]
    refine wpAnyH_ready (rs := [9, 20]) (by kernel_rfl) (by simp) ?_
    refine AllReadyH.cons (o := _) rfl (fun K hK => ?_) (AllReadyH.cons (o := _) rfl (fun K hK => ?_) AllReadyH.nil)
    · have hH2 := hHeld
      have bx := hH2
      have hg : w1014.grownBy (w1014.alloc (.cells #[.int .u8 1, .int .u8 ((u8of m.kind).toNat : Int), .int .u8 ((u8of m.who).toNat : Int), .int .u8 ((u8of m.metric).toNat : Int)] 5)) none := World.grownBy_alloc _ _ _
      have L9 := hid (show (BoxM w m (w1014.alloc (.cells #[.int .u8 1, .int .u8 ((u8of m.kind).toNat : Int), .int .u8 ((u8of m.who).toNat : Int), .int .u8 ((u8of m.metric).toNat : Int)] 5))) from bx.grown hg)
      have Nfb := hid (own_block [1, u8of m.kind, u8of m.who, u8of m.metric] (at_new w1014 _) (by unfold maxLen; simp) (Nat.le_refl _)).bytes
      clear hHeld hg bx
      try simp only [List.getElem_toArray, List.getElem_cons_succ, List.getElem_cons_zero]
      go_simp
      refine hK.out _ _ ?_ (fun hHeld => ?_)
      · exact L9.out
      clear hK K
      try dsimp only at hHeld
      try simp only [Act.put, List.setIfInBounds_toArray, List.set_cons_zero, List.set_cons_succ, List.getElem_toArray, List.getElem_cons_succ, List.getElem_cons_zero]
      refine held_stronger (S' := fun w' => (fun w' => BytesAt w' (.slice (some ⟨w1014.heap.size, 0, none⟩) 4 4) [1, u8of m.kind, u8of m.who, u8of m.metric]) w' ∧ ((fun w' => (BoxM w m w'))) w') (fun _ h => h.2) _ _ _ _ ?_
      replace hHeld := And.intro Nfb.out hHeld
      try dsimp only at hHeld
      refine' wpAnyH_take (i := 10) (v := _) rfl (by kernel_rfl) (by kernel_rfl) (by kernel_rfl) (fun _ _ _ h => h) (Or.inl ⟨by rfl, ?_⟩) hHeld ?_
      rotate_left
      · (intro w hSw; (try dsimp only at hSw); obtain ⟨fb, bx⟩ := hSw; have cv := conv_bytes fb; go_simp; try with_reducible rfl)
      try simp only [Act.put, List.setIfInBounds_toArray, List.set_cons_zero, List.set_cons_succ, List.getElem_toArray, List.getElem_cons_succ, List.getElem_cons_zero]
      refine' wpAnyH_take (i := 16) (v := _) rfl (by kernel_rfl) (by kernel_rfl) (by kernel_rfl) (fun _ _ _ h => h) (Or.inl ⟨by rfl, ?_⟩) hHeld ?_
      rotate_left
      · (intro w hSw; (try dsimp only at hSw); go_simp; try with_reducible rfl)
      try simp only [Act.put, List.setIfInBounds_toArray, List.set_cons_zero, List.set_cons_succ, List.getElem_toArray, List.getElem_cons_succ, List.getElem_cons_zero]
      refine wpAnyH_ready (rs := [20]) (by kernel_rfl) (by simp) ?_
      refine AllReadyH.cons (o := _) rfl (fun K hK => ?_) AllReadyH.nil
      try simp only [List.getElem_toArray, List.getElem_cons_succ, List.getElem_cons_zero]
      go_simp
      have hH2 := hHeld
      obtain ⟨fb, bx⟩ := hH2
      refine (P2.out _).mono ?_
      rintro e w1020 ⟨rfl, hg⟩
      have L20 := hid (show (BytesAt w1020 (.slice (some ⟨w1014.heap.size, 0, none⟩) 4 4) [1, u8of m.kind, u8of m.who, u8of m.metric]) ∧ (BoxM w m w1020) from ⟨fb.grown hg (by simp), bx.grown hg⟩)
      clear hHeld hg fb bx
      go_wp2_with fail
      refine hK.out _ _ ?_ (fun hHeld => ?_)
      · exact L20.out
      clear hK K
      try dsimp only at hHeld
      try simp only [Act.put, List.setIfInBounds_toArray, List.set_cons_zero, List.set_cons_succ, List.getElem_toArray, List.getElem_cons_succ, List.getElem_cons_zero]
      refine' wpAnyH_take (i := 21) (v := _) rfl (by kernel_rfl) (by kernel_rfl) (by kernel_rfl) (fun _ _ _ h => h) (Or.inl ⟨by rfl, ?_⟩) hHeld ?_
      rotate_left
      · (intro w hSw; (try dsimp only at hSw); go_simp; try with_reducible rfl)
      try simp only [Act.put, List.setIfInBounds_toArray, List.set_cons_zero, List.set_cons_succ, List.getElem_toArray, List.getElem_cons_succ, List.getElem_cons_zero]
      refine wpAnyH_ready (rs := [25]) (by kernel_rfl) (by simp) ?_
      refine AllReadyH.cons (o := _) rfl (fun K hK => ?_) AllReadyH.nil
      try simp only [List.getElem_toArray, List.getElem_cons_succ, List.getElem_cons_zero]
      go_simp
      have hH2 := hHeld
      obtain ⟨fb, bx⟩ := hH2
      refine (P3.out _).mono ?_
      rintro e w1025 ⟨rfl, hg⟩
      have L25 := hid (show (BytesAt w1025 (.slice (some ⟨w1014.heap.size, 0, none⟩) 4 4) [1, u8of m.kind, u8of m.who, u8of m.metric]) ∧ (BoxM w m w1025) from ⟨fb.grown hg (by simp), bx.grown hg⟩)
      clear hHeld hg fb bx
      go_wp2_with fail
      refine hK.out _ _ ?_ (fun hHeld => ?_)
      · exact L25.out
      clear hK K
      try dsimp only at hHeld
      try simp only [Act.put, List.setIfInBounds_toArray, List.set_cons_zero, List.set_cons_succ, List.getElem_toArray, List.getElem_cons_succ, List.getElem_cons_zero]
      refine' wpAnyH_take (i := 26) (v := _) rfl (by kernel_rfl) (by kernel_rfl) (by kernel_rfl) (fun _ _ _ h => h) (Or.inl ⟨by rfl, ?_⟩) hHeld ?_
      rotate_left
      · (intro w hSw; (try dsimp only at hSw); go_simp; try with_reducible rfl)
      try simp only [Act.put, List.setIfInBounds_toArray, List.set_cons_zero, List.set_cons_succ, List.getElem_toArray, List.getElem_cons_succ, List.getElem_cons_zero]
      refine wpAnyH_ready (rs := [30]) (by kernel_rfl) (by simp) ?_
      refine AllReadyH.cons (o := _) rfl (fun K hK => ?_) AllReadyH.nil
      try simp only [List.getElem_toArray, List.getElem_cons_succ, List.getElem_cons_zero]
      go_simp
      have hH2 := hHeld
      obtain ⟨fb, bx⟩ := hH2
      refine (P4.out _).mono ?_
      rintro e w1030 ⟨rfl, hg⟩
      have L30 := hid (show (BytesAt w1030 (.slice (some ⟨w1014.heap.size, 0, none⟩) 4 4) [1, u8of m.kind, u8of m.who, u8of m.metric]) ∧ (BoxM w m w1030) from ⟨fb.grown hg (by simp), bx.grown hg⟩)
      clear hHeld hg fb bx
      go_wp2_with fail
      refine hK.out _ _ ?_ (fun hHeld => ?_)
      · exact L30.out
      clear hK K
      try dsimp only at hHeld
      try simp only [Act.put, List.setIfInBounds_toArray, List.set_cons_zero, List.set_cons_succ, List.getElem_toArray, List.getElem_cons_succ, List.getElem_cons_zero]
      refine' wpAnyH_take (i := 31) (v := _) rfl (by kernel_rfl) (by kernel_rfl) (by kernel_rfl) (fun _ _ _ h => h) (Or.inl ⟨by rfl, ?_⟩) hHeld ?_
      rotate_left
      · (intro w hSw; (try dsimp only at hSw); go_simp; try with_reducible rfl)
      try simp only [Act.put, List.setIfInBounds_toArray, List.set_cons_zero, List.set_cons_succ, List.getElem_toArray, List.getElem_cons_succ, List.getElem_cons_zero]
      refine' wpAnyH_take (i := 32) (v := _) rfl (by kernel_rfl) (by kernel_rfl) (by kernel_rfl) (fun _ _ _ h => h) (Or.inl ⟨by rfl, ?_⟩) hHeld ?_
      rotate_left
      · (intro w hSw; (try dsimp only at hSw); go_simp; try with_reducible rfl)
      try simp only [Act.put, List.setIfInBounds_toArray, List.set_cons_zero, List.set_cons_succ, List.getElem_toArray, List.getElem_cons_succ, List.getElem_cons_zero]
      refine' wpAnyH_take (i := 33) (v := _) rfl (by kernel_rfl) (by kernel_rfl) (by kernel_rfl) (fun _ _ _ h => h) (Or.inl ⟨by rfl, ?_⟩) hHeld ?_
      rotate_left
      · (intro w hSw; (try dsimp only at hSw); go_simp; try with_reducible rfl)
      try simp only [Act.put, List.setIfInBounds_toArray, List.set_cons_zero, List.set_cons_succ, List.getElem_toArray, List.getElem_cons_succ, List.getElem_cons_zero]
      refine wpAnyH_done (by kernel_rfl) ?_ _
      obtain ⟨fb, bx⟩ := hHeld
      have BX := hid bx; clear fb bx
      go_wp2_with fail
      go_ret2
      exact ⟨rfl, BX.out.g⟩
    · try simp only [List.getElem_toArray, List.getElem_cons_succ, List.getElem_cons_zero]
      go_simp
      have hH2 := hHeld
      have bx := hH2
      refine (P2.out _).mono ?_
      rintro e w1020 ⟨rfl, hg⟩
      have L20 := hid (show (BoxM w m w1020) from bx.grown hg)
      clear hHeld hg bx
      go_wp2_with fail
      refine hK.out _ _ ?_ (fun hHeld => ?_)
      · exact L20.out
      clear hK K
      try dsimp only at hHeld
      try simp only [Act.put, List.setIfInBounds_toArray, List.set_cons_zero, List.set_cons_succ, List.getElem_toArray, List.getElem_cons_succ, List.getElem_cons_zero]
      refine wpAnyH_ready (rs := [9, 25]) (by kernel_rfl) (by simp) ?_
      refine AllReadyH.cons (o := _) rfl (fun K hK => ?_) (AllReadyH.cons (o := _) rfl (fun K hK => ?_) AllReadyH.nil)
      · have hH2 := hHeld
        have bx := hH2
        have hg : w1020.grownBy (w1020.alloc (.cells #[.int .u8 1, .int .u8 ((u8of m.kind).toNat : Int), .int .u8 ((u8of m.who).toNat : Int), .int .u8 ((u8of m.metric).toNat : Int)] 5)) none := World.grownBy_alloc _ _ _
        have L9 := hid (show (BoxM w m (w1020.alloc (.cells #[.int .u8 1, .int .u8 ((u8of m.kind).toNat : Int), .int .u8 ((u8of m.who).toNat : Int), .int .u8 ((u8of m.metric).toNat : Int)] 5))) from bx.grown hg)
        have Nfb := hid (own_block [1, u8of m.kind, u8of m.who, u8of m.metric] (at_new w1020 _) (by unfold maxLen; simp) (Nat.le_refl _)).bytes
        clear hHeld hg bx
        try simp only [List.getElem_toArray, List.getElem_cons_succ, List.getElem_cons_zero]
        go_simp
        refine hK.out _ _ ?_ (fun hHeld => ?_)
        · exact L9.out
        clear hK K
        try dsimp only at hHeld
        try simp only [Act.put, List.setIfInBounds_toArray, List.set_cons_zero, List.set_cons_succ, List.getElem_toArray, List.getElem_cons_succ, List.getElem_cons_zero]
        refine held_stronger (S' := fun w' => (fun w' => BytesAt w' (.slice (some ⟨w1020.heap.size, 0, none⟩) 4 4) [1, u8of m.kind, u8of m.who, u8of m.metric]) w' ∧ ((fun w' => (BoxM w m w'))) w') (fun _ h => h.2) _ _ _ _ ?_
        replace hHeld := And.intro Nfb.out hHeld
        try dsimp only at hHeld
        refine' wpAnyH_take (i := 10) (v := _) rfl (by kernel_rfl) (by kernel_rfl) (by kernel_rfl) (fun _ _ _ h => h) (Or.inl ⟨by rfl, ?_⟩) hHeld ?_
        rotate_left
        · (intro w hSw; (try dsimp only at hSw); obtain ⟨fb, bx⟩ := hSw; have cv := conv_bytes fb; go_simp; try with_reducible rfl)
        try simp only [Act.put, List.setIfInBounds_toArray, List.set_cons_zero, List.set_cons_succ, List.getElem_toArray, List.getElem_cons_succ, List.getElem_cons_zero]
        refine' wpAnyH_take (i := 16) (v := _) rfl (by kernel_rfl) (by kernel_rfl) (by kernel_rfl) (fun _ _ _ h => h) (Or.inl ⟨by rfl, ?_⟩) hHeld ?_
        rotate_left
        · (intro w hSw; (try dsimp only at hSw); go_simp; try with_reducible rfl)
        try simp only [Act.put, List.setIfInBounds_toArray, List.set_cons_zero, List.set_cons_succ, List.getElem_toArray, List.getElem_cons_succ, List.getElem_cons_zero]
        refine' wpAnyH_take (i := 21) (v := _) rfl (by kernel_rfl) (by kernel_rfl) (by kernel_rfl) (fun _ _ _ h => h) (Or.inl ⟨by rfl, ?_⟩) hHeld ?_
        rotate_left
        · (intro w hSw; (try dsimp only at hSw); go_simp; try with_reducible rfl)
        try simp only [Act.put, List.setIfInBounds_toArray, List.set_cons_zero, List.set_cons_succ, List.getElem_toArray, List.getElem_cons_succ, List.getElem_cons_zero]
        refine wpAnyH_ready (rs := [25]) (by kernel_rfl) (by simp) ?_
        refine AllReadyH.cons (o := _) rfl (fun K hK => ?_) AllReadyH.nil
        try simp only [List.getElem_toArray, List.getElem_cons_succ, List.getElem_cons_zero]
        go_simp
        have hH2 := hHeld
        obtain ⟨fb, bx⟩ := hH2
        refine (P3.out _).mono ?_
        rintro e w1025 ⟨rfl, hg⟩
        have L25 := hid (show (BytesAt w1025 (.slice (some ⟨w1020.heap.size, 0, none⟩) 4 4) [1, u8of m.kind, u8of m.who, u8of m.metric]) ∧ (BoxM w m w1025) from ⟨fb.grown hg (by simp), bx.grown hg⟩)
        clear hHeld hg fb bx
        go_wp2_with fail
        refine hK.out _ _ ?_ (fun hHeld => ?_)
        · exact L25.out
        clear hK K
        try dsimp only at hHeld
        try simp only [Act.put, List.setIfInBounds_toArray, List.set_cons_zero, List.set_cons_succ, List.getElem_toArray, List.getElem_cons_succ, List.getElem_cons_zero]
        refine' wpAnyH_take (i := 26) (v := _) rfl (by kernel_rfl) (by kernel_rfl) (by kernel_rfl) (fun _ _ _ h => h) (Or.inl ⟨by rfl, ?_⟩) hHeld ?_
        rotate_left
        · (intro w hSw; (try dsimp only at hSw); go_simp; try with_reducible rfl)
        try simp only [Act.put, List.setIfInBounds_toArray, List.set_cons_zero, List.set_cons_succ, List.getElem_toArray, List.getElem_cons_succ, List.getElem_cons_zero]
        refine wpAnyH_ready (rs := [30]) (by kernel_rfl) (by simp) ?_
        refine AllReadyH.cons (o := _) rfl (fun K hK => ?_) AllReadyH.nil
        try simp only [List.getElem_toArray, List.getElem_cons_succ, List.getElem_cons_zero]
        go_simp
        have hH2 := hHeld
        obtain ⟨fb, bx⟩ := hH2
        refine (P4.out _).mono ?_
        rintro e w1030 ⟨rfl, hg⟩
        have L30 := hid (show (BytesAt w1030 (.slice (some ⟨w1020.heap.size, 0, none⟩) 4 4) [1, u8of m.kind, u8of m.who, u8of m.metric]) ∧ (BoxM w m w1030) from ⟨fb.grown hg (by simp), bx.grown hg⟩)
        clear hHeld hg fb bx
        go_wp2_with fail
        refine hK.out _ _ ?_ (fun hHeld => ?_)
        · exact L30.out
        clear hK K
        try dsimp only at hHeld
        try simp only [Act.put, List.setIfInBounds_toArray, List.set_cons_zero, List.set_cons_succ, List.getElem_toArray, List.getElem_cons_succ, List.getElem_cons_zero]
        refine' wpAnyH_take (i := 31) (v := _) rfl (by kernel_rfl) (by kernel_rfl) (by kernel_rfl) (fun _ _ _ h => h) (Or.inl ⟨by rfl, ?_⟩) hHeld ?_
        rotate_left
        · (intro w hSw; (try dsimp only at hSw); go_simp; try with_reducible rfl)
        try simp only [Act.put, List.setIfInBounds_toArray, List.set_cons_zero, List.set_cons_succ, List.getElem_toArray, List.getElem_cons_succ, List.getElem_cons_zero]
        refine' wpAnyH_take (i := 32) (v := _) rfl (by kernel_rfl) (by kernel_rfl) (by kernel_rfl) (fun _ _ _ h => h) (Or.inl ⟨by rfl, ?_⟩) hHeld ?_
        rotate_left
        · (intro w hSw; (try dsimp only at hSw); go_simp; try with_reducible rfl)
        try simp only [Act.put, List.setIfInBounds_toArray, List.set_cons_zero, List.set_cons_succ, List.getElem_toArray, List.getElem_cons_succ, List.getElem_cons_zero]
        refine' wpAnyH_take (i := 33) (v := _) rfl (by kernel_rfl) (by kernel_rfl) (by kernel_rfl) (fun _ _ _ h => h) (Or.inl ⟨by rfl, ?_⟩) hHeld ?_
        rotate_left
        · (intro w hSw; (try dsimp only at hSw); go_simp; try with_reducible rfl)
        try simp only [Act.put, List.setIfInBounds_toArray, List.set_cons_zero, List.set_cons_succ, List.getElem_toArray, List.getElem_cons_succ, List.getElem_cons_zero]
        refine wpAnyH_done (by kernel_rfl) ?_ _
        obtain ⟨fb, bx⟩ := hHeld
        have BX := hid bx; clear fb bx
        go_wp2_with fail
        go_ret2
        exact ⟨rfl, BX.out.g⟩
      · try simp only [List.getElem_toArray, List.getElem_cons_succ, List.getElem_cons_zero]
        go_simp
        have hH2 := hHeld
        have bx := hH2
        refine (P3.out _).mono ?_
        rintro e w1025 ⟨rfl, hg⟩
        have L25 := hid (show (BoxM w m w1025) from bx.grown hg)
        clear hHeld hg bx
        go_wp2_with fail
        refine hK.out _ _ ?_ (fun hHeld => ?_)
        · exact L25.out
        clear hK K
        try dsimp only at hHeld
        try simp only [Act.put, List.setIfInBounds_toArray, List.set_cons_zero, List.set_cons_succ, List.getElem_toArray, List.getElem_cons_succ, List.getElem_cons_zero]
        refine wpAnyH_ready (rs := [9, 30]) (by kernel_rfl) (by simp) ?_
        refine AllReadyH.cons (o := _) rfl (fun K hK => ?_) (AllReadyH.cons (o := _) rfl (fun K hK => ?_) AllReadyH.nil)
        · have hH2 := hHeld
          have bx := hH2
          have hg : w1025.grownBy (w1025.alloc (.cells #[.int .u8 1, .int .u8 ((u8of m.kind).toNat : Int), .int .u8 ((u8of m.who).toNat : Int), .int .u8 ((u8of m.metric).toNat : Int)] 5)) none := World.grownBy_alloc _ _ _
          have L9 := hid (show (BoxM w m (w1025.alloc (.cells #[.int .u8 1, .int .u8 ((u8of m.kind).toNat : Int), .int .u8 ((u8of m.who).toNat : Int), .int .u8 ((u8of m.metric).toNat : Int)] 5))) from bx.grown hg)
          have Nfb := hid (own_block [1, u8of m.kind, u8of m.who, u8of m.metric] (at_new w1025 _) (by unfold maxLen; simp) (Nat.le_refl _)).bytes
          clear hHeld hg bx
          try simp only [List.getElem_toArray, List.getElem_cons_succ, List.getElem_cons_zero]
          go_simp
          refine hK.out _ _ ?_ (fun hHeld => ?_)
          · exact L9.out
          clear hK K
          try dsimp only at hHeld
          try simp only [Act.put, List.setIfInBounds_toArray, List.set_cons_zero, List.set_cons_succ, List.getElem_toArray, List.getElem_cons_succ, List.getElem_cons_zero]
          refine held_stronger (S' := fun w' => (fun w' => BytesAt w' (.slice (some ⟨w1025.heap.size, 0, none⟩) 4 4) [1, u8of m.kind, u8of m.who, u8of m.metric]) w' ∧ ((fun w' => (BoxM w m w'))) w') (fun _ h => h.2) _ _ _ _ ?_
          replace hHeld := And.intro Nfb.out hHeld
          try dsimp only at hHeld
          refine' wpAnyH_take (i := 10) (v := _) rfl (by kernel_rfl) (by kernel_rfl) (by kernel_rfl) (fun _ _ _ h => h) (Or.inl ⟨by rfl, ?_⟩) hHeld ?_
          rotate_left
          · (intro w hSw; (try dsimp only at hSw); obtain ⟨fb, bx⟩ := hSw; have cv := conv_bytes fb; go_simp; try with_reducible rfl)
          try simp only [Act.put, List.setIfInBounds_toArray, List.set_cons_zero, List.set_cons_succ, List.getElem_toArray, List.getElem_cons_succ, List.getElem_cons_zero]
          refine' wpAnyH_take (i := 16) (v := _) rfl (by kernel_rfl) (by kernel_rfl) (by kernel_rfl) (fun _ _ _ h => h) (Or.inl ⟨by rfl, ?_⟩) hHeld ?_
          rotate_left
          · (intro w hSw; (try dsimp only at hSw); go_simp; try with_reducible rfl)
          try simp only [Act.put, List.setIfInBounds_toArray, List.set_cons_zero, List.set_cons_succ, List.getElem_toArray, List.getElem_cons_succ, List.getElem_cons_zero]
          refine' wpAnyH_take (i := 21) (v := _) rfl (by kernel_rfl) (by kernel_rfl) (by kernel_rfl) (fun _ _ _ h => h) (Or.inl ⟨by rfl, ?_⟩) hHeld ?_
          rotate_left
          · (intro w hSw; (try dsimp only at hSw); go_simp; try with_reducible rfl)
          try simp only [Act.put, List.setIfInBounds_toArray, List.set_cons_zero, List.set_cons_succ, List.getElem_toArray, List.getElem_cons_succ, List.getElem_cons_zero]
          refine' wpAnyH_take (i := 26) (v := _) rfl (by kernel_rfl) (by kernel_rfl) (by kernel_rfl) (fun _ _ _ h => h) (Or.inl ⟨by rfl, ?_⟩) hHeld ?_
          rotate_left
          · (intro w hSw; (try dsimp only at hSw); go_simp; try with_reducible rfl)
          try simp only [Act.put, List.setIfInBounds_toArray, List.set_cons_zero, List.set_cons_succ, List.getElem_toArray, List.getElem_cons_succ, List.getElem_cons_zero]
          refine wpAnyH_ready (rs := [30]) (by kernel_rfl) (by simp) ?_
          refine AllReadyH.cons (o := _) rfl (fun K hK => ?_) AllReadyH.nil
          try simp only [List.getElem_toArray, List.getElem_cons_succ, List.getElem_cons_zero]
          go_simp
          have hH2 := hHeld
          obtain ⟨fb, bx⟩ := hH2
          refine (P4.out _).mono ?_
          rintro e w1030 ⟨rfl, hg⟩
          have L30 := hid (show (BytesAt w1030 (.slice (some ⟨w1025.heap.size, 0, none⟩) 4 4) [1, u8of m.kind, u8of m.who, u8of m.metric]) ∧ (BoxM w m w1030) from ⟨fb.grown hg (by simp), bx.grown hg⟩)
          clear hHeld hg fb bx
          go_wp2_with fail
          refine hK.out _ _ ?_ (fun hHeld => ?_)
          · exact L30.out
          clear hK K
          try dsimp only at hHeld
          try simp only [Act.put, List.setIfInBounds_toArray, List.set_cons_zero, List.set_cons_succ, List.getElem_toArray, List.getElem_cons_succ, List.getElem_cons_zero]
          refine' wpAnyH_take (i := 31) (v := _) rfl (by kernel_rfl) (by kernel_rfl) (by kernel_rfl) (fun _ _ _ h => h) (Or.inl ⟨by rfl, ?_⟩) hHeld ?_
          rotate_left
          · (intro w hSw; (try dsimp only at hSw); go_simp; try with_reducible rfl)
          try simp only [Act.put, List.setIfInBounds_toArray, List.set_cons_zero, List.set_cons_succ, List.getElem_toArray, List.getElem_cons_succ, List.getElem_cons_zero]
          refine' wpAnyH_take (i := 32) (v := _) rfl (by kernel_rfl) (by kernel_rfl) (by kernel_rfl) (fun _ _ _ h => h) (Or.inl ⟨by rfl, ?_⟩) hHeld ?_
          rotate_left
          · (intro w hSw; (try dsimp only at hSw); go_simp; try with_reducible rfl)
          try simp only [Act.put, List.setIfInBounds_toArray, List.set_cons_zero, List.set_cons_succ, List.getElem_toArray, List.getElem_cons_succ, List.getElem_cons_zero]
          refine' wpAnyH_take (i := 33) (v := _) rfl (by kernel_rfl) (by kernel_rfl) (by kernel_rfl) (fun _ _ _ h => h) (Or.inl ⟨by rfl, ?_⟩) hHeld ?_
          rotate_left
          · (intro w hSw; (try dsimp only at hSw); go_simp; try with_reducible rfl)
          try simp only [Act.put, List.setIfInBounds_toArray, List.set_cons_zero, List.set_cons_succ, List.getElem_toArray, List.getElem_cons_succ, List.getElem_cons_zero]
          refine wpAnyH_done (by kernel_rfl) ?_ _
          obtain ⟨fb, bx⟩ := hHeld
          have BX := hid bx; clear fb bx
          go_wp2_with fail
          go_ret2
          exact ⟨rfl, BX.out.g⟩
        · try simp only [List.getElem_toArray, List.getElem_cons_succ, List.getElem_cons_zero]
          go_simp
          have hH2 := hHeld
          have bx := hH2
          refine (P4.out _).mono ?_
          rintro e w1030 ⟨rfl, hg⟩
          have L30 := hid (show (BoxM w m w1030) from bx.grown hg)
          clear hHeld hg bx
          go_wp2_with fail
          refine hK.out _ _ ?_ (fun hHeld => ?_)
          · exact L30.out
          clear hK K
          try dsimp only at hHeld
          try simp only [Act.put, List.setIfInBounds_toArray, List.set_cons_zero, List.set_cons_succ, List.getElem_toArray, List.getElem_cons_succ, List.getElem_cons_zero]
          refine wpAnyH_ready (rs := [9]) (by kernel_rfl) (by simp) ?_
          refine AllReadyH.cons (o := _) rfl (fun K hK => ?_) AllReadyH.nil
          have hH2 := hHeld
          have bx := hH2
          have hg : w1030.grownBy (w1030.alloc (.cells #[.int .u8 1, .int .u8 ((u8of m.kind).toNat : Int), .int .u8 ((u8of m.who).toNat : Int), .int .u8 ((u8of m.metric).toNat : Int)] 5)) none := World.grownBy_alloc _ _ _
          have L9 := hid (show (BoxM w m (w1030.alloc (.cells #[.int .u8 1, .int .u8 ((u8of m.kind).toNat : Int), .int .u8 ((u8of m.who).toNat : Int), .int .u8 ((u8of m.metric).toNat : Int)] 5))) from bx.grown hg)
          have Nfb := hid (own_block [1, u8of m.kind, u8of m.who, u8of m.metric] (at_new w1030 _) (by unfold maxLen; simp) (Nat.le_refl _)).bytes
          clear hHeld hg bx
          try simp only [List.getElem_toArray, List.getElem_cons_succ, List.getElem_cons_zero]
          go_simp
          refine hK.out _ _ ?_ (fun hHeld => ?_)
          · exact L9.out
          clear hK K
          try dsimp only at hHeld
          try simp only [Act.put, List.setIfInBounds_toArray, List.set_cons_zero, List.set_cons_succ, List.getElem_toArray, List.getElem_cons_succ, List.getElem_cons_zero]
          refine held_stronger (S' := fun w' => (fun w' => BytesAt w' (.slice (some ⟨w1030.heap.size, 0, none⟩) 4 4) [1, u8of m.kind, u8of m.who, u8of m.metric]) w' ∧ ((fun w' => (BoxM w m w'))) w') (fun _ h => h.2) _ _ _ _ ?_
          replace hHeld := And.intro Nfb.out hHeld
          try dsimp only at hHeld
          refine' wpAnyH_take (i := 10) (v := _) rfl (by kernel_rfl) (by kernel_rfl) (by kernel_rfl) (fun _ _ _ h => h) (Or.inl ⟨by rfl, ?_⟩) hHeld ?_
          rotate_left
          · (intro w hSw; (try dsimp only at hSw); obtain ⟨fb, bx⟩ := hSw; have cv := conv_bytes fb; go_simp; try with_reducible rfl)
          try simp only [Act.put, List.setIfInBounds_toArray, List.set_cons_zero, List.set_cons_succ, List.getElem_toArray, List.getElem_cons_succ, List.getElem_cons_zero]
          refine' wpAnyH_take (i := 16) (v := _) rfl (by kernel_rfl) (by kernel_rfl) (by kernel_rfl) (fun _ _ _ h => h) (Or.inl ⟨by rfl, ?_⟩) hHeld ?_
          rotate_left
          · (intro w hSw; (try dsimp only at hSw); go_simp; try with_reducible rfl)
          try simp only [Act.put, List.setIfInBounds_toArray, List.set_cons_zero, List.set_cons_succ, List.getElem_toArray, List.getElem_cons_succ, List.getElem_cons_zero]
          refine' wpAnyH_take (i := 21) (v := _) rfl (by kernel_rfl) (by kernel_rfl) (by kernel_rfl) (fun _ _ _ h => h) (Or.inl ⟨by rfl, ?_⟩) hHeld ?_
          rotate_left
          · (intro w hSw; (try dsimp only at hSw); go_simp; try with_reducible rfl)
          try simp only [Act.put, List.setIfInBounds_toArray, List.set_cons_zero, List.set_cons_succ, List.getElem_toArray, List.getElem_cons_succ, List.getElem_cons_zero]
          refine' wpAnyH_take (i := 26) (v := _) rfl (by kernel_rfl) (by kernel_rfl) (by kernel_rfl) (fun _ _ _ h => h) (Or.inl ⟨by rfl, ?_⟩) hHeld ?_
          rotate_left
          · (intro w hSw; (try dsimp only at hSw); go_simp; try with_reducible rfl)
          try simp only [Act.put, List.setIfInBounds_toArray, List.set_cons_zero, List.set_cons_succ, List.getElem_toArray, List.getElem_cons_succ, List.getElem_cons_zero]
          refine' wpAnyH_take (i := 31) (v := _) rfl (by kernel_rfl) (by kernel_rfl) (by kernel_rfl) (fun _ _ _ h => h) (Or.inl ⟨by rfl, ?_⟩) hHeld ?_
          rotate_left
          · (intro w hSw; (try dsimp only at hSw); go_simp; try with_reducible rfl)
          try simp only [Act.put, List.setIfInBounds_toArray, List.set_cons_zero, List.set_cons_succ, List.getElem_toArray, List.getElem_cons_succ, List.getElem_cons_zero]
          refine' wpAnyH_take (i := 32) (v := _) rfl (by kernel_rfl) (by kernel_rfl) (by kernel_rfl) (fun _ _ _ h => h) (Or.inl ⟨by rfl, ?_⟩) hHeld ?_
          rotate_left
          · (intro w hSw; (try dsimp only at hSw); go_simp; try with_reducible rfl)
          try simp only [Act.put, List.setIfInBounds_toArray, List.set_cons_zero, List.set_cons_succ, List.getElem_toArray, List.getElem_cons_succ, List.getElem_cons_zero]
          refine' wpAnyH_take (i := 33) (v := _) rfl (by kernel_rfl) (by kernel_rfl) (by kernel_rfl) (fun _ _ _ h => h) (Or.inl ⟨by rfl, ?_⟩) hHeld ?_
          rotate_left
          · (intro w hSw; (try dsimp only at hSw); go_simp; try with_reducible rfl)
          try simp only [Act.put, List.setIfInBounds_toArray, List.set_cons_zero, List.set_cons_succ, List.getElem_toArray, List.getElem_cons_succ, List.getElem_cons_zero]
          refine wpAnyH_done (by kernel_rfl) ?_ _
          obtain ⟨fb, bx⟩ := hHeld
          have BX := hid bx; clear fb bx
          go_wp2_with fail
          go_ret2
          exact ⟨rfl, BX.out.g⟩

end Go.Proofs.YtfhifnhnkgdnlaaGreat
end
section
set_option linter.unusedSimpArgs false
namespace Go.Proofs.YtfhifnhnkgdnlaaGreat
set_option maxRecDepth 100000
open Go.RowKit

set_option maxHeartbeats 3200000 in
theorem may_any (m : Mg) (w : World) :
    Calls Tryz.prog 62 #[mg m] w fun e w' => e = .returned (.bool (mayOf m)) ∧ w.grownBy w' none := by
  rw [may_bool]
  have hx1 := fun w => within_any m.kind 1 3 w
  have hx2 := fun w => within_any m.who 0 15 w
  have hx3 := fun w => within_any m.gen 0 60000 w
  have hx4 := fun w => within64_any m.seq 1 1099511627776 w
  have hx5 := fun w => within64_any m.epoch 0 1099511627776 w
  have hx6 := fun w => measures_any m w
  generalize within m.kind 1 3 = x1 at hx1 ⊢
  generalize within m.who 0 15 = x2 at hx2 ⊢
  generalize within m.gen 0 60000 = x3 at hx3 ⊢
  generalize within m.seq 1 1099511627776 = x4 at hx4 ⊢
  generalize within m.epoch 0 1099511627776 = x5 at hx5 ⊢
  generalize measB m = x6 at hx6 ⊢
  have Cx1 := hid hx1; have Cx2 := hid hx2; have Cx3 := hid hx3; have Cx4 := hid hx4; have Cx5 := hid hx5; have Cx6 := hid hx6; clear hx1 hx2 hx3 hx4 hx5 hx6
  cases x1
  · go_enter Tryz.func62, Tryz.ntmps62
    go_wp2_with (first | (go_at_call 101; (with_reducible refine (Cx1.out _).mono ?_); rintro e w1 ⟨rfl, rfl⟩) | (go_at_call 101; (with_reducible refine (Cx2.out _).mono ?_); rintro e w1 ⟨rfl, rfl⟩) | (go_at_call 101; (with_reducible refine (Cx3.out _).mono ?_); rintro e w1 ⟨rfl, rfl⟩) | (go_at_call 102; (with_reducible refine (Cx4.out _).mono ?_); rintro e w1 ⟨rfl, rfl⟩) | (go_at_call 102; (with_reducible refine (Cx5.out _).mono ?_); rintro e w1 ⟨rfl, rfl⟩) | (go_at_call 103; (with_reducible refine (Cx6.out _).mono ?_); rintro e w1 ⟨rfl, hg⟩; have G := hid hg; clear hg))
    go_ret
    exact ⟨rfl, gb_alloc (.refl w none) _⟩
  cases x2
  · go_enter Tryz.func62, Tryz.ntmps62
    go_wp2_with (first | (go_at_call 101; (with_reducible refine (Cx1.out _).mono ?_); rintro e w1 ⟨rfl, rfl⟩) | (go_at_call 101; (with_reducible refine (Cx2.out _).mono ?_); rintro e w1 ⟨rfl, rfl⟩) | (go_at_call 101; (with_reducible refine (Cx3.out _).mono ?_); rintro e w1 ⟨rfl, rfl⟩) | (go_at_call 102; (with_reducible refine (Cx4.out _).mono ?_); rintro e w1 ⟨rfl, rfl⟩) | (go_at_call 102; (with_reducible refine (Cx5.out _).mono ?_); rintro e w1 ⟨rfl, rfl⟩) | (go_at_call 103; (with_reducible refine (Cx6.out _).mono ?_); rintro e w1 ⟨rfl, hg⟩; have G := hid hg; clear hg))
    go_ret
    exact ⟨rfl, gb_alloc (.refl w none) _⟩
  cases x3
  · go_enter Tryz.func62, Tryz.ntmps62
    go_wp2_with (first | (go_at_call 101; (with_reducible refine (Cx1.out _).mono ?_); rintro e w1 ⟨rfl, rfl⟩) | (go_at_call 101; (with_reducible refine (Cx2.out _).mono ?_); rintro e w1 ⟨rfl, rfl⟩) | (go_at_call 101; (with_reducible refine (Cx3.out _).mono ?_); rintro e w1 ⟨rfl, rfl⟩) | (go_at_call 102; (with_reducible refine (Cx4.out _).mono ?_); rintro e w1 ⟨rfl, rfl⟩) | (go_at_call 102; (with_reducible refine (Cx5.out _).mono ?_); rintro e w1 ⟨rfl, rfl⟩) | (go_at_call 103; (with_reducible refine (Cx6.out _).mono ?_); rintro e w1 ⟨rfl, hg⟩; have G := hid hg; clear hg))
    go_ret
    exact ⟨rfl, gb_alloc (.refl w none) _⟩
  cases x4
  · go_enter Tryz.func62, Tryz.ntmps62
    go_wp2_with (first | (go_at_call 101; (with_reducible refine (Cx1.out _).mono ?_); rintro e w1 ⟨rfl, rfl⟩) | (go_at_call 101; (with_reducible refine (Cx2.out _).mono ?_); rintro e w1 ⟨rfl, rfl⟩) | (go_at_call 101; (with_reducible refine (Cx3.out _).mono ?_); rintro e w1 ⟨rfl, rfl⟩) | (go_at_call 102; (with_reducible refine (Cx4.out _).mono ?_); rintro e w1 ⟨rfl, rfl⟩) | (go_at_call 102; (with_reducible refine (Cx5.out _).mono ?_); rintro e w1 ⟨rfl, rfl⟩) | (go_at_call 103; (with_reducible refine (Cx6.out _).mono ?_); rintro e w1 ⟨rfl, hg⟩; have G := hid hg; clear hg))
    go_ret
    exact ⟨rfl, gb_alloc (.refl w none) _⟩
  cases x5
  · go_enter Tryz.func62, Tryz.ntmps62
    go_wp2_with (first | (go_at_call 101; (with_reducible refine (Cx1.out _).mono ?_); rintro e w1 ⟨rfl, rfl⟩) | (go_at_call 101; (with_reducible refine (Cx2.out _).mono ?_); rintro e w1 ⟨rfl, rfl⟩) | (go_at_call 101; (with_reducible refine (Cx3.out _).mono ?_); rintro e w1 ⟨rfl, rfl⟩) | (go_at_call 102; (with_reducible refine (Cx4.out _).mono ?_); rintro e w1 ⟨rfl, rfl⟩) | (go_at_call 102; (with_reducible refine (Cx5.out _).mono ?_); rintro e w1 ⟨rfl, rfl⟩) | (go_at_call 103; (with_reducible refine (Cx6.out _).mono ?_); rintro e w1 ⟨rfl, hg⟩; have G := hid hg; clear hg))
    go_ret
    exact ⟨rfl, gb_alloc (.refl w none) _⟩
  cases x6
  · go_enter Tryz.func62, Tryz.ntmps62
    go_wp2_with (first | (go_at_call 101; (with_reducible refine (Cx1.out _).mono ?_); rintro e w1 ⟨rfl, rfl⟩) | (go_at_call 101; (with_reducible refine (Cx2.out _).mono ?_); rintro e w1 ⟨rfl, rfl⟩) | (go_at_call 101; (with_reducible refine (Cx3.out _).mono ?_); rintro e w1 ⟨rfl, rfl⟩) | (go_at_call 102; (with_reducible refine (Cx4.out _).mono ?_); rintro e w1 ⟨rfl, rfl⟩) | (go_at_call 102; (with_reducible refine (Cx5.out _).mono ?_); rintro e w1 ⟨rfl, rfl⟩) | (go_at_call 103; (with_reducible refine (Cx6.out _).mono ?_); rintro e w1 ⟨rfl, hg⟩; have G := hid hg; clear hg))
    go_ret
    exact ⟨rfl, gb_trans (gb_alloc (.refl w none) _) G.out (.inl rfl)⟩
  go_enter Tryz.func62, Tryz.ntmps62
  go_wp2_with (first | (go_at_call 101; (with_reducible refine (Cx1.out _).mono ?_); rintro e w1 ⟨rfl, rfl⟩) | (go_at_call 101; (with_reducible refine (Cx2.out _).mono ?_); rintro e w1 ⟨rfl, rfl⟩) | (go_at_call 101; (with_reducible refine (Cx3.out _).mono ?_); rintro e w1 ⟨rfl, rfl⟩) | (go_at_call 102; (with_reducible refine (Cx4.out _).mono ?_); rintro e w1 ⟨rfl, rfl⟩) | (go_at_call 102; (with_reducible refine (Cx5.out _).mono ?_); rintro e w1 ⟨rfl, rfl⟩) | (go_at_call 103; (with_reducible refine (Cx6.out _).mono ?_); rintro e w1 ⟨rfl, hg⟩; have G := hid hg; clear hg))
  go_ret
  exact ⟨rfl, gb_trans (gb_alloc (.refl w none) _) G.out (.inl rfl)⟩

theorem q_one_or (x : BitVec 64) : bits .or .u64 1 (q x) = q (1#64 ||| x) := by
  rw [show (1 : Int) = q 1#64 by decide +kernel, q_or]
set_option maxHeartbeats 1600000 in
theorem head_any (m : Mg) (w : World) :
    Calls Tryz.prog 84 #[mg m] w fun e w' => e = .returned (.int .u64 (q (headOf m))) ∧ w.grownBy w' none := by
  have h1 := q_lit m.kind; have h2 := q_lit m.who; have h3 := q_lit m.metric; have h4 := q_lit m.gen
  have hor := q_one_or (w64 m.kind <<< 8)
  unfold headOf
  rw [← show w64 m.kind = BitVec.ofInt 64 m.kind from rfl] at h1
  rw [← show w64 m.who = BitVec.ofInt 64 m.who from rfl] at h2
  rw [← show w64 m.metric = BitVec.ofInt 64 m.metric from rfl] at h3
  rw [← show w64 m.gen = BitVec.ofInt 64 m.gen from rfl] at h4
  go_enter Tryz.func84, Tryz.ntmps84
  go_wp2_with fail
  go_ret
  exact ⟨rfl, gb_alloc (.refl w none) _⟩
end Go.Proofs.YtfhifnhnkgdnlaaGreat
end
section
namespace Go.Proofs.YtfhifnhnkgdnlaaGreat
set_option maxRecDepth 100000
open Go.RowKit
/-- a slice that reads as these slices of bytes -/
def RowsAt (w : World) (v : Value) (ls : List (Value × List UInt8)) : Prop :=
  (v = .slice none 0 0 ∧ ls = []) ∨
  ∃ a cap, v = .slice (some a) ls.length cap ∧ ls.length ≤ cap ∧ cap ≤ maxLen ∧ ∀ i, (h : i < ls.length) → w.cell? (a.add i) = some ls[i].1 ∧ BytesAt w ls[i].1 ls[i].2
theorem RowsAt.grown {w w1 : World} {v : Value} {l : List (Value × List UInt8)} (h : RowsAt w v l) (hg : w.grownBy w1 none) : RowsAt w1 v l := by
  rcases h with h | ⟨a, cap, rfl, h1, h2, h3⟩
  · exact .inl h
  · exact .inr ⟨a, cap, rfl, h1, h2, fun i hi => ⟨hg.cell (h3 i hi).1 (by simp), (h3 i hi).2.grown hg (by simp)⟩⟩
theorem RowsAt.cells {w : World} {v : Value} {l : List (Value × List UInt8)} (h : RowsAt w v l) (hp : 0 < l.length) :
    ∃ ab ao cap, v = .slice (some ⟨ab, ao, none⟩) l.length cap ∧ ∀ i, (h : i < l.length) → w.cell? ⟨ab, ao + i, none⟩ = some l[i].1 ∧ BytesAt w l[i].1 l[i].2 := by
  rcases h with ⟨_, rfl⟩ | ⟨⟨ab, ao, asp⟩, cap, rfl, _, _, h3⟩
  · cases hp
  · have h0 := (h3 0 hp).1
    have hsp : asp = none := by simpa [Addr.add] using World.cell?_spot h0
    subst hsp
    refine ⟨ab, ao, cap, rfl, fun i hi => ?_⟩
    have := h3 i hi
    unfold Addr.add at this
    split at this
    · next h => subst h; simpa using this
    · simpa using this
theorem BytesAt.form {w : World} {v : Value} {l : List UInt8} (h : BytesAt w v l) : ∃ p c, v = .slice p l.length c := by
  rcases h with ⟨rfl, rfl⟩ | ⟨a, cap, rfl, _, _, _⟩
  · exact ⟨none, 0, rfl⟩
  · exact ⟨some a, cap, rfl⟩
end Go.Proofs.YtfhifnhnkgdnlaaGreat
end
section
set_option linter.unusedSimpArgs false
namespace Go.Proofs.YtfhifnhnkgdnlaaGreat
set_option maxRecDepth 100000
open Go.RowKit

/-- all the bytes, one behind the other -/
def flatB (ls : List (Value × List UInt8)) : List UInt8 := ls.flatMap (·.2)
theorem flatB_take (ls : List (Value × List UInt8)) (k : Nat) (h : k < ls.length) : flatB (ls.take (k + 1)) = flatB (ls.take k) ++ ls[k].2 := by
  unfold flatB; rw [List.take_succ_eq_append_getElem h, List.flatMap_append]; simp only [List.flatMap_cons, List.flatMap_nil, List.append_nil]
theorem flatB_le (ls : List (Value × List UInt8)) (k : Nat) : (flatB (ls.take k)).length ≤ (flatB ls).length := by
  have e : flatB ls = flatB (ls.take k) ++ flatB (ls.drop k) := by
    unfold flatB; rw [← List.flatMap_append, List.take_append_drop]
  rw [e, List.length_append]; omega

set_option maxHeartbeats 1600000 in
/-- room for n bytes behind nothing -/
theorem grow_nil (n : Nat) (h0 : 0 < n) (h1 : n ≤ 1000000) (w : World) :
    Calls Tryz.prog 114 #[.slice none 0 0, .int .i64 (n : Int)] w fun e w' => ∃ v, e = .returned v ∧ OwnB w.heap.size w' v [] ∧ w.grownBy w' none := by
  obtain ⟨i, hi, hz0, hz1, hz2⟩ := info_parts info_u8
  have hr : ∀ ty, (Builtin.append_ #[40, 3] ty #[.slice none 0 0, .int .i64 (n : Int)]).run Tryz.prog w = .ok (.slice (some ⟨w.heap.size, 0, none⟩) n (grownCap w n 0 5)) (w.drew.alloc (.cells (#[] ++ Builtin.zeroCells (Value.int .u8 0).cells n ++ Builtin.zeroCells (Value.int .u8 0).cells (grownCap w n 0 5 - n)) 5)) := fun ty => by
    have h := Lib.run_append_grow_zeros w 40 3 ty 5 i (.int .u8 0) .i64 .i64 Tryz.underlying40 Tryz.underlying3 hi hz0 none 0 0 []
      (by rw [hz1]; exact run_firstCells_none w.drew 1 0 0 0) n h0 (by omega) (by omega) (by omega) (by rw [hz2]; omega) (by rw [hz2]; exact growslice_fits (by omega) (by omega))
    rw [Nat.zero_add] at h
    exact h
  have hG := grownCap_ge w n 0 5
  have hM := grownCap_le_maxLen w n 0 5 (by unfold maxLen; omega)
  have hc : (#[] ++ Builtin.zeroCells (Value.int .u8 0).cells n ++ Builtin.zeroCells (Value.int .u8 0).cells (grownCap w n 0 5 - n)).size = grownCap w n 0 5 := by
    simp [Builtin.zeroCells, Value.cells]; omega
  generalize #[] ++ Builtin.zeroCells (Value.int .u8 0).cells n ++ Builtin.zeroCells (Value.int .u8 0).cells (grownCap w n 0 5 - n) = cs at hr hc
  obtain ⟨G, hGe⟩ : ∃ G, G = grownCap w n 0 5 := ⟨_, rfl⟩
  rw [← hGe] at hr hG hM hc
  clear hGe
  have HM := hid hM; have HC := hid hc; clear hM hc
  have hb : (G : Int) ≤ 9223372036854775807 := by have := HM.out; unfold maxLen at this; omega
  go_enter Tryz.func114, Tryz.ntmps114
  go_wp2_with (at_builtin; refine Lib.wpList_append_run _ rfl _ _ _ _ rfl _ _ rfl rfl _ _ (hr _) ?_)
  go_ret
  exact ⟨_, rfl, ⟨rfl, .inr ⟨w.heap.size, G, cs, rfl, Nat.le_refl _, at_new w.drew _, Nat.zero_le _, HM.out, by rw [HC.out, Nat.mul_one], rfl⟩⟩, gb_alloc (gb_drew (.refl w none)) _⟩

/-- the length of the first k -/
def lenK (ls : List (Value × List UInt8)) (k : Nat) : Nat := (flatB (ls.take k)).length
theorem lenK_succ (ls : List (Value × List UInt8)) (k : Nat) (h : k < ls.length) : lenK ls (k + 1) = lenK ls k + ls[k].2.length := by
  unfold lenK; rw [flatB_take ls k h, List.length_append]
theorem lenK_le (ls : List (Value × List UInt8)) (k : Nat) : lenK ls k ≤ (flatB ls).length := flatB_le ls k

set_option maxHeartbeats 3200000 in
theorem concat_any (ls : List (Value × List UInt8)) (v : Value) (w : World) (h : RowsAt w v ls) (h0 : 0 < (flatB ls).length) (h1 : (flatB ls).length ≤ 1000000) :
    Calls Tryz.prog 82 #[v] w fun e w' => ∃ u, e = .returned u ∧ OwnB w.heap.size w' u (flatB ls) ∧ w.grownBy w' none := by
  have hp : 0 < ls.length := by
    rcases Nat.eq_zero_or_pos ls.length with e | e
    · rw [List.length_eq_zero_iff.1 e] at h0; simp [flatB] at h0
    · exact e
  have hn : (ls.length : Int) ≤ 9223372036854775807 := by
    rcases h with ⟨_, e⟩ | ⟨_, c, _, k1, k2, _⟩
    · rw [e]; simp
    · unfold maxLen at k2; omega
  obtain ⟨ab, ao, cap, rfl, hc⟩ := h.cells hp
  have HR := hid h; have HC := hid hc; have H0 := hid h0; have H1 := hid h1; clear h hc h0 h1
  obtain ⟨N, hN⟩ : ∃ N, N = ls.length := ⟨_, rfl⟩
  rw [← hN] at hp hn ⊢
  have HN := hid hN; clear hN
  have hfull : lenK ls N = (flatB ls).length := by unfold lenK; rw [HN.out, List.take_length]
  have HF := hid hfull; clear hfull
  go_enter Tryz.func82, Tryz.ntmps82
  go_wp2_with fail
  go_loop [3, 5, 11] (fun s _ i => ∃ k : Nat, k ≤ N ∧ i = .int .i64 (k : Int) ∧ s = .int .i64 (lenK ls k : Int)) (fun _ _ i => N - (intOf i).toNat)
  case atStart => exact ⟨0, Nat.zero_le _, rfl, rfl⟩
  case round =>
    obtain ⟨k, hk, rfl, rfl⟩ := hrel
    by_cases hlt : k < N
    · obtain ⟨cell, hby⟩ := HC.out k (by rw [← HN.out]; exact hlt)
      have hs := lenK_succ ls k (by rw [← HN.out]; exact hlt)
      have hl := lenK_le ls (k + 1)
      have H1' := H1.out
      generalize ls[k]'(by rw [← HN.out]; exact hlt) = vk at cell hby hs
      obtain ⟨vv, bk⟩ := vk
      obtain ⟨p, c, hf⟩ := hby.form
      dsimp only at hf cell hs
      rw [hf] at cell
      have hb1 : (0 : Int) ≤ (lenK ls k : Int) := by omega
      have hb2 : (lenK ls k : Int) + (bk.length : Int) ≤ 1000000 := by omega
      have hb3 : (0 : Int) ≤ (bk.length : Int) := by omega
      have HS := hid hs; clear hs hf hl H1' hby
      go_wp2_with fail
      go_round
      case rel => exact ⟨k + 1, by omega, by go_num, by rw [HS.out]; push_cast; rfl⟩
      case measure => simp [intOf]; omega
    · obtain rfl : k = N := by omega
      have HFk := hid (show (lenK ls k : Int) = ((flatB ls).length : Int) by rw [HF.out])
      rw [HF.out]
      go_wp2_with fail
      refine (grow_nil _ H0.out H1.out _).mono ?_
      rintro e w1 ⟨v0, rfl, ho, hg⟩
      have HO := hid ho; have HG := hid hg; clear ho hg
      go_wp2_with fail
      go_loopw [6, 8, 27] (fun u _ i wr => ∃ j : Nat, j ≤ k ∧ i = .int .i64 (j : Int) ∧ OwnB w.heap.size wr u (flatB (ls.take j)) ∧ w.grownBy wr none) (fun _ _ i _ => k - (intOf i).toNat)
      case atStart => exact ⟨0, Nat.zero_le _, rfl, by simpa [flatB] using HO.out, HG.out⟩
      case round =>
        obtain ⟨j, hj, rfl, hown, hgr⟩ := hrel
        have HOW := hid hown; have HGR := hid hgr; clear hown hgr
        by_cases hjl : j < k
        · have hjl' : j < ls.length := by rw [← HN.out]; exact hjl
          obtain ⟨cell, hby⟩ := HC.out j hjl'
          have hs := flatB_take ls j hjl'
          have hl := flatB_le ls (j + 1)
          rw [hs, List.length_append] at hl
          have cell' := HGR.out.cell cell (by simp)
          have hby' := hby.grown HGR.out (by simp)
          generalize ls[j] = vk at cell' hby' hs hl
          clear cell hby
          obtain ⟨vv, bk⟩ := vk
          have HB := hid hby'; have HS := hid hs; have HL := hid hl; clear hby' hs hl
          dsimp only at cell'
          have hsz := gb_size HGR.out
          go_wp2_with (refine append_bytes rfl _ _ rfl w.heap.size _ _ rfl HOW.out _ _ rfl HB.out (by have := H1.out; have := HL.out; dsimp only at this ⊢; omega) hsz ?_; intro u1 w2 o1 g1 a1)
          go_roundw
          case rel => exact ⟨j + 1, by omega, by go_num, by rw [HS.out]; exact o1, gb_own HGR.out HOW.out (Nat.le_refl _) g1⟩
          case measure => simp [intOf]; omega
        · obtain rfl : j = k := by omega
          go_wp2_with fail
          go_ret
          refine ⟨_, rfl, ?_, HGR.out⟩
          have := HOW.out
          rwa [HN.out, List.take_length] at this
end Go.Proofs.YtfhifnhnkgdnlaaGreat
end
section
set_option linter.unusedSimpArgs false
set_option linter.unusedVariables false
namespace Go.Proofs.YtfhifnhnkgdnlaaGreat
set_option maxRecDepth 100000
open Go.RowKit

def s8 (b : Nat) : Value := .slice (some ⟨b, 0, none⟩) 8 8
def rowsOf (m : Mg) (a b c d : Nat) : List (Value × List UInt8) := [(.slice (some ⟨a, 0, none⟩) 8 8, put8 (headOf m)), (.slice (some ⟨b, 0, none⟩) 8 8, put8 (w64 m.seq)), (.slice (some ⟨c, 0, none⟩) 8 8, put8 (w64 m.epoch)), (.slice (some ⟨d, 0, none⟩) 8 8, put8 (w64 m.value))]
theorem rowsOf_flat (m : Mg) (a b c d : Nat) : flatB (rowsOf m a b c d) = putOf m := by simp [flatB, rowsOf, putOf]
theorem rows_four {w : World} {g : Nat} {t : TypeId} {v0 v1 v2 v3 : Value} {l0 l1 l2 l3 : List UInt8} (h : w.heap[g]? = some (.cells #[v0, v1, v2, v3] t)) (h0 : BytesAt w v0 l0) (h1 : BytesAt w v1 l1) (h2 : BytesAt w v2 l2) (h3 : BytesAt w v3 l3) :
    RowsAt w (.slice (some ⟨g, 0, none⟩) 4 4) [(v0, l0), (v1, l1), (v2, l2), (v3, l3)] := by
  refine .inr ⟨_, 4, rfl, Nat.le_refl _, by unfold maxLen; decide, fun i hi => ?_⟩
  have e : (⟨g, 0, none⟩ : Addr).add i = ⟨g, i, none⟩ := by unfold Addr.add; split <;> simp_all
  rw [e, at_cell h i]
  rcases (by simp at hi; omega : i = 0 ∨ i = 1 ∨ i = 2 ∨ i = 3) with rfl | rfl | rfl | rfl
  · exact ⟨rfl, h0⟩
  · exact ⟨rfl, h1⟩
  · exact ⟨rfl, h2⟩
  · exact ⟨rfl, h3⟩

set_option maxHeartbeats 1600000 in
theorem wput_bad (m : Mg) (hm : mayOf m = false) (w : World) :
    Calls Tryz.prog 35 #[mg m] w fun e w' => e = .returned (.tuple #[.slice none 0 0, .int .i64 1]) ∧ w.grownBy w' none := by
  have hc := may_any m
  rw [hm] at hc
  have C := hid hc; clear hc hm
  have B := hid (boxm_new w m)
  go_enter Tryz.func35, Tryz.ntmps35
  go_wp2_with (refine wpList_row B.out.box Tryz.underlying39 rfl (by kernel_rfl) rfl rfl rfl rfl ?_)
  refine (C.out _).mono ?_
  rintro e w1 ⟨rfl, hg⟩
  have G := hid hg; clear hg
  go_wp2_with fail
  go_ret2
  exact ⟨rfl, gb_trans (gb_alloc (.refl w none) _) G.out (.inl rfl)⟩

set_option maxHeartbeats 3200000 in
theorem wput_good (m : Mg) (hm : mayOf m = true) (w : World) :
    Calls Tryz.prog 35 #[mg m] w fun e w' => ∃ v, e = .returned (.tuple #[v, .int .i64 0]) ∧ OwnB w.heap.size w' v (putOf m) ∧ w.grownBy w' none := by
  have hc := may_any m
  rw [hm] at hc
  have C := hid hc; clear hc hm
  have B0 := hid (boxm_new w m)
  go_enter Tryz.func35, Tryz.ntmps35
  go_wp2_with (refine wpList_row B0.out.box Tryz.underlying39 rfl (by kernel_rfl) rfl rfl rfl rfl ?_)
  refine (C.out _).mono ?_
  rintro e w1 ⟨rfl, hg⟩
  have B := hid (B0.out.grown hg); clear hg B0 C
  have hs : IntKind.u64.wrap m.seq = q (w64 m.seq) := q_lit m.seq
  have he : IntKind.u64.wrap m.epoch = q (w64 m.epoch) := q_lit m.epoch
  have hv : IntKind.u64.wrap m.value = q (w64 m.value) := q_lit m.value
  go_wp2_with fail
  refine wp_region_held_drew (S := (fun w' => (BoxM w m w'))) (by kernel_rfl) B.out.drew (fun hHeld => ?_)
  try dsimp only at hHeld
  refine' wpAnyH_take (i := 0) (v := _) rfl (by kernel_rfl) (by kernel_rfl) (by kernel_rfl) (fun _ _ _ h => h) (Or.inl ⟨by rfl, ?_⟩) hHeld ?_
  rotate_left
  · (intro w hSw; (try dsimp only at hSw); (try simp only [List.getElem_toArray, List.getElem_cons_succ, List.getElem_cons_zero]); refine exec_row (x := .tmp 1) hSw.box Tryz.underlying39 rfl (by kernel_rfl) ?_ ?_ <;> rfl)
  try simp only [Act.put, List.setIfInBounds_toArray, List.set_cons_zero, List.set_cons_succ, List.getElem_toArray, List.getElem_cons_succ, List.getElem_cons_zero]
  refine' wpAnyH_take (i := 3) (v := _) rfl (by kernel_rfl) (by kernel_rfl) (by kernel_rfl) (fun _ _ _ h => h) (Or.inl ⟨by rfl, ?_⟩) hHeld ?_
  rotate_left
  · (intro w hSw; (try dsimp only at hSw); go_simp; try with_reducible rfl)
  try simp only [Act.put, List.setIfInBounds_toArray, List.set_cons_zero, List.set_cons_succ, List.getElem_toArray, List.getElem_cons_succ, List.getElem_cons_zero]
  refine' wpAnyH_take (i := 4) (v := _) rfl (by kernel_rfl) (by kernel_rfl) (by kernel_rfl) (fun _ _ _ h => h) (Or.inl ⟨by rfl, ?_⟩) hHeld ?_
  rotate_left
  · (intro w hSw; (try dsimp only at hSw); have bx := hSw; obtain ⟨d0, d1, d2, d3, d4, d5, d6⟩ := msg_cells bx.box; go_simp; try with_reducible rfl)
  try simp only [Act.put, List.setIfInBounds_toArray, List.set_cons_zero, List.set_cons_succ, List.getElem_toArray, List.getElem_cons_succ, List.getElem_cons_zero]
  refine' wpAnyH_take (i := 5) (v := _) rfl (by kernel_rfl) (by kernel_rfl) (by kernel_rfl) (fun _ _ _ h => h) (Or.inl ⟨by rfl, ?_⟩) hHeld ?_
  rotate_left
  · (intro w hSw; (try dsimp only at hSw); go_simp; try with_reducible rfl)
  try simp only [Act.put, List.setIfInBounds_toArray, List.set_cons_zero, List.set_cons_succ, List.getElem_toArray, List.getElem_cons_succ, List.getElem_cons_zero]
  refine' wpAnyH_take (i := 7) (v := _) rfl (by kernel_rfl) (by kernel_rfl) (by kernel_rfl) (fun _ _ _ h => h) (Or.inl ⟨by rfl, ?_⟩) hHeld ?_
  rotate_left
  · (intro w hSw; (try dsimp only at hSw); go_simp; try with_reducible rfl)
  try simp only [Act.put, List.setIfInBounds_toArray, List.set_cons_zero, List.set_cons_succ, List.getElem_toArray, List.getElem_cons_succ, List.getElem_cons_zero]
  refine' wpAnyH_take (i := 8) (v := _) rfl (by kernel_rfl) (by kernel_rfl) (by kernel_rfl) (fun _ _ _ h => h) (Or.inl ⟨by rfl, ?_⟩) hHeld ?_
  rotate_left
  · (intro w hSw; (try dsimp only at hSw); have bx := hSw; obtain ⟨d0, d1, d2, d3, d4, d5, d6⟩ := msg_cells bx.box; go_simp; try with_reducible rfl)
  try simp only [Act.put, List.setIfInBounds_toArray, List.set_cons_zero, List.set_cons_succ, List.getElem_toArray, List.getElem_cons_succ, List.getElem_cons_zero]
  refine' wpAnyH_take (i := 9) (v := _) rfl (by kernel_rfl) (by kernel_rfl) (by kernel_rfl) (fun _ _ _ h => h) (Or.inl ⟨by rfl, ?_⟩) hHeld ?_
  rotate_left
  · (intro w hSw; (try dsimp only at hSw); go_simp; try with_reducible rfl)
  try simp only [Act.put, List.setIfInBounds_toArray, List.set_cons_zero, List.set_cons_succ, List.getElem_toArray, List.getElem_cons_succ, List.getElem_cons_zero]
  refine' wpAnyH_take (i := 11) (v := _) rfl (by kernel_rfl) (by kernel_rfl) (by kernel_rfl) (fun _ _ _ h => h) (Or.inl ⟨by rfl, ?_⟩) hHeld ?_
  rotate_left
  · (intro w hSw; (try dsimp only at hSw); go_simp; try with_reducible rfl)
  try simp only [Act.put, List.setIfInBounds_toArray, List.set_cons_zero, List.set_cons_succ, List.getElem_toArray, List.getElem_cons_succ, List.getElem_cons_zero]
  refine' wpAnyH_take (i := 12) (v := _) rfl (by kernel_rfl) (by kernel_rfl) (by kernel_rfl) (fun _ _ _ h => h) (Or.inl ⟨by rfl, ?_⟩) hHeld ?_
  rotate_left
  · (intro w hSw; (try dsimp only at hSw); have bx := hSw; obtain ⟨d0, d1, d2, d3, d4, d5, d6⟩ := msg_cells bx.box; go_simp; try with_reducible rfl)
  try simp only [Act.put, List.setIfInBounds_toArray, List.set_cons_zero, List.set_cons_succ, List.getElem_toArray, List.getElem_cons_succ, List.getElem_cons_zero]
  refine' wpAnyH_take (i := 13) (v := _) rfl (by kernel_rfl) (by kernel_rfl) (by kernel_rfl) (fun _ _ _ h => h) (Or.inl ⟨by rfl, ?_⟩) hHeld ?_
  rotate_left
  · (intro w hSw; (try dsimp only at hSw); go_simp; try with_reducible rfl)
  try simp only [Act.put, List.setIfInBounds_toArray, List.set_cons_zero, List.set_cons_succ, List.getElem_toArray, List.getElem_cons_succ, List.getElem_cons_zero]
  refine wpAnyH_ready (rs := [1]) (by kernel_rfl) (by simp) ?_
  refine AllReadyH.cons (o := _) rfl (fun K hK => ?_) AllReadyH.nil
  try simp only [List.getElem_toArray, List.getElem_cons_succ, List.getElem_cons_zero]
  go_simp
  have hH2 := hHeld
  have bx := hH2
  refine (head_any m _).mono ?_
  rintro e w1001 ⟨rfl, hg⟩
  have L1 := hid (show (BoxM w m w1001) from bx.grown hg)
  clear hHeld hg bx
  go_wp2_with fail
  refine hK.out _ _ ?_ (fun hHeld => ?_)
  · exact L1.out
  clear hK K
  try dsimp only at hHeld
  try simp only [Act.put, List.setIfInBounds_toArray, List.set_cons_zero, List.set_cons_succ, List.getElem_toArray, List.getElem_cons_succ, List.getElem_cons_zero]
  refine wpAnyH_ready (rs := [2]) (by kernel_rfl) (by simp) ?_
  refine AllReadyH.cons (o := _) rfl (fun K hK => ?_) AllReadyH.nil
  try simp only [List.getElem_toArray, List.getElem_cons_succ, List.getElem_cons_zero]
  go_simp
  have hH2 := hHeld
  have bx := hH2
  refine (put_any (headOf m) _).mono ?_
  rintro e w1002 ⟨rfl, ha, hg⟩
  have L2 := hid (show (BoxM w m w1002) from bx.grown hg)
  have Np0 := hid (own_put (headOf m) ha (Nat.le_refl _)).bytes
  clear hHeld hg bx
  go_wp2_with fail
  refine hK.out _ _ ?_ (fun hHeld => ?_)
  · exact L2.out
  clear hK K
  try dsimp only at hHeld
  try simp only [Act.put, List.setIfInBounds_toArray, List.set_cons_zero, List.set_cons_succ, List.getElem_toArray, List.getElem_cons_succ, List.getElem_cons_zero]
  refine held_stronger (S' := fun w' => (fun w' => BytesAt w' (.slice (some ⟨w1001.heap.size, 0, none⟩) 8 8) (put8 (headOf m))) w' ∧ ((fun w' => (BoxM w m w'))) w') (fun _ h => h.2) _ _ _ _ ?_
  replace hHeld := And.intro Np0.out hHeld
  try dsimp only at hHeld
  refine wpAnyH_ready (rs := [6]) (by kernel_rfl) (by simp) ?_
  refine AllReadyH.cons (o := _) rfl (fun K hK => ?_) AllReadyH.nil
  try simp only [List.getElem_toArray, List.getElem_cons_succ, List.getElem_cons_zero]
  go_simp
  have hH2 := hHeld
  obtain ⟨p0, bx⟩ := hH2
  refine (put_any (w64 m.seq) _).mono ?_
  rintro e w1006 ⟨rfl, ha, hg⟩
  have L6 := hid (show (BytesAt w1006 (.slice (some ⟨w1001.heap.size, 0, none⟩) 8 8) (put8 (headOf m))) ∧ (BoxM w m w1006) from ⟨p0.grown hg (by simp), bx.grown hg⟩)
  have Np1 := hid (own_put (w64 m.seq) ha (Nat.le_refl _)).bytes
  clear hHeld hg p0 bx
  go_wp2_with fail
  refine hK.out _ _ ?_ (fun hHeld => ?_)
  · exact L6.out
  clear hK K
  try dsimp only at hHeld
  try simp only [Act.put, List.setIfInBounds_toArray, List.set_cons_zero, List.set_cons_succ, List.getElem_toArray, List.getElem_cons_succ, List.getElem_cons_zero]
  refine held_stronger (S' := fun w' => (fun w' => BytesAt w' (.slice (some ⟨w1002.heap.size, 0, none⟩) 8 8) (put8 (w64 m.seq))) w' ∧ ((fun w' => (BytesAt w' (.slice (some ⟨w1001.heap.size, 0, none⟩) 8 8) (put8 (headOf m))) ∧ (BoxM w m w'))) w') (fun _ h => h.2) _ _ _ _ ?_
  replace hHeld := And.intro Np1.out hHeld
  try dsimp only at hHeld
  refine wpAnyH_ready (rs := [10]) (by kernel_rfl) (by simp) ?_
  refine AllReadyH.cons (o := _) rfl (fun K hK => ?_) AllReadyH.nil
  try simp only [List.getElem_toArray, List.getElem_cons_succ, List.getElem_cons_zero]
  go_simp
  have hH2 := hHeld
  obtain ⟨p1, p0, bx⟩ := hH2
  refine (put_any (w64 m.epoch) _).mono ?_
  rintro e w1010 ⟨rfl, ha, hg⟩
  have L10 := hid (show (BytesAt w1010 (.slice (some ⟨w1002.heap.size, 0, none⟩) 8 8) (put8 (w64 m.seq))) ∧ (BytesAt w1010 (.slice (some ⟨w1001.heap.size, 0, none⟩) 8 8) (put8 (headOf m))) ∧ (BoxM w m w1010) from ⟨p1.grown hg (by simp), p0.grown hg (by simp), bx.grown hg⟩)
  have Np2 := hid (own_put (w64 m.epoch) ha (Nat.le_refl _)).bytes
  clear hHeld hg p1 p0 bx
  go_wp2_with fail
  refine hK.out _ _ ?_ (fun hHeld => ?_)
  · exact L10.out
  clear hK K
  try dsimp only at hHeld
  try simp only [Act.put, List.setIfInBounds_toArray, List.set_cons_zero, List.set_cons_succ, List.getElem_toArray, List.getElem_cons_succ, List.getElem_cons_zero]
  refine held_stronger (S' := fun w' => (fun w' => BytesAt w' (.slice (some ⟨w1006.heap.size, 0, none⟩) 8 8) (put8 (w64 m.epoch))) w' ∧ ((fun w' => (BytesAt w' (.slice (some ⟨w1002.heap.size, 0, none⟩) 8 8) (put8 (w64 m.seq))) ∧ (BytesAt w' (.slice (some ⟨w1001.heap.size, 0, none⟩) 8 8) (put8 (headOf m))) ∧ (BoxM w m w'))) w') (fun _ h => h.2) _ _ _ _ ?_
  replace hHeld := And.intro Np2.out hHeld
  try dsimp only at hHeld
  refine wpAnyH_ready (rs := [14]) (by kernel_rfl) (by simp) ?_
  refine AllReadyH.cons (o := _) rfl (fun K hK => ?_) AllReadyH.nil
  try simp only [List.getElem_toArray, List.getElem_cons_succ, List.getElem_cons_zero]
  go_simp
  have hH2 := hHeld
  obtain ⟨p2, p1, p0, bx⟩ := hH2
  refine (put_any (w64 m.value) _).mono ?_
  rintro e w1014 ⟨rfl, ha, hg⟩
  have L14 := hid (show (BytesAt w1014 (.slice (some ⟨w1006.heap.size, 0, none⟩) 8 8) (put8 (w64 m.epoch))) ∧ (BytesAt w1014 (.slice (some ⟨w1002.heap.size, 0, none⟩) 8 8) (put8 (w64 m.seq))) ∧ (BytesAt w1014 (.slice (some ⟨w1001.heap.size, 0, none⟩) 8 8) (put8 (headOf m))) ∧ (BoxM w m w1014) from ⟨p2.grown hg (by simp), p1.grown hg (by simp), p0.grown hg (by simp), bx.grown hg⟩)
  have Np3 := hid (own_put (w64 m.value) ha (Nat.le_refl _)).bytes
  clear hHeld hg p2 p1 p0 bx
  go_wp2_with fail
  refine hK.out _ _ ?_ (fun hHeld => ?_)
  · exact L14.out
  clear hK K
  try dsimp only at hHeld
  try simp only [Act.put, List.setIfInBounds_toArray, List.set_cons_zero, List.set_cons_succ, List.getElem_toArray, List.getElem_cons_succ, List.getElem_cons_zero]
  refine held_stronger (S' := fun w' => (fun w' => BytesAt w' (.slice (some ⟨w1010.heap.size, 0, none⟩) 8 8) (put8 (w64 m.value))) w' ∧ ((fun w' => (BytesAt w' (.slice (some ⟨w1006.heap.size, 0, none⟩) 8 8) (put8 (w64 m.epoch))) ∧ (BytesAt w' (.slice (some ⟨w1002.heap.size, 0, none⟩) 8 8) (put8 (w64 m.seq))) ∧ (BytesAt w' (.slice (some ⟨w1001.heap.size, 0, none⟩) 8 8) (put8 (headOf m))) ∧ (BoxM w m w'))) w') (fun _ h => h.2) _ _ _ _ ?_
  replace hHeld := And.intro Np3.out hHeld
  try dsimp only at hHeld
  refine wpAnyH_ready (rs := [15]) (by kernel_rfl) (by simp) ?_
  refine AllReadyH.cons (o := _) rfl (fun K hK => ?_) AllReadyH.nil
  have hH2 := hHeld
  obtain ⟨p3, p2, p1, p0, bx⟩ := hH2
  have hg : w1014.grownBy (w1014.alloc (.cells #[.slice (some ⟨w1001.heap.size, 0, none⟩) 8 8, .slice (some ⟨w1002.heap.size, 0, none⟩) 8 8, .slice (some ⟨w1006.heap.size, 0, none⟩) 8 8, .slice (some ⟨w1010.heap.size, 0, none⟩) 8 8] 40)) none := World.grownBy_alloc _ _ _
  have L15 := hid (show (BytesAt ((w1014.alloc (.cells #[.slice (some ⟨w1001.heap.size, 0, none⟩) 8 8, .slice (some ⟨w1002.heap.size, 0, none⟩) 8 8, .slice (some ⟨w1006.heap.size, 0, none⟩) 8 8, .slice (some ⟨w1010.heap.size, 0, none⟩) 8 8] 40))) (.slice (some ⟨w1010.heap.size, 0, none⟩) 8 8) (put8 (w64 m.value))) ∧ (BytesAt ((w1014.alloc (.cells #[.slice (some ⟨w1001.heap.size, 0, none⟩) 8 8, .slice (some ⟨w1002.heap.size, 0, none⟩) 8 8, .slice (some ⟨w1006.heap.size, 0, none⟩) 8 8, .slice (some ⟨w1010.heap.size, 0, none⟩) 8 8] 40))) (.slice (some ⟨w1006.heap.size, 0, none⟩) 8 8) (put8 (w64 m.epoch))) ∧ (BytesAt ((w1014.alloc (.cells #[.slice (some ⟨w1001.heap.size, 0, none⟩) 8 8, .slice (some ⟨w1002.heap.size, 0, none⟩) 8 8, .slice (some ⟨w1006.heap.size, 0, none⟩) 8 8, .slice (some ⟨w1010.heap.size, 0, none⟩) 8 8] 40))) (.slice (some ⟨w1002.heap.size, 0, none⟩) 8 8) (put8 (w64 m.seq))) ∧ (BytesAt ((w1014.alloc (.cells #[.slice (some ⟨w1001.heap.size, 0, none⟩) 8 8, .slice (some ⟨w1002.heap.size, 0, none⟩) 8 8, .slice (some ⟨w1006.heap.size, 0, none⟩) 8 8, .slice (some ⟨w1010.heap.size, 0, none⟩) 8 8] 40))) (.slice (some ⟨w1001.heap.size, 0, none⟩) 8 8) (put8 (headOf m))) ∧ (BoxM w m ((w1014.alloc (.cells #[.slice (some ⟨w1001.heap.size, 0, none⟩) 8 8, .slice (some ⟨w1002.heap.size, 0, none⟩) 8 8, .slice (some ⟨w1006.heap.size, 0, none⟩) 8 8, .slice (some ⟨w1010.heap.size, 0, none⟩) 8 8] 40)))) from ⟨p3.grown hg (by simp), p2.grown hg (by simp), p1.grown hg (by simp), p0.grown hg (by simp), bx.grown hg⟩)
  have Nrw := hid (rows_four (at_new w1014 _) (p0.grown hg (by simp)) (p1.grown hg (by simp)) (p2.grown hg (by simp)) (p3.grown hg (by simp)))
  clear hHeld hg p3 p2 p1 p0 bx
  try simp only [List.getElem_toArray, List.getElem_cons_succ, List.getElem_cons_zero]
  go_simp
  refine hK.out _ _ ?_ (fun hHeld => ?_)
  · exact L15.out
  clear hK K
  try dsimp only at hHeld
  try simp only [Act.put, List.setIfInBounds_toArray, List.set_cons_zero, List.set_cons_succ, List.getElem_toArray, List.getElem_cons_succ, List.getElem_cons_zero]
  refine held_stronger (S' := fun w' => (fun w' => RowsAt w' (.slice (some ⟨w1014.heap.size, 0, none⟩) 4 4) (rowsOf m w1001.heap.size w1002.heap.size w1006.heap.size w1010.heap.size)) w' ∧ ((fun w' => (BytesAt w' (.slice (some ⟨w1010.heap.size, 0, none⟩) 8 8) (put8 (w64 m.value))) ∧ (BytesAt w' (.slice (some ⟨w1006.heap.size, 0, none⟩) 8 8) (put8 (w64 m.epoch))) ∧ (BytesAt w' (.slice (some ⟨w1002.heap.size, 0, none⟩) 8 8) (put8 (w64 m.seq))) ∧ (BytesAt w' (.slice (some ⟨w1001.heap.size, 0, none⟩) 8 8) (put8 (headOf m))) ∧ (BoxM w m w'))) w') (fun _ h => h.2) _ _ _ _ ?_
  replace hHeld := And.intro Nrw.out hHeld
  try dsimp only at hHeld
  refine wpAnyH_ready (rs := [16]) (by kernel_rfl) (by simp) ?_
  refine AllReadyH.cons (o := _) rfl (fun K hK => ?_) AllReadyH.nil
  try simp only [List.getElem_toArray, List.getElem_cons_succ, List.getElem_cons_zero]
  go_simp
  have hH2 := hHeld
  obtain ⟨rw, p3, p2, p1, p0, bx⟩ := hH2
  refine (concat_any (rowsOf m w1001.heap.size w1002.heap.size w1006.heap.size w1010.heap.size) _ _ rw (by rw [rowsOf_flat, putOf_length]; decide) (by rw [rowsOf_flat, putOf_length]; decide)).mono ?_
  rintro e w1016 ⟨u, rfl, ho, hg⟩
  have L16 := hid (show (RowsAt w1016 (.slice (some ⟨w1014.heap.size, 0, none⟩) 4 4) (rowsOf m w1001.heap.size w1002.heap.size w1006.heap.size w1010.heap.size)) ∧ (BytesAt w1016 (.slice (some ⟨w1010.heap.size, 0, none⟩) 8 8) (put8 (w64 m.value))) ∧ (BytesAt w1016 (.slice (some ⟨w1006.heap.size, 0, none⟩) 8 8) (put8 (w64 m.epoch))) ∧ (BytesAt w1016 (.slice (some ⟨w1002.heap.size, 0, none⟩) 8 8) (put8 (w64 m.seq))) ∧ (BytesAt w1016 (.slice (some ⟨w1001.heap.size, 0, none⟩) 8 8) (put8 (headOf m))) ∧ (BoxM w m w1016) from ⟨rw.grown hg, p3.grown hg (by simp), p2.grown hg (by simp), p1.grown hg (by simp), p0.grown hg (by simp), bx.grown hg⟩)
  have Nou := hid ((rowsOf_flat m _ _ _ _ ▸ ho : OwnB _ _ u (putOf m)).le (by have := gb_size (World.grownBy_alloc w1014 (.cells #[.slice (some ⟨w1001.heap.size, 0, none⟩) 8 8, .slice (some ⟨w1002.heap.size, 0, none⟩) 8 8, .slice (some ⟨w1006.heap.size, 0, none⟩) 8 8, .slice (some ⟨w1010.heap.size, 0, none⟩) 8 8] 40) none); exact this))
  clear hHeld hg rw p3 p2 p1 p0 bx
  go_wp2_with fail
  refine hK.out _ _ ?_ (fun hHeld => ?_)
  · exact L16.out
  clear hK K
  try dsimp only at hHeld
  try simp only [Act.put, List.setIfInBounds_toArray, List.set_cons_zero, List.set_cons_succ, List.getElem_toArray, List.getElem_cons_succ, List.getElem_cons_zero]
  refine held_stronger (S' := fun w' => (fun w' => OwnB w1014.heap.size w' u (putOf m)) w' ∧ ((fun w' => (RowsAt w' (.slice (some ⟨w1014.heap.size, 0, none⟩) 4 4) (rowsOf m w1001.heap.size w1002.heap.size w1006.heap.size w1010.heap.size)) ∧ (BytesAt w' (.slice (some ⟨w1010.heap.size, 0, none⟩) 8 8) (put8 (w64 m.value))) ∧ (BytesAt w' (.slice (some ⟨w1006.heap.size, 0, none⟩) 8 8) (put8 (w64 m.epoch))) ∧ (BytesAt w' (.slice (some ⟨w1002.heap.size, 0, none⟩) 8 8) (put8 (w64 m.seq))) ∧ (BytesAt w' (.slice (some ⟨w1001.heap.size, 0, none⟩) 8 8) (put8 (headOf m))) ∧ (BoxM w m w'))) w') (fun _ h => h.2) _ _ _ _ ?_
  replace hHeld := And.intro Nou.out hHeld
  try dsimp only at hHeld
  refine' wpAnyH_take (i := 17) (v := _) rfl (by kernel_rfl) (by kernel_rfl) (by kernel_rfl) (fun _ _ _ h => h) (Or.inl ⟨by rfl, ?_⟩) hHeld ?_
  rotate_left
  · (intro w hSw; (try dsimp only at hSw); go_simp; try with_reducible rfl)
  try simp only [Act.put, List.setIfInBounds_toArray, List.set_cons_zero, List.set_cons_succ, List.getElem_toArray, List.getElem_cons_succ, List.getElem_cons_zero]
  refine' wpAnyH_take (i := 18) (v := _) rfl (by kernel_rfl) (by kernel_rfl) (by kernel_rfl) (fun _ _ _ h => h) (Or.inl ⟨by rfl, ?_⟩) hHeld ?_
  rotate_left
  · (intro w hSw; (try dsimp only at hSw); go_simp; try with_reducible rfl)
  try simp only [Act.put, List.setIfInBounds_toArray, List.set_cons_zero, List.set_cons_succ, List.getElem_toArray, List.getElem_cons_succ, List.getElem_cons_zero]
  refine wpAnyH_done (by kernel_rfl) ?_ _
  obtain ⟨ou, rw, p3, p2, p1, p0, bx⟩ := hHeld
  have BX := hid bx; have OU := hid ou; have SZ := hid (gb_size L14.out.2.2.2.g); clear ou rw p3 p2 p1 p0 bx
  go_wp2_with fail
  go_ret2
  exact ⟨_, rfl, OU.out.le SZ.out, BX.out.g⟩
end Go.Proofs.YtfhifnhnkgdnlaaGreat
end
section
set_option linter.unusedSimpArgs false
set_option linter.unusedVariables false
namespace Go.Proofs.YtfhifnhnkgdnlaaGreat
set_option maxRecDepth 100000
open Go.RowKit

/-- a tag's bytes -/
def tagB (k0 k1 : BitVec 64) (l : List UInt8) : List UInt8 := put8 (sumOf k0 k1 l) ++ put8 (sumOf k1 (inv k0) l)
theorem tagB_length (k0 k1 : BitVec 64) (l : List UInt8) : (tagB k0 k1 l).length = 16 := rfl
def sealOf (k0 k1 : BitVec 64) (m : Mg) : List UInt8 := putOf m ++ tagB k0 k1 (putOf m)
theorem sealOf_length (k0 k1 : BitVec 64) (m : Mg) : (sealOf k0 k1 m).length = 48 := rfl

/-- the function's own blocks: the key and the message that came in; all else as it was, or new -/
structure KM (w : World) (k0 k1 : BitVec 64) (m : Mg) (w' : World) : Prop where
  key : w'.heap[w.heap.size]? = some (.cells #[.int .u64 (q k0), .int .u64 (q k1)] 49)
  msg : w'.heap[w.heap.size + 1]? = some (.cells m.cells 39)
  g : w.grownBy w' none
theorem KM.grown {w : World} {k0 k1 : BitVec 64} {m : Mg} {w1 w2 : World} (h : KM w k0 k1 m w1) (hg : w1.grownBy w2 none) : KM w k0 k1 m w2 := ⟨at_grown h.key hg (by simp), at_grown h.msg hg (by simp), gb_trans h.g hg (.inl rfl)⟩
theorem km_new (w : World) (k0 k1 : BitVec 64) (m : Mg) : KM w k0 k1 m ((w.alloc (.cells #[.int .u64 (q k0), .int .u64 (q k1)] 49)).alloc (.cells m.cells 39)) :=
  ⟨at_alloc (at_new w _) _, by rw [← size_alloc w (.cells #[.int .u64 (q k0), .int .u64 (q k1)] 49)]; exact at_new _ _, gb_alloc (gb_alloc (.refl w none) _) _⟩

set_option maxHeartbeats 1600000 in
theorem seal_bad (k0 k1 : BitVec 64) (m : Mg) (hm : mayOf m = false) (w : World) :
    Calls Tryz.prog 33 #[pair k0 k1, mg m] w fun e w' => e = .returned (.tuple #[.slice none 0 0, .int .i64 1]) ∧ w.grownBy w' none := by
  have C := hid (fun w => wput_bad m hm w)
  have K := hid (km_new w k0 k1 m)
  clear hm
  go_enter Tryz.func33, Tryz.ntmps33
  go_wp2_with (refine wpList_row K.out.msg Tryz.underlying39 rfl (by kernel_rfl) rfl rfl rfl rfl ?_)
  refine (C.out _).mono ?_
  rintro e w1 ⟨rfl, hg⟩
  have G := hid (gb_trans K.out.g hg (.inl rfl)); clear hg
  go_wp2_with fail
  go_ret2
  exact ⟨rfl, G.out⟩

set_option maxHeartbeats 3200000 in
theorem seal_good (k0 k1 : BitVec 64) (m : Mg) (hm : mayOf m = true) (w : World) :
    Calls Tryz.prog 33 #[pair k0 k1, mg m] w fun e w' => ∃ v, e = .returned (.tuple #[v, .int .i64 0]) ∧ OwnB w.heap.size w' v (sealOf k0 k1 m) ∧ w.grownBy w' none := by
  have C := hid (fun w => wput_good m hm w)
  have K := hid (km_new w k0 k1 m)
  clear hm
  obtain ⟨l, hl⟩ : ∃ l, putOf m = l := ⟨_, rfl⟩
  have hll : l.length = 32 := by rw [← hl]; rfl
  unfold sealOf tagB
  rw [hl] at C ⊢
  have LL := hid hll; clear hl hll
  obtain ⟨a, ha⟩ : ∃ a, sumOf k0 k1 l = a := ⟨_, rfl⟩
  obtain ⟨b, hb⟩ : ∃ b, sumOf k1 (inv k0) l = b := ⟨_, rfl⟩
  have T := hid (fun v w h => tag_any k0 k1 v l w h)
  rw [ha, hb] at T ⊢
  clear ha hb
  go_enter Tryz.func33, Tryz.ntmps33
  go_wp2_with (refine wpList_row K.out.msg Tryz.underlying39 rfl (by kernel_rfl) rfl rfl rfl rfl ?_)
  refine (C.out _).mono ?_
  rintro e w1 ⟨v, rfl, ho, hg⟩
  have ho' := ho.le (gb_size K.out.g)
  have K1 := hid (K.out.grown hg); have O1 := hid ho'; clear ho ho' hg K
  obtain ⟨c0, c1⟩ := pair_cells K1.out.key
  go_wp2_with fail
  clear c0 c1
  refine (T.out _ _ O1.out.bytes).mono ?_
  rintro e w2 ⟨rfl, hg⟩
  have K2 := hid (K1.out.grown hg); have O2 := hid (O1.out.grown hg (by simp)); clear hg K1 O1
  go_wp2_with fail
  refine (bytes_any a b _).mono ?_
  rintro e w3 ⟨u, rfl, hu, hg⟩
  have K3 := hid (K2.out.grown hg); have O3 := hid (O2.out.grown hg (by simp)); have U3 := hid hu.bytes; clear hg K2 O2 hu
  have hs : w.heap.size ≤ w3.heap.size := gb_size K3.out.g
  go_wp2_with (refine append_bytes rfl _ _ rfl w.heap.size _ _ rfl O3.out _ _ rfl U3.out (by rw [LL.out]; simp [put8_length]) hs ?_; intro u1 w4 o4 g4 a4)
  go_ret2
  exact ⟨_, rfl, o4, gb_own K3.out.g O3.out (Nat.le_refl _) g4⟩

set_option maxHeartbeats 1600000 in
/-- bytes in a slice that is not nil, copied -/
theorem clone_some (a : Addr) (n c : Nat) (l : List UInt8) (hn : l.length = n) (h1 : n ≤ 100000) (w : World) (hl : BytesAt w (.slice (some a) n c) l) :
    Calls Tryz.prog 94 #[.slice (some a) n c] w fun e w' => ∃ v, e = .returned v ∧ OwnB w.heap.size w' v l ∧ w.grownBy w' none := by
  have HL := hid hl; have HN := hid hn; clear hl hn
  have hnil := Lib.run_eql_slice_nil w 40 5 (some a) n c 0 0 Tryz.underlying40
  have he := OwnB.empty w
  have HE := hid he; clear he
  have BA := hid (HL.out.alloc (.cells #[] 5))
  go_enter Tryz.func94, Tryz.ntmps94
  go_wp2_with (refine append_bytes rfl _ _ rfl w.heap.size _ [] rfl HE.out _ l rfl BA.out (by rw [HN.out]; simp; omega) (gb_size (gb_alloc (.refl w none) _)) ?_; intro u1 w4 o4 g4 a4)
  go_ret
  exact ⟨_, rfl, by simpa using o4, gb_own (gb_alloc (.refl w none) _) HE.out (Nat.le_refl _) g4⟩
end Go.Proofs.YtfhifnhnkgdnlaaGreat
end
section
set_option linter.unusedSimpArgs false
set_option linter.unusedVariables false
namespace Go.Proofs.YtfhifnhnkgdnlaaGreat
set_option maxRecDepth 100000
open Go.RowKit

theorem nadd_i64 (a : Addr) (x x1 : Int) (he : x + 1 = x1) (w : World) (hc : w.cell? a = some (.int .i64 x)) (hz : w.frozen? a = false) (h0 : 0 ≤ x) (h1 : x < 100) :
    Calls Tryz.prog 77 #[.pointer (some a), .int .i64 1] w fun e w' => e = .returned (.int .i64 x1) ∧ w' = w.setCell a (.int .i64 x1) := by
  subst he
  have hadd := run_call_add (P := Tryz.prog) Tryz.func111 (by kernel_rfl) (by kernel_rfl) (by kernel_rfl) .i64 (by kernel_rfl) (y := 1) (s := x + 1) hc hz (by simp [go_sem, IntKind.wrap_i64]; omega)
  go_enter Tryz.func77, Tryz.ntmps77
  go_wp2
  go_ret
  exact ⟨rfl, rfl⟩
theorem get_at (l : List UInt8) (v : Value) (m : Nat) (w : World) (hl : BytesAt w v l) (hm : m + 8 ≤ l.length) :
    Calls Tryz.prog 125 #[v, .int .i64 (m : Int)] w fun e w' => e = .returned (.tuple #[.int .u64 (q (wordAt l m 8)), .int .i64 0]) ∧ w = w' := get_in l v m w hl hm

@[reducible] def rdObj (v : Value) (k : Int) : Obj := .cells #[v, .int .i64 k] 203
set_option maxHeartbeats 1600000 in
theorem next_0 (b : Nat) (v : Value) (l : List UInt8) (hk : 8 ≤ l.length) (w : World) (hb : w.heap[b]? = some (rdObj v 0)) (hl : BytesAt w v l) (hne : ∀ a n c, v = .slice (some a) n c → a.block ≠ b) :
    Calls Tryz.prog 124 #[.pointer (some ⟨b, 0, none⟩)] w fun e w' => e = .returned (.int .u64 (q (wordAt l 0 8))) ∧ w'.heap[b]? = some (rdObj v 1) ∧ w.grownBy w' (some b) ∧ BytesAt w' v l := by
  have HK := hid hk; clear hk
  have hg := gb_row (gb_drew (.refl w (some b))) (p := ⟨b, 1, none⟩) rfl (.int .i64 1)
  have hl1 := hl.grown hg (fun k e => by cases e; exact .inr (.inr hne))
  have hb1 := at_set (at_drew hb) 1 (.int .i64 1)
  have B1 := hid hl1; have HB1 := hid hb1; have G1 := hid hg; clear hl1 hg hl hne
  have C0 := hid (show w.drew.cell? ⟨b, 0, none⟩ = some v from at_cell hb 0)
  have C1 := hid (show w.drew.cell? ⟨b, 1, none⟩ = some (.int .i64 0) from at_cell hb 1)
  have F1 := hid (show w.drew.frozen? ⟨b, 1, none⟩ = false from at_free hb 1)
  have CS := hid (show (w.drew.setCell ⟨b, 1, none⟩ (.int .i64 1)).cell? ⟨b, 0, none⟩ = some v from at_cell hb1 0)
  clear hb hb1
  go_enter Tryz.func124, Tryz.ntmps124
  go_wp2_with fail
  refine wp_region_held_drew (S := (fun w' => (w'.cell? ⟨b, 0, none⟩ = some v))) (by kernel_rfl) C0.out (fun hHeld => ?_)
  try dsimp only at hHeld
  refine' wpAnyH_take (i := 0) (v := _) rfl (by kernel_rfl) (by kernel_rfl) (by kernel_rfl) (fun _ _ _ h => h) (Or.inl ⟨by rfl, ?_⟩) hHeld ?_
  rotate_left
  · (intro w hSw; (try dsimp only at hSw); go_simp; try with_reducible rfl)
  try simp only [Act.put, List.setIfInBounds_toArray, List.set_cons_zero, List.set_cons_succ, List.getElem_toArray, List.getElem_cons_succ, List.getElem_cons_zero]
  refine' wpAnyH_take (i := 1) (v := _) rfl (by kernel_rfl) (by kernel_rfl) (by kernel_rfl) (fun _ _ _ h => h) (Or.inl ⟨by rfl, ?_⟩) hHeld ?_
  rotate_left
  · (intro w hSw; (try dsimp only at hSw); go_simp; try with_reducible rfl)
  try simp only [Act.put, List.setIfInBounds_toArray, List.set_cons_zero, List.set_cons_succ, List.getElem_toArray, List.getElem_cons_succ, List.getElem_cons_zero]
  refine' wpAnyH_take (i := 2) (v := _) rfl (by kernel_rfl) (by kernel_rfl) (by kernel_rfl) (fun _ _ _ h => h) (Or.inl ⟨by rfl, ?_⟩) hHeld ?_
  rotate_left
  · (intro w hSw; (try dsimp only at hSw); go_simp; try with_reducible rfl)
  try simp only [Act.put, List.setIfInBounds_toArray, List.set_cons_zero, List.set_cons_succ, List.getElem_toArray, List.getElem_cons_succ, List.getElem_cons_zero]
  refine' wpAnyH_take (i := 3) (v := _) rfl (by kernel_rfl) (by kernel_rfl) (by kernel_rfl) (fun _ _ _ h => h) (Or.inl ⟨by rfl, ?_⟩) hHeld ?_
  rotate_left
  · (intro w hSw; (try dsimp only at hSw); go_simp; try with_reducible rfl)
  try simp only [Act.put, List.setIfInBounds_toArray, List.set_cons_zero, List.set_cons_succ, List.getElem_toArray, List.getElem_cons_succ, List.getElem_cons_zero]
  refine' wpAnyH_take (i := 4) (v := _) rfl (by kernel_rfl) (by kernel_rfl) (by kernel_rfl) (fun _ _ _ h => h) (Or.inl ⟨by rfl, ?_⟩) hHeld ?_
  rotate_left
  · (intro w hSw; (try dsimp only at hSw); go_simp; try with_reducible rfl)
  try simp only [Act.put, List.setIfInBounds_toArray, List.set_cons_zero, List.set_cons_succ, List.getElem_toArray, List.getElem_cons_succ, List.getElem_cons_zero]
  refine' wpAnyH_take (i := 5) (v := _) rfl (by kernel_rfl) (by kernel_rfl) (by kernel_rfl) (fun _ _ _ h => h) (Or.inl ⟨by rfl, ?_⟩) hHeld ?_
  rotate_left
  · (intro w hSw; (try dsimp only at hSw); go_simp; try with_reducible rfl)
  try simp only [Act.put, List.setIfInBounds_toArray, List.set_cons_zero, List.set_cons_succ, List.getElem_toArray, List.getElem_cons_succ, List.getElem_cons_zero]
  refine' wpAnyH_take (i := 6) (v := _) rfl (by kernel_rfl) (by kernel_rfl) (by kernel_rfl) (fun _ _ _ h => h) (Or.inl ⟨by rfl, ?_⟩) hHeld ?_
  rotate_left
  · (intro w hSw; (try dsimp only at hSw); go_simp; try with_reducible rfl)
  try simp only [Act.put, List.setIfInBounds_toArray, List.set_cons_zero, List.set_cons_succ, List.getElem_toArray, List.getElem_cons_succ, List.getElem_cons_zero]
  refine wpAnyH_ready (rs := [7]) (by kernel_rfl) (by simp) ?_
  refine AllReadyH.cons (o := _) rfl (fun K hK => ?_) AllReadyH.nil
  try simp only [List.getElem_toArray, List.getElem_cons_succ, List.getElem_cons_zero]
  go_simp
  refine (nadd_i64 _ 0 1 (by decide) _ C1.out F1.out (by decide) (by decide)).mono ?_
  rintro e wa ⟨rfl, rfl⟩
  clear hHeld
  go_wp2_with fail
  refine hK.out _ _ ?_ (fun hHeld => ?_)
  · exact (CS.out)
  clear hK K
  try dsimp only at hHeld
  try simp only [Act.put, List.setIfInBounds_toArray, List.set_cons_zero, List.set_cons_succ, List.getElem_toArray, List.getElem_cons_succ, List.getElem_cons_zero]
  refine' wpAnyH_take (i := 8) (v := _) rfl (by kernel_rfl) (by kernel_rfl) (by kernel_rfl) (fun _ _ _ h => h) (Or.inl ⟨by rfl, ?_⟩) hHeld ?_
  rotate_left
  · (intro w hSw; (try dsimp only at hSw); go_simp; try with_reducible rfl)
  try simp only [Act.put, List.setIfInBounds_toArray, List.set_cons_zero, List.set_cons_succ, List.getElem_toArray, List.getElem_cons_succ, List.getElem_cons_zero]
  refine' wpAnyH_take (i := 9) (v := _) rfl (by kernel_rfl) (by kernel_rfl) (by kernel_rfl) (fun _ _ _ h => h) (Or.inl ⟨by rfl, ?_⟩) hHeld ?_
  rotate_left
  · (intro w hSw; (try dsimp only at hSw); go_simp; try with_reducible rfl)
  try simp only [Act.put, List.setIfInBounds_toArray, List.set_cons_zero, List.set_cons_succ, List.getElem_toArray, List.getElem_cons_succ, List.getElem_cons_zero]
  refine wpAnyH_ready (rs := [10]) (by kernel_rfl) (by simp) ?_
  refine AllReadyH.cons (o := _) rfl (fun K hK => ?_) AllReadyH.nil
  try simp only [List.getElem_toArray, List.getElem_cons_succ, List.getElem_cons_zero]
  go_simp
  clear hHeld
  refine (get_at l v 0 _ B1.out (by have := HK.out; omega)).mono ?_
  rintro e wa ⟨rfl, rfl⟩
  go_wp2_with fail
  refine hK.out _ _ ?_ (fun hHeld => ?_)
  · exact (CS.out)
  clear hK K
  try dsimp only at hHeld
  try simp only [Act.put, List.setIfInBounds_toArray, List.set_cons_zero, List.set_cons_succ, List.getElem_toArray, List.getElem_cons_succ, List.getElem_cons_zero]
  refine' wpAnyH_take (i := 11) (v := _) rfl (by kernel_rfl) (by kernel_rfl) (by kernel_rfl) (fun _ _ _ h => h) (Or.inl ⟨by rfl, ?_⟩) hHeld ?_
  rotate_left
  · (intro w hSw; (try dsimp only at hSw); go_simp; try with_reducible rfl)
  try simp only [Act.put, List.setIfInBounds_toArray, List.set_cons_zero, List.set_cons_succ, List.getElem_toArray, List.getElem_cons_succ, List.getElem_cons_zero]
  refine' wpAnyH_take (i := 12) (v := _) rfl (by kernel_rfl) (by kernel_rfl) (by kernel_rfl) (fun _ _ _ h => h) (Or.inl ⟨by rfl, ?_⟩) hHeld ?_
  rotate_left
  · (intro w hSw; (try dsimp only at hSw); go_simp; try with_reducible rfl)
  try simp only [Act.put, List.setIfInBounds_toArray, List.set_cons_zero, List.set_cons_succ, List.getElem_toArray, List.getElem_cons_succ, List.getElem_cons_zero]
  refine' wpAnyH_take (i := 13) (v := _) rfl (by kernel_rfl) (by kernel_rfl) (by kernel_rfl) (fun _ _ _ h => h) (Or.inl ⟨by rfl, ?_⟩) hHeld ?_
  rotate_left
  · (intro w hSw; (try dsimp only at hSw); go_simp; try with_reducible rfl)
  try simp only [Act.put, List.setIfInBounds_toArray, List.set_cons_zero, List.set_cons_succ, List.getElem_toArray, List.getElem_cons_succ, List.getElem_cons_zero]
  refine' wpAnyH_take (i := 14) (v := _) rfl (by kernel_rfl) (by kernel_rfl) (by kernel_rfl) (fun _ _ _ h => h) (Or.inl ⟨by rfl, ?_⟩) hHeld ?_
  rotate_left
  · (intro w hSw; (try dsimp only at hSw); go_simp; try with_reducible rfl)
  try simp only [Act.put, List.setIfInBounds_toArray, List.set_cons_zero, List.set_cons_succ, List.getElem_toArray, List.getElem_cons_succ, List.getElem_cons_zero]
  refine' wpAnyH_take (i := 15) (v := _) rfl (by kernel_rfl) (by kernel_rfl) (by kernel_rfl) (fun _ _ _ h => h) (Or.inl ⟨by rfl, ?_⟩) hHeld ?_
  rotate_left
  · (intro w hSw; (try dsimp only at hSw); go_simp; try with_reducible rfl)
  try simp only [Act.put, List.setIfInBounds_toArray, List.set_cons_zero, List.set_cons_succ, List.getElem_toArray, List.getElem_cons_succ, List.getElem_cons_zero]
  refine wpAnyH_done (by kernel_rfl) ?_ _
  clear hHeld
  go_wp2_with fail
  go_ret
  exact ⟨rfl, HB1.out, G1.out, B1.out⟩
set_option maxHeartbeats 1600000 in
theorem next_1 (b : Nat) (v : Value) (l : List UInt8) (hk : 16 ≤ l.length) (w : World) (hb : w.heap[b]? = some (rdObj v 1)) (hl : BytesAt w v l) (hne : ∀ a n c, v = .slice (some a) n c → a.block ≠ b) :
    Calls Tryz.prog 124 #[.pointer (some ⟨b, 0, none⟩)] w fun e w' => e = .returned (.int .u64 (q (wordAt l 8 8))) ∧ w'.heap[b]? = some (rdObj v 2) ∧ w.grownBy w' (some b) ∧ BytesAt w' v l := by
  have HK := hid hk; clear hk
  have hg := gb_row (gb_drew (.refl w (some b))) (p := ⟨b, 1, none⟩) rfl (.int .i64 2)
  have hl1 := hl.grown hg (fun k e => by cases e; exact .inr (.inr hne))
  have hb1 := at_set (at_drew hb) 1 (.int .i64 2)
  have B1 := hid hl1; have HB1 := hid hb1; have G1 := hid hg; clear hl1 hg hl hne
  have C0 := hid (show w.drew.cell? ⟨b, 0, none⟩ = some v from at_cell hb 0)
  have C1 := hid (show w.drew.cell? ⟨b, 1, none⟩ = some (.int .i64 1) from at_cell hb 1)
  have F1 := hid (show w.drew.frozen? ⟨b, 1, none⟩ = false from at_free hb 1)
  have CS := hid (show (w.drew.setCell ⟨b, 1, none⟩ (.int .i64 2)).cell? ⟨b, 0, none⟩ = some v from at_cell hb1 0)
  clear hb hb1
  go_enter Tryz.func124, Tryz.ntmps124
  go_wp2_with fail
  refine wp_region_held_drew (S := (fun w' => (w'.cell? ⟨b, 0, none⟩ = some v))) (by kernel_rfl) C0.out (fun hHeld => ?_)
  try dsimp only at hHeld
  refine' wpAnyH_take (i := 0) (v := _) rfl (by kernel_rfl) (by kernel_rfl) (by kernel_rfl) (fun _ _ _ h => h) (Or.inl ⟨by rfl, ?_⟩) hHeld ?_
  rotate_left
  · (intro w hSw; (try dsimp only at hSw); go_simp; try with_reducible rfl)
  try simp only [Act.put, List.setIfInBounds_toArray, List.set_cons_zero, List.set_cons_succ, List.getElem_toArray, List.getElem_cons_succ, List.getElem_cons_zero]
  refine' wpAnyH_take (i := 1) (v := _) rfl (by kernel_rfl) (by kernel_rfl) (by kernel_rfl) (fun _ _ _ h => h) (Or.inl ⟨by rfl, ?_⟩) hHeld ?_
  rotate_left
  · (intro w hSw; (try dsimp only at hSw); go_simp; try with_reducible rfl)
  try simp only [Act.put, List.setIfInBounds_toArray, List.set_cons_zero, List.set_cons_succ, List.getElem_toArray, List.getElem_cons_succ, List.getElem_cons_zero]
  refine' wpAnyH_take (i := 2) (v := _) rfl (by kernel_rfl) (by kernel_rfl) (by kernel_rfl) (fun _ _ _ h => h) (Or.inl ⟨by rfl, ?_⟩) hHeld ?_
  rotate_left
  · (intro w hSw; (try dsimp only at hSw); go_simp; try with_reducible rfl)
  try simp only [Act.put, List.setIfInBounds_toArray, List.set_cons_zero, List.set_cons_succ, List.getElem_toArray, List.getElem_cons_succ, List.getElem_cons_zero]
  refine' wpAnyH_take (i := 3) (v := _) rfl (by kernel_rfl) (by kernel_rfl) (by kernel_rfl) (fun _ _ _ h => h) (Or.inl ⟨by rfl, ?_⟩) hHeld ?_
  rotate_left
  · (intro w hSw; (try dsimp only at hSw); go_simp; try with_reducible rfl)
  try simp only [Act.put, List.setIfInBounds_toArray, List.set_cons_zero, List.set_cons_succ, List.getElem_toArray, List.getElem_cons_succ, List.getElem_cons_zero]
  refine' wpAnyH_take (i := 4) (v := _) rfl (by kernel_rfl) (by kernel_rfl) (by kernel_rfl) (fun _ _ _ h => h) (Or.inl ⟨by rfl, ?_⟩) hHeld ?_
  rotate_left
  · (intro w hSw; (try dsimp only at hSw); go_simp; try with_reducible rfl)
  try simp only [Act.put, List.setIfInBounds_toArray, List.set_cons_zero, List.set_cons_succ, List.getElem_toArray, List.getElem_cons_succ, List.getElem_cons_zero]
  refine' wpAnyH_take (i := 5) (v := _) rfl (by kernel_rfl) (by kernel_rfl) (by kernel_rfl) (fun _ _ _ h => h) (Or.inl ⟨by rfl, ?_⟩) hHeld ?_
  rotate_left
  · (intro w hSw; (try dsimp only at hSw); go_simp; try with_reducible rfl)
  try simp only [Act.put, List.setIfInBounds_toArray, List.set_cons_zero, List.set_cons_succ, List.getElem_toArray, List.getElem_cons_succ, List.getElem_cons_zero]
  refine' wpAnyH_take (i := 6) (v := _) rfl (by kernel_rfl) (by kernel_rfl) (by kernel_rfl) (fun _ _ _ h => h) (Or.inl ⟨by rfl, ?_⟩) hHeld ?_
  rotate_left
  · (intro w hSw; (try dsimp only at hSw); go_simp; try with_reducible rfl)
  try simp only [Act.put, List.setIfInBounds_toArray, List.set_cons_zero, List.set_cons_succ, List.getElem_toArray, List.getElem_cons_succ, List.getElem_cons_zero]
  refine wpAnyH_ready (rs := [7]) (by kernel_rfl) (by simp) ?_
  refine AllReadyH.cons (o := _) rfl (fun K hK => ?_) AllReadyH.nil
  try simp only [List.getElem_toArray, List.getElem_cons_succ, List.getElem_cons_zero]
  go_simp
  refine (nadd_i64 _ 1 2 (by decide) _ C1.out F1.out (by decide) (by decide)).mono ?_
  rintro e wa ⟨rfl, rfl⟩
  clear hHeld
  go_wp2_with fail
  refine hK.out _ _ ?_ (fun hHeld => ?_)
  · exact (CS.out)
  clear hK K
  try dsimp only at hHeld
  try simp only [Act.put, List.setIfInBounds_toArray, List.set_cons_zero, List.set_cons_succ, List.getElem_toArray, List.getElem_cons_succ, List.getElem_cons_zero]
  refine' wpAnyH_take (i := 8) (v := _) rfl (by kernel_rfl) (by kernel_rfl) (by kernel_rfl) (fun _ _ _ h => h) (Or.inl ⟨by rfl, ?_⟩) hHeld ?_
  rotate_left
  · (intro w hSw; (try dsimp only at hSw); go_simp; try with_reducible rfl)
  try simp only [Act.put, List.setIfInBounds_toArray, List.set_cons_zero, List.set_cons_succ, List.getElem_toArray, List.getElem_cons_succ, List.getElem_cons_zero]
  refine' wpAnyH_take (i := 9) (v := _) rfl (by kernel_rfl) (by kernel_rfl) (by kernel_rfl) (fun _ _ _ h => h) (Or.inl ⟨by rfl, ?_⟩) hHeld ?_
  rotate_left
  · (intro w hSw; (try dsimp only at hSw); go_simp; try with_reducible rfl)
  try simp only [Act.put, List.setIfInBounds_toArray, List.set_cons_zero, List.set_cons_succ, List.getElem_toArray, List.getElem_cons_succ, List.getElem_cons_zero]
  refine wpAnyH_ready (rs := [10]) (by kernel_rfl) (by simp) ?_
  refine AllReadyH.cons (o := _) rfl (fun K hK => ?_) AllReadyH.nil
  try simp only [List.getElem_toArray, List.getElem_cons_succ, List.getElem_cons_zero]
  go_simp
  clear hHeld
  refine (get_at l v 8 _ B1.out (by have := HK.out; omega)).mono ?_
  rintro e wa ⟨rfl, rfl⟩
  go_wp2_with fail
  refine hK.out _ _ ?_ (fun hHeld => ?_)
  · exact (CS.out)
  clear hK K
  try dsimp only at hHeld
  try simp only [Act.put, List.setIfInBounds_toArray, List.set_cons_zero, List.set_cons_succ, List.getElem_toArray, List.getElem_cons_succ, List.getElem_cons_zero]
  refine' wpAnyH_take (i := 11) (v := _) rfl (by kernel_rfl) (by kernel_rfl) (by kernel_rfl) (fun _ _ _ h => h) (Or.inl ⟨by rfl, ?_⟩) hHeld ?_
  rotate_left
  · (intro w hSw; (try dsimp only at hSw); go_simp; try with_reducible rfl)
  try simp only [Act.put, List.setIfInBounds_toArray, List.set_cons_zero, List.set_cons_succ, List.getElem_toArray, List.getElem_cons_succ, List.getElem_cons_zero]
  refine' wpAnyH_take (i := 12) (v := _) rfl (by kernel_rfl) (by kernel_rfl) (by kernel_rfl) (fun _ _ _ h => h) (Or.inl ⟨by rfl, ?_⟩) hHeld ?_
  rotate_left
  · (intro w hSw; (try dsimp only at hSw); go_simp; try with_reducible rfl)
  try simp only [Act.put, List.setIfInBounds_toArray, List.set_cons_zero, List.set_cons_succ, List.getElem_toArray, List.getElem_cons_succ, List.getElem_cons_zero]
  refine' wpAnyH_take (i := 13) (v := _) rfl (by kernel_rfl) (by kernel_rfl) (by kernel_rfl) (fun _ _ _ h => h) (Or.inl ⟨by rfl, ?_⟩) hHeld ?_
  rotate_left
  · (intro w hSw; (try dsimp only at hSw); go_simp; try with_reducible rfl)
  try simp only [Act.put, List.setIfInBounds_toArray, List.set_cons_zero, List.set_cons_succ, List.getElem_toArray, List.getElem_cons_succ, List.getElem_cons_zero]
  refine' wpAnyH_take (i := 14) (v := _) rfl (by kernel_rfl) (by kernel_rfl) (by kernel_rfl) (fun _ _ _ h => h) (Or.inl ⟨by rfl, ?_⟩) hHeld ?_
  rotate_left
  · (intro w hSw; (try dsimp only at hSw); go_simp; try with_reducible rfl)
  try simp only [Act.put, List.setIfInBounds_toArray, List.set_cons_zero, List.set_cons_succ, List.getElem_toArray, List.getElem_cons_succ, List.getElem_cons_zero]
  refine' wpAnyH_take (i := 15) (v := _) rfl (by kernel_rfl) (by kernel_rfl) (by kernel_rfl) (fun _ _ _ h => h) (Or.inl ⟨by rfl, ?_⟩) hHeld ?_
  rotate_left
  · (intro w hSw; (try dsimp only at hSw); go_simp; try with_reducible rfl)
  try simp only [Act.put, List.setIfInBounds_toArray, List.set_cons_zero, List.set_cons_succ, List.getElem_toArray, List.getElem_cons_succ, List.getElem_cons_zero]
  refine wpAnyH_done (by kernel_rfl) ?_ _
  clear hHeld
  go_wp2_with fail
  go_ret
  exact ⟨rfl, HB1.out, G1.out, B1.out⟩
set_option maxHeartbeats 1600000 in
theorem next_2 (b : Nat) (v : Value) (l : List UInt8) (hk : 24 ≤ l.length) (w : World) (hb : w.heap[b]? = some (rdObj v 2)) (hl : BytesAt w v l) (hne : ∀ a n c, v = .slice (some a) n c → a.block ≠ b) :
    Calls Tryz.prog 124 #[.pointer (some ⟨b, 0, none⟩)] w fun e w' => e = .returned (.int .u64 (q (wordAt l 16 8))) ∧ w'.heap[b]? = some (rdObj v 3) ∧ w.grownBy w' (some b) ∧ BytesAt w' v l := by
  have HK := hid hk; clear hk
  have hg := gb_row (gb_drew (.refl w (some b))) (p := ⟨b, 1, none⟩) rfl (.int .i64 3)
  have hl1 := hl.grown hg (fun k e => by cases e; exact .inr (.inr hne))
  have hb1 := at_set (at_drew hb) 1 (.int .i64 3)
  have B1 := hid hl1; have HB1 := hid hb1; have G1 := hid hg; clear hl1 hg hl hne
  have C0 := hid (show w.drew.cell? ⟨b, 0, none⟩ = some v from at_cell hb 0)
  have C1 := hid (show w.drew.cell? ⟨b, 1, none⟩ = some (.int .i64 2) from at_cell hb 1)
  have F1 := hid (show w.drew.frozen? ⟨b, 1, none⟩ = false from at_free hb 1)
  have CS := hid (show (w.drew.setCell ⟨b, 1, none⟩ (.int .i64 3)).cell? ⟨b, 0, none⟩ = some v from at_cell hb1 0)
  clear hb hb1
  go_enter Tryz.func124, Tryz.ntmps124
  go_wp2_with fail
  refine wp_region_held_drew (S := (fun w' => (w'.cell? ⟨b, 0, none⟩ = some v))) (by kernel_rfl) C0.out (fun hHeld => ?_)
  try dsimp only at hHeld
  refine' wpAnyH_take (i := 0) (v := _) rfl (by kernel_rfl) (by kernel_rfl) (by kernel_rfl) (fun _ _ _ h => h) (Or.inl ⟨by rfl, ?_⟩) hHeld ?_
  rotate_left
  · (intro w hSw; (try dsimp only at hSw); go_simp; try with_reducible rfl)
  try simp only [Act.put, List.setIfInBounds_toArray, List.set_cons_zero, List.set_cons_succ, List.getElem_toArray, List.getElem_cons_succ, List.getElem_cons_zero]
  refine' wpAnyH_take (i := 1) (v := _) rfl (by kernel_rfl) (by kernel_rfl) (by kernel_rfl) (fun _ _ _ h => h) (Or.inl ⟨by rfl, ?_⟩) hHeld ?_
  rotate_left
  · (intro w hSw; (try dsimp only at hSw); go_simp; try with_reducible rfl)
  try simp only [Act.put, List.setIfInBounds_toArray, List.set_cons_zero, List.set_cons_succ, List.getElem_toArray, List.getElem_cons_succ, List.getElem_cons_zero]
  refine' wpAnyH_take (i := 2) (v := _) rfl (by kernel_rfl) (by kernel_rfl) (by kernel_rfl) (fun _ _ _ h => h) (Or.inl ⟨by rfl, ?_⟩) hHeld ?_
  rotate_left
  · (intro w hSw; (try dsimp only at hSw); go_simp; try with_reducible rfl)
  try simp only [Act.put, List.setIfInBounds_toArray, List.set_cons_zero, List.set_cons_succ, List.getElem_toArray, List.getElem_cons_succ, List.getElem_cons_zero]
  refine' wpAnyH_take (i := 3) (v := _) rfl (by kernel_rfl) (by kernel_rfl) (by kernel_rfl) (fun _ _ _ h => h) (Or.inl ⟨by rfl, ?_⟩) hHeld ?_
  rotate_left
  · (intro w hSw; (try dsimp only at hSw); go_simp; try with_reducible rfl)
  try simp only [Act.put, List.setIfInBounds_toArray, List.set_cons_zero, List.set_cons_succ, List.getElem_toArray, List.getElem_cons_succ, List.getElem_cons_zero]
  refine' wpAnyH_take (i := 4) (v := _) rfl (by kernel_rfl) (by kernel_rfl) (by kernel_rfl) (fun _ _ _ h => h) (Or.inl ⟨by rfl, ?_⟩) hHeld ?_
  rotate_left
  · (intro w hSw; (try dsimp only at hSw); go_simp; try with_reducible rfl)
  try simp only [Act.put, List.setIfInBounds_toArray, List.set_cons_zero, List.set_cons_succ, List.getElem_toArray, List.getElem_cons_succ, List.getElem_cons_zero]
  refine' wpAnyH_take (i := 5) (v := _) rfl (by kernel_rfl) (by kernel_rfl) (by kernel_rfl) (fun _ _ _ h => h) (Or.inl ⟨by rfl, ?_⟩) hHeld ?_
  rotate_left
  · (intro w hSw; (try dsimp only at hSw); go_simp; try with_reducible rfl)
  try simp only [Act.put, List.setIfInBounds_toArray, List.set_cons_zero, List.set_cons_succ, List.getElem_toArray, List.getElem_cons_succ, List.getElem_cons_zero]
  refine' wpAnyH_take (i := 6) (v := _) rfl (by kernel_rfl) (by kernel_rfl) (by kernel_rfl) (fun _ _ _ h => h) (Or.inl ⟨by rfl, ?_⟩) hHeld ?_
  rotate_left
  · (intro w hSw; (try dsimp only at hSw); go_simp; try with_reducible rfl)
  try simp only [Act.put, List.setIfInBounds_toArray, List.set_cons_zero, List.set_cons_succ, List.getElem_toArray, List.getElem_cons_succ, List.getElem_cons_zero]
  refine wpAnyH_ready (rs := [7]) (by kernel_rfl) (by simp) ?_
  refine AllReadyH.cons (o := _) rfl (fun K hK => ?_) AllReadyH.nil
  try simp only [List.getElem_toArray, List.getElem_cons_succ, List.getElem_cons_zero]
  go_simp
  refine (nadd_i64 _ 2 3 (by decide) _ C1.out F1.out (by decide) (by decide)).mono ?_
  rintro e wa ⟨rfl, rfl⟩
  clear hHeld
  go_wp2_with fail
  refine hK.out _ _ ?_ (fun hHeld => ?_)
  · exact (CS.out)
  clear hK K
  try dsimp only at hHeld
  try simp only [Act.put, List.setIfInBounds_toArray, List.set_cons_zero, List.set_cons_succ, List.getElem_toArray, List.getElem_cons_succ, List.getElem_cons_zero]
  refine' wpAnyH_take (i := 8) (v := _) rfl (by kernel_rfl) (by kernel_rfl) (by kernel_rfl) (fun _ _ _ h => h) (Or.inl ⟨by rfl, ?_⟩) hHeld ?_
  rotate_left
  · (intro w hSw; (try dsimp only at hSw); go_simp; try with_reducible rfl)
  try simp only [Act.put, List.setIfInBounds_toArray, List.set_cons_zero, List.set_cons_succ, List.getElem_toArray, List.getElem_cons_succ, List.getElem_cons_zero]
  refine' wpAnyH_take (i := 9) (v := _) rfl (by kernel_rfl) (by kernel_rfl) (by kernel_rfl) (fun _ _ _ h => h) (Or.inl ⟨by rfl, ?_⟩) hHeld ?_
  rotate_left
  · (intro w hSw; (try dsimp only at hSw); go_simp; try with_reducible rfl)
  try simp only [Act.put, List.setIfInBounds_toArray, List.set_cons_zero, List.set_cons_succ, List.getElem_toArray, List.getElem_cons_succ, List.getElem_cons_zero]
  refine wpAnyH_ready (rs := [10]) (by kernel_rfl) (by simp) ?_
  refine AllReadyH.cons (o := _) rfl (fun K hK => ?_) AllReadyH.nil
  try simp only [List.getElem_toArray, List.getElem_cons_succ, List.getElem_cons_zero]
  go_simp
  clear hHeld
  refine (get_at l v 16 _ B1.out (by have := HK.out; omega)).mono ?_
  rintro e wa ⟨rfl, rfl⟩
  go_wp2_with fail
  refine hK.out _ _ ?_ (fun hHeld => ?_)
  · exact (CS.out)
  clear hK K
  try dsimp only at hHeld
  try simp only [Act.put, List.setIfInBounds_toArray, List.set_cons_zero, List.set_cons_succ, List.getElem_toArray, List.getElem_cons_succ, List.getElem_cons_zero]
  refine' wpAnyH_take (i := 11) (v := _) rfl (by kernel_rfl) (by kernel_rfl) (by kernel_rfl) (fun _ _ _ h => h) (Or.inl ⟨by rfl, ?_⟩) hHeld ?_
  rotate_left
  · (intro w hSw; (try dsimp only at hSw); go_simp; try with_reducible rfl)
  try simp only [Act.put, List.setIfInBounds_toArray, List.set_cons_zero, List.set_cons_succ, List.getElem_toArray, List.getElem_cons_succ, List.getElem_cons_zero]
  refine' wpAnyH_take (i := 12) (v := _) rfl (by kernel_rfl) (by kernel_rfl) (by kernel_rfl) (fun _ _ _ h => h) (Or.inl ⟨by rfl, ?_⟩) hHeld ?_
  rotate_left
  · (intro w hSw; (try dsimp only at hSw); go_simp; try with_reducible rfl)
  try simp only [Act.put, List.setIfInBounds_toArray, List.set_cons_zero, List.set_cons_succ, List.getElem_toArray, List.getElem_cons_succ, List.getElem_cons_zero]
  refine' wpAnyH_take (i := 13) (v := _) rfl (by kernel_rfl) (by kernel_rfl) (by kernel_rfl) (fun _ _ _ h => h) (Or.inl ⟨by rfl, ?_⟩) hHeld ?_
  rotate_left
  · (intro w hSw; (try dsimp only at hSw); go_simp; try with_reducible rfl)
  try simp only [Act.put, List.setIfInBounds_toArray, List.set_cons_zero, List.set_cons_succ, List.getElem_toArray, List.getElem_cons_succ, List.getElem_cons_zero]
  refine' wpAnyH_take (i := 14) (v := _) rfl (by kernel_rfl) (by kernel_rfl) (by kernel_rfl) (fun _ _ _ h => h) (Or.inl ⟨by rfl, ?_⟩) hHeld ?_
  rotate_left
  · (intro w hSw; (try dsimp only at hSw); go_simp; try with_reducible rfl)
  try simp only [Act.put, List.setIfInBounds_toArray, List.set_cons_zero, List.set_cons_succ, List.getElem_toArray, List.getElem_cons_succ, List.getElem_cons_zero]
  refine' wpAnyH_take (i := 15) (v := _) rfl (by kernel_rfl) (by kernel_rfl) (by kernel_rfl) (fun _ _ _ h => h) (Or.inl ⟨by rfl, ?_⟩) hHeld ?_
  rotate_left
  · (intro w hSw; (try dsimp only at hSw); go_simp; try with_reducible rfl)
  try simp only [Act.put, List.setIfInBounds_toArray, List.set_cons_zero, List.set_cons_succ, List.getElem_toArray, List.getElem_cons_succ, List.getElem_cons_zero]
  refine wpAnyH_done (by kernel_rfl) ?_ _
  clear hHeld
  go_wp2_with fail
  go_ret
  exact ⟨rfl, HB1.out, G1.out, B1.out⟩
set_option maxHeartbeats 1600000 in
theorem next_3 (b : Nat) (v : Value) (l : List UInt8) (hk : 32 ≤ l.length) (w : World) (hb : w.heap[b]? = some (rdObj v 3)) (hl : BytesAt w v l) (hne : ∀ a n c, v = .slice (some a) n c → a.block ≠ b) :
    Calls Tryz.prog 124 #[.pointer (some ⟨b, 0, none⟩)] w fun e w' => e = .returned (.int .u64 (q (wordAt l 24 8))) ∧ w'.heap[b]? = some (rdObj v 4) ∧ w.grownBy w' (some b) ∧ BytesAt w' v l := by
  have HK := hid hk; clear hk
  have hg := gb_row (gb_drew (.refl w (some b))) (p := ⟨b, 1, none⟩) rfl (.int .i64 4)
  have hl1 := hl.grown hg (fun k e => by cases e; exact .inr (.inr hne))
  have hb1 := at_set (at_drew hb) 1 (.int .i64 4)
  have B1 := hid hl1; have HB1 := hid hb1; have G1 := hid hg; clear hl1 hg hl hne
  have C0 := hid (show w.drew.cell? ⟨b, 0, none⟩ = some v from at_cell hb 0)
  have C1 := hid (show w.drew.cell? ⟨b, 1, none⟩ = some (.int .i64 3) from at_cell hb 1)
  have F1 := hid (show w.drew.frozen? ⟨b, 1, none⟩ = false from at_free hb 1)
  have CS := hid (show (w.drew.setCell ⟨b, 1, none⟩ (.int .i64 4)).cell? ⟨b, 0, none⟩ = some v from at_cell hb1 0)
  clear hb hb1
  go_enter Tryz.func124, Tryz.ntmps124
  go_wp2_with fail
  refine wp_region_held_drew (S := (fun w' => (w'.cell? ⟨b, 0, none⟩ = some v))) (by kernel_rfl) C0.out (fun hHeld => ?_)
  try dsimp only at hHeld
  refine' wpAnyH_take (i := 0) (v := _) rfl (by kernel_rfl) (by kernel_rfl) (by kernel_rfl) (fun _ _ _ h => h) (Or.inl ⟨by rfl, ?_⟩) hHeld ?_
  rotate_left
  · (intro w hSw; (try dsimp only at hSw); go_simp; try with_reducible rfl)
  try simp only [Act.put, List.setIfInBounds_toArray, List.set_cons_zero, List.set_cons_succ, List.getElem_toArray, List.getElem_cons_succ, List.getElem_cons_zero]
  refine' wpAnyH_take (i := 1) (v := _) rfl (by kernel_rfl) (by kernel_rfl) (by kernel_rfl) (fun _ _ _ h => h) (Or.inl ⟨by rfl, ?_⟩) hHeld ?_
  rotate_left
  · (intro w hSw; (try dsimp only at hSw); go_simp; try with_reducible rfl)
  try simp only [Act.put, List.setIfInBounds_toArray, List.set_cons_zero, List.set_cons_succ, List.getElem_toArray, List.getElem_cons_succ, List.getElem_cons_zero]
  refine' wpAnyH_take (i := 2) (v := _) rfl (by kernel_rfl) (by kernel_rfl) (by kernel_rfl) (fun _ _ _ h => h) (Or.inl ⟨by rfl, ?_⟩) hHeld ?_
  rotate_left
  · (intro w hSw; (try dsimp only at hSw); go_simp; try with_reducible rfl)
  try simp only [Act.put, List.setIfInBounds_toArray, List.set_cons_zero, List.set_cons_succ, List.getElem_toArray, List.getElem_cons_succ, List.getElem_cons_zero]
  refine' wpAnyH_take (i := 3) (v := _) rfl (by kernel_rfl) (by kernel_rfl) (by kernel_rfl) (fun _ _ _ h => h) (Or.inl ⟨by rfl, ?_⟩) hHeld ?_
  rotate_left
  · (intro w hSw; (try dsimp only at hSw); go_simp; try with_reducible rfl)
  try simp only [Act.put, List.setIfInBounds_toArray, List.set_cons_zero, List.set_cons_succ, List.getElem_toArray, List.getElem_cons_succ, List.getElem_cons_zero]
  refine' wpAnyH_take (i := 4) (v := _) rfl (by kernel_rfl) (by kernel_rfl) (by kernel_rfl) (fun _ _ _ h => h) (Or.inl ⟨by rfl, ?_⟩) hHeld ?_
  rotate_left
  · (intro w hSw; (try dsimp only at hSw); go_simp; try with_reducible rfl)
  try simp only [Act.put, List.setIfInBounds_toArray, List.set_cons_zero, List.set_cons_succ, List.getElem_toArray, List.getElem_cons_succ, List.getElem_cons_zero]
  refine' wpAnyH_take (i := 5) (v := _) rfl (by kernel_rfl) (by kernel_rfl) (by kernel_rfl) (fun _ _ _ h => h) (Or.inl ⟨by rfl, ?_⟩) hHeld ?_
  rotate_left
  · (intro w hSw; (try dsimp only at hSw); go_simp; try with_reducible rfl)
  try simp only [Act.put, List.setIfInBounds_toArray, List.set_cons_zero, List.set_cons_succ, List.getElem_toArray, List.getElem_cons_succ, List.getElem_cons_zero]
  refine' wpAnyH_take (i := 6) (v := _) rfl (by kernel_rfl) (by kernel_rfl) (by kernel_rfl) (fun _ _ _ h => h) (Or.inl ⟨by rfl, ?_⟩) hHeld ?_
  rotate_left
  · (intro w hSw; (try dsimp only at hSw); go_simp; try with_reducible rfl)
  try simp only [Act.put, List.setIfInBounds_toArray, List.set_cons_zero, List.set_cons_succ, List.getElem_toArray, List.getElem_cons_succ, List.getElem_cons_zero]
  refine wpAnyH_ready (rs := [7]) (by kernel_rfl) (by simp) ?_
  refine AllReadyH.cons (o := _) rfl (fun K hK => ?_) AllReadyH.nil
  try simp only [List.getElem_toArray, List.getElem_cons_succ, List.getElem_cons_zero]
  go_simp
  refine (nadd_i64 _ 3 4 (by decide) _ C1.out F1.out (by decide) (by decide)).mono ?_
  rintro e wa ⟨rfl, rfl⟩
  clear hHeld
  go_wp2_with fail
  refine hK.out _ _ ?_ (fun hHeld => ?_)
  · exact (CS.out)
  clear hK K
  try dsimp only at hHeld
  try simp only [Act.put, List.setIfInBounds_toArray, List.set_cons_zero, List.set_cons_succ, List.getElem_toArray, List.getElem_cons_succ, List.getElem_cons_zero]
  refine' wpAnyH_take (i := 8) (v := _) rfl (by kernel_rfl) (by kernel_rfl) (by kernel_rfl) (fun _ _ _ h => h) (Or.inl ⟨by rfl, ?_⟩) hHeld ?_
  rotate_left
  · (intro w hSw; (try dsimp only at hSw); go_simp; try with_reducible rfl)
  try simp only [Act.put, List.setIfInBounds_toArray, List.set_cons_zero, List.set_cons_succ, List.getElem_toArray, List.getElem_cons_succ, List.getElem_cons_zero]
  refine' wpAnyH_take (i := 9) (v := _) rfl (by kernel_rfl) (by kernel_rfl) (by kernel_rfl) (fun _ _ _ h => h) (Or.inl ⟨by rfl, ?_⟩) hHeld ?_
  rotate_left
  · (intro w hSw; (try dsimp only at hSw); go_simp; try with_reducible rfl)
  try simp only [Act.put, List.setIfInBounds_toArray, List.set_cons_zero, List.set_cons_succ, List.getElem_toArray, List.getElem_cons_succ, List.getElem_cons_zero]
  refine wpAnyH_ready (rs := [10]) (by kernel_rfl) (by simp) ?_
  refine AllReadyH.cons (o := _) rfl (fun K hK => ?_) AllReadyH.nil
  try simp only [List.getElem_toArray, List.getElem_cons_succ, List.getElem_cons_zero]
  go_simp
  clear hHeld
  refine (get_at l v 24 _ B1.out (by have := HK.out; omega)).mono ?_
  rintro e wa ⟨rfl, rfl⟩
  go_wp2_with fail
  refine hK.out _ _ ?_ (fun hHeld => ?_)
  · exact (CS.out)
  clear hK K
  try dsimp only at hHeld
  try simp only [Act.put, List.setIfInBounds_toArray, List.set_cons_zero, List.set_cons_succ, List.getElem_toArray, List.getElem_cons_succ, List.getElem_cons_zero]
  refine' wpAnyH_take (i := 11) (v := _) rfl (by kernel_rfl) (by kernel_rfl) (by kernel_rfl) (fun _ _ _ h => h) (Or.inl ⟨by rfl, ?_⟩) hHeld ?_
  rotate_left
  · (intro w hSw; (try dsimp only at hSw); go_simp; try with_reducible rfl)
  try simp only [Act.put, List.setIfInBounds_toArray, List.set_cons_zero, List.set_cons_succ, List.getElem_toArray, List.getElem_cons_succ, List.getElem_cons_zero]
  refine' wpAnyH_take (i := 12) (v := _) rfl (by kernel_rfl) (by kernel_rfl) (by kernel_rfl) (fun _ _ _ h => h) (Or.inl ⟨by rfl, ?_⟩) hHeld ?_
  rotate_left
  · (intro w hSw; (try dsimp only at hSw); go_simp; try with_reducible rfl)
  try simp only [Act.put, List.setIfInBounds_toArray, List.set_cons_zero, List.set_cons_succ, List.getElem_toArray, List.getElem_cons_succ, List.getElem_cons_zero]
  refine' wpAnyH_take (i := 13) (v := _) rfl (by kernel_rfl) (by kernel_rfl) (by kernel_rfl) (fun _ _ _ h => h) (Or.inl ⟨by rfl, ?_⟩) hHeld ?_
  rotate_left
  · (intro w hSw; (try dsimp only at hSw); go_simp; try with_reducible rfl)
  try simp only [Act.put, List.setIfInBounds_toArray, List.set_cons_zero, List.set_cons_succ, List.getElem_toArray, List.getElem_cons_succ, List.getElem_cons_zero]
  refine' wpAnyH_take (i := 14) (v := _) rfl (by kernel_rfl) (by kernel_rfl) (by kernel_rfl) (fun _ _ _ h => h) (Or.inl ⟨by rfl, ?_⟩) hHeld ?_
  rotate_left
  · (intro w hSw; (try dsimp only at hSw); go_simp; try with_reducible rfl)
  try simp only [Act.put, List.setIfInBounds_toArray, List.set_cons_zero, List.set_cons_succ, List.getElem_toArray, List.getElem_cons_succ, List.getElem_cons_zero]
  refine' wpAnyH_take (i := 15) (v := _) rfl (by kernel_rfl) (by kernel_rfl) (by kernel_rfl) (fun _ _ _ h => h) (Or.inl ⟨by rfl, ?_⟩) hHeld ?_
  rotate_left
  · (intro w hSw; (try dsimp only at hSw); go_simp; try with_reducible rfl)
  try simp only [Act.put, List.setIfInBounds_toArray, List.set_cons_zero, List.set_cons_succ, List.getElem_toArray, List.getElem_cons_succ, List.getElem_cons_zero]
  refine wpAnyH_done (by kernel_rfl) ?_ _
  clear hHeld
  go_wp2_with fail
  go_ret
  exact ⟨rfl, HB1.out, G1.out, B1.out⟩
end Go.Proofs.YtfhifnhnkgdnlaaGreat
end
