/-
  Contracts for the document's own messages as bytes. No condition.
-/
import Derived.Test.YtgpdcapnnejdeaaGreatJ0
import Derived.Test.YtgpdcapnnejdeaaGreatNWMayR
import Derived.Test.YtgpdcapnnejdeaaGreatY8
set_option linter.unusedSimpArgs false
set_option linter.unusedVariables false
namespace Go.Proofs.YtgpdcapnnejdeaaGreat
set_option maxRecDepth 100000
open Go.RowKit

set_option maxHeartbeats 1600000 in
theorem rput_bad (m : Mg) (hm : mayOf m = false) (w : World) :
  Calls Tryz.prog 48 #[mg m] w fun e w' => e = .returned (.tuple #[.string ⟨#[]⟩, .int .i64 1]) ∧ w.grownBy w' none := by
 have hc := maymsg_any m
 rw [hm] at hc
 have C := hid hc; clear hc hm
 have B := hid (boxm_new w m)
 go_enter Tryz.func48, Tryz.ntmps48
 go_wp2_with (refine wpList_row B.out.box Tryz.underlying39 rfl (by kernel_rfl) rfl rfl rfl rfl ?_)
 refine (C.out _).mono ?_
 rintro e w1 ⟨rfl, hg⟩
 have G := hid hg; clear hg
 go_wp2_with fail
 go_ret2
 exact ⟨rfl, gb_trans (gb_alloc (.refl w none) _) G.out (.inl rfl)⟩

set_option maxHeartbeats 3200000 in
theorem rput_good (m : Mg) (hm : mayOf m = true) (w : World) :
  Calls Tryz.prog 48 #[mg m] w fun e w' => e = .returned (.tuple #[.string ⟨(refPutOf m).toArray⟩, .int .i64 0]) ∧ w.grownBy w' none := by
 have hc := maymsg_any m
 rw [hm] at hc
 have C := hid hc; clear hc hm
 have B0 := hid (boxm_new w m)
 have he : (⟨[1, u8of m.kind, u8of m.who, u8of m.metric].toArray⟩ : ByteArray) ++ (⟨(put8 (w64 m.gen)).toArray⟩ : ByteArray).extract 0 4 ++ ⟨(put8 (w64 m.seq)).toArray⟩ ++ ⟨(put8 (w64 m.epoch)).toArray⟩ ++ ⟨(put8 (w64 m.value)).toArray⟩ = ⟨(refPutOf m).toArray⟩ := by
  apply ByteArray.ext; simp [refPutOf, put8]
 have p1 := fun w => refput_any (w64 m.gen) w
 have p2 := fun w => refput_any (w64 m.seq) w
 have p3 := fun w => refput_any (w64 m.epoch) w
 have p4 := fun w => refput_any (w64 m.value) w
 have z1 : (⟨(put8 (w64 m.gen)).toArray⟩ : ByteArray).size = 8 := rfl
 have z2 : (⟨(put8 (w64 m.seq)).toArray⟩ : ByteArray).size = 8 := rfl
 have z3 : (⟨(put8 (w64 m.epoch)).toArray⟩ : ByteArray).size = 8 := rfl
 have z4 : (⟨(put8 (w64 m.value)).toArray⟩ : ByteArray).size = 8 := rfl
 generalize (⟨(put8 (w64 m.gen)).toArray⟩ : ByteArray) = s1 at he p1 z1
 generalize (⟨(put8 (w64 m.seq)).toArray⟩ : ByteArray) = s2 at he p2 z2
 generalize (⟨(put8 (w64 m.epoch)).toArray⟩ : ByteArray) = s3 at he p3 z3
 generalize (⟨(put8 (w64 m.value)).toArray⟩ : ByteArray) = s4 at he p4 z4
 generalize (⟨(refPutOf m).toArray⟩ : ByteArray) = s5 at he ⊢
 subst he
 have P1 := hid p1; have P2 := hid p2; have P3 := hid p3; have P4 := hid p4; clear p1 p2 p3 p4
 go_enter Tryz.func48, Tryz.ntmps48
 go_wp2_with (refine wpList_row B0.out.box Tryz.underlying39 rfl (by kernel_rfl) rfl rfl rfl rfl ?_)
 refine (C.out _).mono ?_
 rintro e w1 ⟨rfl, hg⟩
 have B := hid (B0.out.grown hg); clear hg B0 C
 have hk := u8of_wrap m.kind; have hw := u8of_wrap m.who; have hmt := u8of_wrap m.metric
 have hgn : IntKind.u64.wrap m.gen = q (w64 m.gen) := q_lit m.gen
 have hs : IntKind.u64.wrap m.seq = q (w64 m.seq) := q_lit m.seq
 have he : IntKind.u64.wrap m.epoch = q (w64 m.epoch) := q_lit m.epoch
 have hv : IntKind.u64.wrap m.value = q (w64 m.value) := q_lit m.value
 go_wp2_with fail
 refine wp_region_held_drew (S := (fun w' => (BoxM w m w'))) (by kernel_rfl) B.out.drew (fun hHeld => ?_)
 try dsimp only at hHeld
 refine jU 0 hHeld ?_
 try simp only [jX, jD, jE, jF]
 refine' jT 1 rfl (by rfl) ?_ hHeld ?_
 rotate_left
 ·(intro w hSw; (try dsimp only at hSw); have bx := hSw; obtain ⟨d0, d1, d2, d3, d4, d5, d6⟩ := msg_cells bx.box; go_simp; try with_reducible rfl)
 try simp only [jX, jD, jE, jF]
 refine jU 2 hHeld ?_
 try simp only [jX, jD, jE, jF]
 refine jU 3 hHeld ?_
 try simp only [jX, jD, jE, jF]
 refine' jT 4 rfl (by rfl) ?_ hHeld ?_
 rotate_left
 ·(intro w hSw; (try dsimp only at hSw); have bx := hSw; obtain ⟨d0, d1, d2, d3, d4, d5, d6⟩ := msg_cells bx.box; go_simp; try with_reducible rfl)
 try simp only [jX, jD, jE, jF]
 refine jU 5 hHeld ?_
 try simp only [jX, jD, jE, jF]
 refine jU 6 hHeld ?_
 try simp only [jX, jD, jE, jF]
 refine' jT 7 rfl (by rfl) ?_ hHeld ?_
 rotate_left
 ·(intro w hSw; (try dsimp only at hSw); have bx := hSw; obtain ⟨d0, d1, d2, d3, d4, d5, d6⟩ := msg_cells bx.box; go_simp; try with_reducible rfl)
 try simp only [jX, jD, jE, jF]
 refine jU 8 hHeld ?_
 try simp only [jX, jD, jE, jF]
 refine jU 11 hHeld ?_
 try simp only [jX, jD, jE, jF]
 refine' jT 12 rfl (by rfl) ?_ hHeld ?_
 rotate_left
 ·(intro w hSw; (try dsimp only at hSw); have bx := hSw; obtain ⟨d0, d1, d2, d3, d4, d5, d6⟩ := msg_cells bx.box; go_simp; try with_reducible rfl)
 try simp only [jX, jD, jE, jF]
 refine jU 13 hHeld ?_
 try simp only [jX, jD, jE, jF]
 refine jU 17 hHeld ?_
 try simp only [jX, jD, jE, jF]
 refine' jT 18 rfl (by rfl) ?_ hHeld ?_
 rotate_left
 ·(intro w hSw; (try dsimp only at hSw); have bx := hSw; obtain ⟨d0, d1, d2, d3, d4, d5, d6⟩ := msg_cells bx.box; go_simp; try with_reducible rfl)
 try simp only [jX, jD, jE, jF]
 refine jU 19 hHeld ?_
 try simp only [jX, jD, jE, jF]
 refine jU 22 hHeld ?_
 try simp only [jX, jD, jE, jF]
 refine' jT 23 rfl (by rfl) ?_ hHeld ?_
 rotate_left
 ·(intro w hSw; (try dsimp only at hSw); have bx := hSw; obtain ⟨d0, d1, d2, d3, d4, d5, d6⟩ := msg_cells bx.box; go_simp; try with_reducible rfl)
 try simp only [jX, jD, jE, jF]
 refine jU 24 hHeld ?_
 try simp only [jX, jD, jE, jF]
 refine jU 27 hHeld ?_
 try simp only [jX, jD, jE, jF]
 refine' jT 28 rfl (by rfl) ?_ hHeld ?_
 rotate_left
 ·(intro w hSw; (try dsimp only at hSw); have bx := hSw; obtain ⟨d0, d1, d2, d3, d4, d5, d6⟩ := msg_cells bx.box; go_simp; try with_reducible rfl)
 try simp only [jX, jD, jE, jF]
 refine jU 29 hHeld ?_
 try simp only [jX, jD, jE, jF]
 refine jR [9, 14] ?_
 refine jG rfl (fun K hK => ?_) (jG rfl (fun K hK => ?_) AllReadyH.nil)
 ·have hH2 := hHeld
  have bx := hH2
  have hg : w1.drew.grownBy (w1.drew.alloc (.cells #[.int .u8 1, .int .u8 ((u8of m.kind).toNat : Int), .int .u8 ((u8of m.who).toNat : Int), .int .u8 ((u8of m.metric).toNat : Int)] 5)) none := World.grownBy_alloc _ _ _
  have L9 := hid (show (BoxM w m (w1.drew.alloc (.cells #[.int .u8 1, .int .u8 ((u8of m.kind).toNat : Int), .int .u8 ((u8of m.who).toNat : Int), .int .u8 ((u8of m.metric).toNat : Int)] 5))) from bx.grown hg)
  have Nfb := hid (own_block [1, u8of m.kind, u8of m.who, u8of m.metric] (at_new w1.drew _) (by unfold maxLen; simp) (Nat.le_refl _)).bytes
  clear hHeld hg bx
  try simp only [jD, jE, jF]
  go_simp
  refine hK.out _ _ ?_ (fun hHeld => ?_)
  ·exact L9.out
  clear hK K
  try dsimp only at hHeld
  try simp only [jX, jD, jE, jF]
  refine held_stronger (S' := fun w' => (fun w' => BytesAt w' (.slice (some ⟨w1.heap.size, 0, none⟩) 4 4) [1, u8of m.kind, u8of m.who, u8of m.metric]) w' ∧ ((fun w' => (BoxM w m w'))) w') (fun _ h => h.2) _ _ _ _ ?_
  replace hHeld := And.intro Nfb.out hHeld
  try dsimp only at hHeld
  refine' jT 10 rfl (by rfl) ?_ hHeld ?_
  rotate_left
  ·(intro w hSw; (try dsimp only at hSw); obtain ⟨fb, bx⟩ := hSw; have cv := conv_bytes fb; go_simp; try with_reducible rfl)
  try simp only [jX, jD, jE, jF]
  refine jR [14] ?_
  refine jG rfl (fun K hK => ?_) AllReadyH.nil
  try simp only [jD, jE, jF]
  go_simp
  have hH2 := hHeld
  obtain ⟨fb, bx⟩ := hH2
  refine (P1.out _).mono ?_
  rintro e w1014 ⟨rfl, hg⟩
  have L14 := hid (show (BytesAt w1014 (.slice (some ⟨w1.heap.size, 0, none⟩) 4 4) [1, u8of m.kind, u8of m.who, u8of m.metric]) ∧ (BoxM w m w1014) from ⟨fb.grown hg (by simp), bx.grown hg⟩)
  clear hHeld hg fb bx
  go_wp2_with fail
  refine hK.out _ _ ?_ (fun hHeld => ?_)
  ·exact L14.out
  clear hK K
  try dsimp only at hHeld
  try simp only [jX, jD, jE, jF]
  refine jU 15 hHeld ?_
  try simp only [jX, jD, jE, jF]
  refine jU 16 hHeld ?_
  try simp only [jX, jD, jE, jF]
  refine jR [20] ?_
  refine jG rfl (fun K hK => ?_) AllReadyH.nil
  try simp only [jD, jE, jF]
  go_simp
  have hH2 := hHeld
  obtain ⟨fb, bx⟩ := hH2
  refine (P2.out _).mono ?_
  rintro e w1020 ⟨rfl, hg⟩
  have L20 := hid (show (BytesAt w1020 (.slice (some ⟨w1.heap.size, 0, none⟩) 4 4) [1, u8of m.kind, u8of m.who, u8of m.metric]) ∧ (BoxM w m w1020) from ⟨fb.grown hg (by simp), bx.grown hg⟩)
  clear hHeld hg fb bx
  go_wp2_with fail
  refine hK.out _ _ ?_ (fun hHeld => ?_)
  ·exact L20.out
  clear hK K
  try dsimp only at hHeld
  try simp only [jX, jD, jE, jF]
  refine jU 21 hHeld ?_
  try simp only [jX, jD, jE, jF]
  refine jR [25] ?_
  refine jG rfl (fun K hK => ?_) AllReadyH.nil
  try simp only [jD, jE, jF]
  go_simp
  have hH2 := hHeld
  obtain ⟨fb, bx⟩ := hH2
  refine (P3.out _).mono ?_
  rintro e w1025 ⟨rfl, hg⟩
  have L25 := hid (show (BytesAt w1025 (.slice (some ⟨w1.heap.size, 0, none⟩) 4 4) [1, u8of m.kind, u8of m.who, u8of m.metric]) ∧ (BoxM w m w1025) from ⟨fb.grown hg (by simp), bx.grown hg⟩)
  clear hHeld hg fb bx
  go_wp2_with fail
  refine hK.out _ _ ?_ (fun hHeld => ?_)
  ·exact L25.out
  clear hK K
  try dsimp only at hHeld
  try simp only [jX, jD, jE, jF]
  refine jU 26 hHeld ?_
  try simp only [jX, jD, jE, jF]
  refine jR [30] ?_
  refine jG rfl (fun K hK => ?_) AllReadyH.nil
  try simp only [jD, jE, jF]
  go_simp
  have hH2 := hHeld
  obtain ⟨fb, bx⟩ := hH2
  refine (P4.out _).mono ?_
  rintro e w1030 ⟨rfl, hg⟩
  have L30 := hid (show (BytesAt w1030 (.slice (some ⟨w1.heap.size, 0, none⟩) 4 4) [1, u8of m.kind, u8of m.who, u8of m.metric]) ∧ (BoxM w m w1030) from ⟨fb.grown hg (by simp), bx.grown hg⟩)
  clear hHeld hg fb bx
  go_wp2_with fail
  refine hK.out _ _ ?_ (fun hHeld => ?_)
  ·exact L30.out
  clear hK K
  try dsimp only at hHeld
  try simp only [jX, jD, jE, jF]
  refine jU 31 hHeld ?_
  try simp only [jX, jD, jE, jF]
  refine jU 32 hHeld ?_
  try simp only [jX, jD, jE, jF]
  refine jU 33 hHeld ?_
  try simp only [jX, jD, jE, jF]
  refine wpAnyH_done (by kernel_rfl) ?_ _
  obtain ⟨fb, bx⟩ := hHeld
  have BX := hid bx; clear fb bx
  go_wp2_with fail
  go_ret2
  exact ⟨rfl, BX.out.g⟩
 ·try simp only [jD, jE, jF]
  go_simp
  have hH2 := hHeld
  have bx := hH2
  refine (P1.out _).mono ?_
  rintro e w1014 ⟨rfl, hg⟩
  have L14 := hid (show (BoxM w m w1014) from bx.grown hg)
  clear hHeld hg bx
  go_wp2_with fail
  refine hK.out _ _ ?_ (fun hHeld => ?_)
  ·exact L14.out
  clear hK K
  try dsimp only at hHeld
  try simp only [jX, jD, jE, jF]
  refine jU 15 hHeld ?_
  try simp only [jX, jD, jE, jF]
  refine jR [9, 20] ?_
  refine jG rfl (fun K hK => ?_) (jG rfl (fun K hK => ?_) AllReadyH.nil)
  ·have hH2 := hHeld
   have bx := hH2
   have hg : w1014.grownBy (w1014.alloc (.cells #[.int .u8 1, .int .u8 ((u8of m.kind).toNat : Int), .int .u8 ((u8of m.who).toNat : Int), .int .u8 ((u8of m.metric).toNat : Int)] 5)) none := World.grownBy_alloc _ _ _
   have L9 := hid (show (BoxM w m (w1014.alloc (.cells #[.int .u8 1, .int .u8 ((u8of m.kind).toNat : Int), .int .u8 ((u8of m.who).toNat : Int), .int .u8 ((u8of m.metric).toNat : Int)] 5))) from bx.grown hg)
   have Nfb := hid (own_block [1, u8of m.kind, u8of m.who, u8of m.metric] (at_new w1014 _) (by unfold maxLen; simp) (Nat.le_refl _)).bytes
   clear hHeld hg bx
   try simp only [jD, jE, jF]
   go_simp
   refine hK.out _ _ ?_ (fun hHeld => ?_)
   ·exact L9.out
   clear hK K
   try dsimp only at hHeld
   try simp only [jX, jD, jE, jF]
   refine held_stronger (S' := fun w' => (fun w' => BytesAt w' (.slice (some ⟨w1014.heap.size, 0, none⟩) 4 4) [1, u8of m.kind, u8of m.who, u8of m.metric]) w' ∧ ((fun w' => (BoxM w m w'))) w') (fun _ h => h.2) _ _ _ _ ?_
   replace hHeld := And.intro Nfb.out hHeld
   try dsimp only at hHeld
   refine' jT 10 rfl (by rfl) ?_ hHeld ?_
   rotate_left
   ·(intro w hSw; (try dsimp only at hSw); obtain ⟨fb, bx⟩ := hSw; have cv := conv_bytes fb; go_simp; try with_reducible rfl)
   try simp only [jX, jD, jE, jF]
   refine jU 16 hHeld ?_
   try simp only [jX, jD, jE, jF]
   refine jR [20] ?_
   refine jG rfl (fun K hK => ?_) AllReadyH.nil
   try simp only [jD, jE, jF]
   go_simp
   have hH2 := hHeld
   obtain ⟨fb, bx⟩ := hH2
   refine (P2.out _).mono ?_
   rintro e w1020 ⟨rfl, hg⟩
   have L20 := hid (show (BytesAt w1020 (.slice (some ⟨w1014.heap.size, 0, none⟩) 4 4) [1, u8of m.kind, u8of m.who, u8of m.metric]) ∧ (BoxM w m w1020) from ⟨fb.grown hg (by simp), bx.grown hg⟩)
   clear hHeld hg fb bx
   go_wp2_with fail
   refine hK.out _ _ ?_ (fun hHeld => ?_)
   ·exact L20.out
   clear hK K
   try dsimp only at hHeld
   try simp only [jX, jD, jE, jF]
   refine jU 21 hHeld ?_
   try simp only [jX, jD, jE, jF]
   refine jR [25] ?_
   refine jG rfl (fun K hK => ?_) AllReadyH.nil
   try simp only [jD, jE, jF]
   go_simp
   have hH2 := hHeld
   obtain ⟨fb, bx⟩ := hH2
   refine (P3.out _).mono ?_
   rintro e w1025 ⟨rfl, hg⟩
   have L25 := hid (show (BytesAt w1025 (.slice (some ⟨w1014.heap.size, 0, none⟩) 4 4) [1, u8of m.kind, u8of m.who, u8of m.metric]) ∧ (BoxM w m w1025) from ⟨fb.grown hg (by simp), bx.grown hg⟩)
   clear hHeld hg fb bx
   go_wp2_with fail
   refine hK.out _ _ ?_ (fun hHeld => ?_)
   ·exact L25.out
   clear hK K
   try dsimp only at hHeld
   try simp only [jX, jD, jE, jF]
   refine jU 26 hHeld ?_
   try simp only [jX, jD, jE, jF]
   refine jR [30] ?_
   refine jG rfl (fun K hK => ?_) AllReadyH.nil
   try simp only [jD, jE, jF]
   go_simp
   have hH2 := hHeld
   obtain ⟨fb, bx⟩ := hH2
   refine (P4.out _).mono ?_
   rintro e w1030 ⟨rfl, hg⟩
   have L30 := hid (show (BytesAt w1030 (.slice (some ⟨w1014.heap.size, 0, none⟩) 4 4) [1, u8of m.kind, u8of m.who, u8of m.metric]) ∧ (BoxM w m w1030) from ⟨fb.grown hg (by simp), bx.grown hg⟩)
   clear hHeld hg fb bx
   go_wp2_with fail
   refine hK.out _ _ ?_ (fun hHeld => ?_)
   ·exact L30.out
   clear hK K
   try dsimp only at hHeld
   try simp only [jX, jD, jE, jF]
   refine jU 31 hHeld ?_
   try simp only [jX, jD, jE, jF]
   refine jU 32 hHeld ?_
   try simp only [jX, jD, jE, jF]
   refine jU 33 hHeld ?_
   try simp only [jX, jD, jE, jF]
   refine wpAnyH_done (by kernel_rfl) ?_ _
   obtain ⟨fb, bx⟩ := hHeld
   have BX := hid bx; clear fb bx
   go_wp2_with fail
   go_ret2
   exact ⟨rfl, BX.out.g⟩
  ·try simp only [jD, jE, jF]
   go_simp
   have hH2 := hHeld
   have bx := hH2
   refine (P2.out _).mono ?_
   rintro e w1020 ⟨rfl, hg⟩
   have L20 := hid (show (BoxM w m w1020) from bx.grown hg)
   clear hHeld hg bx
   go_wp2_with fail
   refine hK.out _ _ ?_ (fun hHeld => ?_)
   ·exact L20.out
   clear hK K
   try dsimp only at hHeld
   try simp only [jX, jD, jE, jF]
   refine jR [9, 25] ?_
   refine jG rfl (fun K hK => ?_) (jG rfl (fun K hK => ?_) AllReadyH.nil)
   ·have hH2 := hHeld
    have bx := hH2
    have hg : w1020.grownBy (w1020.alloc (.cells #[.int .u8 1, .int .u8 ((u8of m.kind).toNat : Int), .int .u8 ((u8of m.who).toNat : Int), .int .u8 ((u8of m.metric).toNat : Int)] 5)) none := World.grownBy_alloc _ _ _
    have L9 := hid (show (BoxM w m (w1020.alloc (.cells #[.int .u8 1, .int .u8 ((u8of m.kind).toNat : Int), .int .u8 ((u8of m.who).toNat : Int), .int .u8 ((u8of m.metric).toNat : Int)] 5))) from bx.grown hg)
    have Nfb := hid (own_block [1, u8of m.kind, u8of m.who, u8of m.metric] (at_new w1020 _) (by unfold maxLen; simp) (Nat.le_refl _)).bytes
    clear hHeld hg bx
    try simp only [jD, jE, jF]
    go_simp
    refine hK.out _ _ ?_ (fun hHeld => ?_)
    ·exact L9.out
    clear hK K
    try dsimp only at hHeld
    try simp only [jX, jD, jE, jF]
    refine held_stronger (S' := fun w' => (fun w' => BytesAt w' (.slice (some ⟨w1020.heap.size, 0, none⟩) 4 4) [1, u8of m.kind, u8of m.who, u8of m.metric]) w' ∧ ((fun w' => (BoxM w m w'))) w') (fun _ h => h.2) _ _ _ _ ?_
    replace hHeld := And.intro Nfb.out hHeld
    try dsimp only at hHeld
    refine' jT 10 rfl (by rfl) ?_ hHeld ?_
    rotate_left
    ·(intro w hSw; (try dsimp only at hSw); obtain ⟨fb, bx⟩ := hSw; have cv := conv_bytes fb; go_simp; try with_reducible rfl)
    try simp only [jX, jD, jE, jF]
    refine jU 16 hHeld ?_
    try simp only [jX, jD, jE, jF]
    refine jU 21 hHeld ?_
    try simp only [jX, jD, jE, jF]
    refine jR [25] ?_
    refine jG rfl (fun K hK => ?_) AllReadyH.nil
    try simp only [jD, jE, jF]
    go_simp
    have hH2 := hHeld
    obtain ⟨fb, bx⟩ := hH2
    refine (P3.out _).mono ?_
    rintro e w1025 ⟨rfl, hg⟩
    have L25 := hid (show (BytesAt w1025 (.slice (some ⟨w1020.heap.size, 0, none⟩) 4 4) [1, u8of m.kind, u8of m.who, u8of m.metric]) ∧ (BoxM w m w1025) from ⟨fb.grown hg (by simp), bx.grown hg⟩)
    clear hHeld hg fb bx
    go_wp2_with fail
    refine hK.out _ _ ?_ (fun hHeld => ?_)
    ·exact L25.out
    clear hK K
    try dsimp only at hHeld
    try simp only [jX, jD, jE, jF]
    refine jU 26 hHeld ?_
    try simp only [jX, jD, jE, jF]
    refine jR [30] ?_
    refine jG rfl (fun K hK => ?_) AllReadyH.nil
    try simp only [jD, jE, jF]
    go_simp
    have hH2 := hHeld
    obtain ⟨fb, bx⟩ := hH2
    refine (P4.out _).mono ?_
    rintro e w1030 ⟨rfl, hg⟩
    have L30 := hid (show (BytesAt w1030 (.slice (some ⟨w1020.heap.size, 0, none⟩) 4 4) [1, u8of m.kind, u8of m.who, u8of m.metric]) ∧ (BoxM w m w1030) from ⟨fb.grown hg (by simp), bx.grown hg⟩)
    clear hHeld hg fb bx
    go_wp2_with fail
    refine hK.out _ _ ?_ (fun hHeld => ?_)
    ·exact L30.out
    clear hK K
    try dsimp only at hHeld
    try simp only [jX, jD, jE, jF]
    refine jU 31 hHeld ?_
    try simp only [jX, jD, jE, jF]
    refine jU 32 hHeld ?_
    try simp only [jX, jD, jE, jF]
    refine jU 33 hHeld ?_
    try simp only [jX, jD, jE, jF]
    refine wpAnyH_done (by kernel_rfl) ?_ _
    obtain ⟨fb, bx⟩ := hHeld
    have BX := hid bx; clear fb bx
    go_wp2_with fail
    go_ret2
    exact ⟨rfl, BX.out.g⟩
   ·try simp only [jD, jE, jF]
    go_simp
    have hH2 := hHeld
    have bx := hH2
    refine (P3.out _).mono ?_
    rintro e w1025 ⟨rfl, hg⟩
    have L25 := hid (show (BoxM w m w1025) from bx.grown hg)
    clear hHeld hg bx
    go_wp2_with fail
    refine hK.out _ _ ?_ (fun hHeld => ?_)
    ·exact L25.out
    clear hK K
    try dsimp only at hHeld
    try simp only [jX, jD, jE, jF]
    refine jR [9, 30] ?_
    refine jG rfl (fun K hK => ?_) (jG rfl (fun K hK => ?_) AllReadyH.nil)
    ·have hH2 := hHeld
     have bx := hH2
     have hg : w1025.grownBy (w1025.alloc (.cells #[.int .u8 1, .int .u8 ((u8of m.kind).toNat : Int), .int .u8 ((u8of m.who).toNat : Int), .int .u8 ((u8of m.metric).toNat : Int)] 5)) none := World.grownBy_alloc _ _ _
     have L9 := hid (show (BoxM w m (w1025.alloc (.cells #[.int .u8 1, .int .u8 ((u8of m.kind).toNat : Int), .int .u8 ((u8of m.who).toNat : Int), .int .u8 ((u8of m.metric).toNat : Int)] 5))) from bx.grown hg)
     have Nfb := hid (own_block [1, u8of m.kind, u8of m.who, u8of m.metric] (at_new w1025 _) (by unfold maxLen; simp) (Nat.le_refl _)).bytes
     clear hHeld hg bx
     try simp only [jD, jE, jF]
     go_simp
     refine hK.out _ _ ?_ (fun hHeld => ?_)
     ·exact L9.out
     clear hK K
     try dsimp only at hHeld
     try simp only [jX, jD, jE, jF]
     refine held_stronger (S' := fun w' => (fun w' => BytesAt w' (.slice (some ⟨w1025.heap.size, 0, none⟩) 4 4) [1, u8of m.kind, u8of m.who, u8of m.metric]) w' ∧ ((fun w' => (BoxM w m w'))) w') (fun _ h => h.2) _ _ _ _ ?_
     replace hHeld := And.intro Nfb.out hHeld
     try dsimp only at hHeld
     refine' jT 10 rfl (by rfl) ?_ hHeld ?_
     rotate_left
     ·(intro w hSw; (try dsimp only at hSw); obtain ⟨fb, bx⟩ := hSw; have cv := conv_bytes fb; go_simp; try with_reducible rfl)
     try simp only [jX, jD, jE, jF]
     refine jU 16 hHeld ?_
     try simp only [jX, jD, jE, jF]
     refine jU 21 hHeld ?_
     try simp only [jX, jD, jE, jF]
     refine jU 26 hHeld ?_
     try simp only [jX, jD, jE, jF]
     refine jR [30] ?_
     refine jG rfl (fun K hK => ?_) AllReadyH.nil
     try simp only [jD, jE, jF]
     go_simp
     have hH2 := hHeld
     obtain ⟨fb, bx⟩ := hH2
     refine (P4.out _).mono ?_
     rintro e w1030 ⟨rfl, hg⟩
     have L30 := hid (show (BytesAt w1030 (.slice (some ⟨w1025.heap.size, 0, none⟩) 4 4) [1, u8of m.kind, u8of m.who, u8of m.metric]) ∧ (BoxM w m w1030) from ⟨fb.grown hg (by simp), bx.grown hg⟩)
     clear hHeld hg fb bx
     go_wp2_with fail
     refine hK.out _ _ ?_ (fun hHeld => ?_)
     ·exact L30.out
     clear hK K
     try dsimp only at hHeld
     try simp only [jX, jD, jE, jF]
     refine jU 31 hHeld ?_
     try simp only [jX, jD, jE, jF]
     refine jU 32 hHeld ?_
     try simp only [jX, jD, jE, jF]
     refine jU 33 hHeld ?_
     try simp only [jX, jD, jE, jF]
     refine wpAnyH_done (by kernel_rfl) ?_ _
     obtain ⟨fb, bx⟩ := hHeld
     have BX := hid bx; clear fb bx
     go_wp2_with fail
     go_ret2
     exact ⟨rfl, BX.out.g⟩
    ·try simp only [jD, jE, jF]
     go_simp
     have hH2 := hHeld
     have bx := hH2
     refine (P4.out _).mono ?_
     rintro e w1030 ⟨rfl, hg⟩
     have L30 := hid (show (BoxM w m w1030) from bx.grown hg)
     clear hHeld hg bx
     go_wp2_with fail
     refine hK.out _ _ ?_ (fun hHeld => ?_)
     ·exact L30.out
     clear hK K
     try dsimp only at hHeld
     try simp only [jX, jD, jE, jF]
     refine jR [9] ?_
     refine jG rfl (fun K hK => ?_) AllReadyH.nil
     have hH2 := hHeld
     have bx := hH2
     have hg : w1030.grownBy (w1030.alloc (.cells #[.int .u8 1, .int .u8 ((u8of m.kind).toNat : Int), .int .u8 ((u8of m.who).toNat : Int), .int .u8 ((u8of m.metric).toNat : Int)] 5)) none := World.grownBy_alloc _ _ _
     have L9 := hid (show (BoxM w m (w1030.alloc (.cells #[.int .u8 1, .int .u8 ((u8of m.kind).toNat : Int), .int .u8 ((u8of m.who).toNat : Int), .int .u8 ((u8of m.metric).toNat : Int)] 5))) from bx.grown hg)
     have Nfb := hid (own_block [1, u8of m.kind, u8of m.who, u8of m.metric] (at_new w1030 _) (by unfold maxLen; simp) (Nat.le_refl _)).bytes
     clear hHeld hg bx
     try simp only [jD, jE, jF]
     go_simp
     refine hK.out _ _ ?_ (fun hHeld => ?_)
     ·exact L9.out
     clear hK K
     try dsimp only at hHeld
     try simp only [jX, jD, jE, jF]
     refine held_stronger (S' := fun w' => (fun w' => BytesAt w' (.slice (some ⟨w1030.heap.size, 0, none⟩) 4 4) [1, u8of m.kind, u8of m.who, u8of m.metric]) w' ∧ ((fun w' => (BoxM w m w'))) w') (fun _ h => h.2) _ _ _ _ ?_
     replace hHeld := And.intro Nfb.out hHeld
     try dsimp only at hHeld
     refine' jT 10 rfl (by rfl) ?_ hHeld ?_
     rotate_left
     ·(intro w hSw; (try dsimp only at hSw); obtain ⟨fb, bx⟩ := hSw; have cv := conv_bytes fb; go_simp; try with_reducible rfl)
     try simp only [jX, jD, jE, jF]
     refine jU 16 hHeld ?_
     try simp only [jX, jD, jE, jF]
     refine jU 21 hHeld ?_
     try simp only [jX, jD, jE, jF]
     refine jU 26 hHeld ?_
     try simp only [jX, jD, jE, jF]
     refine jU 31 hHeld ?_
     try simp only [jX, jD, jE, jF]
     refine jU 32 hHeld ?_
     try simp only [jX, jD, jE, jF]
     refine jU 33 hHeld ?_
     try simp only [jX, jD, jE, jF]
     refine wpAnyH_done (by kernel_rfl) ?_ _
     obtain ⟨fb, bx⟩ := hHeld
     have BX := hid bx; clear fb bx
     go_wp2_with fail
     go_ret2
     exact ⟨rfl, BX.out.g⟩

end Go.Proofs.YtgpdcapnnejdeaaGreat
