/-
  Contracts for the document's own reading of messages, its envelopes. The condition: strings of a modest length.
-/
import Derived.Test.YtgpdcapnnejdeaaGreatJ0
import Derived.Test.YtgpdcapnnejdeaaGreatNWRPut
import Derived.Test.YtgpdcapnnejdeaaGreatNWSplit
import Derived.Test.YtgpdcapnnejdeaaGreatY6
set_option linter.unusedSimpArgs false
set_option linter.unusedVariables false
namespace Go.Proofs.YtgpdcapnnejdeaaGreat
set_option maxRecDepth 100000
open Go.RowKit

theorem str_ne {a b : ByteArray} (h : ¬ a = b) : (a.toList == b.toList) = false := by
 rw [ByteArray.toList_eq, ByteArray.toList_eq]
 exact beq_eq_false_iff_ne.2 fun e => h (ByteArray.ext (Array.toList_inj.1 e))
theorem rput_as (m : Mg) (hm : mayOf m = true) (w : World) :
  Calls Tryz.prog 48 #[mg m] w fun e w' => e = .returned (.tuple #[.string ⟨(putOf m).toArray⟩, .int .i64 0]) ∧ w.grownBy w' none := by
 rw [← refPut_eq (may_of hm)]; exact rput_good m hm w

set_option maxHeartbeats 1600000 in
theorem rseal_bad (k0 k1 : BitVec 64) (m : Mg) (hm : mayOf m = false) (w : World) :
  Calls Tryz.prog 16 #[pair k0 k1, mg m] w fun e w' => e = .returned (.tuple #[.string ⟨#[]⟩, .int .i64 1]) ∧ w.grownBy w' none := by
 have C := hid (fun w => rput_bad m hm w)
 have K := hid (km_new w k0 k1 m)
 clear hm
 go_enter Tryz.func16, Tryz.ntmps16
 go_wp2_with (refine wpList_row K.out.msg Tryz.underlying39 rfl (by kernel_rfl) rfl rfl rfl rfl ?_)
 refine (C.out _).mono ?_
 rintro e w1 ⟨rfl, hg⟩
 have G := hid (gb_trans K.out.g hg (.inl rfl)); clear hg
 go_wp2_with fail
 go_ret2
 exact ⟨rfl, G.out⟩

set_option maxHeartbeats 3200000 in
theorem rseal_good (k0 k1 : BitVec 64) (m : Mg) (hm : mayOf m = true) (w : World) :
  Calls Tryz.prog 16 #[pair k0 k1, mg m] w fun e w' => e = .returned (.tuple #[.string ⟨(sealOf k0 k1 m).toArray⟩, .int .i64 0]) ∧ w.grownBy w' none := by
 have C := hid (fun w => rput_as m hm w)
 have K := hid (km_new w k0 k1 m)
 clear hm
 have he : (⟨(putOf m).toArray⟩ : ByteArray) ++ ⟨(put8 (sumOf k0 k1 (putOf m)) ++ put8 (sumOf k1 (inv k0) (putOf m))).toArray⟩ = ⟨(sealOf k0 k1 m).toArray⟩ := by
  apply ByteArray.ext; simp [sealOf, tagB]
 have ht := fun w => reftag_any k0 k1 ⟨(putOf m).toArray⟩ (by show (putOf m).toArray.size ≤ _; simp [putOf_length]) w
 have hb := fun w => reftagbytes_any (sumOf k0 k1 (putOf m)) (sumOf k1 (inv k0) (putOf m)) w
 have z1 : (⟨(putOf m).toArray⟩ : ByteArray).size = 32 := rfl
 have z2 : (⟨(put8 (sumOf k0 k1 (putOf m)) ++ put8 (sumOf k1 (inv k0) (putOf m))).toArray⟩ : ByteArray).size = 16 := rfl
 rw [show (⟨(putOf m).toArray⟩ : ByteArray).data.toList = putOf m by simp] at ht
 generalize (⟨(put8 (sumOf k0 k1 (putOf m)) ++ put8 (sumOf k1 (inv k0) (putOf m))).toArray⟩ : ByteArray) = s2 at he hb z2
 generalize sumOf k0 k1 (putOf m) = a at ht hb
 generalize sumOf k1 (inv k0) (putOf m) = b at ht hb
 generalize (⟨(putOf m).toArray⟩ : ByteArray) = s1 at he ht z1 C
 generalize (⟨(sealOf k0 k1 m).toArray⟩ : ByteArray) = s3 at he ⊢
 subst he
 have T := hid ht; have B := hid hb; clear ht hb
 go_enter Tryz.func16, Tryz.ntmps16
 go_wp2_with (refine wpList_row K.out.msg Tryz.underlying39 rfl (by kernel_rfl) rfl rfl rfl rfl ?_)
 refine (C.out _).mono ?_
 rintro e w1 ⟨rfl, hg⟩
 have K1 := hid (K.out.grown hg); clear hg K
 obtain ⟨c0, c1⟩ := pair_cells K1.out.key
 go_wp2_with fail
 clear c0 c1
 refine (T.out _).mono ?_
 rintro e w2 ⟨rfl, hg⟩
 have K2 := hid (K1.out.grown hg); clear hg K1
 go_wp2_with fail
 refine (B.out _).mono ?_
 rintro e w3 ⟨rfl, hg⟩
 have K3 := hid (K2.out.grown hg); clear hg K2
 go_wp2_with fail
 go_ret2
 exact ⟨rfl, K3.out.g⟩

theorem drewZ {w wz : World} {o : Obj} (h : wz.heap[w.heap.size]? = some o ∧ w.grownBy wz none) : wz.drew.heap[w.heap.size]? = some o ∧ w.grownBy wz.drew none := ⟨h.1, gb_drew h.2⟩

set_option maxHeartbeats 3200000 in
theorem rget_walk (s : ByteArray) (hn : s.size = 32) (w : World) :
  Calls Tryz.prog 97 #[.string s] w fun e w' => e = .returned (.tuple #[mg (gotM s.data.toList), .int .i64 (gotC s.data.toList)]) ∧ w.grownBy w' none := by
 have hz4 : (s.extract 4 8).size = 4 := by rw [ByteArray.size_extract]; omega
 have hz8 : (s.extract 4 8 ++ ⟨#[0, 0, 0, 0]⟩).size = 8 := by rw [ByteArray.size_append, hz4]; rfl
 have hcat : (s.extract 4 8 ++ ⟨#[0, 0, 0, 0]⟩).data.toList = (s.data.toList.drop 4).take 4 ++ [0, 0, 0, 0] := by
  simp [List.extract_eq_take_drop]
 have g0 := fun w => refget_in (s.extract 4 8 ++ ⟨#[0, 0, 0, 0]⟩) 0 w (by rw [hz8]; unfold maxLen; decide) (by rw [hz8]; decide)
 rw [hcat] at g0
 have g1 := fun w => refget_in s 8 w (by rw [hn]; unfold maxLen; decide) (by rw [hn]; decide)
 have g2 := fun w => refget_in s 16 w (by rw [hn]; unfold maxLen; decide) (by rw [hn]; decide)
 have g3 := fun w => refget_in s 24 w (by rw [hn]; unfold maxLen; decide) (by rw [hn]; decide)
 have b1 := byteAt_bytes s 1 (by rw [hn]; decide)
 have b2 := byteAt_bytes s 2 (by rw [hn]; decide)
 have b3 := byteAt_bytes s 3 (by rw [hn]; decide)
 obtain ⟨r, hr⟩ : ∃ r, refReadOf s.data.toList = r := ⟨_, rfl⟩
 have e0 : ((byteAt s.data.toList 1).toNat : Int) = r.kind := by rw [← hr]; rfl
 have e1 : ((byteAt s.data.toList 2).toNat : Int) = r.who := by rw [← hr]; rfl
 have e3 : ((byteAt s.data.toList 3).toNat : Int) = r.metric := by rw [← hr]; rfl
 have e2 : wrap64 (q (wordAt ((s.data.toList.drop 4).take 4 ++ [0, 0, 0, 0]) 0 8)) = r.gen := by rw [← hr]; exact wrap_q _
 have e4 : wrap64 (q (wordAt s.data.toList 8 8)) = r.seq := by rw [← hr]; exact wrap_q _
 have e5 : wrap64 (q (wordAt s.data.toList 16 8)) = r.epoch := by rw [← hr]; exact wrap_q _
 have e6 : wrap64 (q (wordAt s.data.toList 24 8)) = r.value := by rw [← hr]; exact wrap_q _
 rw [b1] at e0; rw [b2] at e1; rw [b3] at e3
 clear b1 b2 b3
 have wb : ∀ (c : UInt8), IntKind.i64.wrap (c.toNat : Int) = (c.toNat : Int) := fun c => by rw [IntWalk.i64_left]; unfold wrap64; have := c.toNat_lt; omega
 have f0 : IntKind.i64.wrap r.kind = r.kind := by rw [← e0]; exact wb _
 have f1 : IntKind.i64.wrap r.who = r.who := by rw [← e1]; exact wb _
 have f3 : IntKind.i64.wrap r.metric = r.metric := by rw [← e3]; exact wb _
 clear wb
 generalize wordAt ((s.data.toList.drop 4).take 4 ++ [0, 0, 0, 0]) 0 8 = x0 at g0 e2
 generalize wordAt s.data.toList 8 8 = x1 at g1 e4
 generalize wordAt s.data.toList 16 8 = x2 at g2 e5
 generalize wordAt s.data.toList 24 8 = x3 at g3 e6
 have G0 := hid g0; have G1 := hid g1; have G2 := hid g2; have G3 := hid g3; have HR := hid hr; have HC := hid hcat
 clear g0 g1 g2 g3 hr hcat
 have f2 : IntKind.i64.wrap (q x0) = r.gen := by rw [IntWalk.i64_left]; exact e2
 have f4 : IntKind.i64.wrap (q x1) = r.seq := by rw [IntWalk.i64_left]; exact e4
 have f5 : IntKind.i64.wrap (q x2) = r.epoch := by rw [IntWalk.i64_left]; exact e5
 have f6 : IntKind.i64.wrap (q x3) = r.value := by rw [IntWalk.i64_left]; exact e6
 go_enter Tryz.func97, Tryz.ntmps97
 go_wp2_with fail
 refine (G0.out _).mono ?_
 rintro e w1 ⟨rfl, rfl⟩
 go_wp2_with fail
 refine (G1.out _).mono ?_
 rintro e w1 ⟨rfl, rfl⟩
 go_wp2_with fail
 refine (G2.out _).mono ?_
 rintro e w1 ⟨rfl, rfl⟩
 go_wp2_with fail
 refine (G3.out _).mono ?_
 rintro e w1 ⟨rfl, rfl⟩
 have z0 : (w.alloc (.cells zeroM.cells 39)).heap[w.heap.size]? = some (.cells zeroM.cells 39) ∧ w.grownBy (w.alloc (.cells zeroM.cells 39)) none := ⟨at_new w _, gb_alloc (.refl w none) _⟩
 go_wp2_with fail
 refine wp_gen (fun wz => wz.heap[w.heap.size]? = some (.cells zeroM.cells 39) ∧ w.grownBy wz none) z0 ?_
 clear z0
 intro wz hz
 have hsz := at_lt hz.1
 have Z := hid hz; clear hz
 have HZ1 := hid (Nat.ne_of_lt hsz); have HZ2 := hid (Nat.le_of_lt hsz); clear hsz
 refine wp_region_held_drew (S := (fun w' => (w'.heap[w.heap.size]? = some (.cells zeroM.cells 39)) ∧ (w.grownBy w' none))) (by kernel_rfl) (drewZ Z.out) (fun hHeld => ?_)
 try dsimp only at hHeld
 refine jU 0 hHeld ?_
 try simp only [jX, jD, jE, jF]
 refine jU 1 hHeld ?_
 try simp only [jX, jD, jE, jF]
 refine jU 2 hHeld ?_
 try simp only [jX, jD, jE, jF]
 refine jU 3 hHeld ?_
 try simp only [jX, jD, jE, jF]
 refine jU 4 hHeld ?_
 try simp only [jX, jD, jE, jF]
 refine jU 5 hHeld ?_
 try simp only [jX, jD, jE, jF]
 refine jU 6 hHeld ?_
 try simp only [jX, jD, jE, jF]
 refine jU 7 hHeld ?_
 try simp only [jX, jD, jE, jF]
 refine jU 8 hHeld ?_
 try simp only [jX, jD, jE, jF]
 refine jU 9 hHeld ?_
 try simp only [jX, jD, jE, jF]
 refine jU 10 hHeld ?_
 try simp only [jX, jD, jE, jF]
 refine jU 11 hHeld ?_
 try simp only [jX, jD, jE, jF]
 refine jU 12 hHeld ?_
 try simp only [jX, jD, jE, jF]
 refine jU 13 hHeld ?_
 try simp only [jX, jD, jE, jF]
 refine jU 14 hHeld ?_
 try simp only [jX, jD, jE, jF]
 refine jU 15 hHeld ?_
 try simp only [jX, jD, jE, jF]
 refine jU 16 hHeld ?_
 try simp only [jX, jD, jE, jF]
 refine jU 17 hHeld ?_
 try simp only [jX, jD, jE, jF]
 refine jR [18] ?_
 refine jG rfl (fun K hK => ?_) AllReadyH.nil
 have hH2 := hHeld
 obtain ⟨an, g⟩ := hH2
 have hg : wz.drew.grownBy (wz.drew.alloc (.cells zeroM.cells 39)) none := World.grownBy_alloc _ _ _
 have L18 := hid (show ((wz.drew.alloc (.cells zeroM.cells 39)).heap[w.heap.size]? = some (.cells zeroM.cells 39)) ∧ (w.grownBy (wz.drew.alloc (.cells zeroM.cells 39)) none) from ⟨at_grown an hg (by simp), gb_trans g hg (.inl rfl)⟩)
 clear hHeld hg an g
 try simp only [jD, jE, jF]
 go_simp
 refine hK.out _ _ ?_ (fun hHeld => ?_)
 ·exact L18.out
 clear hK K
 try dsimp only at hHeld
 try simp only [jX, jD, jE, jF]
 refine jR [19] ?_
 refine jG rfl (fun K hK => ?_) AllReadyH.nil
 have hH2 := hHeld
 obtain ⟨an, g⟩ := hH2
 have L19 := hid (show ((((wz.drew.alloc (.cells zeroM.cells 39))).setRow wz.heap.size r.cells).heap[w.heap.size]? = some (.cells zeroM.cells 39)) ∧ (w.grownBy (((wz.drew.alloc (.cells zeroM.cells 39))).setRow wz.heap.size r.cells) none) from ⟨at_setRow_other an HZ1.out, gb_setRow g HZ2.out⟩)
 have Nbx := hid (show (((wz.drew.alloc (.cells zeroM.cells 39))).setRow wz.heap.size r.cells).heap[wz.heap.size]? = some (.cells r.cells 39) from (at_setRow (at_new wz.drew _)))
 have A19 := hid (at_new wz.drew (.cells zeroM.cells 39))
 clear hHeld an g
 try simp only [jD, jE, jF]
 rw [if_pos (by rfl)]
 refine wp_store_row (cs := r.cells) A19.out (by kernel_rfl) (by kernel_rfl) (by kernel_rfl) rfl rfl rfl rfl ?_
 refine hK.out _ _ ?_ (fun hHeld => ?_)
 ·exact L19.out
 clear hK K
 try dsimp only at hHeld
 try simp only [jX, jD, jE, jF]
 refine held_stronger (S' := fun w' => (fun w' => w'.heap[wz.heap.size]? = some (.cells r.cells 39)) w' ∧ ((fun w' => (w'.heap[w.heap.size]? = some (.cells zeroM.cells 39)) ∧ (w.grownBy w' none))) w') (fun _ h => h.2) _ _ _ _ ?_
 replace hHeld := And.intro Nbx.out hHeld
 try dsimp only at hHeld
 refine wpAnyH_done (by kernel_rfl) ?_ _
 obtain ⟨bx, an, g⟩ := hHeld
 have BX := hid bx; have AN := hid an; have G := hid g; clear bx an g
 obtain ⟨b, hb⟩ : ∃ b, mayOf r = b := ⟨_, rfl⟩
 have HB := hid hb
 cases b
 ·have GR := hid (show gotM s.data.toList = zeroM ∧ gotC s.data.toList = 2 by
   refine gotM_none ?_
   rw [← refGet_eq]; unfold refGetOf
   rw [if_neg (by rintro ⟨_, h, _⟩; rw [HR.out] at h; unfold mayOf at hb; exact absurd (decide_eq_true h) (by rw [hb]; decide))])
  have C := hid (fun w => rput_bad r hb w); clear hb
  go_wp2_with (refine wpList_row BX.out Tryz.underlying39 rfl (by kernel_rfl) rfl rfl rfl rfl ?_)
  refine (C.out _).mono ?_
  rintro e w8 ⟨rfl, hg⟩
  have AN8 := hid (at_grown AN.out hg (by simp)); have G8 := hid (gb_trans G.out hg (.inl rfl)); clear hg
  have z := msg_cells (at_setRow (cs := zeroM.cells) AN8.out)
  obtain ⟨d0, d1, d2, d3, d4, d5, d6⟩ := z
  go_wp2_with (first | refine wpList_buildTo (ty := 39) (cs := zeroM.cells) rfl rfl rfl (by kernel_rfl) ?_ | refine wpList_store_row (old := zeroM.cells) (cs := zeroM.cells) AN8.out (by kernel_rfl) (by kernel_rfl) (by kernel_rfl) rfl rfl rfl rfl rfl ?_)
  exact bodyPost_ret (v := .tuple #[mg zeroM, .int .i64 2]) (by simp [results, Tryz.results97, go_sem, d0, d1, d2, d3, d4, d5, d6]) rfl ⟨ret_msg GR.out, gb_setRow G8.out (Nat.le_refl _)⟩
 ·have hp := refPut_eq (may_of hb)
  have hrd : refReadOf s.data.toList = r := HR.out
  obtain ⟨sp, hsp⟩ : ∃ sp : ByteArray, sp = ⟨(putOf r).toArray⟩ := ⟨_, rfl⟩
  have hc := fun w => rput_as r hb w
  rw [← hsp] at hc
  have hm := may_of hb
  clear hb HB
  by_cases heq : sp = s
  ·have hl : putOf r = s.data.toList := by rw [← heq, hsp]
   have GR := hid (show gotM s.data.toList = r ∧ gotC s.data.toList = 0 from gotM_some (by rw [← hl]; exact get_put hm))
   subst heq
   have C := hid hc; clear hc hl hsp hp hm hrd
   go_wp2_with (refine wpList_row BX.out Tryz.underlying39 rfl (by kernel_rfl) rfl rfl rfl rfl ?_)
   refine (C.out _).mono ?_
   rintro e w8 ⟨rfl, hg⟩
   have AN8 := hid (at_grown AN.out hg (by simp)); have BX8 := hid (at_grown BX.out hg (by simp)); have G8 := hid (gb_trans G.out hg (.inl rfl)); clear hg
   have z := msg_cells (at_setRow (cs := r.cells) AN8.out)
   obtain ⟨d0, d1, d2, d3, d4, d5, d6⟩ := z
   go_wp2_with (first | refine wpList_row BX8.out Tryz.underlying39 rfl (by kernel_rfl) rfl rfl rfl rfl ?_ | refine wpList_store_row (old := zeroM.cells) (cs := r.cells) AN8.out (by kernel_rfl) (by kernel_rfl) (by kernel_rfl) rfl rfl rfl rfl rfl ?_)
   exact bodyPost_ret (v := .tuple #[mg r, .int .i64 0]) (by simp [results, Tryz.results97, go_sem, d0, d1, d2, d3, d4, d5, d6]) rfl ⟨ret_msg GR.out, gb_setRow G8.out (Nat.le_refl _)⟩
  ·have GR := hid (show gotM s.data.toList = zeroM ∧ gotC s.data.toList = 2 by
    refine gotM_none ?_
    rw [← refGet_eq]; unfold refGetOf
    rw [if_neg (by
     rintro ⟨_, _, h⟩
     rw [hrd, hp] at h
     exact heq (by rw [hsp]; apply ByteArray.ext; simp [h]))])
   have hne : (sp.toList == s.toList) = false := str_ne heq
   have hne2 : (!(sp.toList == s.toList)) = true := by rw [hne]; rfl
   have hne3 : (sp.toList != s.toList) = true := by simp only [bne, hne]; rfl
   have C := hid hc; clear hc hsp hp hm hrd heq
   go_wp2_with (refine wpList_row BX.out Tryz.underlying39 rfl (by kernel_rfl) rfl rfl rfl rfl ?_)
   refine (C.out _).mono ?_
   rintro e w8 ⟨rfl, hg⟩
   have AN8 := hid (at_grown AN.out hg (by simp)); have G8 := hid (gb_trans G.out hg (.inl rfl)); clear hg
   have z := msg_cells (at_setRow (cs := zeroM.cells) AN8.out)
   obtain ⟨d0, d1, d2, d3, d4, d5, d6⟩ := z
   go_wp2_with (first | refine wpList_buildTo (ty := 39) (cs := zeroM.cells) rfl rfl rfl (by kernel_rfl) ?_ | refine wpList_store_row (old := zeroM.cells) (cs := zeroM.cells) AN8.out (by kernel_rfl) (by kernel_rfl) (by kernel_rfl) rfl rfl rfl rfl rfl ?_)
   exact bodyPost_ret (v := .tuple #[mg zeroM, .int .i64 2]) (by simp [results, Tryz.results97, go_sem, d0, d1, d2, d3, d4, d5, d6]) rfl ⟨ret_msg GR.out, gb_setRow G8.out (Nat.le_refl _)⟩
end Go.Proofs.YtgpdcapnnejdeaaGreat
