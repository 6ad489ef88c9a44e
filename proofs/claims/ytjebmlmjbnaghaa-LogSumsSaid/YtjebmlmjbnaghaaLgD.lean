/-
  Contract for package log: Put: a cell's bytes in a slice of the call's own; an error of one that may not be. The condition: its data read as bytes.
-/
import Derived.Test.YtjebmlmjbnaghaaLgC
import Derived.Test.YtjebmlmjbnaghaaHeld
import Derived.Test.YtjebmlmjbnaghaaLst
import Derived.Test.YtjebmlmjbnaghaaOps
import Derived.Deep.RegionHeld3
import Derived.BigRegion
set_option linter.unusedSimpArgs false
set_option linter.unusedVariables false
namespace Go.Proofs.Ytjebmlmjbnaghaa
set_option maxRecDepth 100000
open Go.RowKit

set_option maxHeartbeats 1600000 in
theorem lput_bad (p : Nat) (Q K : Int) (a : Option Addr) (n c : Nat) (hm : mayN p Q K n = false) (w : World) :
    Calls Try.prog 10 #[.agg #[.int .u32 (p : Int), .int .i64 Q, .int .i64 K, .slice a n c]] w fun e w' => e = .returned (.tuple #[.slice none 0 0, .int .i64 1]) ∧ w.grownBy w' none := by
  have M := hid (fun w => lmay_any p Q K a n c w)
  rw [hm] at M
  clear hm
  have B0 := hid (at_new w (.cells #[.int .u32 (p : Int), .int .i64 Q, .int .i64 K, .slice a n c] 31))
  go_enter Try.func10, Try.ntmps10
  go_wp2_with (refine wpList_row B0.out Try.underlying31 rfl (by kernel_rfl) rfl rfl rfl rfl ?_)
  refine (M.out _).mono ?_
  rintro e w1 ⟨rfl, hg⟩
  have G := hid (gb_trans (gb_alloc (.refl w none) _) hg (.inl rfl)); clear hg
  go_wp2_with fail
  go_ret2
  exact ⟨rfl, G.out⟩
theorem mk64 (w : World) : (Instr.makeSlice 23 (.int .i64 64) (.int .i64 64)).run Try.prog w = .ok (.slice (some ⟨w.heap.size, 0, none⟩) 64 64) (w.alloc (.cells ((List.replicate 64 (0 : UInt8)).map bv).toArray 5)) := by kernel_rfl
theorem may_cl {c : Cl} (h : c.May) : mayN c.pass c.place c.kind c.data.length = true := by
  obtain ⟨h1, h2, h3, h4, h5, h6⟩ := h
  unfold mayN
  simp
  omega
set_option maxHeartbeats 3200000 in
theorem lput_walk (PP : Nat) (QQ KK : Int) (ad : Option Addr) (cp : Nat) (D E8 L1 L2 L3 T8 : List UInt8) (SM : Nat) (HW TW : BitVec 64)
    (hM : ∀ w, Calls Try.prog 14 #[.agg #[.int .u32 (PP : Int), .int .i64 QQ, .int .i64 KK, .slice ad D.length cp]] w fun e w' => e = .returned (.bool true) ∧ w.grownBy w' none)
    (hH : ∀ w, Calls Try.prog 23 #[.agg #[.int .u32 (PP : Int), .int .i64 QQ, .int .i64 KK, .slice ad D.length cp]] w fun e w' => e = .returned (.int .u64 (q HW)) ∧ w.grownBy w' none)
    (hT : ∀ w, Calls Try.prog 24 #[.int .u32 (PP : Int), .int .u32 (SM : Int)] w fun e w' => e = .returned (.int .u64 (q TW)) ∧ w.grownBy w' none)
    (hHH : put8 HW = E8) (hTL : put8 TW = T8) (hD : D.length ≤ 48) (h8 : E8.length = 8) (ht8 : T8.length = 8) (hl1 : L1.length = 64) (hl2 : L2.length = 64) (hl3 : L3.length = 64)
    (o1 : overL (List.replicate 64 0) E8 0 = L1) (o2 : overL L1 D 8 = L2) (o3 : overL L2 T8 56 = L3) (hs : sumN (L2.take 56) = SM) (w : World) (hv : BytesAt w (.slice ad D.length cp) D) :
    Calls Try.prog 10 #[.agg #[.int .u32 (PP : Int), .int .i64 QQ, .int .i64 KK, .slice ad D.length cp]] w fun e w' => ∃ u, e = .returned (.tuple #[u, .int .i64 0]) ∧ OwnB w.heap.size w' u L3 ∧ w.grownBy w' none := by
  have M := hid hM; have H := hid hH; have HT := hid hT; have HH := hid hHH; have HTL := hid hTL; have HD := hid hD; have H8 := hid h8; have HT8 := hid ht8; have HL1 := hid hl1; have HL2 := hid hl2; have HL3 := hid hl3
  have HO1 := hid o1; have HO2 := hid o2; have HO3 := hid o3; have HS := hid hs; have HV := hid hv
  have H56 := hid (show (L2.take 56).length = 56 by rw [List.length_take, hl2]; decide)
  have B0 := hid (at_new w (.cells #[.int .u32 (PP : Int), .int .i64 QQ, .int .i64 KK, .slice ad D.length cp] 31))
  clear hM hH hT hHH hTL hD h8 ht8 hl1 hl2 hl3 o1 o2 o3 hs hv
  go_enter Try.func10, Try.ntmps10
  go_wp2_with (refine wpList_row B0.out Try.underlying31 rfl (by kernel_rfl) rfl rfl rfl rfl ?_)
  refine (M.out _).mono ?_
  rintro e w1 ⟨rfl, hg⟩
  have hm := mk64 w1
  have P0 := hid (show Pk w #[.int .u32 (PP : Int), .int .i64 QQ, .int .i64 KK, .slice ad D.length cp] w1.heap.size (List.replicate 64 0) (w1.alloc (.cells ((List.replicate 64 (0 : UInt8)).map bv).toArray 5)) from
    ⟨gb_alloc (gb_trans (gb_alloc (.refl w none) _) hg (.inl rfl)) _, at_alloc (at_grown B0.out hg (by simp)) _, at_new _ _, by have := gb_size hg; have := at_lt B0.out; omega⟩)
  obtain ⟨g, hgg⟩ : ∃ g, g = w1.heap.size := ⟨_, rfl⟩
  rw [← hgg] at hm P0
  generalize w1.alloc (.cells ((List.replicate 64 (0 : UInt8)).map bv).toArray 5) = w2 at hm P0
  clear hg hgg
  go_wp2_with (refine wpList_row P0.out.box Try.underlying31 rfl (by kernel_rfl) rfl rfl rfl rfl ?_)
  refine (H.out _).mono ?_
  rintro e w3 ⟨rfl, hg⟩
  have P3 := hid (P0.out.grown hg); clear hg hm
  go_wp2_with fail
  refine (put_any _ _).mono ?_
  rintro e w4 ⟨rfl, hb4, hg⟩
  have P4 := hid (P3.out.grown hg)
  have hb := put_bytes _ hb4
  rw [HH.out] at hb
  obtain ⟨w5, hc5, p5⟩ := P4.out.copy hb (n := 64) (c := 64) (o := 0) (by rw [H8.out]; decide) (by rw [H8.out]; decide) HO1.out 3
  rw [H8.out] at hc5
  have P5 := hid p5; clear hg hb hb4 p5
  go_wp2_with fail
  clear hc5
  obtain ⟨d0, d1, d2, d3⟩ := P5.out.drew.cells
  obtain ⟨w6, hc6, p6⟩ := P5.out.drew.copy (HV.out.grown P5.out.drew.gr (by simp)) (n := 56) (c := 56) (o := 8) (by have := HD.out; omega) (by rw [HL1.out]; have := HD.out; omega) HO2.out 3
  have P6 := hid p6; clear p6
  go_region
  clear hc6 d0 d1 d2 d3
  obtain ⟨CS, hCS⟩ : ∃ CS : Array Value, #[.int .u32 (PP : Int), .int .i64 QQ, .int .i64 KK, .slice ad D.length cp] = CS := ⟨_, rfl⟩
  have HC := hid hCS
  rw [hCS] at P6
  clear hCS M H B0 P0 P3 P4 P5
  go_wp2_with fail
  refine wp_region_last (S := (fun w' => (Pk w CS g L2 w'))) 9 9 #[false, false, false, false, false, false, false, false, false, true] (by kernel_rfl) (by kernel_rfl) (by kernel_rfl) (by kernel_rfl) P6.out.drew (fun hHeld => ?_)
  try dsimp only at hHeld
  refine' wpAnyH_take (i := 0) (v := _) rfl (by kernel_rfl) (by kernel_rfl) (by kernel_rfl) (fun _ _ _ h => h) (Or.inl ⟨by rfl, ?_⟩) hHeld ?_
  rotate_left
  · (intro w hSw; (try dsimp only at hSw); go_simp; try with_reducible rfl)
  try simp only [Act.put, List.setIfInBounds_toArray, List.set_cons_zero, List.set_cons_succ, List.getElem_toArray, List.getElem_cons_succ, List.getElem_cons_zero]
  refine' wpAnyH_take (i := 1) (v := _) rfl (by kernel_rfl) (by kernel_rfl) (by kernel_rfl) (fun _ _ _ h => h) (Or.inl ⟨by rfl, ?_⟩) hHeld ?_
  rotate_left
  · (intro w hSw; (try dsimp only at hSw); go_simp; try with_reducible rfl)
  try simp only [Act.put, List.setIfInBounds_toArray, List.set_cons_zero, List.set_cons_succ, List.getElem_toArray, List.getElem_cons_succ, List.getElem_cons_zero]
  refine' wpAnyH_take (i := 2) (v := _) rfl (by kernel_rfl) (by kernel_rfl) (by kernel_rfl) (fun _ _ _ h => h) (Or.inl ⟨by rfl, ?_⟩) hHeld ?_
  rotate_left
  · (intro w hSw; (try dsimp only at hSw); go_simp; try with_reducible rfl)
  try simp only [Act.put, List.setIfInBounds_toArray, List.set_cons_zero, List.set_cons_succ, List.getElem_toArray, List.getElem_cons_succ, List.getElem_cons_zero]
  refine' wpAnyH_take (i := 3) (v := _) rfl (by kernel_rfl) (by kernel_rfl) (by kernel_rfl) (fun _ _ _ h => h) (Or.inl ⟨by rfl, ?_⟩) hHeld ?_
  rotate_left
  · (intro w hSw; (try dsimp only at hSw); have pk := hSw; rw [← HC.out] at pk; obtain ⟨d0, d1, d2, d3⟩ := pk.cells; go_simp; try with_reducible rfl)
  try simp only [Act.put, List.setIfInBounds_toArray, List.set_cons_zero, List.set_cons_succ, List.getElem_toArray, List.getElem_cons_succ, List.getElem_cons_zero]
  refine' wpAnyH_take (i := 4) (v := _) rfl (by kernel_rfl) (by kernel_rfl) (by kernel_rfl) (fun _ _ _ h => h) (Or.inl ⟨by rfl, ?_⟩) hHeld ?_
  rotate_left
  · (intro w hSw; (try dsimp only at hSw); go_simp; try with_reducible rfl)
  try simp only [Act.put, List.setIfInBounds_toArray, List.set_cons_zero, List.set_cons_succ, List.getElem_toArray, List.getElem_cons_succ, List.getElem_cons_zero]
  refine' wpAnyH_take (i := 5) (v := _) rfl (by kernel_rfl) (by kernel_rfl) (by kernel_rfl) (fun _ _ _ h => h) (Or.inl ⟨by rfl, ?_⟩) hHeld ?_
  rotate_left
  · (intro w hSw; (try dsimp only at hSw); go_simp; try with_reducible rfl)
  try simp only [Act.put, List.setIfInBounds_toArray, List.set_cons_zero, List.set_cons_succ, List.getElem_toArray, List.getElem_cons_succ, List.getElem_cons_zero]
  refine wpAnyH_ready (rs := [6]) (by kernel_rfl) (by simp) ?_
  refine AllReadyH.cons (o := _) rfl (fun K hK => ?_) AllReadyH.nil
  try simp only [List.getElem_toArray, List.getElem_cons_succ, List.getElem_cons_zero]
  go_simp
  have hH2 := hHeld
  have pk := hH2
  refine (lsum_any _ _ _ (pk.front HL2.out (k := 56) (by decide)) (by rw [H56.out]; decide)).mono ?_
  rintro e w1006 ⟨rfl, hg⟩
  rw [HS.out]
  have L6 := hid (show (Pk w CS g L2 w1006) from (pk.grown hg))
  clear hHeld hg pk
  go_wp2_with fail
  refine hK.out _ _ ?_ (fun hHeld => ?_)
  · exact L6.out
  clear hK K
  try dsimp only at hHeld
  try simp only [Act.put, List.setIfInBounds_toArray, List.set_cons_zero, List.set_cons_succ, List.getElem_toArray, List.getElem_cons_succ, List.getElem_cons_zero]
  refine wpAnyH_ready (rs := [7]) (by kernel_rfl) (by simp) ?_
  refine AllReadyH.cons (o := _) rfl (fun K hK => ?_) AllReadyH.nil
  try simp only [List.getElem_toArray, List.getElem_cons_succ, List.getElem_cons_zero]
  go_simp
  have hH2 := hHeld
  have pk := hH2
  refine ((HT.out _)).mono ?_
  rintro e w1007 ⟨rfl, hg⟩
  have L7 := hid (show (Pk w CS g L2 w1007) from (pk.grown hg))
  clear hHeld hg pk
  go_wp2_with fail
  refine hK.out _ _ ?_ (fun hHeld => ?_)
  · exact L7.out
  clear hK K
  try dsimp only at hHeld
  try simp only [Act.put, List.setIfInBounds_toArray, List.set_cons_zero, List.set_cons_succ, List.getElem_toArray, List.getElem_cons_succ, List.getElem_cons_zero]
  refine wpAnyH_ready (rs := [8]) (by kernel_rfl) (by simp) ?_
  refine AllReadyH.cons (o := _) rfl (fun K hK => ?_) AllReadyH.nil
  try simp only [List.getElem_toArray, List.getElem_cons_succ, List.getElem_cons_zero]
  go_simp
  have hH2 := hHeld
  have pk := hH2
  refine (put_any _ _).mono ?_
  rintro e w1008 ⟨rfl, hb8, hg⟩
  have L8 := hid (show (Pk w CS g L2 w1008) from (pk.grown hg))
  have Npb := hid (show BytesAt w1008 (.slice (some ⟨w1007.heap.size, 0, none⟩) 8 8) (put8 TW) from put_bytes _ hb8)
  clear hHeld hg pk
  go_wp2_with fail
  refine hK.out _ _ ?_ (fun hHeld => ?_)
  · exact L8.out
  clear hK K
  try dsimp only at hHeld
  try simp only [Act.put, List.setIfInBounds_toArray, List.set_cons_zero, List.set_cons_succ, List.getElem_toArray, List.getElem_cons_succ, List.getElem_cons_zero]
  refine held_stronger (S' := fun w' => (fun w' => BytesAt w' (.slice (some ⟨w1007.heap.size, 0, none⟩) 8 8) (put8 TW)) w' ∧ ((fun w' => (Pk w CS g L2 w'))) w') (fun _ h => h.2) _ _ _ _ ?_
  replace hHeld := And.intro Npb.out hHeld
  try dsimp only at hHeld
  refine wpAnyH_done (by kernel_rfl) ?_ _
  obtain ⟨pb, pk⟩ := hHeld
  rw [HTL.out] at pb
  obtain ⟨w9, hc9, pk9⟩ := pk.copy (n := 8) (c := 8) (o := 56) pb (by rw [HT8.out]; decide) (by rw [HL2.out, HT8.out]; decide) HO3.out 3
  rw [HT8.out] at hc9
  have PK9 := hid pk9; clear pk pb pk9
  refine atLast_step (o := _) rfl (fun K hK => ?_)
  try simp only [List.getElem_toArray, List.getElem_cons_succ, List.getElem_cons_zero]
  rw [if_pos (by rfl)]
  refine wp_copyB _ _ rfl _ _ rfl rfl hc9 ?_
  refine hK.out _ _ ?_
  clear hK K
  try simp only [Act.put, List.setIfInBounds_toArray, List.set_cons_zero, List.set_cons_succ, List.getElem_toArray, List.getElem_cons_succ, List.getElem_cons_zero]
  go_wp2_with fail
  go_ret2
  exact ⟨_, rfl, PK9.out.own HL3.out, PK9.out.gr⟩
theorem lput_good (c : Cl) (hm : c.May) (v : Value) (w : World) (hv : BytesAt w v c.data) :
    Calls Try.prog 10 #[.agg #[.int .u32 (c.pass : Int), .int .i64 (c.place : Int), .int .i64 (c.kind : Int), v]] w fun e w' => ∃ u, e = .returned (.tuple #[u, .int .i64 0]) ∧ OwnB w.heap.size w' u (putL c) ∧ w.grownBy w' none := by
  obtain ⟨ad, cp, rfl⟩ := hv.form
  have hs := sumN_small (l := body56 c) (by rw [body56_len hm.d]; decide)
  have hd := hm.d
  have F2 := over_front (head8 c) c.data (head8_len c) hd
  refine lput_walk c.pass c.place c.kind ad cp c.data (head8 c) (head8 c ++ List.replicate 56 0) (head8 c ++ c.data ++ List.replicate (56 - c.data.length) 0) (putL c) (tail8 (sumN (body56 c)) c.pass) (sumN (body56 c))
    (headW c.pass c.place c.kind c.data.length) (tailW (sumN (body56 c)) c.pass) (fun w => ?_) (fun w => lhead_any c.pass c.place c.kind ad c.data.length cp w) (fun w => ?_) (put8_head hm) (put8_tail hs (by have := hm.p2; omega))
    hd (head8_len c) rfl (by rw [List.length_append, head8_len, List.length_replicate]) (by rw [List.length_append, List.length_append, head8_len, List.length_replicate]; omega) (putL_len hd)
    (over1 _ (head8_len c)) (over2 _ _ (head8_len c) hd) (over3 _ _ _ (head8_len c) hd rfl) (by rw [F2]; rfl) w hv
  · have := lmay_any c.pass c.place c.kind ad c.data.length cp w
    rwa [may_cl hm] at this
  · have := ltail_any c.pass (sumN (body56 c)) w
    rw [markN_in hm.p2] at this
    exact this.mono fun e w' h => ⟨h.1, h.2 ▸ .refl w none⟩
end Go.Proofs.Ytjebmlmjbnaghaa
