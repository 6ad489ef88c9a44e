/-
  Contracts for package mac: a tag out of bytes. The condition: the bytes read as bytes. And 2 texts more that this one stands on. No condition.
-/
import Derived.Test.YtgpdcapnnejdeaaGreatJ0
import Derived.Test.YtgpdcapnnejdeaaGreatY5
import Derived.Test.YtgpdcapnnejdeaaGreatY8
import Derived.Test.YtgpdcapnnejdeaaGreatNOnce
import Derived.Test.YtgpdcapnnejdeaaGreatY12
section
set_option linter.unusedSimpArgs false
namespace Go.Proofs.YtgpdcapnnejdeaaGreat
set_option maxRecDepth 100000
open Go.RowKit

def half (a b : BitVec 64) (k : Nat) : Array Value := #[.int .u64 (if 0 < k then q a else 0), .int .u64 (if 1 < k then q b else 0)]
theorem get_0 (l : List UInt8) (v : Value) (a : BitVec 64) (ha : wordAt l 0 8 = a) (w : World) (hl : BytesAt w v l) (hn : l.length = 16) :
  Calls Tryz.prog 125 #[v, .int .i64 0] w fun e w' => e = .returned (.tuple #[.int .u64 (q a), .int .i64 0]) ∧ w = w' := by
 subst ha; exact get_in l v 0 w hl (by omega)
theorem get_8 (l : List UInt8) (v : Value) (a : BitVec 64) (ha : wordAt l 8 8 = a) (w : World) (hl : BytesAt w v l) (hn : l.length = 16) :
  Calls Tryz.prog 125 #[v, .int .i64 8] w fun e w' => e = .returned (.tuple #[.int .u64 (q a), .int .i64 0]) ∧ w = w' := by
 subst ha; exact get_in l v 8 w hl (by omega)

set_option maxHeartbeats 1600000 in
theorem from_words (l : List UInt8) (a b : BitVec 64) (hwa : wordAt l 0 8 = a) (hwb : wordAt l 8 8 = b) (p : Option Addr) (c : Nat) (hn : l.length = 16) (w : World) (hl : BytesAt w (.slice p 16 c) l) :
  Calls Tryz.prog 93 #[.slice p 16 c] w fun e w' => e = .returned (.tuple #[pair a b, .int .i64 0]) ∧ w.grownBy w' none := by
 have HL := hid hl; have HWA := hid hwa; have HWB := hid hwb; clear hl hwa hwb
 have HN := hid hn; clear hn
 go_enter Tryz.func93, Tryz.ntmps93
 go_wp2_with fail
 go_loopw [10] (fun i wr => ∃ k : Nat, (k = 0 ∨ k = 1 ∨ k = 2) ∧ i = .int .i64 (k : Int) ∧ wr.heap[w.heap.size + 1]? = some (.cells (half a b k) 83) ∧ wr.heap[w.heap.size]? = some (.cells #[.int .u64 0, .int .u64 0] 83) ∧ w.grownBy wr none) (fun i _ => 2 - (intOf i).toNat)
 case atStart => exact ⟨0, .inl rfl, rfl, at_new2 w _ _, at_alloc (at_new w _) _, gb_alloc (gb_alloc (.refl w none) _) _⟩
 case round =>
  obtain ⟨k, hk, rfl, hb, ha, hg⟩ := hrel
  have HB := hid hb; have HA := hid ha; have HG := hid hg; clear hb ha hg
  have c0 : wr.cell? ⟨w.heap.size + 1, 0, none⟩ = some _ := at_cell HB.out 0
  have c1 : wr.cell? ⟨w.heap.size + 1, 1, none⟩ = some _ := at_cell HB.out 1
  have f0 : wr.frozen? ⟨w.heap.size + 1, 0, none⟩ = false := at_free HB.out 0
  have f1 : wr.frozen? ⟨w.heap.size + 1, 1, none⟩ = false := at_free HB.out 1
  rcases hk with rfl | rfl | rfl
  ·go_wp2_with fail
   with_reducible refine (get_0 l _ a HWA.out _ (HL.out.grown HG.out (by simp)) HN.out).mono ?_
   rintro e w1 ⟨rfl, rfl⟩
   go_wp2_with fail
   go_roundw
   case rel => exact ⟨1, by simp, by go_num, at_set HB.out 0 _, at_set_other HA.out (by simp) _, gb_new HG.out (by simp) _⟩
   case measure => simp [intOf]
  ·go_wp2_with fail
   with_reducible refine (get_8 l _ b HWB.out _ (HL.out.grown HG.out (by simp)) HN.out).mono ?_
   rintro e w1 ⟨rfl, rfl⟩
   go_wp2_with fail
   go_roundw
   case rel => exact ⟨2, by simp, by go_num, at_set HB.out 1 _, at_set_other HA.out (by simp) _, gb_new HG.out (by simp) _⟩
   case measure => simp [intOf]
  ·clear c0 c1
   have c0 : wr.cell? ⟨w.heap.size + 1, 0, none⟩ = some (.int .u64 (q a)) := at_cell HB.out 0
   have c1 : wr.cell? ⟨w.heap.size + 1, 1, none⟩ = some (.int .u64 (q b)) := at_cell HB.out 1
   have a0 : wr.cell? ⟨w.heap.size, 0, none⟩ = some (.int .u64 0) := at_cell HA.out 0
   have a1 : wr.cell? ⟨w.heap.size, 1, none⟩ = some (.int .u64 0) := at_cell HA.out 1
   have g0 : wr.frozen? ⟨w.heap.size, 0, none⟩ = false := at_free HA.out 0
   have g1 : wr.frozen? ⟨w.heap.size, 1, none⟩ = false := at_free HA.out 1
   go_wp2_with fail
   have hr := at_set (at_set HA.out 0 (.int .u64 (q a))) 1 (.int .u64 (q b))
   have hg2 : w.grownBy _ none := gb_new (gb_new HG.out (p := ⟨w.heap.size, 0, none⟩) (by simp) (.int .u64 (q a))) (p := ⟨w.heap.size, 1, none⟩) (by simp) (.int .u64 (q b))
   generalize (wr.setCell ⟨w.heap.size, 0, none⟩ (.int .u64 (q a))).setCell ⟨w.heap.size, 1, none⟩ (.int .u64 (q b)) = wx at hr hg2 ⊢
   obtain ⟨r0, r1⟩ := pair_cells hr
   exact bodyPost_ret (v := .tuple #[pair a b, .int .i64 0]) (by simp [results, Tryz.results93, go_sem, r0, r1]) rfl ⟨rfl, hg2⟩

end Go.Proofs.YtgpdcapnnejdeaaGreat
end
section
set_option linter.unusedSimpArgs false
set_option linter.unusedVariables false
namespace Go.Proofs.YtgpdcapnnejdeaaGreat
set_option maxRecDepth 100000
open Go.RowKit

theorem nadd_i64 (a : Addr) (x x1 : Int) (he : x + 1 = x1) (w : World) (hc : w.cell? a = some (.int .i64 x)) (hz : w.frozen? a = false) (h0 : 0 ≤ x) (h1 : x < 100) :
  Calls Tryz.prog 77 #[.pointer (some a), .int .i64 1] w fun e w' => e = .returned (.int .i64 x1) ∧ w' = w.setCell a (.int .i64 x1) := by
 subst he
 have hadd := run_call_add (P := Tryz.prog) Tryz.func111 (by kernel_rfl) (by kernel_rfl) (by kernel_rfl) .i64 (by kernel_rfl) (y := 1) (s := x + 1) hc hz (by simp [go_sem, IntKind.wrap_i64]; omega)
 go_enter Tryz.func77, Tryz.ntmps77
 go_wp2
 go_ret
 exact ⟨rfl, rfl⟩
theorem get_at (l : List UInt8) (v : Value) (m : Nat) (w : World) (hl : BytesAt w v l) (hm : m + 8 ≤ l.length) :
  Calls Tryz.prog 125 #[v, .int .i64 (m : Int)] w fun e w' => e = .returned (.tuple #[.int .u64 (q (wordAt l m 8)), .int .i64 0]) ∧ w = w' := get_in l v m w hl hm

@[reducible] def rdObj (v : Value) (k : Int) : Obj := .cells #[v, .int .i64 k] 203
set_option maxHeartbeats 1600000 in
theorem next_0 (b : Nat) (v : Value) (l : List UInt8) (hk : 8 ≤ l.length) (w : World) (hb : w.heap[b]? = some (rdObj v 0)) (hl : BytesAt w v l) (hne : ∀ a n c, v = .slice (some a) n c → a.block ≠ b) :
  Calls Tryz.prog 124 #[.pointer (some ⟨b, 0, none⟩)] w fun e w' => e = .returned (.int .u64 (q (wordAt l 0 8))) ∧ w'.heap[b]? = some (rdObj v 1) ∧ w.grownBy w' (some b) ∧ BytesAt w' v l := by
 have HK := hid hk; clear hk
 have hg := gb_row (gb_drew (.refl w (some b))) (p := ⟨b, 1, none⟩) rfl (.int .i64 1)
 have hl1 := hl.grown hg (fun k e => by cases e; exact .inr (.inr hne))
 have hb1 := at_set (at_drew hb) 1 (.int .i64 1)
 have B1 := hid hl1; have HB1 := hid hb1; have G1 := hid hg; clear hl1 hg hl hne
 have C0 := hid (show w.drew.cell? ⟨b, 0, none⟩ = some v from at_cell hb 0)
 have C1 := hid (show w.drew.cell? ⟨b, 1, none⟩ = some (.int .i64 0) from at_cell hb 1)
 have F1 := hid (show w.drew.frozen? ⟨b, 1, none⟩ = false from at_free hb 1)
 have CS := hid (show (w.drew.setCell ⟨b, 1, none⟩ (.int .i64 1)).cell? ⟨b, 0, none⟩ = some v from at_cell hb1 0)
 clear hb hb1
 go_enter Tryz.func124, Tryz.ntmps124
 go_wp2_with fail
 refine wp_region_held_drew (S := (fun w' => (w'.cell? ⟨b, 0, none⟩ = some v))) (by kernel_rfl) C0.out (fun hHeld => ?_)
 try dsimp only at hHeld
 refine jU 0 hHeld ?_
 try simp only [jX, jD, jE, jF]
 refine jU 1 hHeld ?_
 try simp only [jX, jD, jE, jF]
 refine jU 2 hHeld ?_
 try simp only [jX, jD, jE, jF]
 refine jU 3 hHeld ?_
 try simp only [jX, jD, jE, jF]
 refine jU 4 hHeld ?_
 try simp only [jX, jD, jE, jF]
 refine jU 5 hHeld ?_
 try simp only [jX, jD, jE, jF]
 refine jU 6 hHeld ?_
 try simp only [jX, jD, jE, jF]
 refine jR [7] ?_
 refine jG rfl (fun K hK => ?_) AllReadyH.nil
 try simp only [jD, jE, jF]
 go_simp
 refine (nadd_i64 _ 0 1 (by decide) _ C1.out F1.out (by decide) (by decide)).mono ?_
 rintro e wa ⟨rfl, rfl⟩
 clear hHeld
 go_wp2_with fail
 refine hK.out _ _ ?_ (fun hHeld => ?_)
 ·exact (CS.out)
 clear hK K
 try dsimp only at hHeld
 try simp only [jX, jD, jE, jF]
 refine jU 8 hHeld ?_
 try simp only [jX, jD, jE, jF]
 refine jU 9 hHeld ?_
 try simp only [jX, jD, jE, jF]
 refine jR [10] ?_
 refine jG rfl (fun K hK => ?_) AllReadyH.nil
 try simp only [jD, jE, jF]
 go_simp
 clear hHeld
 refine (get_at l v 0 _ B1.out (by have := HK.out; omega)).mono ?_
 rintro e wa ⟨rfl, rfl⟩
 go_wp2_with fail
 refine hK.out _ _ ?_ (fun hHeld => ?_)
 ·exact (CS.out)
 clear hK K
 try dsimp only at hHeld
 try simp only [jX, jD, jE, jF]
 refine jU 11 hHeld ?_
 try simp only [jX, jD, jE, jF]
 refine jU 12 hHeld ?_
 try simp only [jX, jD, jE, jF]
 refine jU 13 hHeld ?_
 try simp only [jX, jD, jE, jF]
 refine jU 14 hHeld ?_
 try simp only [jX, jD, jE, jF]
 refine jU 15 hHeld ?_
 try simp only [jX, jD, jE, jF]
 refine wpAnyH_done (by kernel_rfl) ?_ _
 clear hHeld
 go_wp2_with fail
 go_ret
 exact ⟨rfl, HB1.out, G1.out, B1.out⟩
set_option maxHeartbeats 1600000 in
theorem next_1 (b : Nat) (v : Value) (l : List UInt8) (hk : 16 ≤ l.length) (w : World) (hb : w.heap[b]? = some (rdObj v 1)) (hl : BytesAt w v l) (hne : ∀ a n c, v = .slice (some a) n c → a.block ≠ b) :
  Calls Tryz.prog 124 #[.pointer (some ⟨b, 0, none⟩)] w fun e w' => e = .returned (.int .u64 (q (wordAt l 8 8))) ∧ w'.heap[b]? = some (rdObj v 2) ∧ w.grownBy w' (some b) ∧ BytesAt w' v l := by
 have HK := hid hk; clear hk
 have hg := gb_row (gb_drew (.refl w (some b))) (p := ⟨b, 1, none⟩) rfl (.int .i64 2)
 have hl1 := hl.grown hg (fun k e => by cases e; exact .inr (.inr hne))
 have hb1 := at_set (at_drew hb) 1 (.int .i64 2)
 have B1 := hid hl1; have HB1 := hid hb1; have G1 := hid hg; clear hl1 hg hl hne
 have C0 := hid (show w.drew.cell? ⟨b, 0, none⟩ = some v from at_cell hb 0)
 have C1 := hid (show w.drew.cell? ⟨b, 1, none⟩ = some (.int .i64 1) from at_cell hb 1)
 have F1 := hid (show w.drew.frozen? ⟨b, 1, none⟩ = false from at_free hb 1)
 have CS := hid (show (w.drew.setCell ⟨b, 1, none⟩ (.int .i64 2)).cell? ⟨b, 0, none⟩ = some v from at_cell hb1 0)
 clear hb hb1
 go_enter Tryz.func124, Tryz.ntmps124
 go_wp2_with fail
 refine wp_region_held_drew (S := (fun w' => (w'.cell? ⟨b, 0, none⟩ = some v))) (by kernel_rfl) C0.out (fun hHeld => ?_)
 try dsimp only at hHeld
 refine jU 0 hHeld ?_
 try simp only [jX, jD, jE, jF]
 refine jU 1 hHeld ?_
 try simp only [jX, jD, jE, jF]
 refine jU 2 hHeld ?_
 try simp only [jX, jD, jE, jF]
 refine jU 3 hHeld ?_
 try simp only [jX, jD, jE, jF]
 refine jU 4 hHeld ?_
 try simp only [jX, jD, jE, jF]
 refine jU 5 hHeld ?_
 try simp only [jX, jD, jE, jF]
 refine jU 6 hHeld ?_
 try simp only [jX, jD, jE, jF]
 refine jR [7] ?_
 refine jG rfl (fun K hK => ?_) AllReadyH.nil
 try simp only [jD, jE, jF]
 go_simp
 refine (nadd_i64 _ 1 2 (by decide) _ C1.out F1.out (by decide) (by decide)).mono ?_
 rintro e wa ⟨rfl, rfl⟩
 clear hHeld
 go_wp2_with fail
 refine hK.out _ _ ?_ (fun hHeld => ?_)
 ·exact (CS.out)
 clear hK K
 try dsimp only at hHeld
 try simp only [jX, jD, jE, jF]
 refine jU 8 hHeld ?_
 try simp only [jX, jD, jE, jF]
 refine jU 9 hHeld ?_
 try simp only [jX, jD, jE, jF]
 refine jR [10] ?_
 refine jG rfl (fun K hK => ?_) AllReadyH.nil
 try simp only [jD, jE, jF]
 go_simp
 clear hHeld
 refine (get_at l v 8 _ B1.out (by have := HK.out; omega)).mono ?_
 rintro e wa ⟨rfl, rfl⟩
 go_wp2_with fail
 refine hK.out _ _ ?_ (fun hHeld => ?_)
 ·exact (CS.out)
 clear hK K
 try dsimp only at hHeld
 try simp only [jX, jD, jE, jF]
 refine jU 11 hHeld ?_
 try simp only [jX, jD, jE, jF]
 refine jU 12 hHeld ?_
 try simp only [jX, jD, jE, jF]
 refine jU 13 hHeld ?_
 try simp only [jX, jD, jE, jF]
 refine jU 14 hHeld ?_
 try simp only [jX, jD, jE, jF]
 refine jU 15 hHeld ?_
 try simp only [jX, jD, jE, jF]
 refine wpAnyH_done (by kernel_rfl) ?_ _
 clear hHeld
 go_wp2_with fail
 go_ret
 exact ⟨rfl, HB1.out, G1.out, B1.out⟩
set_option maxHeartbeats 1600000 in
theorem next_2 (b : Nat) (v : Value) (l : List UInt8) (hk : 24 ≤ l.length) (w : World) (hb : w.heap[b]? = some (rdObj v 2)) (hl : BytesAt w v l) (hne : ∀ a n c, v = .slice (some a) n c → a.block ≠ b) :
  Calls Tryz.prog 124 #[.pointer (some ⟨b, 0, none⟩)] w fun e w' => e = .returned (.int .u64 (q (wordAt l 16 8))) ∧ w'.heap[b]? = some (rdObj v 3) ∧ w.grownBy w' (some b) ∧ BytesAt w' v l := by
 have HK := hid hk; clear hk
 have hg := gb_row (gb_drew (.refl w (some b))) (p := ⟨b, 1, none⟩) rfl (.int .i64 3)
 have hl1 := hl.grown hg (fun k e => by cases e; exact .inr (.inr hne))
 have hb1 := at_set (at_drew hb) 1 (.int .i64 3)
 have B1 := hid hl1; have HB1 := hid hb1; have G1 := hid hg; clear hl1 hg hl hne
 have C0 := hid (show w.drew.cell? ⟨b, 0, none⟩ = some v from at_cell hb 0)
 have C1 := hid (show w.drew.cell? ⟨b, 1, none⟩ = some (.int .i64 2) from at_cell hb 1)
 have F1 := hid (show w.drew.frozen? ⟨b, 1, none⟩ = false from at_free hb 1)
 have CS := hid (show (w.drew.setCell ⟨b, 1, none⟩ (.int .i64 3)).cell? ⟨b, 0, none⟩ = some v from at_cell hb1 0)
 clear hb hb1
 go_enter Tryz.func124, Tryz.ntmps124
 go_wp2_with fail
 refine wp_region_held_drew (S := (fun w' => (w'.cell? ⟨b, 0, none⟩ = some v))) (by kernel_rfl) C0.out (fun hHeld => ?_)
 try dsimp only at hHeld
 refine jU 0 hHeld ?_
 try simp only [jX, jD, jE, jF]
 refine jU 1 hHeld ?_
 try simp only [jX, jD, jE, jF]
 refine jU 2 hHeld ?_
 try simp only [jX, jD, jE, jF]
 refine jU 3 hHeld ?_
 try simp only [jX, jD, jE, jF]
 refine jU 4 hHeld ?_
 try simp only [jX, jD, jE, jF]
 refine jU 5 hHeld ?_
 try simp only [jX, jD, jE, jF]
 refine jU 6 hHeld ?_
 try simp only [jX, jD, jE, jF]
 refine jR [7] ?_
 refine jG rfl (fun K hK => ?_) AllReadyH.nil
 try simp only [jD, jE, jF]
 go_simp
 refine (nadd_i64 _ 2 3 (by decide) _ C1.out F1.out (by decide) (by decide)).mono ?_
 rintro e wa ⟨rfl, rfl⟩
 clear hHeld
 go_wp2_with fail
 refine hK.out _ _ ?_ (fun hHeld => ?_)
 ·exact (CS.out)
 clear hK K
 try dsimp only at hHeld
 try simp only [jX, jD, jE, jF]
 refine jU 8 hHeld ?_
 try simp only [jX, jD, jE, jF]
 refine jU 9 hHeld ?_
 try simp only [jX, jD, jE, jF]
 refine jR [10] ?_
 refine jG rfl (fun K hK => ?_) AllReadyH.nil
 try simp only [jD, jE, jF]
 go_simp
 clear hHeld
 refine (get_at l v 16 _ B1.out (by have := HK.out; omega)).mono ?_
 rintro e wa ⟨rfl, rfl⟩
 go_wp2_with fail
 refine hK.out _ _ ?_ (fun hHeld => ?_)
 ·exact (CS.out)
 clear hK K
 try dsimp only at hHeld
 try simp only [jX, jD, jE, jF]
 refine jU 11 hHeld ?_
 try simp only [jX, jD, jE, jF]
 refine jU 12 hHeld ?_
 try simp only [jX, jD, jE, jF]
 refine jU 13 hHeld ?_
 try simp only [jX, jD, jE, jF]
 refine jU 14 hHeld ?_
 try simp only [jX, jD, jE, jF]
 refine jU 15 hHeld ?_
 try simp only [jX, jD, jE, jF]
 refine wpAnyH_done (by kernel_rfl) ?_ _
 clear hHeld
 go_wp2_with fail
 go_ret
 exact ⟨rfl, HB1.out, G1.out, B1.out⟩
set_option maxHeartbeats 1600000 in
theorem next_3 (b : Nat) (v : Value) (l : List UInt8) (hk : 32 ≤ l.length) (w : World) (hb : w.heap[b]? = some (rdObj v 3)) (hl : BytesAt w v l) (hne : ∀ a n c, v = .slice (some a) n c → a.block ≠ b) :
  Calls Tryz.prog 124 #[.pointer (some ⟨b, 0, none⟩)] w fun e w' => e = .returned (.int .u64 (q (wordAt l 24 8))) ∧ w'.heap[b]? = some (rdObj v 4) ∧ w.grownBy w' (some b) ∧ BytesAt w' v l := by
 have HK := hid hk; clear hk
 have hg := gb_row (gb_drew (.refl w (some b))) (p := ⟨b, 1, none⟩) rfl (.int .i64 4)
 have hl1 := hl.grown hg (fun k e => by cases e; exact .inr (.inr hne))
 have hb1 := at_set (at_drew hb) 1 (.int .i64 4)
 have B1 := hid hl1; have HB1 := hid hb1; have G1 := hid hg; clear hl1 hg hl hne
 have C0 := hid (show w.drew.cell? ⟨b, 0, none⟩ = some v from at_cell hb 0)
 have C1 := hid (show w.drew.cell? ⟨b, 1, none⟩ = some (.int .i64 3) from at_cell hb 1)
 have F1 := hid (show w.drew.frozen? ⟨b, 1, none⟩ = false from at_free hb 1)
 have CS := hid (show (w.drew.setCell ⟨b, 1, none⟩ (.int .i64 4)).cell? ⟨b, 0, none⟩ = some v from at_cell hb1 0)
 clear hb hb1
 go_enter Tryz.func124, Tryz.ntmps124
 go_wp2_with fail
 refine wp_region_held_drew (S := (fun w' => (w'.cell? ⟨b, 0, none⟩ = some v))) (by kernel_rfl) C0.out (fun hHeld => ?_)
 try dsimp only at hHeld
 refine jU 0 hHeld ?_
 try simp only [jX, jD, jE, jF]
 refine jU 1 hHeld ?_
 try simp only [jX, jD, jE, jF]
 refine jU 2 hHeld ?_
 try simp only [jX, jD, jE, jF]
 refine jU 3 hHeld ?_
 try simp only [jX, jD, jE, jF]
 refine jU 4 hHeld ?_
 try simp only [jX, jD, jE, jF]
 refine jU 5 hHeld ?_
 try simp only [jX, jD, jE, jF]
 refine jU 6 hHeld ?_
 try simp only [jX, jD, jE, jF]
 refine jR [7] ?_
 refine jG rfl (fun K hK => ?_) AllReadyH.nil
 try simp only [jD, jE, jF]
 go_simp
 refine (nadd_i64 _ 3 4 (by decide) _ C1.out F1.out (by decide) (by decide)).mono ?_
 rintro e wa ⟨rfl, rfl⟩
 clear hHeld
 go_wp2_with fail
 refine hK.out _ _ ?_ (fun hHeld => ?_)
 ·exact (CS.out)
 clear hK K
 try dsimp only at hHeld
 try simp only [jX, jD, jE, jF]
 refine jU 8 hHeld ?_
 try simp only [jX, jD, jE, jF]
 refine jU 9 hHeld ?_
 try simp only [jX, jD, jE, jF]
 refine jR [10] ?_
 refine jG rfl (fun K hK => ?_) AllReadyH.nil
 try simp only [jD, jE, jF]
 go_simp
 clear hHeld
 refine (get_at l v 24 _ B1.out (by have := HK.out; omega)).mono ?_
 rintro e wa ⟨rfl, rfl⟩
 go_wp2_with fail
 refine hK.out _ _ ?_ (fun hHeld => ?_)
 ·exact (CS.out)
 clear hK K
 try dsimp only at hHeld
 try simp only [jX, jD, jE, jF]
 refine jU 11 hHeld ?_
 try simp only [jX, jD, jE, jF]
 refine jU 12 hHeld ?_
 try simp only [jX, jD, jE, jF]
 refine jU 13 hHeld ?_
 try simp only [jX, jD, jE, jF]
 refine jU 14 hHeld ?_
 try simp only [jX, jD, jE, jF]
 refine jU 15 hHeld ?_
 try simp only [jX, jD, jE, jF]
 refine wpAnyH_done (by kernel_rfl) ?_ _
 clear hHeld
 go_wp2_with fail
 go_ret
 exact ⟨rfl, HB1.out, G1.out, B1.out⟩
end Go.Proofs.YtgpdcapnnejdeaaGreat
end
section
set_option linter.unusedSimpArgs false
namespace Go.Proofs.YtgpdcapnnejdeaaGreat
set_option maxRecDepth 100000
open Go.RowKit

theorem refsum_str (k0 k1 : BitVec 64) (s : ByteArray) (hs : s.size ≤ 100000) (w : World) :
  Calls Tryz.prog 91 #[pair k0 k1, .string s] w fun e w' => e = .returned (.int .u64 (q (sumOf k0 k1 s.data.toList))) ∧ w.grownBy w' none := by
 rw [← refSum_eq]; exact refsum_any k0 k1 s hs w

set_option maxHeartbeats 1600000 in
theorem reftag_any (k0 k1 : BitVec 64) (s : ByteArray) (hs : s.size ≤ 100000) (w : World) :
  Calls Tryz.prog 50 #[pair k0 k1, .string s] w fun e w' => e = .returned (pair (sumOf k0 k1 s.data.toList) (sumOf k1 (inv k0) s.data.toList)) ∧ w.grownBy w' none := by
 have hi := q_inv k0
 obtain ⟨a, ha⟩ : ∃ a, sumOf k0 k1 s.data.toList = a := ⟨_, rfl⟩
 obtain ⟨b, hb⟩ : ∃ b, sumOf k1 (inv k0) s.data.toList = b := ⟨_, rfl⟩
 have hc0 := fun w => refsum_str k0 k1 s hs w
 have hc1 := fun w => refsum_str k1 (inv k0) s hs w
 rw [ha] at hc0 ⊢
 rw [hb] at hc1 ⊢
 have C0 := hid hc0; have C1 := hid hc1; clear ha hb hc0 hc1 hs
 go_enter Tryz.func50, Tryz.ntmps50
 go_wp2_with fail
 have hb : Box w k0 k1 49 83 ((w.alloc (.cells #[.int .u64 (q k0), .int .u64 (q k1)] 49)).alloc (.cells #[.int .u64 0, .int .u64 0] 83)) :=
  ⟨at_alloc (at_new w _) _, ⟨_, _, at_new2 w _ _⟩, gb_alloc (gb_alloc (.refl w none) _) _⟩
 have HB := hid hb; clear hb
 have hh := HB.out.keep
 have hsg : IntKind.u64.signed = false := rfl
 go_region_held3 (fun w' => w'.cell? ⟨w.heap.size, 0, none⟩ = some (.int .u64 (q k0)) ∧ w'.cell? ⟨w.heap.size, 1, none⟩ = some (.int .u64 (q k1)) ∧ Box w k0 k1 49 83 w')
  ((refine Box.keep (t := 49) (t' := 83) ?_; (repeat (first | assumption | with_reducible exact HB.out | with_reducible refine Box.drew ?_ | with_reducible refine Box.set1 ?_ _ | with_reducible refine Box.set0 ?_ _ | exact box_box (by assumption) | with_reducible refine Box.grown ?_ (by assumption)))))
  (first
   | (go_at_call 91; (with_reducible refine (C0.out _).mono ?_); rintro e wa ⟨rfl, hga⟩)
   | (go_at_call 91; (with_reducible refine (C1.out _).mono ?_); rintro e wb ⟨rfl, hgb⟩; obtain ⟨x, y, c0, c1, f0, f1⟩ := box_ans (by assumption) hgb; have hB := Box.grown (box_box (by assumption)) hgb))
 refine exit_gen (fun wx => wx.heap[w.heap.size + 1]? = some (.cells #[.int .u64 (q a), .int .u64 (q b)] 83) ∧ w.grownBy wx none) (hB.store _ _) ?_
 clear hB c0 c1 f0 f1 hga hgb hh
 intro wx ⟨hA, hG⟩
 have HA := hid hA; have HG := hid hG; clear hA hG
 obtain ⟨d0, d1⟩ := pair_cells HA.out
 go_wp2_with fail
 exact bodyPost_ret (v := pair a b) (by simp [results, Tryz.results50, go_sem, d0, d1]) rfl ⟨rfl, HG.out⟩

set_option maxHeartbeats 1600000 in
theorem reftagbytes_any (t0 t1 : BitVec 64) (w : World) :
  Calls Tryz.prog 49 #[pair t0 t1] w fun e w' => e = .returned (.string ⟨(put8 t0 ++ put8 t1).toArray⟩) ∧ w.grownBy w' none := by
 have he : (⟨(put8 t0).toArray⟩ : ByteArray) ++ ⟨(put8 t1).toArray⟩ = ⟨(put8 t0 ++ put8 t1).toArray⟩ := by
  apply ByteArray.ext; simp
 have hp0 := fun w => refput_any t0 w
 have hp1 := fun w => refput_any t1 w
 have z0 : (⟨(put8 t0).toArray⟩ : ByteArray).size = 8 := rfl
 have z1 : (⟨(put8 t1).toArray⟩ : ByteArray).size = 8 := rfl
 generalize (⟨(put8 t0).toArray⟩ : ByteArray) = s0 at he hp0 z0
 generalize (⟨(put8 t1).toArray⟩ : ByteArray) = s1 at he hp1 z1
 generalize (⟨(put8 t0 ++ put8 t1).toArray⟩ : ByteArray) = s2 at he ⊢
 subst he
 have P0 := hid hp0; have P1 := hid hp1; clear hp0 hp1
 go_enter Tryz.func49, Tryz.ntmps49
 go_wp2_with fail
 have hb : Boxb w t0 t1 83 (w.alloc (.cells #[.int .u64 (q t0), .int .u64 (q t1)] 83)) := ⟨at_new w _, gb_alloc (.refl w none) _⟩
 have HB := hid hb
 obtain ⟨k0, k1, _⟩ := hb.keep
 clear hb
 go_region_held3 (fun w' => w'.cell? ⟨w.heap.size, 0, none⟩ = some (.int .u64 (q t0)) ∧ w'.cell? ⟨w.heap.size, 1, none⟩ = some (.int .u64 (q t1)) ∧ Boxb w t0 t1 83 w')
  ((refine Boxb.keep (t := 83) ?_; (repeat (first | assumption | with_reducible exact HB.out | with_reducible refine Boxb.drew ?_ | exact boxb_box (by assumption) | with_reducible refine Boxb.grown ?_ (by assumption)))))
  (first
   | (go_at_call 90; (with_reducible refine (P0.out _).mono ?_); rintro e wa ⟨rfl, hga⟩)
   | (go_at_call 90; (with_reducible refine (P1.out _).mono ?_); rintro e wb ⟨rfl, hgb⟩; have hB := Boxb.grown (boxb_box (by assumption)) hgb))
 go_wp2_with fail
 go_ret
 exact ⟨rfl, hB.g⟩
end Go.Proofs.YtgpdcapnnejdeaaGreat
end
