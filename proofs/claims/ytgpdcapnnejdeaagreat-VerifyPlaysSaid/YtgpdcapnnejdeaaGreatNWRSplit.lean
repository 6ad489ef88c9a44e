/-
  Contract for the document's own envelopes: what is in bytes. The condition: strings of a modest length.
-/
import Derived.Test.YtgpdcapnnejdeaaGreatJ0
import Derived.Test.YtgpdcapnnejdeaaGreatNWRGet
set_option linter.unusedSimpArgs false
set_option linter.unusedVariables false
namespace Go.Proofs.YtgpdcapnnejdeaaGreat
set_option maxRecDepth 100000
open Go.RowKit

theorem word_drop (l : List UInt8) (i m : Nat) : ∀ k, wordAt (l.drop i) m k = wordAt l (i + m) k
 | 0 => rfl
 | k + 1 => by
  rw [← wordAt_succ, ← wordAt_succ, word_drop l i m k]
  have : byteAt (l.drop i) (m + k) = byteAt l (i + m + k) := by simp [byteAt, List.getElem?_drop, Nat.add_assoc]
  rw [this]
def noRSplit : Value := .tuple #[mg zeroM, .string ⟨#[]⟩, pair 0 0, .int .i64 2]
set_option maxHeartbeats 1600000 in
theorem rsplit_bad (s : ByteArray) (hn : s.size ≠ 48) (h1 : s.size ≤ 100000) (w : World) :
  Calls Tryz.prog 59 #[.string s] w fun e w' => e = .returned noRSplit ∧ w.grownBy w' none := by
 have h2 : (s.size : Int) ≠ 48 := by omega
 go_enter Tryz.func59, Tryz.ntmps59
 go_wp2_with fail
 exact bodyPost_ret (v := .tuple #[mg zeroM, .string ⟨#[]⟩, pair 0 0, .int .i64 2]) (by simp [results, Tryz.results59, go_sem, zeroM]; decide) rfl ⟨rfl, gb_alloc (gb_alloc (.refl w none) _) _⟩

theorem rget_as (l : List UInt8) (m : Mg) (k : Int) (h : gotM l = m ∧ gotC l = k) (s : ByteArray) (hs : s.data.toList = l) (hn : s.size = 32) (w : World) :
  Calls Tryz.prog 97 #[.string s] w fun e w' => e = .returned (.tuple #[mg m, .int .i64 k]) ∧ w.grownBy w' none := by
 obtain ⟨rfl, rfl⟩ := h; subst hs; exact rget_walk s hn w

set_option maxHeartbeats 1600000 in
theorem rsplit_no (s : ByteArray) (hn : s.size = 48) (hno : getOf (s.data.toList.take 32) = none) (w : World) :
  Calls Tryz.prog 59 #[.string s] w fun e w' => e = .returned noRSplit ∧ w.grownBy w' none := by
 have hz : (s.extract 0 32).size = 32 := by rw [ByteArray.size_extract]; omega
 have hl : (s.extract 0 32).data.toList = s.data.toList.take 32 := by simp [List.extract_eq_take_drop]
 have C := hid (rget_as _ zeroM 2 (gotM_none hno) (s.extract 0 32) hl hz)
 clear hno hl
 have hg0 : w.grownBy ((w.alloc (.cells zeroM.cells 39)).alloc (.cells #[.int .u64 0, .int .u64 0] 83)) none := gb_alloc (gb_alloc (.refl w none) _) _
 have H0 := hid (sp_new w); have G0 := hid hg0; clear hg0
 go_enter Tryz.func59, Tryz.ntmps59
 go_wp2_with fail
 refine (C.out _).mono ?_
 rintro e w1 ⟨rfl, hg⟩
 have A := hid (at_grown H0.out.1 hg (by simp)); have B := hid (at_grown H0.out.2 hg (by simp)); have G1 := hid (gb_trans G0.out hg (.inl rfl)); clear hg H0 G0
 go_wp2_with (first | refine wpList_store_new (w := w1) (cs := zeroM.cells) rfl (by kernel_rfl) (by kernel_rfl) (by kernel_rfl) rfl rfl rfl rfl rfl ?_ | refine wpList_buildTo (ty := 39) (cs := zeroM.cells) rfl rfl rfl (by kernel_rfl) ?_ | refine wpList_store_row (old := zeroM.cells) (cs := zeroM.cells) (at_alloc A.out _) (by kernel_rfl) (by kernel_rfl) (by kernel_rfl) rfl rfl rfl rfl rfl ?_ | refine wpList_store_row (old := #[.int .u64 0, .int .u64 0]) (cs := #[.int .u64 0, .int .u64 0]) (at_setRow_other (b := w.heap.size) (at_alloc B.out _) (by omega)) (by kernel_rfl) (by kernel_rfl) (by kernel_rfl) rfl rfl rfl rfl rfl ?_)
 obtain ⟨d0, d1, d2, d3, d4, d5, d6⟩ := msg_cells (at_setRow_other (cs := #[.int .u64 0, .int .u64 0]) (at_setRow (cs := zeroM.cells) (at_alloc A.out (.cells zeroM.cells 39))) (show w.heap.size ≠ w.heap.size + 1 by omega))
 have ht := at_setRow (cs := #[.int .u64 0, .int .u64 0]) (at_setRow_other (cs := zeroM.cells) (at_alloc B.out (.cells zeroM.cells 39)) (show w.heap.size + 1 ≠ w.heap.size by omega))
 have t0 := at_cell ht 0
 have t1 := at_cell ht 1
 exact bodyPost_ret (v := noRSplit) (by simp [results, Tryz.results59, go_sem, d0, d1, d2, d3, d4, d5, d6, t0, t1]; rfl) rfl ⟨rfl, gb_setRow (gb_setRow (gb_alloc G1.out _) (Nat.le_refl _)) (by omega)⟩

set_option maxHeartbeats 3200000 in
theorem rsplit_yes (s : ByteArray) (hn : s.size = 48) (m : Mg) (hno : getOf (s.data.toList.take 32) = some m) (a b : BitVec 64) (ha : wordAt (s.data.toList.drop 32) 0 8 = a) (hb : wordAt (s.data.toList.drop 32) 8 8 = b) (w : World) :
  Calls Tryz.prog 59 #[.string s] w fun e w' => e = .returned (.tuple #[mg m, .string (s.extract 0 32), pair a b, .int .i64 0]) ∧ w.grownBy w' none := by
 have hz : (s.extract 0 32).size = 32 := by rw [ByteArray.size_extract]; omega
 have hl : (s.extract 0 32).data.toList = s.data.toList.take 32 := by simp [List.extract_eq_take_drop]
 have C := hid (rget_as _ m 0 (gotM_some hno) (s.extract 0 32) hl hz)
 rw [word_drop] at ha hb
 have g1 := fun w => refget_in s 32 w (by rw [hn]; unfold maxLen; decide) (by rw [hn]; decide)
 have g2 := fun w => refget_in s 40 w (by rw [hn]; unfold maxLen; decide) (by rw [hn]; decide)
 rw [show wordAt s.data.toList 32 8 = a from ha] at g1
 rw [show wordAt s.data.toList 40 8 = b from hb] at g2
 have G1 := hid g1; have G2 := hid g2
 clear hno hl g1 g2 ha hb
 have hg0 : w.grownBy ((w.alloc (.cells zeroM.cells 39)).alloc (.cells #[.int .u64 0, .int .u64 0] 83)) none := gb_alloc (gb_alloc (.refl w none) _) _
 have H0 := hid (sp_new w); have G0 := hid hg0; clear hg0
 go_enter Tryz.func59, Tryz.ntmps59
 go_wp2_with fail
 refine (C.out _).mono ?_
 rintro e w1 ⟨rfl, hg⟩
 have A1 := hid (at_grown H0.out.1 hg (by simp)); have B1 := hid (at_grown H0.out.2 hg (by simp)); have G3 := hid (gb_trans G0.out hg (.inl rfl)); clear hg H0 G0
 go_wp2_with (first | refine wpList_store_new (w := w1) (cs := m.cells) rfl (by kernel_rfl) (by kernel_rfl) (by kernel_rfl) rfl rfl rfl rfl rfl ?_)
 refine (G1.out _).mono ?_
 rintro e w2 ⟨rfl, rfl⟩
 go_wp2_with fail
 refine (G2.out _).mono ?_
 rintro e w2 ⟨rfl, rfl⟩
 have hsz : w.heap.size + 1 < w1.heap.size := at_lt B1.out
 have z0 : (w1.alloc (.cells m.cells 39)).heap[w1.heap.size]? = some (.cells m.cells 39) := at_new w1 _
 have A2 := hid (at_alloc A1.out (.cells m.cells 39)); have B2 := hid (at_alloc B1.out (.cells m.cells 39)); have G4 := hid (gb_alloc G3.out (.cells m.cells 39))
 have HX2 := hid z0
 clear z0 A1 B1 G3
 go_wp2_with fail
 refine wp_gen (fun wz => wz.heap[w.heap.size]? = some (.cells zeroM.cells 39) ∧ wz.heap[w.heap.size + 1]? = some (.cells #[.int .u64 0, .int .u64 0] 83) ∧ wz.heap[w1.heap.size]? = some (.cells m.cells 39) ∧ w.grownBy wz none) ⟨A2.out, B2.out, HX2.out, G4.out⟩ ?_
 clear A2 B2 HX2 G4
 generalize w1.heap.size = x at hsz ⊢
 intro wz ⟨hA, hB, hX, hG⟩
 have A := hid hA; have B := hid (show wz.drew.heap[w.heap.size + 1]? = some (.cells #[.int .u64 0, .int .u64 0] 83) from hB); have HX := hid (show wz.drew.heap[x]? = some (.cells m.cells 39) from hX); have G := hid hG
 clear hA hB hX hG
 refine wp_region_held_drew (S := (fun w' => (w'.heap[x]? = some (.cells m.cells 39)))) (by kernel_rfl) HX.out (fun hHeld => ?_)
 try dsimp only at hHeld
 refine' jT 0 rfl (by rfl) ?_ hHeld ?_
 rotate_left
 ·(intro w hSw; (try dsimp only at hSw); (try simp only [jD, jE, jF]); refine exec_row (x := .tmp 6) hSw Tryz.underlying39 rfl (by kernel_rfl) ?_ ?_ <;> rfl)
 try simp only [jX, jD, jE, jF]
 refine jU 1 hHeld ?_
 try simp only [jX, jD, jE, jF]
 refine jU 2 hHeld ?_
 try simp only [jX, jD, jE, jF]
 refine jU 3 hHeld ?_
 try simp only [jX, jD, jE, jF]
 refine jU 4 hHeld ?_
 try simp only [jX, jD, jE, jF]
 refine jU 5 hHeld ?_
 try simp only [jX, jD, jE, jF]
 refine jR [6] ?_
 refine jG rfl (fun K hK => ?_) AllReadyH.nil
 have hH2 := hHeld
 have hx := hH2
 have L6 := hid (show (((wz.drew).setRow w.heap.size m.cells).heap[x]? = some (.cells m.cells 39)) from at_setRow_other hx (by omega))
 have A6 := hid (A.out)
 clear hHeld hx
 try simp only [jD, jE, jF]
 rw [if_pos (by rfl)]
 refine wp_store_row (cs := m.cells) A6.out (by kernel_rfl) (by kernel_rfl) (by kernel_rfl) rfl rfl rfl rfl ?_
 refine hK.out _ _ ?_ (fun hHeld => ?_)
 ·exact L6.out
 clear hK K
 try dsimp only at hHeld
 try simp only [jX, jD, jE, jF]
 refine jU 7 hHeld ?_
 try simp only [jX, jD, jE, jF]
 refine jR [8] ?_
 refine jG rfl (fun K hK => ?_) AllReadyH.nil
 have hH2 := hHeld
 have hx := hH2
 have L8 := hid (show ((((wz.drew).setRow w.heap.size m.cells).setRow (w.heap.size + 1) #[.int .u64 (q a), .int .u64 (q b)]).heap[x]? = some (.cells m.cells 39)) from at_setRow_other hx (by omega))
 have A8 := hid (at_setRow_other (cs := m.cells) (b := w.heap.size) B.out (by omega))
 clear hHeld hx
 try simp only [jD, jE, jF]
 rw [if_pos (by rfl)]
 refine wp_store_row (cs := #[.int .u64 (q a), .int .u64 (q b)]) A8.out (by kernel_rfl) (by kernel_rfl) (by kernel_rfl) rfl rfl rfl rfl ?_
 refine hK.out _ _ ?_ (fun hHeld => ?_)
 ·exact L8.out
 clear hK K
 try dsimp only at hHeld
 try simp only [jX, jD, jE, jF]
 refine jU 9 hHeld ?_
 try simp only [jX, jD, jE, jF]
 refine wpAnyH_done (by kernel_rfl) ?_ _
 have hx := hHeld
 clear hx
 have hd := at_setRow_other (cs := #[.int .u64 (q a), .int .u64 (q b)]) (at_setRow (cs := m.cells) (at_drew A.out)) (show w.heap.size ≠ w.heap.size + 1 by omega)
 obtain ⟨d0, d1, d2, d3, d4, d5, d6⟩ := msg_cells hd
 have ht := at_setRow (cs := #[.int .u64 (q a), .int .u64 (q b)]) (at_setRow_other (cs := m.cells) B.out (show w.heap.size + 1 ≠ w.heap.size by omega))
 have t0 := at_cell ht 0
 have t1 := at_cell ht 1
 have GG := hid (gb_setRow (cs := #[.int .u64 (q a), .int .u64 (q b)]) (gb_setRow (cs := m.cells) (gb_drew G.out) (Nat.le_refl _)) (show w.heap.size ≤ w.heap.size + 1 by omega))
 clear hd ht
 go_wp2_with fail
 exact bodyPost_ret (v := .tuple #[mg m, .string (s.extract 0 32), pair a b, .int .i64 0]) (by simp [results, Tryz.results59, go_sem, d0, d1, d2, d3, d4, d5, d6, t0, t1]) rfl ⟨rfl, GG.out⟩
end Go.Proofs.YtgpdcapnnejdeaaGreat
