/-
  Contracts: whether a message may be, as the program and as the document has it; a message's first eight bytes as a number. No condition. And 1 texts more that this one stands on. No condition.
-/
import Derived.Test.YtgpdcapnnejdeaaGreatJ0
import Derived.Test.YtgpdcapnnejdeaaGreatY9
import Derived.Test.YtgpdcapnnejdeaaGreatY8
section
set_option linter.unusedSimpArgs false
namespace Go.Proofs.YtgpdcapnnejdeaaGreat
set_option maxRecDepth 100000
open Go.RowKit

set_option maxHeartbeats 3200000 in
theorem may_any (m : Mg) (w : World) :
  Calls Tryz.prog 62 #[mg m] w fun e w' => e = .returned (.bool (mayOf m)) ∧ w.grownBy w' none := by
 rw [may_bool]
 have hx1 := fun w => within_any m.kind 1 3 w
 have hx2 := fun w => within_any m.who 0 15 w
 have hx3 := fun w => within_any m.gen 0 60000 w
 have hx4 := fun w => within64_any m.seq 1 1099511627776 w
 have hx5 := fun w => within64_any m.epoch 0 1099511627776 w
 have hx6 := fun w => measures_any m w
 generalize within m.kind 1 3 = x1 at hx1 ⊢
 generalize within m.who 0 15 = x2 at hx2 ⊢
 generalize within m.gen 0 60000 = x3 at hx3 ⊢
 generalize within m.seq 1 1099511627776 = x4 at hx4 ⊢
 generalize within m.epoch 0 1099511627776 = x5 at hx5 ⊢
 generalize measB m = x6 at hx6 ⊢
 have Cx1 := hid hx1; have Cx2 := hid hx2; have Cx3 := hid hx3; have Cx4 := hid hx4; have Cx5 := hid hx5; have Cx6 := hid hx6; clear hx1 hx2 hx3 hx4 hx5 hx6
 cases x1
 ·go_enter Tryz.func62, Tryz.ntmps62
  go_wp2_with (first | (go_at_call 101; (with_reducible refine (Cx1.out _).mono ?_); rintro e w1 ⟨rfl, rfl⟩) | (go_at_call 101; (with_reducible refine (Cx2.out _).mono ?_); rintro e w1 ⟨rfl, rfl⟩) | (go_at_call 101; (with_reducible refine (Cx3.out _).mono ?_); rintro e w1 ⟨rfl, rfl⟩) | (go_at_call 102; (with_reducible refine (Cx4.out _).mono ?_); rintro e w1 ⟨rfl, rfl⟩) | (go_at_call 102; (with_reducible refine (Cx5.out _).mono ?_); rintro e w1 ⟨rfl, rfl⟩) | (go_at_call 103; (with_reducible refine (Cx6.out _).mono ?_); rintro e w1 ⟨rfl, hg⟩; have G := hid hg; clear hg))
  go_ret
  exact ⟨rfl, gb_alloc (.refl w none) _⟩
 cases x2
 ·go_enter Tryz.func62, Tryz.ntmps62
  go_wp2_with (first | (go_at_call 101; (with_reducible refine (Cx1.out _).mono ?_); rintro e w1 ⟨rfl, rfl⟩) | (go_at_call 101; (with_reducible refine (Cx2.out _).mono ?_); rintro e w1 ⟨rfl, rfl⟩) | (go_at_call 101; (with_reducible refine (Cx3.out _).mono ?_); rintro e w1 ⟨rfl, rfl⟩) | (go_at_call 102; (with_reducible refine (Cx4.out _).mono ?_); rintro e w1 ⟨rfl, rfl⟩) | (go_at_call 102; (with_reducible refine (Cx5.out _).mono ?_); rintro e w1 ⟨rfl, rfl⟩) | (go_at_call 103; (with_reducible refine (Cx6.out _).mono ?_); rintro e w1 ⟨rfl, hg⟩; have G := hid hg; clear hg))
  go_ret
  exact ⟨rfl, gb_alloc (.refl w none) _⟩
 cases x3
 ·go_enter Tryz.func62, Tryz.ntmps62
  go_wp2_with (first | (go_at_call 101; (with_reducible refine (Cx1.out _).mono ?_); rintro e w1 ⟨rfl, rfl⟩) | (go_at_call 101; (with_reducible refine (Cx2.out _).mono ?_); rintro e w1 ⟨rfl, rfl⟩) | (go_at_call 101; (with_reducible refine (Cx3.out _).mono ?_); rintro e w1 ⟨rfl, rfl⟩) | (go_at_call 102; (with_reducible refine (Cx4.out _).mono ?_); rintro e w1 ⟨rfl, rfl⟩) | (go_at_call 102; (with_reducible refine (Cx5.out _).mono ?_); rintro e w1 ⟨rfl, rfl⟩) | (go_at_call 103; (with_reducible refine (Cx6.out _).mono ?_); rintro e w1 ⟨rfl, hg⟩; have G := hid hg; clear hg))
  go_ret
  exact ⟨rfl, gb_alloc (.refl w none) _⟩
 cases x4
 ·go_enter Tryz.func62, Tryz.ntmps62
  go_wp2_with (first | (go_at_call 101; (with_reducible refine (Cx1.out _).mono ?_); rintro e w1 ⟨rfl, rfl⟩) | (go_at_call 101; (with_reducible refine (Cx2.out _).mono ?_); rintro e w1 ⟨rfl, rfl⟩) | (go_at_call 101; (with_reducible refine (Cx3.out _).mono ?_); rintro e w1 ⟨rfl, rfl⟩) | (go_at_call 102; (with_reducible refine (Cx4.out _).mono ?_); rintro e w1 ⟨rfl, rfl⟩) | (go_at_call 102; (with_reducible refine (Cx5.out _).mono ?_); rintro e w1 ⟨rfl, rfl⟩) | (go_at_call 103; (with_reducible refine (Cx6.out _).mono ?_); rintro e w1 ⟨rfl, hg⟩; have G := hid hg; clear hg))
  go_ret
  exact ⟨rfl, gb_alloc (.refl w none) _⟩
 cases x5
 ·go_enter Tryz.func62, Tryz.ntmps62
  go_wp2_with (first | (go_at_call 101; (with_reducible refine (Cx1.out _).mono ?_); rintro e w1 ⟨rfl, rfl⟩) | (go_at_call 101; (with_reducible refine (Cx2.out _).mono ?_); rintro e w1 ⟨rfl, rfl⟩) | (go_at_call 101; (with_reducible refine (Cx3.out _).mono ?_); rintro e w1 ⟨rfl, rfl⟩) | (go_at_call 102; (with_reducible refine (Cx4.out _).mono ?_); rintro e w1 ⟨rfl, rfl⟩) | (go_at_call 102; (with_reducible refine (Cx5.out _).mono ?_); rintro e w1 ⟨rfl, rfl⟩) | (go_at_call 103; (with_reducible refine (Cx6.out _).mono ?_); rintro e w1 ⟨rfl, hg⟩; have G := hid hg; clear hg))
  go_ret
  exact ⟨rfl, gb_alloc (.refl w none) _⟩
 cases x6
 ·go_enter Tryz.func62, Tryz.ntmps62
  go_wp2_with (first | (go_at_call 101; (with_reducible refine (Cx1.out _).mono ?_); rintro e w1 ⟨rfl, rfl⟩) | (go_at_call 101; (with_reducible refine (Cx2.out _).mono ?_); rintro e w1 ⟨rfl, rfl⟩) | (go_at_call 101; (with_reducible refine (Cx3.out _).mono ?_); rintro e w1 ⟨rfl, rfl⟩) | (go_at_call 102; (with_reducible refine (Cx4.out _).mono ?_); rintro e w1 ⟨rfl, rfl⟩) | (go_at_call 102; (with_reducible refine (Cx5.out _).mono ?_); rintro e w1 ⟨rfl, rfl⟩) | (go_at_call 103; (with_reducible refine (Cx6.out _).mono ?_); rintro e w1 ⟨rfl, hg⟩; have G := hid hg; clear hg))
  go_ret
  exact ⟨rfl, gb_trans (gb_alloc (.refl w none) _) G.out (.inl rfl)⟩
 go_enter Tryz.func62, Tryz.ntmps62
 go_wp2_with (first | (go_at_call 101; (with_reducible refine (Cx1.out _).mono ?_); rintro e w1 ⟨rfl, rfl⟩) | (go_at_call 101; (with_reducible refine (Cx2.out _).mono ?_); rintro e w1 ⟨rfl, rfl⟩) | (go_at_call 101; (with_reducible refine (Cx3.out _).mono ?_); rintro e w1 ⟨rfl, rfl⟩) | (go_at_call 102; (with_reducible refine (Cx4.out _).mono ?_); rintro e w1 ⟨rfl, rfl⟩) | (go_at_call 102; (with_reducible refine (Cx5.out _).mono ?_); rintro e w1 ⟨rfl, rfl⟩) | (go_at_call 103; (with_reducible refine (Cx6.out _).mono ?_); rintro e w1 ⟨rfl, hg⟩; have G := hid hg; clear hg))
 go_ret
 exact ⟨rfl, gb_trans (gb_alloc (.refl w none) _) G.out (.inl rfl)⟩

theorem q_one_or (x : BitVec 64) : bits .or .u64 1 (q x) = q (1#64 ||| x) := by
 rw [show (1 : Int) = q 1#64 by decide +kernel, q_or]
set_option maxHeartbeats 1600000 in
theorem head_any (m : Mg) (w : World) :
  Calls Tryz.prog 84 #[mg m] w fun e w' => e = .returned (.int .u64 (q (headOf m))) ∧ w.grownBy w' none := by
 have h1 := q_lit m.kind; have h2 := q_lit m.who; have h3 := q_lit m.metric; have h4 := q_lit m.gen
 have hor := q_one_or (w64 m.kind <<< 8)
 unfold headOf
 rw [← show w64 m.kind = BitVec.ofInt 64 m.kind from rfl] at h1
 rw [← show w64 m.who = BitVec.ofInt 64 m.who from rfl] at h2
 rw [← show w64 m.metric = BitVec.ofInt 64 m.metric from rfl] at h3
 rw [← show w64 m.gen = BitVec.ofInt 64 m.gen from rfl] at h4
 go_enter Tryz.func84, Tryz.ntmps84
 go_wp2_with fail
 go_ret
 exact ⟨rfl, gb_alloc (.refl w none) _⟩
end Go.Proofs.YtgpdcapnnejdeaaGreat
end
section
set_option linter.unusedSimpArgs false
set_option linter.unusedVariables false
namespace Go.Proofs.YtgpdcapnnejdeaaGreat
set_option maxRecDepth 100000
open Go.RowKit

def rowsOf (m : Mg) (a b c d : Nat) : List (Value × List UInt8) := [(.slice (some ⟨a, 0, none⟩) 8 8, put8 (headOf m)), (.slice (some ⟨b, 0, none⟩) 8 8, put8 (w64 m.seq)), (.slice (some ⟨c, 0, none⟩) 8 8, put8 (w64 m.epoch)), (.slice (some ⟨d, 0, none⟩) 8 8, put8 (w64 m.value))]
theorem rowsOf_flat (m : Mg) (a b c d : Nat) : flatB (rowsOf m a b c d) = putOf m := by simp [flatB, rowsOf, putOf]
theorem rows_four {w : World} {g : Nat} {t : TypeId} {v0 v1 v2 v3 : Value} {l0 l1 l2 l3 : List UInt8} (h : w.heap[g]? = some (.cells #[v0, v1, v2, v3] t)) (h0 : BytesAt w v0 l0) (h1 : BytesAt w v1 l1) (h2 : BytesAt w v2 l2) (h3 : BytesAt w v3 l3) :
  RowsAt w (.slice (some ⟨g, 0, none⟩) 4 4) [(v0, l0), (v1, l1), (v2, l2), (v3, l3)] := by
 refine .inr ⟨_, 4, rfl, Nat.le_refl _, by unfold maxLen; decide, fun i hi => ?_⟩
 have e : (⟨g, 0, none⟩ : Addr).add i = ⟨g, i, none⟩ := by unfold Addr.add; split <;> simp_all
 rw [e, at_cell h i]
 rcases (by simp at hi; omega : i = 0 ∨ i = 1 ∨ i = 2 ∨ i = 3) with rfl | rfl | rfl | rfl
 ·exact ⟨rfl, h0⟩
 ·exact ⟨rfl, h1⟩
 ·exact ⟨rfl, h2⟩
 ·exact ⟨rfl, h3⟩

set_option maxHeartbeats 1600000 in
theorem wput_bad (m : Mg) (hm : mayOf m = false) (w : World) :
  Calls Tryz.prog 35 #[mg m] w fun e w' => e = .returned (.tuple #[.slice none 0 0, .int .i64 1]) ∧ w.grownBy w' none := by
 have hc := may_any m
 rw [hm] at hc
 have C := hid hc; clear hc hm
 have B := hid (boxm_new w m)
 go_enter Tryz.func35, Tryz.ntmps35
 go_wp2_with (refine wpList_row B.out.box Tryz.underlying39 rfl (by kernel_rfl) rfl rfl rfl rfl ?_)
 refine (C.out _).mono ?_
 rintro e w1 ⟨rfl, hg⟩
 have G := hid hg; clear hg
 go_wp2_with fail
 go_ret2
 exact ⟨rfl, gb_trans (gb_alloc (.refl w none) _) G.out (.inl rfl)⟩

set_option maxHeartbeats 3200000 in
theorem wput_good (m : Mg) (hm : mayOf m = true) (w : World) :
  Calls Tryz.prog 35 #[mg m] w fun e w' => ∃ v, e = .returned (.tuple #[v, .int .i64 0]) ∧ OwnB w.heap.size w' v (putOf m) ∧ w.grownBy w' none := by
 have hc := may_any m
 rw [hm] at hc
 have C := hid hc; clear hc hm
 have B0 := hid (boxm_new w m)
 go_enter Tryz.func35, Tryz.ntmps35
 go_wp2_with (refine wpList_row B0.out.box Tryz.underlying39 rfl (by kernel_rfl) rfl rfl rfl rfl ?_)
 refine (C.out _).mono ?_
 rintro e w1 ⟨rfl, hg⟩
 have B := hid (B0.out.grown hg); clear hg B0 C
 have hs : IntKind.u64.wrap m.seq = q (w64 m.seq) := q_lit m.seq
 have he : IntKind.u64.wrap m.epoch = q (w64 m.epoch) := q_lit m.epoch
 have hv : IntKind.u64.wrap m.value = q (w64 m.value) := q_lit m.value
 go_wp2_with fail
 refine wp_region_held_drew (S := (fun w' => (BoxM w m w'))) (by kernel_rfl) B.out.drew (fun hHeld => ?_)
 try dsimp only at hHeld
 refine' jT 0 rfl (by rfl) ?_ hHeld ?_
 rotate_left
 ·(intro w hSw; (try dsimp only at hSw); (try simp only [jD, jE, jF]); refine exec_row (x := .tmp 1) hSw.box Tryz.underlying39 rfl (by kernel_rfl) ?_ ?_ <;> rfl)
 try simp only [jX, jD, jE, jF]
 refine jU 3 hHeld ?_
 try simp only [jX, jD, jE, jF]
 refine' jT 4 rfl (by rfl) ?_ hHeld ?_
 rotate_left
 ·(intro w hSw; (try dsimp only at hSw); have bx := hSw; obtain ⟨d0, d1, d2, d3, d4, d5, d6⟩ := msg_cells bx.box; go_simp; try with_reducible rfl)
 try simp only [jX, jD, jE, jF]
 refine jU 5 hHeld ?_
 try simp only [jX, jD, jE, jF]
 refine jU 7 hHeld ?_
 try simp only [jX, jD, jE, jF]
 refine' jT 8 rfl (by rfl) ?_ hHeld ?_
 rotate_left
 ·(intro w hSw; (try dsimp only at hSw); have bx := hSw; obtain ⟨d0, d1, d2, d3, d4, d5, d6⟩ := msg_cells bx.box; go_simp; try with_reducible rfl)
 try simp only [jX, jD, jE, jF]
 refine jU 9 hHeld ?_
 try simp only [jX, jD, jE, jF]
 refine jU 11 hHeld ?_
 try simp only [jX, jD, jE, jF]
 refine' jT 12 rfl (by rfl) ?_ hHeld ?_
 rotate_left
 ·(intro w hSw; (try dsimp only at hSw); have bx := hSw; obtain ⟨d0, d1, d2, d3, d4, d5, d6⟩ := msg_cells bx.box; go_simp; try with_reducible rfl)
 try simp only [jX, jD, jE, jF]
 refine jU 13 hHeld ?_
 try simp only [jX, jD, jE, jF]
 refine jR [1] ?_
 refine jG rfl (fun K hK => ?_) AllReadyH.nil
 try simp only [jD, jE, jF]
 go_simp
 have hH2 := hHeld
 have bx := hH2
 refine (head_any m _).mono ?_
 rintro e w1001 ⟨rfl, hg⟩
 have L1 := hid (show (BoxM w m w1001) from bx.grown hg)
 clear hHeld hg bx
 go_wp2_with fail
 refine hK.out _ _ ?_ (fun hHeld => ?_)
 ·exact L1.out
 clear hK K
 try dsimp only at hHeld
 try simp only [jX, jD, jE, jF]
 refine jR [2] ?_
 refine jG rfl (fun K hK => ?_) AllReadyH.nil
 try simp only [jD, jE, jF]
 go_simp
 have hH2 := hHeld
 have bx := hH2
 refine (put_any (headOf m) _).mono ?_
 rintro e w1002 ⟨rfl, ha, hg⟩
 have L2 := hid (show (BoxM w m w1002) from bx.grown hg)
 have Np0 := hid (own_put (headOf m) ha (Nat.le_refl _)).bytes
 clear hHeld hg bx
 go_wp2_with fail
 refine hK.out _ _ ?_ (fun hHeld => ?_)
 ·exact L2.out
 clear hK K
 try dsimp only at hHeld
 try simp only [jX, jD, jE, jF]
 refine held_stronger (S' := fun w' => (fun w' => BytesAt w' (.slice (some ⟨w1001.heap.size, 0, none⟩) 8 8) (put8 (headOf m))) w' ∧ ((fun w' => (BoxM w m w'))) w') (fun _ h => h.2) _ _ _ _ ?_
 replace hHeld := And.intro Np0.out hHeld
 try dsimp only at hHeld
 refine jR [6] ?_
 refine jG rfl (fun K hK => ?_) AllReadyH.nil
 try simp only [jD, jE, jF]
 go_simp
 have hH2 := hHeld
 obtain ⟨p0, bx⟩ := hH2
 refine (put_any (w64 m.seq) _).mono ?_
 rintro e w1006 ⟨rfl, ha, hg⟩
 have L6 := hid (show (BytesAt w1006 (.slice (some ⟨w1001.heap.size, 0, none⟩) 8 8) (put8 (headOf m))) ∧ (BoxM w m w1006) from ⟨p0.grown hg (by simp), bx.grown hg⟩)
 have Np1 := hid (own_put (w64 m.seq) ha (Nat.le_refl _)).bytes
 clear hHeld hg p0 bx
 go_wp2_with fail
 refine hK.out _ _ ?_ (fun hHeld => ?_)
 ·exact L6.out
 clear hK K
 try dsimp only at hHeld
 try simp only [jX, jD, jE, jF]
 refine held_stronger (S' := fun w' => (fun w' => BytesAt w' (.slice (some ⟨w1002.heap.size, 0, none⟩) 8 8) (put8 (w64 m.seq))) w' ∧ ((fun w' => (BytesAt w' (.slice (some ⟨w1001.heap.size, 0, none⟩) 8 8) (put8 (headOf m))) ∧ (BoxM w m w'))) w') (fun _ h => h.2) _ _ _ _ ?_
 replace hHeld := And.intro Np1.out hHeld
 try dsimp only at hHeld
 refine jR [10] ?_
 refine jG rfl (fun K hK => ?_) AllReadyH.nil
 try simp only [jD, jE, jF]
 go_simp
 have hH2 := hHeld
 obtain ⟨p1, p0, bx⟩ := hH2
 refine (put_any (w64 m.epoch) _).mono ?_
 rintro e w1010 ⟨rfl, ha, hg⟩
 have L10 := hid (show (BytesAt w1010 (.slice (some ⟨w1002.heap.size, 0, none⟩) 8 8) (put8 (w64 m.seq))) ∧ (BytesAt w1010 (.slice (some ⟨w1001.heap.size, 0, none⟩) 8 8) (put8 (headOf m))) ∧ (BoxM w m w1010) from ⟨p1.grown hg (by simp), p0.grown hg (by simp), bx.grown hg⟩)
 have Np2 := hid (own_put (w64 m.epoch) ha (Nat.le_refl _)).bytes
 clear hHeld hg p1 p0 bx
 go_wp2_with fail
 refine hK.out _ _ ?_ (fun hHeld => ?_)
 ·exact L10.out
 clear hK K
 try dsimp only at hHeld
 try simp only [jX, jD, jE, jF]
 refine held_stronger (S' := fun w' => (fun w' => BytesAt w' (.slice (some ⟨w1006.heap.size, 0, none⟩) 8 8) (put8 (w64 m.epoch))) w' ∧ ((fun w' => (BytesAt w' (.slice (some ⟨w1002.heap.size, 0, none⟩) 8 8) (put8 (w64 m.seq))) ∧ (BytesAt w' (.slice (some ⟨w1001.heap.size, 0, none⟩) 8 8) (put8 (headOf m))) ∧ (BoxM w m w'))) w') (fun _ h => h.2) _ _ _ _ ?_
 replace hHeld := And.intro Np2.out hHeld
 try dsimp only at hHeld
 refine jR [14] ?_
 refine jG rfl (fun K hK => ?_) AllReadyH.nil
 try simp only [jD, jE, jF]
 go_simp
 have hH2 := hHeld
 obtain ⟨p2, p1, p0, bx⟩ := hH2
 refine (put_any (w64 m.value) _).mono ?_
 rintro e w1014 ⟨rfl, ha, hg⟩
 have L14 := hid (show (BytesAt w1014 (.slice (some ⟨w1006.heap.size, 0, none⟩) 8 8) (put8 (w64 m.epoch))) ∧ (BytesAt w1014 (.slice (some ⟨w1002.heap.size, 0, none⟩) 8 8) (put8 (w64 m.seq))) ∧ (BytesAt w1014 (.slice (some ⟨w1001.heap.size, 0, none⟩) 8 8) (put8 (headOf m))) ∧ (BoxM w m w1014) from ⟨p2.grown hg (by simp), p1.grown hg (by simp), p0.grown hg (by simp), bx.grown hg⟩)
 have Np3 := hid (own_put (w64 m.value) ha (Nat.le_refl _)).bytes
 clear hHeld hg p2 p1 p0 bx
 go_wp2_with fail
 refine hK.out _ _ ?_ (fun hHeld => ?_)
 ·exact L14.out
 clear hK K
 try dsimp only at hHeld
 try simp only [jX, jD, jE, jF]
 refine held_stronger (S' := fun w' => (fun w' => BytesAt w' (.slice (some ⟨w1010.heap.size, 0, none⟩) 8 8) (put8 (w64 m.value))) w' ∧ ((fun w' => (BytesAt w' (.slice (some ⟨w1006.heap.size, 0, none⟩) 8 8) (put8 (w64 m.epoch))) ∧ (BytesAt w' (.slice (some ⟨w1002.heap.size, 0, none⟩) 8 8) (put8 (w64 m.seq))) ∧ (BytesAt w' (.slice (some ⟨w1001.heap.size, 0, none⟩) 8 8) (put8 (headOf m))) ∧ (BoxM w m w'))) w') (fun _ h => h.2) _ _ _ _ ?_
 replace hHeld := And.intro Np3.out hHeld
 try dsimp only at hHeld
 refine jR [15] ?_
 refine jG rfl (fun K hK => ?_) AllReadyH.nil
 have hH2 := hHeld
 obtain ⟨p3, p2, p1, p0, bx⟩ := hH2
 have hg : w1014.grownBy (w1014.alloc (.cells #[.slice (some ⟨w1001.heap.size, 0, none⟩) 8 8, .slice (some ⟨w1002.heap.size, 0, none⟩) 8 8, .slice (some ⟨w1006.heap.size, 0, none⟩) 8 8, .slice (some ⟨w1010.heap.size, 0, none⟩) 8 8] 40)) none := World.grownBy_alloc _ _ _
 have L15 := hid (show (BytesAt ((w1014.alloc (.cells #[.slice (some ⟨w1001.heap.size, 0, none⟩) 8 8, .slice (some ⟨w1002.heap.size, 0, none⟩) 8 8, .slice (some ⟨w1006.heap.size, 0, none⟩) 8 8, .slice (some ⟨w1010.heap.size, 0, none⟩) 8 8] 40))) (.slice (some ⟨w1010.heap.size, 0, none⟩) 8 8) (put8 (w64 m.value))) ∧ (BytesAt ((w1014.alloc (.cells #[.slice (some ⟨w1001.heap.size, 0, none⟩) 8 8, .slice (some ⟨w1002.heap.size, 0, none⟩) 8 8, .slice (some ⟨w1006.heap.size, 0, none⟩) 8 8, .slice (some ⟨w1010.heap.size, 0, none⟩) 8 8] 40))) (.slice (some ⟨w1006.heap.size, 0, none⟩) 8 8) (put8 (w64 m.epoch))) ∧ (BytesAt ((w1014.alloc (.cells #[.slice (some ⟨w1001.heap.size, 0, none⟩) 8 8, .slice (some ⟨w1002.heap.size, 0, none⟩) 8 8, .slice (some ⟨w1006.heap.size, 0, none⟩) 8 8, .slice (some ⟨w1010.heap.size, 0, none⟩) 8 8] 40))) (.slice (some ⟨w1002.heap.size, 0, none⟩) 8 8) (put8 (w64 m.seq))) ∧ (BytesAt ((w1014.alloc (.cells #[.slice (some ⟨w1001.heap.size, 0, none⟩) 8 8, .slice (some ⟨w1002.heap.size, 0, none⟩) 8 8, .slice (some ⟨w1006.heap.size, 0, none⟩) 8 8, .slice (some ⟨w1010.heap.size, 0, none⟩) 8 8] 40))) (.slice (some ⟨w1001.heap.size, 0, none⟩) 8 8) (put8 (headOf m))) ∧ (BoxM w m ((w1014.alloc (.cells #[.slice (some ⟨w1001.heap.size, 0, none⟩) 8 8, .slice (some ⟨w1002.heap.size, 0, none⟩) 8 8, .slice (some ⟨w1006.heap.size, 0, none⟩) 8 8, .slice (some ⟨w1010.heap.size, 0, none⟩) 8 8] 40)))) from ⟨p3.grown hg (by simp), p2.grown hg (by simp), p1.grown hg (by simp), p0.grown hg (by simp), bx.grown hg⟩)
 have Nrw := hid (rows_four (at_new w1014 _) (p0.grown hg (by simp)) (p1.grown hg (by simp)) (p2.grown hg (by simp)) (p3.grown hg (by simp)))
 clear hHeld hg p3 p2 p1 p0 bx
 try simp only [jD, jE, jF]
 go_simp
 refine hK.out _ _ ?_ (fun hHeld => ?_)
 ·exact L15.out
 clear hK K
 try dsimp only at hHeld
 try simp only [jX, jD, jE, jF]
 refine held_stronger (S' := fun w' => (fun w' => RowsAt w' (.slice (some ⟨w1014.heap.size, 0, none⟩) 4 4) (rowsOf m w1001.heap.size w1002.heap.size w1006.heap.size w1010.heap.size)) w' ∧ ((fun w' => (BytesAt w' (.slice (some ⟨w1010.heap.size, 0, none⟩) 8 8) (put8 (w64 m.value))) ∧ (BytesAt w' (.slice (some ⟨w1006.heap.size, 0, none⟩) 8 8) (put8 (w64 m.epoch))) ∧ (BytesAt w' (.slice (some ⟨w1002.heap.size, 0, none⟩) 8 8) (put8 (w64 m.seq))) ∧ (BytesAt w' (.slice (some ⟨w1001.heap.size, 0, none⟩) 8 8) (put8 (headOf m))) ∧ (BoxM w m w'))) w') (fun _ h => h.2) _ _ _ _ ?_
 replace hHeld := And.intro Nrw.out hHeld
 try dsimp only at hHeld
 refine jR [16] ?_
 refine jG rfl (fun K hK => ?_) AllReadyH.nil
 try simp only [jD, jE, jF]
 go_simp
 have hH2 := hHeld
 obtain ⟨rw, p3, p2, p1, p0, bx⟩ := hH2
 refine (concat_any (rowsOf m w1001.heap.size w1002.heap.size w1006.heap.size w1010.heap.size) _ _ rw (by rw [rowsOf_flat, putOf_length]; decide) (by rw [rowsOf_flat, putOf_length]; decide)).mono ?_
 rintro e w1016 ⟨u, rfl, ho, hg⟩
 have L16 := hid (show (RowsAt w1016 (.slice (some ⟨w1014.heap.size, 0, none⟩) 4 4) (rowsOf m w1001.heap.size w1002.heap.size w1006.heap.size w1010.heap.size)) ∧ (BytesAt w1016 (.slice (some ⟨w1010.heap.size, 0, none⟩) 8 8) (put8 (w64 m.value))) ∧ (BytesAt w1016 (.slice (some ⟨w1006.heap.size, 0, none⟩) 8 8) (put8 (w64 m.epoch))) ∧ (BytesAt w1016 (.slice (some ⟨w1002.heap.size, 0, none⟩) 8 8) (put8 (w64 m.seq))) ∧ (BytesAt w1016 (.slice (some ⟨w1001.heap.size, 0, none⟩) 8 8) (put8 (headOf m))) ∧ (BoxM w m w1016) from ⟨rw.grown hg, p3.grown hg (by simp), p2.grown hg (by simp), p1.grown hg (by simp), p0.grown hg (by simp), bx.grown hg⟩)
 have Nou := hid ((rowsOf_flat m _ _ _ _ ▸ ho : OwnB _ _ u (putOf m)).le (by have := gb_size (World.grownBy_alloc w1014 (.cells #[.slice (some ⟨w1001.heap.size, 0, none⟩) 8 8, .slice (some ⟨w1002.heap.size, 0, none⟩) 8 8, .slice (some ⟨w1006.heap.size, 0, none⟩) 8 8, .slice (some ⟨w1010.heap.size, 0, none⟩) 8 8] 40) none); exact this))
 clear hHeld hg rw p3 p2 p1 p0 bx
 go_wp2_with fail
 refine hK.out _ _ ?_ (fun hHeld => ?_)
 ·exact L16.out
 clear hK K
 try dsimp only at hHeld
 try simp only [jX, jD, jE, jF]
 refine held_stronger (S' := fun w' => (fun w' => OwnB w1014.heap.size w' u (putOf m)) w' ∧ ((fun w' => (RowsAt w' (.slice (some ⟨w1014.heap.size, 0, none⟩) 4 4) (rowsOf m w1001.heap.size w1002.heap.size w1006.heap.size w1010.heap.size)) ∧ (BytesAt w' (.slice (some ⟨w1010.heap.size, 0, none⟩) 8 8) (put8 (w64 m.value))) ∧ (BytesAt w' (.slice (some ⟨w1006.heap.size, 0, none⟩) 8 8) (put8 (w64 m.epoch))) ∧ (BytesAt w' (.slice (some ⟨w1002.heap.size, 0, none⟩) 8 8) (put8 (w64 m.seq))) ∧ (BytesAt w' (.slice (some ⟨w1001.heap.size, 0, none⟩) 8 8) (put8 (headOf m))) ∧ (BoxM w m w'))) w') (fun _ h => h.2) _ _ _ _ ?_
 replace hHeld := And.intro Nou.out hHeld
 try dsimp only at hHeld
 refine jU 17 hHeld ?_
 try simp only [jX, jD, jE, jF]
 refine jU 18 hHeld ?_
 try simp only [jX, jD, jE, jF]
 refine wpAnyH_done (by kernel_rfl) ?_ _
 obtain ⟨ou, rw, p3, p2, p1, p0, bx⟩ := hHeld
 have BX := hid bx; have OU := hid ou; have SZ := hid (gb_size L14.out.2.2.2.g); clear ou rw p3 p2 p1 p0 bx
 go_wp2_with fail
 go_ret2
 exact ⟨_, rfl, OU.out.le SZ.out, BX.out.g⟩
end Go.Proofs.YtgpdcapnnejdeaaGreat
end
