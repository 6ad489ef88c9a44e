/-
  Contract for wire.Put: a message's 32 bytes, in a slice of the call's own; an error of one that may not be. No condition.
-/
import Derived.Test.YtjmcjkmfpcphnaaWMayB
import Derived.Test.YtjmcjkmfpcphnaaConcat
import Derived.Test.YtjmcjkmfpcphnaaHeld
set_option linter.unusedSimpArgs false
set_option linter.unusedVariables false
namespace Go.Proofs.Ytjmcjkmfpcphnaa
set_option maxRecDepth 100000
open Go.RowKit

def s8 (b : Nat) : Value := .slice (some ⟨b, 0, none⟩) 8 8
def rowsOf (m : Mg) (a b c d : Nat) : List (Value × List UInt8) := [(.slice (some ⟨a, 0, none⟩) 8 8, put8 (headOf m)), (.slice (some ⟨b, 0, none⟩) 8 8, put8 (w64 m.seq)), (.slice (some ⟨c, 0, none⟩) 8 8, put8 (w64 m.epoch)), (.slice (some ⟨d, 0, none⟩) 8 8, put8 (w64 m.value))]
theorem rowsOf_flat (m : Mg) (a b c d : Nat) : flatB (rowsOf m a b c d) = putOf m := by simp [flatB, rowsOf, putOf]
theorem rows_four {w : World} {g : Nat} {t : TypeId} {v0 v1 v2 v3 : Value} {l0 l1 l2 l3 : List UInt8} (h : w.heap[g]? = some (.cells #[v0, v1, v2, v3] t)) (h0 : BytesAt w v0 l0) (h1 : BytesAt w v1 l1) (h2 : BytesAt w v2 l2) (h3 : BytesAt w v3 l3) :
    RowsAt w (.slice (some ⟨g, 0, none⟩) 4 4) [(v0, l0), (v1, l1), (v2, l2), (v3, l3)] := by
  refine .inr ⟨_, 4, rfl, Nat.le_refl _, by unfold maxLen; decide, fun i hi => ?_⟩
  have e : (⟨g, 0, none⟩ : Addr).add i = ⟨g, i, none⟩ := by unfold Addr.add; split <;> simp_all
  rw [e, at_cell h i]
  rcases (by simp at hi; omega : i = 0 ∨ i = 1 ∨ i = 2 ∨ i = 3) with rfl | rfl | rfl | rfl
  · exact ⟨rfl, h0⟩
  · exact ⟨rfl, h1⟩
  · exact ⟨rfl, h2⟩
  · exact ⟨rfl, h3⟩

set_option maxHeartbeats 1600000 in
theorem wput_bad (m : Mg) (hm : mayOf m = false) (w : World) :
    Calls Try.prog 9 #[mg m] w fun e w' => e = .returned (.tuple #[.slice none 0 0, .int .i64 1]) ∧ w.grownBy w' none := by
  have hc := may_any m
  rw [hm] at hc
  have C := hid hc; clear hc hm
  have B := hid (boxm_new w m)
  go_enter Try.func9, Try.ntmps9
  go_wp2_with (refine wpList_row B.out.box Try.underlying23 rfl (by kernel_rfl) rfl rfl rfl rfl ?_)
  refine (C.out _).mono ?_
  rintro e w1 ⟨rfl, hg⟩
  have G := hid hg; clear hg
  go_wp2_with fail
  go_ret2
  exact ⟨rfl, gb_trans (gb_alloc (.refl w none) _) G.out (.inl rfl)⟩

set_option maxHeartbeats 3200000 in
theorem wput_good (m : Mg) (hm : mayOf m = true) (w : World) :
    Calls Try.prog 9 #[mg m] w fun e w' => ∃ v, e = .returned (.tuple #[v, .int .i64 0]) ∧ OwnB w.heap.size w' v (putOf m) ∧ w.grownBy w' none := by
  have hc := may_any m
  rw [hm] at hc
  have C := hid hc; clear hc hm
  have B0 := hid (boxm_new w m)
  go_enter Try.func9, Try.ntmps9
  go_wp2_with (refine wpList_row B0.out.box Try.underlying23 rfl (by kernel_rfl) rfl rfl rfl rfl ?_)
  refine (C.out _).mono ?_
  rintro e w1 ⟨rfl, hg⟩
  have B := hid (B0.out.grown hg); clear hg B0 C
  have hs : IntKind.u64.wrap m.seq = q (w64 m.seq) := q_lit m.seq
  have he : IntKind.u64.wrap m.epoch = q (w64 m.epoch) := q_lit m.epoch
  have hv : IntKind.u64.wrap m.value = q (w64 m.value) := q_lit m.value
  go_wp2_with fail
  refine wp_region_held_drew (S := (fun w' => (BoxM w m w'))) (by kernel_rfl) B.out.drew (fun hHeld => ?_)
  try dsimp only at hHeld
  refine' wpAnyH_take (i := 0) (v := _) rfl (by kernel_rfl) (by kernel_rfl) (by kernel_rfl) (fun _ _ _ h => h) (Or.inl ⟨by rfl, ?_⟩) hHeld ?_
  rotate_left
  · (intro w hSw; (try dsimp only at hSw); (try simp only [List.getElem_toArray, List.getElem_cons_succ, List.getElem_cons_zero]); refine exec_row (x := .tmp 1) hSw.box Try.underlying23 rfl (by kernel_rfl) ?_ ?_ <;> rfl)
  try simp only [Act.put, List.setIfInBounds_toArray, List.set_cons_zero, List.set_cons_succ, List.getElem_toArray, List.getElem_cons_succ, List.getElem_cons_zero]
  refine' wpAnyH_take (i := 3) (v := _) rfl (by kernel_rfl) (by kernel_rfl) (by kernel_rfl) (fun _ _ _ h => h) (Or.inl ⟨by rfl, ?_⟩) hHeld ?_
  rotate_left
  · (intro w hSw; (try dsimp only at hSw); go_simp; try with_reducible rfl)
  try simp only [Act.put, List.setIfInBounds_toArray, List.set_cons_zero, List.set_cons_succ, List.getElem_toArray, List.getElem_cons_succ, List.getElem_cons_zero]
  refine' wpAnyH_take (i := 4) (v := _) rfl (by kernel_rfl) (by kernel_rfl) (by kernel_rfl) (fun _ _ _ h => h) (Or.inl ⟨by rfl, ?_⟩) hHeld ?_
  rotate_left
  · (intro w hSw; (try dsimp only at hSw); have bx := hSw; obtain ⟨d0, d1, d2, d3, d4, d5, d6⟩ := msg_cells bx.box; go_simp; try with_reducible rfl)
  try simp only [Act.put, List.setIfInBounds_toArray, List.set_cons_zero, List.set_cons_succ, List.getElem_toArray, List.getElem_cons_succ, List.getElem_cons_zero]
  refine' wpAnyH_take (i := 5) (v := _) rfl (by kernel_rfl) (by kernel_rfl) (by kernel_rfl) (fun _ _ _ h => h) (Or.inl ⟨by rfl, ?_⟩) hHeld ?_
  rotate_left
  · (intro w hSw; (try dsimp only at hSw); go_simp; try with_reducible rfl)
  try simp only [Act.put, List.setIfInBounds_toArray, List.set_cons_zero, List.set_cons_succ, List.getElem_toArray, List.getElem_cons_succ, List.getElem_cons_zero]
  refine' wpAnyH_take (i := 7) (v := _) rfl (by kernel_rfl) (by kernel_rfl) (by kernel_rfl) (fun _ _ _ h => h) (Or.inl ⟨by rfl, ?_⟩) hHeld ?_
  rotate_left
  · (intro w hSw; (try dsimp only at hSw); go_simp; try with_reducible rfl)
  try simp only [Act.put, List.setIfInBounds_toArray, List.set_cons_zero, List.set_cons_succ, List.getElem_toArray, List.getElem_cons_succ, List.getElem_cons_zero]
  refine' wpAnyH_take (i := 8) (v := _) rfl (by kernel_rfl) (by kernel_rfl) (by kernel_rfl) (fun _ _ _ h => h) (Or.inl ⟨by rfl, ?_⟩) hHeld ?_
  rotate_left
  · (intro w hSw; (try dsimp only at hSw); have bx := hSw; obtain ⟨d0, d1, d2, d3, d4, d5, d6⟩ := msg_cells bx.box; go_simp; try with_reducible rfl)
  try simp only [Act.put, List.setIfInBounds_toArray, List.set_cons_zero, List.set_cons_succ, List.getElem_toArray, List.getElem_cons_succ, List.getElem_cons_zero]
  refine' wpAnyH_take (i := 9) (v := _) rfl (by kernel_rfl) (by kernel_rfl) (by kernel_rfl) (fun _ _ _ h => h) (Or.inl ⟨by rfl, ?_⟩) hHeld ?_
  rotate_left
  · (intro w hSw; (try dsimp only at hSw); go_simp; try with_reducible rfl)
  try simp only [Act.put, List.setIfInBounds_toArray, List.set_cons_zero, List.set_cons_succ, List.getElem_toArray, List.getElem_cons_succ, List.getElem_cons_zero]
  refine' wpAnyH_take (i := 11) (v := _) rfl (by kernel_rfl) (by kernel_rfl) (by kernel_rfl) (fun _ _ _ h => h) (Or.inl ⟨by rfl, ?_⟩) hHeld ?_
  rotate_left
  · (intro w hSw; (try dsimp only at hSw); go_simp; try with_reducible rfl)
  try simp only [Act.put, List.setIfInBounds_toArray, List.set_cons_zero, List.set_cons_succ, List.getElem_toArray, List.getElem_cons_succ, List.getElem_cons_zero]
  refine' wpAnyH_take (i := 12) (v := _) rfl (by kernel_rfl) (by kernel_rfl) (by kernel_rfl) (fun _ _ _ h => h) (Or.inl ⟨by rfl, ?_⟩) hHeld ?_
  rotate_left
  · (intro w hSw; (try dsimp only at hSw); have bx := hSw; obtain ⟨d0, d1, d2, d3, d4, d5, d6⟩ := msg_cells bx.box; go_simp; try with_reducible rfl)
  try simp only [Act.put, List.setIfInBounds_toArray, List.set_cons_zero, List.set_cons_succ, List.getElem_toArray, List.getElem_cons_succ, List.getElem_cons_zero]
  refine' wpAnyH_take (i := 13) (v := _) rfl (by kernel_rfl) (by kernel_rfl) (by kernel_rfl) (fun _ _ _ h => h) (Or.inl ⟨by rfl, ?_⟩) hHeld ?_
  rotate_left
  · (intro w hSw; (try dsimp only at hSw); go_simp; try with_reducible rfl)
  try simp only [Act.put, List.setIfInBounds_toArray, List.set_cons_zero, List.set_cons_succ, List.getElem_toArray, List.getElem_cons_succ, List.getElem_cons_zero]
  refine wpAnyH_ready (rs := [1]) (by kernel_rfl) (by simp) ?_
  refine AllReadyH.cons (o := _) rfl (fun K hK => ?_) AllReadyH.nil
  try simp only [List.getElem_toArray, List.getElem_cons_succ, List.getElem_cons_zero]
  go_simp
  have hH2 := hHeld
  have bx := hH2
  refine (head_any m _).mono ?_
  rintro e w1001 ⟨rfl, hg⟩
  have L1 := hid (show (BoxM w m w1001) from bx.grown hg)
  clear hHeld hg bx
  go_wp2_with fail
  refine hK.out _ _ ?_ (fun hHeld => ?_)
  · exact L1.out
  clear hK K
  try dsimp only at hHeld
  try simp only [Act.put, List.setIfInBounds_toArray, List.set_cons_zero, List.set_cons_succ, List.getElem_toArray, List.getElem_cons_succ, List.getElem_cons_zero]
  refine wpAnyH_ready (rs := [2]) (by kernel_rfl) (by simp) ?_
  refine AllReadyH.cons (o := _) rfl (fun K hK => ?_) AllReadyH.nil
  try simp only [List.getElem_toArray, List.getElem_cons_succ, List.getElem_cons_zero]
  go_simp
  have hH2 := hHeld
  have bx := hH2
  refine (put_any (headOf m) _).mono ?_
  rintro e w1002 ⟨rfl, ha, hg⟩
  have L2 := hid (show (BoxM w m w1002) from bx.grown hg)
  have Np0 := hid (own_put (headOf m) ha (Nat.le_refl _)).bytes
  clear hHeld hg bx
  go_wp2_with fail
  refine hK.out _ _ ?_ (fun hHeld => ?_)
  · exact L2.out
  clear hK K
  try dsimp only at hHeld
  try simp only [Act.put, List.setIfInBounds_toArray, List.set_cons_zero, List.set_cons_succ, List.getElem_toArray, List.getElem_cons_succ, List.getElem_cons_zero]
  refine held_stronger (S' := fun w' => (fun w' => BytesAt w' (.slice (some ⟨w1001.heap.size, 0, none⟩) 8 8) (put8 (headOf m))) w' ∧ ((fun w' => (BoxM w m w'))) w') (fun _ h => h.2) _ _ _ _ ?_
  replace hHeld := And.intro Np0.out hHeld
  try dsimp only at hHeld
  refine wpAnyH_ready (rs := [6]) (by kernel_rfl) (by simp) ?_
  refine AllReadyH.cons (o := _) rfl (fun K hK => ?_) AllReadyH.nil
  try simp only [List.getElem_toArray, List.getElem_cons_succ, List.getElem_cons_zero]
  go_simp
  have hH2 := hHeld
  obtain ⟨p0, bx⟩ := hH2
  refine (put_any (w64 m.seq) _).mono ?_
  rintro e w1006 ⟨rfl, ha, hg⟩
  have L6 := hid (show (BytesAt w1006 (.slice (some ⟨w1001.heap.size, 0, none⟩) 8 8) (put8 (headOf m))) ∧ (BoxM w m w1006) from ⟨p0.grown hg (by simp), bx.grown hg⟩)
  have Np1 := hid (own_put (w64 m.seq) ha (Nat.le_refl _)).bytes
  clear hHeld hg p0 bx
  go_wp2_with fail
  refine hK.out _ _ ?_ (fun hHeld => ?_)
  · exact L6.out
  clear hK K
  try dsimp only at hHeld
  try simp only [Act.put, List.setIfInBounds_toArray, List.set_cons_zero, List.set_cons_succ, List.getElem_toArray, List.getElem_cons_succ, List.getElem_cons_zero]
  refine held_stronger (S' := fun w' => (fun w' => BytesAt w' (.slice (some ⟨w1002.heap.size, 0, none⟩) 8 8) (put8 (w64 m.seq))) w' ∧ ((fun w' => (BytesAt w' (.slice (some ⟨w1001.heap.size, 0, none⟩) 8 8) (put8 (headOf m))) ∧ (BoxM w m w'))) w') (fun _ h => h.2) _ _ _ _ ?_
  replace hHeld := And.intro Np1.out hHeld
  try dsimp only at hHeld
  refine wpAnyH_ready (rs := [10]) (by kernel_rfl) (by simp) ?_
  refine AllReadyH.cons (o := _) rfl (fun K hK => ?_) AllReadyH.nil
  try simp only [List.getElem_toArray, List.getElem_cons_succ, List.getElem_cons_zero]
  go_simp
  have hH2 := hHeld
  obtain ⟨p1, p0, bx⟩ := hH2
  refine (put_any (w64 m.epoch) _).mono ?_
  rintro e w1010 ⟨rfl, ha, hg⟩
  have L10 := hid (show (BytesAt w1010 (.slice (some ⟨w1002.heap.size, 0, none⟩) 8 8) (put8 (w64 m.seq))) ∧ (BytesAt w1010 (.slice (some ⟨w1001.heap.size, 0, none⟩) 8 8) (put8 (headOf m))) ∧ (BoxM w m w1010) from ⟨p1.grown hg (by simp), p0.grown hg (by simp), bx.grown hg⟩)
  have Np2 := hid (own_put (w64 m.epoch) ha (Nat.le_refl _)).bytes
  clear hHeld hg p1 p0 bx
  go_wp2_with fail
  refine hK.out _ _ ?_ (fun hHeld => ?_)
  · exact L10.out
  clear hK K
  try dsimp only at hHeld
  try simp only [Act.put, List.setIfInBounds_toArray, List.set_cons_zero, List.set_cons_succ, List.getElem_toArray, List.getElem_cons_succ, List.getElem_cons_zero]
  refine held_stronger (S' := fun w' => (fun w' => BytesAt w' (.slice (some ⟨w1006.heap.size, 0, none⟩) 8 8) (put8 (w64 m.epoch))) w' ∧ ((fun w' => (BytesAt w' (.slice (some ⟨w1002.heap.size, 0, none⟩) 8 8) (put8 (w64 m.seq))) ∧ (BytesAt w' (.slice (some ⟨w1001.heap.size, 0, none⟩) 8 8) (put8 (headOf m))) ∧ (BoxM w m w'))) w') (fun _ h => h.2) _ _ _ _ ?_
  replace hHeld := And.intro Np2.out hHeld
  try dsimp only at hHeld
  refine wpAnyH_ready (rs := [14]) (by kernel_rfl) (by simp) ?_
  refine AllReadyH.cons (o := _) rfl (fun K hK => ?_) AllReadyH.nil
  try simp only [List.getElem_toArray, List.getElem_cons_succ, List.getElem_cons_zero]
  go_simp
  have hH2 := hHeld
  obtain ⟨p2, p1, p0, bx⟩ := hH2
  refine (put_any (w64 m.value) _).mono ?_
  rintro e w1014 ⟨rfl, ha, hg⟩
  have L14 := hid (show (BytesAt w1014 (.slice (some ⟨w1006.heap.size, 0, none⟩) 8 8) (put8 (w64 m.epoch))) ∧ (BytesAt w1014 (.slice (some ⟨w1002.heap.size, 0, none⟩) 8 8) (put8 (w64 m.seq))) ∧ (BytesAt w1014 (.slice (some ⟨w1001.heap.size, 0, none⟩) 8 8) (put8 (headOf m))) ∧ (BoxM w m w1014) from ⟨p2.grown hg (by simp), p1.grown hg (by simp), p0.grown hg (by simp), bx.grown hg⟩)
  have Np3 := hid (own_put (w64 m.value) ha (Nat.le_refl _)).bytes
  clear hHeld hg p2 p1 p0 bx
  go_wp2_with fail
  refine hK.out _ _ ?_ (fun hHeld => ?_)
  · exact L14.out
  clear hK K
  try dsimp only at hHeld
  try simp only [Act.put, List.setIfInBounds_toArray, List.set_cons_zero, List.set_cons_succ, List.getElem_toArray, List.getElem_cons_succ, List.getElem_cons_zero]
  refine held_stronger (S' := fun w' => (fun w' => BytesAt w' (.slice (some ⟨w1010.heap.size, 0, none⟩) 8 8) (put8 (w64 m.value))) w' ∧ ((fun w' => (BytesAt w' (.slice (some ⟨w1006.heap.size, 0, none⟩) 8 8) (put8 (w64 m.epoch))) ∧ (BytesAt w' (.slice (some ⟨w1002.heap.size, 0, none⟩) 8 8) (put8 (w64 m.seq))) ∧ (BytesAt w' (.slice (some ⟨w1001.heap.size, 0, none⟩) 8 8) (put8 (headOf m))) ∧ (BoxM w m w'))) w') (fun _ h => h.2) _ _ _ _ ?_
  replace hHeld := And.intro Np3.out hHeld
  try dsimp only at hHeld
  refine wpAnyH_ready (rs := [15]) (by kernel_rfl) (by simp) ?_
  refine AllReadyH.cons (o := _) rfl (fun K hK => ?_) AllReadyH.nil
  have hH2 := hHeld
  obtain ⟨p3, p2, p1, p0, bx⟩ := hH2
  have hg : w1014.grownBy (w1014.alloc (.cells #[.slice (some ⟨w1001.heap.size, 0, none⟩) 8 8, .slice (some ⟨w1002.heap.size, 0, none⟩) 8 8, .slice (some ⟨w1006.heap.size, 0, none⟩) 8 8, .slice (some ⟨w1010.heap.size, 0, none⟩) 8 8] 26)) none := World.grownBy_alloc _ _ _
  have L15 := hid (show (BytesAt (w1014.alloc (.cells #[.slice (some ⟨w1001.heap.size, 0, none⟩) 8 8, .slice (some ⟨w1002.heap.size, 0, none⟩) 8 8, .slice (some ⟨w1006.heap.size, 0, none⟩) 8 8, .slice (some ⟨w1010.heap.size, 0, none⟩) 8 8] 26)) (.slice (some ⟨w1010.heap.size, 0, none⟩) 8 8) (put8 (w64 m.value))) ∧ (BytesAt (w1014.alloc (.cells #[.slice (some ⟨w1001.heap.size, 0, none⟩) 8 8, .slice (some ⟨w1002.heap.size, 0, none⟩) 8 8, .slice (some ⟨w1006.heap.size, 0, none⟩) 8 8, .slice (some ⟨w1010.heap.size, 0, none⟩) 8 8] 26)) (.slice (some ⟨w1006.heap.size, 0, none⟩) 8 8) (put8 (w64 m.epoch))) ∧ (BytesAt (w1014.alloc (.cells #[.slice (some ⟨w1001.heap.size, 0, none⟩) 8 8, .slice (some ⟨w1002.heap.size, 0, none⟩) 8 8, .slice (some ⟨w1006.heap.size, 0, none⟩) 8 8, .slice (some ⟨w1010.heap.size, 0, none⟩) 8 8] 26)) (.slice (some ⟨w1002.heap.size, 0, none⟩) 8 8) (put8 (w64 m.seq))) ∧ (BytesAt (w1014.alloc (.cells #[.slice (some ⟨w1001.heap.size, 0, none⟩) 8 8, .slice (some ⟨w1002.heap.size, 0, none⟩) 8 8, .slice (some ⟨w1006.heap.size, 0, none⟩) 8 8, .slice (some ⟨w1010.heap.size, 0, none⟩) 8 8] 26)) (.slice (some ⟨w1001.heap.size, 0, none⟩) 8 8) (put8 (headOf m))) ∧ (BoxM w m (w1014.alloc (.cells #[.slice (some ⟨w1001.heap.size, 0, none⟩) 8 8, .slice (some ⟨w1002.heap.size, 0, none⟩) 8 8, .slice (some ⟨w1006.heap.size, 0, none⟩) 8 8, .slice (some ⟨w1010.heap.size, 0, none⟩) 8 8] 26))) from ⟨p3.grown hg (by simp), p2.grown hg (by simp), p1.grown hg (by simp), p0.grown hg (by simp), bx.grown hg⟩)
  have Nrw := hid (rows_four (at_new w1014 _) (p0.grown hg (by simp)) (p1.grown hg (by simp)) (p2.grown hg (by simp)) (p3.grown hg (by simp)))
  clear hHeld hg p3 p2 p1 p0 bx
  try simp only [List.getElem_toArray, List.getElem_cons_succ, List.getElem_cons_zero]
  go_simp
  refine hK.out _ _ ?_ (fun hHeld => ?_)
  · exact L15.out
  clear hK K
  try dsimp only at hHeld
  try simp only [Act.put, List.setIfInBounds_toArray, List.set_cons_zero, List.set_cons_succ, List.getElem_toArray, List.getElem_cons_succ, List.getElem_cons_zero]
  refine held_stronger (S' := fun w' => (fun w' => RowsAt w' (.slice (some ⟨w1014.heap.size, 0, none⟩) 4 4) (rowsOf m w1001.heap.size w1002.heap.size w1006.heap.size w1010.heap.size)) w' ∧ ((fun w' => (BytesAt w' (.slice (some ⟨w1010.heap.size, 0, none⟩) 8 8) (put8 (w64 m.value))) ∧ (BytesAt w' (.slice (some ⟨w1006.heap.size, 0, none⟩) 8 8) (put8 (w64 m.epoch))) ∧ (BytesAt w' (.slice (some ⟨w1002.heap.size, 0, none⟩) 8 8) (put8 (w64 m.seq))) ∧ (BytesAt w' (.slice (some ⟨w1001.heap.size, 0, none⟩) 8 8) (put8 (headOf m))) ∧ (BoxM w m w'))) w') (fun _ h => h.2) _ _ _ _ ?_
  replace hHeld := And.intro Nrw.out hHeld
  try dsimp only at hHeld
  refine wpAnyH_ready (rs := [16]) (by kernel_rfl) (by simp) ?_
  refine AllReadyH.cons (o := _) rfl (fun K hK => ?_) AllReadyH.nil
  try simp only [List.getElem_toArray, List.getElem_cons_succ, List.getElem_cons_zero]
  go_simp
  have hH2 := hHeld
  obtain ⟨rw, p3, p2, p1, p0, bx⟩ := hH2
  refine (concat_any (rowsOf m w1001.heap.size w1002.heap.size w1006.heap.size w1010.heap.size) _ _ rw (by rw [rowsOf_flat, putOf_length]; decide) (by rw [rowsOf_flat, putOf_length]; decide)).mono ?_
  rintro e w1016 ⟨u, rfl, ho, hg⟩
  have L16 := hid (show (RowsAt w1016 (.slice (some ⟨w1014.heap.size, 0, none⟩) 4 4) (rowsOf m w1001.heap.size w1002.heap.size w1006.heap.size w1010.heap.size)) ∧ (BytesAt w1016 (.slice (some ⟨w1010.heap.size, 0, none⟩) 8 8) (put8 (w64 m.value))) ∧ (BytesAt w1016 (.slice (some ⟨w1006.heap.size, 0, none⟩) 8 8) (put8 (w64 m.epoch))) ∧ (BytesAt w1016 (.slice (some ⟨w1002.heap.size, 0, none⟩) 8 8) (put8 (w64 m.seq))) ∧ (BytesAt w1016 (.slice (some ⟨w1001.heap.size, 0, none⟩) 8 8) (put8 (headOf m))) ∧ (BoxM w m w1016) from ⟨rw.grown hg, p3.grown hg (by simp), p2.grown hg (by simp), p1.grown hg (by simp), p0.grown hg (by simp), bx.grown hg⟩)
  have Nou := hid ((rowsOf_flat m _ _ _ _ ▸ ho : OwnB _ _ u (putOf m)).le (by have := gb_size (World.grownBy_alloc w1014 (.cells #[.slice (some ⟨w1001.heap.size, 0, none⟩) 8 8, .slice (some ⟨w1002.heap.size, 0, none⟩) 8 8, .slice (some ⟨w1006.heap.size, 0, none⟩) 8 8, .slice (some ⟨w1010.heap.size, 0, none⟩) 8 8] 26) none); exact this))
  clear hHeld hg rw p3 p2 p1 p0 bx
  go_wp2_with fail
  refine hK.out _ _ ?_ (fun hHeld => ?_)
  · exact L16.out
  clear hK K
  try dsimp only at hHeld
  try simp only [Act.put, List.setIfInBounds_toArray, List.set_cons_zero, List.set_cons_succ, List.getElem_toArray, List.getElem_cons_succ, List.getElem_cons_zero]
  refine held_stronger (S' := fun w' => (fun w' => OwnB w1014.heap.size w' u (putOf m)) w' ∧ ((fun w' => (RowsAt w' (.slice (some ⟨w1014.heap.size, 0, none⟩) 4 4) (rowsOf m w1001.heap.size w1002.heap.size w1006.heap.size w1010.heap.size)) ∧ (BytesAt w' (.slice (some ⟨w1010.heap.size, 0, none⟩) 8 8) (put8 (w64 m.value))) ∧ (BytesAt w' (.slice (some ⟨w1006.heap.size, 0, none⟩) 8 8) (put8 (w64 m.epoch))) ∧ (BytesAt w' (.slice (some ⟨w1002.heap.size, 0, none⟩) 8 8) (put8 (w64 m.seq))) ∧ (BytesAt w' (.slice (some ⟨w1001.heap.size, 0, none⟩) 8 8) (put8 (headOf m))) ∧ (BoxM w m w'))) w') (fun _ h => h.2) _ _ _ _ ?_
  replace hHeld := And.intro Nou.out hHeld
  try dsimp only at hHeld
  refine' wpAnyH_take (i := 17) (v := _) rfl (by kernel_rfl) (by kernel_rfl) (by kernel_rfl) (fun _ _ _ h => h) (Or.inl ⟨by rfl, ?_⟩) hHeld ?_
  rotate_left
  · (intro w hSw; (try dsimp only at hSw); go_simp; try with_reducible rfl)
  try simp only [Act.put, List.setIfInBounds_toArray, List.set_cons_zero, List.set_cons_succ, List.getElem_toArray, List.getElem_cons_succ, List.getElem_cons_zero]
  refine' wpAnyH_take (i := 18) (v := _) rfl (by kernel_rfl) (by kernel_rfl) (by kernel_rfl) (fun _ _ _ h => h) (Or.inl ⟨by rfl, ?_⟩) hHeld ?_
  rotate_left
  · (intro w hSw; (try dsimp only at hSw); go_simp; try with_reducible rfl)
  try simp only [Act.put, List.setIfInBounds_toArray, List.set_cons_zero, List.set_cons_succ, List.getElem_toArray, List.getElem_cons_succ, List.getElem_cons_zero]
  refine wpAnyH_done (by kernel_rfl) ?_ _
  obtain ⟨ou, rw, p3, p2, p1, p0, bx⟩ := hHeld
  have BX := hid bx; have OU := hid ou; have SZ := hid (gb_size L14.out.2.2.2.g); clear ou rw p3 p2 p1 p0 bx
  go_wp2_with fail
  go_ret2
  exact ⟨_, rfl, OU.out.le SZ.out, BX.out.g⟩
end Go.Proofs.Ytjmcjkmfpcphnaa
