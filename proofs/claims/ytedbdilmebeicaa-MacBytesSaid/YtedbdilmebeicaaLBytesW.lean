/-
  The walk of the statement MacBytes: bytes of two tags are the same just if the tags are. No condition.
-/
import Derived.Test.YtedbdilmebeicaaMTold
import Derived.Test.YtedbdilmebeicaaHeld
set_option linter.unusedSimpArgs false
namespace Go.Proofs.Ytedbdilmebeicaa.bytes
set_option maxRecDepth 100000
open Go.RowKit

/-- two boxes -/
structure K2 (w0 : World) (x y : Nat) (k0 k1 a b : BitVec 64) (w : World) : Prop where
  hx : w.heap[x]? = some (.cells #[.int .u64 (q k0), .int .u64 (q k1)] 23)
  hy : w.heap[y]? = some (.cells #[.int .u64 (q a), .int .u64 (q b)] 23)
  g : w0.grownBy w none
theorem K2.grown {w0 : World} {x y : Nat} {k0 k1 a b : BitVec 64} {w w1 : World} (h : K2 w0 x y k0 k1 a b w) (hg : w.grownBy w1 none) : K2 w0 x y k0 k1 a b w1 :=
  ⟨at_grown h.hx hg (by simp), at_grown h.hy hg (by simp), gb_trans h.g hg (.inl rfl)⟩
theorem K2.drew {w0 : World} {x y : Nat} {k0 k1 a b : BitVec 64} {w : World} (h : K2 w0 x y k0 k1 a b w) : K2 w0 x y k0 k1 a b w.drew := ⟨h.hx, h.hy, gb_drew h.g⟩
theorem K2.keep {w0 : World} {x y : Nat} {k0 k1 a b : BitVec 64} {w : World} (h : K2 w0 x y k0 k1 a b w) :
    w.cell? ⟨x, 0, none⟩ = some (.int .u64 (q k0)) ∧ w.cell? ⟨x, 1, none⟩ = some (.int .u64 (q k1)) ∧ w.cell? ⟨y, 0, none⟩ = some (.int .u64 (q a)) ∧ w.cell? ⟨y, 1, none⟩ = some (.int .u64 (q b)) ∧ K2 w0 x y k0 k1 a b w := ⟨at_cell h.hx 0, at_cell h.hx 1, at_cell h.hy 0, at_cell h.hy 1, h⟩
section
variable {P1 P2 P3 P4 : Prop} {w0 wc : World} {x y : Nat} {k0 k1 a b : BitVec 64}
theorem k2_k2 (h : P1 ∧ P2 ∧ P3 ∧ P4 ∧ K2 w0 x y k0 k1 a b wc) : K2 w0 x y k0 k1 a b wc := h.2.2.2.2
end

/-- a tag's bytes, as a string -/
def strOf (a b : BitVec 64) : ByteArray := ⟨(put8 a ++ put8 b).toArray⟩
theorem str_same (a b c d : BitVec 64) : (strOf a b == strOf c d) = (a == c && b == d) := by
  have h0 : (strOf a b == strOf c d) = ((put8 a ++ put8 b).toArray == (put8 c ++ put8 d).toArray) := rfl
  rw [h0, Bool.eq_iff_iff]
  simp only [beq_iff_eq, Bool.and_eq_true]
  constructor
  · intro h
    have h2 : put8 a ++ put8 b = put8 c ++ put8 d := by
      have := congrArg Array.toList h
      simpa using this
    exact ⟨by rw [← word_first a b, h2, word_first], by rw [← word_second a b, h2, word_second]⟩
  · rintro ⟨rfl, rfl⟩; rfl
theorem conv_str (a b : BitVec 64) (w : World) (v : Value) (h : BytesAt w v (put8 a ++ put8 b)) : (convert 26 9 v).run Try.prog w = .ok (.string (strOf a b)) w := conv_bytes h

set_option maxHeartbeats 3200000 in
theorem walk_at (t0 t1 u0 u1 turn : BitVec 64) (which : Int) (i : Int) (z : Bool) (hi : (i = 0 ∧ t0 ^^^ turn = u0 ∧ t1 = u1) ∨ (i = 1 ∧ t0 = u0 ∧ t1 ^^^ turn = u1)) (hm : (IntKind.u64.wrap which).tmod 2 = i)
    (hz1 : (t0 == u0 && t1 == u1) = z) (hz2 : (q turn == 0) = z) (w : World) :
    Calls Try.prog 3 #[.agg #[.int .u64 (q t0), .int .u64 (q t1)], .int .i64 which, .int .u64 (q turn)] w fun e w' => e = .returned (.bool true) ∧ w.grownBy w' none := by
  have hz3 := str_same t0 t1 u0 u1
  rw [hz1, beq_toListBytes] at hz3
  have hc0 := fun w v h => conv_str t0 t1 w v h
  have hc1 := fun w v h => conv_str u0 u1 w v h
  generalize strOf t0 t1 = sT at hc0 hz3
  generalize strOf u0 u1 = sU at hc1 hz3
  have hsame : ∀ w, Calls Try.prog 11 #[.agg #[.int .u64 (q t0), .int .u64 (q t1)], .agg #[.int .u64 (q u0), .int .u64 (q u1)]] w fun e w' => e = .returned (.bool z) ∧ w.grownBy w' none := fun w => by
    rw [← hz1]; exact same_any t0 t1 u0 u1 w
  have C0 := hid hc0; have C1 := hid hc1; have SM := hid hsame; clear hc0 hc1 hsame hz1
  rcases hi with ⟨rfl, rfl, rfl⟩ | ⟨rfl, rfl, rfl⟩
  · go_enter Try.func3, Try.ntmps3
    go_wp2_with fail
    have h5 : K2 w w.heap.size (w.heap.size + 1) t0 t1 (t0 ^^^ turn) t1 _ := K2.mk (w0 := w) (at_alloc (at_new w (.cells #[.int .u64 (q t0), .int .u64 (q t1)] 23)) (.cells #[.int .u64 (q (t0 ^^^ turn)), .int .u64 (q t1)] 23)) (at_new2 w _ _) (gb_alloc (gb_alloc (.refl w none) _) _)
    refine wp_gen (K2 w w.heap.size (w.heap.size + 1) t0 t1 (t0 ^^^ turn) t1) h5 ?_
    clear h5
    obtain ⟨x, hx⟩ : ∃ x, w.heap.size = x := ⟨_, rfl⟩
    rw [hx]
    clear hx
    intro w5 h5
    have T5 := hid h5
    clear h5 hm
    generalize x + 1 = y at *
    refine wp_region_held_drew (S := (fun w' => w'.cell? ⟨x, 0, none⟩ = some (.int .u64 (q t0)) ∧ w'.cell? ⟨x, 1, none⟩ = some (.int .u64 (q t1)) ∧ w'.cell? ⟨y, 0, none⟩ = some (.int .u64 (q (t0 ^^^ turn))) ∧ w'.cell? ⟨y, 1, none⟩ = some (.int .u64 (q t1)) ∧ K2 w x y t0 t1 (t0 ^^^ turn) t1 w')) (by kernel_rfl) T5.out.drew.keep (fun hHeld => ?_)
    try dsimp only at hHeld
    refine wpAnyH_ready (rs := [0]) (by kernel_rfl) (by simp) ?_
    refine AllReadyH.cons (o := _) rfl (fun K hK => ?_) AllReadyH.nil
    try simp only [List.getElem_toArray, List.getElem_cons_succ, List.getElem_cons_zero]
    go_simp
    refine (told_any _).mono ?_
    rintro e w0' ⟨rfl, hg⟩
    have K0 := hid ((k2_k2 hHeld).grown hg)
    clear hHeld hg
    go_wp2_with fail
    refine hK.out _ _ ?_ (fun hHeld => ?_)
    · exact K0.out.keep
    clear hK K
    try dsimp only at hHeld
    try simp only [Act.put, List.setIfInBounds_toArray, List.set_cons_zero, List.set_cons_succ, List.getElem_toArray, List.getElem_cons_succ, List.getElem_cons_zero]
    refine' wpAnyH_take (i := 1) (v := _) rfl (by kernel_rfl) (by kernel_rfl) (by kernel_rfl) (fun _ _ _ h => h) (Or.inl ⟨by rfl, ?_⟩) hHeld ?_
    rotate_left
    · (intro w hSw; (try dsimp only at hSw); go_simp; try with_reducible rfl)
    try simp only [Act.put, List.setIfInBounds_toArray, List.set_cons_zero, List.set_cons_succ, List.getElem_toArray, List.getElem_cons_succ, List.getElem_cons_zero]
    refine' wpAnyH_take (i := 2) (v := _) rfl (by kernel_rfl) (by kernel_rfl) (by kernel_rfl) (fun _ _ _ h => h) (Or.inl ⟨by rfl, ?_⟩) hHeld ?_
    rotate_left
    · (intro w hSw; (try dsimp only at hSw); go_simp; try with_reducible rfl)
    try simp only [Act.put, List.setIfInBounds_toArray, List.set_cons_zero, List.set_cons_succ, List.getElem_toArray, List.getElem_cons_succ, List.getElem_cons_zero]
    refine' wpAnyH_take (i := 5) (v := _) rfl (by kernel_rfl) (by kernel_rfl) (by kernel_rfl) (fun _ _ _ h => h) (Or.inl ⟨by rfl, ?_⟩) hHeld ?_
    rotate_left
    · (intro w hSw; (try dsimp only at hSw); go_simp; try with_reducible rfl)
    try simp only [Act.put, List.setIfInBounds_toArray, List.set_cons_zero, List.set_cons_succ, List.getElem_toArray, List.getElem_cons_succ, List.getElem_cons_zero]
    refine' wpAnyH_take (i := 9) (v := _) rfl (by kernel_rfl) (by kernel_rfl) (by kernel_rfl) (fun _ _ _ h => h) (Or.inl ⟨by rfl, ?_⟩) hHeld ?_
    rotate_left
    · (intro w hSw; (try dsimp only at hSw); go_simp; try with_reducible rfl)
    try simp only [Act.put, List.setIfInBounds_toArray, List.set_cons_zero, List.set_cons_succ, List.getElem_toArray, List.getElem_cons_succ, List.getElem_cons_zero]
    refine' wpAnyH_take (i := 10) (v := _) rfl (by kernel_rfl) (by kernel_rfl) (by kernel_rfl) (fun _ _ _ h => h) (Or.inl ⟨by rfl, ?_⟩) hHeld ?_
    rotate_left
    · (intro w hSw; (try dsimp only at hSw); go_simp; try with_reducible rfl)
    try simp only [Act.put, List.setIfInBounds_toArray, List.set_cons_zero, List.set_cons_succ, List.getElem_toArray, List.getElem_cons_succ, List.getElem_cons_zero]
    refine wpAnyH_ready (rs := [3]) (by kernel_rfl) (by simp) ?_
    refine AllReadyH.cons (o := _) rfl (fun K hK => ?_) AllReadyH.nil
    try simp only [List.getElem_toArray, List.getElem_cons_succ, List.getElem_cons_zero]
    go_simp
    refine (bytes_any t0 t1 _).mono ?_
    rintro e wb ⟨vb, rfl, hob, hg⟩
    have KB := hid ((k2_k2 hHeld).grown hg)
    have OB := hid hob.bytes
    clear hHeld hg hob
    go_wp2_with fail
    refine hK.out _ _ ?_ (fun hHeld => ?_)
    · exact KB.out.keep
    clear hK K
    try dsimp only at hHeld
    try simp only [Act.put, List.setIfInBounds_toArray, List.set_cons_zero, List.set_cons_succ, List.getElem_toArray, List.getElem_cons_succ, List.getElem_cons_zero]
    refine held_stronger (S' := fun w' => (fun w' => BytesAt w' vb (put8 t0 ++ put8 t1)) w' ∧ (fun w' => w'.cell? ⟨x, 0, none⟩ = some (.int .u64 (q t0)) ∧ w'.cell? ⟨x, 1, none⟩ = some (.int .u64 (q t1)) ∧ w'.cell? ⟨y, 0, none⟩ = some (.int .u64 (q (t0 ^^^ turn))) ∧ w'.cell? ⟨y, 1, none⟩ = some (.int .u64 (q t1)) ∧ K2 w x y t0 t1 (t0 ^^^ turn) t1 w') w') (fun _ h => h.2) _ _ _ _ ?_
    replace hHeld := And.intro OB.out hHeld
    try dsimp only at hHeld
    refine' wpAnyH_take (i := 4) (v := _) rfl (by kernel_rfl) (by kernel_rfl) (by kernel_rfl) (fun _ _ _ h => h) (Or.inl ⟨by rfl, ?_⟩) hHeld ?_
    rotate_left
    · (intro w hSw; (try dsimp only at hSw); have cv := C0.out _ _ hSw.1; go_simp; try with_reducible rfl)
    try simp only [Act.put, List.setIfInBounds_toArray, List.set_cons_zero, List.set_cons_succ, List.getElem_toArray, List.getElem_cons_succ, List.getElem_cons_zero]
    refine wpAnyH_ready (rs := [6]) (by kernel_rfl) (by simp) ?_
    refine AllReadyH.cons (o := _) rfl (fun K hK => ?_) AllReadyH.nil
    try simp only [List.getElem_toArray, List.getElem_cons_succ, List.getElem_cons_zero]
    go_simp
    refine (bytes_any (t0 ^^^ turn) t1 _).mono ?_
    rintro e wc ⟨vc, rfl, hoc, hg⟩
    have KC := hid (And.intro (hHeld.1.grown hg (by simp)) ((k2_k2 hHeld.2).grown hg).keep)
    have KG := hid ((k2_k2 hHeld.2).grown hg)
    have OC := hid hoc.bytes
    clear hHeld hg hoc
    go_wp2_with fail
    refine hK.out _ _ ?_ (fun hHeld => ?_)
    · exact KC.out
    clear hK K
    try dsimp only at hHeld
    try simp only [Act.put, List.setIfInBounds_toArray, List.set_cons_zero, List.set_cons_succ, List.getElem_toArray, List.getElem_cons_succ, List.getElem_cons_zero]
    refine held_stronger (S' := fun w' => (fun w' => BytesAt w' vc (put8 (t0 ^^^ turn) ++ put8 t1)) w' ∧ (fun w' => (fun w' => BytesAt w' vb (put8 t0 ++ put8 t1)) w' ∧ (fun w' => w'.cell? ⟨x, 0, none⟩ = some (.int .u64 (q t0)) ∧ w'.cell? ⟨x, 1, none⟩ = some (.int .u64 (q t1)) ∧ w'.cell? ⟨y, 0, none⟩ = some (.int .u64 (q (t0 ^^^ turn))) ∧ w'.cell? ⟨y, 1, none⟩ = some (.int .u64 (q t1)) ∧ K2 w x y t0 t1 (t0 ^^^ turn) t1 w') w') w') (fun _ h => h.2) _ _ _ _ ?_
    replace hHeld := And.intro OC.out hHeld
    try dsimp only at hHeld
    refine' wpAnyH_take (i := 7) (v := _) rfl (by kernel_rfl) (by kernel_rfl) (by kernel_rfl) (fun _ _ _ h => h) (Or.inl ⟨by rfl, ?_⟩) hHeld ?_
    rotate_left
    · (intro w hSw; (try dsimp only at hSw); have cv := C1.out _ _ hSw.1; go_simp; try with_reducible rfl)
    try simp only [Act.put, List.setIfInBounds_toArray, List.set_cons_zero, List.set_cons_succ, List.getElem_toArray, List.getElem_cons_succ, List.getElem_cons_zero]
    refine' wpAnyH_take (i := 8) (v := _) rfl (by kernel_rfl) (by kernel_rfl) (by kernel_rfl) (fun _ _ _ h => h) (Or.inl ⟨by rfl, ?_⟩) hHeld ?_
    rotate_left
    · (intro w hSw; (try dsimp only at hSw); go_simp; try with_reducible rfl)
    try simp only [Act.put, List.setIfInBounds_toArray, List.set_cons_zero, List.set_cons_succ, List.getElem_toArray, List.getElem_cons_succ, List.getElem_cons_zero]
    refine' wpAnyH_take (i := 11) (v := _) rfl (by kernel_rfl) (by kernel_rfl) (by kernel_rfl) (fun _ _ _ h => h) (Or.inl ⟨by rfl, ?_⟩) hHeld ?_
    rotate_left
    · (intro w hSw; (try dsimp only at hSw); go_simp; try with_reducible rfl)
    try simp only [Act.put, List.setIfInBounds_toArray, List.set_cons_zero, List.set_cons_succ, List.getElem_toArray, List.getElem_cons_succ, List.getElem_cons_zero]
    refine' wpAnyH_take (i := 12) (v := _) rfl (by kernel_rfl) (by kernel_rfl) (by kernel_rfl) (fun _ _ _ h => h) (Or.inl ⟨by rfl, ?_⟩) hHeld ?_
    rotate_left
    · (intro w hSw; (try dsimp only at hSw); go_simp; try with_reducible rfl)
    try simp only [Act.put, List.setIfInBounds_toArray, List.set_cons_zero, List.set_cons_succ, List.getElem_toArray, List.getElem_cons_succ, List.getElem_cons_zero]
    refine' wpAnyH_take (i := 13) (v := _) rfl (by kernel_rfl) (by kernel_rfl) (by kernel_rfl) (fun _ _ _ h => h) (Or.inl ⟨by rfl, ?_⟩) hHeld ?_
    rotate_left
    · (intro w hSw; (try dsimp only at hSw); go_simp; try with_reducible rfl)
    try simp only [Act.put, List.setIfInBounds_toArray, List.set_cons_zero, List.set_cons_succ, List.getElem_toArray, List.getElem_cons_succ, List.getElem_cons_zero]
    refine' wpAnyH_take (i := 14) (v := _) rfl (by kernel_rfl) (by kernel_rfl) (by kernel_rfl) (fun _ _ _ h => h) (Or.inl ⟨by rfl, ?_⟩) hHeld ?_
    rotate_left
    · (intro w hSw; (try dsimp only at hSw); go_simp; try with_reducible rfl)
    try simp only [Act.put, List.setIfInBounds_toArray, List.set_cons_zero, List.set_cons_succ, List.getElem_toArray, List.getElem_cons_succ, List.getElem_cons_zero]
    refine' wpAnyH_take (i := 15) (v := _) rfl (by kernel_rfl) (by kernel_rfl) (by kernel_rfl) (fun _ _ _ h => h) (Or.inl ⟨by rfl, ?_⟩) hHeld ?_
    rotate_left
    · (intro w hSw; (try dsimp only at hSw); go_simp; try with_reducible rfl)
    try simp only [Act.put, List.setIfInBounds_toArray, List.set_cons_zero, List.set_cons_succ, List.getElem_toArray, List.getElem_cons_succ, List.getElem_cons_zero]
    refine' wpAnyH_take (i := 17) (v := _) rfl (by kernel_rfl) (by kernel_rfl) (by kernel_rfl) (fun _ _ _ h => h) (Or.inl ⟨by rfl, ?_⟩) hHeld ?_
    rotate_left
    · (intro w hSw; (try dsimp only at hSw); go_simp; try with_reducible rfl)
    try simp only [Act.put, List.setIfInBounds_toArray, List.set_cons_zero, List.set_cons_succ, List.getElem_toArray, List.getElem_cons_succ, List.getElem_cons_zero]
    refine' wpAnyH_take (i := 18) (v := _) rfl (by kernel_rfl) (by kernel_rfl) (by kernel_rfl) (fun _ _ _ h => h) (Or.inl ⟨by rfl, ?_⟩) hHeld ?_
    rotate_left
    · (intro w hSw; (try dsimp only at hSw); go_simp; try with_reducible rfl)
    try simp only [Act.put, List.setIfInBounds_toArray, List.set_cons_zero, List.set_cons_succ, List.getElem_toArray, List.getElem_cons_succ, List.getElem_cons_zero]
    refine wpAnyH_ready (rs := [16]) (by kernel_rfl) (by simp) ?_
    refine AllReadyH.cons (o := _) rfl (fun K hK => ?_) AllReadyH.nil
    try simp only [List.getElem_toArray, List.getElem_cons_succ, List.getElem_cons_zero]
    go_simp
    refine (SM.out _).mono ?_
    rintro e wd ⟨rfl, hg⟩
    have KD := hid (And.intro (hHeld.1.grown hg (by simp)) (And.intro (hHeld.2.1.grown hg (by simp)) ((k2_k2 hHeld.2.2).grown hg).keep))
    have GD := hid ((k2_k2 hHeld.2.2).grown hg).g
    clear hHeld hg
    go_wp2_with fail
    refine hK.out _ _ ?_ (fun hHeld => ?_)
    · exact KD.out
    clear hK K
    try dsimp only at hHeld
    try simp only [Act.put, List.setIfInBounds_toArray, List.set_cons_zero, List.set_cons_succ, List.getElem_toArray, List.getElem_cons_succ, List.getElem_cons_zero]
    refine' wpAnyH_take (i := 19) (v := _) rfl (by kernel_rfl) (by kernel_rfl) (by kernel_rfl) (fun _ _ _ h => h) (Or.inl ⟨by rfl, ?_⟩) hHeld ?_
    rotate_left
    · (intro w hSw; (try dsimp only at hSw); go_simp; try with_reducible rfl)
    try simp only [Act.put, List.setIfInBounds_toArray, List.set_cons_zero, List.set_cons_succ, List.getElem_toArray, List.getElem_cons_succ, List.getElem_cons_zero]
    refine' wpAnyH_take (i := 20) (v := _) rfl (by kernel_rfl) (by kernel_rfl) (by kernel_rfl) (fun _ _ _ h => h) (Or.inl ⟨by rfl, ?_⟩) hHeld ?_
    rotate_left
    · (intro w hSw; (try dsimp only at hSw); go_simp; try with_reducible rfl)
    try simp only [Act.put, List.setIfInBounds_toArray, List.set_cons_zero, List.set_cons_succ, List.getElem_toArray, List.getElem_cons_succ, List.getElem_cons_zero]
    refine' wpAnyH_take (i := 21) (v := _) rfl (by kernel_rfl) (by kernel_rfl) (by kernel_rfl) (fun _ _ _ h => h) (Or.inl ⟨by rfl, ?_⟩) hHeld ?_
    rotate_left
    · (intro w hSw; (try dsimp only at hSw); go_simp; try with_reducible rfl)
    try simp only [Act.put, List.setIfInBounds_toArray, List.set_cons_zero, List.set_cons_succ, List.getElem_toArray, List.getElem_cons_succ, List.getElem_cons_zero]
    refine wpAnyH_done (by kernel_rfl) ?_ _
    clear hHeld
    go_wp2_with fail
    go_ret
    exact ⟨rfl, GD.out⟩
  · go_enter Try.func3, Try.ntmps3
    go_wp2_with fail
    have h5 : K2 w w.heap.size (w.heap.size + 1) t0 t1 t0 (t1 ^^^ turn) _ := K2.mk (w0 := w) (at_alloc (at_new w (.cells #[.int .u64 (q t0), .int .u64 (q t1)] 23)) (.cells #[.int .u64 (q t0), .int .u64 (q (t1 ^^^ turn))] 23)) (at_new2 w _ _) (gb_alloc (gb_alloc (.refl w none) _) _)
    refine wp_gen (K2 w w.heap.size (w.heap.size + 1) t0 t1 t0 (t1 ^^^ turn)) h5 ?_
    clear h5
    obtain ⟨x, hx⟩ : ∃ x, w.heap.size = x := ⟨_, rfl⟩
    rw [hx]
    clear hx
    intro w5 h5
    have T5 := hid h5
    clear h5 hm
    generalize x + 1 = y at *
    refine wp_region_held_drew (S := (fun w' => w'.cell? ⟨x, 0, none⟩ = some (.int .u64 (q t0)) ∧ w'.cell? ⟨x, 1, none⟩ = some (.int .u64 (q t1)) ∧ w'.cell? ⟨y, 0, none⟩ = some (.int .u64 (q t0)) ∧ w'.cell? ⟨y, 1, none⟩ = some (.int .u64 (q (t1 ^^^ turn))) ∧ K2 w x y t0 t1 t0 (t1 ^^^ turn) w')) (by kernel_rfl) T5.out.drew.keep (fun hHeld => ?_)
    try dsimp only at hHeld
    refine wpAnyH_ready (rs := [0]) (by kernel_rfl) (by simp) ?_
    refine AllReadyH.cons (o := _) rfl (fun K hK => ?_) AllReadyH.nil
    try simp only [List.getElem_toArray, List.getElem_cons_succ, List.getElem_cons_zero]
    go_simp
    refine (told_any _).mono ?_
    rintro e w0' ⟨rfl, hg⟩
    have K0 := hid ((k2_k2 hHeld).grown hg)
    clear hHeld hg
    go_wp2_with fail
    refine hK.out _ _ ?_ (fun hHeld => ?_)
    · exact K0.out.keep
    clear hK K
    try dsimp only at hHeld
    try simp only [Act.put, List.setIfInBounds_toArray, List.set_cons_zero, List.set_cons_succ, List.getElem_toArray, List.getElem_cons_succ, List.getElem_cons_zero]
    refine' wpAnyH_take (i := 1) (v := _) rfl (by kernel_rfl) (by kernel_rfl) (by kernel_rfl) (fun _ _ _ h => h) (Or.inl ⟨by rfl, ?_⟩) hHeld ?_
    rotate_left
    · (intro w hSw; (try dsimp only at hSw); go_simp; try with_reducible rfl)
    try simp only [Act.put, List.setIfInBounds_toArray, List.set_cons_zero, List.set_cons_succ, List.getElem_toArray, List.getElem_cons_succ, List.getElem_cons_zero]
    refine' wpAnyH_take (i := 2) (v := _) rfl (by kernel_rfl) (by kernel_rfl) (by kernel_rfl) (fun _ _ _ h => h) (Or.inl ⟨by rfl, ?_⟩) hHeld ?_
    rotate_left
    · (intro w hSw; (try dsimp only at hSw); go_simp; try with_reducible rfl)
    try simp only [Act.put, List.setIfInBounds_toArray, List.set_cons_zero, List.set_cons_succ, List.getElem_toArray, List.getElem_cons_succ, List.getElem_cons_zero]
    refine' wpAnyH_take (i := 5) (v := _) rfl (by kernel_rfl) (by kernel_rfl) (by kernel_rfl) (fun _ _ _ h => h) (Or.inl ⟨by rfl, ?_⟩) hHeld ?_
    rotate_left
    · (intro w hSw; (try dsimp only at hSw); go_simp; try with_reducible rfl)
    try simp only [Act.put, List.setIfInBounds_toArray, List.set_cons_zero, List.set_cons_succ, List.getElem_toArray, List.getElem_cons_succ, List.getElem_cons_zero]
    refine' wpAnyH_take (i := 9) (v := _) rfl (by kernel_rfl) (by kernel_rfl) (by kernel_rfl) (fun _ _ _ h => h) (Or.inl ⟨by rfl, ?_⟩) hHeld ?_
    rotate_left
    · (intro w hSw; (try dsimp only at hSw); go_simp; try with_reducible rfl)
    try simp only [Act.put, List.setIfInBounds_toArray, List.set_cons_zero, List.set_cons_succ, List.getElem_toArray, List.getElem_cons_succ, List.getElem_cons_zero]
    refine' wpAnyH_take (i := 10) (v := _) rfl (by kernel_rfl) (by kernel_rfl) (by kernel_rfl) (fun _ _ _ h => h) (Or.inl ⟨by rfl, ?_⟩) hHeld ?_
    rotate_left
    · (intro w hSw; (try dsimp only at hSw); go_simp; try with_reducible rfl)
    try simp only [Act.put, List.setIfInBounds_toArray, List.set_cons_zero, List.set_cons_succ, List.getElem_toArray, List.getElem_cons_succ, List.getElem_cons_zero]
    refine wpAnyH_ready (rs := [3]) (by kernel_rfl) (by simp) ?_
    refine AllReadyH.cons (o := _) rfl (fun K hK => ?_) AllReadyH.nil
    try simp only [List.getElem_toArray, List.getElem_cons_succ, List.getElem_cons_zero]
    go_simp
    refine (bytes_any t0 t1 _).mono ?_
    rintro e wb ⟨vb, rfl, hob, hg⟩
    have KB := hid ((k2_k2 hHeld).grown hg)
    have OB := hid hob.bytes
    clear hHeld hg hob
    go_wp2_with fail
    refine hK.out _ _ ?_ (fun hHeld => ?_)
    · exact KB.out.keep
    clear hK K
    try dsimp only at hHeld
    try simp only [Act.put, List.setIfInBounds_toArray, List.set_cons_zero, List.set_cons_succ, List.getElem_toArray, List.getElem_cons_succ, List.getElem_cons_zero]
    refine held_stronger (S' := fun w' => (fun w' => BytesAt w' vb (put8 t0 ++ put8 t1)) w' ∧ (fun w' => w'.cell? ⟨x, 0, none⟩ = some (.int .u64 (q t0)) ∧ w'.cell? ⟨x, 1, none⟩ = some (.int .u64 (q t1)) ∧ w'.cell? ⟨y, 0, none⟩ = some (.int .u64 (q t0)) ∧ w'.cell? ⟨y, 1, none⟩ = some (.int .u64 (q (t1 ^^^ turn))) ∧ K2 w x y t0 t1 t0 (t1 ^^^ turn) w') w') (fun _ h => h.2) _ _ _ _ ?_
    replace hHeld := And.intro OB.out hHeld
    try dsimp only at hHeld
    refine' wpAnyH_take (i := 4) (v := _) rfl (by kernel_rfl) (by kernel_rfl) (by kernel_rfl) (fun _ _ _ h => h) (Or.inl ⟨by rfl, ?_⟩) hHeld ?_
    rotate_left
    · (intro w hSw; (try dsimp only at hSw); have cv := C0.out _ _ hSw.1; go_simp; try with_reducible rfl)
    try simp only [Act.put, List.setIfInBounds_toArray, List.set_cons_zero, List.set_cons_succ, List.getElem_toArray, List.getElem_cons_succ, List.getElem_cons_zero]
    refine wpAnyH_ready (rs := [6]) (by kernel_rfl) (by simp) ?_
    refine AllReadyH.cons (o := _) rfl (fun K hK => ?_) AllReadyH.nil
    try simp only [List.getElem_toArray, List.getElem_cons_succ, List.getElem_cons_zero]
    go_simp
    refine (bytes_any t0 (t1 ^^^ turn) _).mono ?_
    rintro e wc ⟨vc, rfl, hoc, hg⟩
    have KC := hid (And.intro (hHeld.1.grown hg (by simp)) ((k2_k2 hHeld.2).grown hg).keep)
    have KG := hid ((k2_k2 hHeld.2).grown hg)
    have OC := hid hoc.bytes
    clear hHeld hg hoc
    go_wp2_with fail
    refine hK.out _ _ ?_ (fun hHeld => ?_)
    · exact KC.out
    clear hK K
    try dsimp only at hHeld
    try simp only [Act.put, List.setIfInBounds_toArray, List.set_cons_zero, List.set_cons_succ, List.getElem_toArray, List.getElem_cons_succ, List.getElem_cons_zero]
    refine held_stronger (S' := fun w' => (fun w' => BytesAt w' vc (put8 t0 ++ put8 (t1 ^^^ turn))) w' ∧ (fun w' => (fun w' => BytesAt w' vb (put8 t0 ++ put8 t1)) w' ∧ (fun w' => w'.cell? ⟨x, 0, none⟩ = some (.int .u64 (q t0)) ∧ w'.cell? ⟨x, 1, none⟩ = some (.int .u64 (q t1)) ∧ w'.cell? ⟨y, 0, none⟩ = some (.int .u64 (q t0)) ∧ w'.cell? ⟨y, 1, none⟩ = some (.int .u64 (q (t1 ^^^ turn))) ∧ K2 w x y t0 t1 t0 (t1 ^^^ turn) w') w') w') (fun _ h => h.2) _ _ _ _ ?_
    replace hHeld := And.intro OC.out hHeld
    try dsimp only at hHeld
    refine' wpAnyH_take (i := 7) (v := _) rfl (by kernel_rfl) (by kernel_rfl) (by kernel_rfl) (fun _ _ _ h => h) (Or.inl ⟨by rfl, ?_⟩) hHeld ?_
    rotate_left
    · (intro w hSw; (try dsimp only at hSw); have cv := C1.out _ _ hSw.1; go_simp; try with_reducible rfl)
    try simp only [Act.put, List.setIfInBounds_toArray, List.set_cons_zero, List.set_cons_succ, List.getElem_toArray, List.getElem_cons_succ, List.getElem_cons_zero]
    refine' wpAnyH_take (i := 8) (v := _) rfl (by kernel_rfl) (by kernel_rfl) (by kernel_rfl) (fun _ _ _ h => h) (Or.inl ⟨by rfl, ?_⟩) hHeld ?_
    rotate_left
    · (intro w hSw; (try dsimp only at hSw); go_simp; try with_reducible rfl)
    try simp only [Act.put, List.setIfInBounds_toArray, List.set_cons_zero, List.set_cons_succ, List.getElem_toArray, List.getElem_cons_succ, List.getElem_cons_zero]
    refine' wpAnyH_take (i := 11) (v := _) rfl (by kernel_rfl) (by kernel_rfl) (by kernel_rfl) (fun _ _ _ h => h) (Or.inl ⟨by rfl, ?_⟩) hHeld ?_
    rotate_left
    · (intro w hSw; (try dsimp only at hSw); go_simp; try with_reducible rfl)
    try simp only [Act.put, List.setIfInBounds_toArray, List.set_cons_zero, List.set_cons_succ, List.getElem_toArray, List.getElem_cons_succ, List.getElem_cons_zero]
    refine' wpAnyH_take (i := 12) (v := _) rfl (by kernel_rfl) (by kernel_rfl) (by kernel_rfl) (fun _ _ _ h => h) (Or.inl ⟨by rfl, ?_⟩) hHeld ?_
    rotate_left
    · (intro w hSw; (try dsimp only at hSw); go_simp; try with_reducible rfl)
    try simp only [Act.put, List.setIfInBounds_toArray, List.set_cons_zero, List.set_cons_succ, List.getElem_toArray, List.getElem_cons_succ, List.getElem_cons_zero]
    refine' wpAnyH_take (i := 13) (v := _) rfl (by kernel_rfl) (by kernel_rfl) (by kernel_rfl) (fun _ _ _ h => h) (Or.inl ⟨by rfl, ?_⟩) hHeld ?_
    rotate_left
    · (intro w hSw; (try dsimp only at hSw); go_simp; try with_reducible rfl)
    try simp only [Act.put, List.setIfInBounds_toArray, List.set_cons_zero, List.set_cons_succ, List.getElem_toArray, List.getElem_cons_succ, List.getElem_cons_zero]
    refine' wpAnyH_take (i := 14) (v := _) rfl (by kernel_rfl) (by kernel_rfl) (by kernel_rfl) (fun _ _ _ h => h) (Or.inl ⟨by rfl, ?_⟩) hHeld ?_
    rotate_left
    · (intro w hSw; (try dsimp only at hSw); go_simp; try with_reducible rfl)
    try simp only [Act.put, List.setIfInBounds_toArray, List.set_cons_zero, List.set_cons_succ, List.getElem_toArray, List.getElem_cons_succ, List.getElem_cons_zero]
    refine' wpAnyH_take (i := 15) (v := _) rfl (by kernel_rfl) (by kernel_rfl) (by kernel_rfl) (fun _ _ _ h => h) (Or.inl ⟨by rfl, ?_⟩) hHeld ?_
    rotate_left
    · (intro w hSw; (try dsimp only at hSw); go_simp; try with_reducible rfl)
    try simp only [Act.put, List.setIfInBounds_toArray, List.set_cons_zero, List.set_cons_succ, List.getElem_toArray, List.getElem_cons_succ, List.getElem_cons_zero]
    refine' wpAnyH_take (i := 17) (v := _) rfl (by kernel_rfl) (by kernel_rfl) (by kernel_rfl) (fun _ _ _ h => h) (Or.inl ⟨by rfl, ?_⟩) hHeld ?_
    rotate_left
    · (intro w hSw; (try dsimp only at hSw); go_simp; try with_reducible rfl)
    try simp only [Act.put, List.setIfInBounds_toArray, List.set_cons_zero, List.set_cons_succ, List.getElem_toArray, List.getElem_cons_succ, List.getElem_cons_zero]
    refine' wpAnyH_take (i := 18) (v := _) rfl (by kernel_rfl) (by kernel_rfl) (by kernel_rfl) (fun _ _ _ h => h) (Or.inl ⟨by rfl, ?_⟩) hHeld ?_
    rotate_left
    · (intro w hSw; (try dsimp only at hSw); go_simp; try with_reducible rfl)
    try simp only [Act.put, List.setIfInBounds_toArray, List.set_cons_zero, List.set_cons_succ, List.getElem_toArray, List.getElem_cons_succ, List.getElem_cons_zero]
    refine wpAnyH_ready (rs := [16]) (by kernel_rfl) (by simp) ?_
    refine AllReadyH.cons (o := _) rfl (fun K hK => ?_) AllReadyH.nil
    try simp only [List.getElem_toArray, List.getElem_cons_succ, List.getElem_cons_zero]
    go_simp
    refine (SM.out _).mono ?_
    rintro e wd ⟨rfl, hg⟩
    have KD := hid (And.intro (hHeld.1.grown hg (by simp)) (And.intro (hHeld.2.1.grown hg (by simp)) ((k2_k2 hHeld.2.2).grown hg).keep))
    have GD := hid ((k2_k2 hHeld.2.2).grown hg).g
    clear hHeld hg
    go_wp2_with fail
    refine hK.out _ _ ?_ (fun hHeld => ?_)
    · exact KD.out
    clear hK K
    try dsimp only at hHeld
    try simp only [Act.put, List.setIfInBounds_toArray, List.set_cons_zero, List.set_cons_succ, List.getElem_toArray, List.getElem_cons_succ, List.getElem_cons_zero]
    refine' wpAnyH_take (i := 19) (v := _) rfl (by kernel_rfl) (by kernel_rfl) (by kernel_rfl) (fun _ _ _ h => h) (Or.inl ⟨by rfl, ?_⟩) hHeld ?_
    rotate_left
    · (intro w hSw; (try dsimp only at hSw); go_simp; try with_reducible rfl)
    try simp only [Act.put, List.setIfInBounds_toArray, List.set_cons_zero, List.set_cons_succ, List.getElem_toArray, List.getElem_cons_succ, List.getElem_cons_zero]
    refine' wpAnyH_take (i := 20) (v := _) rfl (by kernel_rfl) (by kernel_rfl) (by kernel_rfl) (fun _ _ _ h => h) (Or.inl ⟨by rfl, ?_⟩) hHeld ?_
    rotate_left
    · (intro w hSw; (try dsimp only at hSw); go_simp; try with_reducible rfl)
    try simp only [Act.put, List.setIfInBounds_toArray, List.set_cons_zero, List.set_cons_succ, List.getElem_toArray, List.getElem_cons_succ, List.getElem_cons_zero]
    refine' wpAnyH_take (i := 21) (v := _) rfl (by kernel_rfl) (by kernel_rfl) (by kernel_rfl) (fun _ _ _ h => h) (Or.inl ⟨by rfl, ?_⟩) hHeld ?_
    rotate_left
    · (intro w hSw; (try dsimp only at hSw); go_simp; try with_reducible rfl)
    try simp only [Act.put, List.setIfInBounds_toArray, List.set_cons_zero, List.set_cons_succ, List.getElem_toArray, List.getElem_cons_succ, List.getElem_cons_zero]
    refine wpAnyH_done (by kernel_rfl) ?_ _
    clear hHeld
    go_wp2_with fail
    go_ret
    exact ⟨rfl, GD.out⟩

theorem walk (t0 t1 : BitVec 64) (which : Int) (_ww : (Lit.int .i64 which).wf = true) (turn : BitVec 64) {w : World} :
    Calls Try.prog 3 #[.agg #[.int .u64 (q t0), .int .u64 (q t1)], .int .i64 which, .int .u64 (q turn)] w fun e w' => e = .returned (.bool true) ∧ w.grownBy w' none := by
  have h0 := wrap_u64_nonneg which
  have hm : (IntKind.u64.wrap which).tmod 2 = IntKind.u64.wrap which % 2 := Int.tmod_eq_emod_of_nonneg h0
  have hz : (q turn == 0) = (turn == 0#64) := by rw [show (0 : Int) = q 0#64 by decide +kernel, q_beq]
  have hx : ∀ t : BitVec 64, (t == t ^^^ turn) = (turn == 0#64) := fun t => by
    rw [Bool.eq_iff_iff, beq_iff_eq, beq_iff_eq]
    constructor
    · intro h
      have h2 : t ^^^ t = t ^^^ (t ^^^ turn) := congrArg (t ^^^ ·) h
      rw [BitVec.xor_self, ← BitVec.xor_assoc, BitVec.xor_self, BitVec.zero_xor] at h2
      exact h2.symm
    · rintro rfl; simp
  rcases (show IntKind.u64.wrap which % 2 = 0 ∨ IntKind.u64.wrap which % 2 = 1 by omega) with h | h
  · exact walk_at t0 t1 _ _ turn which 0 (turn == 0#64) (.inl ⟨rfl, rfl, rfl⟩) (by rw [hm, h]) (by simp [hx]) hz w
  · exact walk_at t0 t1 _ _ turn which 1 (turn == 0#64) (.inr ⟨rfl, rfl, rfl⟩) (by rw [hm, h]) (by simp [hx]) hz w
end Go.Proofs.Ytedbdilmebeicaa.bytes
