/-
  The walk of the statement MacWords: a tag's two words are sums under two keys, and its bytes are both words'. The condition: the bytes read as bytes.
-/
import Derived.Test.YtedbdilmebeicaaMTold
import Derived.Test.YtedbdilmebeicaaHeld
set_option linter.unusedSimpArgs false
namespace Go.Proofs.Ytedbdilmebeicaa.words
set_option maxRecDepth 100000
open Go.RowKit

set_option maxHeartbeats 1600000 in
theorem walk_long (k0 k1 : BitVec 64) (p : Option Addr) (n c : Nat) (hn : 100 < n) (w : World) :
    Calls Try.prog 7 #[.agg #[.int .u64 (q k0), .int .u64 (q k1)], .slice p n c] w fun e w' => e = .returned (.bool true) ∧ w.grownBy w' none := by
  have h1 : (100 : Int) < (n : Int) := by omega
  go_enter Try.func7, Try.ntmps7
  go_wp2_with fail
  refine (told_any _).mono ?_
  rintro e w1 ⟨rfl, hg⟩
  have HG := hid hg; clear hg
  go_wp2_with fail
  go_ret
  exact ⟨rfl, gb_trans (gb_alloc (.refl w none) _) HG.out (.inl rfl)⟩

/-- two boxes: the key, the tag -/
structure Kt (w0 : World) (x y : Nat) (k0 k1 a b : BitVec 64) (v : Value) (l : List UInt8) (w : World) : Prop where
  hx : w.heap[x]? = some (.cells #[.int .u64 (q k0), .int .u64 (q k1)] 23)
  hy : w.heap[y]? = some (.cells #[.int .u64 (q a), .int .u64 (q b)] 30)
  ba : BytesAt w v l
  g : w0.grownBy w none
theorem Kt.grown {w0 : World} {x y : Nat} {k0 k1 a b : BitVec 64} {v : Value} {l : List UInt8} {w w1 : World} (h : Kt w0 x y k0 k1 a b v l w) (hg : w.grownBy w1 none) : Kt w0 x y k0 k1 a b v l w1 :=
  ⟨at_grown h.hx hg (by simp), at_grown h.hy hg (by simp), h.ba.grown hg (by simp), gb_trans h.g hg (.inl rfl)⟩
theorem Kt.drew {w0 : World} {x y : Nat} {k0 k1 a b : BitVec 64} {v : Value} {l : List UInt8} {w : World} (h : Kt w0 x y k0 k1 a b v l w) : Kt w0 x y k0 k1 a b v l w.drew := ⟨h.hx, h.hy, h.ba, gb_drew h.g⟩
theorem Kt.keep {w0 : World} {x y : Nat} {k0 k1 a b : BitVec 64} {v : Value} {l : List UInt8} {w : World} (h : Kt w0 x y k0 k1 a b v l w) :
    w.cell? ⟨x, 0, none⟩ = some (.int .u64 (q k0)) ∧ w.cell? ⟨x, 1, none⟩ = some (.int .u64 (q k1)) ∧ w.cell? ⟨y, 0, none⟩ = some (.int .u64 (q a)) ∧ w.cell? ⟨y, 1, none⟩ = some (.int .u64 (q b)) ∧ Kt w0 x y k0 k1 a b v l w := ⟨at_cell h.hx 0, at_cell h.hx 1, at_cell h.hy 0, at_cell h.hy 1, h⟩
section
variable {P1 P2 P3 P4 : Prop} {w0 wc : World} {x y : Nat} {k0 k1 a b : BitVec 64} {v : Value} {l : List UInt8}
theorem kt_kt (h : P1 ∧ P2 ∧ P3 ∧ P4 ∧ Kt w0 x y k0 k1 a b v l wc) : Kt w0 x y k0 k1 a b v l wc := h.2.2.2.2
end

theorem conv_one (a : BitVec 64) (w : World) (v : Value) (h : BytesAt w v (put8 a)) : (convert 26 9 v).run Try.prog w = .ok (.string ⟨(put8 a).toArray⟩) w := conv_bytes h
theorem conv_two (a b : BitVec 64) (w : World) (v : Value) (h : BytesAt w v (put8 a ++ put8 b)) : (convert 26 9 v).run Try.prog w = .ok (.string ((⟨(put8 a).toArray⟩ : ByteArray) ++ ⟨(put8 b).toArray⟩)) w := by
  rw [show (⟨(put8 a).toArray⟩ : ByteArray) ++ ⟨(put8 b).toArray⟩ = ⟨(put8 a ++ put8 b).toArray⟩ by apply ByteArray.ext; simp]; exact conv_bytes h

set_option maxHeartbeats 3200000 in
theorem walk_short (k0 k1 : BitVec 64) (l : List UInt8) (p : Option Addr) (c : Nat) (hn : l.length ≤ 100) (w : World) (hl : BytesAt w (.slice p l.length c) l) :
    Calls Try.prog 7 #[.agg #[.int .u64 (q k0), .int .u64 (q k1)], .slice p l.length c] w fun e w' => e = .returned (.bool true) ∧ w.grownBy w' none := by
  have h1 : (l.length : Int) ≤ 100 := by omega
  have HL := hid hl; clear hl
  obtain ⟨a, ha⟩ : ∃ a, sumOf k0 k1 l = a := ⟨_, rfl⟩
  obtain ⟨b, hb⟩ : ∃ b, sumOf k1 (inv k0) l = b := ⟨_, rfl⟩
  have ht : ∀ w, BytesAt w (.slice p l.length c) l → Calls Try.prog 12 #[.agg #[.int .u64 (q k0), .int .u64 (q k1)], .slice p l.length c] w fun e w' => e = .returned (.agg #[.int .u64 (q a), .int .u64 (q b)]) ∧ w.grownBy w' none := fun w h => by
    rw [← ha, ← hb]; exact tag_any k0 k1 _ l w h
  have hs0 : ∀ w, BytesAt w (.slice p l.length c) l → Calls Try.prog 23 #[.agg #[.int .u64 (q k0), .int .u64 (q k1)], .slice p l.length c] w fun e w' => e = .returned (.int .u64 (q a)) ∧ w.grownBy w' none := fun w h => by
    rw [← ha]; exact sum_any k0 k1 l _ w h
  have hs1 : ∀ w, BytesAt w (.slice p l.length c) l → Calls Try.prog 23 #[.agg #[.int .u64 (q k1), .int .u64 (bits .xor .u64 IntKind.u64.max (q k0))], .slice p l.length c] w fun e w' => e = .returned (.int .u64 (q b)) ∧ w.grownBy w' none := fun w h => by
    rw [q_inv, ← hb]; exact sum_any k1 (inv k0) l _ w h
  have hcv := fun w v => conv_two a b w v
  have hca := fun w v => conv_one a w v
  have hcb := fun w v => conv_one b w v
  have z0 : (⟨(put8 a).toArray⟩ : ByteArray).size = 8 := rfl
  have z1 : (⟨(put8 b).toArray⟩ : ByteArray).size = 8 := rfl
  generalize (⟨(put8 a).toArray⟩ : ByteArray) = s0 at hcv hca z0
  generalize (⟨(put8 b).toArray⟩ : ByteArray) = s1 at hcv hcb z1
  have CV := hid hcv; have CA := hid hca; have CB := hid hcb; clear hcv hca hcb
  have HT := hid ht; have S0 := hid hs0; have S1 := hid hs1; clear ht hs0 hs1 ha hb
  generalize hN : l.length = n at *
  have HN := hid hN; clear hN
  have hsg : IntKind.u64.signed = false := rfl
  go_enter Try.func7, Try.ntmps7
  go_wp2_with fail
  refine (HT.out _ (HL.out.grown (gb_alloc (.refl w none) _) (by simp))).mono ?_
  rintro e w1 ⟨rfl, hg⟩
  have X1 := hid (at_grown (at_new w (.cells #[.int .u64 (q k0), .int .u64 (q k1)] 23)) hg (by simp))
  have G1 := hid (gb_trans (gb_alloc (.refl w none) _) hg (.inl rfl)); clear hg
  go_wp2_with fail
  have h5 : Kt w w.heap.size w1.heap.size k0 k1 a b (.slice p n c) l (w1.alloc (.cells #[.int .u64 (q a), .int .u64 (q b)] 30)) := ⟨at_alloc X1.out _, at_new w1 _, HL.out.grown (gb_alloc G1.out _) (by simp), gb_alloc G1.out _⟩
  refine wp_gen (Kt w w.heap.size w1.heap.size k0 k1 a b (.slice p n c) l) h5 ?_
  clear h5 X1 G1
  generalize w1.heap.size = y
  obtain ⟨x, hx⟩ : ∃ x, w.heap.size = x := ⟨_, rfl⟩
  rw [hx]
  clear hx
  intro w5 h5
  have T5 := hid h5
  clear h5
  refine wp_region_held_drew (S := (fun w' => w'.cell? ⟨x, 0, none⟩ = some (.int .u64 (q k0)) ∧ w'.cell? ⟨x, 1, none⟩ = some (.int .u64 (q k1)) ∧ w'.cell? ⟨y, 0, none⟩ = some (.int .u64 (q a)) ∧ w'.cell? ⟨y, 1, none⟩ = some (.int .u64 (q b)) ∧ Kt w x y k0 k1 a b (.slice p n c) l w')) (by kernel_rfl) T5.out.drew.keep (fun hHeld => ?_)
  try dsimp only at hHeld
  refine wpAnyH_ready (rs := [0]) (by kernel_rfl) (by simp) ?_
  refine AllReadyH.cons (o := _) rfl (fun K hK => ?_) AllReadyH.nil
  try simp only [List.getElem_toArray, List.getElem_cons_succ, List.getElem_cons_zero]
  go_simp
  refine (told_any _).mono ?_
  rintro e w0 ⟨rfl, hg⟩
  have K0 := hid ((kt_kt hHeld).grown hg)
  clear hHeld hg
  go_wp2_with fail
  refine hK.out _ _ ?_ (fun hHeld => ?_)
  · exact K0.out.keep
  clear hK K
  try dsimp only at hHeld
  try simp only [Act.put, List.setIfInBounds_toArray, List.set_cons_zero, List.set_cons_succ, List.getElem_toArray, List.getElem_cons_succ, List.getElem_cons_zero]
  refine' wpAnyH_take (i := 1) (v := _) rfl (by kernel_rfl) (by kernel_rfl) (by kernel_rfl) (fun _ _ _ h => h) (Or.inl ⟨by rfl, ?_⟩) hHeld ?_
  rotate_left
  · (intro w hSw; (try dsimp only at hSw); go_simp; try with_reducible rfl)
  try simp only [Act.put, List.setIfInBounds_toArray, List.set_cons_zero, List.set_cons_succ, List.getElem_toArray, List.getElem_cons_succ, List.getElem_cons_zero]
  refine' wpAnyH_take (i := 2) (v := _) rfl (by kernel_rfl) (by kernel_rfl) (by kernel_rfl) (fun _ _ _ h => h) (Or.inl ⟨by rfl, ?_⟩) hHeld ?_
  rotate_left
  · (intro w hSw; (try dsimp only at hSw); go_simp; try with_reducible rfl)
  try simp only [Act.put, List.setIfInBounds_toArray, List.set_cons_zero, List.set_cons_succ, List.getElem_toArray, List.getElem_cons_succ, List.getElem_cons_zero]
  refine' wpAnyH_take (i := 3) (v := _) rfl (by kernel_rfl) (by kernel_rfl) (by kernel_rfl) (fun _ _ _ h => h) (Or.inl ⟨by rfl, ?_⟩) hHeld ?_
  rotate_left
  · (intro w hSw; (try dsimp only at hSw); go_simp; try with_reducible rfl)
  try simp only [Act.put, List.setIfInBounds_toArray, List.set_cons_zero, List.set_cons_succ, List.getElem_toArray, List.getElem_cons_succ, List.getElem_cons_zero]
  refine' wpAnyH_take (i := 4) (v := _) rfl (by kernel_rfl) (by kernel_rfl) (by kernel_rfl) (fun _ _ _ h => h) (Or.inl ⟨by rfl, ?_⟩) hHeld ?_
  rotate_left
  · (intro w hSw; (try dsimp only at hSw); go_simp; try with_reducible rfl)
  try simp only [Act.put, List.setIfInBounds_toArray, List.set_cons_zero, List.set_cons_succ, List.getElem_toArray, List.getElem_cons_succ, List.getElem_cons_zero]
  refine' wpAnyH_take (i := 5) (v := _) rfl (by kernel_rfl) (by kernel_rfl) (by kernel_rfl) (fun _ _ _ h => h) (Or.inl ⟨by rfl, ?_⟩) hHeld ?_
  rotate_left
  · (intro w hSw; (try dsimp only at hSw); go_simp; try with_reducible rfl)
  try simp only [Act.put, List.setIfInBounds_toArray, List.set_cons_zero, List.set_cons_succ, List.getElem_toArray, List.getElem_cons_succ, List.getElem_cons_zero]
  refine wpAnyH_ready (rs := [6]) (by kernel_rfl) (by simp) ?_
  refine AllReadyH.cons (o := _) rfl (fun K hK => ?_) AllReadyH.nil
  try simp only [List.getElem_toArray, List.getElem_cons_succ, List.getElem_cons_zero]
  go_simp
  refine (S0.out _ (kt_kt hHeld).ba).mono ?_
  rintro e w6 ⟨rfl, hg⟩
  have K6 := hid ((kt_kt hHeld).grown hg)
  clear hHeld hg
  go_wp2_with fail
  refine hK.out _ _ ?_ (fun hHeld => ?_)
  · exact K6.out.keep
  clear hK K
  try dsimp only at hHeld
  try simp only [Act.put, List.setIfInBounds_toArray, List.set_cons_zero, List.set_cons_succ, List.getElem_toArray, List.getElem_cons_succ, List.getElem_cons_zero]
  refine' wpAnyH_take (i := 7) (v := _) rfl (by kernel_rfl) (by kernel_rfl) (by kernel_rfl) (fun _ _ _ h => h) (Or.inl ⟨by rfl, ?_⟩) hHeld ?_
  rotate_left
  · (intro w hSw; (try dsimp only at hSw); go_simp; try with_reducible rfl)
  try simp only [Act.put, List.setIfInBounds_toArray, List.set_cons_zero, List.set_cons_succ, List.getElem_toArray, List.getElem_cons_succ, List.getElem_cons_zero]
  refine' wpAnyH_take (i := 8) (v := _) rfl (by kernel_rfl) (by kernel_rfl) (by kernel_rfl) (fun _ _ _ h => h) (Or.inl ⟨by rfl, ?_⟩) hHeld ?_
  rotate_left
  · (intro w hSw; (try dsimp only at hSw); go_simp; try with_reducible rfl)
  try simp only [Act.put, List.setIfInBounds_toArray, List.set_cons_zero, List.set_cons_succ, List.getElem_toArray, List.getElem_cons_succ, List.getElem_cons_zero]
  refine' wpAnyH_take (i := 9) (v := _) rfl (by kernel_rfl) (by kernel_rfl) (by kernel_rfl) (fun _ _ _ h => h) (Or.inl ⟨by rfl, ?_⟩) hHeld ?_
  rotate_left
  · (intro w hSw; (try dsimp only at hSw); go_simp; try with_reducible rfl)
  try simp only [Act.put, List.setIfInBounds_toArray, List.set_cons_zero, List.set_cons_succ, List.getElem_toArray, List.getElem_cons_succ, List.getElem_cons_zero]
  refine' wpAnyH_take (i := 10) (v := _) rfl (by kernel_rfl) (by kernel_rfl) (by kernel_rfl) (fun _ _ _ h => h) (Or.inl ⟨by rfl, ?_⟩) hHeld ?_
  rotate_left
  · (intro w hSw; (try dsimp only at hSw); go_simp; try with_reducible rfl)
  try simp only [Act.put, List.setIfInBounds_toArray, List.set_cons_zero, List.set_cons_succ, List.getElem_toArray, List.getElem_cons_succ, List.getElem_cons_zero]
  refine' wpAnyH_take (i := 11) (v := _) rfl (by kernel_rfl) (by kernel_rfl) (by kernel_rfl) (fun _ _ _ h => h) (Or.inl ⟨by rfl, ?_⟩) hHeld ?_
  rotate_left
  · (intro w hSw; (try dsimp only at hSw); go_simp; try with_reducible rfl)
  try simp only [Act.put, List.setIfInBounds_toArray, List.set_cons_zero, List.set_cons_succ, List.getElem_toArray, List.getElem_cons_succ, List.getElem_cons_zero]
  refine' wpAnyH_take (i := 12) (v := _) rfl (by kernel_rfl) (by kernel_rfl) (by kernel_rfl) (fun _ _ _ h => h) (Or.inl ⟨by rfl, ?_⟩) hHeld ?_
  rotate_left
  · (intro w hSw; (try dsimp only at hSw); go_simp; try with_reducible rfl)
  try simp only [Act.put, List.setIfInBounds_toArray, List.set_cons_zero, List.set_cons_succ, List.getElem_toArray, List.getElem_cons_succ, List.getElem_cons_zero]
  refine' wpAnyH_take (i := 13) (v := _) rfl (by kernel_rfl) (by kernel_rfl) (by kernel_rfl) (fun _ _ _ h => h) (Or.inl ⟨by rfl, ?_⟩) hHeld ?_
  rotate_left
  · (intro w hSw; (try dsimp only at hSw); go_simp; try with_reducible rfl)
  try simp only [Act.put, List.setIfInBounds_toArray, List.set_cons_zero, List.set_cons_succ, List.getElem_toArray, List.getElem_cons_succ, List.getElem_cons_zero]
  refine' wpAnyH_take (i := 14) (v := _) rfl (by kernel_rfl) (by kernel_rfl) (by kernel_rfl) (fun _ _ _ h => h) (Or.inl ⟨by rfl, ?_⟩) hHeld ?_
  rotate_left
  · (intro w hSw; (try dsimp only at hSw); go_simp; try with_reducible rfl)
  try simp only [Act.put, List.setIfInBounds_toArray, List.set_cons_zero, List.set_cons_succ, List.getElem_toArray, List.getElem_cons_succ, List.getElem_cons_zero]
  refine' wpAnyH_take (i := 15) (v := _) rfl (by kernel_rfl) (by kernel_rfl) (by kernel_rfl) (fun _ _ _ h => h) (Or.inl ⟨by rfl, ?_⟩) hHeld ?_
  rotate_left
  · (intro w hSw; (try dsimp only at hSw); go_simp; try with_reducible rfl)
  try simp only [Act.put, List.setIfInBounds_toArray, List.set_cons_zero, List.set_cons_succ, List.getElem_toArray, List.getElem_cons_succ, List.getElem_cons_zero]
  refine' wpAnyH_take (i := 16) (v := _) rfl (by kernel_rfl) (by kernel_rfl) (by kernel_rfl) (fun _ _ _ h => h) (Or.inl ⟨by rfl, ?_⟩) hHeld ?_
  rotate_left
  · (intro w hSw; (try dsimp only at hSw); go_simp; try with_reducible rfl)
  try simp only [Act.put, List.setIfInBounds_toArray, List.set_cons_zero, List.set_cons_succ, List.getElem_toArray, List.getElem_cons_succ, List.getElem_cons_zero]
  refine' wpAnyH_take (i := 17) (v := _) rfl (by kernel_rfl) (by kernel_rfl) (by kernel_rfl) (fun _ _ _ h => h) (Or.inl ⟨by rfl, ?_⟩) hHeld ?_
  rotate_left
  · (intro w hSw; (try dsimp only at hSw); go_simp; try with_reducible rfl)
  try simp only [Act.put, List.setIfInBounds_toArray, List.set_cons_zero, List.set_cons_succ, List.getElem_toArray, List.getElem_cons_succ, List.getElem_cons_zero]
  refine' wpAnyH_take (i := 18) (v := _) rfl (by kernel_rfl) (by kernel_rfl) (by kernel_rfl) (fun _ _ _ h => h) (Or.inl ⟨by rfl, ?_⟩) hHeld ?_
  rotate_left
  · (intro w hSw; (try dsimp only at hSw); go_simp; try with_reducible rfl)
  try simp only [Act.put, List.setIfInBounds_toArray, List.set_cons_zero, List.set_cons_succ, List.getElem_toArray, List.getElem_cons_succ, List.getElem_cons_zero]
  refine wpAnyH_ready (rs := [19]) (by kernel_rfl) (by simp) ?_
  refine AllReadyH.cons (o := _) rfl (fun K hK => ?_) AllReadyH.nil
  try simp only [List.getElem_toArray, List.getElem_cons_succ, List.getElem_cons_zero]
  go_simp
  refine (S1.out _ (kt_kt hHeld).ba).mono ?_
  rintro e w19 ⟨rfl, hg⟩
  have K19 := hid ((kt_kt hHeld).grown hg)
  clear hHeld hg
  go_wp2_with fail
  refine hK.out _ _ ?_ (fun hHeld => ?_)
  · exact K19.out.keep
  clear hK K
  try dsimp only at hHeld
  try simp only [Act.put, List.setIfInBounds_toArray, List.set_cons_zero, List.set_cons_succ, List.getElem_toArray, List.getElem_cons_succ, List.getElem_cons_zero]
  refine' wpAnyH_take (i := 20) (v := _) rfl (by kernel_rfl) (by kernel_rfl) (by kernel_rfl) (fun _ _ _ h => h) (Or.inl ⟨by rfl, ?_⟩) hHeld ?_
  rotate_left
  · (intro w hSw; (try dsimp only at hSw); go_simp; try with_reducible rfl)
  try simp only [Act.put, List.setIfInBounds_toArray, List.set_cons_zero, List.set_cons_succ, List.getElem_toArray, List.getElem_cons_succ, List.getElem_cons_zero]
  refine' wpAnyH_take (i := 21) (v := _) rfl (by kernel_rfl) (by kernel_rfl) (by kernel_rfl) (fun _ _ _ h => h) (Or.inl ⟨by rfl, ?_⟩) hHeld ?_
  rotate_left
  · (intro w hSw; (try dsimp only at hSw); go_simp; try with_reducible rfl)
  try simp only [Act.put, List.setIfInBounds_toArray, List.set_cons_zero, List.set_cons_succ, List.getElem_toArray, List.getElem_cons_succ, List.getElem_cons_zero]
  refine' wpAnyH_take (i := 22) (v := _) rfl (by kernel_rfl) (by kernel_rfl) (by kernel_rfl) (fun _ _ _ h => h) (Or.inl ⟨by rfl, ?_⟩) hHeld ?_
  rotate_left
  · (intro w hSw; (try dsimp only at hSw); go_simp; try with_reducible rfl)
  try simp only [Act.put, List.setIfInBounds_toArray, List.set_cons_zero, List.set_cons_succ, List.getElem_toArray, List.getElem_cons_succ, List.getElem_cons_zero]
  refine' wpAnyH_take (i := 23) (v := _) rfl (by kernel_rfl) (by kernel_rfl) (by kernel_rfl) (fun _ _ _ h => h) (Or.inl ⟨by rfl, ?_⟩) hHeld ?_
  rotate_left
  · (intro w hSw; (try dsimp only at hSw); go_simp; try with_reducible rfl)
  try simp only [Act.put, List.setIfInBounds_toArray, List.set_cons_zero, List.set_cons_succ, List.getElem_toArray, List.getElem_cons_succ, List.getElem_cons_zero]
  refine' wpAnyH_take (i := 26) (v := _) rfl (by kernel_rfl) (by kernel_rfl) (by kernel_rfl) (fun _ _ _ h => h) (Or.inl ⟨by rfl, ?_⟩) hHeld ?_
  rotate_left
  · (intro w hSw; (try dsimp only at hSw); go_simp; try with_reducible rfl)
  try simp only [Act.put, List.setIfInBounds_toArray, List.set_cons_zero, List.set_cons_succ, List.getElem_toArray, List.getElem_cons_succ, List.getElem_cons_zero]
  refine' wpAnyH_take (i := 27) (v := _) rfl (by kernel_rfl) (by kernel_rfl) (by kernel_rfl) (fun _ _ _ h => h) (Or.inl ⟨by rfl, ?_⟩) hHeld ?_
  rotate_left
  · (intro w hSw; (try dsimp only at hSw); go_simp; try with_reducible rfl)
  try simp only [Act.put, List.setIfInBounds_toArray, List.set_cons_zero, List.set_cons_succ, List.getElem_toArray, List.getElem_cons_succ, List.getElem_cons_zero]
  refine' wpAnyH_take (i := 30) (v := _) rfl (by kernel_rfl) (by kernel_rfl) (by kernel_rfl) (fun _ _ _ h => h) (Or.inl ⟨by rfl, ?_⟩) hHeld ?_
  rotate_left
  · (intro w hSw; (try dsimp only at hSw); go_simp; try with_reducible rfl)
  try simp only [Act.put, List.setIfInBounds_toArray, List.set_cons_zero, List.set_cons_succ, List.getElem_toArray, List.getElem_cons_succ, List.getElem_cons_zero]
  refine' wpAnyH_take (i := 31) (v := _) rfl (by kernel_rfl) (by kernel_rfl) (by kernel_rfl) (fun _ _ _ h => h) (Or.inl ⟨by rfl, ?_⟩) hHeld ?_
  rotate_left
  · (intro w hSw; (try dsimp only at hSw); go_simp; try with_reducible rfl)
  try simp only [Act.put, List.setIfInBounds_toArray, List.set_cons_zero, List.set_cons_succ, List.getElem_toArray, List.getElem_cons_succ, List.getElem_cons_zero]
  refine wpAnyH_ready (rs := [24]) (by kernel_rfl) (by simp) ?_
  refine AllReadyH.cons (o := _) rfl (fun K hK => ?_) AllReadyH.nil
  try simp only [List.getElem_toArray, List.getElem_cons_succ, List.getElem_cons_zero]
  go_simp
  refine (bytes_any a b _).mono ?_
  rintro e wb ⟨vb, rfl, hob, hg⟩
  have KB := hid ((kt_kt hHeld).grown hg)
  have OB := hid hob.bytes
  clear hHeld hg hob
  go_wp2_with fail
  refine hK.out _ _ ?_ (fun hHeld => ?_)
  · exact KB.out.keep
  clear hK K
  try dsimp only at hHeld
  try simp only [Act.put, List.setIfInBounds_toArray, List.set_cons_zero, List.set_cons_succ, List.getElem_toArray, List.getElem_cons_succ, List.getElem_cons_zero]
  refine held_stronger (S' := fun w' => (fun w' => BytesAt w' vb (put8 a ++ put8 b)) w' ∧ (fun w' => w'.cell? ⟨x, 0, none⟩ = some (.int .u64 (q k0)) ∧ w'.cell? ⟨x, 1, none⟩ = some (.int .u64 (q k1)) ∧ w'.cell? ⟨y, 0, none⟩ = some (.int .u64 (q a)) ∧ w'.cell? ⟨y, 1, none⟩ = some (.int .u64 (q b)) ∧ Kt w x y k0 k1 a b (.slice p n c) l w') w') (fun _ h => h.2) _ _ _ _ ?_
  replace hHeld := And.intro OB.out hHeld
  try dsimp only at hHeld
  refine' wpAnyH_take (i := 25) (v := _) rfl (by kernel_rfl) (by kernel_rfl) (by kernel_rfl) (fun _ _ _ h => h) (Or.inl ⟨by rfl, ?_⟩) hHeld ?_
  rotate_left
  · (intro w hSw; (try dsimp only at hSw); have cv := CV.out _ _ hSw.1; go_simp; try with_reducible rfl)
  try simp only [Act.put, List.setIfInBounds_toArray, List.set_cons_zero, List.set_cons_succ, List.getElem_toArray, List.getElem_cons_succ, List.getElem_cons_zero]
  refine wpAnyH_ready (rs := [28]) (by kernel_rfl) (by simp) ?_
  refine AllReadyH.cons (o := _) rfl (fun K hK => ?_) AllReadyH.nil
  try simp only [List.getElem_toArray, List.getElem_cons_succ, List.getElem_cons_zero]
  go_simp
  refine (put_any a _).mono ?_
  rintro e wp ⟨rfl, hop, hg⟩
  have KP := hid (And.intro (hHeld.1.grown hg (by simp)) ((kt_kt hHeld.2).grown hg).keep)
  have OP := hid (own_put a hop (Nat.le_refl _)).bytes
  clear hHeld hg hop
  go_wp2_with fail
  refine hK.out _ _ ?_ (fun hHeld => ?_)
  · exact KP.out
  clear hK K
  try dsimp only at hHeld
  try simp only [Act.put, List.setIfInBounds_toArray, List.set_cons_zero, List.set_cons_succ, List.getElem_toArray, List.getElem_cons_succ, List.getElem_cons_zero]
  refine held_stronger (S' := fun w' => (fun w' => BytesAt w' (.slice (some ⟨wb.heap.size, 0, none⟩) 8 8) (put8 a)) w' ∧ (fun w' => (fun w' => BytesAt w' vb (put8 a ++ put8 b)) w' ∧ (fun w' => w'.cell? ⟨x, 0, none⟩ = some (.int .u64 (q k0)) ∧ w'.cell? ⟨x, 1, none⟩ = some (.int .u64 (q k1)) ∧ w'.cell? ⟨y, 0, none⟩ = some (.int .u64 (q a)) ∧ w'.cell? ⟨y, 1, none⟩ = some (.int .u64 (q b)) ∧ Kt w x y k0 k1 a b (.slice p n c) l w') w') w') (fun _ h => h.2) _ _ _ _ ?_
  replace hHeld := And.intro OP.out hHeld
  try dsimp only at hHeld
  refine' wpAnyH_take (i := 29) (v := _) rfl (by kernel_rfl) (by kernel_rfl) (by kernel_rfl) (fun _ _ _ h => h) (Or.inl ⟨by rfl, ?_⟩) hHeld ?_
  rotate_left
  · (intro w hSw; (try dsimp only at hSw); have cv := CA.out _ _ hSw.1; go_simp; try with_reducible rfl)
  try simp only [Act.put, List.setIfInBounds_toArray, List.set_cons_zero, List.set_cons_succ, List.getElem_toArray, List.getElem_cons_succ, List.getElem_cons_zero]
  refine wpAnyH_ready (rs := [32]) (by kernel_rfl) (by simp) ?_
  refine AllReadyH.cons (o := _) rfl (fun K hK => ?_) AllReadyH.nil
  try simp only [List.getElem_toArray, List.getElem_cons_succ, List.getElem_cons_zero]
  go_simp
  refine (put_any b _).mono ?_
  rintro e wq ⟨rfl, hoq, hg⟩
  have KQ := hid (And.intro (hHeld.1.grown hg (by simp)) (And.intro (hHeld.2.1.grown hg (by simp)) ((kt_kt hHeld.2.2).grown hg).keep))
  have GQ := hid ((kt_kt hHeld.2.2).grown hg).g
  have OQ := hid (own_put b hoq (Nat.le_refl _)).bytes
  clear hHeld hg hoq
  go_wp2_with fail
  refine hK.out _ _ ?_ (fun hHeld => ?_)
  · exact KQ.out
  clear hK K
  try dsimp only at hHeld
  try simp only [Act.put, List.setIfInBounds_toArray, List.set_cons_zero, List.set_cons_succ, List.getElem_toArray, List.getElem_cons_succ, List.getElem_cons_zero]
  refine held_stronger (S' := fun w' => (fun w' => BytesAt w' (.slice (some ⟨wp.heap.size, 0, none⟩) 8 8) (put8 b)) w' ∧ (fun w' => (fun w' => BytesAt w' (.slice (some ⟨wb.heap.size, 0, none⟩) 8 8) (put8 a)) w' ∧ (fun w' => (fun w' => BytesAt w' vb (put8 a ++ put8 b)) w' ∧ (fun w' => w'.cell? ⟨x, 0, none⟩ = some (.int .u64 (q k0)) ∧ w'.cell? ⟨x, 1, none⟩ = some (.int .u64 (q k1)) ∧ w'.cell? ⟨y, 0, none⟩ = some (.int .u64 (q a)) ∧ w'.cell? ⟨y, 1, none⟩ = some (.int .u64 (q b)) ∧ Kt w x y k0 k1 a b (.slice p n c) l w') w') w') w') (fun _ h => h.2) _ _ _ _ ?_
  replace hHeld := And.intro OQ.out hHeld
  try dsimp only at hHeld
  refine' wpAnyH_take (i := 33) (v := _) rfl (by kernel_rfl) (by kernel_rfl) (by kernel_rfl) (fun _ _ _ h => h) (Or.inl ⟨by rfl, ?_⟩) hHeld ?_
  rotate_left
  · (intro w hSw; (try dsimp only at hSw); have cv := CB.out _ _ hSw.1; go_simp; try with_reducible rfl)
  try simp only [Act.put, List.setIfInBounds_toArray, List.set_cons_zero, List.set_cons_succ, List.getElem_toArray, List.getElem_cons_succ, List.getElem_cons_zero]
  refine' wpAnyH_take (i := 34) (v := _) rfl (by kernel_rfl) (by kernel_rfl) (by kernel_rfl) (fun _ _ _ h => h) (Or.inl ⟨by rfl, ?_⟩) hHeld ?_
  rotate_left
  · (intro w hSw; (try dsimp only at hSw); go_simp; try with_reducible rfl)
  try simp only [Act.put, List.setIfInBounds_toArray, List.set_cons_zero, List.set_cons_succ, List.getElem_toArray, List.getElem_cons_succ, List.getElem_cons_zero]
  refine' wpAnyH_take (i := 35) (v := _) rfl (by kernel_rfl) (by kernel_rfl) (by kernel_rfl) (fun _ _ _ h => h) (Or.inl ⟨by rfl, ?_⟩) hHeld ?_
  rotate_left
  · (intro w hSw; (try dsimp only at hSw); go_simp; try with_reducible rfl)
  try simp only [Act.put, List.setIfInBounds_toArray, List.set_cons_zero, List.set_cons_succ, List.getElem_toArray, List.getElem_cons_succ, List.getElem_cons_zero]
  refine' wpAnyH_take (i := 36) (v := _) rfl (by kernel_rfl) (by kernel_rfl) (by kernel_rfl) (fun _ _ _ h => h) (Or.inl ⟨by rfl, ?_⟩) hHeld ?_
  rotate_left
  · (intro w hSw; (try dsimp only at hSw); go_simp; try with_reducible rfl)
  try simp only [Act.put, List.setIfInBounds_toArray, List.set_cons_zero, List.set_cons_succ, List.getElem_toArray, List.getElem_cons_succ, List.getElem_cons_zero]
  refine' wpAnyH_take (i := 37) (v := _) rfl (by kernel_rfl) (by kernel_rfl) (by kernel_rfl) (fun _ _ _ h => h) (Or.inl ⟨by rfl, ?_⟩) hHeld ?_
  rotate_left
  · (intro w hSw; (try dsimp only at hSw); go_simp; try with_reducible rfl)
  try simp only [Act.put, List.setIfInBounds_toArray, List.set_cons_zero, List.set_cons_succ, List.getElem_toArray, List.getElem_cons_succ, List.getElem_cons_zero]
  refine wpAnyH_done (by kernel_rfl) ?_ _
  clear hHeld
  go_wp2_with fail
  go_ret
  exact ⟨rfl, GQ.out⟩

theorem walk (k0 k1 : BitVec 64) (l : List UInt8) {p : Option Addr} {c : Nat} {w : World} (hl : BytesAt w (.slice p l.length c) l) :
    Calls Try.prog 7 #[.agg #[.int .u64 (q k0), .int .u64 (q k1)], .slice p l.length c] w fun e w' => e = .returned (.bool true) ∧ w.grownBy w' none := by
  by_cases h1 : 100 < l.length
  · exact walk_long k0 k1 p _ c h1 w
  · exact walk_short k0 k1 l p c (by omega) w hl
end Go.Proofs.Ytedbdilmebeicaa.words
