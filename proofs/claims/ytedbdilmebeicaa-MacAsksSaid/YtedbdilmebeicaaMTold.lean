/-
  The law's own test of package mac, 'told', returns true. No condition.
-/
import Derived.Test.YtedbdilmebeicaaMacO
import Derived.Test.YtedbdilmebeicaaNums
import Derived.Test.YtedbdilmebeicaaSumEq
import Derived.Lib.SlBytesConst
import Derived.Test.YtedbdilmebeicaaPairEq
set_option linter.unusedSimpArgs false
namespace Go.Proofs.Ytedbdilmebeicaa
set_option maxRecDepth 100000
open Go.RowKit

theorem put16_length (a b : BitVec 64) : (put8 a ++ put8 b).length = 16 := rfl
theorem word_first (a b : BitVec 64) : wordAt (put8 a ++ put8 b) 0 8 = a :=
  wordAt_put _ 0 a fun i hi => by rw [Nat.zero_add, byteAt_left _ _ i (by rw [put8_length]; exact hi)]; exact put8_byte a i hi
theorem word_second (a b : BitVec 64) : wordAt (put8 a ++ put8 b) 8 8 = b := by
  have h := wordAt_all (put8 a) [b] 0 (by simp)
  simpa [putAll, put8_length] using h

/-- a slice of sixteen bytes of the call's own -/
theorem own16 {base : Nat} {w : World} {v : Value} {a b : BitVec 64} (h : OwnB base w v (put8 a ++ put8 b)) : ∃ g c, v = .slice (some ⟨g, 0, none⟩) 16 c ∧ 16 ≤ c := by
  obtain ⟨_, h | ⟨g, cap, cur, rfl, hb, hh, h1, _⟩⟩ := h
  · exact absurd h.2 (by rw [put16_length]; decide)
  · exact ⟨g, cap, rfl, h1⟩

theorem same_one (a b : BitVec 64) (w : World) :
    Calls Try.prog 11 #[.agg #[.int .u64 (q a), .int .u64 (q b)], .agg #[.int .u64 (q a), .int .u64 (q b)]] w fun e w' => e = .returned (.bool true) ∧ w.grownBy w' none := by
  have h := same_any a b a b w
  simpa using h
theorem xor_one_ne (b : BitVec 64) : ¬ b = b ^^^ BitVec.ofInt 64 1 := by
  intro h
  have h2 : b ^^^ b = b ^^^ (b ^^^ BitVec.ofInt 64 1) := congrArg (b ^^^ ·) h
  rw [BitVec.xor_self, ← BitVec.xor_assoc, BitVec.xor_self, BitVec.zero_xor] at h2
  exact absurd h2 (by decide)
theorem same_not (a b : BitVec 64) (w : World) :
    Calls Try.prog 11 #[.agg #[.int .u64 (q a), .int .u64 (q b)], .agg #[.int .u64 (q a), .int .u64 (q (b ^^^ BitVec.ofInt 64 1))]] w fun e w' => e = .returned (.bool false) ∧ w.grownBy w' none := by
  have h := same_any a b a (b ^^^ BitVec.ofInt 64 1) w
  rwa [beq_eq_false_iff_ne.2 (xor_one_ne b), Bool.and_false] at h
theorem same_not' (a b : BitVec 64) (w : World) :
    Calls Try.prog 11 #[.agg #[.int .u64 (q a), .int .u64 (q b)], .agg #[.int .u64 (q a), .int .u64 (bits .xor .u64 (q b) 1)]] w fun e w' => e = .returned (.bool false) ∧ w.grownBy w' none := by
  rw [q_xor_num]; exact same_not a b w
theorem tag_told (v : Value) (a b : BitVec 64) (ha : sumOf 1#64 2#64 [97] = a) (hb : sumOf 2#64 (inv 1#64) [97] = b) (w : World) (hl : BytesAt w v [97]) :
    Calls Try.prog 12 #[.agg #[.int .u64 1, .int .u64 2], v] w fun e w' => e = .returned (.agg #[.int .u64 (q a), .int .u64 (q b)]) ∧ w.grownBy w' none := by
  subst ha; subst hb; exact tag_any 1#64 2#64 v [97] w hl
theorem sum_told (v : Value) (a : BitVec 64) (ha : sumOf 1#64 2#64 [97] = a) (w : World) (hl : BytesAt w v [97]) :
    Calls Try.prog 23 #[.agg #[.int .u64 1, .int .u64 2], v] w fun e w' => e = .returned (.int .u64 (q a)) ∧ w.grownBy w' none := by
  subst ha; exact sum_any 1#64 2#64 [97] v w hl
theorem bytes_97 {w : World} {b : Nat} {f : Nat × Nat} (h : w.heap[b]? = some (.cells #[.int .u8 97] 5 f)) : BytesAt w (.slice (some ⟨b, 0, none⟩) 1 1) [97] := bytes_of_cells [97] h (by unfold maxLen; simp)

theorem conv_const (w : World) : (convert 26 26 (.slice (some ⟨w.heap.size, 0, none⟩) 1 1)).run Try.prog (w.alloc (.cells #[.int .u8 97] 5)) = .ok (.slice (some ⟨w.heap.size, 0, none⟩) 1 1) (w.alloc (.cells #[.int .u8 97] 5 (1, 2))) :=
  Lib.run_convert_bytes_const w 26 5 #[.int .u8 97] 1 1 Try.underlying26 Try.underlying5

/-- what stands behind the making of the two tags -/
structure Tu (w0 : World) (x y : Nat) (a b : BitVec 64) (w : World) : Prop where
  hx : w.heap[x]? = some (.cells #[.int .u64 (q a), .int .u64 (q b)] 30)
  hy : w.heap[y]? = some (.cells #[.int .u64 (q a), .int .u64 (q b)] 30)
  g : w0.grownBy w none
theorem Tu.grown {w0 : World} {x y : Nat} {a b : BitVec 64} {w w1 : World} (h : Tu w0 x y a b w) (hg : w.grownBy w1 none) : Tu w0 x y a b w1 := ⟨at_grown h.hx hg (by simp), at_grown h.hy hg (by simp), gb_trans h.g hg (.inl rfl)⟩
theorem Tu.drew {w0 : World} {x y : Nat} {a b : BitVec 64} {w : World} (h : Tu w0 x y a b w) : Tu w0 x y a b w.drew := ⟨h.hx, h.hy, gb_drew h.g⟩
theorem Tu.alloc {w0 : World} {x y : Nat} {a b : BitVec 64} {w : World} (h : Tu w0 x y a b w) (o : Obj) : Tu w0 x y a b (w.alloc o) := h.grown (World.grownBy_alloc w o none)
theorem Tu.keep {w0 : World} {x y : Nat} {a b : BitVec 64} {w : World} (h : Tu w0 x y a b w) :
    w.cell? ⟨x, 0, none⟩ = some (.int .u64 (q a)) ∧ w.cell? ⟨x, 1, none⟩ = some (.int .u64 (q b)) ∧ w.cell? ⟨y, 0, none⟩ = some (.int .u64 (q a)) ∧ w.cell? ⟨y, 1, none⟩ = some (.int .u64 (q b)) ∧ Tu w0 x y a b w := ⟨at_cell h.hx 0, at_cell h.hx 1, at_cell h.hy 0, at_cell h.hy 1, h⟩
section
variable {P1 P2 P3 P4 : Prop} {w0 wc : World} {x y : Nat} {a b : BitVec 64}
theorem tu_tu (h : P1 ∧ P2 ∧ P3 ∧ P4 ∧ Tu w0 x y a b wc) : Tu w0 x y a b wc := h.2.2.2.2
end

set_option maxHeartbeats 3200000 in
theorem told_any (w : World) :
    Calls Try.prog 9 #[] w fun e w' => e = .returned (.bool true) ∧ w.grownBy w' none := by
  obtain ⟨a, ha⟩ : ∃ a, sumOf 1#64 2#64 [97] = a := ⟨_, rfl⟩
  obtain ⟨b, hb⟩ : ∃ b, sumOf 2#64 (inv 1#64) [97] = b := ⟨_, rfl⟩
  have HA := hid ha; have HB := hid hb; clear ha hb
  have hr : ∀ w, Calls Try.prog 17 #[.int .u64 7] w fun e w' => e = .returned (.agg #[.int .u64 (q (rootOf 7#64).a), .int .u64 (q (rootOf 7#64).b)]) ∧ w.grownBy w' none := fun w => root_any 7#64 w
  obtain ⟨r, hrr⟩ : ∃ r, rootOf 7#64 = r := ⟨_, rfl⟩
  rw [hrr] at hr
  have hd1 : ∀ w, Calls Try.prog 15 #[.agg #[.int .u64 (q r.a), .int .u64 (q r.b)], .string ⟨#[119, 104, 111]⟩, .int .u64 1] w fun e w' => e = .returned (.agg #[.int .u64 (q (keyOf r ⟨#[119, 104, 111]⟩ 1#64).a), .int .u64 (q (keyOf r ⟨#[119, 104, 111]⟩ 1#64).b)]) ∧ w.grownBy w' none := fun w => key_derive r ⟨#[119, 104, 111]⟩ (by decide) 1#64 w
  obtain ⟨k1, hk1⟩ : ∃ k1, keyOf r ⟨#[119, 104, 111]⟩ 1#64 = k1 := ⟨_, rfl⟩
  rw [hk1] at hd1
  have hd2 : ∀ w, Calls Try.prog 15 #[.agg #[.int .u64 (q k1.a), .int .u64 (q k1.b)], .string ⟨#[103, 101, 110]⟩, .int .u64 0] w fun e w' => e = .returned (.agg #[.int .u64 (q (keyOf k1 ⟨#[103, 101, 110]⟩ 0#64).a), .int .u64 (q (keyOf k1 ⟨#[103, 101, 110]⟩ 0#64).b)]) ∧ w.grownBy w' none := fun w => key_derive k1 ⟨#[103, 101, 110]⟩ (by decide) 0#64 w
  obtain ⟨k2, hk2⟩ : ∃ k2, keyOf k1 ⟨#[103, 101, 110]⟩ 0#64 = k2 := ⟨_, rfl⟩
  rw [hk2] at hd2
  have ho : ∀ w, Calls Try.prog 19 #[.int .u64 7, .int .i64 1, .int .i64 0] w fun e w' => e = .returned (.agg #[.int .u64 (q (ofOf 7#64 1 0).a), .int .u64 (q (ofOf 7#64 1 0).b)]) ∧ w.grownBy w' none := fun w => of_any 7#64 1 0 w
  rw [show ofOf 7#64 1 0 = k2 by subst hk2; subst hk1; subst hrr; rfl] at ho
  have R := hid hr; have D1 := hid hd1; have D2 := hid hd2; have O := hid ho; clear hr hd1 hd2 ho hrr hk1 hk2
  have hcs := conv_const
  have hte := tag_equal
  have hke := key_equal
  go_enter Try.func9, Try.ntmps9
  go_wp2_with fail
  refine (tag_told _ a b HA.out HB.out _ (bytes_97 (at_new w _))).mono ?_
  rintro e w1 ⟨rfl, hg⟩
  have g1 := gb_trans (gb_alloc (.refl w none) _) hg (.inl rfl); clear hg
  have G1 := hid g1; clear g1
  go_wp2_with fail
  refine (bytes_any a b _).mono ?_
  rintro e w2 ⟨v, rfl, hown, hg⟩
  have hx2 := at_grown (at_new w1 (.cells #[.int .u64 (q a), .int .u64 (q b)] 30)) hg (by simp)
  have g2 := gb_trans (gb_alloc G1.out _) hg (.inl rfl); clear hg
  obtain ⟨g, c, rfl, hc⟩ := own16 hown
  have hby := hown.bytes
  have X2 := hid hx2; have G2 := hid g2; have BY := hid hby; clear hx2 g2 hby hown
  go_wp2_with fail
  refine (from_words _ a b (word_first a b) (word_second a b) _ _ (put16_length a b) _ BY.out).mono ?_
  rintro e w3 ⟨rfl, hg⟩
  have X3 := hid (at_grown X2.out hg (by simp)); have G3 := hid (gb_trans G2.out hg (.inl rfl)); clear hg
  have h16 : ((16 : Nat) : Int) = 16 := rfl
  have hc' : (15 : Int) ≤ (c : Int) := by omega
  go_wp2_with fail
  refine (from_bad _ 15 c (by decide) _).mono ?_
  rintro e w4 ⟨rfl, hg⟩
  have X4 := hid (at_grown (at_alloc X3.out _) hg (by simp)); have Y4 := hid (at_grown (at_new w3 _) hg (by simp)); have G4 := hid (gb_trans (gb_alloc G3.out _) hg (.inl rfl)); clear hg
  go_wp2_with fail
  have T4 := hid (show Tu w w1.heap.size w3.heap.size a b (w4.alloc (.cells #[.int .u64 0, .int .u64 0] 30)) from Tu.alloc ⟨X4.out, Y4.out, G4.out⟩ _)
  refine wp_gen (Tu w w1.heap.size w3.heap.size a b) T4.out ?_
  clear T4 X4 Y4 G4 G3 X3 X2 G2 G1 BY h16 hc' hc
  generalize w1.heap.size = x
  generalize w3.heap.size = y
  intro w5 h5
  have T5 := hid h5
  obtain ⟨c0, c1, c2, c3, _⟩ := h5.keep
  clear h5
  refine wp_region_held_drew (S := (fun w' => w'.cell? ⟨x, 0, none⟩ = some (.int .u64 (q a)) ∧ w'.cell? ⟨x, 1, none⟩ = some (.int .u64 (q b)) ∧ w'.cell? ⟨y, 0, none⟩ = some (.int .u64 (q a)) ∧ w'.cell? ⟨y, 1, none⟩ = some (.int .u64 (q b)) ∧ Tu w x y a b w')) (by kernel_rfl) T5.out.drew.keep (fun hHeld => ?_)
  try dsimp only at hHeld
  refine' wpAnyH_take (i := 0) (v := _) rfl (by kernel_rfl) (by kernel_rfl) (by kernel_rfl) (fun _ _ _ h => h) (Or.inl ⟨by rfl, ?_⟩) hHeld ?_
  rotate_left
  · (intro w hSw; (try dsimp only at hSw); go_simp; try with_reducible rfl)
  try simp only [Act.put, List.setIfInBounds_toArray, List.set_cons_zero, List.set_cons_succ, List.getElem_toArray, List.getElem_cons_succ, List.getElem_cons_zero]
  refine' wpAnyH_take (i := 1) (v := _) rfl (by kernel_rfl) (by kernel_rfl) (by kernel_rfl) (fun _ _ _ h => h) (Or.inl ⟨by rfl, ?_⟩) hHeld ?_
  rotate_left
  · (intro w hSw; (try dsimp only at hSw); go_simp; try with_reducible rfl)
  try simp only [Act.put, List.setIfInBounds_toArray, List.set_cons_zero, List.set_cons_succ, List.getElem_toArray, List.getElem_cons_succ, List.getElem_cons_zero]
  refine' wpAnyH_take (i := 2) (v := _) rfl (by kernel_rfl) (by kernel_rfl) (by kernel_rfl) (fun _ _ _ h => h) (Or.inl ⟨by rfl, ?_⟩) hHeld ?_
  rotate_left
  · (intro w hSw; (try dsimp only at hSw); go_simp; try with_reducible rfl)
  try simp only [Act.put, List.setIfInBounds_toArray, List.set_cons_zero, List.set_cons_succ, List.getElem_toArray, List.getElem_cons_succ, List.getElem_cons_zero]
  refine' wpAnyH_take (i := 3) (v := _) rfl (by kernel_rfl) (by kernel_rfl) (by kernel_rfl) (fun _ _ _ h => h) (Or.inl ⟨by rfl, ?_⟩) hHeld ?_
  rotate_left
  · (intro w hSw; (try dsimp only at hSw); go_simp; try with_reducible rfl)
  try simp only [Act.put, List.setIfInBounds_toArray, List.set_cons_zero, List.set_cons_succ, List.getElem_toArray, List.getElem_cons_succ, List.getElem_cons_zero]
  refine' wpAnyH_take (i := 4) (v := _) rfl (by kernel_rfl) (by kernel_rfl) (by kernel_rfl) (fun _ _ _ h => h) (Or.inl ⟨by rfl, ?_⟩) hHeld ?_
  rotate_left
  · (intro w hSw; (try dsimp only at hSw); go_simp; try with_reducible rfl)
  try simp only [Act.put, List.setIfInBounds_toArray, List.set_cons_zero, List.set_cons_succ, List.getElem_toArray, List.getElem_cons_succ, List.getElem_cons_zero]
  refine' wpAnyH_take (i := 5) (v := _) rfl (by kernel_rfl) (by kernel_rfl) (by kernel_rfl) (fun _ _ _ h => h) (Or.inl ⟨by rfl, ?_⟩) hHeld ?_
  rotate_left
  · (intro w hSw; (try dsimp only at hSw); go_simp; try with_reducible rfl)
  try simp only [Act.put, List.setIfInBounds_toArray, List.set_cons_zero, List.set_cons_succ, List.getElem_toArray, List.getElem_cons_succ, List.getElem_cons_zero]
  refine' wpAnyH_take (i := 6) (v := _) rfl (by kernel_rfl) (by kernel_rfl) (by kernel_rfl) (fun _ _ _ h => h) (Or.inl ⟨by rfl, ?_⟩) hHeld ?_
  rotate_left
  · (intro w hSw; (try dsimp only at hSw); go_simp; try with_reducible rfl)
  try simp only [Act.put, List.setIfInBounds_toArray, List.set_cons_zero, List.set_cons_succ, List.getElem_toArray, List.getElem_cons_succ, List.getElem_cons_zero]
  refine' wpAnyH_take (i := 7) (v := _) rfl (by kernel_rfl) (by kernel_rfl) (by kernel_rfl) (fun _ _ _ h => h) (Or.inl ⟨by rfl, ?_⟩) hHeld ?_
  rotate_left
  · (intro w hSw; (try dsimp only at hSw); go_simp; try with_reducible rfl)
  try simp only [Act.put, List.setIfInBounds_toArray, List.set_cons_zero, List.set_cons_succ, List.getElem_toArray, List.getElem_cons_succ, List.getElem_cons_zero]
  refine' wpAnyH_take (i := 8) (v := _) rfl (by kernel_rfl) (by kernel_rfl) (by kernel_rfl) (fun _ _ _ h => h) (Or.inl ⟨by rfl, ?_⟩) hHeld ?_
  rotate_left
  · (intro w hSw; (try dsimp only at hSw); go_simp; try with_reducible rfl)
  try simp only [Act.put, List.setIfInBounds_toArray, List.set_cons_zero, List.set_cons_succ, List.getElem_toArray, List.getElem_cons_succ, List.getElem_cons_zero]
  refine' wpAnyH_take (i := 9) (v := _) rfl (by kernel_rfl) (by kernel_rfl) (by kernel_rfl) (fun _ _ _ h => h) (Or.inl ⟨by rfl, ?_⟩) hHeld ?_
  rotate_left
  · (intro w hSw; (try dsimp only at hSw); go_simp; try with_reducible rfl)
  try simp only [Act.put, List.setIfInBounds_toArray, List.set_cons_zero, List.set_cons_succ, List.getElem_toArray, List.getElem_cons_succ, List.getElem_cons_zero]
  refine' wpAnyH_take (i := 10) (v := _) rfl (by kernel_rfl) (by kernel_rfl) (by kernel_rfl) (fun _ _ _ h => h) (Or.inl ⟨by rfl, ?_⟩) hHeld ?_
  rotate_left
  · (intro w hSw; (try dsimp only at hSw); go_simp; try with_reducible rfl)
  try simp only [Act.put, List.setIfInBounds_toArray, List.set_cons_zero, List.set_cons_succ, List.getElem_toArray, List.getElem_cons_succ, List.getElem_cons_zero]
  refine' wpAnyH_take (i := 11) (v := _) rfl (by kernel_rfl) (by kernel_rfl) (by kernel_rfl) (fun _ _ _ h => h) (Or.inl ⟨by rfl, ?_⟩) hHeld ?_
  rotate_left
  · (intro w hSw; (try dsimp only at hSw); go_simp; try with_reducible rfl)
  try simp only [Act.put, List.setIfInBounds_toArray, List.set_cons_zero, List.set_cons_succ, List.getElem_toArray, List.getElem_cons_succ, List.getElem_cons_zero]
  refine' wpAnyH_take (i := 12) (v := _) rfl (by kernel_rfl) (by kernel_rfl) (by kernel_rfl) (fun _ _ _ h => h) (Or.inl ⟨by rfl, ?_⟩) hHeld ?_
  rotate_left
  · (intro w hSw; (try dsimp only at hSw); go_simp; try with_reducible rfl)
  try simp only [Act.put, List.setIfInBounds_toArray, List.set_cons_zero, List.set_cons_succ, List.getElem_toArray, List.getElem_cons_succ, List.getElem_cons_zero]
  refine' wpAnyH_take (i := 13) (v := _) rfl (by kernel_rfl) (by kernel_rfl) (by kernel_rfl) (fun _ _ _ h => h) (Or.inl ⟨by rfl, ?_⟩) hHeld ?_
  rotate_left
  · (intro w hSw; (try dsimp only at hSw); go_simp; try with_reducible rfl)
  try simp only [Act.put, List.setIfInBounds_toArray, List.set_cons_zero, List.set_cons_succ, List.getElem_toArray, List.getElem_cons_succ, List.getElem_cons_zero]
  refine' wpAnyH_take (i := 14) (v := _) rfl (by kernel_rfl) (by kernel_rfl) (by kernel_rfl) (fun _ _ _ h => h) (Or.inl ⟨by rfl, ?_⟩) hHeld ?_
  rotate_left
  · (intro w hSw; (try dsimp only at hSw); go_simp; try with_reducible rfl)
  try simp only [Act.put, List.setIfInBounds_toArray, List.set_cons_zero, List.set_cons_succ, List.getElem_toArray, List.getElem_cons_succ, List.getElem_cons_zero]
  refine' wpAnyH_take (i := 15) (v := _) rfl (by kernel_rfl) (by kernel_rfl) (by kernel_rfl) (fun _ _ _ h => h) (Or.inl ⟨by rfl, ?_⟩) hHeld ?_
  rotate_left
  · (intro w hSw; (try dsimp only at hSw); go_simp; try with_reducible rfl)
  try simp only [Act.put, List.setIfInBounds_toArray, List.set_cons_zero, List.set_cons_succ, List.getElem_toArray, List.getElem_cons_succ, List.getElem_cons_zero]
  refine' wpAnyH_take (i := 16) (v := _) rfl (by kernel_rfl) (by kernel_rfl) (by kernel_rfl) (fun _ _ _ h => h) (Or.inl ⟨by rfl, ?_⟩) hHeld ?_
  rotate_left
  · (intro w hSw; (try dsimp only at hSw); go_simp; try with_reducible rfl)
  try simp only [Act.put, List.setIfInBounds_toArray, List.set_cons_zero, List.set_cons_succ, List.getElem_toArray, List.getElem_cons_succ, List.getElem_cons_zero]
  refine' wpAnyH_take (i := 17) (v := _) rfl (by kernel_rfl) (by kernel_rfl) (by kernel_rfl) (fun _ _ _ h => h) (Or.inl ⟨by rfl, ?_⟩) hHeld ?_
  rotate_left
  · (intro w hSw; (try dsimp only at hSw); go_simp; try with_reducible rfl)
  try simp only [Act.put, List.setIfInBounds_toArray, List.set_cons_zero, List.set_cons_succ, List.getElem_toArray, List.getElem_cons_succ, List.getElem_cons_zero]
  refine' wpAnyH_take (i := 18) (v := _) rfl (by kernel_rfl) (by kernel_rfl) (by kernel_rfl) (fun _ _ _ h => h) (Or.inl ⟨by rfl, ?_⟩) hHeld ?_
  rotate_left
  · (intro w hSw; (try dsimp only at hSw); go_simp; try with_reducible rfl)
  try simp only [Act.put, List.setIfInBounds_toArray, List.set_cons_zero, List.set_cons_succ, List.getElem_toArray, List.getElem_cons_succ, List.getElem_cons_zero]
  refine wpAnyH_ready (rs := [19]) (by kernel_rfl) (by simp) ?_
  refine AllReadyH.cons (o := _) rfl (fun K hK => ?_) AllReadyH.nil
  try simp only [List.getElem_toArray, List.getElem_cons_succ, List.getElem_cons_zero]
  go_simp
  refine (same_one a b _).mono ?_
  rintro e w19 ⟨rfl, hg⟩
  have K19 := hid (Tu.grown (tu_tu hHeld) hg)
  clear hHeld hg
  go_wp2_with fail
  refine hK.out _ _ ?_ (fun hHeld => ?_)
  · exact K19.out.keep
  clear hK K
  try dsimp only at hHeld
  try simp only [Act.put, List.setIfInBounds_toArray, List.set_cons_zero, List.set_cons_succ, List.getElem_toArray, List.getElem_cons_succ, List.getElem_cons_zero]
  refine' wpAnyH_take (i := 20) (v := _) rfl (by kernel_rfl) (by kernel_rfl) (by kernel_rfl) (fun _ _ _ h => h) (Or.inl ⟨by rfl, ?_⟩) hHeld ?_
  rotate_left
  · (intro w hSw; (try dsimp only at hSw); go_simp; try with_reducible rfl)
  try simp only [Act.put, List.setIfInBounds_toArray, List.set_cons_zero, List.set_cons_succ, List.getElem_toArray, List.getElem_cons_succ, List.getElem_cons_zero]
  refine' wpAnyH_take (i := 21) (v := _) rfl (by kernel_rfl) (by kernel_rfl) (by kernel_rfl) (fun _ _ _ h => h) (Or.inl ⟨by rfl, ?_⟩) hHeld ?_
  rotate_left
  · (intro w hSw; (try dsimp only at hSw); go_simp; try with_reducible rfl)
  try simp only [Act.put, List.setIfInBounds_toArray, List.set_cons_zero, List.set_cons_succ, List.getElem_toArray, List.getElem_cons_succ, List.getElem_cons_zero]
  refine' wpAnyH_take (i := 22) (v := _) rfl (by kernel_rfl) (by kernel_rfl) (by kernel_rfl) (fun _ _ _ h => h) (Or.inl ⟨by rfl, ?_⟩) hHeld ?_
  rotate_left
  · (intro w hSw; (try dsimp only at hSw); go_simp; try with_reducible rfl)
  try simp only [Act.put, List.setIfInBounds_toArray, List.set_cons_zero, List.set_cons_succ, List.getElem_toArray, List.getElem_cons_succ, List.getElem_cons_zero]
  refine' wpAnyH_take (i := 23) (v := _) rfl (by kernel_rfl) (by kernel_rfl) (by kernel_rfl) (fun _ _ _ h => h) (Or.inl ⟨by rfl, ?_⟩) hHeld ?_
  rotate_left
  · (intro w hSw; (try dsimp only at hSw); go_simp; try with_reducible rfl)
  try simp only [Act.put, List.setIfInBounds_toArray, List.set_cons_zero, List.set_cons_succ, List.getElem_toArray, List.getElem_cons_succ, List.getElem_cons_zero]
  refine' wpAnyH_take (i := 24) (v := _) rfl (by kernel_rfl) (by kernel_rfl) (by kernel_rfl) (fun _ _ _ h => h) (Or.inl ⟨by rfl, ?_⟩) hHeld ?_
  rotate_left
  · (intro w hSw; (try dsimp only at hSw); go_simp; try with_reducible rfl)
  try simp only [Act.put, List.setIfInBounds_toArray, List.set_cons_zero, List.set_cons_succ, List.getElem_toArray, List.getElem_cons_succ, List.getElem_cons_zero]
  refine' wpAnyH_take (i := 25) (v := _) rfl (by kernel_rfl) (by kernel_rfl) (by kernel_rfl) (fun _ _ _ h => h) (Or.inl ⟨by rfl, ?_⟩) hHeld ?_
  rotate_left
  · (intro w hSw; (try dsimp only at hSw); go_simp; try with_reducible rfl)
  try simp only [Act.put, List.setIfInBounds_toArray, List.set_cons_zero, List.set_cons_succ, List.getElem_toArray, List.getElem_cons_succ, List.getElem_cons_zero]
  refine' wpAnyH_take (i := 26) (v := _) rfl (by kernel_rfl) (by kernel_rfl) (by kernel_rfl) (fun _ _ _ h => h) (Or.inl ⟨by rfl, ?_⟩) hHeld ?_
  rotate_left
  · (intro w hSw; (try dsimp only at hSw); go_simp; try with_reducible rfl)
  try simp only [Act.put, List.setIfInBounds_toArray, List.set_cons_zero, List.set_cons_succ, List.getElem_toArray, List.getElem_cons_succ, List.getElem_cons_zero]
  refine' wpAnyH_take (i := 27) (v := _) rfl (by kernel_rfl) (by kernel_rfl) (by kernel_rfl) (fun _ _ _ h => h) (Or.inl ⟨by rfl, ?_⟩) hHeld ?_
  rotate_left
  · (intro w hSw; (try dsimp only at hSw); go_simp; try with_reducible rfl)
  try simp only [Act.put, List.setIfInBounds_toArray, List.set_cons_zero, List.set_cons_succ, List.getElem_toArray, List.getElem_cons_succ, List.getElem_cons_zero]
  refine' wpAnyH_take (i := 28) (v := _) rfl (by kernel_rfl) (by kernel_rfl) (by kernel_rfl) (fun _ _ _ h => h) (Or.inl ⟨by rfl, ?_⟩) hHeld ?_
  rotate_left
  · (intro w hSw; (try dsimp only at hSw); go_simp; try with_reducible rfl)
  try simp only [Act.put, List.setIfInBounds_toArray, List.set_cons_zero, List.set_cons_succ, List.getElem_toArray, List.getElem_cons_succ, List.getElem_cons_zero]
  refine wpAnyH_ready (rs := [29]) (by kernel_rfl) (by simp) ?_
  refine AllReadyH.cons (o := _) rfl (fun K hK => ?_) AllReadyH.nil
  try simp only [List.getElem_toArray, List.getElem_cons_succ, List.getElem_cons_zero]
  go_simp
  refine (same_not' a b _).mono ?_
  rintro e w29 ⟨rfl, hg⟩
  have K29 := hid (Tu.grown (tu_tu hHeld) hg)
  clear hHeld hg
  go_wp2_with fail
  refine hK.out _ _ ?_ (fun hHeld => ?_)
  · exact K29.out.keep
  clear hK K
  try dsimp only at hHeld
  try simp only [Act.put, List.setIfInBounds_toArray, List.set_cons_zero, List.set_cons_succ, List.getElem_toArray, List.getElem_cons_succ, List.getElem_cons_zero]
  refine' wpAnyH_take (i := 30) (v := _) rfl (by kernel_rfl) (by kernel_rfl) (by kernel_rfl) (fun _ _ _ h => h) (Or.inl ⟨by rfl, ?_⟩) hHeld ?_
  rotate_left
  · (intro w hSw; (try dsimp only at hSw); go_simp; try with_reducible rfl)
  try simp only [Act.put, List.setIfInBounds_toArray, List.set_cons_zero, List.set_cons_succ, List.getElem_toArray, List.getElem_cons_succ, List.getElem_cons_zero]
  refine' wpAnyH_take (i := 31) (v := _) rfl (by kernel_rfl) (by kernel_rfl) (by kernel_rfl) (fun _ _ _ h => h) (Or.inl ⟨by rfl, ?_⟩) hHeld ?_
  rotate_left
  · (intro w hSw; (try dsimp only at hSw); go_simp; try with_reducible rfl)
  try simp only [Act.put, List.setIfInBounds_toArray, List.set_cons_zero, List.set_cons_succ, List.getElem_toArray, List.getElem_cons_succ, List.getElem_cons_zero]
  refine' wpAnyH_take (i := 32) (v := _) rfl (by kernel_rfl) (by kernel_rfl) (by kernel_rfl) (fun _ _ _ h => h) (Or.inl ⟨by rfl, ?_⟩) hHeld ?_
  rotate_left
  · (intro w hSw; (try dsimp only at hSw); go_simp; try with_reducible rfl)
  try simp only [Act.put, List.setIfInBounds_toArray, List.set_cons_zero, List.set_cons_succ, List.getElem_toArray, List.getElem_cons_succ, List.getElem_cons_zero]
  refine' wpAnyH_take (i := 33) (v := _) rfl (by kernel_rfl) (by kernel_rfl) (by kernel_rfl) (fun _ _ _ h => h) (Or.inl ⟨by rfl, ?_⟩) hHeld ?_
  rotate_left
  · (intro w hSw; (try dsimp only at hSw); go_simp; try with_reducible rfl)
  try simp only [Act.put, List.setIfInBounds_toArray, List.set_cons_zero, List.set_cons_succ, List.getElem_toArray, List.getElem_cons_succ, List.getElem_cons_zero]
  refine' wpAnyH_take (i := 34) (v := _) rfl (by kernel_rfl) (by kernel_rfl) (by kernel_rfl) (fun _ _ _ h => h) (Or.inl ⟨by rfl, ?_⟩) hHeld ?_
  rotate_left
  · (intro w hSw; (try dsimp only at hSw); go_simp; try with_reducible rfl)
  try simp only [Act.put, List.setIfInBounds_toArray, List.set_cons_zero, List.set_cons_succ, List.getElem_toArray, List.getElem_cons_succ, List.getElem_cons_zero]
  refine' wpAnyH_take (i := 35) (v := _) rfl (by kernel_rfl) (by kernel_rfl) (by kernel_rfl) (fun _ _ _ h => h) (Or.inl ⟨by rfl, ?_⟩) hHeld ?_
  rotate_left
  · (intro w hSw; (try dsimp only at hSw); go_simp; try with_reducible rfl)
  try simp only [Act.put, List.setIfInBounds_toArray, List.set_cons_zero, List.set_cons_succ, List.getElem_toArray, List.getElem_cons_succ, List.getElem_cons_zero]
  refine wpAnyH_ready (rs := [36]) (by kernel_rfl) (by simp) ?_
  refine AllReadyH.cons (o := _) rfl (fun K hK => ?_) AllReadyH.nil
  have K36 := hid (Tu.alloc (tu_tu hHeld) (.cells #[.int .u8 97] 5))
  have K37 := hid (Tu.alloc (tu_tu hHeld) (.cells #[.int .u8 97] 5 (1, 2)))
  clear hHeld
  try simp only [List.getElem_toArray, List.getElem_cons_succ, List.getElem_cons_zero]
  go_simp
  refine hK.out _ _ K36.out.keep (fun hHeld => ?_)
  clear hK K
  try dsimp only at hHeld
  try simp only [Act.put, List.setIfInBounds_toArray, List.set_cons_zero, List.set_cons_succ, List.getElem_toArray, List.getElem_cons_succ, List.getElem_cons_zero]
  refine wpAnyH_ready (rs := [37]) (by kernel_rfl) (by simp) ?_
  refine AllReadyH.cons (o := _) rfl (fun K hK => ?_) AllReadyH.nil
  clear hHeld
  try simp only [List.getElem_toArray, List.getElem_cons_succ, List.getElem_cons_zero]
  go_simp
  refine hK.out _ _ K37.out.keep (fun hHeld => ?_)
  clear hK K
  try dsimp only at hHeld
  try simp only [Act.put, List.setIfInBounds_toArray, List.set_cons_zero, List.set_cons_succ, List.getElem_toArray, List.getElem_cons_succ, List.getElem_cons_zero]
  refine wpAnyH_ready (rs := [38]) (by kernel_rfl) (by simp) ?_
  refine AllReadyH.cons (o := _) rfl (fun K hK => ?_) AllReadyH.nil
  try simp only [List.getElem_toArray, List.getElem_cons_succ, List.getElem_cons_zero]
  go_simp
  refine (sum_told _ a HA.out _ (bytes_97 (at_new _ _))).mono ?_
  rintro e w38 ⟨rfl, hg⟩
  have K38 := hid (Tu.grown (tu_tu hHeld) hg)
  clear hHeld hg
  go_wp2_with fail
  refine hK.out _ _ ?_ (fun hHeld => ?_)
  · exact K38.out.keep
  clear hK K
  try dsimp only at hHeld
  try simp only [Act.put, List.setIfInBounds_toArray, List.set_cons_zero, List.set_cons_succ, List.getElem_toArray, List.getElem_cons_succ, List.getElem_cons_zero]
  refine' wpAnyH_take (i := 39) (v := _) rfl (by kernel_rfl) (by kernel_rfl) (by kernel_rfl) (fun _ _ _ h => h) (Or.inl ⟨by rfl, ?_⟩) hHeld ?_
  rotate_left
  · (intro w hSw; (try dsimp only at hSw); go_simp; try with_reducible rfl)
  try simp only [Act.put, List.setIfInBounds_toArray, List.set_cons_zero, List.set_cons_succ, List.getElem_toArray, List.getElem_cons_succ, List.getElem_cons_zero]
  refine' wpAnyH_take (i := 40) (v := _) rfl (by kernel_rfl) (by kernel_rfl) (by kernel_rfl) (fun _ _ _ h => h) (Or.inl ⟨by rfl, ?_⟩) hHeld ?_
  rotate_left
  · (intro w hSw; (try dsimp only at hSw); go_simp; try with_reducible rfl)
  try simp only [Act.put, List.setIfInBounds_toArray, List.set_cons_zero, List.set_cons_succ, List.getElem_toArray, List.getElem_cons_succ, List.getElem_cons_zero]
  refine' wpAnyH_take (i := 41) (v := _) rfl (by kernel_rfl) (by kernel_rfl) (by kernel_rfl) (fun _ _ _ h => h) (Or.inl ⟨by rfl, ?_⟩) hHeld ?_
  rotate_left
  · (intro w hSw; (try dsimp only at hSw); go_simp; try with_reducible rfl)
  try simp only [Act.put, List.setIfInBounds_toArray, List.set_cons_zero, List.set_cons_succ, List.getElem_toArray, List.getElem_cons_succ, List.getElem_cons_zero]
  refine wpAnyH_ready (rs := [42]) (by kernel_rfl) (by simp) ?_
  refine AllReadyH.cons (o := _) rfl (fun K hK => ?_) AllReadyH.nil
  try simp only [List.getElem_toArray, List.getElem_cons_succ, List.getElem_cons_zero]
  go_simp
  refine (O.out _).mono ?_
  rintro e w42 ⟨rfl, hg⟩
  have K42 := hid (Tu.grown (tu_tu hHeld) hg)
  clear hHeld hg
  go_wp2_with fail
  refine hK.out _ _ ?_ (fun hHeld => ?_)
  · exact K42.out.keep
  clear hK K
  try dsimp only at hHeld
  try simp only [Act.put, List.setIfInBounds_toArray, List.set_cons_zero, List.set_cons_succ, List.getElem_toArray, List.getElem_cons_succ, List.getElem_cons_zero]
  refine wpAnyH_ready (rs := [43]) (by kernel_rfl) (by simp) ?_
  refine AllReadyH.cons (o := _) rfl (fun K hK => ?_) AllReadyH.nil
  try simp only [List.getElem_toArray, List.getElem_cons_succ, List.getElem_cons_zero]
  go_simp
  refine (R.out _).mono ?_
  rintro e w43 ⟨rfl, hg⟩
  have K43 := hid (Tu.grown (tu_tu hHeld) hg)
  clear hHeld hg
  go_wp2_with fail
  refine hK.out _ _ ?_ (fun hHeld => ?_)
  · exact K43.out.keep
  clear hK K
  try dsimp only at hHeld
  try simp only [Act.put, List.setIfInBounds_toArray, List.set_cons_zero, List.set_cons_succ, List.getElem_toArray, List.getElem_cons_succ, List.getElem_cons_zero]
  refine wpAnyH_ready (rs := [44]) (by kernel_rfl) (by simp) ?_
  refine AllReadyH.cons (o := _) rfl (fun K hK => ?_) AllReadyH.nil
  try simp only [List.getElem_toArray, List.getElem_cons_succ, List.getElem_cons_zero]
  go_simp
  refine (D1.out _).mono ?_
  rintro e w44 ⟨rfl, hg⟩
  have K44 := hid (Tu.grown (tu_tu hHeld) hg)
  clear hHeld hg
  go_wp2_with fail
  refine hK.out _ _ ?_ (fun hHeld => ?_)
  · exact K44.out.keep
  clear hK K
  try dsimp only at hHeld
  try simp only [Act.put, List.setIfInBounds_toArray, List.set_cons_zero, List.set_cons_succ, List.getElem_toArray, List.getElem_cons_succ, List.getElem_cons_zero]
  refine wpAnyH_ready (rs := [45]) (by kernel_rfl) (by simp) ?_
  refine AllReadyH.cons (o := _) rfl (fun K hK => ?_) AllReadyH.nil
  try simp only [List.getElem_toArray, List.getElem_cons_succ, List.getElem_cons_zero]
  go_simp
  refine (D2.out _).mono ?_
  rintro e w45 ⟨rfl, hg⟩
  have K45 := hid (Tu.grown (tu_tu hHeld) hg)
  clear hHeld hg
  go_wp2_with fail
  refine hK.out _ _ ?_ (fun hHeld => ?_)
  · exact K45.out.keep
  clear hK K
  try dsimp only at hHeld
  try simp only [Act.put, List.setIfInBounds_toArray, List.set_cons_zero, List.set_cons_succ, List.getElem_toArray, List.getElem_cons_succ, List.getElem_cons_zero]
  refine' wpAnyH_take (i := 46) (v := _) rfl (by kernel_rfl) (by kernel_rfl) (by kernel_rfl) (fun _ _ _ h => h) (Or.inl ⟨by rfl, ?_⟩) hHeld ?_
  rotate_left
  · (intro w hSw; (try dsimp only at hSw); go_simp; try with_reducible rfl)
  try simp only [Act.put, List.setIfInBounds_toArray, List.set_cons_zero, List.set_cons_succ, List.getElem_toArray, List.getElem_cons_succ, List.getElem_cons_zero]
  refine' wpAnyH_take (i := 47) (v := _) rfl (by kernel_rfl) (by kernel_rfl) (by kernel_rfl) (fun _ _ _ h => h) (Or.inl ⟨by rfl, ?_⟩) hHeld ?_
  rotate_left
  · (intro w hSw; (try dsimp only at hSw); go_simp; try with_reducible rfl)
  try simp only [Act.put, List.setIfInBounds_toArray, List.set_cons_zero, List.set_cons_succ, List.getElem_toArray, List.getElem_cons_succ, List.getElem_cons_zero]
  refine' wpAnyH_take (i := 48) (v := _) rfl (by kernel_rfl) (by kernel_rfl) (by kernel_rfl) (fun _ _ _ h => h) (Or.inl ⟨by rfl, ?_⟩) hHeld ?_
  rotate_left
  · (intro w hSw; (try dsimp only at hSw); go_simp; try with_reducible rfl)
  try simp only [Act.put, List.setIfInBounds_toArray, List.set_cons_zero, List.set_cons_succ, List.getElem_toArray, List.getElem_cons_succ, List.getElem_cons_zero]
  refine wpAnyH_done (by kernel_rfl) ?_ _
  clear hHeld
  go_wp2_with fail
  go_ret
  exact ⟨rfl, K45.out.g⟩
end Go.Proofs.Ytedbdilmebeicaa
