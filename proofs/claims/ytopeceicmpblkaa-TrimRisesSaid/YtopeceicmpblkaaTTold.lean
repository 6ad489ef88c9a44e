/-
  Contract: the law's own examples: the program tells what the document says of a few numbers. No condition.
-/
import Derived.Test.YtopeceicmpblkaaTs
import Derived.Test.YtopeceicmpblkaaLit
set_option linter.unusedSimpArgs false
set_option linter.unusedVariables false
namespace Go.Proofs.Ytopeceicmpblkaa
set_option maxRecDepth 100000
open Go.RowKit

section
variable {v : Value} {l : List Int} {w : World} {f x y : Int} {b : Bool}
theorem median_as (h : IntsAt w v l) (hz : medOf l = (x, b)) : Calls Try.prog 9 #[v] w fun e w' => e = .returned (.tuple #[.int .i64 x, .bool b]) ∧ w.grownBy w' none := by
  have r := median_any v l w h
  rw [hz] at r; exact r
theorem mean_as (h : IntsAt w v l) (hf : -9223372036854775808 ≤ f ∧ f ≤ 9223372036854775807) (hz : meanL (midL l f) = (x, b)) : Calls Try.prog 11 #[v, .int .i64 f] w fun e w' => e = .returned (.tuple #[.int .i64 x, .bool b]) ∧ w.grownBy w' none := by
  have r := mean_any v l f w h hf
  rw [hz] at r; exact r
theorem span_as (h : IntsAt w v l) (hf : -9223372036854775808 ≤ f ∧ f ≤ 9223372036854775807) (hz : spanL (midL l f) = (x, y, b)) : Calls Try.prog 13 #[v, .int .i64 f] w fun e w' => e = .returned (.tuple #[.int .i64 x, .int .i64 y, .bool b]) ∧ w.grownBy w' none := by
  have r := span_any v l f w h hf
  rw [hz] at r; exact r
theorem quorum_as {n q : Int} (hb : (decide (q ≤ n) && decide (0 < n)) = b) : Calls Try.prog 15 #[.int .i64 n, .int .i64 q] w fun e w' => e = .returned (.bool b) ∧ w.grownBy w' none := hb ▸ quorum_any n q w
end
theorem mid_eq {l s m : List Int} {k : Nat} (hs : ms l = s) (h0 : mayL l = true) (h1 : (k : Int) < (l.length : Int) - (k : Int)) (hm : (s.take (l.length - k)).drop k = m) : midL l (k : Int) = m := by
  rw [midL_in ⟨h0, by omega, h1⟩]; unfold cutL; rw [hs, hm]

set_option maxHeartbeats 3200000 in
theorem ttold_any (w : World) :
    Calls Try.prog 8 #[] w fun e w' => e = .returned (.bool true) ∧ w.grownBy w' none := by
  have m1 := hid (show medOf [4, 1, 3, 2] = (2, true) by
    unfold medOf
    rw [if_pos (by decide), show ((([4, 1, 3, 2] : List Int).length : Int) - 1).tdiv 2 = ((1 : Nat) : Int) by decide, atOf_in _ _ (by rw [ms_len]; decide)]
    simp only [show ms [4, 1, 3, 2] = [1, 2, 3, 4] from ms_eq (by decide) (by decide)]; rfl)
  have m2 := hid (show meanL (midL [1, 5, 100] 1) = (5, true) by
    rw [show midL [1, 5, 100] 1 = [5] from mid_eq (k := 1) (ms_eq (m := [1, 5, 100]) (by decide) (by decide)) (by decide) (by decide) (by decide)]; decide)
  have m3 := hid (show spanL (midL [9, 1, 5, 7] 1) = (5, 7, true) by
    rw [show midL [9, 1, 5, 7] 1 = [5, 7] from mid_eq (k := 1) (ms_eq (m := [1, 5, 7, 9]) (by decide) (by decide)) (by decide) (by decide) (by decide)]; decide)
  have m4 := hid (show meanL (midL [1, 2] 1) = (0, false) by
    rw [midL_out (fun e => absurd e.2.2 (by decide))]; decide)
  have m5 := hid (show medOf [-1] = (0, false) by
    unfold medOf; rw [if_neg (by decide)])
  have m6 := hid (show meanL (midL [1, 2] 0) = (1, true) by
    rw [show midL [1, 2] 0 = [1, 2] from mid_eq (k := 0) (ms_eq (m := [1, 2]) (by decide) (by decide)) (by decide) (by decide) (by decide)]; decide)
  go_enter Try.func8, Try.ntmps8
  go_wp2_with fail
  refine (median_as (lit_new _ [4, 1, 3, 2] _ rfl 4 rfl (le_max _ (by decide))) m1.out).mono ?_
  rintro e w1 ⟨rfl, hg⟩
  have G1 := hid (gb_trans (World.grownBy_alloc w _ none) hg (.inl rfl))
  clear hg
  go_wp2_with fail
  refine (mean_as (lit_new _ [1, 5, 100] _ rfl 3 rfl (le_max _ (by decide))) (by decide) m2.out).mono ?_
  rintro e w2 ⟨rfl, hg⟩
  have G2 := hid (gb_trans G1.out (gb_trans (World.grownBy_alloc w1 _ none) hg (.inl rfl)) (.inl rfl))
  clear hg G1
  go_wp2_with fail
  refine (span_as (lit_new _ [9, 1, 5, 7] _ rfl 4 rfl (le_max _ (by decide))) (by decide) m3.out).mono ?_
  rintro e w3 ⟨rfl, hg⟩
  have G3 := hid (gb_trans G2.out (gb_trans (World.grownBy_alloc w2 _ none) hg (.inl rfl)) (.inl rfl))
  clear hg G2
  go_wp2_with fail
  refine (mean_as (lit_new _ [1, 2] _ rfl 2 rfl (le_max _ (by decide))) (by decide) m4.out).mono ?_
  rintro e w4 ⟨rfl, hg⟩
  have G4 := hid (gb_trans G3.out (gb_trans (World.grownBy_alloc w3 _ none) hg (.inl rfl)) (.inl rfl))
  clear hg G3
  go_wp2_with fail
  refine (median_as (lit_new _ [-1] _ rfl 1 rfl (le_max _ (by decide))) m5.out).mono ?_
  rintro e w5 ⟨rfl, hg⟩
  have G5 := hid (gb_trans G4.out (gb_trans (World.grownBy_alloc w4 _ none) hg (.inl rfl)) (.inl rfl))
  clear hg G4
  go_wp2_with fail
  refine (mean_as (lit_new _ [1, 2] _ rfl 2 rfl (le_max _ (by decide))) (by decide) m6.out).mono ?_
  rintro e w6 ⟨rfl, hg⟩
  have G6 := hid (gb_trans G5.out (gb_trans (World.grownBy_alloc w5 _ none) hg (.inl rfl)) (.inl rfl))
  clear hg G5
  go_wp2_with fail
  refine (quorum_as (b := true) (by decide)).mono ?_
  rintro e w7 ⟨rfl, hg⟩
  have G7 := hid (gb_trans G6.out hg (.inl rfl))
  clear hg G6
  go_wp2_with fail
  refine (quorum_as (b := false) (by decide)).mono ?_
  rintro e w8 ⟨rfl, hg⟩
  have G8 := hid (gb_trans G7.out hg (.inl rfl))
  clear hg G7
  go_wp2_with fail
  refine (quorum_as (b := false) (by decide)).mono ?_
  rintro e w9 ⟨rfl, hg⟩
  have G9 := hid (gb_trans G8.out hg (.inl rfl))
  clear hg G8
  go_wp2_with fail
  go_ret
  exact ⟨rfl, G9.out⟩
end Go.Proofs.Ytopeceicmpblkaa
