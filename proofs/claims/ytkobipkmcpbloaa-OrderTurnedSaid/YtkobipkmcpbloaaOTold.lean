/-
  Contract: the law's own examples: the program tells what the document says of a few numbers. No condition.
-/
import Derived.Test.YtkobipkmcpbloaaRs
set_option linter.unusedSimpArgs false
set_option linter.unusedVariables false
namespace Go.Proofs.Ytkobipkmcpbloaa
set_option maxRecDepth 100000
open Go.RowKit

theorem ints_new (w : World) (l : List Int) (hl : l.length ≤ maxLen) : IntsAt (w.alloc (.cells (l.map iv).toArray 2)) (.slice (some ⟨w.heap.size, 0, none⟩) l.length l.length) l := ints_of_cells l (at_new w _) hl
theorem ms_eq {l m : List Int} (hp : m.Perm l) (hs : m.Pairwise (· ≤ ·)) : ms l = m := (ms_uniq hp hs).symm
section
variable {v v' : Value} {l l' m : List Int} {w : World}
theorem osort_as (h : IntsAt w v l) (h1 : l.length ≤ 1000000) (hm : ms l = m) : Calls Try.prog 14 #[v] w (Gives w m) := hm ▸ osort_any v l w h h1
theorem ounion_as (h : IntsAt w v l) (h' : IntsAt w v' l') (h1 : (l ++ l').length ≤ 1000000) (hm : ms (l ++ l') = m) : Calls Try.prog 9 #[v, v'] w (Gives w m) := hm ▸ ounion_any v v' l l' w h h' h1
theorem oat_as {k x : Int} {b : Bool} (h : IntsAt w v l) (h1 : l.length ≤ 1000000) (hk : atOf l k = (x, b)) :
    Calls Try.prog 12 #[v, .int .i64 k] w fun e w' => e = .returned (.tuple #[.int .i64 x, .bool b]) ∧ w.grownBy w' none := by
  have r := oat_any v l k w h h1
  rw [hk] at r; exact r
theorem orank_as {x : Int} {n : Nat} (h : IntsAt w v l) (h1 : l.length ≤ 1000000) (hk : rk l x = n) :
    Calls Try.prog 15 #[v, .int .i64 x] w fun e w' => e = .returned (.int .i64 (n : Int)) ∧ w.grownBy w' none := hk ▸ orank_any v l x w h h1
theorem osame_as {b : Bool} (h : IntsAt w v l) (h' : IntsAt w v' l') (h1 : l.length ≤ 1000000) (h1' : l'.length ≤ 1000000) (hb : decide (ms l = ms l') = b) :
    Calls Try.prog 10 #[v, v'] w fun e w' => e = .returned (.bool b) ∧ w.grownBy w' none := hb ▸ osame_any v v' l l' w h h' h1 h1'
theorem lit_new (w : World) (l : List Int) (c : Array Value) (hc : (l.map iv).toArray = c) (n : Nat) (hn : l.length = n) (hl : n ≤ maxLen) : IntsAt (w.alloc (.cells c 2)) (.slice (some ⟨w.heap.size, 0, none⟩) n n) l := by
  subst hc; subst hn; exact ints_new w l hl
theorem lit_new2 (w : World) (o : Obj) (l : List Int) (c : Array Value) (hc : (l.map iv).toArray = c) (n : Nat) (hn : l.length = n) (hl : n ≤ maxLen) : IntsAt ((w.alloc o).alloc (.cells c 2)) (.slice (some ⟨w.heap.size + 1, 0, none⟩) n n) l := by
  have h := lit_new (w.alloc o) l c hc n hn hl
  rw [size_alloc'] at h
  exact h
end
theorem le_max (n : Nat) (h : n ≤ 100) : n ≤ maxLen := by unfold maxLen; omega

set_option maxHeartbeats 3200000 in
theorem otold_any (w : World) :
    Calls Try.prog 8 #[] w fun e w' => e = .returned (.bool true) ∧ w.grownBy w' none := by
  have m1 := hid (show ms [5, 3, 5, 1] = [1, 3, 5, 5] from ms_eq (by decide) (by decide))
  have m2 := hid (show ms ([2] ++ [1, 3]) = [1, 2, 3] from ms_eq (by decide) (by decide))
  have a1 := hid (show atOf [5, 3] 0 = (3, true) by rw [show (0 : Int) = ((0 : Nat) : Int) from rfl, atOf_in _ _ (by rw [ms_len]; decide)]; simp only [show ms [5, 3] = [3, 5] from ms_eq (by decide) (by decide)]; rfl)
  have a2 := hid (show atOf [] 0 = (0, false) from atOf_out _ _ (by simp))
  have s1 := hid (show decide (ms [1, 2] = ms [2, 1]) = true from decide_eq_true (ms_of_perm (by decide)))
  have s2 := hid (show decide (ms [1, 1] = ms [1]) = false from decide_eq_false fun e => by have := congrArg List.length e; rw [ms_len, ms_len] at this; simp at this)
  go_enter Try.func8, Try.ntmps8
  go_wp2_with fail
  refine (osort_as (lit_new _ [5, 3, 5, 1] _ rfl 4 rfl (le_max _ (by decide))) (by decide) m1.out).mono ?_
  rintro e w1 ⟨u1, rfl, ho, hg⟩
  have L1 := hid ho.ints; have G1 := hid (gb_trans (World.grownBy_alloc w _ none) hg (.inl rfl))
  obtain ⟨p1, c1, rfl⟩ := ho.form
  clear ho hg
  go_wp2_with fail
  refine (oat_as (lit_new _ [5, 3] _ rfl 2 rfl (le_max _ (by decide))) (by decide) a1.out).mono ?_
  rintro e w2 ⟨rfl, hg⟩
  have hg2 := gb_trans (World.grownBy_alloc w1 _ none) hg (.inl rfl)
  have L2 := hid (L1.out.grown hg2); have G2 := hid (gb_trans G1.out hg2 (.inl rfl))
  clear hg hg2 L1 G1
  go_wp2_with fail
  refine (oat_as (.nil _) (by decide) a2.out).mono ?_
  rintro e w3 ⟨rfl, hg⟩
  have L3 := hid (L2.out.grown hg); have G3 := hid (gb_trans G2.out hg (.inl rfl))
  clear hg L2 G2
  go_wp2_with fail
  refine (ounion_as ((lit_new _ [2] _ rfl 1 rfl (le_max _ (by decide))).alloc _) (lit_new2 _ _ [1, 3] _ rfl 2 rfl (le_max _ (by decide))) (by decide) m2.out).mono ?_
  rintro e w4 ⟨u4, rfl, ho, hg⟩
  have hg2 := gb_trans (gb_alloc (World.grownBy_alloc w3 _ none) _) hg (.inl rfl)
  have L4 := hid (L3.out.grown hg2); have G4 := hid (gb_trans G3.out hg2 (.inl rfl)); have M4 := hid ho.ints
  obtain ⟨p4, c4, rfl⟩ := ho.form
  clear hg hg2 L3 G3 ho
  go_wp2_with fail
  refine (samelist_any _ _ _ _ _ (L4.out.alloc _) (lit_new _ [1, 3, 5, 5] _ rfl 4 rfl (le_max _ (by decide))) (by decide) (by decide) true (by decide)).mono ?_
  rintro e w5 ⟨rfl, hg⟩
  have hg2 := gb_trans (World.grownBy_alloc w4 _ none) hg (.inl rfl)
  have L5 := hid (L4.out.grown hg2); have G5 := hid (gb_trans G4.out hg2 (.inl rfl)); have M5 := hid (M4.out.grown hg2)
  clear hg hg2 L4 G4 M4
  go_wp2_with fail
  refine (orank_as (n := 2) L5.out (by decide) (by decide)).mono ?_
  rintro e w6 ⟨rfl, hg⟩
  have G6 := hid (gb_trans G5.out hg (.inl rfl)); have M6 := hid (M5.out.grown hg)
  clear hg L5 G5 M5
  go_wp2_with fail
  refine (osame_as ((lit_new _ [1, 2] _ rfl 2 rfl (le_max _ (by decide))).alloc _) (lit_new2 _ _ [2, 1] _ rfl 2 rfl (le_max _ (by decide))) (by decide) (by decide) s1.out).mono ?_
  rintro e w7 ⟨rfl, hg⟩
  have hg2 := gb_trans (gb_alloc (World.grownBy_alloc w6 _ none) _) hg (.inl rfl)
  have G7 := hid (gb_trans G6.out hg2 (.inl rfl)); have M7 := hid (M6.out.grown hg2)
  clear hg hg2 G6 M6
  go_wp2_with fail
  refine (osame_as ((lit_new _ [1, 1] _ rfl 2 rfl (le_max _ (by decide))).alloc _) (lit_new2 _ _ [1] _ rfl 1 rfl (le_max _ (by decide))) (by decide) (by decide) s2.out).mono ?_
  rintro e w8 ⟨rfl, hg⟩
  have hg2 := gb_trans (gb_alloc (World.grownBy_alloc w7 _ none) _) hg (.inl rfl)
  have G8 := hid (gb_trans G7.out hg2 (.inl rfl)); have M8 := M7.out.grown hg2
  clear hg hg2 G7 M7
  obtain ⟨ab, ao, rfl, -, hcc, hcell⟩ := M8.cell (i := 0) (by decide)
  simp only [List.getElem_cons_zero, Nat.add_zero] at hcell
  clear M8
  go_wp2_with fail
  go_ret
  exact ⟨rfl, G8.out⟩
end Go.Proofs.Ytkobipkmcpbloaa
