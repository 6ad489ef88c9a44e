/-
  Contracts for package law: Next, of nil too. The condition of a call: the object lies there, slices read as numbers.
  Contracts for sync.Once as the program uses it, in one goroutine: the lock that is free is taken and given back; what was not yet done is done once. The conditions are told of the cells: the lock's word is 0.
  Contracts for the answer of package conf, which is made once: a part that may not be makes it, if no part ahead of it did. The condition: the answer's block is as the program makes it, its lock free.
  Contracts: whether just the metrics that there are have targets: by the program, and by the document. No condition.
-/
import Derived.Test.YthobbekocimcnaaZ5
import Derived.Test.YthobbekocimcnaaZ2
import Derived.Deep.RegionHeld3
import Derived.Test.YthobbekocimcnaaRows
import Derived.Test.YthobbekocimcnaaZ3
import Derived.Test.YthobbekocimcnaaZ1
import Derived.WalkKit
import Derived.WalkSpells
import Derived.WalkLawsBesides
import Derived.Defers
import Derived.Laws.Pointers
import Derived.Laws.LoneSync
import Derived.RegionTactic
import Derived.RegionCalls
import Derived.ChangeAlike
import Derived.LoopTactic
section
set_option linter.unusedSimpArgs false
set_option linter.unusedVariables false
namespace Go.Proofs.Ythobbekocimcnaa
set_option maxRecDepth 100000
open Go.RowKit

theorem LaAt.rowx {w : World} {B : LBl} {s : La} (H : LaAt w B s) : ∃ ao k m tol n, w.heap[B.b]? = some (.cells (laCells B ao k m tol n) 56) := by
  obtain ⟨ao, k, h1, -⟩ := H.row
  exact ⟨_, _, _, _, _, h1⟩
theorem lnext_nil (v : Value) (l : List Int) (w : World) (hv : IntsAt w v l) :
    Calls Try.prog 11 #[.pointer none, v] w fun e w' => e = .returned (.tuple #[.int .i64 0, .int .i64 0, .int .i64 1]) ∧ w = w' := by
  obtain ⟨p, c, rfl⟩ := hv.form
  clear hv
  go_enter Try.func11, Try.ntmps11
  go_wp2_with fail
  go_ret3
  exact ⟨rfl, rfl⟩
theorem La.most_no {s : La} {vs : List Int} (h : s.may vs = false) : raMost s.n vs s.tg s.tol = (0, false) := by
  unfold La.may raMost at *
  split at h
  · next c => rw [if_pos c]
  · cases h
theorem La.most_yes {s : La} {vs : List Int} (h : s.may vs = true) : raMost s.n vs s.tg s.tol = (s.want vs, true) := by
  unfold La.may at h; unfold La.want
  exact Prod.ext rfl h
set_option maxHeartbeats 1600000 in
theorem lnext_no {w : World} {B : LBl} {s : La} {v : Value} {vs : List Int} (hm : s.may vs = false) (H : LaAt w B s) (hv : IntsAt w v vs) :
    Calls Try.prog 11 #[.pointer (some ⟨B.b, 0, none⟩), v] w fun e w' => e = .returned (.tuple #[.int .i64 0, .int .i64 0, .int .i64 1]) ∧ w.grownBy w' none := by
  obtain ⟨pv, cv, rfl⟩ := hv.form
  obtain ⟨ao, k, hR, hIT⟩ := H.row
  have hIV := hv
  have C := hid (lcount_any H)
  have M := hid (fun (W : World) (h1 : IntsAt W (.slice pv vs.length cv) vs) (h2 : IntsAt W (.slice (some ⟨B.t, ao, none⟩) s.tg.length k) s.tg) => rmost_any s.n s.tol _ _ vs s.tg W h1 h2)
  rw [La.most_no hm] at M
  clear hv H hm
  go_enter Try.func11, Try.ntmps11
  go_wp2_with fail
  refine C.out.mono ?_
  rintro e w1 ⟨rfl, rfl⟩
  clear C
  go_wp2_with fail
  refine wp_region_held_drew (S := (fun w' => (w.grownBy w' none) ∧ (w'.heap[B.b]? = some (.cells (laCells B ao k s.tg.length s.tol s.n) 56)) ∧ (IntsAt w' (.slice (some ⟨B.t, ao, none⟩) s.tg.length k) s.tg) ∧ (IntsAt w' (.slice pv vs.length cv) vs))) (by kernel_rfl) ⟨gb_drew (.refl w none), hR, hIT, hIV⟩ (fun hHeld => ?_)
  try dsimp only at hHeld
  refine' wpAnyH_take (i := 0) (v := _) rfl (by kernel_rfl) (by kernel_rfl) (by kernel_rfl) (fun _ _ _ h => h) (Or.inl ⟨by rfl, ?_⟩) hHeld ?_
  rotate_left
  · (intro w hSw; (try dsimp only at hSw); go_simp; try with_reducible rfl)
  try simp only [Act.put, List.setIfInBounds_toArray, List.set_cons_zero, List.set_cons_succ, List.getElem_toArray, List.getElem_cons_succ, List.getElem_cons_zero]
  refine' wpAnyH_take (i := 1) (v := _) rfl (by kernel_rfl) (by kernel_rfl) (by kernel_rfl) (fun _ _ _ h => h) (Or.inl ⟨by rfl, ?_⟩) hHeld ?_
  rotate_left
  · (intro w hSw; (try dsimp only at hSw); go_simp; try with_reducible rfl)
  try simp only [Act.put, List.setIfInBounds_toArray, List.set_cons_zero, List.set_cons_succ, List.getElem_toArray, List.getElem_cons_succ, List.getElem_cons_zero]
  refine' wpAnyH_take (i := 2) (v := _) rfl (by kernel_rfl) (by kernel_rfl) (by kernel_rfl) (fun _ _ _ h => h) (Or.inl ⟨by rfl, ?_⟩) hHeld ?_
  rotate_left
  · (intro w hSw; (try dsimp only at hSw); go_simp; try with_reducible rfl)
  try simp only [Act.put, List.setIfInBounds_toArray, List.set_cons_zero, List.set_cons_succ, List.getElem_toArray, List.getElem_cons_succ, List.getElem_cons_zero]
  refine' wpAnyH_take (i := 3) (v := _) rfl (by kernel_rfl) (by kernel_rfl) (by kernel_rfl) (fun _ _ _ h => h) (Or.inl ⟨by rfl, ?_⟩) hHeld ?_
  rotate_left
  · (intro w hSw; (try dsimp only at hSw); go_simp; try with_reducible rfl)
  try simp only [Act.put, List.setIfInBounds_toArray, List.set_cons_zero, List.set_cons_succ, List.getElem_toArray, List.getElem_cons_succ, List.getElem_cons_zero]
  refine' wpAnyH_take (i := 4) (v := _) rfl (by kernel_rfl) (by kernel_rfl) (by kernel_rfl) (fun _ _ _ h => h) (Or.inl ⟨by rfl, ?_⟩) hHeld ?_
  rotate_left
  · (intro w hSw; (try dsimp only at hSw); go_simp; try with_reducible rfl)
  try simp only [Act.put, List.setIfInBounds_toArray, List.set_cons_zero, List.set_cons_succ, List.getElem_toArray, List.getElem_cons_succ, List.getElem_cons_zero]
  refine' wpAnyH_take (i := 5) (v := _) rfl (by kernel_rfl) (by kernel_rfl) (by kernel_rfl) (fun _ _ _ h => h) (Or.inl ⟨by rfl, ?_⟩) hHeld ?_
  rotate_left
  · (intro w hSw; (try dsimp only at hSw); obtain ⟨G, R, IT, IV⟩ := hSw; have c0 := at_cell R 0; go_simp; try with_reducible rfl)
  try simp only [Act.put, List.setIfInBounds_toArray, List.set_cons_zero, List.set_cons_succ, List.getElem_toArray, List.getElem_cons_succ, List.getElem_cons_zero]
  refine' wpAnyH_take (i := 6) (v := _) rfl (by kernel_rfl) (by kernel_rfl) (by kernel_rfl) (fun _ _ _ h => h) (Or.inl ⟨by rfl, ?_⟩) hHeld ?_
  rotate_left
  · (intro w hSw; (try dsimp only at hSw); go_simp; try with_reducible rfl)
  try simp only [Act.put, List.setIfInBounds_toArray, List.set_cons_zero, List.set_cons_succ, List.getElem_toArray, List.getElem_cons_succ, List.getElem_cons_zero]
  refine' wpAnyH_take (i := 7) (v := _) rfl (by kernel_rfl) (by kernel_rfl) (by kernel_rfl) (fun _ _ _ h => h) (Or.inl ⟨by rfl, ?_⟩) hHeld ?_
  rotate_left
  · (intro w hSw; (try dsimp only at hSw); go_simp; try with_reducible rfl)
  try simp only [Act.put, List.setIfInBounds_toArray, List.set_cons_zero, List.set_cons_succ, List.getElem_toArray, List.getElem_cons_succ, List.getElem_cons_zero]
  refine' wpAnyH_take (i := 8) (v := _) rfl (by kernel_rfl) (by kernel_rfl) (by kernel_rfl) (fun _ _ _ h => h) (Or.inl ⟨by rfl, ?_⟩) hHeld ?_
  rotate_left
  · (intro w hSw; (try dsimp only at hSw); go_simp; try with_reducible rfl)
  try simp only [Act.put, List.setIfInBounds_toArray, List.set_cons_zero, List.set_cons_succ, List.getElem_toArray, List.getElem_cons_succ, List.getElem_cons_zero]
  refine' wpAnyH_take (i := 9) (v := _) rfl (by kernel_rfl) (by kernel_rfl) (by kernel_rfl) (fun _ _ _ h => h) (Or.inl ⟨by rfl, ?_⟩) hHeld ?_
  rotate_left
  · (intro w hSw; (try dsimp only at hSw); obtain ⟨G, R, IT, IV⟩ := hSw; have c1 := at_cell R 1; go_simp; try with_reducible rfl)
  try simp only [Act.put, List.setIfInBounds_toArray, List.set_cons_zero, List.set_cons_succ, List.getElem_toArray, List.getElem_cons_succ, List.getElem_cons_zero]
  refine wpAnyH_ready (rs := [10]) (by kernel_rfl) (by simp) ?_
  refine AllReadyH.cons (o := _) rfl (fun K hK => ?_) AllReadyH.nil
  try simp only [List.getElem_toArray, List.getElem_cons_succ, List.getElem_cons_zero]
  go_simp
  have hH2 := hHeld
  obtain ⟨G, R, IT, IV⟩ := hH2
  refine ((M.out _ IV IT)).mono ?_
  rintro e w1010 ⟨rfl, hg⟩
  have L10 := hid (show (w.grownBy w1010 none) ∧ (w1010.heap[B.b]? = some (.cells (laCells B ao k s.tg.length s.tol s.n) 56)) ∧ (IntsAt w1010 (.slice (some ⟨B.t, ao, none⟩) s.tg.length k) s.tg) ∧ (IntsAt w1010 (.slice pv vs.length cv) vs) from ⟨gb_trans G hg (.inl rfl), at_grown R hg (by simp), IT.grown hg, IV.grown hg⟩)
  clear hHeld hg G R IT IV
  go_wp2_with fail
  refine hK.out _ _ ?_ (fun hHeld => ?_)
  · exact L10.out
  clear hK K
  try dsimp only at hHeld
  try simp only [Act.put, List.setIfInBounds_toArray, List.set_cons_zero, List.set_cons_succ, List.getElem_toArray, List.getElem_cons_succ, List.getElem_cons_zero]
  refine' wpAnyH_take (i := 11) (v := _) rfl (by kernel_rfl) (by kernel_rfl) (by kernel_rfl) (fun _ _ _ h => h) (Or.inl ⟨by rfl, ?_⟩) hHeld ?_
  rotate_left
  · (intro w hSw; (try dsimp only at hSw); go_simp; try with_reducible rfl)
  try simp only [Act.put, List.setIfInBounds_toArray, List.set_cons_zero, List.set_cons_succ, List.getElem_toArray, List.getElem_cons_succ, List.getElem_cons_zero]
  refine' wpAnyH_take (i := 12) (v := _) rfl (by kernel_rfl) (by kernel_rfl) (by kernel_rfl) (fun _ _ _ h => h) (Or.inl ⟨by rfl, ?_⟩) hHeld ?_
  rotate_left
  · (intro w hSw; (try dsimp only at hSw); go_simp; try with_reducible rfl)
  try simp only [Act.put, List.setIfInBounds_toArray, List.set_cons_zero, List.set_cons_succ, List.getElem_toArray, List.getElem_cons_succ, List.getElem_cons_zero]
  refine' wpAnyH_take (i := 13) (v := _) rfl (by kernel_rfl) (by kernel_rfl) (by kernel_rfl) (fun _ _ _ h => h) (Or.inl ⟨by rfl, ?_⟩) hHeld ?_
  rotate_left
  · (intro w hSw; (try dsimp only at hSw); go_simp; try with_reducible rfl)
  try simp only [Act.put, List.setIfInBounds_toArray, List.set_cons_zero, List.set_cons_succ, List.getElem_toArray, List.getElem_cons_succ, List.getElem_cons_zero]
  refine' wpAnyH_take (i := 14) (v := _) rfl (by kernel_rfl) (by kernel_rfl) (by kernel_rfl) (fun _ _ _ h => h) (Or.inl ⟨by rfl, ?_⟩) hHeld ?_
  rotate_left
  · (intro w hSw; (try dsimp only at hSw); go_simp; try with_reducible rfl)
  try simp only [Act.put, List.setIfInBounds_toArray, List.set_cons_zero, List.set_cons_succ, List.getElem_toArray, List.getElem_cons_succ, List.getElem_cons_zero]
  refine' wpAnyH_take (i := 15) (v := _) rfl (by kernel_rfl) (by kernel_rfl) (by kernel_rfl) (fun _ _ _ h => h) (Or.inl ⟨by rfl, ?_⟩) hHeld ?_
  rotate_left
  · (intro w hSw; (try dsimp only at hSw); go_simp; try with_reducible rfl)
  try simp only [Act.put, List.setIfInBounds_toArray, List.set_cons_zero, List.set_cons_succ, List.getElem_toArray, List.getElem_cons_succ, List.getElem_cons_zero]
  refine wpAnyH_done (by kernel_rfl) ?_ _
  obtain ⟨G, R, IT, IV⟩ := hHeld
  have G1 := hid G; clear G R IT IV
  go_wp2_with fail
  go_ret3
  exact ⟨rfl, G1.out⟩
set_option maxHeartbeats 3200000 in
theorem lnext_yes {w : World} {B : LBl} {s : La} {v : Value} {vs : List Int} (hm : s.may vs = true) (H : LaAt w B s) (hv : IntsAt w v vs) :
    Calls Try.prog 11 #[.pointer (some ⟨B.b, 0, none⟩), v] w fun e w' => e = .returned (.tuple #[.int .i64 (s.come vs), .int .i64 (s.want vs), .int .i64 0]) ∧ LaAt w' B (s.next vs) ∧ Chg B.F w w' := by
  obtain ⟨pv, cv, rfl⟩ := hv.form
  obtain ⟨ao, k, hR, hIT⟩ := H.row
  have hIV := hv
  have C := hid (lcount_any H)
  have M := hid (fun (W : World) (h1 : IntsAt W (.slice pv vs.length cv) vs) (h2 : IntsAt W (.slice (some ⟨B.t, ao, none⟩) s.tg.length k) s.tg) => rmost_any s.n s.tol _ _ vs s.tg W h1 h2)
  rw [La.most_yes hm] at M
  have hin : s.po.in (s.come vs) = true := Po.in_iff.2 (La.come_in H.ok vs)
  have hy : s.po.lim ((s.ca.push (s.want vs)).out s.n) = s.come vs := rfl
  have hs := La.next_set s vs
  rw [hs]
  generalize s.want vs = x at *
  generalize s.come vs = y at *
  have HIN := hid (show ({ s with ca := s.ca.push x } : La).po.in y = true from hin)
  obtain ⟨o1, ho1⟩ : ∃ o, (s.ca.push x).out s.n = o := ⟨_, rfl⟩
  rw [ho1] at hy
  have HO1 := hid ho1; have HY := hid hy
  have HH := hid H
  clear hv H hm hin hs hy ho1
  go_enter Try.func11, Try.ntmps11
  go_wp2_with fail
  refine C.out.mono ?_
  rintro e w1 ⟨rfl, rfl⟩
  clear C
  go_wp2_with fail
  refine wp_region_held_drew (S := (fun w' => (w.grownBy w' none) ∧ (w'.heap[B.b]? = some (.cells (laCells B ao k s.tg.length s.tol s.n) 56)) ∧ (IntsAt w' (.slice (some ⟨B.t, ao, none⟩) s.tg.length k) s.tg) ∧ (IntsAt w' (.slice pv vs.length cv) vs))) (by kernel_rfl) ⟨gb_drew (.refl w none), hR, hIT, hIV⟩ (fun hHeld => ?_)
  try dsimp only at hHeld
  refine' wpAnyH_take (i := 0) (v := _) rfl (by kernel_rfl) (by kernel_rfl) (by kernel_rfl) (fun _ _ _ h => h) (Or.inl ⟨by rfl, ?_⟩) hHeld ?_
  rotate_left
  · (intro w hSw; (try dsimp only at hSw); go_simp; try with_reducible rfl)
  try simp only [Act.put, List.setIfInBounds_toArray, List.set_cons_zero, List.set_cons_succ, List.getElem_toArray, List.getElem_cons_succ, List.getElem_cons_zero]
  refine' wpAnyH_take (i := 1) (v := _) rfl (by kernel_rfl) (by kernel_rfl) (by kernel_rfl) (fun _ _ _ h => h) (Or.inl ⟨by rfl, ?_⟩) hHeld ?_
  rotate_left
  · (intro w hSw; (try dsimp only at hSw); go_simp; try with_reducible rfl)
  try simp only [Act.put, List.setIfInBounds_toArray, List.set_cons_zero, List.set_cons_succ, List.getElem_toArray, List.getElem_cons_succ, List.getElem_cons_zero]
  refine' wpAnyH_take (i := 2) (v := _) rfl (by kernel_rfl) (by kernel_rfl) (by kernel_rfl) (fun _ _ _ h => h) (Or.inl ⟨by rfl, ?_⟩) hHeld ?_
  rotate_left
  · (intro w hSw; (try dsimp only at hSw); go_simp; try with_reducible rfl)
  try simp only [Act.put, List.setIfInBounds_toArray, List.set_cons_zero, List.set_cons_succ, List.getElem_toArray, List.getElem_cons_succ, List.getElem_cons_zero]
  refine' wpAnyH_take (i := 3) (v := _) rfl (by kernel_rfl) (by kernel_rfl) (by kernel_rfl) (fun _ _ _ h => h) (Or.inl ⟨by rfl, ?_⟩) hHeld ?_
  rotate_left
  · (intro w hSw; (try dsimp only at hSw); go_simp; try with_reducible rfl)
  try simp only [Act.put, List.setIfInBounds_toArray, List.set_cons_zero, List.set_cons_succ, List.getElem_toArray, List.getElem_cons_succ, List.getElem_cons_zero]
  refine' wpAnyH_take (i := 4) (v := _) rfl (by kernel_rfl) (by kernel_rfl) (by kernel_rfl) (fun _ _ _ h => h) (Or.inl ⟨by rfl, ?_⟩) hHeld ?_
  rotate_left
  · (intro w hSw; (try dsimp only at hSw); go_simp; try with_reducible rfl)
  try simp only [Act.put, List.setIfInBounds_toArray, List.set_cons_zero, List.set_cons_succ, List.getElem_toArray, List.getElem_cons_succ, List.getElem_cons_zero]
  refine' wpAnyH_take (i := 5) (v := _) rfl (by kernel_rfl) (by kernel_rfl) (by kernel_rfl) (fun _ _ _ h => h) (Or.inl ⟨by rfl, ?_⟩) hHeld ?_
  rotate_left
  · (intro w hSw; (try dsimp only at hSw); obtain ⟨G, R, IT, IV⟩ := hSw; have c0 := at_cell R 0; go_simp; try with_reducible rfl)
  try simp only [Act.put, List.setIfInBounds_toArray, List.set_cons_zero, List.set_cons_succ, List.getElem_toArray, List.getElem_cons_succ, List.getElem_cons_zero]
  refine' wpAnyH_take (i := 6) (v := _) rfl (by kernel_rfl) (by kernel_rfl) (by kernel_rfl) (fun _ _ _ h => h) (Or.inl ⟨by rfl, ?_⟩) hHeld ?_
  rotate_left
  · (intro w hSw; (try dsimp only at hSw); go_simp; try with_reducible rfl)
  try simp only [Act.put, List.setIfInBounds_toArray, List.set_cons_zero, List.set_cons_succ, List.getElem_toArray, List.getElem_cons_succ, List.getElem_cons_zero]
  refine' wpAnyH_take (i := 7) (v := _) rfl (by kernel_rfl) (by kernel_rfl) (by kernel_rfl) (fun _ _ _ h => h) (Or.inl ⟨by rfl, ?_⟩) hHeld ?_
  rotate_left
  · (intro w hSw; (try dsimp only at hSw); go_simp; try with_reducible rfl)
  try simp only [Act.put, List.setIfInBounds_toArray, List.set_cons_zero, List.set_cons_succ, List.getElem_toArray, List.getElem_cons_succ, List.getElem_cons_zero]
  refine' wpAnyH_take (i := 8) (v := _) rfl (by kernel_rfl) (by kernel_rfl) (by kernel_rfl) (fun _ _ _ h => h) (Or.inl ⟨by rfl, ?_⟩) hHeld ?_
  rotate_left
  · (intro w hSw; (try dsimp only at hSw); go_simp; try with_reducible rfl)
  try simp only [Act.put, List.setIfInBounds_toArray, List.set_cons_zero, List.set_cons_succ, List.getElem_toArray, List.getElem_cons_succ, List.getElem_cons_zero]
  refine' wpAnyH_take (i := 9) (v := _) rfl (by kernel_rfl) (by kernel_rfl) (by kernel_rfl) (fun _ _ _ h => h) (Or.inl ⟨by rfl, ?_⟩) hHeld ?_
  rotate_left
  · (intro w hSw; (try dsimp only at hSw); obtain ⟨G, R, IT, IV⟩ := hSw; have c1 := at_cell R 1; go_simp; try with_reducible rfl)
  try simp only [Act.put, List.setIfInBounds_toArray, List.set_cons_zero, List.set_cons_succ, List.getElem_toArray, List.getElem_cons_succ, List.getElem_cons_zero]
  refine wpAnyH_ready (rs := [10]) (by kernel_rfl) (by simp) ?_
  refine AllReadyH.cons (o := _) rfl (fun K hK => ?_) AllReadyH.nil
  try simp only [List.getElem_toArray, List.getElem_cons_succ, List.getElem_cons_zero]
  go_simp
  have hH2 := hHeld
  obtain ⟨G, R, IT, IV⟩ := hH2
  refine ((M.out _ IV IT)).mono ?_
  rintro e w1010 ⟨rfl, hg⟩
  have L10 := hid (show (w.grownBy w1010 none) ∧ (w1010.heap[B.b]? = some (.cells (laCells B ao k s.tg.length s.tol s.n) 56)) ∧ (IntsAt w1010 (.slice (some ⟨B.t, ao, none⟩) s.tg.length k) s.tg) ∧ (IntsAt w1010 (.slice pv vs.length cv) vs) from ⟨gb_trans G hg (.inl rfl), at_grown R hg (by simp), IT.grown hg, IV.grown hg⟩)
  clear hHeld hg G R IT IV
  go_wp2_with fail
  refine hK.out _ _ ?_ (fun hHeld => ?_)
  · exact L10.out
  clear hK K
  try dsimp only at hHeld
  try simp only [Act.put, List.setIfInBounds_toArray, List.set_cons_zero, List.set_cons_succ, List.getElem_toArray, List.getElem_cons_succ, List.getElem_cons_zero]
  refine' wpAnyH_take (i := 11) (v := _) rfl (by kernel_rfl) (by kernel_rfl) (by kernel_rfl) (fun _ _ _ h => h) (Or.inl ⟨by rfl, ?_⟩) hHeld ?_
  rotate_left
  · (intro w hSw; (try dsimp only at hSw); go_simp; try with_reducible rfl)
  try simp only [Act.put, List.setIfInBounds_toArray, List.set_cons_zero, List.set_cons_succ, List.getElem_toArray, List.getElem_cons_succ, List.getElem_cons_zero]
  refine' wpAnyH_take (i := 12) (v := _) rfl (by kernel_rfl) (by kernel_rfl) (by kernel_rfl) (fun _ _ _ h => h) (Or.inl ⟨by rfl, ?_⟩) hHeld ?_
  rotate_left
  · (intro w hSw; (try dsimp only at hSw); go_simp; try with_reducible rfl)
  try simp only [Act.put, List.setIfInBounds_toArray, List.set_cons_zero, List.set_cons_succ, List.getElem_toArray, List.getElem_cons_succ, List.getElem_cons_zero]
  refine' wpAnyH_take (i := 13) (v := _) rfl (by kernel_rfl) (by kernel_rfl) (by kernel_rfl) (fun _ _ _ h => h) (Or.inl ⟨by rfl, ?_⟩) hHeld ?_
  rotate_left
  · (intro w hSw; (try dsimp only at hSw); go_simp; try with_reducible rfl)
  try simp only [Act.put, List.setIfInBounds_toArray, List.set_cons_zero, List.set_cons_succ, List.getElem_toArray, List.getElem_cons_succ, List.getElem_cons_zero]
  refine' wpAnyH_take (i := 14) (v := _) rfl (by kernel_rfl) (by kernel_rfl) (by kernel_rfl) (fun _ _ _ h => h) (Or.inl ⟨by rfl, ?_⟩) hHeld ?_
  rotate_left
  · (intro w hSw; (try dsimp only at hSw); go_simp; try with_reducible rfl)
  try simp only [Act.put, List.setIfInBounds_toArray, List.set_cons_zero, List.set_cons_succ, List.getElem_toArray, List.getElem_cons_succ, List.getElem_cons_zero]
  refine' wpAnyH_take (i := 15) (v := _) rfl (by kernel_rfl) (by kernel_rfl) (by kernel_rfl) (fun _ _ _ h => h) (Or.inl ⟨by rfl, ?_⟩) hHeld ?_
  rotate_left
  · (intro w hSw; (try dsimp only at hSw); go_simp; try with_reducible rfl)
  try simp only [Act.put, List.setIfInBounds_toArray, List.set_cons_zero, List.set_cons_succ, List.getElem_toArray, List.getElem_cons_succ, List.getElem_cons_zero]
  refine wpAnyH_done (by kernel_rfl) ?_ _
  obtain ⟨G, R, IT, IV⟩ := hHeld
  have G1 := hid G; clear G R IT IV
  go_wp2_with fail
  generalize w1010 = WQ at *
  have T := hid ((HH.out.grown G1.out).drew); have HC := hid (show Chg B.F w WQ.drew from (chg_grown G1.out B.F).drew); clear G1 M HH hR hIT hIV
  refine wp_region_held_drew (S := (fun w' => (∃ ao k m tol n, w'.heap[B.b]? = some (.cells (laCells B ao k m tol n) 56)))) (by kernel_rfl) T.out.rowx (fun hHeld => ?_)
  try dsimp only at hHeld
  refine' wpAnyH_take (i := 0) (v := _) rfl (by kernel_rfl) (by kernel_rfl) (by kernel_rfl) (fun _ _ _ h => h) (Or.inl ⟨by rfl, ?_⟩) hHeld ?_
  rotate_left
  · (intro w hSw; (try dsimp only at hSw); go_simp; try with_reducible rfl)
  try simp only [Act.put, List.setIfInBounds_toArray, List.set_cons_zero, List.set_cons_succ, List.getElem_toArray, List.getElem_cons_succ, List.getElem_cons_zero]
  refine' wpAnyH_take (i := 1) (v := _) rfl (by kernel_rfl) (by kernel_rfl) (by kernel_rfl) (fun _ _ _ h => h) (Or.inl ⟨by rfl, ?_⟩) hHeld ?_
  rotate_left
  · (intro w hSw; (try dsimp only at hSw); go_simp; try with_reducible rfl)
  try simp only [Act.put, List.setIfInBounds_toArray, List.set_cons_zero, List.set_cons_succ, List.getElem_toArray, List.getElem_cons_succ, List.getElem_cons_zero]
  refine' wpAnyH_take (i := 2) (v := _) rfl (by kernel_rfl) (by kernel_rfl) (by kernel_rfl) (fun _ _ _ h => h) (Or.inl ⟨by rfl, ?_⟩) hHeld ?_
  rotate_left
  · (intro w hSw; (try dsimp only at hSw); go_simp; try with_reducible rfl)
  try simp only [Act.put, List.setIfInBounds_toArray, List.set_cons_zero, List.set_cons_succ, List.getElem_toArray, List.getElem_cons_succ, List.getElem_cons_zero]
  refine' wpAnyH_take (i := 3) (v := _) rfl (by kernel_rfl) (by kernel_rfl) (by kernel_rfl) (fun _ _ _ h => h) (Or.inl ⟨by rfl, ?_⟩) hHeld ?_
  rotate_left
  · (intro w hSw; (try dsimp only at hSw); go_simp; try with_reducible rfl)
  try simp only [Act.put, List.setIfInBounds_toArray, List.set_cons_zero, List.set_cons_succ, List.getElem_toArray, List.getElem_cons_succ, List.getElem_cons_zero]
  refine' wpAnyH_take (i := 4) (v := _) rfl (by kernel_rfl) (by kernel_rfl) (by kernel_rfl) (fun _ _ _ h => h) (Or.inl ⟨by rfl, ?_⟩) hHeld ?_
  rotate_left
  · (intro w hSw; (try dsimp only at hSw); have R := hSw; obtain ⟨ao', k', m', tol', n', R⟩ := R; have c2 := at_cell R 2; have c3 := at_cell R 3; go_simp; try with_reducible rfl)
  try simp only [Act.put, List.setIfInBounds_toArray, List.set_cons_zero, List.set_cons_succ, List.getElem_toArray, List.getElem_cons_succ, List.getElem_cons_zero]
  refine' wpAnyH_take (i := 5) (v := _) rfl (by kernel_rfl) (by kernel_rfl) (by kernel_rfl) (fun _ _ _ h => h) (Or.inl ⟨by rfl, ?_⟩) hHeld ?_
  rotate_left
  · (intro w hSw; (try dsimp only at hSw); go_simp; try with_reducible rfl)
  try simp only [Act.put, List.setIfInBounds_toArray, List.set_cons_zero, List.set_cons_succ, List.getElem_toArray, List.getElem_cons_succ, List.getElem_cons_zero]
  refine' wpAnyH_take (i := 6) (v := _) rfl (by kernel_rfl) (by kernel_rfl) (by kernel_rfl) (fun _ _ _ h => h) (Or.inl ⟨by rfl, ?_⟩) hHeld ?_
  rotate_left
  · (intro w hSw; (try dsimp only at hSw); go_simp; try with_reducible rfl)
  try simp only [Act.put, List.setIfInBounds_toArray, List.set_cons_zero, List.set_cons_succ, List.getElem_toArray, List.getElem_cons_succ, List.getElem_cons_zero]
  refine' wpAnyH_take (i := 7) (v := _) rfl (by kernel_rfl) (by kernel_rfl) (by kernel_rfl) (fun _ _ _ h => h) (Or.inl ⟨by rfl, ?_⟩) hHeld ?_
  rotate_left
  · (intro w hSw; (try dsimp only at hSw); go_simp; try with_reducible rfl)
  try simp only [Act.put, List.setIfInBounds_toArray, List.set_cons_zero, List.set_cons_succ, List.getElem_toArray, List.getElem_cons_succ, List.getElem_cons_zero]
  refine' wpAnyH_take (i := 8) (v := _) rfl (by kernel_rfl) (by kernel_rfl) (by kernel_rfl) (fun _ _ _ h => h) (Or.inl ⟨by rfl, ?_⟩) hHeld ?_
  rotate_left
  · (intro w hSw; (try dsimp only at hSw); have R := hSw; obtain ⟨ao', k', m', tol', n', R⟩ := R; have c2 := at_cell R 2; have c3 := at_cell R 3; go_simp; try with_reducible rfl)
  try simp only [Act.put, List.setIfInBounds_toArray, List.set_cons_zero, List.set_cons_succ, List.getElem_toArray, List.getElem_cons_succ, List.getElem_cons_zero]
  refine' wpAnyH_take (i := 9) (v := _) rfl (by kernel_rfl) (by kernel_rfl) (by kernel_rfl) (fun _ _ _ h => h) (Or.inl ⟨by rfl, ?_⟩) hHeld ?_
  rotate_left
  · (intro w hSw; (try dsimp only at hSw); go_simp; try with_reducible rfl)
  try simp only [Act.put, List.setIfInBounds_toArray, List.set_cons_zero, List.set_cons_succ, List.getElem_toArray, List.getElem_cons_succ, List.getElem_cons_zero]
  refine' wpAnyH_take (i := 10) (v := _) rfl (by kernel_rfl) (by kernel_rfl) (by kernel_rfl) (fun _ _ _ h => h) (Or.inl ⟨by rfl, ?_⟩) hHeld ?_
  rotate_left
  · (intro w hSw; (try dsimp only at hSw); go_simp; try with_reducible rfl)
  try simp only [Act.put, List.setIfInBounds_toArray, List.set_cons_zero, List.set_cons_succ, List.getElem_toArray, List.getElem_cons_succ, List.getElem_cons_zero]
  refine' wpAnyH_take (i := 14) (v := _) rfl (by kernel_rfl) (by kernel_rfl) (by kernel_rfl) (fun _ _ _ h => h) (Or.inl ⟨by rfl, ?_⟩) hHeld ?_
  rotate_left
  · (intro w hSw; (try dsimp only at hSw); go_simp; try with_reducible rfl)
  try simp only [Act.put, List.setIfInBounds_toArray, List.set_cons_zero, List.set_cons_succ, List.getElem_toArray, List.getElem_cons_succ, List.getElem_cons_zero]
  refine wpAnyH_ready (rs := [11]) (by kernel_rfl) (by simp) ?_
  refine AllReadyH.cons (o := _) rfl (fun K hK => ?_) AllReadyH.nil
  try simp only [List.getElem_toArray, List.getElem_cons_succ, List.getElem_cons_zero]
  go_simp
  have hH2 := hHeld
  have R := hH2
  refine ((next_any s.n x T.out.ca)).mono ?_
  rintro e w1011 ⟨he, hc, hch⟩
  obtain rfl := he
  have R := (T.out.calm hc hch).rowx
  replace HC := hid (HC.out.then (hch.more (by simp)))
  replace T := hid (T.out.calm hc hch)
  rw [HO1.out]
  clear hc hch
  have hg := True.intro
  have L11 := hid (show (∃ ao k m tol n, w1011.heap[B.b]? = some (.cells (laCells B ao k m tol n) 56)) from R)
  clear hHeld hg R
  go_wp2_with fail
  refine hK.out _ _ ?_ (fun hHeld => ?_)
  · exact L11.out
  clear hK K
  try dsimp only at hHeld
  try simp only [Act.put, List.setIfInBounds_toArray, List.set_cons_zero, List.set_cons_succ, List.getElem_toArray, List.getElem_cons_succ, List.getElem_cons_zero]
  refine wpAnyH_ready (rs := [12]) (by kernel_rfl) (by simp) ?_
  refine AllReadyH.cons (o := _) rfl (fun K hK => ?_) AllReadyH.nil
  try simp only [List.getElem_toArray, List.getElem_cons_succ, List.getElem_cons_zero]
  go_simp
  have hH2 := hHeld
  have R := hH2
  refine ((plim_any o1 T.out.po)).mono ?_
  rintro e w1012 ⟨he, hg⟩
  obtain rfl := he
  replace T := hid (T.out.grown hg)
  have R := T.out.rowx
  replace HC := hid (HC.out.grown hg)
  rw [show ({ s with ca := s.ca.push x } : La).po.lim o1 = y from HY.out]
  have L12 := hid (show (∃ ao k m tol n, w1012.heap[B.b]? = some (.cells (laCells B ao k m tol n) 56)) from R)
  clear hHeld hg R
  go_wp2_with fail
  refine hK.out _ _ ?_ (fun hHeld => ?_)
  · exact L12.out
  clear hK K
  try dsimp only at hHeld
  try simp only [Act.put, List.setIfInBounds_toArray, List.set_cons_zero, List.set_cons_succ, List.getElem_toArray, List.getElem_cons_succ, List.getElem_cons_zero]
  refine wpAnyH_ready (rs := [13]) (by kernel_rfl) (by simp) ?_
  refine AllReadyH.cons (o := _) rfl (fun K hK => ?_) AllReadyH.nil
  try simp only [List.getElem_toArray, List.getElem_cons_succ, List.getElem_cons_zero]
  go_simp
  have hH2 := hHeld
  have R := hH2
  refine ((lput_any (s := { s with ca := s.ca.push x }) HIN.out T.out)).mono ?_
  rintro e w1013 ⟨he, hl, hch⟩
  obtain rfl := he
  have R := hl.rowx
  replace HC := hid (HC.out.then hch)
  have T3 := hid hl
  clear hl hch
  have hg := True.intro
  have L13 := hid (show (∃ ao k m tol n, w1013.heap[B.b]? = some (.cells (laCells B ao k m tol n) 56)) from R)
  clear hHeld hg R
  go_wp2_with fail
  refine hK.out _ _ ?_ (fun hHeld => ?_)
  · exact L13.out
  clear hK K
  try dsimp only at hHeld
  try simp only [Act.put, List.setIfInBounds_toArray, List.set_cons_zero, List.set_cons_succ, List.getElem_toArray, List.getElem_cons_succ, List.getElem_cons_zero]
  refine' wpAnyH_take (i := 15) (v := _) rfl (by kernel_rfl) (by kernel_rfl) (by kernel_rfl) (fun _ _ _ h => h) (Or.inl ⟨by rfl, ?_⟩) hHeld ?_
  rotate_left
  · (intro w hSw; (try dsimp only at hSw); go_simp; try with_reducible rfl)
  try simp only [Act.put, List.setIfInBounds_toArray, List.set_cons_zero, List.set_cons_succ, List.getElem_toArray, List.getElem_cons_succ, List.getElem_cons_zero]
  refine' wpAnyH_take (i := 16) (v := _) rfl (by kernel_rfl) (by kernel_rfl) (by kernel_rfl) (fun _ _ _ h => h) (Or.inl ⟨by rfl, ?_⟩) hHeld ?_
  rotate_left
  · (intro w hSw; (try dsimp only at hSw); go_simp; try with_reducible rfl)
  try simp only [Act.put, List.setIfInBounds_toArray, List.set_cons_zero, List.set_cons_succ, List.getElem_toArray, List.getElem_cons_succ, List.getElem_cons_zero]
  refine' wpAnyH_take (i := 17) (v := _) rfl (by kernel_rfl) (by kernel_rfl) (by kernel_rfl) (fun _ _ _ h => h) (Or.inl ⟨by rfl, ?_⟩) hHeld ?_
  rotate_left
  · (intro w hSw; (try dsimp only at hSw); go_simp; try with_reducible rfl)
  try simp only [Act.put, List.setIfInBounds_toArray, List.set_cons_zero, List.set_cons_succ, List.getElem_toArray, List.getElem_cons_succ, List.getElem_cons_zero]
  refine wpAnyH_done (by kernel_rfl) ?_ _
  have R := hHeld
  clear R
  go_wp2_with fail
  go_ret3
  exact ⟨rfl, T3.out, HC.out⟩
end Go.Proofs.Ythobbekocimcnaa
end
section
namespace Go.Proofs.Ythobbekocimcnaa
set_option maxRecDepth 100000
open Go.RowKit

theorem disable (w : World) : (callFunc 69 #[]).run Try.prog w = .ok (.value (.tuple #[])) w := run_call_mark0 Try.func69 (by kernel_rfl) (by kernel_rfl) (by kernel_rfl) .disable (by kernel_rfl) w
theorem enable (w : World) : (callFunc 71 #[]).run Try.prog w = .ok (.value (.tuple #[])) w := run_call_mark0 Try.func71 (by kernel_rfl) (by kernel_rfl) (by kernel_rfl) .enable (by kernel_rfl) w
theorem acquire (a : Addr) (w : World) : (callFunc 72 #[.pointer (some a)]).run Try.prog w = .ok (.value (.tuple #[])) w := run_call_marked Try.func72 (by kernel_rfl) (by kernel_rfl) (by kernel_rfl) .acquire (by kernel_rfl) a w
theorem releaseMerge (a : Addr) (w : World) : (callFunc 74 #[.pointer (some a)]).run Try.prog w = .ok (.value (.tuple #[])) w := run_call_marked Try.func74 (by kernel_rfl) (by kernel_rfl) (by kernel_rfl) .releaseMerge (by kernel_rfl) a w

/-- '(*sync/atomic.Bool).Store(true)', entered as a deferred call: the cell holds 1. -/
theorem store_deferred (a : Addr) (x : Value) (u : FrameMode) (w : World) (hc : w.cell? a = some x) (hz : w.frozen? a = false) :
    CallsD Try.prog 64 #[.pointer (some a), .bool true] u w fun e u' w' => u' = u ∧ (e = .returned (.tuple #[]) ∧ w' = w.drew.setCell a (.int .u32 1)) := by
  have hc' : w.drew.cell? a = some x := by go_simp
  have hz' : w.drew.frozen? a = false := by go_simp
  have hst := run_call_store (P := Try.prog) Try.func67 (by kernel_rfl) (by kernel_rfl) (by kernel_rfl) (by kernel_rfl) (k := .u32) (y := 1) hc' hz'
  go_enter_d Try.func64, Try.ntmps64
  go_wp2
  go_region_calls
  all_goals (go_end0; exact ⟨rfl, rfl⟩)

/-- '(*sync.Mutex).Unlock', entered as a deferred call, the lock held and nobody waiting (state 1): state 0. -/
theorem unlock_deferred (a : Addr) (u : FrameMode) (w : World) (hc : w.cell? a = some (.int .i32 1)) (hz : w.frozen? a = false) :
    CallsD Try.prog 63 #[.pointer (some a)] u w fun e u' w' => u' = u ∧ (e = .returned (.tuple #[]) ∧ w' = w.setCell a (.int .i32 0)) := by
  have hd := disable
  have he := enable
  have hr := releaseMerge
  have hadd := run_call_add (P := Try.prog) Try.func75 (by kernel_rfl) (by kernel_rfl) (by kernel_rfl) .i32 (by kernel_rfl) (y := -1) (s := 0) hc hz (by simp [go_sem]; rfl)
  have hcv := run_convert_to_unsafe (P := Try.prog) (src := 118) (dst := 122) Try.underlying118 Try.underlying122 (by kernel_rfl) hc
  go_enter_d Try.func63, Try.ntmps63
  go_wp2
  go_end0
  go_wp2
  go_end0
  exact ⟨rfl, rfl⟩

/-- '(*sync.Mutex).Lock', the lock free (state 0): state 1. -/
theorem lock_free (a : Addr) (w : World) (hc : w.cell? a = some (.int .i32 0)) (hz : w.frozen? a = false) :
    Calls Try.prog 62 #[.pointer (some a)] w fun e w' => e = .returned (.tuple #[]) ∧ w' = w.setCell a (.int .i32 1) := by
  have hd := disable
  have he := enable
  have ha := acquire
  have hcas := run_call_cas_hit (P := Try.prog) Try.func70 (by kernel_rfl) (by kernel_rfl) (by kernel_rfl) .i32 (by kernel_rfl) (y := 1) hc hz
  have hc' : (w.setCell a (.int .i32 1)).cell? a = some (.int .i32 1) := World.cell?_setCell_same w a _ hc
  have hcv := run_convert_to_unsafe (P := Try.prog) (src := 118) (dst := 122) Try.underlying118 Try.underlying122 (by kernel_rfl) hc'
  go_enter Try.func62, Try.ntmps62
  go_wp2
  first | go_end0 | (simp only [Exit.inBlock, Exit.then]; refine bodyPost_ret (results_none rfl _ _ _) rfl ?_) | refine bodyPost_ret (results_none rfl _ _ _) rfl ?_
  go_wp2
  go_end0
  exact ⟨rfl, rfl⟩

/-- '(*sync.Once).Do', done already: the function is not called. -/
theorem do_done (a : Addr) (d : Int) (hd : ¬ d = 0) (fv : Value) (w : World) (h0 : w.cell? a = some (.int .u32 d)) :
    Calls Try.prog 57 #[.pointer (some a), fv] w fun e w' => e = .returned (.tuple #[]) ∧ w' = w := by
  have hl := run_call_load (P := Try.prog) Try.func61 (by kernel_rfl) (by kernel_rfl) (by kernel_rfl) .u32 (by kernel_rfl) h0
  have hnot : ∀ (x : Bool) (w : World), (Op.unary .not (.bool x)).run Try.prog w = .ok (.bool (!x)) w := fun _ _ => rfl
  have hd' : (d != 0) = true := by simp [hd]
  go_enter Try.func57, Try.ntmps57
  go_wp2
  go_end0
  exact ⟨rfl, rfl⟩
end Go.Proofs.Ythobbekocimcnaa
end
section
set_option linter.unusedSimpArgs false
namespace Go.Proofs.Ythobbekocimcnaa
set_option maxRecDepth 100000
open Go.RowKit

/-- a block that is an answer: not made, or made with a name -/
@[reducible] def ansObj (done : Int) (s : ByteArray) : Obj := .cells #[.int .u32 done, .int .i32 0, .int .u32 0, .string s] 102
/-- which name, if one -/
@[reducible] def told1 : Option ByteArray → Obj
  | none => ansObj 0 ⟨#[]⟩
  | some s => ansObj 1 s
def ask1 (st : Option ByteArray) (s : ByteArray) (may : Bool) : Option ByteArray :=
  match st with
  | some r => some r
  | none => if may then none else some s

set_option maxHeartbeats 1600000 in
theorem cslow_any (b nb pb : Nat) (hk : b ≠ nb) (hp : b ≠ pb) (s : ByteArray) (w : World)
    (hb : w.heap[b]? = some (ansObj 0 ⟨#[]⟩))
    (hnb : w.heap[nb]? = some (.cells #[.string s] 9))
    (hpb : w.heap[pb]? = some (.cells #[.pointer (some ⟨b, 0, none⟩)] 108)) :
    Calls Try.prog 60 #[.pointer (some ⟨b, 0, none⟩), .func (.func 58) #[] #[.pointer (some ⟨nb, 0, none⟩), .pointer (some ⟨pb, 0, none⟩)]] w fun e w' => e = .returned (.tuple #[]) ∧
      w'.heap[b]? = some (ansObj 1 s) ∧ w.grownBy w' (some b) := by
  -- the world in which the lock is held
  have hb1 := at_set hb 1 (.int .i32 1)
  have hnb1 := at_set_other (p := ⟨b, 1, none⟩) hnb (fun h => hk h.symm) (.int .i32 1)
  have hpb1 := at_set_other (p := ⟨b, 1, none⟩) hpb (fun h => hp h.symm) (.int .i32 1)
  have c1 : w.cell? ⟨b, 1, none⟩ = some (.int .i32 0) := at_cell hb 1
  have f1 : w.frozen? ⟨b, 1, none⟩ = false := at_free hb 1
  have hl := run_call_load (P := Try.prog) Try.func61 (by kernel_rfl) (by kernel_rfl) (by kernel_rfl) .u32 (by kernel_rfl) (w := w.setCell ⟨b, 1, none⟩ (.int .i32 1)) (a := ⟨b, 0, none⟩) (x := 0) (at_cell hb1 0)
  have hnot : ∀ (x : Bool) (w : World), (Op.unary .not (.bool x)).run Try.prog w = .ok (.bool (!x)) w := fun _ _ => rfl
  have p0 : (w.setCell ⟨b, 1, none⟩ (.int .i32 1)).cell? ⟨pb, 0, none⟩ = some (.pointer (some ⟨b, 0, none⟩)) := at_cell hpb1 0
  have q0 : (w.setCell ⟨b, 1, none⟩ (.int .i32 1)).cell? ⟨nb, 0, none⟩ = some (.string s) := at_cell hnb1 0
  have x3 : (w.setCell ⟨b, 1, none⟩ (.int .i32 1)).cell? ⟨b, 3, none⟩ = some (.string ⟨#[]⟩) := at_cell hb1 3
  have fz : ∀ i, w.frozen? ⟨b, i, none⟩ = false := fun i => at_free hb i
  have HB := hid hb; have HB1 := hid hb1
  clear hb hnb hpb hb1 hnb1 hpb1
  go_enter_defers Try.func60, Try.ntmps60
  go_wp2_with (go_at_call 62; refine (lock_free ⟨b, 1, none⟩ _ (by go_simp) (by go_simp)).mono ?_; rintro e w' ⟨rfl, rfl⟩)
  go_wp2
  go_end0
  go_wp2
  have hb3 := at_set HB1.out 3 (.string s)
  have hb4 := at_set (at_drew hb3) 0 (.int .u32 1)
  have hb5 := at_set hb4 1 (.int .i32 0)
  have hg3 := gb_row (gb_row (.refl w (some b)) (p := ⟨b, 1, none⟩) rfl (.int .i32 1)) (p := ⟨b, 3, none⟩) rfl (.string s)
  have hg5 := gb_row (gb_row (gb_drew hg3) (p := ⟨b, 0, none⟩) rfl (.int .u32 1)) (p := ⟨b, 1, none⟩) rfl (.int .i32 0)
  -- the door: two deferred calls, the last laid first
  refine leaves_cons (f := 64) (args := #[.pointer (some ⟨b, 0, none⟩), .bool true]) (by simp) (by simp [go_sem]) ?_
  refine (store_deferred ⟨b, 0, none⟩ (.int .u32 0) .returning _ (at_cell hb3 0) (at_free hb3 0)).mono ?_
  rintro e u' w'' ⟨rfl, rfl, rfl⟩
  refine leaves_cons (f := 63) (args := #[.pointer (some ⟨b, 1, none⟩)]) (by simp [settle]) (by simp [go_sem]) ?_
  refine (unlock_deferred ⟨b, 1, none⟩ _ _ (at_cell hb4 1) (at_free hb4 1)).mono ?_
  rintro e u' w'' ⟨rfl, rfl, rfl⟩
  clear hb3 hb4 hg3 x3 p0 q0 hl HB HB1 fz c1 f1 hnot
  have H5 := hid hb5; have G5 := hid hg5; clear hb5 hg5
  simp [Go.Leaves, settle, results, Try.results60]
  exact ⟨H5.out, G5.out⟩

set_option maxHeartbeats 800000 in
theorem cdo_first (b nb pb : Nat) (hk : b ≠ nb) (hp : b ≠ pb) (s : ByteArray) (w : World)
    (hb : w.heap[b]? = some (ansObj 0 ⟨#[]⟩))
    (hnb : w.heap[nb]? = some (.cells #[.string s] 9))
    (hpb : w.heap[pb]? = some (.cells #[.pointer (some ⟨b, 0, none⟩)] 108)) :
    Calls Try.prog 57 #[.pointer (some ⟨b, 0, none⟩), .func (.func 58) #[] #[.pointer (some ⟨nb, 0, none⟩), .pointer (some ⟨pb, 0, none⟩)]] w fun e w' => e = .returned (.tuple #[]) ∧
      w'.heap[b]? = some (ansObj 1 s) ∧ w.grownBy w' (some b) := by
  have hl := run_call_load (P := Try.prog) Try.func61 (by kernel_rfl) (by kernel_rfl) (by kernel_rfl) .u32 (by kernel_rfl) (w := w) (a := ⟨b, 0, none⟩) (x := 0) (at_cell hb 0)
  have hnot : ∀ (x : Bool) (w : World), (Op.unary .not (.bool x)).run Try.prog w = .ok (.bool (!x)) w := fun _ _ => rfl
  have HB := hid hb; have HK := hid hnb; have HP := hid hpb
  clear hb hnb hpb
  go_enter Try.func57, Try.ntmps57
  go_wp2_with (go_at_call 59; go_in)
  refine (cslow_any b nb pb hk hp s _ HB.out HK.out HP.out).mono ?_
  rintro e w' ⟨rfl, h1, h2⟩
  have H1 := hid h1; clear h1
  go_wp2
  go_end0
  exact ⟨rfl, H1.out, h2⟩

set_option maxHeartbeats 800000 in
/-- a part that may be -/
theorem ask_may (b : Nat) (s : ByteArray) (w : World) :
    Calls Try.prog 48 #[.pointer (some ⟨b, 0, none⟩), .string s, .bool true] w fun e w' => e = .returned (.tuple #[]) ∧ w.grownBy w' none := by
  have hnot : ∀ (x : Bool) (w : World), (Op.unary .not (.bool x)).run Try.prog w = .ok (.bool (!x)) w := fun _ _ => rfl
  go_enter Try.func48, Try.ntmps48
  go_wp2_with fail
  go_end0
  exact ⟨rfl, gb_alloc (gb_alloc (.refl _ _) _) _⟩

set_option maxHeartbeats 800000 in
/-- the first part that may not be -/
theorem ask_first (b : Nat) (s : ByteArray) (w : World) (hb : w.heap[b]? = some (ansObj 0 ⟨#[]⟩)) :
    Calls Try.prog 48 #[.pointer (some ⟨b, 0, none⟩), .string s, .bool false] w fun e w' => e = .returned (.tuple #[]) ∧
      w'.heap[b]? = some (ansObj 1 s) ∧ w.grownBy w' (some b) := by
  have hmf : ∀ (fn : Fn) (first cap : Array Value) (w : World), (Instr.makeFunc fn first cap).run Try.prog w = .ok (.func fn first cap) w := fun _ _ _ _ => rfl
  have hnot : ∀ (x : Bool) (w : World), (Op.unary .not (.bool x)).run Try.prog w = .ok (.bool (!x)) w := fun _ _ => rfl
  have hlt := at_lt hb
  have HB := hid hb
  clear hb
  go_enter Try.func48, Try.ntmps48
  go_wp2_with fail
  refine (cdo_first b (w.heap.size + 1) w.heap.size (by omega) (by omega) s _ (at_alloc (at_alloc HB.out _) _) (by simpa using at_new (w.alloc _) _) (at_alloc (at_new w _) _)).mono ?_
  rintro e w' ⟨rfl, h1, h2⟩
  have H1 := hid h1; clear h1
  go_wp2
  go_end0
  exact ⟨rfl, H1.out, gb_trans (gb_alloc (gb_alloc (.refl _ _) _) _) h2 (.inr (.inl rfl))⟩

set_option maxHeartbeats 800000 in
/-- a later part that may not be -/
theorem ask_later (b : Nat) (s r : ByteArray) (w : World) (hb : w.heap[b]? = some (ansObj 1 r)) :
    Calls Try.prog 48 #[.pointer (some ⟨b, 0, none⟩), .string s, .bool false] w fun e w' => e = .returned (.tuple #[]) ∧ w.grownBy w' none := by
  have hmf : ∀ (fn : Fn) (first cap : Array Value) (w : World), (Instr.makeFunc fn first cap).run Try.prog w = .ok (.func fn first cap) w := fun _ _ _ _ => rfl
  have hnot : ∀ (x : Bool) (w : World), (Op.unary .not (.bool x)).run Try.prog w = .ok (.bool (!x)) w := fun _ _ => rfl
  have HB := hid hb
  clear hb
  go_enter Try.func48, Try.ntmps48
  go_wp2_with fail
  refine (do_done ⟨b, 0, none⟩ 1 (by decide) _ _ (at_cell (at_alloc (at_alloc HB.out _) _) 0)).mono ?_
  rintro e w' ⟨rfl, rfl⟩
  go_wp2
  go_end0
  exact ⟨rfl, gb_alloc (gb_alloc (.refl _ _) _) _⟩

/-- a part is asked -/
theorem ask_any (b : Nat) (s : ByteArray) (may : Bool) (st : Option ByteArray) (w : World) (hb : w.heap[b]? = some (told1 st)) :
    Calls Try.prog 48 #[.pointer (some ⟨b, 0, none⟩), .string s, .bool may] w fun e w' => e = .returned (.tuple #[]) ∧
      w'.heap[b]? = some (told1 (ask1 st s may)) ∧ w.grownBy w' (some b) := by
  have weak : ∀ {a c : World}, a.grownBy c none → a.grownBy c (some b) := fun h => ⟨h.os, h.tape, h.output, h.size, fun i hi _ => h.block i hi (by simp)⟩
  cases may with
  | true =>
    refine (ask_may b s w).mono ?_
    rintro e w' ⟨rfl, hg⟩
    refine ⟨rfl, ?_, weak hg⟩
    rw [at_grown hb hg (by simp)]
    cases st <;> rfl
  | false =>
    cases st with
    | none => exact ask_first b s w hb
    | some r =>
      refine (ask_later b s r w hb).mono ?_
      rintro e w' ⟨rfl, hg⟩
      exact ⟨rfl, at_grown hb hg (by simp), weak hg⟩
end Go.Proofs.Ythobbekocimcnaa
end
section
set_option linter.unusedSimpArgs false
namespace Go.Proofs.Ythobbekocimcnaa
set_option maxRecDepth 100000
open Go.RowKit

/-- may the i-th of m metrics have this target? -/
def tgt (m i t : Int) : Bool := if i < m then cwithin t 1 1099511627776 else t == 0
def tgts (m t0 t1 t2 t3 : Int) : Bool := tgt m 0 t0 && tgt m 1 t1 && tgt m 2 t2 && tgt m 3 t3
/-- those ahead of the k-th -/
def tgtsTo (m t0 t1 t2 t3 : Int) : Nat → Prop
  | 0 => True
  | 1 => tgt m 0 t0 = true
  | 2 => tgt m 0 t0 = true ∧ tgt m 1 t1 = true
  | 3 => tgt m 0 t0 = true ∧ tgt m 1 t1 = true ∧ tgt m 2 t2 = true
  | _ => tgt m 0 t0 = true ∧ tgt m 1 t1 = true ∧ tgt m 2 t2 = true ∧ tgt m 3 t3 = true
theorem tgts_all {m t0 t1 t2 t3 : Int} (h : tgtsTo m t0 t1 t2 t3 4) : tgts m t0 t1 t2 t3 = true := by
  simp only [tgtsTo] at h
  simp [tgts, h]

section
variable (t0 t1 t2 t3 : Int) (w : World)
theorem ix0 : (Instr.index 24 (.agg #[.int .i64 t0, .int .i64 t1, .int .i64 t2, .int .i64 t3]) (.int .i64 0)).run Try.prog w = .ok (.int .i64 t0) w := by
  simp [Instr.index, run_underlying Try.underlying24, asIntOf, go_sem]
theorem ix1 : (Instr.index 24 (.agg #[.int .i64 t0, .int .i64 t1, .int .i64 t2, .int .i64 t3]) (.int .i64 1)).run Try.prog w = .ok (.int .i64 t1) w := by
  simp [Instr.index, run_underlying Try.underlying24, asIntOf, go_sem]
theorem ix2 : (Instr.index 24 (.agg #[.int .i64 t0, .int .i64 t1, .int .i64 t2, .int .i64 t3]) (.int .i64 2)).run Try.prog w = .ok (.int .i64 t2) w := by
  simp [Instr.index, run_underlying Try.underlying24, asIntOf, go_sem]
theorem ix3 : (Instr.index 24 (.agg #[.int .i64 t0, .int .i64 t1, .int .i64 t2, .int .i64 t3]) (.int .i64 3)).run Try.prog w = .ok (.int .i64 t3) w := by
  simp [Instr.index, run_underlying Try.underlying24, asIntOf, go_sem]
end

set_option maxHeartbeats 3200000 in
theorem targets_any (t0 t1 t2 t3 m : Int) (w : World) :
    Calls Try.prog 50 #[.agg #[.int .i64 t0, .int .i64 t1, .int .i64 t2, .int .i64 t3], .int .i64 m] w fun e w' => e = .returned (.bool (tgts m t0 t1 t2 t3)) ∧ w.grownBy w' none := by
  go_enter Try.func50, Try.ntmps50
  go_wp2_with fail
  go_loopw [8] (fun i wr => ∃ k : Nat, k ≤ 4 ∧ i = .int .i64 (k : Int) ∧ tgtsTo m t0 t1 t2 t3 k ∧ w.grownBy wr none) (fun i _ => 4 - (intOf i).toNat)
  case atStart => exact ⟨0, by omega, rfl, trivial, gb_alloc (.refl w none) _⟩
  case round =>
    obtain ⟨k, hk, rfl, hd, hg⟩ := hrel
    have HD := hid hd; have HG := hid hg; clear hd hg
    have i0 := fun w => ix0 t0 t1 t2 t3 w
    have i1 := fun w => ix1 t0 t1 t2 t3 w
    have i2 := fun w => ix2 t0 t1 t2 t3 w
    have i3 := fun w => ix3 t0 t1 t2 t3 w
    have h5 : k = 0 ∨ k = 1 ∨ k = 2 ∨ k = 3 ∨ k = 4 := by omega
    rcases h5 with rfl | rfl | rfl | rfl | rfl
    · clear hk
      by_cases h : (0 : Int) < m
      · have h' : ¬ m ≤ (0 : Int) := by omega
        have hc := fun w => cwithin64_any t0 1 1099511627776 w
        cases hb : cwithin t0 1 1099511627776 with
        | true =>
          rw [hb] at hc
          go_wp2_with fail
          refine (hc _).mono ?_
          rintro e w1 ⟨rfl, rfl⟩
          go_wp2_with fail
          go_roundw
          case rel => exact ⟨1, by omega, rfl, by have h1 : tgt m 0 t0 = true := (by simp [tgt, h, hb]); have h2 := HD.out; simp_all [tgtsTo], HG.out⟩
          case measure => simp [intOf]
        | false =>
          rw [hb] at hc
          go_wp2_with fail
          refine (hc _).mono ?_
          rintro e w1 ⟨rfl, rfl⟩
          go_wp2_with fail
          go_ret
          exact ⟨by have h1 : tgt m 0 t0 = false := (by simp [tgt, h, hb]); simp [tgts, h1], HG.out⟩
      · have h' : m ≤ (0 : Int) := by omega
        by_cases hz : t0 = 0
        · subst hz
          go_wp2_with fail
          go_roundw
          case rel => exact ⟨1, by omega, rfl, by have h1 : tgt m 0 0 = true := (by unfold tgt; rw [if_neg (by omega)]; rfl); have h2 := HD.out; simp_all [tgtsTo], HG.out⟩
          case measure => simp [intOf]
        · have hzb : (t0 != 0) = true := by simp [hz]
          have HZ := hid hz; clear hz
          go_wp2_with fail
          go_ret
          have hz := HZ.out
          exact ⟨by have h1 : tgt m 0 t0 = false := (by unfold tgt; rw [if_neg (by omega)]; simp [hz]); simp [tgts, h1], HG.out⟩
    · clear hk
      by_cases h : (1 : Int) < m
      · have h' : ¬ m ≤ (1 : Int) := by omega
        have hc := fun w => cwithin64_any t1 1 1099511627776 w
        cases hb : cwithin t1 1 1099511627776 with
        | true =>
          rw [hb] at hc
          go_wp2_with fail
          refine (hc _).mono ?_
          rintro e w1 ⟨rfl, rfl⟩
          go_wp2_with fail
          go_roundw
          case rel => exact ⟨2, by omega, rfl, by have h1 : tgt m 1 t1 = true := (by simp [tgt, h, hb]); have h2 := HD.out; simp_all [tgtsTo], HG.out⟩
          case measure => simp [intOf]
        | false =>
          rw [hb] at hc
          go_wp2_with fail
          refine (hc _).mono ?_
          rintro e w1 ⟨rfl, rfl⟩
          go_wp2_with fail
          go_ret
          exact ⟨by have h1 : tgt m 1 t1 = false := (by simp [tgt, h, hb]); simp [tgts, h1], HG.out⟩
      · have h' : m ≤ (1 : Int) := by omega
        by_cases hz : t1 = 0
        · subst hz
          go_wp2_with fail
          go_roundw
          case rel => exact ⟨2, by omega, rfl, by have h1 : tgt m 1 0 = true := (by unfold tgt; rw [if_neg (by omega)]; rfl); have h2 := HD.out; simp_all [tgtsTo], HG.out⟩
          case measure => simp [intOf]
        · have hzb : (t1 != 0) = true := by simp [hz]
          have HZ := hid hz; clear hz
          go_wp2_with fail
          go_ret
          have hz := HZ.out
          exact ⟨by have h1 : tgt m 1 t1 = false := (by unfold tgt; rw [if_neg (by omega)]; simp [hz]); simp [tgts, h1], HG.out⟩
    · clear hk
      by_cases h : (2 : Int) < m
      · have h' : ¬ m ≤ (2 : Int) := by omega
        have hc := fun w => cwithin64_any t2 1 1099511627776 w
        cases hb : cwithin t2 1 1099511627776 with
        | true =>
          rw [hb] at hc
          go_wp2_with fail
          refine (hc _).mono ?_
          rintro e w1 ⟨rfl, rfl⟩
          go_wp2_with fail
          go_roundw
          case rel => exact ⟨3, by omega, rfl, by have h1 : tgt m 2 t2 = true := (by simp [tgt, h, hb]); have h2 := HD.out; simp_all [tgtsTo], HG.out⟩
          case measure => simp [intOf]
        | false =>
          rw [hb] at hc
          go_wp2_with fail
          refine (hc _).mono ?_
          rintro e w1 ⟨rfl, rfl⟩
          go_wp2_with fail
          go_ret
          exact ⟨by have h1 : tgt m 2 t2 = false := (by simp [tgt, h, hb]); simp [tgts, h1], HG.out⟩
      · have h' : m ≤ (2 : Int) := by omega
        by_cases hz : t2 = 0
        · subst hz
          go_wp2_with fail
          go_roundw
          case rel => exact ⟨3, by omega, rfl, by have h1 : tgt m 2 0 = true := (by unfold tgt; rw [if_neg (by omega)]; rfl); have h2 := HD.out; simp_all [tgtsTo], HG.out⟩
          case measure => simp [intOf]
        · have hzb : (t2 != 0) = true := by simp [hz]
          have HZ := hid hz; clear hz
          go_wp2_with fail
          go_ret
          have hz := HZ.out
          exact ⟨by have h1 : tgt m 2 t2 = false := (by unfold tgt; rw [if_neg (by omega)]; simp [hz]); simp [tgts, h1], HG.out⟩
    · clear hk
      by_cases h : (3 : Int) < m
      · have h' : ¬ m ≤ (3 : Int) := by omega
        have hc := fun w => cwithin64_any t3 1 1099511627776 w
        cases hb : cwithin t3 1 1099511627776 with
        | true =>
          rw [hb] at hc
          go_wp2_with fail
          refine (hc _).mono ?_
          rintro e w1 ⟨rfl, rfl⟩
          go_wp2_with fail
          go_roundw
          case rel => exact ⟨4, by omega, rfl, by have h1 : tgt m 3 t3 = true := (by simp [tgt, h, hb]); have h2 := HD.out; simp_all [tgtsTo], HG.out⟩
          case measure => simp [intOf]
        | false =>
          rw [hb] at hc
          go_wp2_with fail
          refine (hc _).mono ?_
          rintro e w1 ⟨rfl, rfl⟩
          go_wp2_with fail
          go_ret
          exact ⟨by have h1 : tgt m 3 t3 = false := (by simp [tgt, h, hb]); simp [tgts, h1], HG.out⟩
      · have h' : m ≤ (3 : Int) := by omega
        by_cases hz : t3 = 0
        · subst hz
          go_wp2_with fail
          go_roundw
          case rel => exact ⟨4, by omega, rfl, by have h1 : tgt m 3 0 = true := (by unfold tgt; rw [if_neg (by omega)]; rfl); have h2 := HD.out; simp_all [tgtsTo], HG.out⟩
          case measure => simp [intOf]
        · have hzb : (t3 != 0) = true := by simp [hz]
          have HZ := hid hz; clear hz
          go_wp2_with fail
          go_ret
          have hz := HZ.out
          exact ⟨by have h1 : tgt m 3 t3 = false := (by unfold tgt; rw [if_neg (by omega)]; simp [hz]); simp [tgts, h1], HG.out⟩
    · clear hk
      go_wp2_with fail
      go_ret
      exact ⟨by rw [tgts_all HD.out]; rfl, HG.out⟩

end Go.Proofs.Ythobbekocimcnaa
end
