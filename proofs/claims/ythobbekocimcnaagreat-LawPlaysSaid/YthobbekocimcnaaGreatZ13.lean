/-
  Contract: the document's NewLaw; the program's Law and the document's, side by side. The condition of a call: the object lies there, slices read as numbers.
  Slices of bools, or of numbers of kind int, that came in, by an index function. No condition. Nothing of the program's functions is named here.
-/
import Derived.Test.YthobbekocimcnaaGreatZ12
import Derived.Test.YthobbekocimcnaaGreatZ1
import Derived.Test.YthobbekocimcnaaGreatRows
import Derived.ProofKit
import Derived.OpenShut
import Derived.ChangeSlices
import Derived.Deep.Grids
section
set_option linter.unusedSimpArgs false
set_option linter.unusedVariables false
namespace Go.Proofs.YthobbekocimcnaaGreat
set_option maxRecDepth 100000
open Go.RowKit

theorem rcnew_row (u d : Nat) (hu : u ≤ 60) (hd : d ≤ 60) (w : World) :
    Calls Tryz.prog 25 #[.int .i64 (u : Int), .int .i64 (d : Int)] w fun e w' => ∃ b, e = .returned (.pointer (some ⟨b, 0, none⟩)) ∧ w'.heap[b]? = some (.cells #[.int .i64 (u : Int), .int .i64 (d : Int), .slice none 0 0] 50) ∧ w.grownBy w' none ∧ w.heap.size ≤ b := by
  have d1 : decide ((u : Int) < 0) = false := decide_eq_false (by omega)
  have d2 : decide ((60 : Int) < (u : Int)) = false := by simp; omega
  have d3 : decide ((d : Int) < 0) = false := decide_eq_false (by omega)
  have d4 : decide ((60 : Int) < (d : Int)) = false := by simp; omega
  have e2 : ¬ 60 < u := by omega
  have e4 : ¬ 60 < d := by omega
  go_enter Tryz.func25, Tryz.ntmps25
  go_wp2_with fail
  go_ret
  exact ⟨_, rfl, at_new w _, gb_alloc (.refl w none) _, Nat.le_refl _⟩
theorem rcnew_as (u d : Nat) {U D : Int} (hU : (u : Int) = U) (hD : (d : Int) = D) (hu : u ≤ 60) (hd : d ≤ 60) (w : World) :
    Calls Tryz.prog 25 #[.int .i64 U, .int .i64 D] w fun e w' => ∃ b, e = .returned (.pointer (some ⟨b, 0, none⟩)) ∧ w'.heap[b]? = some (.cells #[.int .i64 (u : Int), .int .i64 (d : Int), .slice none 0 0] 50) ∧ w.grownBy w' none ∧ w.heap.size ≤ b := by
  subst hU; subst hD; exact rcnew_row u d hu hd w
theorem PrAt.ext {w w' : World} {F : List Nat} {b y : Nat} {c : Conf} {p : Po} (H : PrAt w F b c p) (hg : w.grownBy w' none) (h1 : w.heap.size ≤ y) (h2 : y < w'.heap.size) : PrAt w' (y :: F) b c p := by
  obtain ⟨⟨q, k, r1, r2, r3⟩, h4, h5, h6, h7⟩ := H
  refine ⟨⟨q, k, at_grown r1 hg (by simp), r2.grown hg, fun a e hm => ?_⟩, List.mem_cons_of_mem _ h4, fun x hx => ?_, h6, h7⟩
  · subst e
    rcases List.mem_cons.1 hm with h | h
    · have := ints_block r2 h6.ne a _ _ rfl
      omega
    · exact r3 a rfl h
  · rcases List.mem_cons.1 hx with rfl | hx
    · exact h2
    · exact Nat.lt_of_lt_of_le (h5 x hx) hg.size
theorem lr_lts {w W : World} {bc : Nat} {F : List Nat} (h : bc < W.heap.size) (hg : w.grownBy W none) (hF : ∀ x ∈ F, x < w.heap.size) : ∀ x ∈ bc :: F, x < W.heap.size := by
  intro x hx
  rcases List.mem_cons.1 hx with rfl | hx
  · exact h
  · exact Nat.lt_of_lt_of_le (hF x hx) hg.size
theorem lr_fin {w W : World} {F : List Nat} {bc br m u d : Nat} {c : Conf} {first : Int} (hg : w.grownBy W none) (hc : W.heap[bc]? = some (.cells #[.int .i64 (u : Int), .int .i64 (d : Int), .slice none 0 0] 50)) (hp : PrAt W (br :: bc :: F) br c ⟨rt c, [first]⟩) (q0 : w.heap.size ≤ bc) (q2 : bc < br) (hF : ∀ x ∈ F, x < w.heap.size) (hm : c.m = (m : Int)) (hm4 : m ≤ 4) (ho : (laOf c m u d first).Ok) :
    LrAt (W.alloc (.cells (lrCells c bc br first) 42)) (W.heap.size :: br :: bc :: F) ⟨W.heap.size, bc, br⟩ c m (laOf c m u d first) ∧ w.grownBy (W.alloc (.cells (lrCells c bc br first) 42)) none ∧ ∀ x ∈ (LRb.mk W.heap.size bc br).F, w.heap.size ≤ x := by
  have h1 := at_lt hc
  have h2 : br < W.heap.size := hp.lt br (by simp)
  have hs := hg.size
  refine ⟨⟨at_new W _, ⟨⟨none, 0, at_alloc hc _, .nil _, fun a e => (by cases e)⟩, by simp, fun x hx => ?_, ho.ca⟩, hp.ext (World.grownBy_alloc _ _ none) (Nat.le_refl _) (by rw [size_la]; exact Nat.lt_succ_self _), by simp, by show W.heap.size ≠ bc; omega, by show W.heap.size ≠ br; omega, by show bc ≠ br; omega, lof_new c m u d first, hm, hm4, ho⟩, gb_alloc hg _, fun x hx => ?_⟩
  · rw [size_la]
    simp only [List.mem_cons] at hx
    rcases hx with rfl | rfl | rfl | hx
    · omega
    · omega
    · omega
    · have := hF x hx; omega
  · simp only [List.mem_cons, List.not_mem_nil, or_false] at hx
    rcases hx with rfl | rfl | rfl <;> omega
def LrMade (w : World) (F : List Nat) (c : Conf) (m : Nat) (s : La) (e : Ending) (w' : World) : Prop := ∃ R : LRb, e = .returned (.pointer (some ⟨R.b, 0, none⟩)) ∧ LrAt w' (R.b :: R.r :: R.c :: F) R c m s ∧ w.grownBy w' none ∧ ∀ x ∈ R.F, w.heap.size ≤ x
set_option maxHeartbeats 3200000 in
theorem lrnew_ok (c : Conf) (first : Int) (m u d : Nat) (h0 : ((st22 c).getD ⟨#[]⟩).toList.isEmpty = true) (hm : c.m = (m : Int)) (hu : (u : Int) = c.calmup) (hd : (d : Int) = c.calmdown) (hm4 : m ≤ 4) (hu60 : u ≤ 60) (hd60 : d ≤ 60) (hr : (rt c).may = true) (hi : inR (rt c) first = true) (hok : (laOf c m u d first).Ok) (F : List Nat) (w : World) (hF : ∀ x ∈ F, x < w.heap.size) :
    Calls Tryz.prog 6 #[cf c, .int .i64 first] w (LrMade w F c m (laOf c m u d first)) := by
  have K := hid (boxc_new w c)
  have MY := hid (refmay_any c)
  rw [h0] at MY
  have hf := in_le hi
  obtain ⟨f0, f1⟩ := hf
  have f0 : c.min ≤ first := f0
  have f1 : first ≤ c.max := f1
  have HM := hid hm; have HU := hid hu; have HD := hid hd; have HOK := hid hok; have HR := hid hr; have HI := hid hi; have FL := hid hF
  clear h0 hm hu hd hok hr hi hF
  go_enter Tryz.func6, Tryz.ntmps6
  go_wp2_with (refine wpList_conf K.out.box rfl rfl rfl rfl ?_)
  refine (MY.out _).mono ?_
  rintro e w1 ⟨rfl, hg⟩
  have K1 := hid (K.out.grown hg); clear hg MY
  have c12 := at_cell K1.out.box 12; have c13 := at_cell K1.out.box 13
  go_wp2_with fail
  clear c12 c13 f0 f1
  have KG := hid K1.out.g; have KB := hid K1.out.box
  generalize w.heap.size = xb at KB
  clear K K1
  refine wp_region_held_drew (S := (fun w' => (w.grownBy w' none) ∧ (w'.heap[xb]? = some (.cells c.cells 28)))) (by kernel_rfl) ⟨gb_drew KG.out, KB.out⟩ (fun hHeld => ?_)
  try dsimp only at hHeld
  refine' wpAnyH_take (i := 0) (v := _) rfl (by kernel_rfl) (by kernel_rfl) (by kernel_rfl) (fun _ _ _ h => h) (Or.inl ⟨by rfl, ?_⟩) hHeld ?_
  rotate_left
  · (intro w hSw; (try dsimp only at hSw); (try simp only [List.getElem_toArray, List.getElem_cons_succ, List.getElem_cons_zero]); refine exec_row (x := .tmp 2) (by obtain ⟨G, KC⟩ := hSw; exact KC) Tryz.underlying28 rfl (by kernel_rfl) ?_ ?_ <;> rfl)
  try simp only [Act.put, List.setIfInBounds_toArray, List.set_cons_zero, List.set_cons_succ, List.getElem_toArray, List.getElem_cons_succ, List.getElem_cons_zero]
  refine' wpAnyH_take (i := 1) (v := _) rfl (by kernel_rfl) (by kernel_rfl) (by kernel_rfl) (fun _ _ _ h => h) (Or.inl ⟨by rfl, ?_⟩) hHeld ?_
  rotate_left
  · (intro w hSw; (try dsimp only at hSw); go_simp; try with_reducible rfl)
  try simp only [Act.put, List.setIfInBounds_toArray, List.set_cons_zero, List.set_cons_succ, List.getElem_toArray, List.getElem_cons_succ, List.getElem_cons_zero]
  refine' wpAnyH_take (i := 2) (v := _) rfl (by kernel_rfl) (by kernel_rfl) (by kernel_rfl) (fun _ _ _ h => h) (Or.inl ⟨by rfl, ?_⟩) hHeld ?_
  rotate_left
  · (intro w hSw; (try dsimp only at hSw); obtain ⟨G, KC⟩ := hSw; have k14 := at_cell KC 14; go_simp; try with_reducible rfl)
  try simp only [Act.put, List.setIfInBounds_toArray, List.set_cons_zero, List.set_cons_succ, List.getElem_toArray, List.getElem_cons_succ, List.getElem_cons_zero]
  refine' wpAnyH_take (i := 3) (v := _) rfl (by kernel_rfl) (by kernel_rfl) (by kernel_rfl) (fun _ _ _ h => h) (Or.inl ⟨by rfl, ?_⟩) hHeld ?_
  rotate_left
  · (intro w hSw; (try dsimp only at hSw); go_simp; try with_reducible rfl)
  try simp only [Act.put, List.setIfInBounds_toArray, List.set_cons_zero, List.set_cons_succ, List.getElem_toArray, List.getElem_cons_succ, List.getElem_cons_zero]
  refine' wpAnyH_take (i := 4) (v := _) rfl (by kernel_rfl) (by kernel_rfl) (by kernel_rfl) (fun _ _ _ h => h) (Or.inl ⟨by rfl, ?_⟩) hHeld ?_
  rotate_left
  · (intro w hSw; (try dsimp only at hSw); obtain ⟨G, KC⟩ := hSw; have k15 := at_cell KC 15; go_simp; try with_reducible rfl)
  try simp only [Act.put, List.setIfInBounds_toArray, List.set_cons_zero, List.set_cons_succ, List.getElem_toArray, List.getElem_cons_succ, List.getElem_cons_zero]
  refine' wpAnyH_take (i := 6) (v := _) rfl (by kernel_rfl) (by kernel_rfl) (by kernel_rfl) (fun _ _ _ h => h) (Or.inl ⟨by rfl, ?_⟩) hHeld ?_
  rotate_left
  · (intro w hSw; (try dsimp only at hSw); (try simp only [List.getElem_toArray, List.getElem_cons_succ, List.getElem_cons_zero]); refine exec_row (x := .tmp 2) (by obtain ⟨G, KC⟩ := hSw; exact KC) Tryz.underlying28 rfl (by kernel_rfl) ?_ ?_ <;> rfl)
  try simp only [Act.put, List.setIfInBounds_toArray, List.set_cons_zero, List.set_cons_succ, List.getElem_toArray, List.getElem_cons_succ, List.getElem_cons_zero]
  refine' wpAnyH_take (i := 7) (v := _) rfl (by kernel_rfl) (by kernel_rfl) (by kernel_rfl) (fun _ _ _ h => h) (Or.inl ⟨by rfl, ?_⟩) hHeld ?_
  rotate_left
  · (intro w hSw; (try dsimp only at hSw); go_simp; try with_reducible rfl)
  try simp only [Act.put, List.setIfInBounds_toArray, List.set_cons_zero, List.set_cons_succ, List.getElem_toArray, List.getElem_cons_succ, List.getElem_cons_zero]
  refine' wpAnyH_take (i := 9) (v := _) rfl (by kernel_rfl) (by kernel_rfl) (by kernel_rfl) (fun _ _ _ h => h) (Or.inl ⟨by rfl, ?_⟩) hHeld ?_
  rotate_left
  · (intro w hSw; (try dsimp only at hSw); go_simp; try with_reducible rfl)
  try simp only [Act.put, List.setIfInBounds_toArray, List.set_cons_zero, List.set_cons_succ, List.getElem_toArray, List.getElem_cons_succ, List.getElem_cons_zero]
  refine wpAnyH_ready (rs := [5]) (by kernel_rfl) (by simp) ?_
  refine AllReadyH.cons (o := _) rfl (fun K hK => ?_) AllReadyH.nil
  try simp only [List.getElem_toArray, List.getElem_cons_succ, List.getElem_cons_zero]
  go_simp
  have hH2 := hHeld
  obtain ⟨G, KC⟩ := hH2
  refine ((rcnew_as u d HU.out HD.out hu60 hd60 _)).mono ?_
  rintro e w1005 ⟨bc, rfl, hrow, hg, hb⟩
  have L5 := hid (show (w.grownBy w1005 none) ∧ (w1005.heap[xb]? = some (.cells c.cells 28)) from ⟨gb_trans G hg (.inl rfl), at_grown KC hg (by simp)⟩)
  have NCR := hid (show w1005.heap[bc]? = some (.cells #[.int .i64 (u : Int), .int .i64 (d : Int), .slice none 0 0] 50) from hrow)
  have Nq1 := hid (show bc < w1005.heap.size from at_lt hrow)
  have Nq0 := hid (show w.heap.size ≤ bc from Nat.le_trans G.size hb)
  clear hHeld hg G KC
  go_wp2_with fail
  refine hK.out _ _ ?_ (fun hHeld => ?_)
  · exact L5.out
  clear hK K
  try dsimp only at hHeld
  try simp only [Act.put, List.setIfInBounds_toArray, List.set_cons_zero, List.set_cons_succ, List.getElem_toArray, List.getElem_cons_succ, List.getElem_cons_zero]
  refine held_stronger (S' := fun w' => (fun w' => w'.heap[bc]? = some (.cells #[.int .i64 (u : Int), .int .i64 (d : Int), .slice none 0 0] 50)) w' ∧ ((fun w' => (w.grownBy w' none) ∧ (w'.heap[xb]? = some (.cells c.cells 28)))) w') (fun _ h => h.2) _ _ _ _ ?_
  replace hHeld := And.intro NCR.out hHeld
  try dsimp only at hHeld
  refine held_stronger (S' := fun w' => (fun w' => bc < w'.heap.size) w' ∧ ((fun w' => (w'.heap[bc]? = some (.cells #[.int .i64 (u : Int), .int .i64 (d : Int), .slice none 0 0] 50)) ∧ (w.grownBy w' none) ∧ (w'.heap[xb]? = some (.cells c.cells 28)))) w') (fun _ h => h.2) _ _ _ _ ?_
  replace hHeld := And.intro Nq1.out hHeld
  try dsimp only at hHeld
  refine held_stronger (S' := fun w' => (fun w' => w.heap.size ≤ bc) w' ∧ ((fun w' => (bc < w'.heap.size) ∧ (w'.heap[bc]? = some (.cells #[.int .i64 (u : Int), .int .i64 (d : Int), .slice none 0 0] 50)) ∧ (w.grownBy w' none) ∧ (w'.heap[xb]? = some (.cells c.cells 28)))) w') (fun _ h => h.2) _ _ _ _ ?_
  replace hHeld := And.intro Nq0.out hHeld
  try dsimp only at hHeld
  refine wpAnyH_ready (rs := [8]) (by kernel_rfl) (by simp) ?_
  refine AllReadyH.cons (o := _) rfl (fun K hK => ?_) AllReadyH.nil
  try simp only [List.getElem_toArray, List.getElem_cons_succ, List.getElem_cons_zero]
  go_simp
  have hH2 := hHeld
  obtain ⟨q0, q1, CR, G, KC⟩ := hH2
  refine ((rpnew_ok c first HR.out HI.out (bc :: F) _ (lr_lts q1 G FL.out))).mono ?_
  rintro e w1008 ⟨br, rfl, hpr, hg, hb⟩
  have L8 := hid (show (w.heap.size ≤ bc) ∧ (bc < w1008.heap.size) ∧ (w1008.heap[bc]? = some (.cells #[.int .i64 (u : Int), .int .i64 (d : Int), .slice none 0 0] 50)) ∧ (w.grownBy w1008 none) ∧ (w1008.heap[xb]? = some (.cells c.cells 28)) from ⟨q0, Nat.lt_of_lt_of_le q1 hg.size, at_grown CR hg (by simp), gb_trans G hg (.inl rfl), at_grown KC hg (by simp)⟩)
  have NPP := hid (show PrAt w1008 (br :: bc :: F) br c ⟨rt c, [first]⟩ from hpr)
  have Nq2 := hid (show bc < br from Nat.lt_of_lt_of_le q1 hb)
  clear hHeld hg q0 q1 CR G KC
  go_wp2_with fail
  refine hK.out _ _ ?_ (fun hHeld => ?_)
  · exact L8.out
  clear hK K
  try dsimp only at hHeld
  try simp only [Act.put, List.setIfInBounds_toArray, List.set_cons_zero, List.set_cons_succ, List.getElem_toArray, List.getElem_cons_succ, List.getElem_cons_zero]
  refine held_stronger (S' := fun w' => (fun w' => PrAt w' (br :: bc :: F) br c ⟨rt c, [first]⟩) w' ∧ ((fun w' => (w.heap.size ≤ bc) ∧ (bc < w'.heap.size) ∧ (w'.heap[bc]? = some (.cells #[.int .i64 (u : Int), .int .i64 (d : Int), .slice none 0 0] 50)) ∧ (w.grownBy w' none) ∧ (w'.heap[xb]? = some (.cells c.cells 28)))) w') (fun _ h => h.2) _ _ _ _ ?_
  replace hHeld := And.intro NPP.out hHeld
  try dsimp only at hHeld
  refine held_stronger (S' := fun w' => (fun w' => bc < br) w' ∧ ((fun w' => (PrAt w' (br :: bc :: F) br c ⟨rt c, [first]⟩) ∧ (w.heap.size ≤ bc) ∧ (bc < w'.heap.size) ∧ (w'.heap[bc]? = some (.cells #[.int .i64 (u : Int), .int .i64 (d : Int), .slice none 0 0] 50)) ∧ (w.grownBy w' none) ∧ (w'.heap[xb]? = some (.cells c.cells 28)))) w') (fun _ h => h.2) _ _ _ _ ?_
  replace hHeld := And.intro Nq2.out hHeld
  try dsimp only at hHeld
  refine' wpAnyH_take (i := 10) (v := _) rfl (by kernel_rfl) (by kernel_rfl) (by kernel_rfl) (fun _ _ _ h => h) (Or.inl ⟨by rfl, ?_⟩) hHeld ?_
  rotate_left
  · (intro w hSw; (try dsimp only at hSw); (try simp only [List.getElem_toArray, List.getElem_cons_succ, List.getElem_cons_zero]); refine exec_build (ty := 42) (parts := #[(0, Operand.tmp 20), (1, Operand.tmp 25), (2, Operand.tmp 28), (3, Operand.tmp 29)]) (cs := lrCells c bc br first) ?_ (by kernel_rfl) <;> rfl)
  try simp only [Act.put, List.setIfInBounds_toArray, List.set_cons_zero, List.set_cons_succ, List.getElem_toArray, List.getElem_cons_succ, List.getElem_cons_zero]
  refine wpAnyH_ready (rs := [11]) (by kernel_rfl) (by simp) ?_
  refine AllReadyH.cons (o := _) rfl (fun K hK => ?_) AllReadyH.nil
  have hH2 := hHeld
  obtain ⟨q2, PP, q0, q1, CR, G, KC⟩ := hH2
  have hg : w1008.grownBy (w1008.alloc (.cells (lrCells c bc br first) 42)) none := World.grownBy_alloc _ _ _
  have L11 := hid (show (bc < br) ∧ (PrAt ((w1008.alloc (.cells (lrCells c bc br first) 42))) (br :: bc :: F) br c ⟨rt c, [first]⟩) ∧ (w.heap.size ≤ bc) ∧ (bc < ((w1008.alloc (.cells (lrCells c bc br first) 42))).heap.size) ∧ (((w1008.alloc (.cells (lrCells c bc br first) 42))).heap[bc]? = some (.cells #[.int .i64 (u : Int), .int .i64 (d : Int), .slice none 0 0] 50)) ∧ (w.grownBy ((w1008.alloc (.cells (lrCells c bc br first) 42))) none) ∧ (((w1008.alloc (.cells (lrCells c bc br first) 42))).heap[xb]? = some (.cells c.cells 28)) from ⟨q2, PP.grown hg, q0, Nat.lt_of_lt_of_le q1 hg.size, at_grown CR hg (by simp), gb_trans G hg (.inl rfl), at_grown KC hg (by simp)⟩)
  have NRW := hid (show ((w1008.alloc (.cells (lrCells c bc br first) 42))).heap[w1008.heap.size]? = some (.cells (lrCells c bc br first) 42) from at_new _ _)
  have NG0 := hid (show w.grownBy w1008 none from G)
  have NC0 := hid (show w1008.heap[bc]? = some (.cells #[.int .i64 (u : Int), .int .i64 (d : Int), .slice none 0 0] 50) from CR)
  have NP0 := hid (show PrAt w1008 (br :: bc :: F) br c ⟨rt c, [first]⟩ from PP)
  clear hHeld hg q2 PP q0 q1 CR G KC
  try simp only [List.getElem_toArray, List.getElem_cons_succ, List.getElem_cons_zero]
  go_simp
  refine hK.out _ _ ?_ (fun hHeld => ?_)
  · exact L11.out
  clear hK K
  try dsimp only at hHeld
  try simp only [Act.put, List.setIfInBounds_toArray, List.set_cons_zero, List.set_cons_succ, List.getElem_toArray, List.getElem_cons_succ, List.getElem_cons_zero]
  refine held_stronger (S' := fun w' => (fun w' => w'.heap[w1008.heap.size]? = some (.cells (lrCells c bc br first) 42)) w' ∧ ((fun w' => (bc < br) ∧ (PrAt w' (br :: bc :: F) br c ⟨rt c, [first]⟩) ∧ (w.heap.size ≤ bc) ∧ (bc < w'.heap.size) ∧ (w'.heap[bc]? = some (.cells #[.int .i64 (u : Int), .int .i64 (d : Int), .slice none 0 0] 50)) ∧ (w.grownBy w' none) ∧ (w'.heap[xb]? = some (.cells c.cells 28)))) w') (fun _ h => h.2) _ _ _ _ ?_
  replace hHeld := And.intro NRW.out hHeld
  try dsimp only at hHeld
  refine held_stronger (S' := fun w' => (fun w' => w.grownBy w1008 none) w' ∧ ((fun w' => (w'.heap[w1008.heap.size]? = some (.cells (lrCells c bc br first) 42)) ∧ (bc < br) ∧ (PrAt w' (br :: bc :: F) br c ⟨rt c, [first]⟩) ∧ (w.heap.size ≤ bc) ∧ (bc < w'.heap.size) ∧ (w'.heap[bc]? = some (.cells #[.int .i64 (u : Int), .int .i64 (d : Int), .slice none 0 0] 50)) ∧ (w.grownBy w' none) ∧ (w'.heap[xb]? = some (.cells c.cells 28)))) w') (fun _ h => h.2) _ _ _ _ ?_
  replace hHeld := And.intro NG0.out hHeld
  try dsimp only at hHeld
  refine held_stronger (S' := fun w' => (fun w' => w1008.heap[bc]? = some (.cells #[.int .i64 (u : Int), .int .i64 (d : Int), .slice none 0 0] 50)) w' ∧ ((fun w' => (w.grownBy w1008 none) ∧ (w'.heap[w1008.heap.size]? = some (.cells (lrCells c bc br first) 42)) ∧ (bc < br) ∧ (PrAt w' (br :: bc :: F) br c ⟨rt c, [first]⟩) ∧ (w.heap.size ≤ bc) ∧ (bc < w'.heap.size) ∧ (w'.heap[bc]? = some (.cells #[.int .i64 (u : Int), .int .i64 (d : Int), .slice none 0 0] 50)) ∧ (w.grownBy w' none) ∧ (w'.heap[xb]? = some (.cells c.cells 28)))) w') (fun _ h => h.2) _ _ _ _ ?_
  replace hHeld := And.intro NC0.out hHeld
  try dsimp only at hHeld
  refine held_stronger (S' := fun w' => (fun w' => PrAt w1008 (br :: bc :: F) br c ⟨rt c, [first]⟩) w' ∧ ((fun w' => (w1008.heap[bc]? = some (.cells #[.int .i64 (u : Int), .int .i64 (d : Int), .slice none 0 0] 50)) ∧ (w.grownBy w1008 none) ∧ (w'.heap[w1008.heap.size]? = some (.cells (lrCells c bc br first) 42)) ∧ (bc < br) ∧ (PrAt w' (br :: bc :: F) br c ⟨rt c, [first]⟩) ∧ (w.heap.size ≤ bc) ∧ (bc < w'.heap.size) ∧ (w'.heap[bc]? = some (.cells #[.int .i64 (u : Int), .int .i64 (d : Int), .slice none 0 0] 50)) ∧ (w.grownBy w' none) ∧ (w'.heap[xb]? = some (.cells c.cells 28)))) w') (fun _ h => h.2) _ _ _ _ ?_
  replace hHeld := And.intro NP0.out hHeld
  try dsimp only at hHeld
  refine' wpAnyH_take (i := 12) (v := _) rfl (by kernel_rfl) (by kernel_rfl) (by kernel_rfl) (fun _ _ _ h => h) (Or.inl ⟨by rfl, ?_⟩) hHeld ?_
  rotate_left
  · (intro w hSw; (try dsimp only at hSw); go_simp; try with_reducible rfl)
  try simp only [Act.put, List.setIfInBounds_toArray, List.set_cons_zero, List.set_cons_succ, List.getElem_toArray, List.getElem_cons_succ, List.getElem_cons_zero]
  refine wpAnyH_done (by kernel_rfl) ?_ _
  obtain ⟨P0, C0, G0, RW, q2, PP, q0, q1, CR, G, KC⟩ := hHeld
  have FIN := hid (lr_fin (u := u) (d := d) G0 C0 P0 q0 q2 FL.out HM.out hm4 HOK.out)
  clear G KC CR q1 q0 PP q2 RW G0 C0 P0
  go_wp2_with fail
  go_ret
  exact ⟨⟨_, bc, br⟩, rfl, FIN.out⟩
theorem lrnew_fine {c : Conf} (h : Fine c) {m u d : Nat} (hm : c.m = (m : Int)) (hu : (u : Int) = c.calmup) (hd : (d : Int) = c.calmdown) (hm1 : 1 ≤ m) (hm2 : m ≤ 2) (hu3 : u ≤ 3) (hd4 : d ≤ 4) {f : Int} (h1 : c.min ≤ f) (h2 : f ≤ c.max) (hok : (laOf c m u d f).Ok) (F : List Nat) (w : World) (hF : ∀ x ∈ F, x < w.heap.size) :
    Calls Tryz.prog 6 #[cf c, .int .i64 f] w (LrMade w F c m (laOf c m u d f)) :=
  lrnew_ok c f m u d (by rw [fine_none h]; exact none_may) hm hu hd (by omega) (by omega) (by omega) (fine_may h) (in_of h1 h2) hok F w hF
/-- a configuration in a block, the program's Law and the document's -/
structure Lp (w : World) (x : Nat) (c : Conf) (m : Nat) (B : LBl) (s : La) (R : LRb) (t : La) (W : World) : Prop where
  k1 : Lk1 w x c B s W
  k2 : LrAt W (R.b :: R.r :: R.c :: x :: B.F) R c m t
  l2 : ∀ y ∈ R.F, w.heap.size ≤ y
  ne : ∀ y ∈ B.F, y ∉ R.F
  nx : x ∉ R.F
section
variable {w W W' : World} {x m : Nat} {c : Conf} {B : LBl} {R : LRb} {s s' t t' : La} {v : Value} {vs : List Int} {y z : Int}
theorem Lp.grown (h : Lp w x c m B s R t W) (hg : W.grownBy W' none) : Lp w x c m B s R t W' := ⟨h.k1.grown hg, h.k2.grown hg, h.l2, h.ne, h.nx⟩
theorem Lp.drew (h : Lp w x c m B s R t W) : Lp w x c m B s R t W.drew := ⟨h.k1.drew, h.k2.drew, h.l2, h.ne, h.nx⟩
theorem Lp.chg1 (h : Lp w x c m B s R t W) (hl : LaAt W' B s') (hc : Chg B.F W W') : Lp w x c m B s' R t W' :=
  ⟨h.k1.chg hl hc, h.k2.chg hc (fun y hy => by simp only [List.mem_cons]; simp only [List.mem_cons] at hy; exact .inr (.inr (.inr (.inr hy)))) (fun y hy hm => h.ne y hm hy), h.l2, h.ne, h.nx⟩
theorem Lp.chg2 (h : Lp w x c m B s R t W) (hl : LrAt W' (R.b :: R.r :: R.c :: x :: B.F) R c m t') (hc : Chg R.F W W') : Lp w x c m B s R t' W' :=
  ⟨⟨⟨((chg_grown h.k1.k.gr []).trans hc (fun y hy => .inr (h.l2 y hy))).free (fun y hy => by cases hy), h.k1.k.at1.chg hc (fun y hy hm => h.ne y hy hm), h.k1.k.lo⟩, hc.at h.k1.box h.nx, h.k1.nx⟩, hl, h.l2, h.ne, h.nx⟩
theorem Lp.start (h : Lk1 w x c B s W) (hl : LrAt W' (R.b :: R.r :: R.c :: x :: B.F) R c m t) (h2 : W.grownBy W' none) (hb : ∀ y ∈ R.F, W.heap.size ≤ y) : Lp w x c m B s R t W' :=
  ⟨h.grown h2, hl, fun y hy => Nat.le_trans h.k.gr.size (hb y hy), fun y hy hm => Nat.lt_irrefl _ (Nat.lt_of_lt_of_le (h.k.at1.lts y hy) (hb y hm)), fun hm => Nat.lt_irrefl _ (Nat.lt_of_lt_of_le (at_lt h.box) (hb x hm))⟩
theorem Lk1.ltx (h : Lk1 w x c B s W) : ∀ y ∈ x :: B.F, y < W.heap.size := by
  intro y hy
  rcases List.mem_cons.1 hy with rfl | hy
  · exact at_lt h.box
  · exact h.k.at1.lts y hy
theorem lrnext_as {F : List Nat} (H : LrAt W F R c m s) (hv : IntsAt W v vs) (hm : s.may vs = true) (h1 : s.come vs = y) (h2 : s.want vs = z) (h3 : s.next vs = s') :
    Calls Tryz.prog 11 #[.pointer (some ⟨R.b, 0, none⟩), v] W fun e w' => e = .returned (.tuple #[.int .i64 y, .int .i64 z, .int .i64 0]) ∧ LrAt w' F R c m s' ∧ Chg R.F W w' := by
  subst h1; subst h2; subst h3; exact lrnext_yes hm H hv
theorem lrhold_as {F : List Nat} (H : LrAt W F R c m s) (h1 : s.n = y) (h3 : s.hold = s') :
    Calls Tryz.prog 9 #[.pointer (some ⟨R.b, 0, none⟩)] W fun e w' => e = .returned (.int .i64 y) ∧ LrAt w' F R c m s' ∧ Chg R.F W w' := by
  subst h1; subst h3; exact lrhold_any H
theorem lcalm_any (H : LaAt W B s) :
    Calls Tryz.prog 13 #[.pointer (some ⟨B.b, 0, none⟩)] W fun e w' => e = .returned (.pointer (some ⟨B.c, 0, none⟩)) ∧ W = w' := by
  obtain ⟨-, c2, -, -, -⟩ := H.cells
  clear H
  go_enter Tryz.func13, Tryz.ntmps13
  go_wp2_with fail
  go_ret
  exact ⟨rfl, rfl⟩
theorem lpolicy_any (H : LaAt W B s) :
    Calls Tryz.prog 14 #[.pointer (some ⟨B.b, 0, none⟩)] W fun e w' => e = .returned (.pointer (some ⟨B.p, 0, none⟩)) ∧ W = w' := by
  obtain ⟨-, -, c3, -, -⟩ := H.cells
  clear H
  go_enter Tryz.func14, Tryz.ntmps14
  go_wp2_with fail
  go_ret
  exact ⟨rfl, rfl⟩
end
end Go.Proofs.YthobbekocimcnaaGreat
end
section
set_option linter.unusedSimpArgs false
namespace Go.Proofs.YthobbekocimcnaaGreat
set_option maxRecDepth 100000
open Go.ChangeShapes Go.WideShapes Go.ChangeAt Go.RowKit Go.Deep

/-- a slice whose n cells are g 0, g 1 .. -/
def OneAt (w : World) (v : Value) (n : Nat) (g : Nat → Value) : Prop :=
  (v = .slice none 0 0 ∧ n = 0) ∨ ∃ a cap, v = .slice (some a) n cap ∧ n ≤ cap ∧ cap ≤ maxLen ∧ ∀ i, i < n → w.cell? (a.add i) = some (g i)
theorem OneAt.grown {w w1 : World} {v : Value} {n : Nat} {g : Nat → Value} (h : OneAt w v n g) (hg : w.grownBy w1 none) : OneAt w1 v n g := by
  rcases h with h | ⟨a, cap, rfl, h1, h2, h3⟩
  · exact .inl h
  · exact .inr ⟨a, cap, rfl, h1, h2, fun i hi => hg.cell (h3 i hi) (by simp)⟩
theorem OneAt.len {w : World} {p : Option Addr} {c n : Nat} {g : Nat → Value} (h : OneAt w (.slice p n c) n g) : n ≤ maxLen := by
  rcases h with ⟨h, rfl⟩ | ⟨a, cap, h, h1, h2, _⟩
  · exact Nat.zero_le _
  · exact Nat.le_trans h1 h2
theorem OneAt.cell {w : World} {p : Option Addr} {c n : Nat} {g : Nat → Value} (h : OneAt w (.slice p n c) n g) {i : Nat} (hi : i < n) :
    ∃ ab ao, p = some ⟨ab, ao, none⟩ ∧ ∀ j, j < n → w.cell? ⟨ab, ao + j, none⟩ = some (g j) := by
  rcases h with ⟨_, rfl⟩ | ⟨⟨ab, ao, asp⟩, cap, e, _, _, h3⟩
  · omega
  · cases e
    have h0 := h3 0 (by omega)
    have hsp : asp = none := by simpa [Addr.add] using World.cell?_spot h0
    subst hsp
    refine ⟨ab, ao, rfl, fun j hj => ?_⟩
    have := h3 j hj
    unfold Addr.add at this
    split at this
    · next h => subst h; simpa using this
    · simpa using this
section
variable {H : Type} {enc : TypeId × Value → H} {w : World} {base : Nat} {d : DataW H} {ps : List MemPlace} {v : Value} {t e : TypeId}
theorem open_boolrow (ht : Tryz.prog.underlying t = some (.slice e)) (he : Tryz.prog.underlying e = some .bool) (hc : Tryz.prog.cellsOf e = 1)
    (hval : Value.okWide Tryz.prog w .any base t v) (h : DataW.Trod enc Tryz.prog w 0 (fun _ => true) true t v d ps) :
    ∃ (f : Nat → Bool) (n : Nat) (p : Option Addr) (c : Nat), v = .slice p n c ∧ OneAt w v n (fun i => .bool (f i)) := by
  obtain ⟨a0, len, cap, rfl⟩ := okWide_slice ht hval
  obtain ⟨fuel, hf⟩ := h
  rcases open_bools ht he hc hf with ⟨hcs, _⟩ | ⟨a, len', cap', B, hcs, _, hl, hm, _, hcell⟩
  · simp [Value.cells] at hcs
    obtain ⟨rfl, rfl, rfl⟩ := hcs
    exact ⟨fun _ => false, 0, none, 0, rfl, .inl ⟨rfl, rfl⟩⟩
  · simp [Value.cells] at hcs
    obtain ⟨rfl, rfl, rfl⟩ := hcs
    exact ⟨B, len, some a, cap, rfl, .inr ⟨a, cap, rfl, hl, hm, fun i hi => hcell i (by omega)⟩⟩
theorem open_introw (ht : Tryz.prog.underlying t = some (.slice e)) (he : Tryz.prog.underlying e = some (.int .i64)) (hc : Tryz.prog.cellsOf e = 1)
    (hval : Value.okWide Tryz.prog w .any base t v) (h : DataW.Trod enc Tryz.prog w 0 (fun _ => true) true t v d ps) :
    ∃ (f : Nat → Int) (n : Nat) (p : Option Addr) (c : Nat), v = .slice p n c ∧ OneAt w v n (fun i => .int .i64 (f i)) := by
  obtain ⟨a0, len, cap, rfl⟩ := okWide_slice ht hval
  obtain ⟨fuel, hf⟩ := h
  rcases open_ints ht he hc hf with ⟨hcs, _⟩ | ⟨a, len', cap', zs, hcs, _, hl, hm, hz, _, hcell, _⟩
  · simp [Value.cells] at hcs
    obtain ⟨rfl, rfl, rfl⟩ := hcs
    exact ⟨fun _ => 0, 0, none, 0, rfl, .inl ⟨rfl, rfl⟩⟩
  · simp [Value.cells] at hcs
    obtain ⟨rfl, rfl, rfl⟩ := hcs
    have hz' : zs.length = cap := by simpa using hz
    exact ⟨fun i => zs.getD i 0, len, some a, cap, rfl, .inr ⟨a, cap, rfl, hl, hm, fun i hi => hcell i (by first | omega | (simp; omega))⟩⟩
end
end Go.Proofs.YthobbekocimcnaaGreat
end
