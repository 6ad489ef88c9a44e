/-
  Contracts for the document's Policy: Put, Set. The condition of a call: the object lies there, a slice reads as numbers.
-/
import Derived.Test.YtmhpldnmapjghaaPrA
import Derived.Test.YtmhpldnmapjghaaLst
set_option linter.unusedSimpArgs false
set_option linter.unusedVariables false
namespace Go.Proofs.Ytmhpldnmapjghaa
set_option maxRecDepth 100000
open Go.RowKit

theorem rlast_g (ab ao n c k : Nat) (h1 : 1 ≤ n) (h2 : 1 ≤ k) (h3 : n ≤ c) (h4 : n ≤ 1000) (h5 : k ≤ 1000) (w : World) :
    Calls Try.prog 38 #[.slice (some ⟨ab, ao, none⟩) n c, .int .i64 (k : Int)] w fun e w' => e = .returned (.slice (some ⟨ab, ao + (n - k), none⟩) (n - (n - k)) (c - (n - k))) ∧ w.grownBy w' none :=
  (rlast_any ab ao n c k h1 h2 h3 h4 h5 w).mono fun e w' h => ⟨h.1, by rw [← h.2]; exact .refl w none⟩
theorem own_form {base : Nat} {w : World} {v : Value} {l : List Int} (h : OwnN base w v l) (hl : l ≠ []) : ∃ ab ao n m, v = .slice (some ⟨ab, ao, none⟩) n m ∧ n = l.length ∧ n ≤ m := by
  have hI := h.ints
  obtain ⟨p, m, rfl⟩ := h.form
  obtain ⟨ab, ao, rfl, -, hm, -⟩ := hI.cell (List.length_pos_iff.2 hl)
  exact ⟨ab, ao, _, m, rfl, rfl, hm⟩
/-- a list of the call's own, its last ones, ahead of their store -/
theorem pr_put {F : List Nat} {b : Nat} {c : Conf} {p : Po} {w w1 : World} {ab ao n m k : Nat} {l : List Int} (H : PrAt w F b c p) (hg : w.grownBy w1 none) (hown : OwnN w.heap.size w1 (.slice (some ⟨ab, ao, none⟩) n m) l) (hn : n = l.length) (hk : 1 ≤ k) (hl : l ≠ []) (ho : (Po.mk p.r (lastL l k)).Ok) :
    (∃ x, w1.cell? ⟨b, 26, none⟩ = some x) ∧ w1.frozen? ⟨b, 26, none⟩ = false ∧
      (PrAt (w1.setCell ⟨b, 26, none⟩ (.slice (some ⟨ab, ao + (n - k), none⟩) (n - (n - k)) (m - (n - k)))) F b c ⟨p.r, lastL l k⟩ ∧ Chg [b] w (w1.setCell ⟨b, 26, none⟩ (.slice (some ⟨ab, ao + (n - k), none⟩) (n - (n - k)) (m - (n - k))))) := by
  have CB := H.grown hg
  have hI := hown.ints
  have PB : ab ∉ F := fun hm => by
    have h1 := (hown.at ab (by simp [ownL, Value.ownBlock])).1
    have h2 := H.lt _ hm
    omega
  have h1 := ints_slice1 hI (Nat.sub_le n k)
  have e1 : (lastL l k).length = n - (n - k) := by unfold lastL; rw [List.length_drop, ← hn]
  have e2 : lastL l k = l.drop (n - k) := by unfold lastL; rw [← hn]
  have FIN := CB.put (l := lastL l k) (by rw [e1, e2]; exact h1) (fun a e => by cases e; exact PB) ho
  rw [e1] at FIN
  obtain ⟨⟨q, r, h1, -, -⟩, -⟩ := CB
  exact ⟨⟨_, at_cell h1 26⟩, at_free h1 26, FIN.1, (chg_grown hg [b]).then FIN.2⟩
theorem rput_no {F : List Nat} {b : Nat} {c : Conf} {p : Po} (x : Int) (hx : p.in x = false) {w : World} (H : PrAt w F b c p) :
    Calls Try.prog 22 #[.pointer (some ⟨b, 0, none⟩), .int .i64 x] w fun e w' => e = .returned (.int .i64 1) ∧ w.grownBy w' none := by
  have hx' : ¬ (c.min ≤ x ∧ x ≤ c.max) := fun hb => by
    have : p.in x = true := Po.in_iff.2 (by rw [H.rc]; exact hb)
    rw [hx] at this; cases this
  obtain ⟨c12, c13, -, fz⟩ := H.cells
  clear H hx
  by_cases h1 : x < c.min
  · clear hx'
    go_enter Try.func22, Try.ntmps22
    go_wp2_with fail
    go_ret
    exact ⟨rfl, .refl w none⟩
  · have h2 : c.max < x := by omega
    clear hx'
    go_enter Try.func22, Try.ntmps22
    go_wp2_with fail
    go_ret
    exact ⟨rfl, .refl w none⟩
set_option maxHeartbeats 6400000 in
theorem rput_yes {F : List Nat} {b : Nat} {c : Conf} {p : Po} (x : Int) (hx : p.in x = true) {w : World} (H : PrAt w F b c p) :
    Calls Try.prog 22 #[.pointer (some ⟨b, 0, none⟩), .int .i64 x] w fun e w' => e = .returned (.int .i64 0) ∧ PrAt w' F b c (p.put x).2 ∧ Chg [b] w w' := by
  have hin := Po.in_iff.1 hx
  rw [H.rc] at hin
  have h0 : c.min ≤ x := hin.1
  have h1 : x ≤ c.max := hin.2
  have hok := Po.put_ok H.ok x
  have hper := H.ok.r.per
  have HN60 := hid H.ok.n60
  have HH := hid H
  have hpr : p.r.per = c.period := by rw [H.rc]
  obtain ⟨m, hm⟩ : ∃ m : Nat, c.period = (m : Int) := ⟨c.period.toNat, by omega⟩
  have HM := hid (show 1 ≤ m ∧ m ≤ 60 by omega)
  have HEQ := hid (show (⟨p.r, lastL (p.l ++ [x]) m⟩ : Po) = (p.put x).2 by rw [Po.put_yes hx, hpr, hm]; rfl)
  have HOK := hid (show (⟨p.r, lastL (p.l ++ [x]) m⟩ : Po).Ok by rw [HEQ.out]; exact hok)
  obtain ⟨c12, c13, c20, fz⟩ := H.cells
  rw [hm] at c20
  have CP := hid (fun (W : World) (hg : w.grownBy W none) => show W.cell? ⟨b, 20, none⟩ = some (.int .i64 (m : Int)) from by rw [← hm]; exact (H.grown hg).cells.2.2.1)
  obtain ⟨⟨q, k, hrow, hi, -⟩, -⟩ := H
  obtain ⟨l0, hl0⟩ : ∃ l, p.l = l := ⟨_, rfl⟩
  rw [hl0] at hrow hi HN60 HEQ HOK
  obtain ⟨n0, hn0⟩ : ∃ n, l0.length = n := ⟨_, rfl⟩
  have HN0 := hid hn0
  rw [hn0] at hrow hi HN60
  have HNL := hid (show n0 + 1 = (l0 ++ [x]).length by rw [List.length_append, hn0]; rfl)
  have HI := hid (fun (W : World) (hg : w.grownBy W none) => hi.grown hg)
  have CL := hid (fun (W : World) (hg : w.grownBy W none) => show W.cell? ⟨b, 26, none⟩ = some (.slice q n0 k) from at_cell (at_grown hrow hg (by simp)) 26)
  clear hx hin hok hper hpr hm hrow hi hl0 hn0 c20
  go_enter Try.func22, Try.ntmps22
  go_wp2_with fail
  clear c12 c13 h0 h1
  refine wp_region_last (S := (fun w' => (w.grownBy w' none))) 18 18 #[false, false, false, false, false, false, false, false, false, false, false, false, false, false, false, false, false, false, true] (by kernel_rfl) (by kernel_rfl) (by kernel_rfl) (by kernel_rfl) (gb_drew (.refl w none)) (fun hHeld => ?_)
  try dsimp only at hHeld
  refine' wpAnyH_take (i := 0) (v := _) rfl (by kernel_rfl) (by kernel_rfl) (by kernel_rfl) (fun _ _ _ h => h) (Or.inl ⟨by rfl, ?_⟩) hHeld ?_
  rotate_left
  · (intro w hSw; (try dsimp only at hSw); go_simp; try with_reducible rfl)
  try simp only [Act.put, List.setIfInBounds_toArray, List.set_cons_zero, List.set_cons_succ, List.getElem_toArray, List.getElem_cons_succ, List.getElem_cons_zero]
  refine' wpAnyH_take (i := 2) (v := _) rfl (by kernel_rfl) (by kernel_rfl) (by kernel_rfl) (fun _ _ _ h => h) (Or.inl ⟨by rfl, ?_⟩) hHeld ?_
  rotate_left
  · (intro w hSw; (try dsimp only at hSw); go_simp; try with_reducible rfl)
  try simp only [Act.put, List.setIfInBounds_toArray, List.set_cons_zero, List.set_cons_succ, List.getElem_toArray, List.getElem_cons_succ, List.getElem_cons_zero]
  refine' wpAnyH_take (i := 3) (v := _) rfl (by kernel_rfl) (by kernel_rfl) (by kernel_rfl) (fun _ _ _ h => h) (Or.inl ⟨by rfl, ?_⟩) hHeld ?_
  rotate_left
  · (intro w hSw; (try dsimp only at hSw); go_simp; try with_reducible rfl)
  try simp only [Act.put, List.setIfInBounds_toArray, List.set_cons_zero, List.set_cons_succ, List.getElem_toArray, List.getElem_cons_succ, List.getElem_cons_zero]
  refine' wpAnyH_take (i := 4) (v := _) rfl (by kernel_rfl) (by kernel_rfl) (by kernel_rfl) (fun _ _ _ h => h) (Or.inl ⟨by rfl, ?_⟩) hHeld ?_
  rotate_left
  · (intro w hSw; (try dsimp only at hSw); go_simp; try with_reducible rfl)
  try simp only [Act.put, List.setIfInBounds_toArray, List.set_cons_zero, List.set_cons_succ, List.getElem_toArray, List.getElem_cons_succ, List.getElem_cons_zero]
  refine' wpAnyH_take (i := 5) (v := _) rfl (by kernel_rfl) (by kernel_rfl) (by kernel_rfl) (fun _ _ _ h => h) (Or.inl ⟨by rfl, ?_⟩) hHeld ?_
  rotate_left
  · (intro w hSw; (try dsimp only at hSw); have kg := hSw; have q9 := CL.out _ kg; go_simp; try with_reducible rfl)
  try simp only [Act.put, List.setIfInBounds_toArray, List.set_cons_zero, List.set_cons_succ, List.getElem_toArray, List.getElem_cons_succ, List.getElem_cons_zero]
  refine' wpAnyH_take (i := 7) (v := _) rfl (by kernel_rfl) (by kernel_rfl) (by kernel_rfl) (fun _ _ _ h => h) (Or.inl ⟨by rfl, ?_⟩) hHeld ?_
  rotate_left
  · (intro w hSw; (try dsimp only at hSw); go_simp; try with_reducible rfl)
  try simp only [Act.put, List.setIfInBounds_toArray, List.set_cons_zero, List.set_cons_succ, List.getElem_toArray, List.getElem_cons_succ, List.getElem_cons_zero]
  refine' wpAnyH_take (i := 10) (v := _) rfl (by kernel_rfl) (by kernel_rfl) (by kernel_rfl) (fun _ _ _ h => h) (Or.inl ⟨by rfl, ?_⟩) hHeld ?_
  rotate_left
  · (intro w hSw; (try dsimp only at hSw); go_simp; try with_reducible rfl)
  try simp only [Act.put, List.setIfInBounds_toArray, List.set_cons_zero, List.set_cons_succ, List.getElem_toArray, List.getElem_cons_succ, List.getElem_cons_zero]
  refine' wpAnyH_take (i := 11) (v := _) rfl (by kernel_rfl) (by kernel_rfl) (by kernel_rfl) (fun _ _ _ h => h) (Or.inl ⟨by rfl, ?_⟩) hHeld ?_
  rotate_left
  · (intro w hSw; (try dsimp only at hSw); go_simp; try with_reducible rfl)
  try simp only [Act.put, List.setIfInBounds_toArray, List.set_cons_zero, List.set_cons_succ, List.getElem_toArray, List.getElem_cons_succ, List.getElem_cons_zero]
  refine' wpAnyH_take (i := 12) (v := _) rfl (by kernel_rfl) (by kernel_rfl) (by kernel_rfl) (fun _ _ _ h => h) (Or.inl ⟨by rfl, ?_⟩) hHeld ?_
  rotate_left
  · (intro w hSw; (try dsimp only at hSw); go_simp; try with_reducible rfl)
  try simp only [Act.put, List.setIfInBounds_toArray, List.set_cons_zero, List.set_cons_succ, List.getElem_toArray, List.getElem_cons_succ, List.getElem_cons_zero]
  refine' wpAnyH_take (i := 13) (v := _) rfl (by kernel_rfl) (by kernel_rfl) (by kernel_rfl) (fun _ _ _ h => h) (Or.inl ⟨by rfl, ?_⟩) hHeld ?_
  rotate_left
  · (intro w hSw; (try dsimp only at hSw); go_simp; try with_reducible rfl)
  try simp only [Act.put, List.setIfInBounds_toArray, List.set_cons_zero, List.set_cons_succ, List.getElem_toArray, List.getElem_cons_succ, List.getElem_cons_zero]
  refine' wpAnyH_take (i := 14) (v := _) rfl (by kernel_rfl) (by kernel_rfl) (by kernel_rfl) (fun _ _ _ h => h) (Or.inl ⟨by rfl, ?_⟩) hHeld ?_
  rotate_left
  · (intro w hSw; (try dsimp only at hSw); have kg := hSw; have q9 := CP.out _ kg; go_simp; try with_reducible rfl)
  try simp only [Act.put, List.setIfInBounds_toArray, List.set_cons_zero, List.set_cons_succ, List.getElem_toArray, List.getElem_cons_succ, List.getElem_cons_zero]
  refine wpAnyH_ready (rs := [1, 8]) (by kernel_rfl) (by simp) ?_
  refine AllReadyH.cons (o := _) rfl (fun K hK => ?_) (AllReadyH.cons (o := _) rfl (fun K hK => ?_) AllReadyH.nil)
  · have hH2 := hHeld
    have kg := hH2
    have hg : w.drew.grownBy (w.drew.alloc (.cells #[] 3)) none := World.grownBy_alloc _ _ _
    try replace LT := hid (at_grown LT.out hg (by simp))
    try replace O1 := hid (O1.out.grown hg)
    have OE := hid (show OwnN w.heap.size (w.drew.alloc (.cells #[] 3)) (.slice (some ⟨w.heap.size, 0, none⟩) 0 0) [] from by have h := (OwnN.empty w.drew).le kg.size; (try rw [size_la] at h); exact h)
    have L1 := hid (show (w.grownBy (w.drew.alloc (.cells #[] 3)) none) from (gb_trans kg hg (.inl rfl)))
    clear hHeld hg kg
    try simp only [List.getElem_toArray, List.getElem_cons_succ, List.getElem_cons_zero]
    go_simp
    refine hK.out _ _ ?_ (fun hHeld => ?_)
    · exact L1.out
    clear hK K
    try dsimp only at hHeld
    try simp only [Act.put, List.setIfInBounds_toArray, List.set_cons_zero, List.set_cons_succ, List.getElem_toArray, List.getElem_cons_succ, List.getElem_cons_zero]
    refine wpAnyH_ready (rs := [6, 8]) (by kernel_rfl) (by simp) ?_
    refine AllReadyH.cons (o := _) rfl (fun K hK => ?_) (AllReadyH.cons (o := _) rfl (fun K hK => ?_) AllReadyH.nil)
    · have hH2 := hHeld
      have kg := hH2
      try simp only [List.getElem_toArray, List.getElem_cons_succ, List.getElem_cons_zero]
      rw [if_pos (by rfl)]
      refine wp_append_nums _ _ rfl w.heap.size _ [] rfl OE.out _ l0 rfl (HI.out _ kg) (by rw [HN0.out]; have := HN60.out; simp; omega) kg.size ?_
      intro v1 wA hown hgrow hat
      have O1 := hid (show OwnN w.heap.size wA v1 l0 from by simpa using hown)
      have G1 := hid (gb_ownN kg OE.out (Nat.le_refl _) hgrow)
      try replace LT := hid (at_grown LT.out hgrow (by intro h; first | (have h2 : w.heap.size = w.heap.size + 1 := Option.some.inj h; omega) | (have h2 : w.heap.size + 1 = w.heap.size := Option.some.inj h; omega)))
      clear hown hgrow hat OE
      have L6 := hid (show (w.grownBy wA none) from G1.out)
      clear hHeld kg
      refine hK.out _ _ ?_ (fun hHeld => ?_)
      · exact L6.out
      clear hK K
      try dsimp only at hHeld
      try simp only [Act.put, List.setIfInBounds_toArray, List.set_cons_zero, List.set_cons_succ, List.getElem_toArray, List.getElem_cons_succ, List.getElem_cons_zero]
      refine wpAnyH_ready (rs := [8]) (by kernel_rfl) (by simp) ?_
      refine AllReadyH.cons (o := _) rfl (fun K hK => ?_) AllReadyH.nil
      have hH2 := hHeld
      have kg := hH2
      have hg : wA.grownBy (wA.alloc (.cells #[.int .i64 x] 3)) none := World.grownBy_alloc _ _ _
      try replace OE := hid (OE.out.grown hg)
      try replace O1 := hid (O1.out.grown hg)
      have LT := hid (show (wA.alloc (.cells #[.int .i64 x] 3)).heap[wA.heap.size]? = some (.cells #[.int .i64 x] 3) from by have h := at_new wA (.cells #[.int .i64 x] 3); (try rw [size_la] at h); exact h)
      have L8 := hid (show (w.grownBy (wA.alloc (.cells #[.int .i64 x] 3)) none) from (gb_trans kg hg (.inl rfl)))
      clear hHeld hg kg
      try simp only [List.getElem_toArray, List.getElem_cons_succ, List.getElem_cons_zero]
      go_simp
      refine hK.out _ _ ?_ (fun hHeld => ?_)
      · exact L8.out
      clear hK K
      try dsimp only at hHeld
      try simp only [Act.put, List.setIfInBounds_toArray, List.set_cons_zero, List.set_cons_succ, List.getElem_toArray, List.getElem_cons_succ, List.getElem_cons_zero]
      refine wpAnyH_ready (rs := [9]) (by kernel_rfl) (by simp) ?_
      refine AllReadyH.cons (o := _) rfl (fun K hK => ?_) AllReadyH.nil
      have hH2 := hHeld
      have kg := hH2
      try simp only [List.getElem_toArray, List.getElem_cons_succ, List.getElem_cons_zero]
      rw [if_pos (by rfl)]
      refine wp_append_nums _ _ rfl w.heap.size _ l0 rfl O1.out _ [x] rfl (nums_of_cells [x] LT.out (le_max _ (by simp))) (by rw [HN0.out]; have := HN60.out; simp; omega) kg.size ?_
      intro v2 wB hown hgrow hat
      have O2 := hid hown
      have G2 := hid (gb_ownN kg O1.out (Nat.le_refl _) hgrow)
      clear hown hgrow hat LT O1
      obtain ⟨ab, ao, nn, mm, rfl, hnn, hnm⟩ := own_form O2.out (by simp)
      rw [List.length_append, HN0.out, List.length_singleton] at hnn
      have HNN := hid (And.intro hnn hnm)
      clear hnn hnm
      have L9 := hid (show (w.grownBy wB none) from G2.out)
      clear hHeld kg
      refine hK.out _ _ ?_ (fun hHeld => ?_)
      · exact L9.out
      clear hK K
      try dsimp only at hHeld
      try simp only [Act.put, List.setIfInBounds_toArray, List.set_cons_zero, List.set_cons_succ, List.getElem_toArray, List.getElem_cons_succ, List.getElem_cons_zero]
      refine wpAnyH_ready (rs := [15]) (by kernel_rfl) (by simp) ?_
      refine AllReadyH.cons (o := _) rfl (fun K hK => ?_) AllReadyH.nil
      try simp only [List.getElem_toArray, List.getElem_cons_succ, List.getElem_cons_zero]
      go_simp
      have hH2 := hHeld
      have kg := hH2
      refine ((rlast_g ab ao nn mm m (by have := HNN.out; omega) HM.out.1 HNN.out.2 (by have := HNN.out; have := HN60.out; omega) (by have := HM.out; omega) _)).mono ?_
      rintro e w1015 ⟨rfl, hg⟩
      have O3 := hid (O2.out.grown hg)
      have L15 := hid (show (w.grownBy w1015 none) from (gb_trans kg hg (.inl rfl)))
      clear hHeld hg kg
      go_wp2_with fail
      refine hK.out _ _ ?_ (fun hHeld => ?_)
      · exact L15.out
      clear hK K
      try dsimp only at hHeld
      try simp only [Act.put, List.setIfInBounds_toArray, List.set_cons_zero, List.set_cons_succ, List.getElem_toArray, List.getElem_cons_succ, List.getElem_cons_zero]
      refine' wpAnyH_take (i := 16) (v := _) rfl (by kernel_rfl) (by kernel_rfl) (by kernel_rfl) (fun _ _ _ h => h) (Or.inl ⟨by rfl, ?_⟩) hHeld ?_
      rotate_left
      · (intro w hSw; (try dsimp only at hSw); go_simp; try with_reducible rfl)
      try simp only [Act.put, List.setIfInBounds_toArray, List.set_cons_zero, List.set_cons_succ, List.getElem_toArray, List.getElem_cons_succ, List.getElem_cons_zero]
      refine' wpAnyH_take (i := 17) (v := _) rfl (by kernel_rfl) (by kernel_rfl) (by kernel_rfl) (fun _ _ _ h => h) (Or.inl ⟨by rfl, ?_⟩) hHeld ?_
      rotate_left
      · (intro w hSw; (try dsimp only at hSw); go_simp; try with_reducible rfl)
      try simp only [Act.put, List.setIfInBounds_toArray, List.set_cons_zero, List.set_cons_succ, List.getElem_toArray, List.getElem_cons_succ, List.getElem_cons_zero]
      refine wpAnyH_done (by kernel_rfl) ?_ _
      have kg := hHeld
      obtain ⟨⟨x2, c2⟩, f2, hfin⟩ := pr_put HH.out kg O3.out (HNN.out.1.trans HNL.out) (k := m) HM.out.1 (by simp) HOK.out
      have HFIN := hid hfin
      clear hfin kg
      refine atLast_step (o := _) rfl (fun K hK => ?_)
      try simp only [List.getElem_toArray, List.getElem_cons_succ, List.getElem_cons_zero]
      go_simp
      refine hK.out _ _ ?_
      clear hK K c2 f2
      try simp only [Act.put, List.setIfInBounds_toArray, List.set_cons_zero, List.set_cons_succ, List.getElem_toArray, List.getElem_cons_succ, List.getElem_cons_zero]
      go_wp2_with fail
      go_ret
      exact ⟨rfl, HEQ.out ▸ HFIN.out⟩
    · have hH2 := hHeld
      have kg := hH2
      have hg : (w.drew.alloc (.cells #[] 3)).grownBy ((w.drew.alloc (.cells #[] 3)).alloc (.cells #[.int .i64 x] 3)) none := World.grownBy_alloc _ _ _
      try replace OE := hid (OE.out.grown hg)
      try replace O1 := hid (O1.out.grown hg)
      have LT := hid (show ((w.drew.alloc (.cells #[] 3)).alloc (.cells #[.int .i64 x] 3)).heap[(w.heap.size + 1)]? = some (.cells #[.int .i64 x] 3) from by have h := at_new (w.drew.alloc (.cells #[] 3)) (.cells #[.int .i64 x] 3); (try rw [size_la] at h); exact h)
      have L8 := hid (show (w.grownBy ((w.drew.alloc (.cells #[] 3)).alloc (.cells #[.int .i64 x] 3)) none) from (gb_trans kg hg (.inl rfl)))
      clear hHeld hg kg
      try simp only [List.getElem_toArray, List.getElem_cons_succ, List.getElem_cons_zero]
      go_simp
      refine hK.out _ _ ?_ (fun hHeld => ?_)
      · exact L8.out
      clear hK K
      try dsimp only at hHeld
      try simp only [Act.put, List.setIfInBounds_toArray, List.set_cons_zero, List.set_cons_succ, List.getElem_toArray, List.getElem_cons_succ, List.getElem_cons_zero]
      refine wpAnyH_ready (rs := [6]) (by kernel_rfl) (by simp) ?_
      refine AllReadyH.cons (o := _) rfl (fun K hK => ?_) AllReadyH.nil
      have hH2 := hHeld
      have kg := hH2
      try simp only [List.getElem_toArray, List.getElem_cons_succ, List.getElem_cons_zero]
      rw [if_pos (by rfl)]
      refine wp_append_nums _ _ rfl w.heap.size _ [] rfl OE.out _ l0 rfl (HI.out _ kg) (by rw [HN0.out]; have := HN60.out; simp; omega) kg.size ?_
      intro v1 wA hown hgrow hat
      have O1 := hid (show OwnN w.heap.size wA v1 l0 from by simpa using hown)
      have G1 := hid (gb_ownN kg OE.out (Nat.le_refl _) hgrow)
      try replace LT := hid (at_grown LT.out hgrow (by intro h; first | (have h2 : w.heap.size = w.heap.size + 1 := Option.some.inj h; omega) | (have h2 : w.heap.size + 1 = w.heap.size := Option.some.inj h; omega)))
      clear hown hgrow hat OE
      have L6 := hid (show (w.grownBy wA none) from G1.out)
      clear hHeld kg
      refine hK.out _ _ ?_ (fun hHeld => ?_)
      · exact L6.out
      clear hK K
      try dsimp only at hHeld
      try simp only [Act.put, List.setIfInBounds_toArray, List.set_cons_zero, List.set_cons_succ, List.getElem_toArray, List.getElem_cons_succ, List.getElem_cons_zero]
      refine wpAnyH_ready (rs := [9]) (by kernel_rfl) (by simp) ?_
      refine AllReadyH.cons (o := _) rfl (fun K hK => ?_) AllReadyH.nil
      have hH2 := hHeld
      have kg := hH2
      try simp only [List.getElem_toArray, List.getElem_cons_succ, List.getElem_cons_zero]
      rw [if_pos (by rfl)]
      refine wp_append_nums _ _ rfl w.heap.size _ l0 rfl O1.out _ [x] rfl (nums_of_cells [x] LT.out (le_max _ (by simp))) (by rw [HN0.out]; have := HN60.out; simp; omega) kg.size ?_
      intro v2 wB hown hgrow hat
      have O2 := hid hown
      have G2 := hid (gb_ownN kg O1.out (Nat.le_refl _) hgrow)
      clear hown hgrow hat LT O1
      obtain ⟨ab, ao, nn, mm, rfl, hnn, hnm⟩ := own_form O2.out (by simp)
      rw [List.length_append, HN0.out, List.length_singleton] at hnn
      have HNN := hid (And.intro hnn hnm)
      clear hnn hnm
      have L9 := hid (show (w.grownBy wB none) from G2.out)
      clear hHeld kg
      refine hK.out _ _ ?_ (fun hHeld => ?_)
      · exact L9.out
      clear hK K
      try dsimp only at hHeld
      try simp only [Act.put, List.setIfInBounds_toArray, List.set_cons_zero, List.set_cons_succ, List.getElem_toArray, List.getElem_cons_succ, List.getElem_cons_zero]
      refine wpAnyH_ready (rs := [15]) (by kernel_rfl) (by simp) ?_
      refine AllReadyH.cons (o := _) rfl (fun K hK => ?_) AllReadyH.nil
      try simp only [List.getElem_toArray, List.getElem_cons_succ, List.getElem_cons_zero]
      go_simp
      have hH2 := hHeld
      have kg := hH2
      refine ((rlast_g ab ao nn mm m (by have := HNN.out; omega) HM.out.1 HNN.out.2 (by have := HNN.out; have := HN60.out; omega) (by have := HM.out; omega) _)).mono ?_
      rintro e w1015 ⟨rfl, hg⟩
      have O3 := hid (O2.out.grown hg)
      have L15 := hid (show (w.grownBy w1015 none) from (gb_trans kg hg (.inl rfl)))
      clear hHeld hg kg
      go_wp2_with fail
      refine hK.out _ _ ?_ (fun hHeld => ?_)
      · exact L15.out
      clear hK K
      try dsimp only at hHeld
      try simp only [Act.put, List.setIfInBounds_toArray, List.set_cons_zero, List.set_cons_succ, List.getElem_toArray, List.getElem_cons_succ, List.getElem_cons_zero]
      refine' wpAnyH_take (i := 16) (v := _) rfl (by kernel_rfl) (by kernel_rfl) (by kernel_rfl) (fun _ _ _ h => h) (Or.inl ⟨by rfl, ?_⟩) hHeld ?_
      rotate_left
      · (intro w hSw; (try dsimp only at hSw); go_simp; try with_reducible rfl)
      try simp only [Act.put, List.setIfInBounds_toArray, List.set_cons_zero, List.set_cons_succ, List.getElem_toArray, List.getElem_cons_succ, List.getElem_cons_zero]
      refine' wpAnyH_take (i := 17) (v := _) rfl (by kernel_rfl) (by kernel_rfl) (by kernel_rfl) (fun _ _ _ h => h) (Or.inl ⟨by rfl, ?_⟩) hHeld ?_
      rotate_left
      · (intro w hSw; (try dsimp only at hSw); go_simp; try with_reducible rfl)
      try simp only [Act.put, List.setIfInBounds_toArray, List.set_cons_zero, List.set_cons_succ, List.getElem_toArray, List.getElem_cons_succ, List.getElem_cons_zero]
      refine wpAnyH_done (by kernel_rfl) ?_ _
      have kg := hHeld
      obtain ⟨⟨x2, c2⟩, f2, hfin⟩ := pr_put HH.out kg O3.out (HNN.out.1.trans HNL.out) (k := m) HM.out.1 (by simp) HOK.out
      have HFIN := hid hfin
      clear hfin kg
      refine atLast_step (o := _) rfl (fun K hK => ?_)
      try simp only [List.getElem_toArray, List.getElem_cons_succ, List.getElem_cons_zero]
      go_simp
      refine hK.out _ _ ?_
      clear hK K c2 f2
      try simp only [Act.put, List.setIfInBounds_toArray, List.set_cons_zero, List.set_cons_succ, List.getElem_toArray, List.getElem_cons_succ, List.getElem_cons_zero]
      go_wp2_with fail
      go_ret
      exact ⟨rfl, HEQ.out ▸ HFIN.out⟩
  · have hH2 := hHeld
    have kg := hH2
    have hg : w.drew.grownBy (w.drew.alloc (.cells #[.int .i64 x] 3)) none := World.grownBy_alloc _ _ _
    try replace OE := hid (OE.out.grown hg)
    try replace O1 := hid (O1.out.grown hg)
    have LT := hid (show (w.drew.alloc (.cells #[.int .i64 x] 3)).heap[w.heap.size]? = some (.cells #[.int .i64 x] 3) from by have h := at_new w.drew (.cells #[.int .i64 x] 3); (try rw [size_la] at h); exact h)
    have L8 := hid (show (w.grownBy (w.drew.alloc (.cells #[.int .i64 x] 3)) none) from (gb_trans kg hg (.inl rfl)))
    clear hHeld hg kg
    try simp only [List.getElem_toArray, List.getElem_cons_succ, List.getElem_cons_zero]
    go_simp
    refine hK.out _ _ ?_ (fun hHeld => ?_)
    · exact L8.out
    clear hK K
    try dsimp only at hHeld
    try simp only [Act.put, List.setIfInBounds_toArray, List.set_cons_zero, List.set_cons_succ, List.getElem_toArray, List.getElem_cons_succ, List.getElem_cons_zero]
    refine wpAnyH_ready (rs := [1]) (by kernel_rfl) (by simp) ?_
    refine AllReadyH.cons (o := _) rfl (fun K hK => ?_) AllReadyH.nil
    have hH2 := hHeld
    have kg := hH2
    have hg : (w.drew.alloc (.cells #[.int .i64 x] 3)).grownBy ((w.drew.alloc (.cells #[.int .i64 x] 3)).alloc (.cells #[] 3)) none := World.grownBy_alloc _ _ _
    try replace LT := hid (at_grown LT.out hg (by simp))
    try replace O1 := hid (O1.out.grown hg)
    have OE := hid (show OwnN w.heap.size ((w.drew.alloc (.cells #[.int .i64 x] 3)).alloc (.cells #[] 3)) (.slice (some ⟨(w.heap.size + 1), 0, none⟩) 0 0) [] from by have h := (OwnN.empty (w.drew.alloc (.cells #[.int .i64 x] 3))).le kg.size; (try rw [size_la] at h); exact h)
    have L1 := hid (show (w.grownBy ((w.drew.alloc (.cells #[.int .i64 x] 3)).alloc (.cells #[] 3)) none) from (gb_trans kg hg (.inl rfl)))
    clear hHeld hg kg
    try simp only [List.getElem_toArray, List.getElem_cons_succ, List.getElem_cons_zero]
    go_simp
    refine hK.out _ _ ?_ (fun hHeld => ?_)
    · exact L1.out
    clear hK K
    try dsimp only at hHeld
    try simp only [Act.put, List.setIfInBounds_toArray, List.set_cons_zero, List.set_cons_succ, List.getElem_toArray, List.getElem_cons_succ, List.getElem_cons_zero]
    refine wpAnyH_ready (rs := [6]) (by kernel_rfl) (by simp) ?_
    refine AllReadyH.cons (o := _) rfl (fun K hK => ?_) AllReadyH.nil
    have hH2 := hHeld
    have kg := hH2
    try simp only [List.getElem_toArray, List.getElem_cons_succ, List.getElem_cons_zero]
    rw [if_pos (by rfl)]
    refine wp_append_nums _ _ rfl w.heap.size _ [] rfl OE.out _ l0 rfl (HI.out _ kg) (by rw [HN0.out]; have := HN60.out; simp; omega) kg.size ?_
    intro v1 wA hown hgrow hat
    have O1 := hid (show OwnN w.heap.size wA v1 l0 from by simpa using hown)
    have G1 := hid (gb_ownN kg OE.out (Nat.le_refl _) hgrow)
    try replace LT := hid (at_grown LT.out hgrow (by intro h; first | (have h2 : w.heap.size = w.heap.size + 1 := Option.some.inj h; omega) | (have h2 : w.heap.size + 1 = w.heap.size := Option.some.inj h; omega)))
    clear hown hgrow hat OE
    have L6 := hid (show (w.grownBy wA none) from G1.out)
    clear hHeld kg
    refine hK.out _ _ ?_ (fun hHeld => ?_)
    · exact L6.out
    clear hK K
    try dsimp only at hHeld
    try simp only [Act.put, List.setIfInBounds_toArray, List.set_cons_zero, List.set_cons_succ, List.getElem_toArray, List.getElem_cons_succ, List.getElem_cons_zero]
    refine wpAnyH_ready (rs := [9]) (by kernel_rfl) (by simp) ?_
    refine AllReadyH.cons (o := _) rfl (fun K hK => ?_) AllReadyH.nil
    have hH2 := hHeld
    have kg := hH2
    try simp only [List.getElem_toArray, List.getElem_cons_succ, List.getElem_cons_zero]
    rw [if_pos (by rfl)]
    refine wp_append_nums _ _ rfl w.heap.size _ l0 rfl O1.out _ [x] rfl (nums_of_cells [x] LT.out (le_max _ (by simp))) (by rw [HN0.out]; have := HN60.out; simp; omega) kg.size ?_
    intro v2 wB hown hgrow hat
    have O2 := hid hown
    have G2 := hid (gb_ownN kg O1.out (Nat.le_refl _) hgrow)
    clear hown hgrow hat LT O1
    obtain ⟨ab, ao, nn, mm, rfl, hnn, hnm⟩ := own_form O2.out (by simp)
    rw [List.length_append, HN0.out, List.length_singleton] at hnn
    have HNN := hid (And.intro hnn hnm)
    clear hnn hnm
    have L9 := hid (show (w.grownBy wB none) from G2.out)
    clear hHeld kg
    refine hK.out _ _ ?_ (fun hHeld => ?_)
    · exact L9.out
    clear hK K
    try dsimp only at hHeld
    try simp only [Act.put, List.setIfInBounds_toArray, List.set_cons_zero, List.set_cons_succ, List.getElem_toArray, List.getElem_cons_succ, List.getElem_cons_zero]
    refine wpAnyH_ready (rs := [15]) (by kernel_rfl) (by simp) ?_
    refine AllReadyH.cons (o := _) rfl (fun K hK => ?_) AllReadyH.nil
    try simp only [List.getElem_toArray, List.getElem_cons_succ, List.getElem_cons_zero]
    go_simp
    have hH2 := hHeld
    have kg := hH2
    refine ((rlast_g ab ao nn mm m (by have := HNN.out; omega) HM.out.1 HNN.out.2 (by have := HNN.out; have := HN60.out; omega) (by have := HM.out; omega) _)).mono ?_
    rintro e w1015 ⟨rfl, hg⟩
    have O3 := hid (O2.out.grown hg)
    have L15 := hid (show (w.grownBy w1015 none) from (gb_trans kg hg (.inl rfl)))
    clear hHeld hg kg
    go_wp2_with fail
    refine hK.out _ _ ?_ (fun hHeld => ?_)
    · exact L15.out
    clear hK K
    try dsimp only at hHeld
    try simp only [Act.put, List.setIfInBounds_toArray, List.set_cons_zero, List.set_cons_succ, List.getElem_toArray, List.getElem_cons_succ, List.getElem_cons_zero]
    refine' wpAnyH_take (i := 16) (v := _) rfl (by kernel_rfl) (by kernel_rfl) (by kernel_rfl) (fun _ _ _ h => h) (Or.inl ⟨by rfl, ?_⟩) hHeld ?_
    rotate_left
    · (intro w hSw; (try dsimp only at hSw); go_simp; try with_reducible rfl)
    try simp only [Act.put, List.setIfInBounds_toArray, List.set_cons_zero, List.set_cons_succ, List.getElem_toArray, List.getElem_cons_succ, List.getElem_cons_zero]
    refine' wpAnyH_take (i := 17) (v := _) rfl (by kernel_rfl) (by kernel_rfl) (by kernel_rfl) (fun _ _ _ h => h) (Or.inl ⟨by rfl, ?_⟩) hHeld ?_
    rotate_left
    · (intro w hSw; (try dsimp only at hSw); go_simp; try with_reducible rfl)
    try simp only [Act.put, List.setIfInBounds_toArray, List.set_cons_zero, List.set_cons_succ, List.getElem_toArray, List.getElem_cons_succ, List.getElem_cons_zero]
    refine wpAnyH_done (by kernel_rfl) ?_ _
    have kg := hHeld
    obtain ⟨⟨x2, c2⟩, f2, hfin⟩ := pr_put HH.out kg O3.out (HNN.out.1.trans HNL.out) (k := m) HM.out.1 (by simp) HOK.out
    have HFIN := hid hfin
    clear hfin kg
    refine atLast_step (o := _) rfl (fun K hK => ?_)
    try simp only [List.getElem_toArray, List.getElem_cons_succ, List.getElem_cons_zero]
    go_simp
    refine hK.out _ _ ?_
    clear hK K c2 f2
    try simp only [Act.put, List.setIfInBounds_toArray, List.set_cons_zero, List.set_cons_succ, List.getElem_toArray, List.getElem_cons_succ, List.getElem_cons_zero]
    go_wp2_with fail
    go_ret
    exact ⟨rfl, HEQ.out ▸ HFIN.out⟩
end Go.Proofs.Ytmhpldnmapjghaa
