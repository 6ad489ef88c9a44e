/-
  The walk of the statement LogCells: cells that are unlike have unlike bytes. No condition.
-/
import Derived.Test.YtjebmlmjbnaghaaLgM
import Derived.Deep.CutRange
set_option linter.unusedSimpArgs false
set_option linter.unusedVariables false
namespace Go.Proofs.Ytjebmlmjbnaghaa.lgcells
set_option maxRecDepth 100000
open Go.RowKit

theorem cO_cells {W : World} {b : Nat} {c : Cl} {v : Value} (h : W.heap[b]? = some (cO c v)) : W.cell? ⟨b, 0, none⟩ = some (.int .u32 (c.pass : Int)) ∧ W.cell? ⟨b, 1, none⟩ = some (.int .i64 (c.place : Int)) ∧ W.cell? ⟨b, 2, none⟩ = some (.int .i64 (c.kind : Int)) ∧ W.cell? ⟨b, 3, none⟩ = some v :=
  ⟨at_cell h 0, at_cell h 1, at_cell h 2, at_cell h 3⟩
set_option maxHeartbeats 6400000 in
theorem in_walk (p1 p2 : Nat) (q1 k1 q2 k2 : Int) (ad ae : Option Addr) (n1 n2 cp cq : Nat) (c d : Cl) (hc : c.May) (hd : d.May) (x0 x1 x2 x3 : Bool) (h0 : ((c.pass : Int) == (d.pass : Int)) = x0) (h1 : ((c.place : Int) == (d.place : Int)) = x1) (h2 : ((c.kind : Int) == (d.kind : Int)) = x2) (h3 : ((⟨c.data.toArray⟩ : ByteArray).toList == (⟨d.data.toArray⟩ : ByteArray).toList) = x3) (h4 : ((⟨(putL c).toArray⟩ : ByteArray).toList == (⟨(putL d).toArray⟩ : ByteArray).toList) = (x0 && x1 && x2 && x3)) (w : World) (hv1 : BytesAt w (.slice ad c.data.length cp) c.data) (hv2 : BytesAt w (.slice ae d.data.length cq) d.data)
    (hF1 : ∀ w, Calls Try.prog 21 #[.agg #[.int .u32 (p1 : Int), .int .i64 q1, .int .i64 k1, .slice ad n1 cp]] w fun e w' => e = .returned (.agg (clV c (.slice ad c.data.length cp))) ∧ w.grownBy w' none)
    (hF2 : ∀ w, Calls Try.prog 21 #[.agg #[.int .u32 (p2 : Int), .int .i64 q2, .int .i64 k2, .slice ae n2 cq]] w fun e w' => e = .returned (.agg (clV d (.slice ae d.data.length cq))) ∧ w.grownBy w' none) :
    Calls Try.prog 7 #[.agg #[.int .u32 (p1 : Int), .int .i64 q1, .int .i64 k1, .slice ad n1 cp], .agg #[.int .u32 (p2 : Int), .int .i64 q2, .int .i64 k2, .slice ae n2 cq]] w fun e w' => e = .returned (.bool true) ∧ w.grownBy w' none := by
  have F1 := hid hF1; have F2 := hid hF2; have HV1 := hid hv1; have HV2 := hid hv2; have HC := hid hc; have HD := hid hd; have E0 := hid h0; have E1 := hid h1; have E2 := hid h2; have E3 := hid h3; have E4 := hid h4
  obtain ⟨BA, hA⟩ : ∃ B, B = (.cells #[.int .u32 (p1 : Int), .int .i64 q1, .int .i64 k1, .slice ad n1 cp] 25 : Obj) := ⟨_, rfl⟩
  obtain ⟨BB, hB⟩ : ∃ B, B = (.cells #[.int .u32 (p2 : Int), .int .i64 q2, .int .i64 k2, .slice ae n2 cq] 25 : Obj) := ⟨_, rfl⟩
  have K0 := hid (two_box w BA BB)
  have HA := hid hA; have HB := hid hB
  clear hF1 hF2 hv1 hv2 hc hd hA hB h0 h1 h2 h3 h4
  go_enter Try.func7, Try.ntmps7
  go_upto_region 1 with fail
  rw [← HA.out, ← HB.out]
  generalize (w.alloc BA).alloc BB = w0 at *
  go_cut [5, 6] from 12 to 15 (fun v5 v6 wx => ∃ b5 b6, v5 = .pointer (some ⟨b5, 0, none⟩) ∧ v6 = .pointer (some ⟨b6, 0, none⟩) ∧ Kp w [(b5, cO c (.slice ad c.data.length cp)), (b6, cO d (.slice ae d.data.length cq))] [(.slice ad c.data.length cp, c.data), (.slice ae d.data.length cq, d.data)] wx)
  case first =>
    refine wp_region_held_drew (S := (fun w' => (w'.heap[w.heap.size]? = some BA) ∧ (w'.heap[w.heap.size + 1]? = some BB) ∧ (w.grownBy w' none))) (by kernel_rfl) ⟨K0.out.b1, K0.out.b0, gb_drew K0.out.g⟩ (fun hHeld => ?_)
    try dsimp only at hHeld
    refine' wpAnyH_take (i := 0) (v := _) rfl (by kernel_rfl) (by kernel_rfl) (by kernel_rfl) (fun _ _ _ h => h) (Or.inl ⟨by rfl, ?_⟩) hHeld ?_
    rotate_left
    · (intro w hSw; (try dsimp only at hSw); (try simp only [List.getElem_toArray, List.getElem_cons_succ, List.getElem_cons_zero]); refine exec_row (x := .tmp 2) (by obtain ⟨ba, bb, g⟩ := hSw; first | exact ba | (rw [HA.out] at ba; exact ba)) Try.underlying25 rfl (by kernel_rfl) ?_ ?_ <;> rfl)
    try simp only [Act.put, List.setIfInBounds_toArray, List.set_cons_zero, List.set_cons_succ, List.getElem_toArray, List.getElem_cons_succ, List.getElem_cons_zero]
    refine' wpAnyH_take (i := 2) (v := _) rfl (by kernel_rfl) (by kernel_rfl) (by kernel_rfl) (fun _ _ _ h => h) (Or.inl ⟨by rfl, ?_⟩) hHeld ?_
    rotate_left
    · (intro w hSw; (try dsimp only at hSw); (try simp only [List.getElem_toArray, List.getElem_cons_succ, List.getElem_cons_zero]); refine exec_row (x := .tmp 3) (by obtain ⟨ba, bb, g⟩ := hSw; first | exact bb | (rw [HB.out] at bb; exact bb)) Try.underlying25 rfl (by kernel_rfl) ?_ ?_ <;> rfl)
    try simp only [Act.put, List.setIfInBounds_toArray, List.set_cons_zero, List.set_cons_succ, List.getElem_toArray, List.getElem_cons_succ, List.getElem_cons_zero]
    refine wpAnyH_ready (rs := [1, 4, 5]) (by kernel_rfl) (by simp) ?_
    refine AllReadyH.cons (o := _) rfl (fun K hK => ?_) (AllReadyH.cons (o := _) rfl (fun K hK => ?_) (AllReadyH.cons (o := _) rfl (fun K hK => ?_) AllReadyH.nil))
    · try simp only [List.getElem_toArray, List.getElem_cons_succ, List.getElem_cons_zero]
      go_simp
      have hH2 := hHeld
      obtain ⟨ba, bb, g⟩ := hH2
      refine (F1.out _).mono ?_
      rintro e w1001 ⟨rfl, hg⟩
      have L1 := hid (show (w1001.heap[w.heap.size]? = some BA) ∧ (w1001.heap[w.heap.size + 1]? = some BB) ∧ (w.grownBy w1001 none) from ⟨at_grown ba hg (by simp), at_grown bb hg (by simp), gb_trans g hg (.inl rfl)⟩)
      clear hHeld hg ba bb g
      go_wp2_with fail
      refine hK.out _ _ ?_ (fun hHeld => ?_)
      · exact L1.out
      clear hK K
      try dsimp only at hHeld
      try simp only [Act.put, List.setIfInBounds_toArray, List.set_cons_zero, List.set_cons_succ, List.getElem_toArray, List.getElem_cons_succ, List.getElem_cons_zero]
      refine wpAnyH_ready (rs := [3, 4, 5]) (by kernel_rfl) (by simp) ?_
      refine AllReadyH.cons (o := _) rfl (fun K hK => ?_) (AllReadyH.cons (o := _) rfl (fun K hK => ?_) (AllReadyH.cons (o := _) rfl (fun K hK => ?_) AllReadyH.nil))
      · try simp only [List.getElem_toArray, List.getElem_cons_succ, List.getElem_cons_zero]
        go_simp
        have hH2 := hHeld
        obtain ⟨ba, bb, g⟩ := hH2
        refine (F2.out _).mono ?_
        rintro e w1003 ⟨rfl, hg⟩
        have L3 := hid (show (w1003.heap[w.heap.size]? = some BA) ∧ (w1003.heap[w.heap.size + 1]? = some BB) ∧ (w.grownBy w1003 none) from ⟨at_grown ba hg (by simp), at_grown bb hg (by simp), gb_trans g hg (.inl rfl)⟩)
        clear hHeld hg ba bb g
        go_wp2_with fail
        refine hK.out _ _ ?_ (fun hHeld => ?_)
        · exact L3.out
        clear hK K
        try dsimp only at hHeld
        try simp only [Act.put, List.setIfInBounds_toArray, List.set_cons_zero, List.set_cons_succ, List.getElem_toArray, List.getElem_cons_succ, List.getElem_cons_zero]
        refine wpAnyH_ready (rs := [4, 5]) (by kernel_rfl) (by simp) ?_
        refine AllReadyH.cons (o := _) rfl (fun K hK => ?_) (AllReadyH.cons (o := _) rfl (fun K hK => ?_) AllReadyH.nil)
        · have hH2 := hHeld
          obtain ⟨ba, bb, g⟩ := hH2
          have hg : (w1003).grownBy (w1003.alloc (.cells #[.int .u32 0, .int .i64 0, .int .i64 0, .slice none 0 0] 25)) none := World.grownBy_alloc (w1003) _ _
          have L4 := hid (show ((w1003.alloc (.cells #[.int .u32 0, .int .i64 0, .int .i64 0, .slice none 0 0] 25)).heap[w.heap.size]? = some BA) ∧ ((w1003.alloc (.cells #[.int .u32 0, .int .i64 0, .int .i64 0, .slice none 0 0] 25)).heap[w.heap.size + 1]? = some BB) ∧ (w.grownBy (w1003.alloc (.cells #[.int .u32 0, .int .i64 0, .int .i64 0, .slice none 0 0] 25)) none) from ⟨at_grown ba hg (by simp), at_grown bb hg (by simp), gb_trans g hg (.inl rfl)⟩)
          have Nz4 := hid (show Zc (w1003.heap.size) (w1003.alloc (.cells #[.int .u32 0, .int .i64 0, .int .i64 0, .slice none 0 0] 25)) from (by have h : Zc (w1003).heap.size (w1003.alloc (.cells #[.int .u32 0, .int .i64 0, .int .i64 0, .slice none 0 0] 25)) := ⟨⟨_, _, _, _, at_new (w1003) (.cells #[.int .u32 0, .int .i64 0, .int .i64 0, .slice none 0 0] 25)⟩⟩; rw [(show (w1003).heap.size = w1003.heap.size from rfl)] at h; exact h))
          have Nl4 := hid (show w.heap.size + 1 < w1003.heap.size from (by rw [← (show (w1003).heap.size = w1003.heap.size from rfl)]; exact at_lt bb))
          clear hHeld hg ba bb g
          try simp only [List.getElem_toArray, List.getElem_cons_succ, List.getElem_cons_zero]
          go_simp
          refine hK.out _ _ ?_ (fun hHeld => ?_)
          · exact L4.out
          clear hK K
          try dsimp only at hHeld
          try simp only [Act.put, List.setIfInBounds_toArray, List.set_cons_zero, List.set_cons_succ, List.getElem_toArray, List.getElem_cons_succ, List.getElem_cons_zero]
          refine held_stronger (S' := fun w' => (fun w' => Zc (w1003.heap.size) w') w' ∧ ((fun w' => (w'.heap[w.heap.size]? = some BA) ∧ (w'.heap[w.heap.size + 1]? = some BB) ∧ (w.grownBy w' none))) w') (fun _ h => h.2) _ _ _ _ ?_
          replace hHeld := And.intro Nz4.out hHeld
          try dsimp only at hHeld
          refine held_stronger (S' := fun w' => (fun w' => w.heap.size + 1 < w1003.heap.size) w' ∧ ((fun w' => (Zc (w1003.heap.size) w') ∧ (w'.heap[w.heap.size]? = some BA) ∧ (w'.heap[w.heap.size + 1]? = some BB) ∧ (w.grownBy w' none))) w') (fun _ h => h.2) _ _ _ _ ?_
          replace hHeld := And.intro Nl4.out hHeld
          try dsimp only at hHeld
          refine wpAnyH_ready (rs := [5]) (by kernel_rfl) (by simp) ?_
          refine AllReadyH.cons (o := _) rfl (fun K hK => ?_) AllReadyH.nil
          have hH2 := hHeld
          obtain ⟨l4, z4, ba, bb, g⟩ := hH2
          have hg : ((w1003.alloc (.cells #[.int .u32 0, .int .i64 0, .int .i64 0, .slice none 0 0] 25))).grownBy ((w1003.alloc (.cells #[.int .u32 0, .int .i64 0, .int .i64 0, .slice none 0 0] 25)).alloc (.cells #[.int .u32 0, .int .i64 0, .int .i64 0, .slice none 0 0] 25)) none := World.grownBy_alloc ((w1003.alloc (.cells #[.int .u32 0, .int .i64 0, .int .i64 0, .slice none 0 0] 25))) _ _
          have L5 := hid (show (w.heap.size + 1 < w1003.heap.size) ∧ (Zc (w1003.heap.size) ((w1003.alloc (.cells #[.int .u32 0, .int .i64 0, .int .i64 0, .slice none 0 0] 25)).alloc (.cells #[.int .u32 0, .int .i64 0, .int .i64 0, .slice none 0 0] 25))) ∧ (((w1003.alloc (.cells #[.int .u32 0, .int .i64 0, .int .i64 0, .slice none 0 0] 25)).alloc (.cells #[.int .u32 0, .int .i64 0, .int .i64 0, .slice none 0 0] 25)).heap[w.heap.size]? = some BA) ∧ (((w1003.alloc (.cells #[.int .u32 0, .int .i64 0, .int .i64 0, .slice none 0 0] 25)).alloc (.cells #[.int .u32 0, .int .i64 0, .int .i64 0, .slice none 0 0] 25)).heap[w.heap.size + 1]? = some BB) ∧ (w.grownBy ((w1003.alloc (.cells #[.int .u32 0, .int .i64 0, .int .i64 0, .slice none 0 0] 25)).alloc (.cells #[.int .u32 0, .int .i64 0, .int .i64 0, .slice none 0 0] 25)) none) from ⟨l4, z4.grown hg, at_grown ba hg (by simp), at_grown bb hg (by simp), gb_trans g hg (.inl rfl)⟩)
          have Nz5 := hid (show Zc (w1003.heap.size + 1) ((w1003.alloc (.cells #[.int .u32 0, .int .i64 0, .int .i64 0, .slice none 0 0] 25)).alloc (.cells #[.int .u32 0, .int .i64 0, .int .i64 0, .slice none 0 0] 25)) from (by have h : Zc ((w1003.alloc (.cells #[.int .u32 0, .int .i64 0, .int .i64 0, .slice none 0 0] 25))).heap.size ((w1003.alloc (.cells #[.int .u32 0, .int .i64 0, .int .i64 0, .slice none 0 0] 25)).alloc (.cells #[.int .u32 0, .int .i64 0, .int .i64 0, .slice none 0 0] 25)) := ⟨⟨_, _, _, _, at_new ((w1003.alloc (.cells #[.int .u32 0, .int .i64 0, .int .i64 0, .slice none 0 0] 25))) (.cells #[.int .u32 0, .int .i64 0, .int .i64 0, .slice none 0 0] 25)⟩⟩; rw [(show ((w1003.alloc (.cells #[.int .u32 0, .int .i64 0, .int .i64 0, .slice none 0 0] 25))).heap.size = w1003.heap.size + 1 from alloc_size _ _)] at h; exact h))
          have Nl5 := hid (show w.heap.size + 1 < w1003.heap.size + 1 from (by rw [← (show ((w1003.alloc (.cells #[.int .u32 0, .int .i64 0, .int .i64 0, .slice none 0 0] 25))).heap.size = w1003.heap.size + 1 from alloc_size _ _)]; exact at_lt bb))
          have Nne := hid (show w1003.heap.size ≠ w1003.heap.size + 1 from (Nat.ne_of_lt (by rw [← (show ((w1003.alloc (.cells #[.int .u32 0, .int .i64 0, .int .i64 0, .slice none 0 0] 25))).heap.size = w1003.heap.size + 1 from alloc_size _ _)]; exact z4.lt)))
          clear hHeld hg l4 z4 ba bb g
          try simp only [List.getElem_toArray, List.getElem_cons_succ, List.getElem_cons_zero]
          go_simp
          refine hK.out _ _ ?_ (fun hHeld => ?_)
          · exact L5.out
          clear hK K
          try dsimp only at hHeld
          try simp only [Act.put, List.setIfInBounds_toArray, List.set_cons_zero, List.set_cons_succ, List.getElem_toArray, List.getElem_cons_succ, List.getElem_cons_zero]
          refine held_stronger (S' := fun w' => (fun w' => Zc (w1003.heap.size + 1) w') w' ∧ ((fun w' => (w.heap.size + 1 < w1003.heap.size) ∧ (Zc (w1003.heap.size) w') ∧ (w'.heap[w.heap.size]? = some BA) ∧ (w'.heap[w.heap.size + 1]? = some BB) ∧ (w.grownBy w' none))) w') (fun _ h => h.2) _ _ _ _ ?_
          replace hHeld := And.intro Nz5.out hHeld
          try dsimp only at hHeld
          refine held_stronger (S' := fun w' => (fun w' => w.heap.size + 1 < w1003.heap.size + 1) w' ∧ ((fun w' => (Zc (w1003.heap.size + 1) w') ∧ (w.heap.size + 1 < w1003.heap.size) ∧ (Zc (w1003.heap.size) w') ∧ (w'.heap[w.heap.size]? = some BA) ∧ (w'.heap[w.heap.size + 1]? = some BB) ∧ (w.grownBy w' none))) w') (fun _ h => h.2) _ _ _ _ ?_
          replace hHeld := And.intro Nl5.out hHeld
          try dsimp only at hHeld
          refine held_stronger (S' := fun w' => (fun w' => w1003.heap.size ≠ w1003.heap.size + 1) w' ∧ ((fun w' => (w.heap.size + 1 < w1003.heap.size + 1) ∧ (Zc (w1003.heap.size + 1) w') ∧ (w.heap.size + 1 < w1003.heap.size) ∧ (Zc (w1003.heap.size) w') ∧ (w'.heap[w.heap.size]? = some BA) ∧ (w'.heap[w.heap.size + 1]? = some BB) ∧ (w.grownBy w' none))) w') (fun _ h => h.2) _ _ _ _ ?_
          replace hHeld := And.intro Nne.out hHeld
          try dsimp only at hHeld
          refine wpAnyH_ready (rs := [6]) (by kernel_rfl) (by simp) ?_
          refine AllReadyH.cons (o := _) rfl (fun K hK => ?_) AllReadyH.nil
          have hH2 := hHeld
          obtain ⟨ne, l5, z5, l4, z4, ba, bb, g⟩ := hH2
          obtain ⟨_, _, _, _, hz⟩ := z4.ex
          have L6 := hid (show (w1003.heap.size ≠ w1003.heap.size + 1) ∧ (w.heap.size + 1 < w1003.heap.size + 1) ∧ (Zc (w1003.heap.size + 1) ((((w1003.alloc (.cells #[.int .u32 0, .int .i64 0, .int .i64 0, .slice none 0 0] 25)).alloc (.cells #[.int .u32 0, .int .i64 0, .int .i64 0, .slice none 0 0] 25))).setRow (w1003.heap.size) (clV c (.slice ad c.data.length cp)))) ∧ (w.heap.size + 1 < w1003.heap.size) ∧ (Zc (w1003.heap.size) ((((w1003.alloc (.cells #[.int .u32 0, .int .i64 0, .int .i64 0, .slice none 0 0] 25)).alloc (.cells #[.int .u32 0, .int .i64 0, .int .i64 0, .slice none 0 0] 25))).setRow (w1003.heap.size) (clV c (.slice ad c.data.length cp)))) ∧ (((((w1003.alloc (.cells #[.int .u32 0, .int .i64 0, .int .i64 0, .slice none 0 0] 25)).alloc (.cells #[.int .u32 0, .int .i64 0, .int .i64 0, .slice none 0 0] 25))).setRow (w1003.heap.size) (clV c (.slice ad c.data.length cp))).heap[w.heap.size]? = some BA) ∧ (((((w1003.alloc (.cells #[.int .u32 0, .int .i64 0, .int .i64 0, .slice none 0 0] 25)).alloc (.cells #[.int .u32 0, .int .i64 0, .int .i64 0, .slice none 0 0] 25))).setRow (w1003.heap.size) (clV c (.slice ad c.data.length cp))).heap[w.heap.size + 1]? = some BB) ∧ (w.grownBy ((((w1003.alloc (.cells #[.int .u32 0, .int .i64 0, .int .i64 0, .slice none 0 0] 25)).alloc (.cells #[.int .u32 0, .int .i64 0, .int .i64 0, .slice none 0 0] 25))).setRow (w1003.heap.size) (clV c (.slice ad c.data.length cp))) none) from ⟨ne, l5, (z5.row _ _ _ _ _), l4, (z4.row _ _ _ _ _), (at_setRow_other ba (Nat.ne_of_lt (by have := l4; omega))), (at_setRow_other bb (Nat.ne_of_lt l4)), (gb_setRow g (by have := l4; omega))⟩)
          have Ny4 := hid (show ((((w1003.alloc (.cells #[.int .u32 0, .int .i64 0, .int .i64 0, .slice none 0 0] 25)).alloc (.cells #[.int .u32 0, .int .i64 0, .int .i64 0, .slice none 0 0] 25))).setRow (w1003.heap.size) (clV c (.slice ad c.data.length cp))).heap[w1003.heap.size]? = some (.cells (clV c (.slice ad c.data.length cp)) 25) from (at_setRow hz))
          have A6 := hid (hz)
          clear hHeld ne l5 z5 l4 z4 ba bb g
          try simp only [List.getElem_toArray, List.getElem_cons_succ, List.getElem_cons_zero]
          rw [if_pos (by rfl)]
          refine wp_store_row (cs := (clV c (.slice ad c.data.length cp))) A6.out (by kernel_rfl) (by kernel_rfl) (by kernel_rfl) rfl rfl rfl rfl ?_
          refine hK.out _ _ ?_ (fun hHeld => ?_)
          · exact L6.out
          clear hK K
          try dsimp only at hHeld
          try simp only [Act.put, List.setIfInBounds_toArray, List.set_cons_zero, List.set_cons_succ, List.getElem_toArray, List.getElem_cons_succ, List.getElem_cons_zero]
          refine held_stronger (S' := fun w' => (fun w' => w'.heap[w1003.heap.size]? = some (.cells (clV c (.slice ad c.data.length cp)) 25)) w' ∧ ((fun w' => (w1003.heap.size ≠ w1003.heap.size + 1) ∧ (w.heap.size + 1 < w1003.heap.size + 1) ∧ (Zc (w1003.heap.size + 1) w') ∧ (w.heap.size + 1 < w1003.heap.size) ∧ (Zc (w1003.heap.size) w') ∧ (w'.heap[w.heap.size]? = some BA) ∧ (w'.heap[w.heap.size + 1]? = some BB) ∧ (w.grownBy w' none))) w') (fun _ h => h.2) _ _ _ _ ?_
          replace hHeld := And.intro Ny4.out hHeld
          try dsimp only at hHeld
          refine wpAnyH_ready (rs := [7]) (by kernel_rfl) (by simp) ?_
          refine AllReadyH.cons (o := _) rfl (fun K hK => ?_) AllReadyH.nil
          have hH2 := hHeld
          obtain ⟨y4, ne, l5, z5, l4, z4, ba, bb, g⟩ := hH2
          obtain ⟨_, _, _, _, hz⟩ := z5.ex
          have L7 := hid (show ((((((w1003.alloc (.cells #[.int .u32 0, .int .i64 0, .int .i64 0, .slice none 0 0] 25)).alloc (.cells #[.int .u32 0, .int .i64 0, .int .i64 0, .slice none 0 0] 25))).setRow (w1003.heap.size) (clV c (.slice ad c.data.length cp))).setRow (w1003.heap.size + 1) (clV d (.slice ae d.data.length cq))).heap[w1003.heap.size]? = some (.cells (clV c (.slice ad c.data.length cp)) 25)) ∧ (w1003.heap.size ≠ w1003.heap.size + 1) ∧ (w.heap.size + 1 < w1003.heap.size + 1) ∧ (Zc (w1003.heap.size + 1) (((((w1003.alloc (.cells #[.int .u32 0, .int .i64 0, .int .i64 0, .slice none 0 0] 25)).alloc (.cells #[.int .u32 0, .int .i64 0, .int .i64 0, .slice none 0 0] 25))).setRow (w1003.heap.size) (clV c (.slice ad c.data.length cp))).setRow (w1003.heap.size + 1) (clV d (.slice ae d.data.length cq)))) ∧ (w.heap.size + 1 < w1003.heap.size) ∧ (Zc (w1003.heap.size) (((((w1003.alloc (.cells #[.int .u32 0, .int .i64 0, .int .i64 0, .slice none 0 0] 25)).alloc (.cells #[.int .u32 0, .int .i64 0, .int .i64 0, .slice none 0 0] 25))).setRow (w1003.heap.size) (clV c (.slice ad c.data.length cp))).setRow (w1003.heap.size + 1) (clV d (.slice ae d.data.length cq)))) ∧ ((((((w1003.alloc (.cells #[.int .u32 0, .int .i64 0, .int .i64 0, .slice none 0 0] 25)).alloc (.cells #[.int .u32 0, .int .i64 0, .int .i64 0, .slice none 0 0] 25))).setRow (w1003.heap.size) (clV c (.slice ad c.data.length cp))).setRow (w1003.heap.size + 1) (clV d (.slice ae d.data.length cq))).heap[w.heap.size]? = some BA) ∧ ((((((w1003.alloc (.cells #[.int .u32 0, .int .i64 0, .int .i64 0, .slice none 0 0] 25)).alloc (.cells #[.int .u32 0, .int .i64 0, .int .i64 0, .slice none 0 0] 25))).setRow (w1003.heap.size) (clV c (.slice ad c.data.length cp))).setRow (w1003.heap.size + 1) (clV d (.slice ae d.data.length cq))).heap[w.heap.size + 1]? = some BB) ∧ (w.grownBy (((((w1003.alloc (.cells #[.int .u32 0, .int .i64 0, .int .i64 0, .slice none 0 0] 25)).alloc (.cells #[.int .u32 0, .int .i64 0, .int .i64 0, .slice none 0 0] 25))).setRow (w1003.heap.size) (clV c (.slice ad c.data.length cp))).setRow (w1003.heap.size + 1) (clV d (.slice ae d.data.length cq))) none) from ⟨(at_setRow_other y4 (by have := ne; omega)), ne, l5, (z5.row _ _ _ _ _), l4, (z4.row _ _ _ _ _), (at_setRow_other ba (Nat.ne_of_lt (by have := l5; omega))), (at_setRow_other bb (Nat.ne_of_lt l5)), (gb_setRow g (by have := l5; omega))⟩)
          have Ny5 := hid (show (((((w1003.alloc (.cells #[.int .u32 0, .int .i64 0, .int .i64 0, .slice none 0 0] 25)).alloc (.cells #[.int .u32 0, .int .i64 0, .int .i64 0, .slice none 0 0] 25))).setRow (w1003.heap.size) (clV c (.slice ad c.data.length cp))).setRow (w1003.heap.size + 1) (clV d (.slice ae d.data.length cq))).heap[w1003.heap.size + 1]? = some (.cells (clV d (.slice ae d.data.length cq)) 25) from (at_setRow hz))
          have A7 := hid (hz)
          clear hHeld y4 ne l5 z5 l4 z4 ba bb g
          try simp only [List.getElem_toArray, List.getElem_cons_succ, List.getElem_cons_zero]
          rw [if_pos (by rfl)]
          refine wp_store_row (cs := (clV d (.slice ae d.data.length cq))) A7.out (by kernel_rfl) (by kernel_rfl) (by kernel_rfl) rfl rfl rfl rfl ?_
          refine hK.out _ _ ?_ (fun hHeld => ?_)
          · exact L7.out
          clear hK K
          try dsimp only at hHeld
          try simp only [Act.put, List.setIfInBounds_toArray, List.set_cons_zero, List.set_cons_succ, List.getElem_toArray, List.getElem_cons_succ, List.getElem_cons_zero]
          refine held_stronger (S' := fun w' => (fun w' => w'.heap[w1003.heap.size + 1]? = some (.cells (clV d (.slice ae d.data.length cq)) 25)) w' ∧ ((fun w' => (w'.heap[w1003.heap.size]? = some (.cells (clV c (.slice ad c.data.length cp)) 25)) ∧ (w1003.heap.size ≠ w1003.heap.size + 1) ∧ (w.heap.size + 1 < w1003.heap.size + 1) ∧ (Zc (w1003.heap.size + 1) w') ∧ (w.heap.size + 1 < w1003.heap.size) ∧ (Zc (w1003.heap.size) w') ∧ (w'.heap[w.heap.size]? = some BA) ∧ (w'.heap[w.heap.size + 1]? = some BB) ∧ (w.grownBy w' none))) w') (fun _ h => h.2) _ _ _ _ ?_
          replace hHeld := And.intro Ny5.out hHeld
          try dsimp only at hHeld
          refine wpAnyH_done (by kernel_rfl) ?_ _
          obtain ⟨y5, y4, ne, l5, z5, l4, z4, ba, bb, g⟩ := hHeld
          have K := hid (kp_two g y4 y5 HV1.out HV2.out); clear y5 y4 ne l5 z5 l4 z4 ba bb g
          go_wp2_with fail
          go_meet
          exact ⟨_, _, rfl, rfl, K.out⟩
        · have hH2 := hHeld
          obtain ⟨ba, bb, g⟩ := hH2
          have hg : (w1003).grownBy (w1003.alloc (.cells #[.int .u32 0, .int .i64 0, .int .i64 0, .slice none 0 0] 25)) none := World.grownBy_alloc (w1003) _ _
          have L5 := hid (show ((w1003.alloc (.cells #[.int .u32 0, .int .i64 0, .int .i64 0, .slice none 0 0] 25)).heap[w.heap.size]? = some BA) ∧ ((w1003.alloc (.cells #[.int .u32 0, .int .i64 0, .int .i64 0, .slice none 0 0] 25)).heap[w.heap.size + 1]? = some BB) ∧ (w.grownBy (w1003.alloc (.cells #[.int .u32 0, .int .i64 0, .int .i64 0, .slice none 0 0] 25)) none) from ⟨at_grown ba hg (by simp), at_grown bb hg (by simp), gb_trans g hg (.inl rfl)⟩)
          have Nz5 := hid (show Zc (w1003.heap.size) (w1003.alloc (.cells #[.int .u32 0, .int .i64 0, .int .i64 0, .slice none 0 0] 25)) from (by have h : Zc (w1003).heap.size (w1003.alloc (.cells #[.int .u32 0, .int .i64 0, .int .i64 0, .slice none 0 0] 25)) := ⟨⟨_, _, _, _, at_new (w1003) (.cells #[.int .u32 0, .int .i64 0, .int .i64 0, .slice none 0 0] 25)⟩⟩; rw [(show (w1003).heap.size = w1003.heap.size from rfl)] at h; exact h))
          have Nl5 := hid (show w.heap.size + 1 < w1003.heap.size from (by rw [← (show (w1003).heap.size = w1003.heap.size from rfl)]; exact at_lt bb))
          clear hHeld hg ba bb g
          try simp only [List.getElem_toArray, List.getElem_cons_succ, List.getElem_cons_zero]
          go_simp
          refine hK.out _ _ ?_ (fun hHeld => ?_)
          · exact L5.out
          clear hK K
          try dsimp only at hHeld
          try simp only [Act.put, List.setIfInBounds_toArray, List.set_cons_zero, List.set_cons_succ, List.getElem_toArray, List.getElem_cons_succ, List.getElem_cons_zero]
          refine held_stronger (S' := fun w' => (fun w' => Zc (w1003.heap.size) w') w' ∧ ((fun w' => (w'.heap[w.heap.size]? = some BA) ∧ (w'.heap[w.heap.size + 1]? = some BB) ∧ (w.grownBy w' none))) w') (fun _ h => h.2) _ _ _ _ ?_
          replace hHeld := And.intro Nz5.out hHeld
          try dsimp only at hHeld
          refine held_stronger (S' := fun w' => (fun w' => w.heap.size + 1 < w1003.heap.size) w' ∧ ((fun w' => (Zc (w1003.heap.size) w') ∧ (w'.heap[w.heap.size]? = some BA) ∧ (w'.heap[w.heap.size + 1]? = some BB) ∧ (w.grownBy w' none))) w') (fun _ h => h.2) _ _ _ _ ?_
          replace hHeld := And.intro Nl5.out hHeld
          try dsimp only at hHeld
          refine wpAnyH_ready (rs := [4]) (by kernel_rfl) (by simp) ?_
          refine AllReadyH.cons (o := _) rfl (fun K hK => ?_) AllReadyH.nil
          have hH2 := hHeld
          obtain ⟨l5, z5, ba, bb, g⟩ := hH2
          have hg : ((w1003.alloc (.cells #[.int .u32 0, .int .i64 0, .int .i64 0, .slice none 0 0] 25))).grownBy ((w1003.alloc (.cells #[.int .u32 0, .int .i64 0, .int .i64 0, .slice none 0 0] 25)).alloc (.cells #[.int .u32 0, .int .i64 0, .int .i64 0, .slice none 0 0] 25)) none := World.grownBy_alloc ((w1003.alloc (.cells #[.int .u32 0, .int .i64 0, .int .i64 0, .slice none 0 0] 25))) _ _
          have L4 := hid (show (w.heap.size + 1 < w1003.heap.size) ∧ (Zc (w1003.heap.size) ((w1003.alloc (.cells #[.int .u32 0, .int .i64 0, .int .i64 0, .slice none 0 0] 25)).alloc (.cells #[.int .u32 0, .int .i64 0, .int .i64 0, .slice none 0 0] 25))) ∧ (((w1003.alloc (.cells #[.int .u32 0, .int .i64 0, .int .i64 0, .slice none 0 0] 25)).alloc (.cells #[.int .u32 0, .int .i64 0, .int .i64 0, .slice none 0 0] 25)).heap[w.heap.size]? = some BA) ∧ (((w1003.alloc (.cells #[.int .u32 0, .int .i64 0, .int .i64 0, .slice none 0 0] 25)).alloc (.cells #[.int .u32 0, .int .i64 0, .int .i64 0, .slice none 0 0] 25)).heap[w.heap.size + 1]? = some BB) ∧ (w.grownBy ((w1003.alloc (.cells #[.int .u32 0, .int .i64 0, .int .i64 0, .slice none 0 0] 25)).alloc (.cells #[.int .u32 0, .int .i64 0, .int .i64 0, .slice none 0 0] 25)) none) from ⟨l5, z5.grown hg, at_grown ba hg (by simp), at_grown bb hg (by simp), gb_trans g hg (.inl rfl)⟩)
          have Nz4 := hid (show Zc (w1003.heap.size + 1) ((w1003.alloc (.cells #[.int .u32 0, .int .i64 0, .int .i64 0, .slice none 0 0] 25)).alloc (.cells #[.int .u32 0, .int .i64 0, .int .i64 0, .slice none 0 0] 25)) from (by have h : Zc ((w1003.alloc (.cells #[.int .u32 0, .int .i64 0, .int .i64 0, .slice none 0 0] 25))).heap.size ((w1003.alloc (.cells #[.int .u32 0, .int .i64 0, .int .i64 0, .slice none 0 0] 25)).alloc (.cells #[.int .u32 0, .int .i64 0, .int .i64 0, .slice none 0 0] 25)) := ⟨⟨_, _, _, _, at_new ((w1003.alloc (.cells #[.int .u32 0, .int .i64 0, .int .i64 0, .slice none 0 0] 25))) (.cells #[.int .u32 0, .int .i64 0, .int .i64 0, .slice none 0 0] 25)⟩⟩; rw [(show ((w1003.alloc (.cells #[.int .u32 0, .int .i64 0, .int .i64 0, .slice none 0 0] 25))).heap.size = w1003.heap.size + 1 from alloc_size _ _)] at h; exact h))
          have Nl4 := hid (show w.heap.size + 1 < w1003.heap.size + 1 from (by rw [← (show ((w1003.alloc (.cells #[.int .u32 0, .int .i64 0, .int .i64 0, .slice none 0 0] 25))).heap.size = w1003.heap.size + 1 from alloc_size _ _)]; exact at_lt bb))
          have Nne := hid (show w1003.heap.size ≠ w1003.heap.size + 1 from (Nat.ne_of_lt (by rw [← (show ((w1003.alloc (.cells #[.int .u32 0, .int .i64 0, .int .i64 0, .slice none 0 0] 25))).heap.size = w1003.heap.size + 1 from alloc_size _ _)]; exact z5.lt)))
          clear hHeld hg l5 z5 ba bb g
          try simp only [List.getElem_toArray, List.getElem_cons_succ, List.getElem_cons_zero]
          go_simp
          refine hK.out _ _ ?_ (fun hHeld => ?_)
          · exact L4.out
          clear hK K
          try dsimp only at hHeld
          try simp only [Act.put, List.setIfInBounds_toArray, List.set_cons_zero, List.set_cons_succ, List.getElem_toArray, List.getElem_cons_succ, List.getElem_cons_zero]
          refine held_stronger (S' := fun w' => (fun w' => Zc (w1003.heap.size + 1) w') w' ∧ ((fun w' => (w.heap.size + 1 < w1003.heap.size) ∧ (Zc (w1003.heap.size) w') ∧ (w'.heap[w.heap.size]? = some BA) ∧ (w'.heap[w.heap.size + 1]? = some BB) ∧ (w.grownBy w' none))) w') (fun _ h => h.2) _ _ _ _ ?_
          replace hHeld := And.intro Nz4.out hHeld
          try dsimp only at hHeld
          refine held_stronger (S' := fun w' => (fun w' => w.heap.size + 1 < w1003.heap.size + 1) w' ∧ ((fun w' => (Zc (w1003.heap.size + 1) w') ∧ (w.heap.size + 1 < w1003.heap.size) ∧ (Zc (w1003.heap.size) w') ∧ (w'.heap[w.heap.size]? = some BA) ∧ (w'.heap[w.heap.size + 1]? = some BB) ∧ (w.grownBy w' none))) w') (fun _ h => h.2) _ _ _ _ ?_
          replace hHeld := And.intro Nl4.out hHeld
          try dsimp only at hHeld
          refine held_stronger (S' := fun w' => (fun w' => w1003.heap.size ≠ w1003.heap.size + 1) w' ∧ ((fun w' => (w.heap.size + 1 < w1003.heap.size + 1) ∧ (Zc (w1003.heap.size + 1) w') ∧ (w.heap.size + 1 < w1003.heap.size) ∧ (Zc (w1003.heap.size) w') ∧ (w'.heap[w.heap.size]? = some BA) ∧ (w'.heap[w.heap.size + 1]? = some BB) ∧ (w.grownBy w' none))) w') (fun _ h => h.2) _ _ _ _ ?_
          replace hHeld := And.intro Nne.out hHeld
          try dsimp only at hHeld
          refine wpAnyH_ready (rs := [6]) (by kernel_rfl) (by simp) ?_
          refine AllReadyH.cons (o := _) rfl (fun K hK => ?_) AllReadyH.nil
          have hH2 := hHeld
          obtain ⟨ne, l4, z4, l5, z5, ba, bb, g⟩ := hH2
          obtain ⟨_, _, _, _, hz⟩ := z4.ex
          have L6 := hid (show (w1003.heap.size ≠ w1003.heap.size + 1) ∧ (w.heap.size + 1 < w1003.heap.size + 1) ∧ (Zc (w1003.heap.size + 1) ((((w1003.alloc (.cells #[.int .u32 0, .int .i64 0, .int .i64 0, .slice none 0 0] 25)).alloc (.cells #[.int .u32 0, .int .i64 0, .int .i64 0, .slice none 0 0] 25))).setRow (w1003.heap.size + 1) (clV c (.slice ad c.data.length cp)))) ∧ (w.heap.size + 1 < w1003.heap.size) ∧ (Zc (w1003.heap.size) ((((w1003.alloc (.cells #[.int .u32 0, .int .i64 0, .int .i64 0, .slice none 0 0] 25)).alloc (.cells #[.int .u32 0, .int .i64 0, .int .i64 0, .slice none 0 0] 25))).setRow (w1003.heap.size + 1) (clV c (.slice ad c.data.length cp)))) ∧ (((((w1003.alloc (.cells #[.int .u32 0, .int .i64 0, .int .i64 0, .slice none 0 0] 25)).alloc (.cells #[.int .u32 0, .int .i64 0, .int .i64 0, .slice none 0 0] 25))).setRow (w1003.heap.size + 1) (clV c (.slice ad c.data.length cp))).heap[w.heap.size]? = some BA) ∧ (((((w1003.alloc (.cells #[.int .u32 0, .int .i64 0, .int .i64 0, .slice none 0 0] 25)).alloc (.cells #[.int .u32 0, .int .i64 0, .int .i64 0, .slice none 0 0] 25))).setRow (w1003.heap.size + 1) (clV c (.slice ad c.data.length cp))).heap[w.heap.size + 1]? = some BB) ∧ (w.grownBy ((((w1003.alloc (.cells #[.int .u32 0, .int .i64 0, .int .i64 0, .slice none 0 0] 25)).alloc (.cells #[.int .u32 0, .int .i64 0, .int .i64 0, .slice none 0 0] 25))).setRow (w1003.heap.size + 1) (clV c (.slice ad c.data.length cp))) none) from ⟨ne, l4, (z4.row _ _ _ _ _), l5, (z5.row _ _ _ _ _), (at_setRow_other ba (Nat.ne_of_lt (by have := l4; omega))), (at_setRow_other bb (Nat.ne_of_lt l4)), (gb_setRow g (by have := l4; omega))⟩)
          have Ny4 := hid (show ((((w1003.alloc (.cells #[.int .u32 0, .int .i64 0, .int .i64 0, .slice none 0 0] 25)).alloc (.cells #[.int .u32 0, .int .i64 0, .int .i64 0, .slice none 0 0] 25))).setRow (w1003.heap.size + 1) (clV c (.slice ad c.data.length cp))).heap[w1003.heap.size + 1]? = some (.cells (clV c (.slice ad c.data.length cp)) 25) from (at_setRow hz))
          have A6 := hid (hz)
          clear hHeld ne l4 z4 l5 z5 ba bb g
          try simp only [List.getElem_toArray, List.getElem_cons_succ, List.getElem_cons_zero]
          rw [if_pos (by rfl)]
          refine wp_store_row (cs := (clV c (.slice ad c.data.length cp))) A6.out (by kernel_rfl) (by kernel_rfl) (by kernel_rfl) rfl rfl rfl rfl ?_
          refine hK.out _ _ ?_ (fun hHeld => ?_)
          · exact L6.out
          clear hK K
          try dsimp only at hHeld
          try simp only [Act.put, List.setIfInBounds_toArray, List.set_cons_zero, List.set_cons_succ, List.getElem_toArray, List.getElem_cons_succ, List.getElem_cons_zero]
          refine held_stronger (S' := fun w' => (fun w' => w'.heap[w1003.heap.size + 1]? = some (.cells (clV c (.slice ad c.data.length cp)) 25)) w' ∧ ((fun w' => (w1003.heap.size ≠ w1003.heap.size + 1) ∧ (w.heap.size + 1 < w1003.heap.size + 1) ∧ (Zc (w1003.heap.size + 1) w') ∧ (w.heap.size + 1 < w1003.heap.size) ∧ (Zc (w1003.heap.size) w') ∧ (w'.heap[w.heap.size]? = some BA) ∧ (w'.heap[w.heap.size + 1]? = some BB) ∧ (w.grownBy w' none))) w') (fun _ h => h.2) _ _ _ _ ?_
          replace hHeld := And.intro Ny4.out hHeld
          try dsimp only at hHeld
          refine wpAnyH_ready (rs := [7]) (by kernel_rfl) (by simp) ?_
          refine AllReadyH.cons (o := _) rfl (fun K hK => ?_) AllReadyH.nil
          have hH2 := hHeld
          obtain ⟨y4, ne, l4, z4, l5, z5, ba, bb, g⟩ := hH2
          obtain ⟨_, _, _, _, hz⟩ := z5.ex
          have L7 := hid (show ((((((w1003.alloc (.cells #[.int .u32 0, .int .i64 0, .int .i64 0, .slice none 0 0] 25)).alloc (.cells #[.int .u32 0, .int .i64 0, .int .i64 0, .slice none 0 0] 25))).setRow (w1003.heap.size + 1) (clV c (.slice ad c.data.length cp))).setRow (w1003.heap.size) (clV d (.slice ae d.data.length cq))).heap[w1003.heap.size + 1]? = some (.cells (clV c (.slice ad c.data.length cp)) 25)) ∧ (w1003.heap.size ≠ w1003.heap.size + 1) ∧ (w.heap.size + 1 < w1003.heap.size + 1) ∧ (Zc (w1003.heap.size + 1) (((((w1003.alloc (.cells #[.int .u32 0, .int .i64 0, .int .i64 0, .slice none 0 0] 25)).alloc (.cells #[.int .u32 0, .int .i64 0, .int .i64 0, .slice none 0 0] 25))).setRow (w1003.heap.size + 1) (clV c (.slice ad c.data.length cp))).setRow (w1003.heap.size) (clV d (.slice ae d.data.length cq)))) ∧ (w.heap.size + 1 < w1003.heap.size) ∧ (Zc (w1003.heap.size) (((((w1003.alloc (.cells #[.int .u32 0, .int .i64 0, .int .i64 0, .slice none 0 0] 25)).alloc (.cells #[.int .u32 0, .int .i64 0, .int .i64 0, .slice none 0 0] 25))).setRow (w1003.heap.size + 1) (clV c (.slice ad c.data.length cp))).setRow (w1003.heap.size) (clV d (.slice ae d.data.length cq)))) ∧ ((((((w1003.alloc (.cells #[.int .u32 0, .int .i64 0, .int .i64 0, .slice none 0 0] 25)).alloc (.cells #[.int .u32 0, .int .i64 0, .int .i64 0, .slice none 0 0] 25))).setRow (w1003.heap.size + 1) (clV c (.slice ad c.data.length cp))).setRow (w1003.heap.size) (clV d (.slice ae d.data.length cq))).heap[w.heap.size]? = some BA) ∧ ((((((w1003.alloc (.cells #[.int .u32 0, .int .i64 0, .int .i64 0, .slice none 0 0] 25)).alloc (.cells #[.int .u32 0, .int .i64 0, .int .i64 0, .slice none 0 0] 25))).setRow (w1003.heap.size + 1) (clV c (.slice ad c.data.length cp))).setRow (w1003.heap.size) (clV d (.slice ae d.data.length cq))).heap[w.heap.size + 1]? = some BB) ∧ (w.grownBy (((((w1003.alloc (.cells #[.int .u32 0, .int .i64 0, .int .i64 0, .slice none 0 0] 25)).alloc (.cells #[.int .u32 0, .int .i64 0, .int .i64 0, .slice none 0 0] 25))).setRow (w1003.heap.size + 1) (clV c (.slice ad c.data.length cp))).setRow (w1003.heap.size) (clV d (.slice ae d.data.length cq))) none) from ⟨(at_setRow_other y4 (by have := ne; omega)), ne, l4, (z4.row _ _ _ _ _), l5, (z5.row _ _ _ _ _), (at_setRow_other ba (Nat.ne_of_lt (by have := l5; omega))), (at_setRow_other bb (Nat.ne_of_lt l5)), (gb_setRow g (by have := l5; omega))⟩)
          have Ny5 := hid (show (((((w1003.alloc (.cells #[.int .u32 0, .int .i64 0, .int .i64 0, .slice none 0 0] 25)).alloc (.cells #[.int .u32 0, .int .i64 0, .int .i64 0, .slice none 0 0] 25))).setRow (w1003.heap.size + 1) (clV c (.slice ad c.data.length cp))).setRow (w1003.heap.size) (clV d (.slice ae d.data.length cq))).heap[w1003.heap.size]? = some (.cells (clV d (.slice ae d.data.length cq)) 25) from (at_setRow hz))
          have A7 := hid (hz)
          clear hHeld y4 ne l4 z4 l5 z5 ba bb g
          try simp only [List.getElem_toArray, List.getElem_cons_succ, List.getElem_cons_zero]
          rw [if_pos (by rfl)]
          refine wp_store_row (cs := (clV d (.slice ae d.data.length cq))) A7.out (by kernel_rfl) (by kernel_rfl) (by kernel_rfl) rfl rfl rfl rfl ?_
          refine hK.out _ _ ?_ (fun hHeld => ?_)
          · exact L7.out
          clear hK K
          try dsimp only at hHeld
          try simp only [Act.put, List.setIfInBounds_toArray, List.set_cons_zero, List.set_cons_succ, List.getElem_toArray, List.getElem_cons_succ, List.getElem_cons_zero]
          refine held_stronger (S' := fun w' => (fun w' => w'.heap[w1003.heap.size]? = some (.cells (clV d (.slice ae d.data.length cq)) 25)) w' ∧ ((fun w' => (w'.heap[w1003.heap.size + 1]? = some (.cells (clV c (.slice ad c.data.length cp)) 25)) ∧ (w1003.heap.size ≠ w1003.heap.size + 1) ∧ (w.heap.size + 1 < w1003.heap.size + 1) ∧ (Zc (w1003.heap.size + 1) w') ∧ (w.heap.size + 1 < w1003.heap.size) ∧ (Zc (w1003.heap.size) w') ∧ (w'.heap[w.heap.size]? = some BA) ∧ (w'.heap[w.heap.size + 1]? = some BB) ∧ (w.grownBy w' none))) w') (fun _ h => h.2) _ _ _ _ ?_
          replace hHeld := And.intro Ny5.out hHeld
          try dsimp only at hHeld
          refine wpAnyH_done (by kernel_rfl) ?_ _
          obtain ⟨y5, y4, ne, l4, z4, l5, z5, ba, bb, g⟩ := hHeld
          have K := hid (kp_two g y4 y5 HV1.out HV2.out); clear y5 y4 ne l4 z4 l5 z5 ba bb g
          go_wp2_with fail
          go_meet
          exact ⟨_, _, rfl, rfl, K.out⟩
      · have hH2 := hHeld
        obtain ⟨ba, bb, g⟩ := hH2
        have hg : (w1001).grownBy (w1001.alloc (.cells #[.int .u32 0, .int .i64 0, .int .i64 0, .slice none 0 0] 25)) none := World.grownBy_alloc (w1001) _ _
        have L4 := hid (show ((w1001.alloc (.cells #[.int .u32 0, .int .i64 0, .int .i64 0, .slice none 0 0] 25)).heap[w.heap.size]? = some BA) ∧ ((w1001.alloc (.cells #[.int .u32 0, .int .i64 0, .int .i64 0, .slice none 0 0] 25)).heap[w.heap.size + 1]? = some BB) ∧ (w.grownBy (w1001.alloc (.cells #[.int .u32 0, .int .i64 0, .int .i64 0, .slice none 0 0] 25)) none) from ⟨at_grown ba hg (by simp), at_grown bb hg (by simp), gb_trans g hg (.inl rfl)⟩)
        have Nz4 := hid (show Zc (w1001.heap.size) (w1001.alloc (.cells #[.int .u32 0, .int .i64 0, .int .i64 0, .slice none 0 0] 25)) from (by have h : Zc (w1001).heap.size (w1001.alloc (.cells #[.int .u32 0, .int .i64 0, .int .i64 0, .slice none 0 0] 25)) := ⟨⟨_, _, _, _, at_new (w1001) (.cells #[.int .u32 0, .int .i64 0, .int .i64 0, .slice none 0 0] 25)⟩⟩; rw [(show (w1001).heap.size = w1001.heap.size from rfl)] at h; exact h))
        have Nl4 := hid (show w.heap.size + 1 < w1001.heap.size from (by rw [← (show (w1001).heap.size = w1001.heap.size from rfl)]; exact at_lt bb))
        clear hHeld hg ba bb g
        try simp only [List.getElem_toArray, List.getElem_cons_succ, List.getElem_cons_zero]
        go_simp
        refine hK.out _ _ ?_ (fun hHeld => ?_)
        · exact L4.out
        clear hK K
        try dsimp only at hHeld
        try simp only [Act.put, List.setIfInBounds_toArray, List.set_cons_zero, List.set_cons_succ, List.getElem_toArray, List.getElem_cons_succ, List.getElem_cons_zero]
        refine held_stronger (S' := fun w' => (fun w' => Zc (w1001.heap.size) w') w' ∧ ((fun w' => (w'.heap[w.heap.size]? = some BA) ∧ (w'.heap[w.heap.size + 1]? = some BB) ∧ (w.grownBy w' none))) w') (fun _ h => h.2) _ _ _ _ ?_
        replace hHeld := And.intro Nz4.out hHeld
        try dsimp only at hHeld
        refine held_stronger (S' := fun w' => (fun w' => w.heap.size + 1 < w1001.heap.size) w' ∧ ((fun w' => (Zc (w1001.heap.size) w') ∧ (w'.heap[w.heap.size]? = some BA) ∧ (w'.heap[w.heap.size + 1]? = some BB) ∧ (w.grownBy w' none))) w') (fun _ h => h.2) _ _ _ _ ?_
        replace hHeld := And.intro Nl4.out hHeld
        try dsimp only at hHeld
        refine wpAnyH_ready (rs := [3, 5]) (by kernel_rfl) (by simp) ?_
        refine AllReadyH.cons (o := _) rfl (fun K hK => ?_) (AllReadyH.cons (o := _) rfl (fun K hK => ?_) AllReadyH.nil)
        · try simp only [List.getElem_toArray, List.getElem_cons_succ, List.getElem_cons_zero]
          go_simp
          have hH2 := hHeld
          obtain ⟨l4, z4, ba, bb, g⟩ := hH2
          refine (F2.out _).mono ?_
          rintro e w1003 ⟨rfl, hg⟩
          have L3 := hid (show (w.heap.size + 1 < w1001.heap.size) ∧ (Zc (w1001.heap.size) w1003) ∧ (w1003.heap[w.heap.size]? = some BA) ∧ (w1003.heap[w.heap.size + 1]? = some BB) ∧ (w.grownBy w1003 none) from ⟨l4, z4.grown hg, at_grown ba hg (by simp), at_grown bb hg (by simp), gb_trans g hg (.inl rfl)⟩)
          clear hHeld hg l4 z4 ba bb g
          go_wp2_with fail
          refine hK.out _ _ ?_ (fun hHeld => ?_)
          · exact L3.out
          clear hK K
          try dsimp only at hHeld
          try simp only [Act.put, List.setIfInBounds_toArray, List.set_cons_zero, List.set_cons_succ, List.getElem_toArray, List.getElem_cons_succ, List.getElem_cons_zero]
          refine wpAnyH_ready (rs := [5]) (by kernel_rfl) (by simp) ?_
          refine AllReadyH.cons (o := _) rfl (fun K hK => ?_) AllReadyH.nil
          have hH2 := hHeld
          obtain ⟨l4, z4, ba, bb, g⟩ := hH2
          have hg : (w1003).grownBy (w1003.alloc (.cells #[.int .u32 0, .int .i64 0, .int .i64 0, .slice none 0 0] 25)) none := World.grownBy_alloc (w1003) _ _
          have L5 := hid (show (w.heap.size + 1 < w1001.heap.size) ∧ (Zc (w1001.heap.size) (w1003.alloc (.cells #[.int .u32 0, .int .i64 0, .int .i64 0, .slice none 0 0] 25))) ∧ ((w1003.alloc (.cells #[.int .u32 0, .int .i64 0, .int .i64 0, .slice none 0 0] 25)).heap[w.heap.size]? = some BA) ∧ ((w1003.alloc (.cells #[.int .u32 0, .int .i64 0, .int .i64 0, .slice none 0 0] 25)).heap[w.heap.size + 1]? = some BB) ∧ (w.grownBy (w1003.alloc (.cells #[.int .u32 0, .int .i64 0, .int .i64 0, .slice none 0 0] 25)) none) from ⟨l4, z4.grown hg, at_grown ba hg (by simp), at_grown bb hg (by simp), gb_trans g hg (.inl rfl)⟩)
          have Nz5 := hid (show Zc (w1003.heap.size) (w1003.alloc (.cells #[.int .u32 0, .int .i64 0, .int .i64 0, .slice none 0 0] 25)) from (by have h : Zc (w1003).heap.size (w1003.alloc (.cells #[.int .u32 0, .int .i64 0, .int .i64 0, .slice none 0 0] 25)) := ⟨⟨_, _, _, _, at_new (w1003) (.cells #[.int .u32 0, .int .i64 0, .int .i64 0, .slice none 0 0] 25)⟩⟩; rw [(show (w1003).heap.size = w1003.heap.size from rfl)] at h; exact h))
          have Nl5 := hid (show w.heap.size + 1 < w1003.heap.size from (by rw [← (show (w1003).heap.size = w1003.heap.size from rfl)]; exact at_lt bb))
          have Nne := hid (show w1001.heap.size ≠ w1003.heap.size from (Nat.ne_of_lt (by rw [← (show (w1003).heap.size = w1003.heap.size from rfl)]; exact z4.lt)))
          clear hHeld hg l4 z4 ba bb g
          try simp only [List.getElem_toArray, List.getElem_cons_succ, List.getElem_cons_zero]
          go_simp
          refine hK.out _ _ ?_ (fun hHeld => ?_)
          · exact L5.out
          clear hK K
          try dsimp only at hHeld
          try simp only [Act.put, List.setIfInBounds_toArray, List.set_cons_zero, List.set_cons_succ, List.getElem_toArray, List.getElem_cons_succ, List.getElem_cons_zero]
          refine held_stronger (S' := fun w' => (fun w' => Zc (w1003.heap.size) w') w' ∧ ((fun w' => (w.heap.size + 1 < w1001.heap.size) ∧ (Zc (w1001.heap.size) w') ∧ (w'.heap[w.heap.size]? = some BA) ∧ (w'.heap[w.heap.size + 1]? = some BB) ∧ (w.grownBy w' none))) w') (fun _ h => h.2) _ _ _ _ ?_
          replace hHeld := And.intro Nz5.out hHeld
          try dsimp only at hHeld
          refine held_stronger (S' := fun w' => (fun w' => w.heap.size + 1 < w1003.heap.size) w' ∧ ((fun w' => (Zc (w1003.heap.size) w') ∧ (w.heap.size + 1 < w1001.heap.size) ∧ (Zc (w1001.heap.size) w') ∧ (w'.heap[w.heap.size]? = some BA) ∧ (w'.heap[w.heap.size + 1]? = some BB) ∧ (w.grownBy w' none))) w') (fun _ h => h.2) _ _ _ _ ?_
          replace hHeld := And.intro Nl5.out hHeld
          try dsimp only at hHeld
          refine held_stronger (S' := fun w' => (fun w' => w1001.heap.size ≠ w1003.heap.size) w' ∧ ((fun w' => (w.heap.size + 1 < w1003.heap.size) ∧ (Zc (w1003.heap.size) w') ∧ (w.heap.size + 1 < w1001.heap.size) ∧ (Zc (w1001.heap.size) w') ∧ (w'.heap[w.heap.size]? = some BA) ∧ (w'.heap[w.heap.size + 1]? = some BB) ∧ (w.grownBy w' none))) w') (fun _ h => h.2) _ _ _ _ ?_
          replace hHeld := And.intro Nne.out hHeld
          try dsimp only at hHeld
          refine wpAnyH_ready (rs := [6]) (by kernel_rfl) (by simp) ?_
          refine AllReadyH.cons (o := _) rfl (fun K hK => ?_) AllReadyH.nil
          have hH2 := hHeld
          obtain ⟨ne, l5, z5, l4, z4, ba, bb, g⟩ := hH2
          obtain ⟨_, _, _, _, hz⟩ := z4.ex
          have L6 := hid (show (w1001.heap.size ≠ w1003.heap.size) ∧ (w.heap.size + 1 < w1003.heap.size) ∧ (Zc (w1003.heap.size) (((w1003.alloc (.cells #[.int .u32 0, .int .i64 0, .int .i64 0, .slice none 0 0] 25))).setRow (w1001.heap.size) (clV c (.slice ad c.data.length cp)))) ∧ (w.heap.size + 1 < w1001.heap.size) ∧ (Zc (w1001.heap.size) (((w1003.alloc (.cells #[.int .u32 0, .int .i64 0, .int .i64 0, .slice none 0 0] 25))).setRow (w1001.heap.size) (clV c (.slice ad c.data.length cp)))) ∧ ((((w1003.alloc (.cells #[.int .u32 0, .int .i64 0, .int .i64 0, .slice none 0 0] 25))).setRow (w1001.heap.size) (clV c (.slice ad c.data.length cp))).heap[w.heap.size]? = some BA) ∧ ((((w1003.alloc (.cells #[.int .u32 0, .int .i64 0, .int .i64 0, .slice none 0 0] 25))).setRow (w1001.heap.size) (clV c (.slice ad c.data.length cp))).heap[w.heap.size + 1]? = some BB) ∧ (w.grownBy (((w1003.alloc (.cells #[.int .u32 0, .int .i64 0, .int .i64 0, .slice none 0 0] 25))).setRow (w1001.heap.size) (clV c (.slice ad c.data.length cp))) none) from ⟨ne, l5, (z5.row _ _ _ _ _), l4, (z4.row _ _ _ _ _), (at_setRow_other ba (Nat.ne_of_lt (by have := l4; omega))), (at_setRow_other bb (Nat.ne_of_lt l4)), (gb_setRow g (by have := l4; omega))⟩)
          have Ny4 := hid (show (((w1003.alloc (.cells #[.int .u32 0, .int .i64 0, .int .i64 0, .slice none 0 0] 25))).setRow (w1001.heap.size) (clV c (.slice ad c.data.length cp))).heap[w1001.heap.size]? = some (.cells (clV c (.slice ad c.data.length cp)) 25) from (at_setRow hz))
          have A6 := hid (hz)
          clear hHeld ne l5 z5 l4 z4 ba bb g
          try simp only [List.getElem_toArray, List.getElem_cons_succ, List.getElem_cons_zero]
          rw [if_pos (by rfl)]
          refine wp_store_row (cs := (clV c (.slice ad c.data.length cp))) A6.out (by kernel_rfl) (by kernel_rfl) (by kernel_rfl) rfl rfl rfl rfl ?_
          refine hK.out _ _ ?_ (fun hHeld => ?_)
          · exact L6.out
          clear hK K
          try dsimp only at hHeld
          try simp only [Act.put, List.setIfInBounds_toArray, List.set_cons_zero, List.set_cons_succ, List.getElem_toArray, List.getElem_cons_succ, List.getElem_cons_zero]
          refine held_stronger (S' := fun w' => (fun w' => w'.heap[w1001.heap.size]? = some (.cells (clV c (.slice ad c.data.length cp)) 25)) w' ∧ ((fun w' => (w1001.heap.size ≠ w1003.heap.size) ∧ (w.heap.size + 1 < w1003.heap.size) ∧ (Zc (w1003.heap.size) w') ∧ (w.heap.size + 1 < w1001.heap.size) ∧ (Zc (w1001.heap.size) w') ∧ (w'.heap[w.heap.size]? = some BA) ∧ (w'.heap[w.heap.size + 1]? = some BB) ∧ (w.grownBy w' none))) w') (fun _ h => h.2) _ _ _ _ ?_
          replace hHeld := And.intro Ny4.out hHeld
          try dsimp only at hHeld
          refine wpAnyH_ready (rs := [7]) (by kernel_rfl) (by simp) ?_
          refine AllReadyH.cons (o := _) rfl (fun K hK => ?_) AllReadyH.nil
          have hH2 := hHeld
          obtain ⟨y4, ne, l5, z5, l4, z4, ba, bb, g⟩ := hH2
          obtain ⟨_, _, _, _, hz⟩ := z5.ex
          have L7 := hid (show (((((w1003.alloc (.cells #[.int .u32 0, .int .i64 0, .int .i64 0, .slice none 0 0] 25))).setRow (w1001.heap.size) (clV c (.slice ad c.data.length cp))).setRow (w1003.heap.size) (clV d (.slice ae d.data.length cq))).heap[w1001.heap.size]? = some (.cells (clV c (.slice ad c.data.length cp)) 25)) ∧ (w1001.heap.size ≠ w1003.heap.size) ∧ (w.heap.size + 1 < w1003.heap.size) ∧ (Zc (w1003.heap.size) ((((w1003.alloc (.cells #[.int .u32 0, .int .i64 0, .int .i64 0, .slice none 0 0] 25))).setRow (w1001.heap.size) (clV c (.slice ad c.data.length cp))).setRow (w1003.heap.size) (clV d (.slice ae d.data.length cq)))) ∧ (w.heap.size + 1 < w1001.heap.size) ∧ (Zc (w1001.heap.size) ((((w1003.alloc (.cells #[.int .u32 0, .int .i64 0, .int .i64 0, .slice none 0 0] 25))).setRow (w1001.heap.size) (clV c (.slice ad c.data.length cp))).setRow (w1003.heap.size) (clV d (.slice ae d.data.length cq)))) ∧ (((((w1003.alloc (.cells #[.int .u32 0, .int .i64 0, .int .i64 0, .slice none 0 0] 25))).setRow (w1001.heap.size) (clV c (.slice ad c.data.length cp))).setRow (w1003.heap.size) (clV d (.slice ae d.data.length cq))).heap[w.heap.size]? = some BA) ∧ (((((w1003.alloc (.cells #[.int .u32 0, .int .i64 0, .int .i64 0, .slice none 0 0] 25))).setRow (w1001.heap.size) (clV c (.slice ad c.data.length cp))).setRow (w1003.heap.size) (clV d (.slice ae d.data.length cq))).heap[w.heap.size + 1]? = some BB) ∧ (w.grownBy ((((w1003.alloc (.cells #[.int .u32 0, .int .i64 0, .int .i64 0, .slice none 0 0] 25))).setRow (w1001.heap.size) (clV c (.slice ad c.data.length cp))).setRow (w1003.heap.size) (clV d (.slice ae d.data.length cq))) none) from ⟨(at_setRow_other y4 (by have := ne; omega)), ne, l5, (z5.row _ _ _ _ _), l4, (z4.row _ _ _ _ _), (at_setRow_other ba (Nat.ne_of_lt (by have := l5; omega))), (at_setRow_other bb (Nat.ne_of_lt l5)), (gb_setRow g (by have := l5; omega))⟩)
          have Ny5 := hid (show ((((w1003.alloc (.cells #[.int .u32 0, .int .i64 0, .int .i64 0, .slice none 0 0] 25))).setRow (w1001.heap.size) (clV c (.slice ad c.data.length cp))).setRow (w1003.heap.size) (clV d (.slice ae d.data.length cq))).heap[w1003.heap.size]? = some (.cells (clV d (.slice ae d.data.length cq)) 25) from (at_setRow hz))
          have A7 := hid (hz)
          clear hHeld y4 ne l5 z5 l4 z4 ba bb g
          try simp only [List.getElem_toArray, List.getElem_cons_succ, List.getElem_cons_zero]
          rw [if_pos (by rfl)]
          refine wp_store_row (cs := (clV d (.slice ae d.data.length cq))) A7.out (by kernel_rfl) (by kernel_rfl) (by kernel_rfl) rfl rfl rfl rfl ?_
          refine hK.out _ _ ?_ (fun hHeld => ?_)
          · exact L7.out
          clear hK K
          try dsimp only at hHeld
          try simp only [Act.put, List.setIfInBounds_toArray, List.set_cons_zero, List.set_cons_succ, List.getElem_toArray, List.getElem_cons_succ, List.getElem_cons_zero]
          refine held_stronger (S' := fun w' => (fun w' => w'.heap[w1003.heap.size]? = some (.cells (clV d (.slice ae d.data.length cq)) 25)) w' ∧ ((fun w' => (w'.heap[w1001.heap.size]? = some (.cells (clV c (.slice ad c.data.length cp)) 25)) ∧ (w1001.heap.size ≠ w1003.heap.size) ∧ (w.heap.size + 1 < w1003.heap.size) ∧ (Zc (w1003.heap.size) w') ∧ (w.heap.size + 1 < w1001.heap.size) ∧ (Zc (w1001.heap.size) w') ∧ (w'.heap[w.heap.size]? = some BA) ∧ (w'.heap[w.heap.size + 1]? = some BB) ∧ (w.grownBy w' none))) w') (fun _ h => h.2) _ _ _ _ ?_
          replace hHeld := And.intro Ny5.out hHeld
          try dsimp only at hHeld
          refine wpAnyH_done (by kernel_rfl) ?_ _
          obtain ⟨y5, y4, ne, l5, z5, l4, z4, ba, bb, g⟩ := hHeld
          have K := hid (kp_two g y4 y5 HV1.out HV2.out); clear y5 y4 ne l5 z5 l4 z4 ba bb g
          go_wp2_with fail
          go_meet
          exact ⟨_, _, rfl, rfl, K.out⟩
        · have hH2 := hHeld
          obtain ⟨l4, z4, ba, bb, g⟩ := hH2
          have hg : ((w1001.alloc (.cells #[.int .u32 0, .int .i64 0, .int .i64 0, .slice none 0 0] 25))).grownBy ((w1001.alloc (.cells #[.int .u32 0, .int .i64 0, .int .i64 0, .slice none 0 0] 25)).alloc (.cells #[.int .u32 0, .int .i64 0, .int .i64 0, .slice none 0 0] 25)) none := World.grownBy_alloc ((w1001.alloc (.cells #[.int .u32 0, .int .i64 0, .int .i64 0, .slice none 0 0] 25))) _ _
          have L5 := hid (show (w.heap.size + 1 < w1001.heap.size) ∧ (Zc (w1001.heap.size) ((w1001.alloc (.cells #[.int .u32 0, .int .i64 0, .int .i64 0, .slice none 0 0] 25)).alloc (.cells #[.int .u32 0, .int .i64 0, .int .i64 0, .slice none 0 0] 25))) ∧ (((w1001.alloc (.cells #[.int .u32 0, .int .i64 0, .int .i64 0, .slice none 0 0] 25)).alloc (.cells #[.int .u32 0, .int .i64 0, .int .i64 0, .slice none 0 0] 25)).heap[w.heap.size]? = some BA) ∧ (((w1001.alloc (.cells #[.int .u32 0, .int .i64 0, .int .i64 0, .slice none 0 0] 25)).alloc (.cells #[.int .u32 0, .int .i64 0, .int .i64 0, .slice none 0 0] 25)).heap[w.heap.size + 1]? = some BB) ∧ (w.grownBy ((w1001.alloc (.cells #[.int .u32 0, .int .i64 0, .int .i64 0, .slice none 0 0] 25)).alloc (.cells #[.int .u32 0, .int .i64 0, .int .i64 0, .slice none 0 0] 25)) none) from ⟨l4, z4.grown hg, at_grown ba hg (by simp), at_grown bb hg (by simp), gb_trans g hg (.inl rfl)⟩)
          have Nz5 := hid (show Zc (w1001.heap.size + 1) ((w1001.alloc (.cells #[.int .u32 0, .int .i64 0, .int .i64 0, .slice none 0 0] 25)).alloc (.cells #[.int .u32 0, .int .i64 0, .int .i64 0, .slice none 0 0] 25)) from (by have h : Zc ((w1001.alloc (.cells #[.int .u32 0, .int .i64 0, .int .i64 0, .slice none 0 0] 25))).heap.size ((w1001.alloc (.cells #[.int .u32 0, .int .i64 0, .int .i64 0, .slice none 0 0] 25)).alloc (.cells #[.int .u32 0, .int .i64 0, .int .i64 0, .slice none 0 0] 25)) := ⟨⟨_, _, _, _, at_new ((w1001.alloc (.cells #[.int .u32 0, .int .i64 0, .int .i64 0, .slice none 0 0] 25))) (.cells #[.int .u32 0, .int .i64 0, .int .i64 0, .slice none 0 0] 25)⟩⟩; rw [(show ((w1001.alloc (.cells #[.int .u32 0, .int .i64 0, .int .i64 0, .slice none 0 0] 25))).heap.size = w1001.heap.size + 1 from alloc_size _ _)] at h; exact h))
          have Nl5 := hid (show w.heap.size + 1 < w1001.heap.size + 1 from (by rw [← (show ((w1001.alloc (.cells #[.int .u32 0, .int .i64 0, .int .i64 0, .slice none 0 0] 25))).heap.size = w1001.heap.size + 1 from alloc_size _ _)]; exact at_lt bb))
          have Nne := hid (show w1001.heap.size ≠ w1001.heap.size + 1 from (Nat.ne_of_lt (by rw [← (show ((w1001.alloc (.cells #[.int .u32 0, .int .i64 0, .int .i64 0, .slice none 0 0] 25))).heap.size = w1001.heap.size + 1 from alloc_size _ _)]; exact z4.lt)))
          clear hHeld hg l4 z4 ba bb g
          try simp only [List.getElem_toArray, List.getElem_cons_succ, List.getElem_cons_zero]
          go_simp
          refine hK.out _ _ ?_ (fun hHeld => ?_)
          · exact L5.out
          clear hK K
          try dsimp only at hHeld
          try simp only [Act.put, List.setIfInBounds_toArray, List.set_cons_zero, List.set_cons_succ, List.getElem_toArray, List.getElem_cons_succ, List.getElem_cons_zero]
          refine held_stronger (S' := fun w' => (fun w' => Zc (w1001.heap.size + 1) w') w' ∧ ((fun w' => (w.heap.size + 1 < w1001.heap.size) ∧ (Zc (w1001.heap.size) w') ∧ (w'.heap[w.heap.size]? = some BA) ∧ (w'.heap[w.heap.size + 1]? = some BB) ∧ (w.grownBy w' none))) w') (fun _ h => h.2) _ _ _ _ ?_
          replace hHeld := And.intro Nz5.out hHeld
          try dsimp only at hHeld
          refine held_stronger (S' := fun w' => (fun w' => w.heap.size + 1 < w1001.heap.size + 1) w' ∧ ((fun w' => (Zc (w1001.heap.size + 1) w') ∧ (w.heap.size + 1 < w1001.heap.size) ∧ (Zc (w1001.heap.size) w') ∧ (w'.heap[w.heap.size]? = some BA) ∧ (w'.heap[w.heap.size + 1]? = some BB) ∧ (w.grownBy w' none))) w') (fun _ h => h.2) _ _ _ _ ?_
          replace hHeld := And.intro Nl5.out hHeld
          try dsimp only at hHeld
          refine held_stronger (S' := fun w' => (fun w' => w1001.heap.size ≠ w1001.heap.size + 1) w' ∧ ((fun w' => (w.heap.size + 1 < w1001.heap.size + 1) ∧ (Zc (w1001.heap.size + 1) w') ∧ (w.heap.size + 1 < w1001.heap.size) ∧ (Zc (w1001.heap.size) w') ∧ (w'.heap[w.heap.size]? = some BA) ∧ (w'.heap[w.heap.size + 1]? = some BB) ∧ (w.grownBy w' none))) w') (fun _ h => h.2) _ _ _ _ ?_
          replace hHeld := And.intro Nne.out hHeld
          try dsimp only at hHeld
          refine wpAnyH_ready (rs := [3]) (by kernel_rfl) (by simp) ?_
          refine AllReadyH.cons (o := _) rfl (fun K hK => ?_) AllReadyH.nil
          try simp only [List.getElem_toArray, List.getElem_cons_succ, List.getElem_cons_zero]
          go_simp
          have hH2 := hHeld
          obtain ⟨ne, l5, z5, l4, z4, ba, bb, g⟩ := hH2
          refine (F2.out _).mono ?_
          rintro e w1003 ⟨rfl, hg⟩
          have L3 := hid (show (w1001.heap.size ≠ w1001.heap.size + 1) ∧ (w.heap.size + 1 < w1001.heap.size + 1) ∧ (Zc (w1001.heap.size + 1) w1003) ∧ (w.heap.size + 1 < w1001.heap.size) ∧ (Zc (w1001.heap.size) w1003) ∧ (w1003.heap[w.heap.size]? = some BA) ∧ (w1003.heap[w.heap.size + 1]? = some BB) ∧ (w.grownBy w1003 none) from ⟨ne, l5, z5.grown hg, l4, z4.grown hg, at_grown ba hg (by simp), at_grown bb hg (by simp), gb_trans g hg (.inl rfl)⟩)
          clear hHeld hg ne l5 z5 l4 z4 ba bb g
          go_wp2_with fail
          refine hK.out _ _ ?_ (fun hHeld => ?_)
          · exact L3.out
          clear hK K
          try dsimp only at hHeld
          try simp only [Act.put, List.setIfInBounds_toArray, List.set_cons_zero, List.set_cons_succ, List.getElem_toArray, List.getElem_cons_succ, List.getElem_cons_zero]
          refine wpAnyH_ready (rs := [6]) (by kernel_rfl) (by simp) ?_
          refine AllReadyH.cons (o := _) rfl (fun K hK => ?_) AllReadyH.nil
          have hH2 := hHeld
          obtain ⟨ne, l5, z5, l4, z4, ba, bb, g⟩ := hH2
          obtain ⟨_, _, _, _, hz⟩ := z4.ex
          have L6 := hid (show (w1001.heap.size ≠ w1001.heap.size + 1) ∧ (w.heap.size + 1 < w1001.heap.size + 1) ∧ (Zc (w1001.heap.size + 1) ((w1003).setRow (w1001.heap.size) (clV c (.slice ad c.data.length cp)))) ∧ (w.heap.size + 1 < w1001.heap.size) ∧ (Zc (w1001.heap.size) ((w1003).setRow (w1001.heap.size) (clV c (.slice ad c.data.length cp)))) ∧ (((w1003).setRow (w1001.heap.size) (clV c (.slice ad c.data.length cp))).heap[w.heap.size]? = some BA) ∧ (((w1003).setRow (w1001.heap.size) (clV c (.slice ad c.data.length cp))).heap[w.heap.size + 1]? = some BB) ∧ (w.grownBy ((w1003).setRow (w1001.heap.size) (clV c (.slice ad c.data.length cp))) none) from ⟨ne, l5, (z5.row _ _ _ _ _), l4, (z4.row _ _ _ _ _), (at_setRow_other ba (Nat.ne_of_lt (by have := l4; omega))), (at_setRow_other bb (Nat.ne_of_lt l4)), (gb_setRow g (by have := l4; omega))⟩)
          have Ny4 := hid (show ((w1003).setRow (w1001.heap.size) (clV c (.slice ad c.data.length cp))).heap[w1001.heap.size]? = some (.cells (clV c (.slice ad c.data.length cp)) 25) from (at_setRow hz))
          have A6 := hid (hz)
          clear hHeld ne l5 z5 l4 z4 ba bb g
          try simp only [List.getElem_toArray, List.getElem_cons_succ, List.getElem_cons_zero]
          rw [if_pos (by rfl)]
          refine wp_store_row (cs := (clV c (.slice ad c.data.length cp))) A6.out (by kernel_rfl) (by kernel_rfl) (by kernel_rfl) rfl rfl rfl rfl ?_
          refine hK.out _ _ ?_ (fun hHeld => ?_)
          · exact L6.out
          clear hK K
          try dsimp only at hHeld
          try simp only [Act.put, List.setIfInBounds_toArray, List.set_cons_zero, List.set_cons_succ, List.getElem_toArray, List.getElem_cons_succ, List.getElem_cons_zero]
          refine held_stronger (S' := fun w' => (fun w' => w'.heap[w1001.heap.size]? = some (.cells (clV c (.slice ad c.data.length cp)) 25)) w' ∧ ((fun w' => (w1001.heap.size ≠ w1001.heap.size + 1) ∧ (w.heap.size + 1 < w1001.heap.size + 1) ∧ (Zc (w1001.heap.size + 1) w') ∧ (w.heap.size + 1 < w1001.heap.size) ∧ (Zc (w1001.heap.size) w') ∧ (w'.heap[w.heap.size]? = some BA) ∧ (w'.heap[w.heap.size + 1]? = some BB) ∧ (w.grownBy w' none))) w') (fun _ h => h.2) _ _ _ _ ?_
          replace hHeld := And.intro Ny4.out hHeld
          try dsimp only at hHeld
          refine wpAnyH_ready (rs := [7]) (by kernel_rfl) (by simp) ?_
          refine AllReadyH.cons (o := _) rfl (fun K hK => ?_) AllReadyH.nil
          have hH2 := hHeld
          obtain ⟨y4, ne, l5, z5, l4, z4, ba, bb, g⟩ := hH2
          obtain ⟨_, _, _, _, hz⟩ := z5.ex
          have L7 := hid (show ((((w1003).setRow (w1001.heap.size) (clV c (.slice ad c.data.length cp))).setRow (w1001.heap.size + 1) (clV d (.slice ae d.data.length cq))).heap[w1001.heap.size]? = some (.cells (clV c (.slice ad c.data.length cp)) 25)) ∧ (w1001.heap.size ≠ w1001.heap.size + 1) ∧ (w.heap.size + 1 < w1001.heap.size + 1) ∧ (Zc (w1001.heap.size + 1) (((w1003).setRow (w1001.heap.size) (clV c (.slice ad c.data.length cp))).setRow (w1001.heap.size + 1) (clV d (.slice ae d.data.length cq)))) ∧ (w.heap.size + 1 < w1001.heap.size) ∧ (Zc (w1001.heap.size) (((w1003).setRow (w1001.heap.size) (clV c (.slice ad c.data.length cp))).setRow (w1001.heap.size + 1) (clV d (.slice ae d.data.length cq)))) ∧ ((((w1003).setRow (w1001.heap.size) (clV c (.slice ad c.data.length cp))).setRow (w1001.heap.size + 1) (clV d (.slice ae d.data.length cq))).heap[w.heap.size]? = some BA) ∧ ((((w1003).setRow (w1001.heap.size) (clV c (.slice ad c.data.length cp))).setRow (w1001.heap.size + 1) (clV d (.slice ae d.data.length cq))).heap[w.heap.size + 1]? = some BB) ∧ (w.grownBy (((w1003).setRow (w1001.heap.size) (clV c (.slice ad c.data.length cp))).setRow (w1001.heap.size + 1) (clV d (.slice ae d.data.length cq))) none) from ⟨(at_setRow_other y4 (by have := ne; omega)), ne, l5, (z5.row _ _ _ _ _), l4, (z4.row _ _ _ _ _), (at_setRow_other ba (Nat.ne_of_lt (by have := l5; omega))), (at_setRow_other bb (Nat.ne_of_lt l5)), (gb_setRow g (by have := l5; omega))⟩)
          have Ny5 := hid (show (((w1003).setRow (w1001.heap.size) (clV c (.slice ad c.data.length cp))).setRow (w1001.heap.size + 1) (clV d (.slice ae d.data.length cq))).heap[w1001.heap.size + 1]? = some (.cells (clV d (.slice ae d.data.length cq)) 25) from (at_setRow hz))
          have A7 := hid (hz)
          clear hHeld y4 ne l5 z5 l4 z4 ba bb g
          try simp only [List.getElem_toArray, List.getElem_cons_succ, List.getElem_cons_zero]
          rw [if_pos (by rfl)]
          refine wp_store_row (cs := (clV d (.slice ae d.data.length cq))) A7.out (by kernel_rfl) (by kernel_rfl) (by kernel_rfl) rfl rfl rfl rfl ?_
          refine hK.out _ _ ?_ (fun hHeld => ?_)
          · exact L7.out
          clear hK K
          try dsimp only at hHeld
          try simp only [Act.put, List.setIfInBounds_toArray, List.set_cons_zero, List.set_cons_succ, List.getElem_toArray, List.getElem_cons_succ, List.getElem_cons_zero]
          refine held_stronger (S' := fun w' => (fun w' => w'.heap[w1001.heap.size + 1]? = some (.cells (clV d (.slice ae d.data.length cq)) 25)) w' ∧ ((fun w' => (w'.heap[w1001.heap.size]? = some (.cells (clV c (.slice ad c.data.length cp)) 25)) ∧ (w1001.heap.size ≠ w1001.heap.size + 1) ∧ (w.heap.size + 1 < w1001.heap.size + 1) ∧ (Zc (w1001.heap.size + 1) w') ∧ (w.heap.size + 1 < w1001.heap.size) ∧ (Zc (w1001.heap.size) w') ∧ (w'.heap[w.heap.size]? = some BA) ∧ (w'.heap[w.heap.size + 1]? = some BB) ∧ (w.grownBy w' none))) w') (fun _ h => h.2) _ _ _ _ ?_
          replace hHeld := And.intro Ny5.out hHeld
          try dsimp only at hHeld
          refine wpAnyH_done (by kernel_rfl) ?_ _
          obtain ⟨y5, y4, ne, l5, z5, l4, z4, ba, bb, g⟩ := hHeld
          have K := hid (kp_two g y4 y5 HV1.out HV2.out); clear y5 y4 ne l5 z5 l4 z4 ba bb g
          go_wp2_with fail
          go_meet
          exact ⟨_, _, rfl, rfl, K.out⟩
      · have hH2 := hHeld
        obtain ⟨ba, bb, g⟩ := hH2
        have hg : (w1001).grownBy (w1001.alloc (.cells #[.int .u32 0, .int .i64 0, .int .i64 0, .slice none 0 0] 25)) none := World.grownBy_alloc (w1001) _ _
        have L5 := hid (show ((w1001.alloc (.cells #[.int .u32 0, .int .i64 0, .int .i64 0, .slice none 0 0] 25)).heap[w.heap.size]? = some BA) ∧ ((w1001.alloc (.cells #[.int .u32 0, .int .i64 0, .int .i64 0, .slice none 0 0] 25)).heap[w.heap.size + 1]? = some BB) ∧ (w.grownBy (w1001.alloc (.cells #[.int .u32 0, .int .i64 0, .int .i64 0, .slice none 0 0] 25)) none) from ⟨at_grown ba hg (by simp), at_grown bb hg (by simp), gb_trans g hg (.inl rfl)⟩)
        have Nz5 := hid (show Zc (w1001.heap.size) (w1001.alloc (.cells #[.int .u32 0, .int .i64 0, .int .i64 0, .slice none 0 0] 25)) from (by have h : Zc (w1001).heap.size (w1001.alloc (.cells #[.int .u32 0, .int .i64 0, .int .i64 0, .slice none 0 0] 25)) := ⟨⟨_, _, _, _, at_new (w1001) (.cells #[.int .u32 0, .int .i64 0, .int .i64 0, .slice none 0 0] 25)⟩⟩; rw [(show (w1001).heap.size = w1001.heap.size from rfl)] at h; exact h))
        have Nl5 := hid (show w.heap.size + 1 < w1001.heap.size from (by rw [← (show (w1001).heap.size = w1001.heap.size from rfl)]; exact at_lt bb))
        clear hHeld hg ba bb g
        try simp only [List.getElem_toArray, List.getElem_cons_succ, List.getElem_cons_zero]
        go_simp
        refine hK.out _ _ ?_ (fun hHeld => ?_)
        · exact L5.out
        clear hK K
        try dsimp only at hHeld
        try simp only [Act.put, List.setIfInBounds_toArray, List.set_cons_zero, List.set_cons_succ, List.getElem_toArray, List.getElem_cons_succ, List.getElem_cons_zero]
        refine held_stronger (S' := fun w' => (fun w' => Zc (w1001.heap.size) w') w' ∧ ((fun w' => (w'.heap[w.heap.size]? = some BA) ∧ (w'.heap[w.heap.size + 1]? = some BB) ∧ (w.grownBy w' none))) w') (fun _ h => h.2) _ _ _ _ ?_
        replace hHeld := And.intro Nz5.out hHeld
        try dsimp only at hHeld
        refine held_stronger (S' := fun w' => (fun w' => w.heap.size + 1 < w1001.heap.size) w' ∧ ((fun w' => (Zc (w1001.heap.size) w') ∧ (w'.heap[w.heap.size]? = some BA) ∧ (w'.heap[w.heap.size + 1]? = some BB) ∧ (w.grownBy w' none))) w') (fun _ h => h.2) _ _ _ _ ?_
        replace hHeld := And.intro Nl5.out hHeld
        try dsimp only at hHeld
        refine wpAnyH_ready (rs := [3, 4]) (by kernel_rfl) (by simp) ?_
        refine AllReadyH.cons (o := _) rfl (fun K hK => ?_) (AllReadyH.cons (o := _) rfl (fun K hK => ?_) AllReadyH.nil)
        · try simp only [List.getElem_toArray, List.getElem_cons_succ, List.getElem_cons_zero]
          go_simp
          have hH2 := hHeld
          obtain ⟨l5, z5, ba, bb, g⟩ := hH2
          refine (F2.out _).mono ?_
          rintro e w1003 ⟨rfl, hg⟩
          have L3 := hid (show (w.heap.size + 1 < w1001.heap.size) ∧ (Zc (w1001.heap.size) w1003) ∧ (w1003.heap[w.heap.size]? = some BA) ∧ (w1003.heap[w.heap.size + 1]? = some BB) ∧ (w.grownBy w1003 none) from ⟨l5, z5.grown hg, at_grown ba hg (by simp), at_grown bb hg (by simp), gb_trans g hg (.inl rfl)⟩)
          clear hHeld hg l5 z5 ba bb g
          go_wp2_with fail
          refine hK.out _ _ ?_ (fun hHeld => ?_)
          · exact L3.out
          clear hK K
          try dsimp only at hHeld
          try simp only [Act.put, List.setIfInBounds_toArray, List.set_cons_zero, List.set_cons_succ, List.getElem_toArray, List.getElem_cons_succ, List.getElem_cons_zero]
          refine wpAnyH_ready (rs := [4]) (by kernel_rfl) (by simp) ?_
          refine AllReadyH.cons (o := _) rfl (fun K hK => ?_) AllReadyH.nil
          have hH2 := hHeld
          obtain ⟨l5, z5, ba, bb, g⟩ := hH2
          have hg : (w1003).grownBy (w1003.alloc (.cells #[.int .u32 0, .int .i64 0, .int .i64 0, .slice none 0 0] 25)) none := World.grownBy_alloc (w1003) _ _
          have L4 := hid (show (w.heap.size + 1 < w1001.heap.size) ∧ (Zc (w1001.heap.size) (w1003.alloc (.cells #[.int .u32 0, .int .i64 0, .int .i64 0, .slice none 0 0] 25))) ∧ ((w1003.alloc (.cells #[.int .u32 0, .int .i64 0, .int .i64 0, .slice none 0 0] 25)).heap[w.heap.size]? = some BA) ∧ ((w1003.alloc (.cells #[.int .u32 0, .int .i64 0, .int .i64 0, .slice none 0 0] 25)).heap[w.heap.size + 1]? = some BB) ∧ (w.grownBy (w1003.alloc (.cells #[.int .u32 0, .int .i64 0, .int .i64 0, .slice none 0 0] 25)) none) from ⟨l5, z5.grown hg, at_grown ba hg (by simp), at_grown bb hg (by simp), gb_trans g hg (.inl rfl)⟩)
          have Nz4 := hid (show Zc (w1003.heap.size) (w1003.alloc (.cells #[.int .u32 0, .int .i64 0, .int .i64 0, .slice none 0 0] 25)) from (by have h : Zc (w1003).heap.size (w1003.alloc (.cells #[.int .u32 0, .int .i64 0, .int .i64 0, .slice none 0 0] 25)) := ⟨⟨_, _, _, _, at_new (w1003) (.cells #[.int .u32 0, .int .i64 0, .int .i64 0, .slice none 0 0] 25)⟩⟩; rw [(show (w1003).heap.size = w1003.heap.size from rfl)] at h; exact h))
          have Nl4 := hid (show w.heap.size + 1 < w1003.heap.size from (by rw [← (show (w1003).heap.size = w1003.heap.size from rfl)]; exact at_lt bb))
          have Nne := hid (show w1001.heap.size ≠ w1003.heap.size from (Nat.ne_of_lt (by rw [← (show (w1003).heap.size = w1003.heap.size from rfl)]; exact z5.lt)))
          clear hHeld hg l5 z5 ba bb g
          try simp only [List.getElem_toArray, List.getElem_cons_succ, List.getElem_cons_zero]
          go_simp
          refine hK.out _ _ ?_ (fun hHeld => ?_)
          · exact L4.out
          clear hK K
          try dsimp only at hHeld
          try simp only [Act.put, List.setIfInBounds_toArray, List.set_cons_zero, List.set_cons_succ, List.getElem_toArray, List.getElem_cons_succ, List.getElem_cons_zero]
          refine held_stronger (S' := fun w' => (fun w' => Zc (w1003.heap.size) w') w' ∧ ((fun w' => (w.heap.size + 1 < w1001.heap.size) ∧ (Zc (w1001.heap.size) w') ∧ (w'.heap[w.heap.size]? = some BA) ∧ (w'.heap[w.heap.size + 1]? = some BB) ∧ (w.grownBy w' none))) w') (fun _ h => h.2) _ _ _ _ ?_
          replace hHeld := And.intro Nz4.out hHeld
          try dsimp only at hHeld
          refine held_stronger (S' := fun w' => (fun w' => w.heap.size + 1 < w1003.heap.size) w' ∧ ((fun w' => (Zc (w1003.heap.size) w') ∧ (w.heap.size + 1 < w1001.heap.size) ∧ (Zc (w1001.heap.size) w') ∧ (w'.heap[w.heap.size]? = some BA) ∧ (w'.heap[w.heap.size + 1]? = some BB) ∧ (w.grownBy w' none))) w') (fun _ h => h.2) _ _ _ _ ?_
          replace hHeld := And.intro Nl4.out hHeld
          try dsimp only at hHeld
          refine held_stronger (S' := fun w' => (fun w' => w1001.heap.size ≠ w1003.heap.size) w' ∧ ((fun w' => (w.heap.size + 1 < w1003.heap.size) ∧ (Zc (w1003.heap.size) w') ∧ (w.heap.size + 1 < w1001.heap.size) ∧ (Zc (w1001.heap.size) w') ∧ (w'.heap[w.heap.size]? = some BA) ∧ (w'.heap[w.heap.size + 1]? = some BB) ∧ (w.grownBy w' none))) w') (fun _ h => h.2) _ _ _ _ ?_
          replace hHeld := And.intro Nne.out hHeld
          try dsimp only at hHeld
          refine wpAnyH_ready (rs := [6]) (by kernel_rfl) (by simp) ?_
          refine AllReadyH.cons (o := _) rfl (fun K hK => ?_) AllReadyH.nil
          have hH2 := hHeld
          obtain ⟨ne, l4, z4, l5, z5, ba, bb, g⟩ := hH2
          obtain ⟨_, _, _, _, hz⟩ := z4.ex
          have L6 := hid (show (w1001.heap.size ≠ w1003.heap.size) ∧ (w.heap.size + 1 < w1003.heap.size) ∧ (Zc (w1003.heap.size) (((w1003.alloc (.cells #[.int .u32 0, .int .i64 0, .int .i64 0, .slice none 0 0] 25))).setRow (w1003.heap.size) (clV c (.slice ad c.data.length cp)))) ∧ (w.heap.size + 1 < w1001.heap.size) ∧ (Zc (w1001.heap.size) (((w1003.alloc (.cells #[.int .u32 0, .int .i64 0, .int .i64 0, .slice none 0 0] 25))).setRow (w1003.heap.size) (clV c (.slice ad c.data.length cp)))) ∧ ((((w1003.alloc (.cells #[.int .u32 0, .int .i64 0, .int .i64 0, .slice none 0 0] 25))).setRow (w1003.heap.size) (clV c (.slice ad c.data.length cp))).heap[w.heap.size]? = some BA) ∧ ((((w1003.alloc (.cells #[.int .u32 0, .int .i64 0, .int .i64 0, .slice none 0 0] 25))).setRow (w1003.heap.size) (clV c (.slice ad c.data.length cp))).heap[w.heap.size + 1]? = some BB) ∧ (w.grownBy (((w1003.alloc (.cells #[.int .u32 0, .int .i64 0, .int .i64 0, .slice none 0 0] 25))).setRow (w1003.heap.size) (clV c (.slice ad c.data.length cp))) none) from ⟨ne, l4, (z4.row _ _ _ _ _), l5, (z5.row _ _ _ _ _), (at_setRow_other ba (Nat.ne_of_lt (by have := l4; omega))), (at_setRow_other bb (Nat.ne_of_lt l4)), (gb_setRow g (by have := l4; omega))⟩)
          have Ny4 := hid (show (((w1003.alloc (.cells #[.int .u32 0, .int .i64 0, .int .i64 0, .slice none 0 0] 25))).setRow (w1003.heap.size) (clV c (.slice ad c.data.length cp))).heap[w1003.heap.size]? = some (.cells (clV c (.slice ad c.data.length cp)) 25) from (at_setRow hz))
          have A6 := hid (hz)
          clear hHeld ne l4 z4 l5 z5 ba bb g
          try simp only [List.getElem_toArray, List.getElem_cons_succ, List.getElem_cons_zero]
          rw [if_pos (by rfl)]
          refine wp_store_row (cs := (clV c (.slice ad c.data.length cp))) A6.out (by kernel_rfl) (by kernel_rfl) (by kernel_rfl) rfl rfl rfl rfl ?_
          refine hK.out _ _ ?_ (fun hHeld => ?_)
          · exact L6.out
          clear hK K
          try dsimp only at hHeld
          try simp only [Act.put, List.setIfInBounds_toArray, List.set_cons_zero, List.set_cons_succ, List.getElem_toArray, List.getElem_cons_succ, List.getElem_cons_zero]
          refine held_stronger (S' := fun w' => (fun w' => w'.heap[w1003.heap.size]? = some (.cells (clV c (.slice ad c.data.length cp)) 25)) w' ∧ ((fun w' => (w1001.heap.size ≠ w1003.heap.size) ∧ (w.heap.size + 1 < w1003.heap.size) ∧ (Zc (w1003.heap.size) w') ∧ (w.heap.size + 1 < w1001.heap.size) ∧ (Zc (w1001.heap.size) w') ∧ (w'.heap[w.heap.size]? = some BA) ∧ (w'.heap[w.heap.size + 1]? = some BB) ∧ (w.grownBy w' none))) w') (fun _ h => h.2) _ _ _ _ ?_
          replace hHeld := And.intro Ny4.out hHeld
          try dsimp only at hHeld
          refine wpAnyH_ready (rs := [7]) (by kernel_rfl) (by simp) ?_
          refine AllReadyH.cons (o := _) rfl (fun K hK => ?_) AllReadyH.nil
          have hH2 := hHeld
          obtain ⟨y4, ne, l4, z4, l5, z5, ba, bb, g⟩ := hH2
          obtain ⟨_, _, _, _, hz⟩ := z5.ex
          have L7 := hid (show (((((w1003.alloc (.cells #[.int .u32 0, .int .i64 0, .int .i64 0, .slice none 0 0] 25))).setRow (w1003.heap.size) (clV c (.slice ad c.data.length cp))).setRow (w1001.heap.size) (clV d (.slice ae d.data.length cq))).heap[w1003.heap.size]? = some (.cells (clV c (.slice ad c.data.length cp)) 25)) ∧ (w1001.heap.size ≠ w1003.heap.size) ∧ (w.heap.size + 1 < w1003.heap.size) ∧ (Zc (w1003.heap.size) ((((w1003.alloc (.cells #[.int .u32 0, .int .i64 0, .int .i64 0, .slice none 0 0] 25))).setRow (w1003.heap.size) (clV c (.slice ad c.data.length cp))).setRow (w1001.heap.size) (clV d (.slice ae d.data.length cq)))) ∧ (w.heap.size + 1 < w1001.heap.size) ∧ (Zc (w1001.heap.size) ((((w1003.alloc (.cells #[.int .u32 0, .int .i64 0, .int .i64 0, .slice none 0 0] 25))).setRow (w1003.heap.size) (clV c (.slice ad c.data.length cp))).setRow (w1001.heap.size) (clV d (.slice ae d.data.length cq)))) ∧ (((((w1003.alloc (.cells #[.int .u32 0, .int .i64 0, .int .i64 0, .slice none 0 0] 25))).setRow (w1003.heap.size) (clV c (.slice ad c.data.length cp))).setRow (w1001.heap.size) (clV d (.slice ae d.data.length cq))).heap[w.heap.size]? = some BA) ∧ (((((w1003.alloc (.cells #[.int .u32 0, .int .i64 0, .int .i64 0, .slice none 0 0] 25))).setRow (w1003.heap.size) (clV c (.slice ad c.data.length cp))).setRow (w1001.heap.size) (clV d (.slice ae d.data.length cq))).heap[w.heap.size + 1]? = some BB) ∧ (w.grownBy ((((w1003.alloc (.cells #[.int .u32 0, .int .i64 0, .int .i64 0, .slice none 0 0] 25))).setRow (w1003.heap.size) (clV c (.slice ad c.data.length cp))).setRow (w1001.heap.size) (clV d (.slice ae d.data.length cq))) none) from ⟨(at_setRow_other y4 (by have := ne; omega)), ne, l4, (z4.row _ _ _ _ _), l5, (z5.row _ _ _ _ _), (at_setRow_other ba (Nat.ne_of_lt (by have := l5; omega))), (at_setRow_other bb (Nat.ne_of_lt l5)), (gb_setRow g (by have := l5; omega))⟩)
          have Ny5 := hid (show ((((w1003.alloc (.cells #[.int .u32 0, .int .i64 0, .int .i64 0, .slice none 0 0] 25))).setRow (w1003.heap.size) (clV c (.slice ad c.data.length cp))).setRow (w1001.heap.size) (clV d (.slice ae d.data.length cq))).heap[w1001.heap.size]? = some (.cells (clV d (.slice ae d.data.length cq)) 25) from (at_setRow hz))
          have A7 := hid (hz)
          clear hHeld y4 ne l4 z4 l5 z5 ba bb g
          try simp only [List.getElem_toArray, List.getElem_cons_succ, List.getElem_cons_zero]
          rw [if_pos (by rfl)]
          refine wp_store_row (cs := (clV d (.slice ae d.data.length cq))) A7.out (by kernel_rfl) (by kernel_rfl) (by kernel_rfl) rfl rfl rfl rfl ?_
          refine hK.out _ _ ?_ (fun hHeld => ?_)
          · exact L7.out
          clear hK K
          try dsimp only at hHeld
          try simp only [Act.put, List.setIfInBounds_toArray, List.set_cons_zero, List.set_cons_succ, List.getElem_toArray, List.getElem_cons_succ, List.getElem_cons_zero]
          refine held_stronger (S' := fun w' => (fun w' => w'.heap[w1001.heap.size]? = some (.cells (clV d (.slice ae d.data.length cq)) 25)) w' ∧ ((fun w' => (w'.heap[w1003.heap.size]? = some (.cells (clV c (.slice ad c.data.length cp)) 25)) ∧ (w1001.heap.size ≠ w1003.heap.size) ∧ (w.heap.size + 1 < w1003.heap.size) ∧ (Zc (w1003.heap.size) w') ∧ (w.heap.size + 1 < w1001.heap.size) ∧ (Zc (w1001.heap.size) w') ∧ (w'.heap[w.heap.size]? = some BA) ∧ (w'.heap[w.heap.size + 1]? = some BB) ∧ (w.grownBy w' none))) w') (fun _ h => h.2) _ _ _ _ ?_
          replace hHeld := And.intro Ny5.out hHeld
          try dsimp only at hHeld
          refine wpAnyH_done (by kernel_rfl) ?_ _
          obtain ⟨y5, y4, ne, l4, z4, l5, z5, ba, bb, g⟩ := hHeld
          have K := hid (kp_two g y4 y5 HV1.out HV2.out); clear y5 y4 ne l4 z4 l5 z5 ba bb g
          go_wp2_with fail
          go_meet
          exact ⟨_, _, rfl, rfl, K.out⟩
        · have hH2 := hHeld
          obtain ⟨l5, z5, ba, bb, g⟩ := hH2
          have hg : ((w1001.alloc (.cells #[.int .u32 0, .int .i64 0, .int .i64 0, .slice none 0 0] 25))).grownBy ((w1001.alloc (.cells #[.int .u32 0, .int .i64 0, .int .i64 0, .slice none 0 0] 25)).alloc (.cells #[.int .u32 0, .int .i64 0, .int .i64 0, .slice none 0 0] 25)) none := World.grownBy_alloc ((w1001.alloc (.cells #[.int .u32 0, .int .i64 0, .int .i64 0, .slice none 0 0] 25))) _ _
          have L4 := hid (show (w.heap.size + 1 < w1001.heap.size) ∧ (Zc (w1001.heap.size) ((w1001.alloc (.cells #[.int .u32 0, .int .i64 0, .int .i64 0, .slice none 0 0] 25)).alloc (.cells #[.int .u32 0, .int .i64 0, .int .i64 0, .slice none 0 0] 25))) ∧ (((w1001.alloc (.cells #[.int .u32 0, .int .i64 0, .int .i64 0, .slice none 0 0] 25)).alloc (.cells #[.int .u32 0, .int .i64 0, .int .i64 0, .slice none 0 0] 25)).heap[w.heap.size]? = some BA) ∧ (((w1001.alloc (.cells #[.int .u32 0, .int .i64 0, .int .i64 0, .slice none 0 0] 25)).alloc (.cells #[.int .u32 0, .int .i64 0, .int .i64 0, .slice none 0 0] 25)).heap[w.heap.size + 1]? = some BB) ∧ (w.grownBy ((w1001.alloc (.cells #[.int .u32 0, .int .i64 0, .int .i64 0, .slice none 0 0] 25)).alloc (.cells #[.int .u32 0, .int .i64 0, .int .i64 0, .slice none 0 0] 25)) none) from ⟨l5, z5.grown hg, at_grown ba hg (by simp), at_grown bb hg (by simp), gb_trans g hg (.inl rfl)⟩)
          have Nz4 := hid (show Zc (w1001.heap.size + 1) ((w1001.alloc (.cells #[.int .u32 0, .int .i64 0, .int .i64 0, .slice none 0 0] 25)).alloc (.cells #[.int .u32 0, .int .i64 0, .int .i64 0, .slice none 0 0] 25)) from (by have h : Zc ((w1001.alloc (.cells #[.int .u32 0, .int .i64 0, .int .i64 0, .slice none 0 0] 25))).heap.size ((w1001.alloc (.cells #[.int .u32 0, .int .i64 0, .int .i64 0, .slice none 0 0] 25)).alloc (.cells #[.int .u32 0, .int .i64 0, .int .i64 0, .slice none 0 0] 25)) := ⟨⟨_, _, _, _, at_new ((w1001.alloc (.cells #[.int .u32 0, .int .i64 0, .int .i64 0, .slice none 0 0] 25))) (.cells #[.int .u32 0, .int .i64 0, .int .i64 0, .slice none 0 0] 25)⟩⟩; rw [(show ((w1001.alloc (.cells #[.int .u32 0, .int .i64 0, .int .i64 0, .slice none 0 0] 25))).heap.size = w1001.heap.size + 1 from alloc_size _ _)] at h; exact h))
          have Nl4 := hid (show w.heap.size + 1 < w1001.heap.size + 1 from (by rw [← (show ((w1001.alloc (.cells #[.int .u32 0, .int .i64 0, .int .i64 0, .slice none 0 0] 25))).heap.size = w1001.heap.size + 1 from alloc_size _ _)]; exact at_lt bb))
          have Nne := hid (show w1001.heap.size ≠ w1001.heap.size + 1 from (Nat.ne_of_lt (by rw [← (show ((w1001.alloc (.cells #[.int .u32 0, .int .i64 0, .int .i64 0, .slice none 0 0] 25))).heap.size = w1001.heap.size + 1 from alloc_size _ _)]; exact z5.lt)))
          clear hHeld hg l5 z5 ba bb g
          try simp only [List.getElem_toArray, List.getElem_cons_succ, List.getElem_cons_zero]
          go_simp
          refine hK.out _ _ ?_ (fun hHeld => ?_)
          · exact L4.out
          clear hK K
          try dsimp only at hHeld
          try simp only [Act.put, List.setIfInBounds_toArray, List.set_cons_zero, List.set_cons_succ, List.getElem_toArray, List.getElem_cons_succ, List.getElem_cons_zero]
          refine held_stronger (S' := fun w' => (fun w' => Zc (w1001.heap.size + 1) w') w' ∧ ((fun w' => (w.heap.size + 1 < w1001.heap.size) ∧ (Zc (w1001.heap.size) w') ∧ (w'.heap[w.heap.size]? = some BA) ∧ (w'.heap[w.heap.size + 1]? = some BB) ∧ (w.grownBy w' none))) w') (fun _ h => h.2) _ _ _ _ ?_
          replace hHeld := And.intro Nz4.out hHeld
          try dsimp only at hHeld
          refine held_stronger (S' := fun w' => (fun w' => w.heap.size + 1 < w1001.heap.size + 1) w' ∧ ((fun w' => (Zc (w1001.heap.size + 1) w') ∧ (w.heap.size + 1 < w1001.heap.size) ∧ (Zc (w1001.heap.size) w') ∧ (w'.heap[w.heap.size]? = some BA) ∧ (w'.heap[w.heap.size + 1]? = some BB) ∧ (w.grownBy w' none))) w') (fun _ h => h.2) _ _ _ _ ?_
          replace hHeld := And.intro Nl4.out hHeld
          try dsimp only at hHeld
          refine held_stronger (S' := fun w' => (fun w' => w1001.heap.size ≠ w1001.heap.size + 1) w' ∧ ((fun w' => (w.heap.size + 1 < w1001.heap.size + 1) ∧ (Zc (w1001.heap.size + 1) w') ∧ (w.heap.size + 1 < w1001.heap.size) ∧ (Zc (w1001.heap.size) w') ∧ (w'.heap[w.heap.size]? = some BA) ∧ (w'.heap[w.heap.size + 1]? = some BB) ∧ (w.grownBy w' none))) w') (fun _ h => h.2) _ _ _ _ ?_
          replace hHeld := And.intro Nne.out hHeld
          try dsimp only at hHeld
          refine wpAnyH_ready (rs := [3]) (by kernel_rfl) (by simp) ?_
          refine AllReadyH.cons (o := _) rfl (fun K hK => ?_) AllReadyH.nil
          try simp only [List.getElem_toArray, List.getElem_cons_succ, List.getElem_cons_zero]
          go_simp
          have hH2 := hHeld
          obtain ⟨ne, l4, z4, l5, z5, ba, bb, g⟩ := hH2
          refine (F2.out _).mono ?_
          rintro e w1003 ⟨rfl, hg⟩
          have L3 := hid (show (w1001.heap.size ≠ w1001.heap.size + 1) ∧ (w.heap.size + 1 < w1001.heap.size + 1) ∧ (Zc (w1001.heap.size + 1) w1003) ∧ (w.heap.size + 1 < w1001.heap.size) ∧ (Zc (w1001.heap.size) w1003) ∧ (w1003.heap[w.heap.size]? = some BA) ∧ (w1003.heap[w.heap.size + 1]? = some BB) ∧ (w.grownBy w1003 none) from ⟨ne, l4, z4.grown hg, l5, z5.grown hg, at_grown ba hg (by simp), at_grown bb hg (by simp), gb_trans g hg (.inl rfl)⟩)
          clear hHeld hg ne l4 z4 l5 z5 ba bb g
          go_wp2_with fail
          refine hK.out _ _ ?_ (fun hHeld => ?_)
          · exact L3.out
          clear hK K
          try dsimp only at hHeld
          try simp only [Act.put, List.setIfInBounds_toArray, List.set_cons_zero, List.set_cons_succ, List.getElem_toArray, List.getElem_cons_succ, List.getElem_cons_zero]
          refine wpAnyH_ready (rs := [6]) (by kernel_rfl) (by simp) ?_
          refine AllReadyH.cons (o := _) rfl (fun K hK => ?_) AllReadyH.nil
          have hH2 := hHeld
          obtain ⟨ne, l4, z4, l5, z5, ba, bb, g⟩ := hH2
          obtain ⟨_, _, _, _, hz⟩ := z4.ex
          have L6 := hid (show (w1001.heap.size ≠ w1001.heap.size + 1) ∧ (w.heap.size + 1 < w1001.heap.size + 1) ∧ (Zc (w1001.heap.size + 1) ((w1003).setRow (w1001.heap.size + 1) (clV c (.slice ad c.data.length cp)))) ∧ (w.heap.size + 1 < w1001.heap.size) ∧ (Zc (w1001.heap.size) ((w1003).setRow (w1001.heap.size + 1) (clV c (.slice ad c.data.length cp)))) ∧ (((w1003).setRow (w1001.heap.size + 1) (clV c (.slice ad c.data.length cp))).heap[w.heap.size]? = some BA) ∧ (((w1003).setRow (w1001.heap.size + 1) (clV c (.slice ad c.data.length cp))).heap[w.heap.size + 1]? = some BB) ∧ (w.grownBy ((w1003).setRow (w1001.heap.size + 1) (clV c (.slice ad c.data.length cp))) none) from ⟨ne, l4, (z4.row _ _ _ _ _), l5, (z5.row _ _ _ _ _), (at_setRow_other ba (Nat.ne_of_lt (by have := l4; omega))), (at_setRow_other bb (Nat.ne_of_lt l4)), (gb_setRow g (by have := l4; omega))⟩)
          have Ny4 := hid (show ((w1003).setRow (w1001.heap.size + 1) (clV c (.slice ad c.data.length cp))).heap[w1001.heap.size + 1]? = some (.cells (clV c (.slice ad c.data.length cp)) 25) from (at_setRow hz))
          have A6 := hid (hz)
          clear hHeld ne l4 z4 l5 z5 ba bb g
          try simp only [List.getElem_toArray, List.getElem_cons_succ, List.getElem_cons_zero]
          rw [if_pos (by rfl)]
          refine wp_store_row (cs := (clV c (.slice ad c.data.length cp))) A6.out (by kernel_rfl) (by kernel_rfl) (by kernel_rfl) rfl rfl rfl rfl ?_
          refine hK.out _ _ ?_ (fun hHeld => ?_)
          · exact L6.out
          clear hK K
          try dsimp only at hHeld
          try simp only [Act.put, List.setIfInBounds_toArray, List.set_cons_zero, List.set_cons_succ, List.getElem_toArray, List.getElem_cons_succ, List.getElem_cons_zero]
          refine held_stronger (S' := fun w' => (fun w' => w'.heap[w1001.heap.size + 1]? = some (.cells (clV c (.slice ad c.data.length cp)) 25)) w' ∧ ((fun w' => (w1001.heap.size ≠ w1001.heap.size + 1) ∧ (w.heap.size + 1 < w1001.heap.size + 1) ∧ (Zc (w1001.heap.size + 1) w') ∧ (w.heap.size + 1 < w1001.heap.size) ∧ (Zc (w1001.heap.size) w') ∧ (w'.heap[w.heap.size]? = some BA) ∧ (w'.heap[w.heap.size + 1]? = some BB) ∧ (w.grownBy w' none))) w') (fun _ h => h.2) _ _ _ _ ?_
          replace hHeld := And.intro Ny4.out hHeld
          try dsimp only at hHeld
          refine wpAnyH_ready (rs := [7]) (by kernel_rfl) (by simp) ?_
          refine AllReadyH.cons (o := _) rfl (fun K hK => ?_) AllReadyH.nil
          have hH2 := hHeld
          obtain ⟨y4, ne, l4, z4, l5, z5, ba, bb, g⟩ := hH2
          obtain ⟨_, _, _, _, hz⟩ := z5.ex
          have L7 := hid (show ((((w1003).setRow (w1001.heap.size + 1) (clV c (.slice ad c.data.length cp))).setRow (w1001.heap.size) (clV d (.slice ae d.data.length cq))).heap[w1001.heap.size + 1]? = some (.cells (clV c (.slice ad c.data.length cp)) 25)) ∧ (w1001.heap.size ≠ w1001.heap.size + 1) ∧ (w.heap.size + 1 < w1001.heap.size + 1) ∧ (Zc (w1001.heap.size + 1) (((w1003).setRow (w1001.heap.size + 1) (clV c (.slice ad c.data.length cp))).setRow (w1001.heap.size) (clV d (.slice ae d.data.length cq)))) ∧ (w.heap.size + 1 < w1001.heap.size) ∧ (Zc (w1001.heap.size) (((w1003).setRow (w1001.heap.size + 1) (clV c (.slice ad c.data.length cp))).setRow (w1001.heap.size) (clV d (.slice ae d.data.length cq)))) ∧ ((((w1003).setRow (w1001.heap.size + 1) (clV c (.slice ad c.data.length cp))).setRow (w1001.heap.size) (clV d (.slice ae d.data.length cq))).heap[w.heap.size]? = some BA) ∧ ((((w1003).setRow (w1001.heap.size + 1) (clV c (.slice ad c.data.length cp))).setRow (w1001.heap.size) (clV d (.slice ae d.data.length cq))).heap[w.heap.size + 1]? = some BB) ∧ (w.grownBy (((w1003).setRow (w1001.heap.size + 1) (clV c (.slice ad c.data.length cp))).setRow (w1001.heap.size) (clV d (.slice ae d.data.length cq))) none) from ⟨(at_setRow_other y4 (by have := ne; omega)), ne, l4, (z4.row _ _ _ _ _), l5, (z5.row _ _ _ _ _), (at_setRow_other ba (Nat.ne_of_lt (by have := l5; omega))), (at_setRow_other bb (Nat.ne_of_lt l5)), (gb_setRow g (by have := l5; omega))⟩)
          have Ny5 := hid (show (((w1003).setRow (w1001.heap.size + 1) (clV c (.slice ad c.data.length cp))).setRow (w1001.heap.size) (clV d (.slice ae d.data.length cq))).heap[w1001.heap.size]? = some (.cells (clV d (.slice ae d.data.length cq)) 25) from (at_setRow hz))
          have A7 := hid (hz)
          clear hHeld y4 ne l4 z4 l5 z5 ba bb g
          try simp only [List.getElem_toArray, List.getElem_cons_succ, List.getElem_cons_zero]
          rw [if_pos (by rfl)]
          refine wp_store_row (cs := (clV d (.slice ae d.data.length cq))) A7.out (by kernel_rfl) (by kernel_rfl) (by kernel_rfl) rfl rfl rfl rfl ?_
          refine hK.out _ _ ?_ (fun hHeld => ?_)
          · exact L7.out
          clear hK K
          try dsimp only at hHeld
          try simp only [Act.put, List.setIfInBounds_toArray, List.set_cons_zero, List.set_cons_succ, List.getElem_toArray, List.getElem_cons_succ, List.getElem_cons_zero]
          refine held_stronger (S' := fun w' => (fun w' => w'.heap[w1001.heap.size]? = some (.cells (clV d (.slice ae d.data.length cq)) 25)) w' ∧ ((fun w' => (w'.heap[w1001.heap.size + 1]? = some (.cells (clV c (.slice ad c.data.length cp)) 25)) ∧ (w1001.heap.size ≠ w1001.heap.size + 1) ∧ (w.heap.size + 1 < w1001.heap.size + 1) ∧ (Zc (w1001.heap.size + 1) w') ∧ (w.heap.size + 1 < w1001.heap.size) ∧ (Zc (w1001.heap.size) w') ∧ (w'.heap[w.heap.size]? = some BA) ∧ (w'.heap[w.heap.size + 1]? = some BB) ∧ (w.grownBy w' none))) w') (fun _ h => h.2) _ _ _ _ ?_
          replace hHeld := And.intro Ny5.out hHeld
          try dsimp only at hHeld
          refine wpAnyH_done (by kernel_rfl) ?_ _
          obtain ⟨y5, y4, ne, l4, z4, l5, z5, ba, bb, g⟩ := hHeld
          have K := hid (kp_two g y4 y5 HV1.out HV2.out); clear y5 y4 ne l4 z4 l5 z5 ba bb g
          go_wp2_with fail
          go_meet
          exact ⟨_, _, rfl, rfl, K.out⟩
    · have hH2 := hHeld
      obtain ⟨ba, bb, g⟩ := hH2
      have hg : (w0.drew).grownBy ((w0.alloc (.cells #[.int .u32 0, .int .i64 0, .int .i64 0, .slice none 0 0] 25)).drew) none := World.grownBy_alloc (w0.drew) _ _
      have L4 := hid (show (((w0.alloc (.cells #[.int .u32 0, .int .i64 0, .int .i64 0, .slice none 0 0] 25)).drew).heap[w.heap.size]? = some BA) ∧ (((w0.alloc (.cells #[.int .u32 0, .int .i64 0, .int .i64 0, .slice none 0 0] 25)).drew).heap[w.heap.size + 1]? = some BB) ∧ (w.grownBy ((w0.alloc (.cells #[.int .u32 0, .int .i64 0, .int .i64 0, .slice none 0 0] 25)).drew) none) from ⟨at_grown ba hg (by simp), at_grown bb hg (by simp), gb_trans g hg (.inl rfl)⟩)
      have Nz4 := hid (show Zc (w0.heap.size) ((w0.alloc (.cells #[.int .u32 0, .int .i64 0, .int .i64 0, .slice none 0 0] 25)).drew) from (by have h : Zc (w0.drew).heap.size ((w0.alloc (.cells #[.int .u32 0, .int .i64 0, .int .i64 0, .slice none 0 0] 25)).drew) := ⟨⟨_, _, _, _, at_new (w0.drew) (.cells #[.int .u32 0, .int .i64 0, .int .i64 0, .slice none 0 0] 25)⟩⟩; rw [(show (w0.drew).heap.size = w0.heap.size from rfl)] at h; exact h))
      have Nl4 := hid (show w.heap.size + 1 < w0.heap.size from (by rw [← (show (w0.drew).heap.size = w0.heap.size from rfl)]; exact at_lt bb))
      clear hHeld hg ba bb g
      try simp only [List.getElem_toArray, List.getElem_cons_succ, List.getElem_cons_zero]
      go_simp
      refine hK.out _ _ ?_ (fun hHeld => ?_)
      · exact L4.out
      clear hK K
      try dsimp only at hHeld
      try simp only [Act.put, List.setIfInBounds_toArray, List.set_cons_zero, List.set_cons_succ, List.getElem_toArray, List.getElem_cons_succ, List.getElem_cons_zero]
      refine held_stronger (S' := fun w' => (fun w' => Zc (w0.heap.size) w') w' ∧ ((fun w' => (w'.heap[w.heap.size]? = some BA) ∧ (w'.heap[w.heap.size + 1]? = some BB) ∧ (w.grownBy w' none))) w') (fun _ h => h.2) _ _ _ _ ?_
      replace hHeld := And.intro Nz4.out hHeld
      try dsimp only at hHeld
      refine held_stronger (S' := fun w' => (fun w' => w.heap.size + 1 < w0.heap.size) w' ∧ ((fun w' => (Zc (w0.heap.size) w') ∧ (w'.heap[w.heap.size]? = some BA) ∧ (w'.heap[w.heap.size + 1]? = some BB) ∧ (w.grownBy w' none))) w') (fun _ h => h.2) _ _ _ _ ?_
      replace hHeld := And.intro Nl4.out hHeld
      try dsimp only at hHeld
      refine wpAnyH_ready (rs := [1, 5]) (by kernel_rfl) (by simp) ?_
      refine AllReadyH.cons (o := _) rfl (fun K hK => ?_) (AllReadyH.cons (o := _) rfl (fun K hK => ?_) AllReadyH.nil)
      · try simp only [List.getElem_toArray, List.getElem_cons_succ, List.getElem_cons_zero]
        go_simp
        have hH2 := hHeld
        obtain ⟨l4, z4, ba, bb, g⟩ := hH2
        refine (F1.out _).mono ?_
        rintro e w1001 ⟨rfl, hg⟩
        have L1 := hid (show (w.heap.size + 1 < w0.heap.size) ∧ (Zc (w0.heap.size) w1001) ∧ (w1001.heap[w.heap.size]? = some BA) ∧ (w1001.heap[w.heap.size + 1]? = some BB) ∧ (w.grownBy w1001 none) from ⟨l4, z4.grown hg, at_grown ba hg (by simp), at_grown bb hg (by simp), gb_trans g hg (.inl rfl)⟩)
        clear hHeld hg l4 z4 ba bb g
        go_wp2_with fail
        refine hK.out _ _ ?_ (fun hHeld => ?_)
        · exact L1.out
        clear hK K
        try dsimp only at hHeld
        try simp only [Act.put, List.setIfInBounds_toArray, List.set_cons_zero, List.set_cons_succ, List.getElem_toArray, List.getElem_cons_succ, List.getElem_cons_zero]
        refine wpAnyH_ready (rs := [3, 5]) (by kernel_rfl) (by simp) ?_
        refine AllReadyH.cons (o := _) rfl (fun K hK => ?_) (AllReadyH.cons (o := _) rfl (fun K hK => ?_) AllReadyH.nil)
        · try simp only [List.getElem_toArray, List.getElem_cons_succ, List.getElem_cons_zero]
          go_simp
          have hH2 := hHeld
          obtain ⟨l4, z4, ba, bb, g⟩ := hH2
          refine (F2.out _).mono ?_
          rintro e w1003 ⟨rfl, hg⟩
          have L3 := hid (show (w.heap.size + 1 < w0.heap.size) ∧ (Zc (w0.heap.size) w1003) ∧ (w1003.heap[w.heap.size]? = some BA) ∧ (w1003.heap[w.heap.size + 1]? = some BB) ∧ (w.grownBy w1003 none) from ⟨l4, z4.grown hg, at_grown ba hg (by simp), at_grown bb hg (by simp), gb_trans g hg (.inl rfl)⟩)
          clear hHeld hg l4 z4 ba bb g
          go_wp2_with fail
          refine hK.out _ _ ?_ (fun hHeld => ?_)
          · exact L3.out
          clear hK K
          try dsimp only at hHeld
          try simp only [Act.put, List.setIfInBounds_toArray, List.set_cons_zero, List.set_cons_succ, List.getElem_toArray, List.getElem_cons_succ, List.getElem_cons_zero]
          refine wpAnyH_ready (rs := [5]) (by kernel_rfl) (by simp) ?_
          refine AllReadyH.cons (o := _) rfl (fun K hK => ?_) AllReadyH.nil
          have hH2 := hHeld
          obtain ⟨l4, z4, ba, bb, g⟩ := hH2
          have hg : (w1003).grownBy (w1003.alloc (.cells #[.int .u32 0, .int .i64 0, .int .i64 0, .slice none 0 0] 25)) none := World.grownBy_alloc (w1003) _ _
          have L5 := hid (show (w.heap.size + 1 < w0.heap.size) ∧ (Zc (w0.heap.size) (w1003.alloc (.cells #[.int .u32 0, .int .i64 0, .int .i64 0, .slice none 0 0] 25))) ∧ ((w1003.alloc (.cells #[.int .u32 0, .int .i64 0, .int .i64 0, .slice none 0 0] 25)).heap[w.heap.size]? = some BA) ∧ ((w1003.alloc (.cells #[.int .u32 0, .int .i64 0, .int .i64 0, .slice none 0 0] 25)).heap[w.heap.size + 1]? = some BB) ∧ (w.grownBy (w1003.alloc (.cells #[.int .u32 0, .int .i64 0, .int .i64 0, .slice none 0 0] 25)) none) from ⟨l4, z4.grown hg, at_grown ba hg (by simp), at_grown bb hg (by simp), gb_trans g hg (.inl rfl)⟩)
          have Nz5 := hid (show Zc (w1003.heap.size) (w1003.alloc (.cells #[.int .u32 0, .int .i64 0, .int .i64 0, .slice none 0 0] 25)) from (by have h : Zc (w1003).heap.size (w1003.alloc (.cells #[.int .u32 0, .int .i64 0, .int .i64 0, .slice none 0 0] 25)) := ⟨⟨_, _, _, _, at_new (w1003) (.cells #[.int .u32 0, .int .i64 0, .int .i64 0, .slice none 0 0] 25)⟩⟩; rw [(show (w1003).heap.size = w1003.heap.size from rfl)] at h; exact h))
          have Nl5 := hid (show w.heap.size + 1 < w1003.heap.size from (by rw [← (show (w1003).heap.size = w1003.heap.size from rfl)]; exact at_lt bb))
          have Nne := hid (show w0.heap.size ≠ w1003.heap.size from (Nat.ne_of_lt (by rw [← (show (w1003).heap.size = w1003.heap.size from rfl)]; exact z4.lt)))
          clear hHeld hg l4 z4 ba bb g
          try simp only [List.getElem_toArray, List.getElem_cons_succ, List.getElem_cons_zero]
          go_simp
          refine hK.out _ _ ?_ (fun hHeld => ?_)
          · exact L5.out
          clear hK K
          try dsimp only at hHeld
          try simp only [Act.put, List.setIfInBounds_toArray, List.set_cons_zero, List.set_cons_succ, List.getElem_toArray, List.getElem_cons_succ, List.getElem_cons_zero]
          refine held_stronger (S' := fun w' => (fun w' => Zc (w1003.heap.size) w') w' ∧ ((fun w' => (w.heap.size + 1 < w0.heap.size) ∧ (Zc (w0.heap.size) w') ∧ (w'.heap[w.heap.size]? = some BA) ∧ (w'.heap[w.heap.size + 1]? = some BB) ∧ (w.grownBy w' none))) w') (fun _ h => h.2) _ _ _ _ ?_
          replace hHeld := And.intro Nz5.out hHeld
          try dsimp only at hHeld
          refine held_stronger (S' := fun w' => (fun w' => w.heap.size + 1 < w1003.heap.size) w' ∧ ((fun w' => (Zc (w1003.heap.size) w') ∧ (w.heap.size + 1 < w0.heap.size) ∧ (Zc (w0.heap.size) w') ∧ (w'.heap[w.heap.size]? = some BA) ∧ (w'.heap[w.heap.size + 1]? = some BB) ∧ (w.grownBy w' none))) w') (fun _ h => h.2) _ _ _ _ ?_
          replace hHeld := And.intro Nl5.out hHeld
          try dsimp only at hHeld
          refine held_stronger (S' := fun w' => (fun w' => w0.heap.size ≠ w1003.heap.size) w' ∧ ((fun w' => (w.heap.size + 1 < w1003.heap.size) ∧ (Zc (w1003.heap.size) w') ∧ (w.heap.size + 1 < w0.heap.size) ∧ (Zc (w0.heap.size) w') ∧ (w'.heap[w.heap.size]? = some BA) ∧ (w'.heap[w.heap.size + 1]? = some BB) ∧ (w.grownBy w' none))) w') (fun _ h => h.2) _ _ _ _ ?_
          replace hHeld := And.intro Nne.out hHeld
          try dsimp only at hHeld
          refine wpAnyH_ready (rs := [6]) (by kernel_rfl) (by simp) ?_
          refine AllReadyH.cons (o := _) rfl (fun K hK => ?_) AllReadyH.nil
          have hH2 := hHeld
          obtain ⟨ne, l5, z5, l4, z4, ba, bb, g⟩ := hH2
          obtain ⟨_, _, _, _, hz⟩ := z4.ex
          have L6 := hid (show (w0.heap.size ≠ w1003.heap.size) ∧ (w.heap.size + 1 < w1003.heap.size) ∧ (Zc (w1003.heap.size) (((w1003.alloc (.cells #[.int .u32 0, .int .i64 0, .int .i64 0, .slice none 0 0] 25))).setRow (w0.heap.size) (clV c (.slice ad c.data.length cp)))) ∧ (w.heap.size + 1 < w0.heap.size) ∧ (Zc (w0.heap.size) (((w1003.alloc (.cells #[.int .u32 0, .int .i64 0, .int .i64 0, .slice none 0 0] 25))).setRow (w0.heap.size) (clV c (.slice ad c.data.length cp)))) ∧ ((((w1003.alloc (.cells #[.int .u32 0, .int .i64 0, .int .i64 0, .slice none 0 0] 25))).setRow (w0.heap.size) (clV c (.slice ad c.data.length cp))).heap[w.heap.size]? = some BA) ∧ ((((w1003.alloc (.cells #[.int .u32 0, .int .i64 0, .int .i64 0, .slice none 0 0] 25))).setRow (w0.heap.size) (clV c (.slice ad c.data.length cp))).heap[w.heap.size + 1]? = some BB) ∧ (w.grownBy (((w1003.alloc (.cells #[.int .u32 0, .int .i64 0, .int .i64 0, .slice none 0 0] 25))).setRow (w0.heap.size) (clV c (.slice ad c.data.length cp))) none) from ⟨ne, l5, (z5.row _ _ _ _ _), l4, (z4.row _ _ _ _ _), (at_setRow_other ba (Nat.ne_of_lt (by have := l4; omega))), (at_setRow_other bb (Nat.ne_of_lt l4)), (gb_setRow g (by have := l4; omega))⟩)
          have Ny4 := hid (show (((w1003.alloc (.cells #[.int .u32 0, .int .i64 0, .int .i64 0, .slice none 0 0] 25))).setRow (w0.heap.size) (clV c (.slice ad c.data.length cp))).heap[w0.heap.size]? = some (.cells (clV c (.slice ad c.data.length cp)) 25) from (at_setRow hz))
          have A6 := hid (hz)
          clear hHeld ne l5 z5 l4 z4 ba bb g
          try simp only [List.getElem_toArray, List.getElem_cons_succ, List.getElem_cons_zero]
          rw [if_pos (by rfl)]
          refine wp_store_row (cs := (clV c (.slice ad c.data.length cp))) A6.out (by kernel_rfl) (by kernel_rfl) (by kernel_rfl) rfl rfl rfl rfl ?_
          refine hK.out _ _ ?_ (fun hHeld => ?_)
          · exact L6.out
          clear hK K
          try dsimp only at hHeld
          try simp only [Act.put, List.setIfInBounds_toArray, List.set_cons_zero, List.set_cons_succ, List.getElem_toArray, List.getElem_cons_succ, List.getElem_cons_zero]
          refine held_stronger (S' := fun w' => (fun w' => w'.heap[w0.heap.size]? = some (.cells (clV c (.slice ad c.data.length cp)) 25)) w' ∧ ((fun w' => (w0.heap.size ≠ w1003.heap.size) ∧ (w.heap.size + 1 < w1003.heap.size) ∧ (Zc (w1003.heap.size) w') ∧ (w.heap.size + 1 < w0.heap.size) ∧ (Zc (w0.heap.size) w') ∧ (w'.heap[w.heap.size]? = some BA) ∧ (w'.heap[w.heap.size + 1]? = some BB) ∧ (w.grownBy w' none))) w') (fun _ h => h.2) _ _ _ _ ?_
          replace hHeld := And.intro Ny4.out hHeld
          try dsimp only at hHeld
          refine wpAnyH_ready (rs := [7]) (by kernel_rfl) (by simp) ?_
          refine AllReadyH.cons (o := _) rfl (fun K hK => ?_) AllReadyH.nil
          have hH2 := hHeld
          obtain ⟨y4, ne, l5, z5, l4, z4, ba, bb, g⟩ := hH2
          obtain ⟨_, _, _, _, hz⟩ := z5.ex
          have L7 := hid (show (((((w1003.alloc (.cells #[.int .u32 0, .int .i64 0, .int .i64 0, .slice none 0 0] 25))).setRow (w0.heap.size) (clV c (.slice ad c.data.length cp))).setRow (w1003.heap.size) (clV d (.slice ae d.data.length cq))).heap[w0.heap.size]? = some (.cells (clV c (.slice ad c.data.length cp)) 25)) ∧ (w0.heap.size ≠ w1003.heap.size) ∧ (w.heap.size + 1 < w1003.heap.size) ∧ (Zc (w1003.heap.size) ((((w1003.alloc (.cells #[.int .u32 0, .int .i64 0, .int .i64 0, .slice none 0 0] 25))).setRow (w0.heap.size) (clV c (.slice ad c.data.length cp))).setRow (w1003.heap.size) (clV d (.slice ae d.data.length cq)))) ∧ (w.heap.size + 1 < w0.heap.size) ∧ (Zc (w0.heap.size) ((((w1003.alloc (.cells #[.int .u32 0, .int .i64 0, .int .i64 0, .slice none 0 0] 25))).setRow (w0.heap.size) (clV c (.slice ad c.data.length cp))).setRow (w1003.heap.size) (clV d (.slice ae d.data.length cq)))) ∧ (((((w1003.alloc (.cells #[.int .u32 0, .int .i64 0, .int .i64 0, .slice none 0 0] 25))).setRow (w0.heap.size) (clV c (.slice ad c.data.length cp))).setRow (w1003.heap.size) (clV d (.slice ae d.data.length cq))).heap[w.heap.size]? = some BA) ∧ (((((w1003.alloc (.cells #[.int .u32 0, .int .i64 0, .int .i64 0, .slice none 0 0] 25))).setRow (w0.heap.size) (clV c (.slice ad c.data.length cp))).setRow (w1003.heap.size) (clV d (.slice ae d.data.length cq))).heap[w.heap.size + 1]? = some BB) ∧ (w.grownBy ((((w1003.alloc (.cells #[.int .u32 0, .int .i64 0, .int .i64 0, .slice none 0 0] 25))).setRow (w0.heap.size) (clV c (.slice ad c.data.length cp))).setRow (w1003.heap.size) (clV d (.slice ae d.data.length cq))) none) from ⟨(at_setRow_other y4 (by have := ne; omega)), ne, l5, (z5.row _ _ _ _ _), l4, (z4.row _ _ _ _ _), (at_setRow_other ba (Nat.ne_of_lt (by have := l5; omega))), (at_setRow_other bb (Nat.ne_of_lt l5)), (gb_setRow g (by have := l5; omega))⟩)
          have Ny5 := hid (show ((((w1003.alloc (.cells #[.int .u32 0, .int .i64 0, .int .i64 0, .slice none 0 0] 25))).setRow (w0.heap.size) (clV c (.slice ad c.data.length cp))).setRow (w1003.heap.size) (clV d (.slice ae d.data.length cq))).heap[w1003.heap.size]? = some (.cells (clV d (.slice ae d.data.length cq)) 25) from (at_setRow hz))
          have A7 := hid (hz)
          clear hHeld y4 ne l5 z5 l4 z4 ba bb g
          try simp only [List.getElem_toArray, List.getElem_cons_succ, List.getElem_cons_zero]
          rw [if_pos (by rfl)]
          refine wp_store_row (cs := (clV d (.slice ae d.data.length cq))) A7.out (by kernel_rfl) (by kernel_rfl) (by kernel_rfl) rfl rfl rfl rfl ?_
          refine hK.out _ _ ?_ (fun hHeld => ?_)
          · exact L7.out
          clear hK K
          try dsimp only at hHeld
          try simp only [Act.put, List.setIfInBounds_toArray, List.set_cons_zero, List.set_cons_succ, List.getElem_toArray, List.getElem_cons_succ, List.getElem_cons_zero]
          refine held_stronger (S' := fun w' => (fun w' => w'.heap[w1003.heap.size]? = some (.cells (clV d (.slice ae d.data.length cq)) 25)) w' ∧ ((fun w' => (w'.heap[w0.heap.size]? = some (.cells (clV c (.slice ad c.data.length cp)) 25)) ∧ (w0.heap.size ≠ w1003.heap.size) ∧ (w.heap.size + 1 < w1003.heap.size) ∧ (Zc (w1003.heap.size) w') ∧ (w.heap.size + 1 < w0.heap.size) ∧ (Zc (w0.heap.size) w') ∧ (w'.heap[w.heap.size]? = some BA) ∧ (w'.heap[w.heap.size + 1]? = some BB) ∧ (w.grownBy w' none))) w') (fun _ h => h.2) _ _ _ _ ?_
          replace hHeld := And.intro Ny5.out hHeld
          try dsimp only at hHeld
          refine wpAnyH_done (by kernel_rfl) ?_ _
          obtain ⟨y5, y4, ne, l5, z5, l4, z4, ba, bb, g⟩ := hHeld
          have K := hid (kp_two g y4 y5 HV1.out HV2.out); clear y5 y4 ne l5 z5 l4 z4 ba bb g
          go_wp2_with fail
          go_meet
          exact ⟨_, _, rfl, rfl, K.out⟩
        · have hH2 := hHeld
          obtain ⟨l4, z4, ba, bb, g⟩ := hH2
          have hg : (w1001).grownBy (w1001.alloc (.cells #[.int .u32 0, .int .i64 0, .int .i64 0, .slice none 0 0] 25)) none := World.grownBy_alloc (w1001) _ _
          have L5 := hid (show (w.heap.size + 1 < w0.heap.size) ∧ (Zc (w0.heap.size) (w1001.alloc (.cells #[.int .u32 0, .int .i64 0, .int .i64 0, .slice none 0 0] 25))) ∧ ((w1001.alloc (.cells #[.int .u32 0, .int .i64 0, .int .i64 0, .slice none 0 0] 25)).heap[w.heap.size]? = some BA) ∧ ((w1001.alloc (.cells #[.int .u32 0, .int .i64 0, .int .i64 0, .slice none 0 0] 25)).heap[w.heap.size + 1]? = some BB) ∧ (w.grownBy (w1001.alloc (.cells #[.int .u32 0, .int .i64 0, .int .i64 0, .slice none 0 0] 25)) none) from ⟨l4, z4.grown hg, at_grown ba hg (by simp), at_grown bb hg (by simp), gb_trans g hg (.inl rfl)⟩)
          have Nz5 := hid (show Zc (w1001.heap.size) (w1001.alloc (.cells #[.int .u32 0, .int .i64 0, .int .i64 0, .slice none 0 0] 25)) from (by have h : Zc (w1001).heap.size (w1001.alloc (.cells #[.int .u32 0, .int .i64 0, .int .i64 0, .slice none 0 0] 25)) := ⟨⟨_, _, _, _, at_new (w1001) (.cells #[.int .u32 0, .int .i64 0, .int .i64 0, .slice none 0 0] 25)⟩⟩; rw [(show (w1001).heap.size = w1001.heap.size from rfl)] at h; exact h))
          have Nl5 := hid (show w.heap.size + 1 < w1001.heap.size from (by rw [← (show (w1001).heap.size = w1001.heap.size from rfl)]; exact at_lt bb))
          have Nne := hid (show w0.heap.size ≠ w1001.heap.size from (Nat.ne_of_lt (by rw [← (show (w1001).heap.size = w1001.heap.size from rfl)]; exact z4.lt)))
          clear hHeld hg l4 z4 ba bb g
          try simp only [List.getElem_toArray, List.getElem_cons_succ, List.getElem_cons_zero]
          go_simp
          refine hK.out _ _ ?_ (fun hHeld => ?_)
          · exact L5.out
          clear hK K
          try dsimp only at hHeld
          try simp only [Act.put, List.setIfInBounds_toArray, List.set_cons_zero, List.set_cons_succ, List.getElem_toArray, List.getElem_cons_succ, List.getElem_cons_zero]
          refine held_stronger (S' := fun w' => (fun w' => Zc (w1001.heap.size) w') w' ∧ ((fun w' => (w.heap.size + 1 < w0.heap.size) ∧ (Zc (w0.heap.size) w') ∧ (w'.heap[w.heap.size]? = some BA) ∧ (w'.heap[w.heap.size + 1]? = some BB) ∧ (w.grownBy w' none))) w') (fun _ h => h.2) _ _ _ _ ?_
          replace hHeld := And.intro Nz5.out hHeld
          try dsimp only at hHeld
          refine held_stronger (S' := fun w' => (fun w' => w.heap.size + 1 < w1001.heap.size) w' ∧ ((fun w' => (Zc (w1001.heap.size) w') ∧ (w.heap.size + 1 < w0.heap.size) ∧ (Zc (w0.heap.size) w') ∧ (w'.heap[w.heap.size]? = some BA) ∧ (w'.heap[w.heap.size + 1]? = some BB) ∧ (w.grownBy w' none))) w') (fun _ h => h.2) _ _ _ _ ?_
          replace hHeld := And.intro Nl5.out hHeld
          try dsimp only at hHeld
          refine held_stronger (S' := fun w' => (fun w' => w0.heap.size ≠ w1001.heap.size) w' ∧ ((fun w' => (w.heap.size + 1 < w1001.heap.size) ∧ (Zc (w1001.heap.size) w') ∧ (w.heap.size + 1 < w0.heap.size) ∧ (Zc (w0.heap.size) w') ∧ (w'.heap[w.heap.size]? = some BA) ∧ (w'.heap[w.heap.size + 1]? = some BB) ∧ (w.grownBy w' none))) w') (fun _ h => h.2) _ _ _ _ ?_
          replace hHeld := And.intro Nne.out hHeld
          try dsimp only at hHeld
          refine wpAnyH_ready (rs := [3]) (by kernel_rfl) (by simp) ?_
          refine AllReadyH.cons (o := _) rfl (fun K hK => ?_) AllReadyH.nil
          try simp only [List.getElem_toArray, List.getElem_cons_succ, List.getElem_cons_zero]
          go_simp
          have hH2 := hHeld
          obtain ⟨ne, l5, z5, l4, z4, ba, bb, g⟩ := hH2
          refine (F2.out _).mono ?_
          rintro e w1003 ⟨rfl, hg⟩
          have L3 := hid (show (w0.heap.size ≠ w1001.heap.size) ∧ (w.heap.size + 1 < w1001.heap.size) ∧ (Zc (w1001.heap.size) w1003) ∧ (w.heap.size + 1 < w0.heap.size) ∧ (Zc (w0.heap.size) w1003) ∧ (w1003.heap[w.heap.size]? = some BA) ∧ (w1003.heap[w.heap.size + 1]? = some BB) ∧ (w.grownBy w1003 none) from ⟨ne, l5, z5.grown hg, l4, z4.grown hg, at_grown ba hg (by simp), at_grown bb hg (by simp), gb_trans g hg (.inl rfl)⟩)
          clear hHeld hg ne l5 z5 l4 z4 ba bb g
          go_wp2_with fail
          refine hK.out _ _ ?_ (fun hHeld => ?_)
          · exact L3.out
          clear hK K
          try dsimp only at hHeld
          try simp only [Act.put, List.setIfInBounds_toArray, List.set_cons_zero, List.set_cons_succ, List.getElem_toArray, List.getElem_cons_succ, List.getElem_cons_zero]
          refine wpAnyH_ready (rs := [6]) (by kernel_rfl) (by simp) ?_
          refine AllReadyH.cons (o := _) rfl (fun K hK => ?_) AllReadyH.nil
          have hH2 := hHeld
          obtain ⟨ne, l5, z5, l4, z4, ba, bb, g⟩ := hH2
          obtain ⟨_, _, _, _, hz⟩ := z4.ex
          have L6 := hid (show (w0.heap.size ≠ w1001.heap.size) ∧ (w.heap.size + 1 < w1001.heap.size) ∧ (Zc (w1001.heap.size) ((w1003).setRow (w0.heap.size) (clV c (.slice ad c.data.length cp)))) ∧ (w.heap.size + 1 < w0.heap.size) ∧ (Zc (w0.heap.size) ((w1003).setRow (w0.heap.size) (clV c (.slice ad c.data.length cp)))) ∧ (((w1003).setRow (w0.heap.size) (clV c (.slice ad c.data.length cp))).heap[w.heap.size]? = some BA) ∧ (((w1003).setRow (w0.heap.size) (clV c (.slice ad c.data.length cp))).heap[w.heap.size + 1]? = some BB) ∧ (w.grownBy ((w1003).setRow (w0.heap.size) (clV c (.slice ad c.data.length cp))) none) from ⟨ne, l5, (z5.row _ _ _ _ _), l4, (z4.row _ _ _ _ _), (at_setRow_other ba (Nat.ne_of_lt (by have := l4; omega))), (at_setRow_other bb (Nat.ne_of_lt l4)), (gb_setRow g (by have := l4; omega))⟩)
          have Ny4 := hid (show ((w1003).setRow (w0.heap.size) (clV c (.slice ad c.data.length cp))).heap[w0.heap.size]? = some (.cells (clV c (.slice ad c.data.length cp)) 25) from (at_setRow hz))
          have A6 := hid (hz)
          clear hHeld ne l5 z5 l4 z4 ba bb g
          try simp only [List.getElem_toArray, List.getElem_cons_succ, List.getElem_cons_zero]
          rw [if_pos (by rfl)]
          refine wp_store_row (cs := (clV c (.slice ad c.data.length cp))) A6.out (by kernel_rfl) (by kernel_rfl) (by kernel_rfl) rfl rfl rfl rfl ?_
          refine hK.out _ _ ?_ (fun hHeld => ?_)
          · exact L6.out
          clear hK K
          try dsimp only at hHeld
          try simp only [Act.put, List.setIfInBounds_toArray, List.set_cons_zero, List.set_cons_succ, List.getElem_toArray, List.getElem_cons_succ, List.getElem_cons_zero]
          refine held_stronger (S' := fun w' => (fun w' => w'.heap[w0.heap.size]? = some (.cells (clV c (.slice ad c.data.length cp)) 25)) w' ∧ ((fun w' => (w0.heap.size ≠ w1001.heap.size) ∧ (w.heap.size + 1 < w1001.heap.size) ∧ (Zc (w1001.heap.size) w') ∧ (w.heap.size + 1 < w0.heap.size) ∧ (Zc (w0.heap.size) w') ∧ (w'.heap[w.heap.size]? = some BA) ∧ (w'.heap[w.heap.size + 1]? = some BB) ∧ (w.grownBy w' none))) w') (fun _ h => h.2) _ _ _ _ ?_
          replace hHeld := And.intro Ny4.out hHeld
          try dsimp only at hHeld
          refine wpAnyH_ready (rs := [7]) (by kernel_rfl) (by simp) ?_
          refine AllReadyH.cons (o := _) rfl (fun K hK => ?_) AllReadyH.nil
          have hH2 := hHeld
          obtain ⟨y4, ne, l5, z5, l4, z4, ba, bb, g⟩ := hH2
          obtain ⟨_, _, _, _, hz⟩ := z5.ex
          have L7 := hid (show ((((w1003).setRow (w0.heap.size) (clV c (.slice ad c.data.length cp))).setRow (w1001.heap.size) (clV d (.slice ae d.data.length cq))).heap[w0.heap.size]? = some (.cells (clV c (.slice ad c.data.length cp)) 25)) ∧ (w0.heap.size ≠ w1001.heap.size) ∧ (w.heap.size + 1 < w1001.heap.size) ∧ (Zc (w1001.heap.size) (((w1003).setRow (w0.heap.size) (clV c (.slice ad c.data.length cp))).setRow (w1001.heap.size) (clV d (.slice ae d.data.length cq)))) ∧ (w.heap.size + 1 < w0.heap.size) ∧ (Zc (w0.heap.size) (((w1003).setRow (w0.heap.size) (clV c (.slice ad c.data.length cp))).setRow (w1001.heap.size) (clV d (.slice ae d.data.length cq)))) ∧ ((((w1003).setRow (w0.heap.size) (clV c (.slice ad c.data.length cp))).setRow (w1001.heap.size) (clV d (.slice ae d.data.length cq))).heap[w.heap.size]? = some BA) ∧ ((((w1003).setRow (w0.heap.size) (clV c (.slice ad c.data.length cp))).setRow (w1001.heap.size) (clV d (.slice ae d.data.length cq))).heap[w.heap.size + 1]? = some BB) ∧ (w.grownBy (((w1003).setRow (w0.heap.size) (clV c (.slice ad c.data.length cp))).setRow (w1001.heap.size) (clV d (.slice ae d.data.length cq))) none) from ⟨(at_setRow_other y4 (by have := ne; omega)), ne, l5, (z5.row _ _ _ _ _), l4, (z4.row _ _ _ _ _), (at_setRow_other ba (Nat.ne_of_lt (by have := l5; omega))), (at_setRow_other bb (Nat.ne_of_lt l5)), (gb_setRow g (by have := l5; omega))⟩)
          have Ny5 := hid (show (((w1003).setRow (w0.heap.size) (clV c (.slice ad c.data.length cp))).setRow (w1001.heap.size) (clV d (.slice ae d.data.length cq))).heap[w1001.heap.size]? = some (.cells (clV d (.slice ae d.data.length cq)) 25) from (at_setRow hz))
          have A7 := hid (hz)
          clear hHeld y4 ne l5 z5 l4 z4 ba bb g
          try simp only [List.getElem_toArray, List.getElem_cons_succ, List.getElem_cons_zero]
          rw [if_pos (by rfl)]
          refine wp_store_row (cs := (clV d (.slice ae d.data.length cq))) A7.out (by kernel_rfl) (by kernel_rfl) (by kernel_rfl) rfl rfl rfl rfl ?_
          refine hK.out _ _ ?_ (fun hHeld => ?_)
          · exact L7.out
          clear hK K
          try dsimp only at hHeld
          try simp only [Act.put, List.setIfInBounds_toArray, List.set_cons_zero, List.set_cons_succ, List.getElem_toArray, List.getElem_cons_succ, List.getElem_cons_zero]
          refine held_stronger (S' := fun w' => (fun w' => w'.heap[w1001.heap.size]? = some (.cells (clV d (.slice ae d.data.length cq)) 25)) w' ∧ ((fun w' => (w'.heap[w0.heap.size]? = some (.cells (clV c (.slice ad c.data.length cp)) 25)) ∧ (w0.heap.size ≠ w1001.heap.size) ∧ (w.heap.size + 1 < w1001.heap.size) ∧ (Zc (w1001.heap.size) w') ∧ (w.heap.size + 1 < w0.heap.size) ∧ (Zc (w0.heap.size) w') ∧ (w'.heap[w.heap.size]? = some BA) ∧ (w'.heap[w.heap.size + 1]? = some BB) ∧ (w.grownBy w' none))) w') (fun _ h => h.2) _ _ _ _ ?_
          replace hHeld := And.intro Ny5.out hHeld
          try dsimp only at hHeld
          refine wpAnyH_done (by kernel_rfl) ?_ _
          obtain ⟨y5, y4, ne, l5, z5, l4, z4, ba, bb, g⟩ := hHeld
          have K := hid (kp_two g y4 y5 HV1.out HV2.out); clear y5 y4 ne l5 z5 l4 z4 ba bb g
          go_wp2_with fail
          go_meet
          exact ⟨_, _, rfl, rfl, K.out⟩
      · have hH2 := hHeld
        obtain ⟨l4, z4, ba, bb, g⟩ := hH2
        have hg : (((w0.alloc (.cells #[.int .u32 0, .int .i64 0, .int .i64 0, .slice none 0 0] 25)).drew)).grownBy (((w0.alloc (.cells #[.int .u32 0, .int .i64 0, .int .i64 0, .slice none 0 0] 25)).drew).alloc (.cells #[.int .u32 0, .int .i64 0, .int .i64 0, .slice none 0 0] 25)) none := World.grownBy_alloc (((w0.alloc (.cells #[.int .u32 0, .int .i64 0, .int .i64 0, .slice none 0 0] 25)).drew)) _ _
        have L5 := hid (show (w.heap.size + 1 < w0.heap.size) ∧ (Zc (w0.heap.size) (((w0.alloc (.cells #[.int .u32 0, .int .i64 0, .int .i64 0, .slice none 0 0] 25)).drew).alloc (.cells #[.int .u32 0, .int .i64 0, .int .i64 0, .slice none 0 0] 25))) ∧ ((((w0.alloc (.cells #[.int .u32 0, .int .i64 0, .int .i64 0, .slice none 0 0] 25)).drew).alloc (.cells #[.int .u32 0, .int .i64 0, .int .i64 0, .slice none 0 0] 25)).heap[w.heap.size]? = some BA) ∧ ((((w0.alloc (.cells #[.int .u32 0, .int .i64 0, .int .i64 0, .slice none 0 0] 25)).drew).alloc (.cells #[.int .u32 0, .int .i64 0, .int .i64 0, .slice none 0 0] 25)).heap[w.heap.size + 1]? = some BB) ∧ (w.grownBy (((w0.alloc (.cells #[.int .u32 0, .int .i64 0, .int .i64 0, .slice none 0 0] 25)).drew).alloc (.cells #[.int .u32 0, .int .i64 0, .int .i64 0, .slice none 0 0] 25)) none) from ⟨l4, z4.grown hg, at_grown ba hg (by simp), at_grown bb hg (by simp), gb_trans g hg (.inl rfl)⟩)
        have Nz5 := hid (show Zc (w0.heap.size + 1) (((w0.alloc (.cells #[.int .u32 0, .int .i64 0, .int .i64 0, .slice none 0 0] 25)).drew).alloc (.cells #[.int .u32 0, .int .i64 0, .int .i64 0, .slice none 0 0] 25)) from (by have h : Zc (((w0.alloc (.cells #[.int .u32 0, .int .i64 0, .int .i64 0, .slice none 0 0] 25)).drew)).heap.size (((w0.alloc (.cells #[.int .u32 0, .int .i64 0, .int .i64 0, .slice none 0 0] 25)).drew).alloc (.cells #[.int .u32 0, .int .i64 0, .int .i64 0, .slice none 0 0] 25)) := ⟨⟨_, _, _, _, at_new (((w0.alloc (.cells #[.int .u32 0, .int .i64 0, .int .i64 0, .slice none 0 0] 25)).drew)) (.cells #[.int .u32 0, .int .i64 0, .int .i64 0, .slice none 0 0] 25)⟩⟩; rw [(show (((w0.alloc (.cells #[.int .u32 0, .int .i64 0, .int .i64 0, .slice none 0 0] 25)).drew)).heap.size = w0.heap.size + 1 from alloc_size _ _)] at h; exact h))
        have Nl5 := hid (show w.heap.size + 1 < w0.heap.size + 1 from (by rw [← (show (((w0.alloc (.cells #[.int .u32 0, .int .i64 0, .int .i64 0, .slice none 0 0] 25)).drew)).heap.size = w0.heap.size + 1 from alloc_size _ _)]; exact at_lt bb))
        have Nne := hid (show w0.heap.size ≠ w0.heap.size + 1 from (Nat.ne_of_lt (by rw [← (show (((w0.alloc (.cells #[.int .u32 0, .int .i64 0, .int .i64 0, .slice none 0 0] 25)).drew)).heap.size = w0.heap.size + 1 from alloc_size _ _)]; exact z4.lt)))
        clear hHeld hg l4 z4 ba bb g
        try simp only [List.getElem_toArray, List.getElem_cons_succ, List.getElem_cons_zero]
        go_simp
        refine hK.out _ _ ?_ (fun hHeld => ?_)
        · exact L5.out
        clear hK K
        try dsimp only at hHeld
        try simp only [Act.put, List.setIfInBounds_toArray, List.set_cons_zero, List.set_cons_succ, List.getElem_toArray, List.getElem_cons_succ, List.getElem_cons_zero]
        refine held_stronger (S' := fun w' => (fun w' => Zc (w0.heap.size + 1) w') w' ∧ ((fun w' => (w.heap.size + 1 < w0.heap.size) ∧ (Zc (w0.heap.size) w') ∧ (w'.heap[w.heap.size]? = some BA) ∧ (w'.heap[w.heap.size + 1]? = some BB) ∧ (w.grownBy w' none))) w') (fun _ h => h.2) _ _ _ _ ?_
        replace hHeld := And.intro Nz5.out hHeld
        try dsimp only at hHeld
        refine held_stronger (S' := fun w' => (fun w' => w.heap.size + 1 < w0.heap.size + 1) w' ∧ ((fun w' => (Zc (w0.heap.size + 1) w') ∧ (w.heap.size + 1 < w0.heap.size) ∧ (Zc (w0.heap.size) w') ∧ (w'.heap[w.heap.size]? = some BA) ∧ (w'.heap[w.heap.size + 1]? = some BB) ∧ (w.grownBy w' none))) w') (fun _ h => h.2) _ _ _ _ ?_
        replace hHeld := And.intro Nl5.out hHeld
        try dsimp only at hHeld
        refine held_stronger (S' := fun w' => (fun w' => w0.heap.size ≠ w0.heap.size + 1) w' ∧ ((fun w' => (w.heap.size + 1 < w0.heap.size + 1) ∧ (Zc (w0.heap.size + 1) w') ∧ (w.heap.size + 1 < w0.heap.size) ∧ (Zc (w0.heap.size) w') ∧ (w'.heap[w.heap.size]? = some BA) ∧ (w'.heap[w.heap.size + 1]? = some BB) ∧ (w.grownBy w' none))) w') (fun _ h => h.2) _ _ _ _ ?_
        replace hHeld := And.intro Nne.out hHeld
        try dsimp only at hHeld
        refine wpAnyH_ready (rs := [1]) (by kernel_rfl) (by simp) ?_
        refine AllReadyH.cons (o := _) rfl (fun K hK => ?_) AllReadyH.nil
        try simp only [List.getElem_toArray, List.getElem_cons_succ, List.getElem_cons_zero]
        go_simp
        have hH2 := hHeld
        obtain ⟨ne, l5, z5, l4, z4, ba, bb, g⟩ := hH2
        refine (F1.out _).mono ?_
        rintro e w1001 ⟨rfl, hg⟩
        have L1 := hid (show (w0.heap.size ≠ w0.heap.size + 1) ∧ (w.heap.size + 1 < w0.heap.size + 1) ∧ (Zc (w0.heap.size + 1) w1001) ∧ (w.heap.size + 1 < w0.heap.size) ∧ (Zc (w0.heap.size) w1001) ∧ (w1001.heap[w.heap.size]? = some BA) ∧ (w1001.heap[w.heap.size + 1]? = some BB) ∧ (w.grownBy w1001 none) from ⟨ne, l5, z5.grown hg, l4, z4.grown hg, at_grown ba hg (by simp), at_grown bb hg (by simp), gb_trans g hg (.inl rfl)⟩)
        clear hHeld hg ne l5 z5 l4 z4 ba bb g
        go_wp2_with fail
        refine hK.out _ _ ?_ (fun hHeld => ?_)
        · exact L1.out
        clear hK K
        try dsimp only at hHeld
        try simp only [Act.put, List.setIfInBounds_toArray, List.set_cons_zero, List.set_cons_succ, List.getElem_toArray, List.getElem_cons_succ, List.getElem_cons_zero]
        refine wpAnyH_ready (rs := [3]) (by kernel_rfl) (by simp) ?_
        refine AllReadyH.cons (o := _) rfl (fun K hK => ?_) AllReadyH.nil
        try simp only [List.getElem_toArray, List.getElem_cons_succ, List.getElem_cons_zero]
        go_simp
        have hH2 := hHeld
        obtain ⟨ne, l5, z5, l4, z4, ba, bb, g⟩ := hH2
        refine (F2.out _).mono ?_
        rintro e w1003 ⟨rfl, hg⟩
        have L3 := hid (show (w0.heap.size ≠ w0.heap.size + 1) ∧ (w.heap.size + 1 < w0.heap.size + 1) ∧ (Zc (w0.heap.size + 1) w1003) ∧ (w.heap.size + 1 < w0.heap.size) ∧ (Zc (w0.heap.size) w1003) ∧ (w1003.heap[w.heap.size]? = some BA) ∧ (w1003.heap[w.heap.size + 1]? = some BB) ∧ (w.grownBy w1003 none) from ⟨ne, l5, z5.grown hg, l4, z4.grown hg, at_grown ba hg (by simp), at_grown bb hg (by simp), gb_trans g hg (.inl rfl)⟩)
        clear hHeld hg ne l5 z5 l4 z4 ba bb g
        go_wp2_with fail
        refine hK.out _ _ ?_ (fun hHeld => ?_)
        · exact L3.out
        clear hK K
        try dsimp only at hHeld
        try simp only [Act.put, List.setIfInBounds_toArray, List.set_cons_zero, List.set_cons_succ, List.getElem_toArray, List.getElem_cons_succ, List.getElem_cons_zero]
        refine wpAnyH_ready (rs := [6]) (by kernel_rfl) (by simp) ?_
        refine AllReadyH.cons (o := _) rfl (fun K hK => ?_) AllReadyH.nil
        have hH2 := hHeld
        obtain ⟨ne, l5, z5, l4, z4, ba, bb, g⟩ := hH2
        obtain ⟨_, _, _, _, hz⟩ := z4.ex
        have L6 := hid (show (w0.heap.size ≠ w0.heap.size + 1) ∧ (w.heap.size + 1 < w0.heap.size + 1) ∧ (Zc (w0.heap.size + 1) ((w1003).setRow (w0.heap.size) (clV c (.slice ad c.data.length cp)))) ∧ (w.heap.size + 1 < w0.heap.size) ∧ (Zc (w0.heap.size) ((w1003).setRow (w0.heap.size) (clV c (.slice ad c.data.length cp)))) ∧ (((w1003).setRow (w0.heap.size) (clV c (.slice ad c.data.length cp))).heap[w.heap.size]? = some BA) ∧ (((w1003).setRow (w0.heap.size) (clV c (.slice ad c.data.length cp))).heap[w.heap.size + 1]? = some BB) ∧ (w.grownBy ((w1003).setRow (w0.heap.size) (clV c (.slice ad c.data.length cp))) none) from ⟨ne, l5, (z5.row _ _ _ _ _), l4, (z4.row _ _ _ _ _), (at_setRow_other ba (Nat.ne_of_lt (by have := l4; omega))), (at_setRow_other bb (Nat.ne_of_lt l4)), (gb_setRow g (by have := l4; omega))⟩)
        have Ny4 := hid (show ((w1003).setRow (w0.heap.size) (clV c (.slice ad c.data.length cp))).heap[w0.heap.size]? = some (.cells (clV c (.slice ad c.data.length cp)) 25) from (at_setRow hz))
        have A6 := hid (hz)
        clear hHeld ne l5 z5 l4 z4 ba bb g
        try simp only [List.getElem_toArray, List.getElem_cons_succ, List.getElem_cons_zero]
        rw [if_pos (by rfl)]
        refine wp_store_row (cs := (clV c (.slice ad c.data.length cp))) A6.out (by kernel_rfl) (by kernel_rfl) (by kernel_rfl) rfl rfl rfl rfl ?_
        refine hK.out _ _ ?_ (fun hHeld => ?_)
        · exact L6.out
        clear hK K
        try dsimp only at hHeld
        try simp only [Act.put, List.setIfInBounds_toArray, List.set_cons_zero, List.set_cons_succ, List.getElem_toArray, List.getElem_cons_succ, List.getElem_cons_zero]
        refine held_stronger (S' := fun w' => (fun w' => w'.heap[w0.heap.size]? = some (.cells (clV c (.slice ad c.data.length cp)) 25)) w' ∧ ((fun w' => (w0.heap.size ≠ w0.heap.size + 1) ∧ (w.heap.size + 1 < w0.heap.size + 1) ∧ (Zc (w0.heap.size + 1) w') ∧ (w.heap.size + 1 < w0.heap.size) ∧ (Zc (w0.heap.size) w') ∧ (w'.heap[w.heap.size]? = some BA) ∧ (w'.heap[w.heap.size + 1]? = some BB) ∧ (w.grownBy w' none))) w') (fun _ h => h.2) _ _ _ _ ?_
        replace hHeld := And.intro Ny4.out hHeld
        try dsimp only at hHeld
        refine wpAnyH_ready (rs := [7]) (by kernel_rfl) (by simp) ?_
        refine AllReadyH.cons (o := _) rfl (fun K hK => ?_) AllReadyH.nil
        have hH2 := hHeld
        obtain ⟨y4, ne, l5, z5, l4, z4, ba, bb, g⟩ := hH2
        obtain ⟨_, _, _, _, hz⟩ := z5.ex
        have L7 := hid (show ((((w1003).setRow (w0.heap.size) (clV c (.slice ad c.data.length cp))).setRow (w0.heap.size + 1) (clV d (.slice ae d.data.length cq))).heap[w0.heap.size]? = some (.cells (clV c (.slice ad c.data.length cp)) 25)) ∧ (w0.heap.size ≠ w0.heap.size + 1) ∧ (w.heap.size + 1 < w0.heap.size + 1) ∧ (Zc (w0.heap.size + 1) (((w1003).setRow (w0.heap.size) (clV c (.slice ad c.data.length cp))).setRow (w0.heap.size + 1) (clV d (.slice ae d.data.length cq)))) ∧ (w.heap.size + 1 < w0.heap.size) ∧ (Zc (w0.heap.size) (((w1003).setRow (w0.heap.size) (clV c (.slice ad c.data.length cp))).setRow (w0.heap.size + 1) (clV d (.slice ae d.data.length cq)))) ∧ ((((w1003).setRow (w0.heap.size) (clV c (.slice ad c.data.length cp))).setRow (w0.heap.size + 1) (clV d (.slice ae d.data.length cq))).heap[w.heap.size]? = some BA) ∧ ((((w1003).setRow (w0.heap.size) (clV c (.slice ad c.data.length cp))).setRow (w0.heap.size + 1) (clV d (.slice ae d.data.length cq))).heap[w.heap.size + 1]? = some BB) ∧ (w.grownBy (((w1003).setRow (w0.heap.size) (clV c (.slice ad c.data.length cp))).setRow (w0.heap.size + 1) (clV d (.slice ae d.data.length cq))) none) from ⟨(at_setRow_other y4 (by have := ne; omega)), ne, l5, (z5.row _ _ _ _ _), l4, (z4.row _ _ _ _ _), (at_setRow_other ba (Nat.ne_of_lt (by have := l5; omega))), (at_setRow_other bb (Nat.ne_of_lt l5)), (gb_setRow g (by have := l5; omega))⟩)
        have Ny5 := hid (show (((w1003).setRow (w0.heap.size) (clV c (.slice ad c.data.length cp))).setRow (w0.heap.size + 1) (clV d (.slice ae d.data.length cq))).heap[w0.heap.size + 1]? = some (.cells (clV d (.slice ae d.data.length cq)) 25) from (at_setRow hz))
        have A7 := hid (hz)
        clear hHeld y4 ne l5 z5 l4 z4 ba bb g
        try simp only [List.getElem_toArray, List.getElem_cons_succ, List.getElem_cons_zero]
        rw [if_pos (by rfl)]
        refine wp_store_row (cs := (clV d (.slice ae d.data.length cq))) A7.out (by kernel_rfl) (by kernel_rfl) (by kernel_rfl) rfl rfl rfl rfl ?_
        refine hK.out _ _ ?_ (fun hHeld => ?_)
        · exact L7.out
        clear hK K
        try dsimp only at hHeld
        try simp only [Act.put, List.setIfInBounds_toArray, List.set_cons_zero, List.set_cons_succ, List.getElem_toArray, List.getElem_cons_succ, List.getElem_cons_zero]
        refine held_stronger (S' := fun w' => (fun w' => w'.heap[w0.heap.size + 1]? = some (.cells (clV d (.slice ae d.data.length cq)) 25)) w' ∧ ((fun w' => (w'.heap[w0.heap.size]? = some (.cells (clV c (.slice ad c.data.length cp)) 25)) ∧ (w0.heap.size ≠ w0.heap.size + 1) ∧ (w.heap.size + 1 < w0.heap.size + 1) ∧ (Zc (w0.heap.size + 1) w') ∧ (w.heap.size + 1 < w0.heap.size) ∧ (Zc (w0.heap.size) w') ∧ (w'.heap[w.heap.size]? = some BA) ∧ (w'.heap[w.heap.size + 1]? = some BB) ∧ (w.grownBy w' none))) w') (fun _ h => h.2) _ _ _ _ ?_
        replace hHeld := And.intro Ny5.out hHeld
        try dsimp only at hHeld
        refine wpAnyH_done (by kernel_rfl) ?_ _
        obtain ⟨y5, y4, ne, l5, z5, l4, z4, ba, bb, g⟩ := hHeld
        have K := hid (kp_two g y4 y5 HV1.out HV2.out); clear y5 y4 ne l5 z5 l4 z4 ba bb g
        go_wp2_with fail
        go_meet
        exact ⟨_, _, rfl, rfl, K.out⟩
    · have hH2 := hHeld
      obtain ⟨ba, bb, g⟩ := hH2
      have hg : (w0.drew).grownBy ((w0.alloc (.cells #[.int .u32 0, .int .i64 0, .int .i64 0, .slice none 0 0] 25)).drew) none := World.grownBy_alloc (w0.drew) _ _
      have L5 := hid (show (((w0.alloc (.cells #[.int .u32 0, .int .i64 0, .int .i64 0, .slice none 0 0] 25)).drew).heap[w.heap.size]? = some BA) ∧ (((w0.alloc (.cells #[.int .u32 0, .int .i64 0, .int .i64 0, .slice none 0 0] 25)).drew).heap[w.heap.size + 1]? = some BB) ∧ (w.grownBy ((w0.alloc (.cells #[.int .u32 0, .int .i64 0, .int .i64 0, .slice none 0 0] 25)).drew) none) from ⟨at_grown ba hg (by simp), at_grown bb hg (by simp), gb_trans g hg (.inl rfl)⟩)
      have Nz5 := hid (show Zc (w0.heap.size) ((w0.alloc (.cells #[.int .u32 0, .int .i64 0, .int .i64 0, .slice none 0 0] 25)).drew) from (by have h : Zc (w0.drew).heap.size ((w0.alloc (.cells #[.int .u32 0, .int .i64 0, .int .i64 0, .slice none 0 0] 25)).drew) := ⟨⟨_, _, _, _, at_new (w0.drew) (.cells #[.int .u32 0, .int .i64 0, .int .i64 0, .slice none 0 0] 25)⟩⟩; rw [(show (w0.drew).heap.size = w0.heap.size from rfl)] at h; exact h))
      have Nl5 := hid (show w.heap.size + 1 < w0.heap.size from (by rw [← (show (w0.drew).heap.size = w0.heap.size from rfl)]; exact at_lt bb))
      clear hHeld hg ba bb g
      try simp only [List.getElem_toArray, List.getElem_cons_succ, List.getElem_cons_zero]
      go_simp
      refine hK.out _ _ ?_ (fun hHeld => ?_)
      · exact L5.out
      clear hK K
      try dsimp only at hHeld
      try simp only [Act.put, List.setIfInBounds_toArray, List.set_cons_zero, List.set_cons_succ, List.getElem_toArray, List.getElem_cons_succ, List.getElem_cons_zero]
      refine held_stronger (S' := fun w' => (fun w' => Zc (w0.heap.size) w') w' ∧ ((fun w' => (w'.heap[w.heap.size]? = some BA) ∧ (w'.heap[w.heap.size + 1]? = some BB) ∧ (w.grownBy w' none))) w') (fun _ h => h.2) _ _ _ _ ?_
      replace hHeld := And.intro Nz5.out hHeld
      try dsimp only at hHeld
      refine held_stronger (S' := fun w' => (fun w' => w.heap.size + 1 < w0.heap.size) w' ∧ ((fun w' => (Zc (w0.heap.size) w') ∧ (w'.heap[w.heap.size]? = some BA) ∧ (w'.heap[w.heap.size + 1]? = some BB) ∧ (w.grownBy w' none))) w') (fun _ h => h.2) _ _ _ _ ?_
      replace hHeld := And.intro Nl5.out hHeld
      try dsimp only at hHeld
      refine wpAnyH_ready (rs := [1, 4]) (by kernel_rfl) (by simp) ?_
      refine AllReadyH.cons (o := _) rfl (fun K hK => ?_) (AllReadyH.cons (o := _) rfl (fun K hK => ?_) AllReadyH.nil)
      · try simp only [List.getElem_toArray, List.getElem_cons_succ, List.getElem_cons_zero]
        go_simp
        have hH2 := hHeld
        obtain ⟨l5, z5, ba, bb, g⟩ := hH2
        refine (F1.out _).mono ?_
        rintro e w1001 ⟨rfl, hg⟩
        have L1 := hid (show (w.heap.size + 1 < w0.heap.size) ∧ (Zc (w0.heap.size) w1001) ∧ (w1001.heap[w.heap.size]? = some BA) ∧ (w1001.heap[w.heap.size + 1]? = some BB) ∧ (w.grownBy w1001 none) from ⟨l5, z5.grown hg, at_grown ba hg (by simp), at_grown bb hg (by simp), gb_trans g hg (.inl rfl)⟩)
        clear hHeld hg l5 z5 ba bb g
        go_wp2_with fail
        refine hK.out _ _ ?_ (fun hHeld => ?_)
        · exact L1.out
        clear hK K
        try dsimp only at hHeld
        try simp only [Act.put, List.setIfInBounds_toArray, List.set_cons_zero, List.set_cons_succ, List.getElem_toArray, List.getElem_cons_succ, List.getElem_cons_zero]
        refine wpAnyH_ready (rs := [3, 4]) (by kernel_rfl) (by simp) ?_
        refine AllReadyH.cons (o := _) rfl (fun K hK => ?_) (AllReadyH.cons (o := _) rfl (fun K hK => ?_) AllReadyH.nil)
        · try simp only [List.getElem_toArray, List.getElem_cons_succ, List.getElem_cons_zero]
          go_simp
          have hH2 := hHeld
          obtain ⟨l5, z5, ba, bb, g⟩ := hH2
          refine (F2.out _).mono ?_
          rintro e w1003 ⟨rfl, hg⟩
          have L3 := hid (show (w.heap.size + 1 < w0.heap.size) ∧ (Zc (w0.heap.size) w1003) ∧ (w1003.heap[w.heap.size]? = some BA) ∧ (w1003.heap[w.heap.size + 1]? = some BB) ∧ (w.grownBy w1003 none) from ⟨l5, z5.grown hg, at_grown ba hg (by simp), at_grown bb hg (by simp), gb_trans g hg (.inl rfl)⟩)
          clear hHeld hg l5 z5 ba bb g
          go_wp2_with fail
          refine hK.out _ _ ?_ (fun hHeld => ?_)
          · exact L3.out
          clear hK K
          try dsimp only at hHeld
          try simp only [Act.put, List.setIfInBounds_toArray, List.set_cons_zero, List.set_cons_succ, List.getElem_toArray, List.getElem_cons_succ, List.getElem_cons_zero]
          refine wpAnyH_ready (rs := [4]) (by kernel_rfl) (by simp) ?_
          refine AllReadyH.cons (o := _) rfl (fun K hK => ?_) AllReadyH.nil
          have hH2 := hHeld
          obtain ⟨l5, z5, ba, bb, g⟩ := hH2
          have hg : (w1003).grownBy (w1003.alloc (.cells #[.int .u32 0, .int .i64 0, .int .i64 0, .slice none 0 0] 25)) none := World.grownBy_alloc (w1003) _ _
          have L4 := hid (show (w.heap.size + 1 < w0.heap.size) ∧ (Zc (w0.heap.size) (w1003.alloc (.cells #[.int .u32 0, .int .i64 0, .int .i64 0, .slice none 0 0] 25))) ∧ ((w1003.alloc (.cells #[.int .u32 0, .int .i64 0, .int .i64 0, .slice none 0 0] 25)).heap[w.heap.size]? = some BA) ∧ ((w1003.alloc (.cells #[.int .u32 0, .int .i64 0, .int .i64 0, .slice none 0 0] 25)).heap[w.heap.size + 1]? = some BB) ∧ (w.grownBy (w1003.alloc (.cells #[.int .u32 0, .int .i64 0, .int .i64 0, .slice none 0 0] 25)) none) from ⟨l5, z5.grown hg, at_grown ba hg (by simp), at_grown bb hg (by simp), gb_trans g hg (.inl rfl)⟩)
          have Nz4 := hid (show Zc (w1003.heap.size) (w1003.alloc (.cells #[.int .u32 0, .int .i64 0, .int .i64 0, .slice none 0 0] 25)) from (by have h : Zc (w1003).heap.size (w1003.alloc (.cells #[.int .u32 0, .int .i64 0, .int .i64 0, .slice none 0 0] 25)) := ⟨⟨_, _, _, _, at_new (w1003) (.cells #[.int .u32 0, .int .i64 0, .int .i64 0, .slice none 0 0] 25)⟩⟩; rw [(show (w1003).heap.size = w1003.heap.size from rfl)] at h; exact h))
          have Nl4 := hid (show w.heap.size + 1 < w1003.heap.size from (by rw [← (show (w1003).heap.size = w1003.heap.size from rfl)]; exact at_lt bb))
          have Nne := hid (show w0.heap.size ≠ w1003.heap.size from (Nat.ne_of_lt (by rw [← (show (w1003).heap.size = w1003.heap.size from rfl)]; exact z5.lt)))
          clear hHeld hg l5 z5 ba bb g
          try simp only [List.getElem_toArray, List.getElem_cons_succ, List.getElem_cons_zero]
          go_simp
          refine hK.out _ _ ?_ (fun hHeld => ?_)
          · exact L4.out
          clear hK K
          try dsimp only at hHeld
          try simp only [Act.put, List.setIfInBounds_toArray, List.set_cons_zero, List.set_cons_succ, List.getElem_toArray, List.getElem_cons_succ, List.getElem_cons_zero]
          refine held_stronger (S' := fun w' => (fun w' => Zc (w1003.heap.size) w') w' ∧ ((fun w' => (w.heap.size + 1 < w0.heap.size) ∧ (Zc (w0.heap.size) w') ∧ (w'.heap[w.heap.size]? = some BA) ∧ (w'.heap[w.heap.size + 1]? = some BB) ∧ (w.grownBy w' none))) w') (fun _ h => h.2) _ _ _ _ ?_
          replace hHeld := And.intro Nz4.out hHeld
          try dsimp only at hHeld
          refine held_stronger (S' := fun w' => (fun w' => w.heap.size + 1 < w1003.heap.size) w' ∧ ((fun w' => (Zc (w1003.heap.size) w') ∧ (w.heap.size + 1 < w0.heap.size) ∧ (Zc (w0.heap.size) w') ∧ (w'.heap[w.heap.size]? = some BA) ∧ (w'.heap[w.heap.size + 1]? = some BB) ∧ (w.grownBy w' none))) w') (fun _ h => h.2) _ _ _ _ ?_
          replace hHeld := And.intro Nl4.out hHeld
          try dsimp only at hHeld
          refine held_stronger (S' := fun w' => (fun w' => w0.heap.size ≠ w1003.heap.size) w' ∧ ((fun w' => (w.heap.size + 1 < w1003.heap.size) ∧ (Zc (w1003.heap.size) w') ∧ (w.heap.size + 1 < w0.heap.size) ∧ (Zc (w0.heap.size) w') ∧ (w'.heap[w.heap.size]? = some BA) ∧ (w'.heap[w.heap.size + 1]? = some BB) ∧ (w.grownBy w' none))) w') (fun _ h => h.2) _ _ _ _ ?_
          replace hHeld := And.intro Nne.out hHeld
          try dsimp only at hHeld
          refine wpAnyH_ready (rs := [6]) (by kernel_rfl) (by simp) ?_
          refine AllReadyH.cons (o := _) rfl (fun K hK => ?_) AllReadyH.nil
          have hH2 := hHeld
          obtain ⟨ne, l4, z4, l5, z5, ba, bb, g⟩ := hH2
          obtain ⟨_, _, _, _, hz⟩ := z4.ex
          have L6 := hid (show (w0.heap.size ≠ w1003.heap.size) ∧ (w.heap.size + 1 < w1003.heap.size) ∧ (Zc (w1003.heap.size) (((w1003.alloc (.cells #[.int .u32 0, .int .i64 0, .int .i64 0, .slice none 0 0] 25))).setRow (w1003.heap.size) (clV c (.slice ad c.data.length cp)))) ∧ (w.heap.size + 1 < w0.heap.size) ∧ (Zc (w0.heap.size) (((w1003.alloc (.cells #[.int .u32 0, .int .i64 0, .int .i64 0, .slice none 0 0] 25))).setRow (w1003.heap.size) (clV c (.slice ad c.data.length cp)))) ∧ ((((w1003.alloc (.cells #[.int .u32 0, .int .i64 0, .int .i64 0, .slice none 0 0] 25))).setRow (w1003.heap.size) (clV c (.slice ad c.data.length cp))).heap[w.heap.size]? = some BA) ∧ ((((w1003.alloc (.cells #[.int .u32 0, .int .i64 0, .int .i64 0, .slice none 0 0] 25))).setRow (w1003.heap.size) (clV c (.slice ad c.data.length cp))).heap[w.heap.size + 1]? = some BB) ∧ (w.grownBy (((w1003.alloc (.cells #[.int .u32 0, .int .i64 0, .int .i64 0, .slice none 0 0] 25))).setRow (w1003.heap.size) (clV c (.slice ad c.data.length cp))) none) from ⟨ne, l4, (z4.row _ _ _ _ _), l5, (z5.row _ _ _ _ _), (at_setRow_other ba (Nat.ne_of_lt (by have := l4; omega))), (at_setRow_other bb (Nat.ne_of_lt l4)), (gb_setRow g (by have := l4; omega))⟩)
          have Ny4 := hid (show (((w1003.alloc (.cells #[.int .u32 0, .int .i64 0, .int .i64 0, .slice none 0 0] 25))).setRow (w1003.heap.size) (clV c (.slice ad c.data.length cp))).heap[w1003.heap.size]? = some (.cells (clV c (.slice ad c.data.length cp)) 25) from (at_setRow hz))
          have A6 := hid (hz)
          clear hHeld ne l4 z4 l5 z5 ba bb g
          try simp only [List.getElem_toArray, List.getElem_cons_succ, List.getElem_cons_zero]
          rw [if_pos (by rfl)]
          refine wp_store_row (cs := (clV c (.slice ad c.data.length cp))) A6.out (by kernel_rfl) (by kernel_rfl) (by kernel_rfl) rfl rfl rfl rfl ?_
          refine hK.out _ _ ?_ (fun hHeld => ?_)
          · exact L6.out
          clear hK K
          try dsimp only at hHeld
          try simp only [Act.put, List.setIfInBounds_toArray, List.set_cons_zero, List.set_cons_succ, List.getElem_toArray, List.getElem_cons_succ, List.getElem_cons_zero]
          refine held_stronger (S' := fun w' => (fun w' => w'.heap[w1003.heap.size]? = some (.cells (clV c (.slice ad c.data.length cp)) 25)) w' ∧ ((fun w' => (w0.heap.size ≠ w1003.heap.size) ∧ (w.heap.size + 1 < w1003.heap.size) ∧ (Zc (w1003.heap.size) w') ∧ (w.heap.size + 1 < w0.heap.size) ∧ (Zc (w0.heap.size) w') ∧ (w'.heap[w.heap.size]? = some BA) ∧ (w'.heap[w.heap.size + 1]? = some BB) ∧ (w.grownBy w' none))) w') (fun _ h => h.2) _ _ _ _ ?_
          replace hHeld := And.intro Ny4.out hHeld
          try dsimp only at hHeld
          refine wpAnyH_ready (rs := [7]) (by kernel_rfl) (by simp) ?_
          refine AllReadyH.cons (o := _) rfl (fun K hK => ?_) AllReadyH.nil
          have hH2 := hHeld
          obtain ⟨y4, ne, l4, z4, l5, z5, ba, bb, g⟩ := hH2
          obtain ⟨_, _, _, _, hz⟩ := z5.ex
          have L7 := hid (show (((((w1003.alloc (.cells #[.int .u32 0, .int .i64 0, .int .i64 0, .slice none 0 0] 25))).setRow (w1003.heap.size) (clV c (.slice ad c.data.length cp))).setRow (w0.heap.size) (clV d (.slice ae d.data.length cq))).heap[w1003.heap.size]? = some (.cells (clV c (.slice ad c.data.length cp)) 25)) ∧ (w0.heap.size ≠ w1003.heap.size) ∧ (w.heap.size + 1 < w1003.heap.size) ∧ (Zc (w1003.heap.size) ((((w1003.alloc (.cells #[.int .u32 0, .int .i64 0, .int .i64 0, .slice none 0 0] 25))).setRow (w1003.heap.size) (clV c (.slice ad c.data.length cp))).setRow (w0.heap.size) (clV d (.slice ae d.data.length cq)))) ∧ (w.heap.size + 1 < w0.heap.size) ∧ (Zc (w0.heap.size) ((((w1003.alloc (.cells #[.int .u32 0, .int .i64 0, .int .i64 0, .slice none 0 0] 25))).setRow (w1003.heap.size) (clV c (.slice ad c.data.length cp))).setRow (w0.heap.size) (clV d (.slice ae d.data.length cq)))) ∧ (((((w1003.alloc (.cells #[.int .u32 0, .int .i64 0, .int .i64 0, .slice none 0 0] 25))).setRow (w1003.heap.size) (clV c (.slice ad c.data.length cp))).setRow (w0.heap.size) (clV d (.slice ae d.data.length cq))).heap[w.heap.size]? = some BA) ∧ (((((w1003.alloc (.cells #[.int .u32 0, .int .i64 0, .int .i64 0, .slice none 0 0] 25))).setRow (w1003.heap.size) (clV c (.slice ad c.data.length cp))).setRow (w0.heap.size) (clV d (.slice ae d.data.length cq))).heap[w.heap.size + 1]? = some BB) ∧ (w.grownBy ((((w1003.alloc (.cells #[.int .u32 0, .int .i64 0, .int .i64 0, .slice none 0 0] 25))).setRow (w1003.heap.size) (clV c (.slice ad c.data.length cp))).setRow (w0.heap.size) (clV d (.slice ae d.data.length cq))) none) from ⟨(at_setRow_other y4 (by have := ne; omega)), ne, l4, (z4.row _ _ _ _ _), l5, (z5.row _ _ _ _ _), (at_setRow_other ba (Nat.ne_of_lt (by have := l5; omega))), (at_setRow_other bb (Nat.ne_of_lt l5)), (gb_setRow g (by have := l5; omega))⟩)
          have Ny5 := hid (show ((((w1003.alloc (.cells #[.int .u32 0, .int .i64 0, .int .i64 0, .slice none 0 0] 25))).setRow (w1003.heap.size) (clV c (.slice ad c.data.length cp))).setRow (w0.heap.size) (clV d (.slice ae d.data.length cq))).heap[w0.heap.size]? = some (.cells (clV d (.slice ae d.data.length cq)) 25) from (at_setRow hz))
          have A7 := hid (hz)
          clear hHeld y4 ne l4 z4 l5 z5 ba bb g
          try simp only [List.getElem_toArray, List.getElem_cons_succ, List.getElem_cons_zero]
          rw [if_pos (by rfl)]
          refine wp_store_row (cs := (clV d (.slice ae d.data.length cq))) A7.out (by kernel_rfl) (by kernel_rfl) (by kernel_rfl) rfl rfl rfl rfl ?_
          refine hK.out _ _ ?_ (fun hHeld => ?_)
          · exact L7.out
          clear hK K
          try dsimp only at hHeld
          try simp only [Act.put, List.setIfInBounds_toArray, List.set_cons_zero, List.set_cons_succ, List.getElem_toArray, List.getElem_cons_succ, List.getElem_cons_zero]
          refine held_stronger (S' := fun w' => (fun w' => w'.heap[w0.heap.size]? = some (.cells (clV d (.slice ae d.data.length cq)) 25)) w' ∧ ((fun w' => (w'.heap[w1003.heap.size]? = some (.cells (clV c (.slice ad c.data.length cp)) 25)) ∧ (w0.heap.size ≠ w1003.heap.size) ∧ (w.heap.size + 1 < w1003.heap.size) ∧ (Zc (w1003.heap.size) w') ∧ (w.heap.size + 1 < w0.heap.size) ∧ (Zc (w0.heap.size) w') ∧ (w'.heap[w.heap.size]? = some BA) ∧ (w'.heap[w.heap.size + 1]? = some BB) ∧ (w.grownBy w' none))) w') (fun _ h => h.2) _ _ _ _ ?_
          replace hHeld := And.intro Ny5.out hHeld
          try dsimp only at hHeld
          refine wpAnyH_done (by kernel_rfl) ?_ _
          obtain ⟨y5, y4, ne, l4, z4, l5, z5, ba, bb, g⟩ := hHeld
          have K := hid (kp_two g y4 y5 HV1.out HV2.out); clear y5 y4 ne l4 z4 l5 z5 ba bb g
          go_wp2_with fail
          go_meet
          exact ⟨_, _, rfl, rfl, K.out⟩
        · have hH2 := hHeld
          obtain ⟨l5, z5, ba, bb, g⟩ := hH2
          have hg : (w1001).grownBy (w1001.alloc (.cells #[.int .u32 0, .int .i64 0, .int .i64 0, .slice none 0 0] 25)) none := World.grownBy_alloc (w1001) _ _
          have L4 := hid (show (w.heap.size + 1 < w0.heap.size) ∧ (Zc (w0.heap.size) (w1001.alloc (.cells #[.int .u32 0, .int .i64 0, .int .i64 0, .slice none 0 0] 25))) ∧ ((w1001.alloc (.cells #[.int .u32 0, .int .i64 0, .int .i64 0, .slice none 0 0] 25)).heap[w.heap.size]? = some BA) ∧ ((w1001.alloc (.cells #[.int .u32 0, .int .i64 0, .int .i64 0, .slice none 0 0] 25)).heap[w.heap.size + 1]? = some BB) ∧ (w.grownBy (w1001.alloc (.cells #[.int .u32 0, .int .i64 0, .int .i64 0, .slice none 0 0] 25)) none) from ⟨l5, z5.grown hg, at_grown ba hg (by simp), at_grown bb hg (by simp), gb_trans g hg (.inl rfl)⟩)
          have Nz4 := hid (show Zc (w1001.heap.size) (w1001.alloc (.cells #[.int .u32 0, .int .i64 0, .int .i64 0, .slice none 0 0] 25)) from (by have h : Zc (w1001).heap.size (w1001.alloc (.cells #[.int .u32 0, .int .i64 0, .int .i64 0, .slice none 0 0] 25)) := ⟨⟨_, _, _, _, at_new (w1001) (.cells #[.int .u32 0, .int .i64 0, .int .i64 0, .slice none 0 0] 25)⟩⟩; rw [(show (w1001).heap.size = w1001.heap.size from rfl)] at h; exact h))
          have Nl4 := hid (show w.heap.size + 1 < w1001.heap.size from (by rw [← (show (w1001).heap.size = w1001.heap.size from rfl)]; exact at_lt bb))
          have Nne := hid (show w0.heap.size ≠ w1001.heap.size from (Nat.ne_of_lt (by rw [← (show (w1001).heap.size = w1001.heap.size from rfl)]; exact z5.lt)))
          clear hHeld hg l5 z5 ba bb g
          try simp only [List.getElem_toArray, List.getElem_cons_succ, List.getElem_cons_zero]
          go_simp
          refine hK.out _ _ ?_ (fun hHeld => ?_)
          · exact L4.out
          clear hK K
          try dsimp only at hHeld
          try simp only [Act.put, List.setIfInBounds_toArray, List.set_cons_zero, List.set_cons_succ, List.getElem_toArray, List.getElem_cons_succ, List.getElem_cons_zero]
          refine held_stronger (S' := fun w' => (fun w' => Zc (w1001.heap.size) w') w' ∧ ((fun w' => (w.heap.size + 1 < w0.heap.size) ∧ (Zc (w0.heap.size) w') ∧ (w'.heap[w.heap.size]? = some BA) ∧ (w'.heap[w.heap.size + 1]? = some BB) ∧ (w.grownBy w' none))) w') (fun _ h => h.2) _ _ _ _ ?_
          replace hHeld := And.intro Nz4.out hHeld
          try dsimp only at hHeld
          refine held_stronger (S' := fun w' => (fun w' => w.heap.size + 1 < w1001.heap.size) w' ∧ ((fun w' => (Zc (w1001.heap.size) w') ∧ (w.heap.size + 1 < w0.heap.size) ∧ (Zc (w0.heap.size) w') ∧ (w'.heap[w.heap.size]? = some BA) ∧ (w'.heap[w.heap.size + 1]? = some BB) ∧ (w.grownBy w' none))) w') (fun _ h => h.2) _ _ _ _ ?_
          replace hHeld := And.intro Nl4.out hHeld
          try dsimp only at hHeld
          refine held_stronger (S' := fun w' => (fun w' => w0.heap.size ≠ w1001.heap.size) w' ∧ ((fun w' => (w.heap.size + 1 < w1001.heap.size) ∧ (Zc (w1001.heap.size) w') ∧ (w.heap.size + 1 < w0.heap.size) ∧ (Zc (w0.heap.size) w') ∧ (w'.heap[w.heap.size]? = some BA) ∧ (w'.heap[w.heap.size + 1]? = some BB) ∧ (w.grownBy w' none))) w') (fun _ h => h.2) _ _ _ _ ?_
          replace hHeld := And.intro Nne.out hHeld
          try dsimp only at hHeld
          refine wpAnyH_ready (rs := [3]) (by kernel_rfl) (by simp) ?_
          refine AllReadyH.cons (o := _) rfl (fun K hK => ?_) AllReadyH.nil
          try simp only [List.getElem_toArray, List.getElem_cons_succ, List.getElem_cons_zero]
          go_simp
          have hH2 := hHeld
          obtain ⟨ne, l4, z4, l5, z5, ba, bb, g⟩ := hH2
          refine (F2.out _).mono ?_
          rintro e w1003 ⟨rfl, hg⟩
          have L3 := hid (show (w0.heap.size ≠ w1001.heap.size) ∧ (w.heap.size + 1 < w1001.heap.size) ∧ (Zc (w1001.heap.size) w1003) ∧ (w.heap.size + 1 < w0.heap.size) ∧ (Zc (w0.heap.size) w1003) ∧ (w1003.heap[w.heap.size]? = some BA) ∧ (w1003.heap[w.heap.size + 1]? = some BB) ∧ (w.grownBy w1003 none) from ⟨ne, l4, z4.grown hg, l5, z5.grown hg, at_grown ba hg (by simp), at_grown bb hg (by simp), gb_trans g hg (.inl rfl)⟩)
          clear hHeld hg ne l4 z4 l5 z5 ba bb g
          go_wp2_with fail
          refine hK.out _ _ ?_ (fun hHeld => ?_)
          · exact L3.out
          clear hK K
          try dsimp only at hHeld
          try simp only [Act.put, List.setIfInBounds_toArray, List.set_cons_zero, List.set_cons_succ, List.getElem_toArray, List.getElem_cons_succ, List.getElem_cons_zero]
          refine wpAnyH_ready (rs := [6]) (by kernel_rfl) (by simp) ?_
          refine AllReadyH.cons (o := _) rfl (fun K hK => ?_) AllReadyH.nil
          have hH2 := hHeld
          obtain ⟨ne, l4, z4, l5, z5, ba, bb, g⟩ := hH2
          obtain ⟨_, _, _, _, hz⟩ := z4.ex
          have L6 := hid (show (w0.heap.size ≠ w1001.heap.size) ∧ (w.heap.size + 1 < w1001.heap.size) ∧ (Zc (w1001.heap.size) ((w1003).setRow (w1001.heap.size) (clV c (.slice ad c.data.length cp)))) ∧ (w.heap.size + 1 < w0.heap.size) ∧ (Zc (w0.heap.size) ((w1003).setRow (w1001.heap.size) (clV c (.slice ad c.data.length cp)))) ∧ (((w1003).setRow (w1001.heap.size) (clV c (.slice ad c.data.length cp))).heap[w.heap.size]? = some BA) ∧ (((w1003).setRow (w1001.heap.size) (clV c (.slice ad c.data.length cp))).heap[w.heap.size + 1]? = some BB) ∧ (w.grownBy ((w1003).setRow (w1001.heap.size) (clV c (.slice ad c.data.length cp))) none) from ⟨ne, l4, (z4.row _ _ _ _ _), l5, (z5.row _ _ _ _ _), (at_setRow_other ba (Nat.ne_of_lt (by have := l4; omega))), (at_setRow_other bb (Nat.ne_of_lt l4)), (gb_setRow g (by have := l4; omega))⟩)
          have Ny4 := hid (show ((w1003).setRow (w1001.heap.size) (clV c (.slice ad c.data.length cp))).heap[w1001.heap.size]? = some (.cells (clV c (.slice ad c.data.length cp)) 25) from (at_setRow hz))
          have A6 := hid (hz)
          clear hHeld ne l4 z4 l5 z5 ba bb g
          try simp only [List.getElem_toArray, List.getElem_cons_succ, List.getElem_cons_zero]
          rw [if_pos (by rfl)]
          refine wp_store_row (cs := (clV c (.slice ad c.data.length cp))) A6.out (by kernel_rfl) (by kernel_rfl) (by kernel_rfl) rfl rfl rfl rfl ?_
          refine hK.out _ _ ?_ (fun hHeld => ?_)
          · exact L6.out
          clear hK K
          try dsimp only at hHeld
          try simp only [Act.put, List.setIfInBounds_toArray, List.set_cons_zero, List.set_cons_succ, List.getElem_toArray, List.getElem_cons_succ, List.getElem_cons_zero]
          refine held_stronger (S' := fun w' => (fun w' => w'.heap[w1001.heap.size]? = some (.cells (clV c (.slice ad c.data.length cp)) 25)) w' ∧ ((fun w' => (w0.heap.size ≠ w1001.heap.size) ∧ (w.heap.size + 1 < w1001.heap.size) ∧ (Zc (w1001.heap.size) w') ∧ (w.heap.size + 1 < w0.heap.size) ∧ (Zc (w0.heap.size) w') ∧ (w'.heap[w.heap.size]? = some BA) ∧ (w'.heap[w.heap.size + 1]? = some BB) ∧ (w.grownBy w' none))) w') (fun _ h => h.2) _ _ _ _ ?_
          replace hHeld := And.intro Ny4.out hHeld
          try dsimp only at hHeld
          refine wpAnyH_ready (rs := [7]) (by kernel_rfl) (by simp) ?_
          refine AllReadyH.cons (o := _) rfl (fun K hK => ?_) AllReadyH.nil
          have hH2 := hHeld
          obtain ⟨y4, ne, l4, z4, l5, z5, ba, bb, g⟩ := hH2
          obtain ⟨_, _, _, _, hz⟩ := z5.ex
          have L7 := hid (show ((((w1003).setRow (w1001.heap.size) (clV c (.slice ad c.data.length cp))).setRow (w0.heap.size) (clV d (.slice ae d.data.length cq))).heap[w1001.heap.size]? = some (.cells (clV c (.slice ad c.data.length cp)) 25)) ∧ (w0.heap.size ≠ w1001.heap.size) ∧ (w.heap.size + 1 < w1001.heap.size) ∧ (Zc (w1001.heap.size) (((w1003).setRow (w1001.heap.size) (clV c (.slice ad c.data.length cp))).setRow (w0.heap.size) (clV d (.slice ae d.data.length cq)))) ∧ (w.heap.size + 1 < w0.heap.size) ∧ (Zc (w0.heap.size) (((w1003).setRow (w1001.heap.size) (clV c (.slice ad c.data.length cp))).setRow (w0.heap.size) (clV d (.slice ae d.data.length cq)))) ∧ ((((w1003).setRow (w1001.heap.size) (clV c (.slice ad c.data.length cp))).setRow (w0.heap.size) (clV d (.slice ae d.data.length cq))).heap[w.heap.size]? = some BA) ∧ ((((w1003).setRow (w1001.heap.size) (clV c (.slice ad c.data.length cp))).setRow (w0.heap.size) (clV d (.slice ae d.data.length cq))).heap[w.heap.size + 1]? = some BB) ∧ (w.grownBy (((w1003).setRow (w1001.heap.size) (clV c (.slice ad c.data.length cp))).setRow (w0.heap.size) (clV d (.slice ae d.data.length cq))) none) from ⟨(at_setRow_other y4 (by have := ne; omega)), ne, l4, (z4.row _ _ _ _ _), l5, (z5.row _ _ _ _ _), (at_setRow_other ba (Nat.ne_of_lt (by have := l5; omega))), (at_setRow_other bb (Nat.ne_of_lt l5)), (gb_setRow g (by have := l5; omega))⟩)
          have Ny5 := hid (show (((w1003).setRow (w1001.heap.size) (clV c (.slice ad c.data.length cp))).setRow (w0.heap.size) (clV d (.slice ae d.data.length cq))).heap[w0.heap.size]? = some (.cells (clV d (.slice ae d.data.length cq)) 25) from (at_setRow hz))
          have A7 := hid (hz)
          clear hHeld y4 ne l4 z4 l5 z5 ba bb g
          try simp only [List.getElem_toArray, List.getElem_cons_succ, List.getElem_cons_zero]
          rw [if_pos (by rfl)]
          refine wp_store_row (cs := (clV d (.slice ae d.data.length cq))) A7.out (by kernel_rfl) (by kernel_rfl) (by kernel_rfl) rfl rfl rfl rfl ?_
          refine hK.out _ _ ?_ (fun hHeld => ?_)
          · exact L7.out
          clear hK K
          try dsimp only at hHeld
          try simp only [Act.put, List.setIfInBounds_toArray, List.set_cons_zero, List.set_cons_succ, List.getElem_toArray, List.getElem_cons_succ, List.getElem_cons_zero]
          refine held_stronger (S' := fun w' => (fun w' => w'.heap[w0.heap.size]? = some (.cells (clV d (.slice ae d.data.length cq)) 25)) w' ∧ ((fun w' => (w'.heap[w1001.heap.size]? = some (.cells (clV c (.slice ad c.data.length cp)) 25)) ∧ (w0.heap.size ≠ w1001.heap.size) ∧ (w.heap.size + 1 < w1001.heap.size) ∧ (Zc (w1001.heap.size) w') ∧ (w.heap.size + 1 < w0.heap.size) ∧ (Zc (w0.heap.size) w') ∧ (w'.heap[w.heap.size]? = some BA) ∧ (w'.heap[w.heap.size + 1]? = some BB) ∧ (w.grownBy w' none))) w') (fun _ h => h.2) _ _ _ _ ?_
          replace hHeld := And.intro Ny5.out hHeld
          try dsimp only at hHeld
          refine wpAnyH_done (by kernel_rfl) ?_ _
          obtain ⟨y5, y4, ne, l4, z4, l5, z5, ba, bb, g⟩ := hHeld
          have K := hid (kp_two g y4 y5 HV1.out HV2.out); clear y5 y4 ne l4 z4 l5 z5 ba bb g
          go_wp2_with fail
          go_meet
          exact ⟨_, _, rfl, rfl, K.out⟩
      · have hH2 := hHeld
        obtain ⟨l5, z5, ba, bb, g⟩ := hH2
        have hg : (((w0.alloc (.cells #[.int .u32 0, .int .i64 0, .int .i64 0, .slice none 0 0] 25)).drew)).grownBy (((w0.alloc (.cells #[.int .u32 0, .int .i64 0, .int .i64 0, .slice none 0 0] 25)).drew).alloc (.cells #[.int .u32 0, .int .i64 0, .int .i64 0, .slice none 0 0] 25)) none := World.grownBy_alloc (((w0.alloc (.cells #[.int .u32 0, .int .i64 0, .int .i64 0, .slice none 0 0] 25)).drew)) _ _
        have L4 := hid (show (w.heap.size + 1 < w0.heap.size) ∧ (Zc (w0.heap.size) (((w0.alloc (.cells #[.int .u32 0, .int .i64 0, .int .i64 0, .slice none 0 0] 25)).drew).alloc (.cells #[.int .u32 0, .int .i64 0, .int .i64 0, .slice none 0 0] 25))) ∧ ((((w0.alloc (.cells #[.int .u32 0, .int .i64 0, .int .i64 0, .slice none 0 0] 25)).drew).alloc (.cells #[.int .u32 0, .int .i64 0, .int .i64 0, .slice none 0 0] 25)).heap[w.heap.size]? = some BA) ∧ ((((w0.alloc (.cells #[.int .u32 0, .int .i64 0, .int .i64 0, .slice none 0 0] 25)).drew).alloc (.cells #[.int .u32 0, .int .i64 0, .int .i64 0, .slice none 0 0] 25)).heap[w.heap.size + 1]? = some BB) ∧ (w.grownBy (((w0.alloc (.cells #[.int .u32 0, .int .i64 0, .int .i64 0, .slice none 0 0] 25)).drew).alloc (.cells #[.int .u32 0, .int .i64 0, .int .i64 0, .slice none 0 0] 25)) none) from ⟨l5, z5.grown hg, at_grown ba hg (by simp), at_grown bb hg (by simp), gb_trans g hg (.inl rfl)⟩)
        have Nz4 := hid (show Zc (w0.heap.size + 1) (((w0.alloc (.cells #[.int .u32 0, .int .i64 0, .int .i64 0, .slice none 0 0] 25)).drew).alloc (.cells #[.int .u32 0, .int .i64 0, .int .i64 0, .slice none 0 0] 25)) from (by have h : Zc (((w0.alloc (.cells #[.int .u32 0, .int .i64 0, .int .i64 0, .slice none 0 0] 25)).drew)).heap.size (((w0.alloc (.cells #[.int .u32 0, .int .i64 0, .int .i64 0, .slice none 0 0] 25)).drew).alloc (.cells #[.int .u32 0, .int .i64 0, .int .i64 0, .slice none 0 0] 25)) := ⟨⟨_, _, _, _, at_new (((w0.alloc (.cells #[.int .u32 0, .int .i64 0, .int .i64 0, .slice none 0 0] 25)).drew)) (.cells #[.int .u32 0, .int .i64 0, .int .i64 0, .slice none 0 0] 25)⟩⟩; rw [(show (((w0.alloc (.cells #[.int .u32 0, .int .i64 0, .int .i64 0, .slice none 0 0] 25)).drew)).heap.size = w0.heap.size + 1 from alloc_size _ _)] at h; exact h))
        have Nl4 := hid (show w.heap.size + 1 < w0.heap.size + 1 from (by rw [← (show (((w0.alloc (.cells #[.int .u32 0, .int .i64 0, .int .i64 0, .slice none 0 0] 25)).drew)).heap.size = w0.heap.size + 1 from alloc_size _ _)]; exact at_lt bb))
        have Nne := hid (show w0.heap.size ≠ w0.heap.size + 1 from (Nat.ne_of_lt (by rw [← (show (((w0.alloc (.cells #[.int .u32 0, .int .i64 0, .int .i64 0, .slice none 0 0] 25)).drew)).heap.size = w0.heap.size + 1 from alloc_size _ _)]; exact z5.lt)))
        clear hHeld hg l5 z5 ba bb g
        try simp only [List.getElem_toArray, List.getElem_cons_succ, List.getElem_cons_zero]
        go_simp
        refine hK.out _ _ ?_ (fun hHeld => ?_)
        · exact L4.out
        clear hK K
        try dsimp only at hHeld
        try simp only [Act.put, List.setIfInBounds_toArray, List.set_cons_zero, List.set_cons_succ, List.getElem_toArray, List.getElem_cons_succ, List.getElem_cons_zero]
        refine held_stronger (S' := fun w' => (fun w' => Zc (w0.heap.size + 1) w') w' ∧ ((fun w' => (w.heap.size + 1 < w0.heap.size) ∧ (Zc (w0.heap.size) w') ∧ (w'.heap[w.heap.size]? = some BA) ∧ (w'.heap[w.heap.size + 1]? = some BB) ∧ (w.grownBy w' none))) w') (fun _ h => h.2) _ _ _ _ ?_
        replace hHeld := And.intro Nz4.out hHeld
        try dsimp only at hHeld
        refine held_stronger (S' := fun w' => (fun w' => w.heap.size + 1 < w0.heap.size + 1) w' ∧ ((fun w' => (Zc (w0.heap.size + 1) w') ∧ (w.heap.size + 1 < w0.heap.size) ∧ (Zc (w0.heap.size) w') ∧ (w'.heap[w.heap.size]? = some BA) ∧ (w'.heap[w.heap.size + 1]? = some BB) ∧ (w.grownBy w' none))) w') (fun _ h => h.2) _ _ _ _ ?_
        replace hHeld := And.intro Nl4.out hHeld
        try dsimp only at hHeld
        refine held_stronger (S' := fun w' => (fun w' => w0.heap.size ≠ w0.heap.size + 1) w' ∧ ((fun w' => (w.heap.size + 1 < w0.heap.size + 1) ∧ (Zc (w0.heap.size + 1) w') ∧ (w.heap.size + 1 < w0.heap.size) ∧ (Zc (w0.heap.size) w') ∧ (w'.heap[w.heap.size]? = some BA) ∧ (w'.heap[w.heap.size + 1]? = some BB) ∧ (w.grownBy w' none))) w') (fun _ h => h.2) _ _ _ _ ?_
        replace hHeld := And.intro Nne.out hHeld
        try dsimp only at hHeld
        refine wpAnyH_ready (rs := [1]) (by kernel_rfl) (by simp) ?_
        refine AllReadyH.cons (o := _) rfl (fun K hK => ?_) AllReadyH.nil
        try simp only [List.getElem_toArray, List.getElem_cons_succ, List.getElem_cons_zero]
        go_simp
        have hH2 := hHeld
        obtain ⟨ne, l4, z4, l5, z5, ba, bb, g⟩ := hH2
        refine (F1.out _).mono ?_
        rintro e w1001 ⟨rfl, hg⟩
        have L1 := hid (show (w0.heap.size ≠ w0.heap.size + 1) ∧ (w.heap.size + 1 < w0.heap.size + 1) ∧ (Zc (w0.heap.size + 1) w1001) ∧ (w.heap.size + 1 < w0.heap.size) ∧ (Zc (w0.heap.size) w1001) ∧ (w1001.heap[w.heap.size]? = some BA) ∧ (w1001.heap[w.heap.size + 1]? = some BB) ∧ (w.grownBy w1001 none) from ⟨ne, l4, z4.grown hg, l5, z5.grown hg, at_grown ba hg (by simp), at_grown bb hg (by simp), gb_trans g hg (.inl rfl)⟩)
        clear hHeld hg ne l4 z4 l5 z5 ba bb g
        go_wp2_with fail
        refine hK.out _ _ ?_ (fun hHeld => ?_)
        · exact L1.out
        clear hK K
        try dsimp only at hHeld
        try simp only [Act.put, List.setIfInBounds_toArray, List.set_cons_zero, List.set_cons_succ, List.getElem_toArray, List.getElem_cons_succ, List.getElem_cons_zero]
        refine wpAnyH_ready (rs := [3]) (by kernel_rfl) (by simp) ?_
        refine AllReadyH.cons (o := _) rfl (fun K hK => ?_) AllReadyH.nil
        try simp only [List.getElem_toArray, List.getElem_cons_succ, List.getElem_cons_zero]
        go_simp
        have hH2 := hHeld
        obtain ⟨ne, l4, z4, l5, z5, ba, bb, g⟩ := hH2
        refine (F2.out _).mono ?_
        rintro e w1003 ⟨rfl, hg⟩
        have L3 := hid (show (w0.heap.size ≠ w0.heap.size + 1) ∧ (w.heap.size + 1 < w0.heap.size + 1) ∧ (Zc (w0.heap.size + 1) w1003) ∧ (w.heap.size + 1 < w0.heap.size) ∧ (Zc (w0.heap.size) w1003) ∧ (w1003.heap[w.heap.size]? = some BA) ∧ (w1003.heap[w.heap.size + 1]? = some BB) ∧ (w.grownBy w1003 none) from ⟨ne, l4, z4.grown hg, l5, z5.grown hg, at_grown ba hg (by simp), at_grown bb hg (by simp), gb_trans g hg (.inl rfl)⟩)
        clear hHeld hg ne l4 z4 l5 z5 ba bb g
        go_wp2_with fail
        refine hK.out _ _ ?_ (fun hHeld => ?_)
        · exact L3.out
        clear hK K
        try dsimp only at hHeld
        try simp only [Act.put, List.setIfInBounds_toArray, List.set_cons_zero, List.set_cons_succ, List.getElem_toArray, List.getElem_cons_succ, List.getElem_cons_zero]
        refine wpAnyH_ready (rs := [6]) (by kernel_rfl) (by simp) ?_
        refine AllReadyH.cons (o := _) rfl (fun K hK => ?_) AllReadyH.nil
        have hH2 := hHeld
        obtain ⟨ne, l4, z4, l5, z5, ba, bb, g⟩ := hH2
        obtain ⟨_, _, _, _, hz⟩ := z4.ex
        have L6 := hid (show (w0.heap.size ≠ w0.heap.size + 1) ∧ (w.heap.size + 1 < w0.heap.size + 1) ∧ (Zc (w0.heap.size + 1) ((w1003).setRow (w0.heap.size + 1) (clV c (.slice ad c.data.length cp)))) ∧ (w.heap.size + 1 < w0.heap.size) ∧ (Zc (w0.heap.size) ((w1003).setRow (w0.heap.size + 1) (clV c (.slice ad c.data.length cp)))) ∧ (((w1003).setRow (w0.heap.size + 1) (clV c (.slice ad c.data.length cp))).heap[w.heap.size]? = some BA) ∧ (((w1003).setRow (w0.heap.size + 1) (clV c (.slice ad c.data.length cp))).heap[w.heap.size + 1]? = some BB) ∧ (w.grownBy ((w1003).setRow (w0.heap.size + 1) (clV c (.slice ad c.data.length cp))) none) from ⟨ne, l4, (z4.row _ _ _ _ _), l5, (z5.row _ _ _ _ _), (at_setRow_other ba (Nat.ne_of_lt (by have := l4; omega))), (at_setRow_other bb (Nat.ne_of_lt l4)), (gb_setRow g (by have := l4; omega))⟩)
        have Ny4 := hid (show ((w1003).setRow (w0.heap.size + 1) (clV c (.slice ad c.data.length cp))).heap[w0.heap.size + 1]? = some (.cells (clV c (.slice ad c.data.length cp)) 25) from (at_setRow hz))
        have A6 := hid (hz)
        clear hHeld ne l4 z4 l5 z5 ba bb g
        try simp only [List.getElem_toArray, List.getElem_cons_succ, List.getElem_cons_zero]
        rw [if_pos (by rfl)]
        refine wp_store_row (cs := (clV c (.slice ad c.data.length cp))) A6.out (by kernel_rfl) (by kernel_rfl) (by kernel_rfl) rfl rfl rfl rfl ?_
        refine hK.out _ _ ?_ (fun hHeld => ?_)
        · exact L6.out
        clear hK K
        try dsimp only at hHeld
        try simp only [Act.put, List.setIfInBounds_toArray, List.set_cons_zero, List.set_cons_succ, List.getElem_toArray, List.getElem_cons_succ, List.getElem_cons_zero]
        refine held_stronger (S' := fun w' => (fun w' => w'.heap[w0.heap.size + 1]? = some (.cells (clV c (.slice ad c.data.length cp)) 25)) w' ∧ ((fun w' => (w0.heap.size ≠ w0.heap.size + 1) ∧ (w.heap.size + 1 < w0.heap.size + 1) ∧ (Zc (w0.heap.size + 1) w') ∧ (w.heap.size + 1 < w0.heap.size) ∧ (Zc (w0.heap.size) w') ∧ (w'.heap[w.heap.size]? = some BA) ∧ (w'.heap[w.heap.size + 1]? = some BB) ∧ (w.grownBy w' none))) w') (fun _ h => h.2) _ _ _ _ ?_
        replace hHeld := And.intro Ny4.out hHeld
        try dsimp only at hHeld
        refine wpAnyH_ready (rs := [7]) (by kernel_rfl) (by simp) ?_
        refine AllReadyH.cons (o := _) rfl (fun K hK => ?_) AllReadyH.nil
        have hH2 := hHeld
        obtain ⟨y4, ne, l4, z4, l5, z5, ba, bb, g⟩ := hH2
        obtain ⟨_, _, _, _, hz⟩ := z5.ex
        have L7 := hid (show ((((w1003).setRow (w0.heap.size + 1) (clV c (.slice ad c.data.length cp))).setRow (w0.heap.size) (clV d (.slice ae d.data.length cq))).heap[w0.heap.size + 1]? = some (.cells (clV c (.slice ad c.data.length cp)) 25)) ∧ (w0.heap.size ≠ w0.heap.size + 1) ∧ (w.heap.size + 1 < w0.heap.size + 1) ∧ (Zc (w0.heap.size + 1) (((w1003).setRow (w0.heap.size + 1) (clV c (.slice ad c.data.length cp))).setRow (w0.heap.size) (clV d (.slice ae d.data.length cq)))) ∧ (w.heap.size + 1 < w0.heap.size) ∧ (Zc (w0.heap.size) (((w1003).setRow (w0.heap.size + 1) (clV c (.slice ad c.data.length cp))).setRow (w0.heap.size) (clV d (.slice ae d.data.length cq)))) ∧ ((((w1003).setRow (w0.heap.size + 1) (clV c (.slice ad c.data.length cp))).setRow (w0.heap.size) (clV d (.slice ae d.data.length cq))).heap[w.heap.size]? = some BA) ∧ ((((w1003).setRow (w0.heap.size + 1) (clV c (.slice ad c.data.length cp))).setRow (w0.heap.size) (clV d (.slice ae d.data.length cq))).heap[w.heap.size + 1]? = some BB) ∧ (w.grownBy (((w1003).setRow (w0.heap.size + 1) (clV c (.slice ad c.data.length cp))).setRow (w0.heap.size) (clV d (.slice ae d.data.length cq))) none) from ⟨(at_setRow_other y4 (by have := ne; omega)), ne, l4, (z4.row _ _ _ _ _), l5, (z5.row _ _ _ _ _), (at_setRow_other ba (Nat.ne_of_lt (by have := l5; omega))), (at_setRow_other bb (Nat.ne_of_lt l5)), (gb_setRow g (by have := l5; omega))⟩)
        have Ny5 := hid (show (((w1003).setRow (w0.heap.size + 1) (clV c (.slice ad c.data.length cp))).setRow (w0.heap.size) (clV d (.slice ae d.data.length cq))).heap[w0.heap.size]? = some (.cells (clV d (.slice ae d.data.length cq)) 25) from (at_setRow hz))
        have A7 := hid (hz)
        clear hHeld y4 ne l4 z4 l5 z5 ba bb g
        try simp only [List.getElem_toArray, List.getElem_cons_succ, List.getElem_cons_zero]
        rw [if_pos (by rfl)]
        refine wp_store_row (cs := (clV d (.slice ae d.data.length cq))) A7.out (by kernel_rfl) (by kernel_rfl) (by kernel_rfl) rfl rfl rfl rfl ?_
        refine hK.out _ _ ?_ (fun hHeld => ?_)
        · exact L7.out
        clear hK K
        try dsimp only at hHeld
        try simp only [Act.put, List.setIfInBounds_toArray, List.set_cons_zero, List.set_cons_succ, List.getElem_toArray, List.getElem_cons_succ, List.getElem_cons_zero]
        refine held_stronger (S' := fun w' => (fun w' => w'.heap[w0.heap.size]? = some (.cells (clV d (.slice ae d.data.length cq)) 25)) w' ∧ ((fun w' => (w'.heap[w0.heap.size + 1]? = some (.cells (clV c (.slice ad c.data.length cp)) 25)) ∧ (w0.heap.size ≠ w0.heap.size + 1) ∧ (w.heap.size + 1 < w0.heap.size + 1) ∧ (Zc (w0.heap.size + 1) w') ∧ (w.heap.size + 1 < w0.heap.size) ∧ (Zc (w0.heap.size) w') ∧ (w'.heap[w.heap.size]? = some BA) ∧ (w'.heap[w.heap.size + 1]? = some BB) ∧ (w.grownBy w' none))) w') (fun _ h => h.2) _ _ _ _ ?_
        replace hHeld := And.intro Ny5.out hHeld
        try dsimp only at hHeld
        refine wpAnyH_done (by kernel_rfl) ?_ _
        obtain ⟨y5, y4, ne, l4, z4, l5, z5, ba, bb, g⟩ := hHeld
        have K := hid (kp_two g y4 y5 HV1.out HV2.out); clear y5 y4 ne l4 z4 l5 z5 ba bb g
        go_wp2_with fail
        go_meet
        exact ⟨_, _, rfl, rfl, K.out⟩
  case rest =>
    obtain ⟨b5, b6, rfl, rfl, hk⟩ := hcut
    have K1 := hid hk
    clear hk K0
    go_wp2_with (first | refine wpList_row_w K1.out.b0 Try.underlying25 rfl (by kernel_rfl) rfl rfl rfl rfl ?_ | refine wpList_row K1.out.b0 Try.underlying25 rfl (by kernel_rfl) rfl rfl rfl rfl ?_)
    refine (lput_as c HC.out rfl rfl rfl K1.out.y0 rfl).mono ?_
    rintro e w1 ⟨u, rfl, ho, hg⟩
    obtain ⟨g1, r1, rfl, -, -, -, -⟩ := ho.fulln (putL_len HC.out.d) (by decide)
    have K2 := hid ((K1.out.grown hg).addY ho.bytes)
    clear ho hg
    go_wp2_with (first | refine wpList_row_w K2.out.b1 Try.underlying25 rfl (by kernel_rfl) rfl rfl rfl rfl ?_ | refine wpList_row K2.out.b1 Try.underlying25 rfl (by kernel_rfl) rfl rfl rfl rfl ?_)
    refine (lput_as d HD.out rfl rfl rfl K2.out.y2 rfl).mono ?_
    rintro e w2 ⟨u, rfl, ho, hg⟩
    obtain ⟨g2, r2, rfl, -, -, -, -⟩ := ho.fulln (putL_len HD.out.d) (by decide)
    have K3 := hid ((K2.out.grown hg).addY ho.bytes)
    clear ho hg
    obtain ⟨d0, d1, d2, d3⟩ := cO_cells K3.out.b0
    obtain ⟨f0, f1, f2, f3⟩ := cO_cells K3.out.b1
    have v1 := conv_bytes K3.out.y2; have v2 := conv_bytes K3.out.y3
    have e0 := E0.out; have e1 := E1.out; have e2 := E2.out; have e3 := E3.out; have e4 := E4.out
    have CA := hid (fun W v (h : BytesAt W v (putL c)) => conv_bytes h); have CB := hid (fun W v (h : BytesAt W v (putL d)) => conv_bytes h)
    generalize (⟨c.data.toArray⟩ : ByteArray) = X at *
    generalize (⟨d.data.toArray⟩ : ByteArray) = Y at *
    generalize (⟨(putL c).toArray⟩ : ByteArray) = PX at *
    generalize (⟨(putL d).toArray⟩ : ByteArray) = PY at *
    generalize (c.pass : Int) = c0 at *
    generalize (c.place : Int) = c1 at *
    generalize (c.kind : Int) = c2 at *
    generalize (d.pass : Int) = c3 at *
    generalize (d.place : Int) = c4 at *
    generalize (d.kind : Int) = c5 at *
    generalize c.data.length = m1 at *
    generalize d.data.length = m2 at *
    cases x0 with
    | false =>
      have e5 : (PX.toList == PY.toList) = false := e4
      go_wp2_with fail
      refine (told_any _).mono ?_
      rintro e w5 ⟨rfl, hg⟩
      have K5 := hid (K3.out.grown hg)
      clear hg d0 d1 d2 d3 f0 f1 f2 f3 v1 v2
      have v1 := CA.out _ _ K5.out.y1; have v2 := CB.out _ _ K5.out.y0
      go_wp2_with fail
      go_ret
      exact ⟨rfl, K5.out.g⟩
    | true =>
      cases x1 with
      | false =>
        have e5 : (PX.toList == PY.toList) = false := e4
        go_wp2_with fail
        refine (told_any _).mono ?_
        rintro e w5 ⟨rfl, hg⟩
        have K5 := hid (K3.out.grown hg)
        clear hg d0 d1 d2 d3 f0 f1 f2 f3 v1 v2
        have v1 := CA.out _ _ K5.out.y1; have v2 := CB.out _ _ K5.out.y0
        go_wp2_with fail
        go_ret
        exact ⟨rfl, K5.out.g⟩
      | true =>
        cases x2 with
        | false =>
          have e5 : (PX.toList == PY.toList) = false := e4
          go_wp2_with fail
          refine (told_any _).mono ?_
          rintro e w5 ⟨rfl, hg⟩
          have K5 := hid (K3.out.grown hg)
          clear hg d0 d1 d2 d3 f0 f1 f2 f3 v1 v2
          have v1 := CA.out _ _ K5.out.y1; have v2 := CB.out _ _ K5.out.y0
          go_wp2_with fail
          go_ret
          exact ⟨rfl, K5.out.g⟩
        | true =>
          cases x3 with
          | false =>
            have e5 : (PX.toList == PY.toList) = false := e4
            go_wp2_with fail
            refine (told_any _).mono ?_
            rintro e w5 ⟨rfl, hg⟩
            have K5 := hid (K3.out.grown hg)
            clear hg d0 d1 d2 d3 f0 f1 f2 f3 v1 v2
            have v1 := CA.out _ _ K5.out.y1; have v2 := CB.out _ _ K5.out.y0
            go_wp2_with fail
            go_ret
            exact ⟨rfl, K5.out.g⟩
          | true =>
            have e5 : (PX.toList == PY.toList) = true := e4
            go_wp2_with fail
            refine (told_any _).mono ?_
            rintro e w5 ⟨rfl, hg⟩
            have K5 := hid (K3.out.grown hg)
            clear hg d0 d1 d2 d3 f0 f1 f2 f3 v1 v2
            have v1 := CA.out _ _ K5.out.y1; have v2 := CB.out _ _ K5.out.y0
            go_wp2_with fail
            go_ret
            exact ⟨rfl, K5.out.g⟩
theorem put_eq_iff {c d : Cl} (hc : c.May) (hd : d.May) : (putL c == putL d) = (((c.pass : Int) == (d.pass : Int)) && ((c.place : Int) == (d.place : Int)) && ((c.kind : Int) == (d.kind : Int)) && (c.data == d.data)) := by
  rw [Bool.eq_iff_iff]
  simp only [Bool.and_eq_true, beq_iff_eq]
  constructor
  · intro h
    have := put_inj hc hd h
    subst this
    exact ⟨⟨⟨rfl, rfl⟩, rfl⟩, rfl⟩
  · rintro ⟨⟨⟨h1, h2⟩, h3⟩, h4⟩
    obtain ⟨p, q, k, l⟩ := c
    obtain ⟨p', q', k', l'⟩ := d
    simp only at h1 h2 h3 h4
    have e1 : p = p' := by omega
    have e2 : q = q' := by omega
    have e3 : k = k' := by omega
    subst e1; subst e2; subst e3; subst h4; rfl
theorem walk {w : World} (p1 : Nat) (q1 k1 : Int) (u1 : Value) (l1 : List UInt8) (hb1 : BytesAt w u1 l1) (p2 : Nat) (q2 k2 : Int) (u2 : Value) (l2 : List UInt8) (hb2 : BytesAt w u2 l2) :
    Calls Try.prog 7 #[lcV p1 q1 k1 u1, lcV p2 q2 k2 u2] w fun e w' => e = .returned (.bool true) ∧ w.grownBy w' none := by
  obtain ⟨a, cp, rfl⟩ := hb1.form
  obtain ⟨b, cq, rfl⟩ := hb2.form
  exact in_walk p1 p2 q1 k1 q2 k2 a b l1.length l2.length cp cq (fitC p1 q1 k1 l1) (fitC p2 q2 k2 l2) (fit_may p1 q1 k1 l1) (fit_may p2 q2 k2 l2) _ _ _ _ rfl rfl rfl (beq_bytes _ _) ((beq_bytes _ _).trans (put_eq_iff (fit_may p1 q1 k1 l1) (fit_may p2 q2 k2 l2))) w (fit_bytes p1 q1 k1 hb1) (fit_bytes p2 q2 k2 hb2) (fun w => fit_eq p1 q1 k1 hb1 w) (fun w => fit_eq p2 q2 k2 hb2 w)
end Go.Proofs.Ytjebmlmjbnaghaa.lgcells
