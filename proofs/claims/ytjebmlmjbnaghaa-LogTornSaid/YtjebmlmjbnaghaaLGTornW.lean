/-
  The walk of the statement LogTorn: a beginning of a cell over one of another pass, or over noughts, is not whole; all of it is. No condition.
-/
import Derived.Test.YtjebmlmjbnaghaaLgN
import Derived.Deep.CutRange
set_option linter.unusedSimpArgs false
set_option linter.unusedVariables false
namespace Go.Proofs.Ytjebmlmjbnaghaa.lgtorn
set_option maxRecDepth 100000
open Go.RowKit

theorem cO_cells {W : World} {b : Nat} {c : Cl} {v : Value} (h : W.heap[b]? = some (cO c v)) : W.cell? ⟨b, 0, none⟩ = some (.int .u32 (c.pass : Int)) ∧ W.cell? ⟨b, 1, none⟩ = some (.int .i64 (c.place : Int)) ∧ W.cell? ⟨b, 2, none⟩ = some (.int .i64 (c.kind : Int)) ∧ W.cell? ⟨b, 3, none⟩ = some v :=
  ⟨at_cell h 0, at_cell h 1, at_cell h 2, at_cell h 3⟩
set_option maxHeartbeats 6400000 in
theorem in_walk (p1 p2 : Nat) (q1 k1 q2 k2 cut : Int) (zero : Bool) (ad ae : Option Addr) (n1 n2 cp cq : Nat) (c d : Cl) (hc : c.May) (hd : d.May) (k : Nat) (hk : k < 64) (hcut : (IntKind.u64.wrap cut).tmod 64 = (k : Int)) (x0 : Bool) (hp : ((c.pass : Int) == (d.pass : Int)) = x0) (hg0 : x0 = false → (gotW ((putL c).take k ++ (putL d).drop k) = false ∧ gotL ((putL c).take k ++ (putL d).drop k) = zeroC ∧ gotC ((putL c).take k ++ (putL d).drop k) = 0) ∨ (gotW ((putL c).take k ++ (putL d).drop k) = true ∧ gotL ((putL c).take k ++ (putL d).drop k) = d ∧ gotC ((putL c).take k ++ (putL d).drop k) = 0)) (hg1 : gotW ((putL c).take k ++ tz.drop k) = false ∧ gotL ((putL c).take k ++ tz.drop k) = zeroC ∧ gotC ((putL c).take k ++ tz.drop k) = 0) (w : World) (hv1 : BytesAt w (.slice ad c.data.length cp) c.data) (hv2 : BytesAt w (.slice ae d.data.length cq) d.data)
    (hF1 : ∀ w, Calls Try.prog 21 #[.agg #[.int .u32 (p1 : Int), .int .i64 q1, .int .i64 k1, .slice ad n1 cp]] w fun e w' => e = .returned (.agg (clV c (.slice ad c.data.length cp))) ∧ w.grownBy w' none)
    (hF2 : ∀ w, Calls Try.prog 21 #[.agg #[.int .u32 (p2 : Int), .int .i64 q2, .int .i64 k2, .slice ae n2 cq]] w fun e w' => e = .returned (.agg (clV d (.slice ae d.data.length cq))) ∧ w.grownBy w' none) :
    Calls Try.prog 5 #[.agg #[.int .u32 (p1 : Int), .int .i64 q1, .int .i64 k1, .slice ad n1 cp], .agg #[.int .u32 (p2 : Int), .int .i64 q2, .int .i64 k2, .slice ae n2 cq], .int .i64 cut, .bool zero] w fun e w' => e = .returned (.bool true) ∧ w.grownBy w' none := by
  have F1 := hid hF1; have F2 := hid hF2; have HV1 := hid hv1; have HV2 := hid hv2; have HC := hid hc; have HD := hid hd
  obtain ⟨BA, hA⟩ : ∃ B, B = (.cells #[.int .u32 (p1 : Int), .int .i64 q1, .int .i64 k1, .slice ad n1 cp] 25 : Obj) := ⟨_, rfl⟩
  obtain ⟨BB, hB⟩ : ∃ B, B = (.cells #[.int .u32 (p2 : Int), .int .i64 q2, .int .i64 k2, .slice ae n2 cq] 25 : Obj) := ⟨_, rfl⟩
  have K0 := hid (two_box w BA BB)
  have HA := hid hA; have HB := hid hB
  have EP := hid hp; have KC := hid hcut; have HK := hid hk; have HG0' := hid hg0; have HG1 := hid hg1; have HLA := hid (putL_len hc.d)
  clear hp hcut hk hg0 hg1
  clear hF1 hF2 hv1 hv2 hc hd hA hB
  go_enter Try.func5, Try.ntmps5
  go_upto_region 1 with fail
  rw [← HA.out, ← HB.out]
  generalize (w.alloc BA).alloc BB = w0 at *
  go_cut [9, 10] from 20 to 23 (fun v5 v6 wx => ∃ b5 b6, v5 = .pointer (some ⟨b5, 0, none⟩) ∧ v6 = .pointer (some ⟨b6, 0, none⟩) ∧ Kp w [(b5, cO c (.slice ad c.data.length cp)), (b6, cO d (.slice ae d.data.length cq))] [(.slice ad c.data.length cp, c.data), (.slice ae d.data.length cq, d.data)] wx)
  case first =>
    refine wp_region_held_drew (S := (fun w' => (w'.heap[w.heap.size]? = some BA) ∧ (w'.heap[w.heap.size + 1]? = some BB) ∧ (w.grownBy w' none))) (by kernel_rfl) ⟨K0.out.b1, K0.out.b0, gb_drew K0.out.g⟩ (fun hHeld => ?_)
    try dsimp only at hHeld
    refine' wpAnyH_take (i := 0) (v := _) rfl (by kernel_rfl) (by kernel_rfl) (by kernel_rfl) (fun _ _ _ h => h) (Or.inl ⟨by rfl, ?_⟩) hHeld ?_
    rotate_left
    · (intro w hSw; (try dsimp only at hSw); (try simp only [List.getElem_toArray, List.getElem_cons_succ, List.getElem_cons_zero]); refine exec_row (x := .tmp 4) (by obtain ⟨ba, bb, g⟩ := hSw; first | exact ba | (rw [HA.out] at ba; exact ba)) Try.underlying25 rfl (by kernel_rfl) ?_ ?_ <;> rfl)
    try simp only [Act.put, List.setIfInBounds_toArray, List.set_cons_zero, List.set_cons_succ, List.getElem_toArray, List.getElem_cons_succ, List.getElem_cons_zero]
    refine' wpAnyH_take (i := 2) (v := _) rfl (by kernel_rfl) (by kernel_rfl) (by kernel_rfl) (fun _ _ _ h => h) (Or.inl ⟨by rfl, ?_⟩) hHeld ?_
    rotate_left
    · (intro w hSw; (try dsimp only at hSw); (try simp only [List.getElem_toArray, List.getElem_cons_succ, List.getElem_cons_zero]); refine exec_row (x := .tmp 5) (by obtain ⟨ba, bb, g⟩ := hSw; first | exact bb | (rw [HB.out] at bb; exact bb)) Try.underlying25 rfl (by kernel_rfl) ?_ ?_ <;> rfl)
    try simp only [Act.put, List.setIfInBounds_toArray, List.set_cons_zero, List.set_cons_succ, List.getElem_toArray, List.getElem_cons_succ, List.getElem_cons_zero]
    refine wpAnyH_ready (rs := [1, 4, 5]) (by kernel_rfl) (by simp) ?_
    refine AllReadyH.cons (o := _) rfl (fun K hK => ?_) (AllReadyH.cons (o := _) rfl (fun K hK => ?_) (AllReadyH.cons (o := _) rfl (fun K hK => ?_) AllReadyH.nil))
    · try simp only [List.getElem_toArray, List.getElem_cons_succ, List.getElem_cons_zero]
      go_simp
      have hH2 := hHeld
      obtain ⟨ba, bb, g⟩ := hH2
      refine (F1.out _).mono ?_
      rintro e w1001 ⟨rfl, hg⟩
      have L1 := hid (show (w1001.heap[w.heap.size]? = some BA) ∧ (w1001.heap[w.heap.size + 1]? = some BB) ∧ (w.grownBy w1001 none) from ⟨at_grown ba hg (by simp), at_grown bb hg (by simp), gb_trans g hg (.inl rfl)⟩)
      clear hHeld hg ba bb g
      go_wp2_with fail
      refine hK.out _ _ ?_ (fun hHeld => ?_)
      · exact L1.out
      clear hK K
      try dsimp only at hHeld
      try simp only [Act.put, List.setIfInBounds_toArray, List.set_cons_zero, List.set_cons_succ, List.getElem_toArray, List.getElem_cons_succ, List.getElem_cons_zero]
      refine wpAnyH_ready (rs := [3, 4, 5]) (by kernel_rfl) (by simp) ?_
      refine AllReadyH.cons (o := _) rfl (fun K hK => ?_) (AllReadyH.cons (o := _) rfl (fun K hK => ?_) (AllReadyH.cons (o := _) rfl (fun K hK => ?_) AllReadyH.nil))
      · try simp only [List.getElem_toArray, List.getElem_cons_succ, List.getElem_cons_zero]
        go_simp
        have hH2 := hHeld
        obtain ⟨ba, bb, g⟩ := hH2
        refine (F2.out _).mono ?_
        rintro e w1003 ⟨rfl, hg⟩
        have L3 := hid (show (w1003.heap[w.heap.size]? = some BA) ∧ (w1003.heap[w.heap.size + 1]? = some BB) ∧ (w.grownBy w1003 none) from ⟨at_grown ba hg (by simp), at_grown bb hg (by simp), gb_trans g hg (.inl rfl)⟩)
        clear hHeld hg ba bb g
        go_wp2_with fail
        refine hK.out _ _ ?_ (fun hHeld => ?_)
        · exact L3.out
        clear hK K
        try dsimp only at hHeld
        try simp only [Act.put, List.setIfInBounds_toArray, List.set_cons_zero, List.set_cons_succ, List.getElem_toArray, List.getElem_cons_succ, List.getElem_cons_zero]
        refine wpAnyH_ready (rs := [4, 5]) (by kernel_rfl) (by simp) ?_
        refine AllReadyH.cons (o := _) rfl (fun K hK => ?_) (AllReadyH.cons (o := _) rfl (fun K hK => ?_) AllReadyH.nil)
        · have hH2 := hHeld
          obtain ⟨ba, bb, g⟩ := hH2
          have hg : (w1003).grownBy (w1003.alloc (.cells #[.int .u32 0, .int .i64 0, .int .i64 0, .slice none 0 0] 25)) none := World.grownBy_alloc (w1003) _ _
          have L4 := hid (show ((w1003.alloc (.cells #[.int .u32 0, .int .i64 0, .int .i64 0, .slice none 0 0] 25)).heap[w.heap.size]? = some BA) ∧ ((w1003.alloc (.cells #[.int .u32 0, .int .i64 0, .int .i64 0, .slice none 0 0] 25)).heap[w.heap.size + 1]? = some BB) ∧ (w.grownBy (w1003.alloc (.cells #[.int .u32 0, .int .i64 0, .int .i64 0, .slice none 0 0] 25)) none) from ⟨at_grown ba hg (by simp), at_grown bb hg (by simp), gb_trans g hg (.inl rfl)⟩)
          have Nz4 := hid (show Zc (w1003.heap.size) (w1003.alloc (.cells #[.int .u32 0, .int .i64 0, .int .i64 0, .slice none 0 0] 25)) from (by have h : Zc (w1003).heap.size (w1003.alloc (.cells #[.int .u32 0, .int .i64 0, .int .i64 0, .slice none 0 0] 25)) := ⟨⟨_, _, _, _, at_new (w1003) (.cells #[.int .u32 0, .int .i64 0, .int .i64 0, .slice none 0 0] 25)⟩⟩; rw [(show (w1003).heap.size = w1003.heap.size from rfl)] at h; exact h))
          have Nl4 := hid (show w.heap.size + 1 < w1003.heap.size from (by rw [← (show (w1003).heap.size = w1003.heap.size from rfl)]; exact at_lt bb))
          clear hHeld hg ba bb g
          try simp only [List.getElem_toArray, List.getElem_cons_succ, List.getElem_cons_zero]
          go_simp
          refine hK.out _ _ ?_ (fun hHeld => ?_)
          · exact L4.out
          clear hK K
          try dsimp only at hHeld
          try simp only [Act.put, List.setIfInBounds_toArray, List.set_cons_zero, List.set_cons_succ, List.getElem_toArray, List.getElem_cons_succ, List.getElem_cons_zero]
          refine held_stronger (S' := fun w' => (fun w' => Zc (w1003.heap.size) w') w' ∧ ((fun w' => (w'.heap[w.heap.size]? = some BA) ∧ (w'.heap[w.heap.size + 1]? = some BB) ∧ (w.grownBy w' none))) w') (fun _ h => h.2) _ _ _ _ ?_
          replace hHeld := And.intro Nz4.out hHeld
          try dsimp only at hHeld
          refine held_stronger (S' := fun w' => (fun w' => w.heap.size + 1 < w1003.heap.size) w' ∧ ((fun w' => (Zc (w1003.heap.size) w') ∧ (w'.heap[w.heap.size]? = some BA) ∧ (w'.heap[w.heap.size + 1]? = some BB) ∧ (w.grownBy w' none))) w') (fun _ h => h.2) _ _ _ _ ?_
          replace hHeld := And.intro Nl4.out hHeld
          try dsimp only at hHeld
          refine wpAnyH_ready (rs := [5]) (by kernel_rfl) (by simp) ?_
          refine AllReadyH.cons (o := _) rfl (fun K hK => ?_) AllReadyH.nil
          have hH2 := hHeld
          obtain ⟨l4, z4, ba, bb, g⟩ := hH2
          have hg : ((w1003.alloc (.cells #[.int .u32 0, .int .i64 0, .int .i64 0, .slice none 0 0] 25))).grownBy ((w1003.alloc (.cells #[.int .u32 0, .int .i64 0, .int .i64 0, .slice none 0 0] 25)).alloc (.cells #[.int .u32 0, .int .i64 0, .int .i64 0, .slice none 0 0] 25)) none := World.grownBy_alloc ((w1003.alloc (.cells #[.int .u32 0, .int .i64 0, .int .i64 0, .slice none 0 0] 25))) _ _
          have L5 := hid (show (w.heap.size + 1 < w1003.heap.size) ∧ (Zc (w1003.heap.size) ((w1003.alloc (.cells #[.int .u32 0, .int .i64 0, .int .i64 0, .slice none 0 0] 25)).alloc (.cells #[.int .u32 0, .int .i64 0, .int .i64 0, .slice none 0 0] 25))) ∧ (((w1003.alloc (.cells #[.int .u32 0, .int .i64 0, .int .i64 0, .slice none 0 0] 25)).alloc (.cells #[.int .u32 0, .int .i64 0, .int .i64 0, .slice none 0 0] 25)).heap[w.heap.size]? = some BA) ∧ (((w1003.alloc (.cells #[.int .u32 0, .int .i64 0, .int .i64 0, .slice none 0 0] 25)).alloc (.cells #[.int .u32 0, .int .i64 0, .int .i64 0, .slice none 0 0] 25)).heap[w.heap.size + 1]? = some BB) ∧ (w.grownBy ((w1003.alloc (.cells #[.int .u32 0, .int .i64 0, .int .i64 0, .slice none 0 0] 25)).alloc (.cells #[.int .u32 0, .int .i64 0, .int .i64 0, .slice none 0 0] 25)) none) from ⟨l4, z4.grown hg, at_grown ba hg (by simp), at_grown bb hg (by simp), gb_trans g hg (.inl rfl)⟩)
          have Nz5 := hid (show Zc (w1003.heap.size + 1) ((w1003.alloc (.cells #[.int .u32 0, .int .i64 0, .int .i64 0, .slice none 0 0] 25)).alloc (.cells #[.int .u32 0, .int .i64 0, .int .i64 0, .slice none 0 0] 25)) from (by have h : Zc ((w1003.alloc (.cells #[.int .u32 0, .int .i64 0, .int .i64 0, .slice none 0 0] 25))).heap.size ((w1003.alloc (.cells #[.int .u32 0, .int .i64 0, .int .i64 0, .slice none 0 0] 25)).alloc (.cells #[.int .u32 0, .int .i64 0, .int .i64 0, .slice none 0 0] 25)) := ⟨⟨_, _, _, _, at_new ((w1003.alloc (.cells #[.int .u32 0, .int .i64 0, .int .i64 0, .slice none 0 0] 25))) (.cells #[.int .u32 0, .int .i64 0, .int .i64 0, .slice none 0 0] 25)⟩⟩; rw [(show ((w1003.alloc (.cells #[.int .u32 0, .int .i64 0, .int .i64 0, .slice none 0 0] 25))).heap.size = w1003.heap.size + 1 from alloc_size _ _)] at h; exact h))
          have Nl5 := hid (show w.heap.size + 1 < w1003.heap.size + 1 from (by rw [← (show ((w1003.alloc (.cells #[.int .u32 0, .int .i64 0, .int .i64 0, .slice none 0 0] 25))).heap.size = w1003.heap.size + 1 from alloc_size _ _)]; exact at_lt bb))
          have Nne := hid (show w1003.heap.size ≠ w1003.heap.size + 1 from (Nat.ne_of_lt (by rw [← (show ((w1003.alloc (.cells #[.int .u32 0, .int .i64 0, .int .i64 0, .slice none 0 0] 25))).heap.size = w1003.heap.size + 1 from alloc_size _ _)]; exact z4.lt)))
          clear hHeld hg l4 z4 ba bb g
          try simp only [List.getElem_toArray, List.getElem_cons_succ, List.getElem_cons_zero]
          go_simp
          refine hK.out _ _ ?_ (fun hHeld => ?_)
          · exact L5.out
          clear hK K
          try dsimp only at hHeld
          try simp only [Act.put, List.setIfInBounds_toArray, List.set_cons_zero, List.set_cons_succ, List.getElem_toArray, List.getElem_cons_succ, List.getElem_cons_zero]
          refine held_stronger (S' := fun w' => (fun w' => Zc (w1003.heap.size + 1) w') w' ∧ ((fun w' => (w.heap.size + 1 < w1003.heap.size) ∧ (Zc (w1003.heap.size) w') ∧ (w'.heap[w.heap.size]? = some BA) ∧ (w'.heap[w.heap.size + 1]? = some BB) ∧ (w.grownBy w' none))) w') (fun _ h => h.2) _ _ _ _ ?_
          replace hHeld := And.intro Nz5.out hHeld
          try dsimp only at hHeld
          refine held_stronger (S' := fun w' => (fun w' => w.heap.size + 1 < w1003.heap.size + 1) w' ∧ ((fun w' => (Zc (w1003.heap.size + 1) w') ∧ (w.heap.size + 1 < w1003.heap.size) ∧ (Zc (w1003.heap.size) w') ∧ (w'.heap[w.heap.size]? = some BA) ∧ (w'.heap[w.heap.size + 1]? = some BB) ∧ (w.grownBy w' none))) w') (fun _ h => h.2) _ _ _ _ ?_
          replace hHeld := And.intro Nl5.out hHeld
          try dsimp only at hHeld
          refine held_stronger (S' := fun w' => (fun w' => w1003.heap.size ≠ w1003.heap.size + 1) w' ∧ ((fun w' => (w.heap.size + 1 < w1003.heap.size + 1) ∧ (Zc (w1003.heap.size + 1) w') ∧ (w.heap.size + 1 < w1003.heap.size) ∧ (Zc (w1003.heap.size) w') ∧ (w'.heap[w.heap.size]? = some BA) ∧ (w'.heap[w.heap.size + 1]? = some BB) ∧ (w.grownBy w' none))) w') (fun _ h => h.2) _ _ _ _ ?_
          replace hHeld := And.intro Nne.out hHeld
          try dsimp only at hHeld
          refine wpAnyH_ready (rs := [6]) (by kernel_rfl) (by simp) ?_
          refine AllReadyH.cons (o := _) rfl (fun K hK => ?_) AllReadyH.nil
          have hH2 := hHeld
          obtain ⟨ne, l5, z5, l4, z4, ba, bb, g⟩ := hH2
          obtain ⟨_, _, _, _, hz⟩ := z4.ex
          have L6 := hid (show (w1003.heap.size ≠ w1003.heap.size + 1) ∧ (w.heap.size + 1 < w1003.heap.size + 1) ∧ (Zc (w1003.heap.size + 1) ((((w1003.alloc (.cells #[.int .u32 0, .int .i64 0, .int .i64 0, .slice none 0 0] 25)).alloc (.cells #[.int .u32 0, .int .i64 0, .int .i64 0, .slice none 0 0] 25))).setRow (w1003.heap.size) (clV c (.slice ad c.data.length cp)))) ∧ (w.heap.size + 1 < w1003.heap.size) ∧ (Zc (w1003.heap.size) ((((w1003.alloc (.cells #[.int .u32 0, .int .i64 0, .int .i64 0, .slice none 0 0] 25)).alloc (.cells #[.int .u32 0, .int .i64 0, .int .i64 0, .slice none 0 0] 25))).setRow (w1003.heap.size) (clV c (.slice ad c.data.length cp)))) ∧ (((((w1003.alloc (.cells #[.int .u32 0, .int .i64 0, .int .i64 0, .slice none 0 0] 25)).alloc (.cells #[.int .u32 0, .int .i64 0, .int .i64 0, .slice none 0 0] 25))).setRow (w1003.heap.size) (clV c (.slice ad c.data.length cp))).heap[w.heap.size]? = some BA) ∧ (((((w1003.alloc (.cells #[.int .u32 0, .int .i64 0, .int .i64 0, .slice none 0 0] 25)).alloc (.cells #[.int .u32 0, .int .i64 0, .int .i64 0, .slice none 0 0] 25))).setRow (w1003.heap.size) (clV c (.slice ad c.data.length cp))).heap[w.heap.size + 1]? = some BB) ∧ (w.grownBy ((((w1003.alloc (.cells #[.int .u32 0, .int .i64 0, .int .i64 0, .slice none 0 0] 25)).alloc (.cells #[.int .u32 0, .int .i64 0, .int .i64 0, .slice none 0 0] 25))).setRow (w1003.heap.size) (clV c (.slice ad c.data.length cp))) none) from ⟨ne, l5, (z5.row _ _ _ _ _), l4, (z4.row _ _ _ _ _), (at_setRow_other ba (Nat.ne_of_lt (by have := l4; omega))), (at_setRow_other bb (Nat.ne_of_lt l4)), (gb_setRow g (by have := l4; omega))⟩)
          have Ny4 := hid (show ((((w1003.alloc (.cells #[.int .u32 0, .int .i64 0, .int .i64 0, .slice none 0 0] 25)).alloc (.cells #[.int .u32 0, .int .i64 0, .int .i64 0, .slice none 0 0] 25))).setRow (w1003.heap.size) (clV c (.slice ad c.data.length cp))).heap[w1003.heap.size]? = some (.cells (clV c (.slice ad c.data.length cp)) 25) from (at_setRow hz))
          have A6 := hid (hz)
          clear hHeld ne l5 z5 l4 z4 ba bb g
          try simp only [List.getElem_toArray, List.getElem_cons_succ, List.getElem_cons_zero]
          rw [if_pos (by rfl)]
          refine wp_store_row (cs := (clV c (.slice ad c.data.length cp))) A6.out (by kernel_rfl) (by kernel_rfl) (by kernel_rfl) rfl rfl rfl rfl ?_
          refine hK.out _ _ ?_ (fun hHeld => ?_)
          · exact L6.out
          clear hK K
          try dsimp only at hHeld
          try simp only [Act.put, List.setIfInBounds_toArray, List.set_cons_zero, List.set_cons_succ, List.getElem_toArray, List.getElem_cons_succ, List.getElem_cons_zero]
          refine held_stronger (S' := fun w' => (fun w' => w'.heap[w1003.heap.size]? = some (.cells (clV c (.slice ad c.data.length cp)) 25)) w' ∧ ((fun w' => (w1003.heap.size ≠ w1003.heap.size + 1) ∧ (w.heap.size + 1 < w1003.heap.size + 1) ∧ (Zc (w1003.heap.size + 1) w') ∧ (w.heap.size + 1 < w1003.heap.size) ∧ (Zc (w1003.heap.size) w') ∧ (w'.heap[w.heap.size]? = some BA) ∧ (w'.heap[w.heap.size + 1]? = some BB) ∧ (w.grownBy w' none))) w') (fun _ h => h.2) _ _ _ _ ?_
          replace hHeld := And.intro Ny4.out hHeld
          try dsimp only at hHeld
          refine wpAnyH_ready (rs := [7]) (by kernel_rfl) (by simp) ?_
          refine AllReadyH.cons (o := _) rfl (fun K hK => ?_) AllReadyH.nil
          have hH2 := hHeld
          obtain ⟨y4, ne, l5, z5, l4, z4, ba, bb, g⟩ := hH2
          obtain ⟨_, _, _, _, hz⟩ := z5.ex
          have L7 := hid (show ((((((w1003.alloc (.cells #[.int .u32 0, .int .i64 0, .int .i64 0, .slice none 0 0] 25)).alloc (.cells #[.int .u32 0, .int .i64 0, .int .i64 0, .slice none 0 0] 25))).setRow (w1003.heap.size) (clV c (.slice ad c.data.length cp))).setRow (w1003.heap.size + 1) (clV d (.slice ae d.data.length cq))).heap[w1003.heap.size]? = some (.cells (clV c (.slice ad c.data.length cp)) 25)) ∧ (w1003.heap.size ≠ w1003.heap.size + 1) ∧ (w.heap.size + 1 < w1003.heap.size + 1) ∧ (Zc (w1003.heap.size + 1) (((((w1003.alloc (.cells #[.int .u32 0, .int .i64 0, .int .i64 0, .slice none 0 0] 25)).alloc (.cells #[.int .u32 0, .int .i64 0, .int .i64 0, .slice none 0 0] 25))).setRow (w1003.heap.size) (clV c (.slice ad c.data.length cp))).setRow (w1003.heap.size + 1) (clV d (.slice ae d.data.length cq)))) ∧ (w.heap.size + 1 < w1003.heap.size) ∧ (Zc (w1003.heap.size) (((((w1003.alloc (.cells #[.int .u32 0, .int .i64 0, .int .i64 0, .slice none 0 0] 25)).alloc (.cells #[.int .u32 0, .int .i64 0, .int .i64 0, .slice none 0 0] 25))).setRow (w1003.heap.size) (clV c (.slice ad c.data.length cp))).setRow (w1003.heap.size + 1) (clV d (.slice ae d.data.length cq)))) ∧ ((((((w1003.alloc (.cells #[.int .u32 0, .int .i64 0, .int .i64 0, .slice none 0 0] 25)).alloc (.cells #[.int .u32 0, .int .i64 0, .int .i64 0, .slice none 0 0] 25))).setRow (w1003.heap.size) (clV c (.slice ad c.data.length cp))).setRow (w1003.heap.size + 1) (clV d (.slice ae d.data.length cq))).heap[w.heap.size]? = some BA) ∧ ((((((w1003.alloc (.cells #[.int .u32 0, .int .i64 0, .int .i64 0, .slice none 0 0] 25)).alloc (.cells #[.int .u32 0, .int .i64 0, .int .i64 0, .slice none 0 0] 25))).setRow (w1003.heap.size) (clV c (.slice ad c.data.length cp))).setRow (w1003.heap.size + 1) (clV d (.slice ae d.data.length cq))).heap[w.heap.size + 1]? = some BB) ∧ (w.grownBy (((((w1003.alloc (.cells #[.int .u32 0, .int .i64 0, .int .i64 0, .slice none 0 0] 25)).alloc (.cells #[.int .u32 0, .int .i64 0, .int .i64 0, .slice none 0 0] 25))).setRow (w1003.heap.size) (clV c (.slice ad c.data.length cp))).setRow (w1003.heap.size + 1) (clV d (.slice ae d.data.length cq))) none) from ⟨(at_setRow_other y4 (by have := ne; omega)), ne, l5, (z5.row _ _ _ _ _), l4, (z4.row _ _ _ _ _), (at_setRow_other ba (Nat.ne_of_lt (by have := l5; omega))), (at_setRow_other bb (Nat.ne_of_lt l5)), (gb_setRow g (by have := l5; omega))⟩)
          have Ny5 := hid (show (((((w1003.alloc (.cells #[.int .u32 0, .int .i64 0, .int .i64 0, .slice none 0 0] 25)).alloc (.cells #[.int .u32 0, .int .i64 0, .int .i64 0, .slice none 0 0] 25))).setRow (w1003.heap.size) (clV c (.slice ad c.data.length cp))).setRow (w1003.heap.size + 1) (clV d (.slice ae d.data.length cq))).heap[w1003.heap.size + 1]? = some (.cells (clV d (.slice ae d.data.length cq)) 25) from (at_setRow hz))
          have A7 := hid (hz)
          clear hHeld y4 ne l5 z5 l4 z4 ba bb g
          try simp only [List.getElem_toArray, List.getElem_cons_succ, List.getElem_cons_zero]
          rw [if_pos (by rfl)]
          refine wp_store_row (cs := (clV d (.slice ae d.data.length cq))) A7.out (by kernel_rfl) (by kernel_rfl) (by kernel_rfl) rfl rfl rfl rfl ?_
          refine hK.out _ _ ?_ (fun hHeld => ?_)
          · exact L7.out
          clear hK K
          try dsimp only at hHeld
          try simp only [Act.put, List.setIfInBounds_toArray, List.set_cons_zero, List.set_cons_succ, List.getElem_toArray, List.getElem_cons_succ, List.getElem_cons_zero]
          refine held_stronger (S' := fun w' => (fun w' => w'.heap[w1003.heap.size + 1]? = some (.cells (clV d (.slice ae d.data.length cq)) 25)) w' ∧ ((fun w' => (w'.heap[w1003.heap.size]? = some (.cells (clV c (.slice ad c.data.length cp)) 25)) ∧ (w1003.heap.size ≠ w1003.heap.size + 1) ∧ (w.heap.size + 1 < w1003.heap.size + 1) ∧ (Zc (w1003.heap.size + 1) w') ∧ (w.heap.size + 1 < w1003.heap.size) ∧ (Zc (w1003.heap.size) w') ∧ (w'.heap[w.heap.size]? = some BA) ∧ (w'.heap[w.heap.size + 1]? = some BB) ∧ (w.grownBy w' none))) w') (fun _ h => h.2) _ _ _ _ ?_
          replace hHeld := And.intro Ny5.out hHeld
          try dsimp only at hHeld
          refine wpAnyH_done (by kernel_rfl) ?_ _
          obtain ⟨y5, y4, ne, l5, z5, l4, z4, ba, bb, g⟩ := hHeld
          have K := hid (kp_two g y4 y5 HV1.out HV2.out); clear y5 y4 ne l5 z5 l4 z4 ba bb g
          go_wp2_with fail
          go_meet
          exact ⟨_, _, rfl, rfl, K.out⟩
        · have hH2 := hHeld
          obtain ⟨ba, bb, g⟩ := hH2
          have hg : (w1003).grownBy (w1003.alloc (.cells #[.int .u32 0, .int .i64 0, .int .i64 0, .slice none 0 0] 25)) none := World.grownBy_alloc (w1003) _ _
          have L5 := hid (show ((w1003.alloc (.cells #[.int .u32 0, .int .i64 0, .int .i64 0, .slice none 0 0] 25)).heap[w.heap.size]? = some BA) ∧ ((w1003.alloc (.cells #[.int .u32 0, .int .i64 0, .int .i64 0, .slice none 0 0] 25)).heap[w.heap.size + 1]? = some BB) ∧ (w.grownBy (w1003.alloc (.cells #[.int .u32 0, .int .i64 0, .int .i64 0, .slice none 0 0] 25)) none) from ⟨at_grown ba hg (by simp), at_grown bb hg (by simp), gb_trans g hg (.inl rfl)⟩)
          have Nz5 := hid (show Zc (w1003.heap.size) (w1003.alloc (.cells #[.int .u32 0, .int .i64 0, .int .i64 0, .slice none 0 0] 25)) from (by have h : Zc (w1003).heap.size (w1003.alloc (.cells #[.int .u32 0, .int .i64 0, .int .i64 0, .slice none 0 0] 25)) := ⟨⟨_, _, _, _, at_new (w1003) (.cells #[.int .u32 0, .int .i64 0, .int .i64 0, .slice none 0 0] 25)⟩⟩; rw [(show (w1003).heap.size = w1003.heap.size from rfl)] at h; exact h))
          have Nl5 := hid (show w.heap.size + 1 < w1003.heap.size from (by rw [← (show (w1003).heap.size = w1003.heap.size from rfl)]; exact at_lt bb))
          clear hHeld hg ba bb g
          try simp only [List.getElem_toArray, List.getElem_cons_succ, List.getElem_cons_zero]
          go_simp
          refine hK.out _ _ ?_ (fun hHeld => ?_)
          · exact L5.out
          clear hK K
          try dsimp only at hHeld
          try simp only [Act.put, List.setIfInBounds_toArray, List.set_cons_zero, List.set_cons_succ, List.getElem_toArray, List.getElem_cons_succ, List.getElem_cons_zero]
          refine held_stronger (S' := fun w' => (fun w' => Zc (w1003.heap.size) w') w' ∧ ((fun w' => (w'.heap[w.heap.size]? = some BA) ∧ (w'.heap[w.heap.size + 1]? = some BB) ∧ (w.grownBy w' none))) w') (fun _ h => h.2) _ _ _ _ ?_
          replace hHeld := And.intro Nz5.out hHeld
          try dsimp only at hHeld
          refine held_stronger (S' := fun w' => (fun w' => w.heap.size + 1 < w1003.heap.size) w' ∧ ((fun w' => (Zc (w1003.heap.size) w') ∧ (w'.heap[w.heap.size]? = some BA) ∧ (w'.heap[w.heap.size + 1]? = some BB) ∧ (w.grownBy w' none))) w') (fun _ h => h.2) _ _ _ _ ?_
          replace hHeld := And.intro Nl5.out hHeld
          try dsimp only at hHeld
          refine wpAnyH_ready (rs := [4]) (by kernel_rfl) (by simp) ?_
          refine AllReadyH.cons (o := _) rfl (fun K hK => ?_) AllReadyH.nil
          have hH2 := hHeld
          obtain ⟨l5, z5, ba, bb, g⟩ := hH2
          have hg : ((w1003.alloc (.cells #[.int .u32 0, .int .i64 0, .int .i64 0, .slice none 0 0] 25))).grownBy ((w1003.alloc (.cells #[.int .u32 0, .int .i64 0, .int .i64 0, .slice none 0 0] 25)).alloc (.cells #[.int .u32 0, .int .i64 0, .int .i64 0, .slice none 0 0] 25)) none := World.grownBy_alloc ((w1003.alloc (.cells #[.int .u32 0, .int .i64 0, .int .i64 0, .slice none 0 0] 25))) _ _
          have L4 := hid (show (w.heap.size + 1 < w1003.heap.size) ∧ (Zc (w1003.heap.size) ((w1003.alloc (.cells #[.int .u32 0, .int .i64 0, .int .i64 0, .slice none 0 0] 25)).alloc (.cells #[.int .u32 0, .int .i64 0, .int .i64 0, .slice none 0 0] 25))) ∧ (((w1003.alloc (.cells #[.int .u32 0, .int .i64 0, .int .i64 0, .slice none 0 0] 25)).alloc (.cells #[.int .u32 0, .int .i64 0, .int .i64 0, .slice none 0 0] 25)).heap[w.heap.size]? = some BA) ∧ (((w1003.alloc (.cells #[.int .u32 0, .int .i64 0, .int .i64 0, .slice none 0 0] 25)).alloc (.cells #[.int .u32 0, .int .i64 0, .int .i64 0, .slice none 0 0] 25)).heap[w.heap.size + 1]? = some BB) ∧ (w.grownBy ((w1003.alloc (.cells #[.int .u32 0, .int .i64 0, .int .i64 0, .slice none 0 0] 25)).alloc (.cells #[.int .u32 0, .int .i64 0, .int .i64 0, .slice none 0 0] 25)) none) from ⟨l5, z5.grown hg, at_grown ba hg (by simp), at_grown bb hg (by simp), gb_trans g hg (.inl rfl)⟩)
          have Nz4 := hid (show Zc (w1003.heap.size + 1) ((w1003.alloc (.cells #[.int .u32 0, .int .i64 0, .int .i64 0, .slice none 0 0] 25)).alloc (.cells #[.int .u32 0, .int .i64 0, .int .i64 0, .slice none 0 0] 25)) from (by have h : Zc ((w1003.alloc (.cells #[.int .u32 0, .int .i64 0, .int .i64 0, .slice none 0 0] 25))).heap.size ((w1003.alloc (.cells #[.int .u32 0, .int .i64 0, .int .i64 0, .slice none 0 0] 25)).alloc (.cells #[.int .u32 0, .int .i64 0, .int .i64 0, .slice none 0 0] 25)) := ⟨⟨_, _, _, _, at_new ((w1003.alloc (.cells #[.int .u32 0, .int .i64 0, .int .i64 0, .slice none 0 0] 25))) (.cells #[.int .u32 0, .int .i64 0, .int .i64 0, .slice none 0 0] 25)⟩⟩; rw [(show ((w1003.alloc (.cells #[.int .u32 0, .int .i64 0, .int .i64 0, .slice none 0 0] 25))).heap.size = w1003.heap.size + 1 from alloc_size _ _)] at h; exact h))
          have Nl4 := hid (show w.heap.size + 1 < w1003.heap.size + 1 from (by rw [← (show ((w1003.alloc (.cells #[.int .u32 0, .int .i64 0, .int .i64 0, .slice none 0 0] 25))).heap.size = w1003.heap.size + 1 from alloc_size _ _)]; exact at_lt bb))
          have Nne := hid (show w1003.heap.size ≠ w1003.heap.size + 1 from (Nat.ne_of_lt (by rw [← (show ((w1003.alloc (.cells #[.int .u32 0, .int .i64 0, .int .i64 0, .slice none 0 0] 25))).heap.size = w1003.heap.size + 1 from alloc_size _ _)]; exact z5.lt)))
          clear hHeld hg l5 z5 ba bb g
          try simp only [List.getElem_toArray, List.getElem_cons_succ, List.getElem_cons_zero]
          go_simp
          refine hK.out _ _ ?_ (fun hHeld => ?_)
          · exact L4.out
          clear hK K
          try dsimp only at hHeld
          try simp only [Act.put, List.setIfInBounds_toArray, List.set_cons_zero, List.set_cons_succ, List.getElem_toArray, List.getElem_cons_succ, List.getElem_cons_zero]
          refine held_stronger (S' := fun w' => (fun w' => Zc (w1003.heap.size + 1) w') w' ∧ ((fun w' => (w.heap.size + 1 < w1003.heap.size) ∧ (Zc (w1003.heap.size) w') ∧ (w'.heap[w.heap.size]? = some BA) ∧ (w'.heap[w.heap.size + 1]? = some BB) ∧ (w.grownBy w' none))) w') (fun _ h => h.2) _ _ _ _ ?_
          replace hHeld := And.intro Nz4.out hHeld
          try dsimp only at hHeld
          refine held_stronger (S' := fun w' => (fun w' => w.heap.size + 1 < w1003.heap.size + 1) w' ∧ ((fun w' => (Zc (w1003.heap.size + 1) w') ∧ (w.heap.size + 1 < w1003.heap.size) ∧ (Zc (w1003.heap.size) w') ∧ (w'.heap[w.heap.size]? = some BA) ∧ (w'.heap[w.heap.size + 1]? = some BB) ∧ (w.grownBy w' none))) w') (fun _ h => h.2) _ _ _ _ ?_
          replace hHeld := And.intro Nl4.out hHeld
          try dsimp only at hHeld
          refine held_stronger (S' := fun w' => (fun w' => w1003.heap.size ≠ w1003.heap.size + 1) w' ∧ ((fun w' => (w.heap.size + 1 < w1003.heap.size + 1) ∧ (Zc (w1003.heap.size + 1) w') ∧ (w.heap.size + 1 < w1003.heap.size) ∧ (Zc (w1003.heap.size) w') ∧ (w'.heap[w.heap.size]? = some BA) ∧ (w'.heap[w.heap.size + 1]? = some BB) ∧ (w.grownBy w' none))) w') (fun _ h => h.2) _ _ _ _ ?_
          replace hHeld := And.intro Nne.out hHeld
          try dsimp only at hHeld
          refine wpAnyH_ready (rs := [6]) (by kernel_rfl) (by simp) ?_
          refine AllReadyH.cons (o := _) rfl (fun K hK => ?_) AllReadyH.nil
          have hH2 := hHeld
          obtain ⟨ne, l4, z4, l5, z5, ba, bb, g⟩ := hH2
          obtain ⟨_, _, _, _, hz⟩ := z4.ex
          have L6 := hid (show (w1003.heap.size ≠ w1003.heap.size + 1) ∧ (w.heap.size + 1 < w1003.heap.size + 1) ∧ (Zc (w1003.heap.size + 1) ((((w1003.alloc (.cells #[.int .u32 0, .int .i64 0, .int .i64 0, .slice none 0 0] 25)).alloc (.cells #[.int .u32 0, .int .i64 0, .int .i64 0, .slice none 0 0] 25))).setRow (w1003.heap.size + 1) (clV c (.slice ad c.data.length cp)))) ∧ (w.heap.size + 1 < w1003.heap.size) ∧ (Zc (w1003.heap.size) ((((w1003.alloc (.cells #[.int .u32 0, .int .i64 0, .int .i64 0, .slice none 0 0] 25)).alloc (.cells #[.int .u32 0, .int .i64 0, .int .i64 0, .slice none 0 0] 25))).setRow (w1003.heap.size + 1) (clV c (.slice ad c.data.length cp)))) ∧ (((((w1003.alloc (.cells #[.int .u32 0, .int .i64 0, .int .i64 0, .slice none 0 0] 25)).alloc (.cells #[.int .u32 0, .int .i64 0, .int .i64 0, .slice none 0 0] 25))).setRow (w1003.heap.size + 1) (clV c (.slice ad c.data.length cp))).heap[w.heap.size]? = some BA) ∧ (((((w1003.alloc (.cells #[.int .u32 0, .int .i64 0, .int .i64 0, .slice none 0 0] 25)).alloc (.cells #[.int .u32 0, .int .i64 0, .int .i64 0, .slice none 0 0] 25))).setRow (w1003.heap.size + 1) (clV c (.slice ad c.data.length cp))).heap[w.heap.size + 1]? = some BB) ∧ (w.grownBy ((((w1003.alloc (.cells #[.int .u32 0, .int .i64 0, .int .i64 0, .slice none 0 0] 25)).alloc (.cells #[.int .u32 0, .int .i64 0, .int .i64 0, .slice none 0 0] 25))).setRow (w1003.heap.size + 1) (clV c (.slice ad c.data.length cp))) none) from ⟨ne, l4, (z4.row _ _ _ _ _), l5, (z5.row _ _ _ _ _), (at_setRow_other ba (Nat.ne_of_lt (by have := l4; omega))), (at_setRow_other bb (Nat.ne_of_lt l4)), (gb_setRow g (by have := l4; omega))⟩)
          have Ny4 := hid (show ((((w1003.alloc (.cells #[.int .u32 0, .int .i64 0, .int .i64 0, .slice none 0 0] 25)).alloc (.cells #[.int .u32 0, .int .i64 0, .int .i64 0, .slice none 0 0] 25))).setRow (w1003.heap.size + 1) (clV c (.slice ad c.data.length cp))).heap[w1003.heap.size + 1]? = some (.cells (clV c (.slice ad c.data.length cp)) 25) from (at_setRow hz))
          have A6 := hid (hz)
          clear hHeld ne l4 z4 l5 z5 ba bb g
          try simp only [List.getElem_toArray, List.getElem_cons_succ, List.getElem_cons_zero]
          rw [if_pos (by rfl)]
          refine wp_store_row (cs := (clV c (.slice ad c.data.length cp))) A6.out (by kernel_rfl) (by kernel_rfl) (by kernel_rfl) rfl rfl rfl rfl ?_
          refine hK.out _ _ ?_ (fun hHeld => ?_)
          · exact L6.out
          clear hK K
          try dsimp only at hHeld
          try simp only [Act.put, List.setIfInBounds_toArray, List.set_cons_zero, List.set_cons_succ, List.getElem_toArray, List.getElem_cons_succ, List.getElem_cons_zero]
          refine held_stronger (S' := fun w' => (fun w' => w'.heap[w1003.heap.size + 1]? = some (.cells (clV c (.slice ad c.data.length cp)) 25)) w' ∧ ((fun w' => (w1003.heap.size ≠ w1003.heap.size + 1) ∧ (w.heap.size + 1 < w1003.heap.size + 1) ∧ (Zc (w1003.heap.size + 1) w') ∧ (w.heap.size + 1 < w1003.heap.size) ∧ (Zc (w1003.heap.size) w') ∧ (w'.heap[w.heap.size]? = some BA) ∧ (w'.heap[w.heap.size + 1]? = some BB) ∧ (w.grownBy w' none))) w') (fun _ h => h.2) _ _ _ _ ?_
          replace hHeld := And.intro Ny4.out hHeld
          try dsimp only at hHeld
          refine wpAnyH_ready (rs := [7]) (by kernel_rfl) (by simp) ?_
          refine AllReadyH.cons (o := _) rfl (fun K hK => ?_) AllReadyH.nil
          have hH2 := hHeld
          obtain ⟨y4, ne, l4, z4, l5, z5, ba, bb, g⟩ := hH2
          obtain ⟨_, _, _, _, hz⟩ := z5.ex
          have L7 := hid (show ((((((w1003.alloc (.cells #[.int .u32 0, .int .i64 0, .int .i64 0, .slice none 0 0] 25)).alloc (.cells #[.int .u32 0, .int .i64 0, .int .i64 0, .slice none 0 0] 25))).setRow (w1003.heap.size + 1) (clV c (.slice ad c.data.length cp))).setRow (w1003.heap.size) (clV d (.slice ae d.data.length cq))).heap[w1003.heap.size + 1]? = some (.cells (clV c (.slice ad c.data.length cp)) 25)) ∧ (w1003.heap.size ≠ w1003.heap.size + 1) ∧ (w.heap.size + 1 < w1003.heap.size + 1) ∧ (Zc (w1003.heap.size + 1) (((((w1003.alloc (.cells #[.int .u32 0, .int .i64 0, .int .i64 0, .slice none 0 0] 25)).alloc (.cells #[.int .u32 0, .int .i64 0, .int .i64 0, .slice none 0 0] 25))).setRow (w1003.heap.size + 1) (clV c (.slice ad c.data.length cp))).setRow (w1003.heap.size) (clV d (.slice ae d.data.length cq)))) ∧ (w.heap.size + 1 < w1003.heap.size) ∧ (Zc (w1003.heap.size) (((((w1003.alloc (.cells #[.int .u32 0, .int .i64 0, .int .i64 0, .slice none 0 0] 25)).alloc (.cells #[.int .u32 0, .int .i64 0, .int .i64 0, .slice none 0 0] 25))).setRow (w1003.heap.size + 1) (clV c (.slice ad c.data.length cp))).setRow (w1003.heap.size) (clV d (.slice ae d.data.length cq)))) ∧ ((((((w1003.alloc (.cells #[.int .u32 0, .int .i64 0, .int .i64 0, .slice none 0 0] 25)).alloc (.cells #[.int .u32 0, .int .i64 0, .int .i64 0, .slice none 0 0] 25))).setRow (w1003.heap.size + 1) (clV c (.slice ad c.data.length cp))).setRow (w1003.heap.size) (clV d (.slice ae d.data.length cq))).heap[w.heap.size]? = some BA) ∧ ((((((w1003.alloc (.cells #[.int .u32 0, .int .i64 0, .int .i64 0, .slice none 0 0] 25)).alloc (.cells #[.int .u32 0, .int .i64 0, .int .i64 0, .slice none 0 0] 25))).setRow (w1003.heap.size + 1) (clV c (.slice ad c.data.length cp))).setRow (w1003.heap.size) (clV d (.slice ae d.data.length cq))).heap[w.heap.size + 1]? = some BB) ∧ (w.grownBy (((((w1003.alloc (.cells #[.int .u32 0, .int .i64 0, .int .i64 0, .slice none 0 0] 25)).alloc (.cells #[.int .u32 0, .int .i64 0, .int .i64 0, .slice none 0 0] 25))).setRow (w1003.heap.size + 1) (clV c (.slice ad c.data.length cp))).setRow (w1003.heap.size) (clV d (.slice ae d.data.length cq))) none) from ⟨(at_setRow_other y4 (by have := ne; omega)), ne, l4, (z4.row _ _ _ _ _), l5, (z5.row _ _ _ _ _), (at_setRow_other ba (Nat.ne_of_lt (by have := l5; omega))), (at_setRow_other bb (Nat.ne_of_lt l5)), (gb_setRow g (by have := l5; omega))⟩)
          have Ny5 := hid (show (((((w1003.alloc (.cells #[.int .u32 0, .int .i64 0, .int .i64 0, .slice none 0 0] 25)).alloc (.cells #[.int .u32 0, .int .i64 0, .int .i64 0, .slice none 0 0] 25))).setRow (w1003.heap.size + 1) (clV c (.slice ad c.data.length cp))).setRow (w1003.heap.size) (clV d (.slice ae d.data.length cq))).heap[w1003.heap.size]? = some (.cells (clV d (.slice ae d.data.length cq)) 25) from (at_setRow hz))
          have A7 := hid (hz)
          clear hHeld y4 ne l4 z4 l5 z5 ba bb g
          try simp only [List.getElem_toArray, List.getElem_cons_succ, List.getElem_cons_zero]
          rw [if_pos (by rfl)]
          refine wp_store_row (cs := (clV d (.slice ae d.data.length cq))) A7.out (by kernel_rfl) (by kernel_rfl) (by kernel_rfl) rfl rfl rfl rfl ?_
          refine hK.out _ _ ?_ (fun hHeld => ?_)
          · exact L7.out
          clear hK K
          try dsimp only at hHeld
          try simp only [Act.put, List.setIfInBounds_toArray, List.set_cons_zero, List.set_cons_succ, List.getElem_toArray, List.getElem_cons_succ, List.getElem_cons_zero]
          refine held_stronger (S' := fun w' => (fun w' => w'.heap[w1003.heap.size]? = some (.cells (clV d (.slice ae d.data.length cq)) 25)) w' ∧ ((fun w' => (w'.heap[w1003.heap.size + 1]? = some (.cells (clV c (.slice ad c.data.length cp)) 25)) ∧ (w1003.heap.size ≠ w1003.heap.size + 1) ∧ (w.heap.size + 1 < w1003.heap.size + 1) ∧ (Zc (w1003.heap.size + 1) w') ∧ (w.heap.size + 1 < w1003.heap.size) ∧ (Zc (w1003.heap.size) w') ∧ (w'.heap[w.heap.size]? = some BA) ∧ (w'.heap[w.heap.size + 1]? = some BB) ∧ (w.grownBy w' none))) w') (fun _ h => h.2) _ _ _ _ ?_
          replace hHeld := And.intro Ny5.out hHeld
          try dsimp only at hHeld
          refine wpAnyH_done (by kernel_rfl) ?_ _
          obtain ⟨y5, y4, ne, l4, z4, l5, z5, ba, bb, g⟩ := hHeld
          have K := hid (kp_two g y4 y5 HV1.out HV2.out); clear y5 y4 ne l4 z4 l5 z5 ba bb g
          go_wp2_with fail
          go_meet
          exact ⟨_, _, rfl, rfl, K.out⟩
      · have hH2 := hHeld
        obtain ⟨ba, bb, g⟩ := hH2
        have hg : (w1001).grownBy (w1001.alloc (.cells #[.int .u32 0, .int .i64 0, .int .i64 0, .slice none 0 0] 25)) none := World.grownBy_alloc (w1001) _ _
        have L4 := hid (show ((w1001.alloc (.cells #[.int .u32 0, .int .i64 0, .int .i64 0, .slice none 0 0] 25)).heap[w.heap.size]? = some BA) ∧ ((w1001.alloc (.cells #[.int .u32 0, .int .i64 0, .int .i64 0, .slice none 0 0] 25)).heap[w.heap.size + 1]? = some BB) ∧ (w.grownBy (w1001.alloc (.cells #[.int .u32 0, .int .i64 0, .int .i64 0, .slice none 0 0] 25)) none) from ⟨at_grown ba hg (by simp), at_grown bb hg (by simp), gb_trans g hg (.inl rfl)⟩)
        have Nz4 := hid (show Zc (w1001.heap.size) (w1001.alloc (.cells #[.int .u32 0, .int .i64 0, .int .i64 0, .slice none 0 0] 25)) from (by have h : Zc (w1001).heap.size (w1001.alloc (.cells #[.int .u32 0, .int .i64 0, .int .i64 0, .slice none 0 0] 25)) := ⟨⟨_, _, _, _, at_new (w1001) (.cells #[.int .u32 0, .int .i64 0, .int .i64 0, .slice none 0 0] 25)⟩⟩; rw [(show (w1001).heap.size = w1001.heap.size from rfl)] at h; exact h))
        have Nl4 := hid (show w.heap.size + 1 < w1001.heap.size from (by rw [← (show (w1001).heap.size = w1001.heap.size from rfl)]; exact at_lt bb))
        clear hHeld hg ba bb g
        try simp only [List.getElem_toArray, List.getElem_cons_succ, List.getElem_cons_zero]
        go_simp
        refine hK.out _ _ ?_ (fun hHeld => ?_)
        · exact L4.out
        clear hK K
        try dsimp only at hHeld
        try simp only [Act.put, List.setIfInBounds_toArray, List.set_cons_zero, List.set_cons_succ, List.getElem_toArray, List.getElem_cons_succ, List.getElem_cons_zero]
        refine held_stronger (S' := fun w' => (fun w' => Zc (w1001.heap.size) w') w' ∧ ((fun w' => (w'.heap[w.heap.size]? = some BA) ∧ (w'.heap[w.heap.size + 1]? = some BB) ∧ (w.grownBy w' none))) w') (fun _ h => h.2) _ _ _ _ ?_
        replace hHeld := And.intro Nz4.out hHeld
        try dsimp only at hHeld
        refine held_stronger (S' := fun w' => (fun w' => w.heap.size + 1 < w1001.heap.size) w' ∧ ((fun w' => (Zc (w1001.heap.size) w') ∧ (w'.heap[w.heap.size]? = some BA) ∧ (w'.heap[w.heap.size + 1]? = some BB) ∧ (w.grownBy w' none))) w') (fun _ h => h.2) _ _ _ _ ?_
        replace hHeld := And.intro Nl4.out hHeld
        try dsimp only at hHeld
        refine wpAnyH_ready (rs := [3, 5]) (by kernel_rfl) (by simp) ?_
        refine AllReadyH.cons (o := _) rfl (fun K hK => ?_) (AllReadyH.cons (o := _) rfl (fun K hK => ?_) AllReadyH.nil)
        · try simp only [List.getElem_toArray, List.getElem_cons_succ, List.getElem_cons_zero]
          go_simp
          have hH2 := hHeld
          obtain ⟨l4, z4, ba, bb, g⟩ := hH2
          refine (F2.out _).mono ?_
          rintro e w1003 ⟨rfl, hg⟩
          have L3 := hid (show (w.heap.size + 1 < w1001.heap.size) ∧ (Zc (w1001.heap.size) w1003) ∧ (w1003.heap[w.heap.size]? = some BA) ∧ (w1003.heap[w.heap.size + 1]? = some BB) ∧ (w.grownBy w1003 none) from ⟨l4, z4.grown hg, at_grown ba hg (by simp), at_grown bb hg (by simp), gb_trans g hg (.inl rfl)⟩)
          clear hHeld hg l4 z4 ba bb g
          go_wp2_with fail
          refine hK.out _ _ ?_ (fun hHeld => ?_)
          · exact L3.out
          clear hK K
          try dsimp only at hHeld
          try simp only [Act.put, List.setIfInBounds_toArray, List.set_cons_zero, List.set_cons_succ, List.getElem_toArray, List.getElem_cons_succ, List.getElem_cons_zero]
          refine wpAnyH_ready (rs := [5]) (by kernel_rfl) (by simp) ?_
          refine AllReadyH.cons (o := _) rfl (fun K hK => ?_) AllReadyH.nil
          have hH2 := hHeld
          obtain ⟨l4, z4, ba, bb, g⟩ := hH2
          have hg : (w1003).grownBy (w1003.alloc (.cells #[.int .u32 0, .int .i64 0, .int .i64 0, .slice none 0 0] 25)) none := World.grownBy_alloc (w1003) _ _
          have L5 := hid (show (w.heap.size + 1 < w1001.heap.size) ∧ (Zc (w1001.heap.size) (w1003.alloc (.cells #[.int .u32 0, .int .i64 0, .int .i64 0, .slice none 0 0] 25))) ∧ ((w1003.alloc (.cells #[.int .u32 0, .int .i64 0, .int .i64 0, .slice none 0 0] 25)).heap[w.heap.size]? = some BA) ∧ ((w1003.alloc (.cells #[.int .u32 0, .int .i64 0, .int .i64 0, .slice none 0 0] 25)).heap[w.heap.size + 1]? = some BB) ∧ (w.grownBy (w1003.alloc (.cells #[.int .u32 0, .int .i64 0, .int .i64 0, .slice none 0 0] 25)) none) from ⟨l4, z4.grown hg, at_grown ba hg (by simp), at_grown bb hg (by simp), gb_trans g hg (.inl rfl)⟩)
          have Nz5 := hid (show Zc (w1003.heap.size) (w1003.alloc (.cells #[.int .u32 0, .int .i64 0, .int .i64 0, .slice none 0 0] 25)) from (by have h : Zc (w1003).heap.size (w1003.alloc (.cells #[.int .u32 0, .int .i64 0, .int .i64 0, .slice none 0 0] 25)) := ⟨⟨_, _, _, _, at_new (w1003) (.cells #[.int .u32 0, .int .i64 0, .int .i64 0, .slice none 0 0] 25)⟩⟩; rw [(show (w1003).heap.size = w1003.heap.size from rfl)] at h; exact h))
          have Nl5 := hid (show w.heap.size + 1 < w1003.heap.size from (by rw [← (show (w1003).heap.size = w1003.heap.size from rfl)]; exact at_lt bb))
          have Nne := hid (show w1001.heap.size ≠ w1003.heap.size from (Nat.ne_of_lt (by rw [← (show (w1003).heap.size = w1003.heap.size from rfl)]; exact z4.lt)))
          clear hHeld hg l4 z4 ba bb g
          try simp only [List.getElem_toArray, List.getElem_cons_succ, List.getElem_cons_zero]
          go_simp
          refine hK.out _ _ ?_ (fun hHeld => ?_)
          · exact L5.out
          clear hK K
          try dsimp only at hHeld
          try simp only [Act.put, List.setIfInBounds_toArray, List.set_cons_zero, List.set_cons_succ, List.getElem_toArray, List.getElem_cons_succ, List.getElem_cons_zero]
          refine held_stronger (S' := fun w' => (fun w' => Zc (w1003.heap.size) w') w' ∧ ((fun w' => (w.heap.size + 1 < w1001.heap.size) ∧ (Zc (w1001.heap.size) w') ∧ (w'.heap[w.heap.size]? = some BA) ∧ (w'.heap[w.heap.size + 1]? = some BB) ∧ (w.grownBy w' none))) w') (fun _ h => h.2) _ _ _ _ ?_
          replace hHeld := And.intro Nz5.out hHeld
          try dsimp only at hHeld
          refine held_stronger (S' := fun w' => (fun w' => w.heap.size + 1 < w1003.heap.size) w' ∧ ((fun w' => (Zc (w1003.heap.size) w') ∧ (w.heap.size + 1 < w1001.heap.size) ∧ (Zc (w1001.heap.size) w') ∧ (w'.heap[w.heap.size]? = some BA) ∧ (w'.heap[w.heap.size + 1]? = some BB) ∧ (w.grownBy w' none))) w') (fun _ h => h.2) _ _ _ _ ?_
          replace hHeld := And.intro Nl5.out hHeld
          try dsimp only at hHeld
          refine held_stronger (S' := fun w' => (fun w' => w1001.heap.size ≠ w1003.heap.size) w' ∧ ((fun w' => (w.heap.size + 1 < w1003.heap.size) ∧ (Zc (w1003.heap.size) w') ∧ (w.heap.size + 1 < w1001.heap.size) ∧ (Zc (w1001.heap.size) w') ∧ (w'.heap[w.heap.size]? = some BA) ∧ (w'.heap[w.heap.size + 1]? = some BB) ∧ (w.grownBy w' none))) w') (fun _ h => h.2) _ _ _ _ ?_
          replace hHeld := And.intro Nne.out hHeld
          try dsimp only at hHeld
          refine wpAnyH_ready (rs := [6]) (by kernel_rfl) (by simp) ?_
          refine AllReadyH.cons (o := _) rfl (fun K hK => ?_) AllReadyH.nil
          have hH2 := hHeld
          obtain ⟨ne, l5, z5, l4, z4, ba, bb, g⟩ := hH2
          obtain ⟨_, _, _, _, hz⟩ := z4.ex
          have L6 := hid (show (w1001.heap.size ≠ w1003.heap.size) ∧ (w.heap.size + 1 < w1003.heap.size) ∧ (Zc (w1003.heap.size) (((w1003.alloc (.cells #[.int .u32 0, .int .i64 0, .int .i64 0, .slice none 0 0] 25))).setRow (w1001.heap.size) (clV c (.slice ad c.data.length cp)))) ∧ (w.heap.size + 1 < w1001.heap.size) ∧ (Zc (w1001.heap.size) (((w1003.alloc (.cells #[.int .u32 0, .int .i64 0, .int .i64 0, .slice none 0 0] 25))).setRow (w1001.heap.size) (clV c (.slice ad c.data.length cp)))) ∧ ((((w1003.alloc (.cells #[.int .u32 0, .int .i64 0, .int .i64 0, .slice none 0 0] 25))).setRow (w1001.heap.size) (clV c (.slice ad c.data.length cp))).heap[w.heap.size]? = some BA) ∧ ((((w1003.alloc (.cells #[.int .u32 0, .int .i64 0, .int .i64 0, .slice none 0 0] 25))).setRow (w1001.heap.size) (clV c (.slice ad c.data.length cp))).heap[w.heap.size + 1]? = some BB) ∧ (w.grownBy (((w1003.alloc (.cells #[.int .u32 0, .int .i64 0, .int .i64 0, .slice none 0 0] 25))).setRow (w1001.heap.size) (clV c (.slice ad c.data.length cp))) none) from ⟨ne, l5, (z5.row _ _ _ _ _), l4, (z4.row _ _ _ _ _), (at_setRow_other ba (Nat.ne_of_lt (by have := l4; omega))), (at_setRow_other bb (Nat.ne_of_lt l4)), (gb_setRow g (by have := l4; omega))⟩)
          have Ny4 := hid (show (((w1003.alloc (.cells #[.int .u32 0, .int .i64 0, .int .i64 0, .slice none 0 0] 25))).setRow (w1001.heap.size) (clV c (.slice ad c.data.length cp))).heap[w1001.heap.size]? = some (.cells (clV c (.slice ad c.data.length cp)) 25) from (at_setRow hz))
          have A6 := hid (hz)
          clear hHeld ne l5 z5 l4 z4 ba bb g
          try simp only [List.getElem_toArray, List.getElem_cons_succ, List.getElem_cons_zero]
          rw [if_pos (by rfl)]
          refine wp_store_row (cs := (clV c (.slice ad c.data.length cp))) A6.out (by kernel_rfl) (by kernel_rfl) (by kernel_rfl) rfl rfl rfl rfl ?_
          refine hK.out _ _ ?_ (fun hHeld => ?_)
          · exact L6.out
          clear hK K
          try dsimp only at hHeld
          try simp only [Act.put, List.setIfInBounds_toArray, List.set_cons_zero, List.set_cons_succ, List.getElem_toArray, List.getElem_cons_succ, List.getElem_cons_zero]
          refine held_stronger (S' := fun w' => (fun w' => w'.heap[w1001.heap.size]? = some (.cells (clV c (.slice ad c.data.length cp)) 25)) w' ∧ ((fun w' => (w1001.heap.size ≠ w1003.heap.size) ∧ (w.heap.size + 1 < w1003.heap.size) ∧ (Zc (w1003.heap.size) w') ∧ (w.heap.size + 1 < w1001.heap.size) ∧ (Zc (w1001.heap.size) w') ∧ (w'.heap[w.heap.size]? = some BA) ∧ (w'.heap[w.heap.size + 1]? = some BB) ∧ (w.grownBy w' none))) w') (fun _ h => h.2) _ _ _ _ ?_
          replace hHeld := And.intro Ny4.out hHeld
          try dsimp only at hHeld
          refine wpAnyH_ready (rs := [7]) (by kernel_rfl) (by simp) ?_
          refine AllReadyH.cons (o := _) rfl (fun K hK => ?_) AllReadyH.nil
          have hH2 := hHeld
          obtain ⟨y4, ne, l5, z5, l4, z4, ba, bb, g⟩ := hH2
          obtain ⟨_, _, _, _, hz⟩ := z5.ex
          have L7 := hid (show (((((w1003.alloc (.cells #[.int .u32 0, .int .i64 0, .int .i64 0, .slice none 0 0] 25))).setRow (w1001.heap.size) (clV c (.slice ad c.data.length cp))).setRow (w1003.heap.size) (clV d (.slice ae d.data.length cq))).heap[w1001.heap.size]? = some (.cells (clV c (.slice ad c.data.length cp)) 25)) ∧ (w1001.heap.size ≠ w1003.heap.size) ∧ (w.heap.size + 1 < w1003.heap.size) ∧ (Zc (w1003.heap.size) ((((w1003.alloc (.cells #[.int .u32 0, .int .i64 0, .int .i64 0, .slice none 0 0] 25))).setRow (w1001.heap.size) (clV c (.slice ad c.data.length cp))).setRow (w1003.heap.size) (clV d (.slice ae d.data.length cq)))) ∧ (w.heap.size + 1 < w1001.heap.size) ∧ (Zc (w1001.heap.size) ((((w1003.alloc (.cells #[.int .u32 0, .int .i64 0, .int .i64 0, .slice none 0 0] 25))).setRow (w1001.heap.size) (clV c (.slice ad c.data.length cp))).setRow (w1003.heap.size) (clV d (.slice ae d.data.length cq)))) ∧ (((((w1003.alloc (.cells #[.int .u32 0, .int .i64 0, .int .i64 0, .slice none 0 0] 25))).setRow (w1001.heap.size) (clV c (.slice ad c.data.length cp))).setRow (w1003.heap.size) (clV d (.slice ae d.data.length cq))).heap[w.heap.size]? = some BA) ∧ (((((w1003.alloc (.cells #[.int .u32 0, .int .i64 0, .int .i64 0, .slice none 0 0] 25))).setRow (w1001.heap.size) (clV c (.slice ad c.data.length cp))).setRow (w1003.heap.size) (clV d (.slice ae d.data.length cq))).heap[w.heap.size + 1]? = some BB) ∧ (w.grownBy ((((w1003.alloc (.cells #[.int .u32 0, .int .i64 0, .int .i64 0, .slice none 0 0] 25))).setRow (w1001.heap.size) (clV c (.slice ad c.data.length cp))).setRow (w1003.heap.size) (clV d (.slice ae d.data.length cq))) none) from ⟨(at_setRow_other y4 (by have := ne; omega)), ne, l5, (z5.row _ _ _ _ _), l4, (z4.row _ _ _ _ _), (at_setRow_other ba (Nat.ne_of_lt (by have := l5; omega))), (at_setRow_other bb (Nat.ne_of_lt l5)), (gb_setRow g (by have := l5; omega))⟩)
          have Ny5 := hid (show ((((w1003.alloc (.cells #[.int .u32 0, .int .i64 0, .int .i64 0, .slice none 0 0] 25))).setRow (w1001.heap.size) (clV c (.slice ad c.data.length cp))).setRow (w1003.heap.size) (clV d (.slice ae d.data.length cq))).heap[w1003.heap.size]? = some (.cells (clV d (.slice ae d.data.length cq)) 25) from (at_setRow hz))
          have A7 := hid (hz)
          clear hHeld y4 ne l5 z5 l4 z4 ba bb g
          try simp only [List.getElem_toArray, List.getElem_cons_succ, List.getElem_cons_zero]
          rw [if_pos (by rfl)]
          refine wp_store_row (cs := (clV d (.slice ae d.data.length cq))) A7.out (by kernel_rfl) (by kernel_rfl) (by kernel_rfl) rfl rfl rfl rfl ?_
          refine hK.out _ _ ?_ (fun hHeld => ?_)
          · exact L7.out
          clear hK K
          try dsimp only at hHeld
          try simp only [Act.put, List.setIfInBounds_toArray, List.set_cons_zero, List.set_cons_succ, List.getElem_toArray, List.getElem_cons_succ, List.getElem_cons_zero]
          refine held_stronger (S' := fun w' => (fun w' => w'.heap[w1003.heap.size]? = some (.cells (clV d (.slice ae d.data.length cq)) 25)) w' ∧ ((fun w' => (w'.heap[w1001.heap.size]? = some (.cells (clV c (.slice ad c.data.length cp)) 25)) ∧ (w1001.heap.size ≠ w1003.heap.size) ∧ (w.heap.size + 1 < w1003.heap.size) ∧ (Zc (w1003.heap.size) w') ∧ (w.heap.size + 1 < w1001.heap.size) ∧ (Zc (w1001.heap.size) w') ∧ (w'.heap[w.heap.size]? = some BA) ∧ (w'.heap[w.heap.size + 1]? = some BB) ∧ (w.grownBy w' none))) w') (fun _ h => h.2) _ _ _ _ ?_
          replace hHeld := And.intro Ny5.out hHeld
          try dsimp only at hHeld
          refine wpAnyH_done (by kernel_rfl) ?_ _
          obtain ⟨y5, y4, ne, l5, z5, l4, z4, ba, bb, g⟩ := hHeld
          have K := hid (kp_two g y4 y5 HV1.out HV2.out); clear y5 y4 ne l5 z5 l4 z4 ba bb g
          go_wp2_with fail
          go_meet
          exact ⟨_, _, rfl, rfl, K.out⟩
        · have hH2 := hHeld
          obtain ⟨l4, z4, ba, bb, g⟩ := hH2
          have hg : ((w1001.alloc (.cells #[.int .u32 0, .int .i64 0, .int .i64 0, .slice none 0 0] 25))).grownBy ((w1001.alloc (.cells #[.int .u32 0, .int .i64 0, .int .i64 0, .slice none 0 0] 25)).alloc (.cells #[.int .u32 0, .int .i64 0, .int .i64 0, .slice none 0 0] 25)) none := World.grownBy_alloc ((w1001.alloc (.cells #[.int .u32 0, .int .i64 0, .int .i64 0, .slice none 0 0] 25))) _ _
          have L5 := hid (show (w.heap.size + 1 < w1001.heap.size) ∧ (Zc (w1001.heap.size) ((w1001.alloc (.cells #[.int .u32 0, .int .i64 0, .int .i64 0, .slice none 0 0] 25)).alloc (.cells #[.int .u32 0, .int .i64 0, .int .i64 0, .slice none 0 0] 25))) ∧ (((w1001.alloc (.cells #[.int .u32 0, .int .i64 0, .int .i64 0, .slice none 0 0] 25)).alloc (.cells #[.int .u32 0, .int .i64 0, .int .i64 0, .slice none 0 0] 25)).heap[w.heap.size]? = some BA) ∧ (((w1001.alloc (.cells #[.int .u32 0, .int .i64 0, .int .i64 0, .slice none 0 0] 25)).alloc (.cells #[.int .u32 0, .int .i64 0, .int .i64 0, .slice none 0 0] 25)).heap[w.heap.size + 1]? = some BB) ∧ (w.grownBy ((w1001.alloc (.cells #[.int .u32 0, .int .i64 0, .int .i64 0, .slice none 0 0] 25)).alloc (.cells #[.int .u32 0, .int .i64 0, .int .i64 0, .slice none 0 0] 25)) none) from ⟨l4, z4.grown hg, at_grown ba hg (by simp), at_grown bb hg (by simp), gb_trans g hg (.inl rfl)⟩)
          have Nz5 := hid (show Zc (w1001.heap.size + 1) ((w1001.alloc (.cells #[.int .u32 0, .int .i64 0, .int .i64 0, .slice none 0 0] 25)).alloc (.cells #[.int .u32 0, .int .i64 0, .int .i64 0, .slice none 0 0] 25)) from (by have h : Zc ((w1001.alloc (.cells #[.int .u32 0, .int .i64 0, .int .i64 0, .slice none 0 0] 25))).heap.size ((w1001.alloc (.cells #[.int .u32 0, .int .i64 0, .int .i64 0, .slice none 0 0] 25)).alloc (.cells #[.int .u32 0, .int .i64 0, .int .i64 0, .slice none 0 0] 25)) := ⟨⟨_, _, _, _, at_new ((w1001.alloc (.cells #[.int .u32 0, .int .i64 0, .int .i64 0, .slice none 0 0] 25))) (.cells #[.int .u32 0, .int .i64 0, .int .i64 0, .slice none 0 0] 25)⟩⟩; rw [(show ((w1001.alloc (.cells #[.int .u32 0, .int .i64 0, .int .i64 0, .slice none 0 0] 25))).heap.size = w1001.heap.size + 1 from alloc_size _ _)] at h; exact h))
          have Nl5 := hid (show w.heap.size + 1 < w1001.heap.size + 1 from (by rw [← (show ((w1001.alloc (.cells #[.int .u32 0, .int .i64 0, .int .i64 0, .slice none 0 0] 25))).heap.size = w1001.heap.size + 1 from alloc_size _ _)]; exact at_lt bb))
          have Nne := hid (show w1001.heap.size ≠ w1001.heap.size + 1 from (Nat.ne_of_lt (by rw [← (show ((w1001.alloc (.cells #[.int .u32 0, .int .i64 0, .int .i64 0, .slice none 0 0] 25))).heap.size = w1001.heap.size + 1 from alloc_size _ _)]; exact z4.lt)))
          clear hHeld hg l4 z4 ba bb g
          try simp only [List.getElem_toArray, List.getElem_cons_succ, List.getElem_cons_zero]
          go_simp
          refine hK.out _ _ ?_ (fun hHeld => ?_)
          · exact L5.out
          clear hK K
          try dsimp only at hHeld
          try simp only [Act.put, List.setIfInBounds_toArray, List.set_cons_zero, List.set_cons_succ, List.getElem_toArray, List.getElem_cons_succ, List.getElem_cons_zero]
          refine held_stronger (S' := fun w' => (fun w' => Zc (w1001.heap.size + 1) w') w' ∧ ((fun w' => (w.heap.size + 1 < w1001.heap.size) ∧ (Zc (w1001.heap.size) w') ∧ (w'.heap[w.heap.size]? = some BA) ∧ (w'.heap[w.heap.size + 1]? = some BB) ∧ (w.grownBy w' none))) w') (fun _ h => h.2) _ _ _ _ ?_
          replace hHeld := And.intro Nz5.out hHeld
          try dsimp only at hHeld
          refine held_stronger (S' := fun w' => (fun w' => w.heap.size + 1 < w1001.heap.size + 1) w' ∧ ((fun w' => (Zc (w1001.heap.size + 1) w') ∧ (w.heap.size + 1 < w1001.heap.size) ∧ (Zc (w1001.heap.size) w') ∧ (w'.heap[w.heap.size]? = some BA) ∧ (w'.heap[w.heap.size + 1]? = some BB) ∧ (w.grownBy w' none))) w') (fun _ h => h.2) _ _ _ _ ?_
          replace hHeld := And.intro Nl5.out hHeld
          try dsimp only at hHeld
          refine held_stronger (S' := fun w' => (fun w' => w1001.heap.size ≠ w1001.heap.size + 1) w' ∧ ((fun w' => (w.heap.size + 1 < w1001.heap.size + 1) ∧ (Zc (w1001.heap.size + 1) w') ∧ (w.heap.size + 1 < w1001.heap.size) ∧ (Zc (w1001.heap.size) w') ∧ (w'.heap[w.heap.size]? = some BA) ∧ (w'.heap[w.heap.size + 1]? = some BB) ∧ (w.grownBy w' none))) w') (fun _ h => h.2) _ _ _ _ ?_
          replace hHeld := And.intro Nne.out hHeld
          try dsimp only at hHeld
          refine wpAnyH_ready (rs := [3]) (by kernel_rfl) (by simp) ?_
          refine AllReadyH.cons (o := _) rfl (fun K hK => ?_) AllReadyH.nil
          try simp only [List.getElem_toArray, List.getElem_cons_succ, List.getElem_cons_zero]
          go_simp
          have hH2 := hHeld
          obtain ⟨ne, l5, z5, l4, z4, ba, bb, g⟩ := hH2
          refine (F2.out _).mono ?_
          rintro e w1003 ⟨rfl, hg⟩
          have L3 := hid (show (w1001.heap.size ≠ w1001.heap.size + 1) ∧ (w.heap.size + 1 < w1001.heap.size + 1) ∧ (Zc (w1001.heap.size + 1) w1003) ∧ (w.heap.size + 1 < w1001.heap.size) ∧ (Zc (w1001.heap.size) w1003) ∧ (w1003.heap[w.heap.size]? = some BA) ∧ (w1003.heap[w.heap.size + 1]? = some BB) ∧ (w.grownBy w1003 none) from ⟨ne, l5, z5.grown hg, l4, z4.grown hg, at_grown ba hg (by simp), at_grown bb hg (by simp), gb_trans g hg (.inl rfl)⟩)
          clear hHeld hg ne l5 z5 l4 z4 ba bb g
          go_wp2_with fail
          refine hK.out _ _ ?_ (fun hHeld => ?_)
          · exact L3.out
          clear hK K
          try dsimp only at hHeld
          try simp only [Act.put, List.setIfInBounds_toArray, List.set_cons_zero, List.set_cons_succ, List.getElem_toArray, List.getElem_cons_succ, List.getElem_cons_zero]
          refine wpAnyH_ready (rs := [6]) (by kernel_rfl) (by simp) ?_
          refine AllReadyH.cons (o := _) rfl (fun K hK => ?_) AllReadyH.nil
          have hH2 := hHeld
          obtain ⟨ne, l5, z5, l4, z4, ba, bb, g⟩ := hH2
          obtain ⟨_, _, _, _, hz⟩ := z4.ex
          have L6 := hid (show (w1001.heap.size ≠ w1001.heap.size + 1) ∧ (w.heap.size + 1 < w1001.heap.size + 1) ∧ (Zc (w1001.heap.size + 1) ((w1003).setRow (w1001.heap.size) (clV c (.slice ad c.data.length cp)))) ∧ (w.heap.size + 1 < w1001.heap.size) ∧ (Zc (w1001.heap.size) ((w1003).setRow (w1001.heap.size) (clV c (.slice ad c.data.length cp)))) ∧ (((w1003).setRow (w1001.heap.size) (clV c (.slice ad c.data.length cp))).heap[w.heap.size]? = some BA) ∧ (((w1003).setRow (w1001.heap.size) (clV c (.slice ad c.data.length cp))).heap[w.heap.size + 1]? = some BB) ∧ (w.grownBy ((w1003).setRow (w1001.heap.size) (clV c (.slice ad c.data.length cp))) none) from ⟨ne, l5, (z5.row _ _ _ _ _), l4, (z4.row _ _ _ _ _), (at_setRow_other ba (Nat.ne_of_lt (by have := l4; omega))), (at_setRow_other bb (Nat.ne_of_lt l4)), (gb_setRow g (by have := l4; omega))⟩)
          have Ny4 := hid (show ((w1003).setRow (w1001.heap.size) (clV c (.slice ad c.data.length cp))).heap[w1001.heap.size]? = some (.cells (clV c (.slice ad c.data.length cp)) 25) from (at_setRow hz))
          have A6 := hid (hz)
          clear hHeld ne l5 z5 l4 z4 ba bb g
          try simp only [List.getElem_toArray, List.getElem_cons_succ, List.getElem_cons_zero]
          rw [if_pos (by rfl)]
          refine wp_store_row (cs := (clV c (.slice ad c.data.length cp))) A6.out (by kernel_rfl) (by kernel_rfl) (by kernel_rfl) rfl rfl rfl rfl ?_
          refine hK.out _ _ ?_ (fun hHeld => ?_)
          · exact L6.out
          clear hK K
          try dsimp only at hHeld
          try simp only [Act.put, List.setIfInBounds_toArray, List.set_cons_zero, List.set_cons_succ, List.getElem_toArray, List.getElem_cons_succ, List.getElem_cons_zero]
          refine held_stronger (S' := fun w' => (fun w' => w'.heap[w1001.heap.size]? = some (.cells (clV c (.slice ad c.data.length cp)) 25)) w' ∧ ((fun w' => (w1001.heap.size ≠ w1001.heap.size + 1) ∧ (w.heap.size + 1 < w1001.heap.size + 1) ∧ (Zc (w1001.heap.size + 1) w') ∧ (w.heap.size + 1 < w1001.heap.size) ∧ (Zc (w1001.heap.size) w') ∧ (w'.heap[w.heap.size]? = some BA) ∧ (w'.heap[w.heap.size + 1]? = some BB) ∧ (w.grownBy w' none))) w') (fun _ h => h.2) _ _ _ _ ?_
          replace hHeld := And.intro Ny4.out hHeld
          try dsimp only at hHeld
          refine wpAnyH_ready (rs := [7]) (by kernel_rfl) (by simp) ?_
          refine AllReadyH.cons (o := _) rfl (fun K hK => ?_) AllReadyH.nil
          have hH2 := hHeld
          obtain ⟨y4, ne, l5, z5, l4, z4, ba, bb, g⟩ := hH2
          obtain ⟨_, _, _, _, hz⟩ := z5.ex
          have L7 := hid (show ((((w1003).setRow (w1001.heap.size) (clV c (.slice ad c.data.length cp))).setRow (w1001.heap.size + 1) (clV d (.slice ae d.data.length cq))).heap[w1001.heap.size]? = some (.cells (clV c (.slice ad c.data.length cp)) 25)) ∧ (w1001.heap.size ≠ w1001.heap.size + 1) ∧ (w.heap.size + 1 < w1001.heap.size + 1) ∧ (Zc (w1001.heap.size + 1) (((w1003).setRow (w1001.heap.size) (clV c (.slice ad c.data.length cp))).setRow (w1001.heap.size + 1) (clV d (.slice ae d.data.length cq)))) ∧ (w.heap.size + 1 < w1001.heap.size) ∧ (Zc (w1001.heap.size) (((w1003).setRow (w1001.heap.size) (clV c (.slice ad c.data.length cp))).setRow (w1001.heap.size + 1) (clV d (.slice ae d.data.length cq)))) ∧ ((((w1003).setRow (w1001.heap.size) (clV c (.slice ad c.data.length cp))).setRow (w1001.heap.size + 1) (clV d (.slice ae d.data.length cq))).heap[w.heap.size]? = some BA) ∧ ((((w1003).setRow (w1001.heap.size) (clV c (.slice ad c.data.length cp))).setRow (w1001.heap.size + 1) (clV d (.slice ae d.data.length cq))).heap[w.heap.size + 1]? = some BB) ∧ (w.grownBy (((w1003).setRow (w1001.heap.size) (clV c (.slice ad c.data.length cp))).setRow (w1001.heap.size + 1) (clV d (.slice ae d.data.length cq))) none) from ⟨(at_setRow_other y4 (by have := ne; omega)), ne, l5, (z5.row _ _ _ _ _), l4, (z4.row _ _ _ _ _), (at_setRow_other ba (Nat.ne_of_lt (by have := l5; omega))), (at_setRow_other bb (Nat.ne_of_lt l5)), (gb_setRow g (by have := l5; omega))⟩)
          have Ny5 := hid (show (((w1003).setRow (w1001.heap.size) (clV c (.slice ad c.data.length cp))).setRow (w1001.heap.size + 1) (clV d (.slice ae d.data.length cq))).heap[w1001.heap.size + 1]? = some (.cells (clV d (.slice ae d.data.length cq)) 25) from (at_setRow hz))
          have A7 := hid (hz)
          clear hHeld y4 ne l5 z5 l4 z4 ba bb g
          try simp only [List.getElem_toArray, List.getElem_cons_succ, List.getElem_cons_zero]
          rw [if_pos (by rfl)]
          refine wp_store_row (cs := (clV d (.slice ae d.data.length cq))) A7.out (by kernel_rfl) (by kernel_rfl) (by kernel_rfl) rfl rfl rfl rfl ?_
          refine hK.out _ _ ?_ (fun hHeld => ?_)
          · exact L7.out
          clear hK K
          try dsimp only at hHeld
          try simp only [Act.put, List.setIfInBounds_toArray, List.set_cons_zero, List.set_cons_succ, List.getElem_toArray, List.getElem_cons_succ, List.getElem_cons_zero]
          refine held_stronger (S' := fun w' => (fun w' => w'.heap[w1001.heap.size + 1]? = some (.cells (clV d (.slice ae d.data.length cq)) 25)) w' ∧ ((fun w' => (w'.heap[w1001.heap.size]? = some (.cells (clV c (.slice ad c.data.length cp)) 25)) ∧ (w1001.heap.size ≠ w1001.heap.size + 1) ∧ (w.heap.size + 1 < w1001.heap.size + 1) ∧ (Zc (w1001.heap.size + 1) w') ∧ (w.heap.size + 1 < w1001.heap.size) ∧ (Zc (w1001.heap.size) w') ∧ (w'.heap[w.heap.size]? = some BA) ∧ (w'.heap[w.heap.size + 1]? = some BB) ∧ (w.grownBy w' none))) w') (fun _ h => h.2) _ _ _ _ ?_
          replace hHeld := And.intro Ny5.out hHeld
          try dsimp only at hHeld
          refine wpAnyH_done (by kernel_rfl) ?_ _
          obtain ⟨y5, y4, ne, l5, z5, l4, z4, ba, bb, g⟩ := hHeld
          have K := hid (kp_two g y4 y5 HV1.out HV2.out); clear y5 y4 ne l5 z5 l4 z4 ba bb g
          go_wp2_with fail
          go_meet
          exact ⟨_, _, rfl, rfl, K.out⟩
      · have hH2 := hHeld
        obtain ⟨ba, bb, g⟩ := hH2
        have hg : (w1001).grownBy (w1001.alloc (.cells #[.int .u32 0, .int .i64 0, .int .i64 0, .slice none 0 0] 25)) none := World.grownBy_alloc (w1001) _ _
        have L5 := hid (show ((w1001.alloc (.cells #[.int .u32 0, .int .i64 0, .int .i64 0, .slice none 0 0] 25)).heap[w.heap.size]? = some BA) ∧ ((w1001.alloc (.cells #[.int .u32 0, .int .i64 0, .int .i64 0, .slice none 0 0] 25)).heap[w.heap.size + 1]? = some BB) ∧ (w.grownBy (w1001.alloc (.cells #[.int .u32 0, .int .i64 0, .int .i64 0, .slice none 0 0] 25)) none) from ⟨at_grown ba hg (by simp), at_grown bb hg (by simp), gb_trans g hg (.inl rfl)⟩)
        have Nz5 := hid (show Zc (w1001.heap.size) (w1001.alloc (.cells #[.int .u32 0, .int .i64 0, .int .i64 0, .slice none 0 0] 25)) from (by have h : Zc (w1001).heap.size (w1001.alloc (.cells #[.int .u32 0, .int .i64 0, .int .i64 0, .slice none 0 0] 25)) := ⟨⟨_, _, _, _, at_new (w1001) (.cells #[.int .u32 0, .int .i64 0, .int .i64 0, .slice none 0 0] 25)⟩⟩; rw [(show (w1001).heap.size = w1001.heap.size from rfl)] at h; exact h))
        have Nl5 := hid (show w.heap.size + 1 < w1001.heap.size from (by rw [← (show (w1001).heap.size = w1001.heap.size from rfl)]; exact at_lt bb))
        clear hHeld hg ba bb g
        try simp only [List.getElem_toArray, List.getElem_cons_succ, List.getElem_cons_zero]
        go_simp
        refine hK.out _ _ ?_ (fun hHeld => ?_)
        · exact L5.out
        clear hK K
        try dsimp only at hHeld
        try simp only [Act.put, List.setIfInBounds_toArray, List.set_cons_zero, List.set_cons_succ, List.getElem_toArray, List.getElem_cons_succ, List.getElem_cons_zero]
        refine held_stronger (S' := fun w' => (fun w' => Zc (w1001.heap.size) w') w' ∧ ((fun w' => (w'.heap[w.heap.size]? = some BA) ∧ (w'.heap[w.heap.size + 1]? = some BB) ∧ (w.grownBy w' none))) w') (fun _ h => h.2) _ _ _ _ ?_
        replace hHeld := And.intro Nz5.out hHeld
        try dsimp only at hHeld
        refine held_stronger (S' := fun w' => (fun w' => w.heap.size + 1 < w1001.heap.size) w' ∧ ((fun w' => (Zc (w1001.heap.size) w') ∧ (w'.heap[w.heap.size]? = some BA) ∧ (w'.heap[w.heap.size + 1]? = some BB) ∧ (w.grownBy w' none))) w') (fun _ h => h.2) _ _ _ _ ?_
        replace hHeld := And.intro Nl5.out hHeld
        try dsimp only at hHeld
        refine wpAnyH_ready (rs := [3, 4]) (by kernel_rfl) (by simp) ?_
        refine AllReadyH.cons (o := _) rfl (fun K hK => ?_) (AllReadyH.cons (o := _) rfl (fun K hK => ?_) AllReadyH.nil)
        · try simp only [List.getElem_toArray, List.getElem_cons_succ, List.getElem_cons_zero]
          go_simp
          have hH2 := hHeld
          obtain ⟨l5, z5, ba, bb, g⟩ := hH2
          refine (F2.out _).mono ?_
          rintro e w1003 ⟨rfl, hg⟩
          have L3 := hid (show (w.heap.size + 1 < w1001.heap.size) ∧ (Zc (w1001.heap.size) w1003) ∧ (w1003.heap[w.heap.size]? = some BA) ∧ (w1003.heap[w.heap.size + 1]? = some BB) ∧ (w.grownBy w1003 none) from ⟨l5, z5.grown hg, at_grown ba hg (by simp), at_grown bb hg (by simp), gb_trans g hg (.inl rfl)⟩)
          clear hHeld hg l5 z5 ba bb g
          go_wp2_with fail
          refine hK.out _ _ ?_ (fun hHeld => ?_)
          · exact L3.out
          clear hK K
          try dsimp only at hHeld
          try simp only [Act.put, List.setIfInBounds_toArray, List.set_cons_zero, List.set_cons_succ, List.getElem_toArray, List.getElem_cons_succ, List.getElem_cons_zero]
          refine wpAnyH_ready (rs := [4]) (by kernel_rfl) (by simp) ?_
          refine AllReadyH.cons (o := _) rfl (fun K hK => ?_) AllReadyH.nil
          have hH2 := hHeld
          obtain ⟨l5, z5, ba, bb, g⟩ := hH2
          have hg : (w1003).grownBy (w1003.alloc (.cells #[.int .u32 0, .int .i64 0, .int .i64 0, .slice none 0 0] 25)) none := World.grownBy_alloc (w1003) _ _
          have L4 := hid (show (w.heap.size + 1 < w1001.heap.size) ∧ (Zc (w1001.heap.size) (w1003.alloc (.cells #[.int .u32 0, .int .i64 0, .int .i64 0, .slice none 0 0] 25))) ∧ ((w1003.alloc (.cells #[.int .u32 0, .int .i64 0, .int .i64 0, .slice none 0 0] 25)).heap[w.heap.size]? = some BA) ∧ ((w1003.alloc (.cells #[.int .u32 0, .int .i64 0, .int .i64 0, .slice none 0 0] 25)).heap[w.heap.size + 1]? = some BB) ∧ (w.grownBy (w1003.alloc (.cells #[.int .u32 0, .int .i64 0, .int .i64 0, .slice none 0 0] 25)) none) from ⟨l5, z5.grown hg, at_grown ba hg (by simp), at_grown bb hg (by simp), gb_trans g hg (.inl rfl)⟩)
          have Nz4 := hid (show Zc (w1003.heap.size) (w1003.alloc (.cells #[.int .u32 0, .int .i64 0, .int .i64 0, .slice none 0 0] 25)) from (by have h : Zc (w1003).heap.size (w1003.alloc (.cells #[.int .u32 0, .int .i64 0, .int .i64 0, .slice none 0 0] 25)) := ⟨⟨_, _, _, _, at_new (w1003) (.cells #[.int .u32 0, .int .i64 0, .int .i64 0, .slice none 0 0] 25)⟩⟩; rw [(show (w1003).heap.size = w1003.heap.size from rfl)] at h; exact h))
          have Nl4 := hid (show w.heap.size + 1 < w1003.heap.size from (by rw [← (show (w1003).heap.size = w1003.heap.size from rfl)]; exact at_lt bb))
          have Nne := hid (show w1001.heap.size ≠ w1003.heap.size from (Nat.ne_of_lt (by rw [← (show (w1003).heap.size = w1003.heap.size from rfl)]; exact z5.lt)))
          clear hHeld hg l5 z5 ba bb g
          try simp only [List.getElem_toArray, List.getElem_cons_succ, List.getElem_cons_zero]
          go_simp
          refine hK.out _ _ ?_ (fun hHeld => ?_)
          · exact L4.out
          clear hK K
          try dsimp only at hHeld
          try simp only [Act.put, List.setIfInBounds_toArray, List.set_cons_zero, List.set_cons_succ, List.getElem_toArray, List.getElem_cons_succ, List.getElem_cons_zero]
          refine held_stronger (S' := fun w' => (fun w' => Zc (w1003.heap.size) w') w' ∧ ((fun w' => (w.heap.size + 1 < w1001.heap.size) ∧ (Zc (w1001.heap.size) w') ∧ (w'.heap[w.heap.size]? = some BA) ∧ (w'.heap[w.heap.size + 1]? = some BB) ∧ (w.grownBy w' none))) w') (fun _ h => h.2) _ _ _ _ ?_
          replace hHeld := And.intro Nz4.out hHeld
          try dsimp only at hHeld
          refine held_stronger (S' := fun w' => (fun w' => w.heap.size + 1 < w1003.heap.size) w' ∧ ((fun w' => (Zc (w1003.heap.size) w') ∧ (w.heap.size + 1 < w1001.heap.size) ∧ (Zc (w1001.heap.size) w') ∧ (w'.heap[w.heap.size]? = some BA) ∧ (w'.heap[w.heap.size + 1]? = some BB) ∧ (w.grownBy w' none))) w') (fun _ h => h.2) _ _ _ _ ?_
          replace hHeld := And.intro Nl4.out hHeld
          try dsimp only at hHeld
          refine held_stronger (S' := fun w' => (fun w' => w1001.heap.size ≠ w1003.heap.size) w' ∧ ((fun w' => (w.heap.size + 1 < w1003.heap.size) ∧ (Zc (w1003.heap.size) w') ∧ (w.heap.size + 1 < w1001.heap.size) ∧ (Zc (w1001.heap.size) w') ∧ (w'.heap[w.heap.size]? = some BA) ∧ (w'.heap[w.heap.size + 1]? = some BB) ∧ (w.grownBy w' none))) w') (fun _ h => h.2) _ _ _ _ ?_
          replace hHeld := And.intro Nne.out hHeld
          try dsimp only at hHeld
          refine wpAnyH_ready (rs := [6]) (by kernel_rfl) (by simp) ?_
          refine AllReadyH.cons (o := _) rfl (fun K hK => ?_) AllReadyH.nil
          have hH2 := hHeld
          obtain ⟨ne, l4, z4, l5, z5, ba, bb, g⟩ := hH2
          obtain ⟨_, _, _, _, hz⟩ := z4.ex
          have L6 := hid (show (w1001.heap.size ≠ w1003.heap.size) ∧ (w.heap.size + 1 < w1003.heap.size) ∧ (Zc (w1003.heap.size) (((w1003.alloc (.cells #[.int .u32 0, .int .i64 0, .int .i64 0, .slice none 0 0] 25))).setRow (w1003.heap.size) (clV c (.slice ad c.data.length cp)))) ∧ (w.heap.size + 1 < w1001.heap.size) ∧ (Zc (w1001.heap.size) (((w1003.alloc (.cells #[.int .u32 0, .int .i64 0, .int .i64 0, .slice none 0 0] 25))).setRow (w1003.heap.size) (clV c (.slice ad c.data.length cp)))) ∧ ((((w1003.alloc (.cells #[.int .u32 0, .int .i64 0, .int .i64 0, .slice none 0 0] 25))).setRow (w1003.heap.size) (clV c (.slice ad c.data.length cp))).heap[w.heap.size]? = some BA) ∧ ((((w1003.alloc (.cells #[.int .u32 0, .int .i64 0, .int .i64 0, .slice none 0 0] 25))).setRow (w1003.heap.size) (clV c (.slice ad c.data.length cp))).heap[w.heap.size + 1]? = some BB) ∧ (w.grownBy (((w1003.alloc (.cells #[.int .u32 0, .int .i64 0, .int .i64 0, .slice none 0 0] 25))).setRow (w1003.heap.size) (clV c (.slice ad c.data.length cp))) none) from ⟨ne, l4, (z4.row _ _ _ _ _), l5, (z5.row _ _ _ _ _), (at_setRow_other ba (Nat.ne_of_lt (by have := l4; omega))), (at_setRow_other bb (Nat.ne_of_lt l4)), (gb_setRow g (by have := l4; omega))⟩)
          have Ny4 := hid (show (((w1003.alloc (.cells #[.int .u32 0, .int .i64 0, .int .i64 0, .slice none 0 0] 25))).setRow (w1003.heap.size) (clV c (.slice ad c.data.length cp))).heap[w1003.heap.size]? = some (.cells (clV c (.slice ad c.data.length cp)) 25) from (at_setRow hz))
          have A6 := hid (hz)
          clear hHeld ne l4 z4 l5 z5 ba bb g
          try simp only [List.getElem_toArray, List.getElem_cons_succ, List.getElem_cons_zero]
          rw [if_pos (by rfl)]
          refine wp_store_row (cs := (clV c (.slice ad c.data.length cp))) A6.out (by kernel_rfl) (by kernel_rfl) (by kernel_rfl) rfl rfl rfl rfl ?_
          refine hK.out _ _ ?_ (fun hHeld => ?_)
          · exact L6.out
          clear hK K
          try dsimp only at hHeld
          try simp only [Act.put, List.setIfInBounds_toArray, List.set_cons_zero, List.set_cons_succ, List.getElem_toArray, List.getElem_cons_succ, List.getElem_cons_zero]
          refine held_stronger (S' := fun w' => (fun w' => w'.heap[w1003.heap.size]? = some (.cells (clV c (.slice ad c.data.length cp)) 25)) w' ∧ ((fun w' => (w1001.heap.size ≠ w1003.heap.size) ∧ (w.heap.size + 1 < w1003.heap.size) ∧ (Zc (w1003.heap.size) w') ∧ (w.heap.size + 1 < w1001.heap.size) ∧ (Zc (w1001.heap.size) w') ∧ (w'.heap[w.heap.size]? = some BA) ∧ (w'.heap[w.heap.size + 1]? = some BB) ∧ (w.grownBy w' none))) w') (fun _ h => h.2) _ _ _ _ ?_
          replace hHeld := And.intro Ny4.out hHeld
          try dsimp only at hHeld
          refine wpAnyH_ready (rs := [7]) (by kernel_rfl) (by simp) ?_
          refine AllReadyH.cons (o := _) rfl (fun K hK => ?_) AllReadyH.nil
          have hH2 := hHeld
          obtain ⟨y4, ne, l4, z4, l5, z5, ba, bb, g⟩ := hH2
          obtain ⟨_, _, _, _, hz⟩ := z5.ex
          have L7 := hid (show (((((w1003.alloc (.cells #[.int .u32 0, .int .i64 0, .int .i64 0, .slice none 0 0] 25))).setRow (w1003.heap.size) (clV c (.slice ad c.data.length cp))).setRow (w1001.heap.size) (clV d (.slice ae d.data.length cq))).heap[w1003.heap.size]? = some (.cells (clV c (.slice ad c.data.length cp)) 25)) ∧ (w1001.heap.size ≠ w1003.heap.size) ∧ (w.heap.size + 1 < w1003.heap.size) ∧ (Zc (w1003.heap.size) ((((w1003.alloc (.cells #[.int .u32 0, .int .i64 0, .int .i64 0, .slice none 0 0] 25))).setRow (w1003.heap.size) (clV c (.slice ad c.data.length cp))).setRow (w1001.heap.size) (clV d (.slice ae d.data.length cq)))) ∧ (w.heap.size + 1 < w1001.heap.size) ∧ (Zc (w1001.heap.size) ((((w1003.alloc (.cells #[.int .u32 0, .int .i64 0, .int .i64 0, .slice none 0 0] 25))).setRow (w1003.heap.size) (clV c (.slice ad c.data.length cp))).setRow (w1001.heap.size) (clV d (.slice ae d.data.length cq)))) ∧ (((((w1003.alloc (.cells #[.int .u32 0, .int .i64 0, .int .i64 0, .slice none 0 0] 25))).setRow (w1003.heap.size) (clV c (.slice ad c.data.length cp))).setRow (w1001.heap.size) (clV d (.slice ae d.data.length cq))).heap[w.heap.size]? = some BA) ∧ (((((w1003.alloc (.cells #[.int .u32 0, .int .i64 0, .int .i64 0, .slice none 0 0] 25))).setRow (w1003.heap.size) (clV c (.slice ad c.data.length cp))).setRow (w1001.heap.size) (clV d (.slice ae d.data.length cq))).heap[w.heap.size + 1]? = some BB) ∧ (w.grownBy ((((w1003.alloc (.cells #[.int .u32 0, .int .i64 0, .int .i64 0, .slice none 0 0] 25))).setRow (w1003.heap.size) (clV c (.slice ad c.data.length cp))).setRow (w1001.heap.size) (clV d (.slice ae d.data.length cq))) none) from ⟨(at_setRow_other y4 (by have := ne; omega)), ne, l4, (z4.row _ _ _ _ _), l5, (z5.row _ _ _ _ _), (at_setRow_other ba (Nat.ne_of_lt (by have := l5; omega))), (at_setRow_other bb (Nat.ne_of_lt l5)), (gb_setRow g (by have := l5; omega))⟩)
          have Ny5 := hid (show ((((w1003.alloc (.cells #[.int .u32 0, .int .i64 0, .int .i64 0, .slice none 0 0] 25))).setRow (w1003.heap.size) (clV c (.slice ad c.data.length cp))).setRow (w1001.heap.size) (clV d (.slice ae d.data.length cq))).heap[w1001.heap.size]? = some (.cells (clV d (.slice ae d.data.length cq)) 25) from (at_setRow hz))
          have A7 := hid (hz)
          clear hHeld y4 ne l4 z4 l5 z5 ba bb g
          try simp only [List.getElem_toArray, List.getElem_cons_succ, List.getElem_cons_zero]
          rw [if_pos (by rfl)]
          refine wp_store_row (cs := (clV d (.slice ae d.data.length cq))) A7.out (by kernel_rfl) (by kernel_rfl) (by kernel_rfl) rfl rfl rfl rfl ?_
          refine hK.out _ _ ?_ (fun hHeld => ?_)
          · exact L7.out
          clear hK K
          try dsimp only at hHeld
          try simp only [Act.put, List.setIfInBounds_toArray, List.set_cons_zero, List.set_cons_succ, List.getElem_toArray, List.getElem_cons_succ, List.getElem_cons_zero]
          refine held_stronger (S' := fun w' => (fun w' => w'.heap[w1001.heap.size]? = some (.cells (clV d (.slice ae d.data.length cq)) 25)) w' ∧ ((fun w' => (w'.heap[w1003.heap.size]? = some (.cells (clV c (.slice ad c.data.length cp)) 25)) ∧ (w1001.heap.size ≠ w1003.heap.size) ∧ (w.heap.size + 1 < w1003.heap.size) ∧ (Zc (w1003.heap.size) w') ∧ (w.heap.size + 1 < w1001.heap.size) ∧ (Zc (w1001.heap.size) w') ∧ (w'.heap[w.heap.size]? = some BA) ∧ (w'.heap[w.heap.size + 1]? = some BB) ∧ (w.grownBy w' none))) w') (fun _ h => h.2) _ _ _ _ ?_
          replace hHeld := And.intro Ny5.out hHeld
          try dsimp only at hHeld
          refine wpAnyH_done (by kernel_rfl) ?_ _
          obtain ⟨y5, y4, ne, l4, z4, l5, z5, ba, bb, g⟩ := hHeld
          have K := hid (kp_two g y4 y5 HV1.out HV2.out); clear y5 y4 ne l4 z4 l5 z5 ba bb g
          go_wp2_with fail
          go_meet
          exact ⟨_, _, rfl, rfl, K.out⟩
        · have hH2 := hHeld
          obtain ⟨l5, z5, ba, bb, g⟩ := hH2
          have hg : ((w1001.alloc (.cells #[.int .u32 0, .int .i64 0, .int .i64 0, .slice none 0 0] 25))).grownBy ((w1001.alloc (.cells #[.int .u32 0, .int .i64 0, .int .i64 0, .slice none 0 0] 25)).alloc (.cells #[.int .u32 0, .int .i64 0, .int .i64 0, .slice none 0 0] 25)) none := World.grownBy_alloc ((w1001.alloc (.cells #[.int .u32 0, .int .i64 0, .int .i64 0, .slice none 0 0] 25))) _ _
          have L4 := hid (show (w.heap.size + 1 < w1001.heap.size) ∧ (Zc (w1001.heap.size) ((w1001.alloc (.cells #[.int .u32 0, .int .i64 0, .int .i64 0, .slice none 0 0] 25)).alloc (.cells #[.int .u32 0, .int .i64 0, .int .i64 0, .slice none 0 0] 25))) ∧ (((w1001.alloc (.cells #[.int .u32 0, .int .i64 0, .int .i64 0, .slice none 0 0] 25)).alloc (.cells #[.int .u32 0, .int .i64 0, .int .i64 0, .slice none 0 0] 25)).heap[w.heap.size]? = some BA) ∧ (((w1001.alloc (.cells #[.int .u32 0, .int .i64 0, .int .i64 0, .slice none 0 0] 25)).alloc (.cells #[.int .u32 0, .int .i64 0, .int .i64 0, .slice none 0 0] 25)).heap[w.heap.size + 1]? = some BB) ∧ (w.grownBy ((w1001.alloc (.cells #[.int .u32 0, .int .i64 0, .int .i64 0, .slice none 0 0] 25)).alloc (.cells #[.int .u32 0, .int .i64 0, .int .i64 0, .slice none 0 0] 25)) none) from ⟨l5, z5.grown hg, at_grown ba hg (by simp), at_grown bb hg (by simp), gb_trans g hg (.inl rfl)⟩)
          have Nz4 := hid (show Zc (w1001.heap.size + 1) ((w1001.alloc (.cells #[.int .u32 0, .int .i64 0, .int .i64 0, .slice none 0 0] 25)).alloc (.cells #[.int .u32 0, .int .i64 0, .int .i64 0, .slice none 0 0] 25)) from (by have h : Zc ((w1001.alloc (.cells #[.int .u32 0, .int .i64 0, .int .i64 0, .slice none 0 0] 25))).heap.size ((w1001.alloc (.cells #[.int .u32 0, .int .i64 0, .int .i64 0, .slice none 0 0] 25)).alloc (.cells #[.int .u32 0, .int .i64 0, .int .i64 0, .slice none 0 0] 25)) := ⟨⟨_, _, _, _, at_new ((w1001.alloc (.cells #[.int .u32 0, .int .i64 0, .int .i64 0, .slice none 0 0] 25))) (.cells #[.int .u32 0, .int .i64 0, .int .i64 0, .slice none 0 0] 25)⟩⟩; rw [(show ((w1001.alloc (.cells #[.int .u32 0, .int .i64 0, .int .i64 0, .slice none 0 0] 25))).heap.size = w1001.heap.size + 1 from alloc_size _ _)] at h; exact h))
          have Nl4 := hid (show w.heap.size + 1 < w1001.heap.size + 1 from (by rw [← (show ((w1001.alloc (.cells #[.int .u32 0, .int .i64 0, .int .i64 0, .slice none 0 0] 25))).heap.size = w1001.heap.size + 1 from alloc_size _ _)]; exact at_lt bb))
          have Nne := hid (show w1001.heap.size ≠ w1001.heap.size + 1 from (Nat.ne_of_lt (by rw [← (show ((w1001.alloc (.cells #[.int .u32 0, .int .i64 0, .int .i64 0, .slice none 0 0] 25))).heap.size = w1001.heap.size + 1 from alloc_size _ _)]; exact z5.lt)))
          clear hHeld hg l5 z5 ba bb g
          try simp only [List.getElem_toArray, List.getElem_cons_succ, List.getElem_cons_zero]
          go_simp
          refine hK.out _ _ ?_ (fun hHeld => ?_)
          · exact L4.out
          clear hK K
          try dsimp only at hHeld
          try simp only [Act.put, List.setIfInBounds_toArray, List.set_cons_zero, List.set_cons_succ, List.getElem_toArray, List.getElem_cons_succ, List.getElem_cons_zero]
          refine held_stronger (S' := fun w' => (fun w' => Zc (w1001.heap.size + 1) w') w' ∧ ((fun w' => (w.heap.size + 1 < w1001.heap.size) ∧ (Zc (w1001.heap.size) w') ∧ (w'.heap[w.heap.size]? = some BA) ∧ (w'.heap[w.heap.size + 1]? = some BB) ∧ (w.grownBy w' none))) w') (fun _ h => h.2) _ _ _ _ ?_
          replace hHeld := And.intro Nz4.out hHeld
          try dsimp only at hHeld
          refine held_stronger (S' := fun w' => (fun w' => w.heap.size + 1 < w1001.heap.size + 1) w' ∧ ((fun w' => (Zc (w1001.heap.size + 1) w') ∧ (w.heap.size + 1 < w1001.heap.size) ∧ (Zc (w1001.heap.size) w') ∧ (w'.heap[w.heap.size]? = some BA) ∧ (w'.heap[w.heap.size + 1]? = some BB) ∧ (w.grownBy w' none))) w') (fun _ h => h.2) _ _ _ _ ?_
          replace hHeld := And.intro Nl4.out hHeld
          try dsimp only at hHeld
          refine held_stronger (S' := fun w' => (fun w' => w1001.heap.size ≠ w1001.heap.size + 1) w' ∧ ((fun w' => (w.heap.size + 1 < w1001.heap.size + 1) ∧ (Zc (w1001.heap.size + 1) w') ∧ (w.heap.size + 1 < w1001.heap.size) ∧ (Zc (w1001.heap.size) w') ∧ (w'.heap[w.heap.size]? = some BA) ∧ (w'.heap[w.heap.size + 1]? = some BB) ∧ (w.grownBy w' none))) w') (fun _ h => h.2) _ _ _ _ ?_
          replace hHeld := And.intro Nne.out hHeld
          try dsimp only at hHeld
          refine wpAnyH_ready (rs := [3]) (by kernel_rfl) (by simp) ?_
          refine AllReadyH.cons (o := _) rfl (fun K hK => ?_) AllReadyH.nil
          try simp only [List.getElem_toArray, List.getElem_cons_succ, List.getElem_cons_zero]
          go_simp
          have hH2 := hHeld
          obtain ⟨ne, l4, z4, l5, z5, ba, bb, g⟩ := hH2
          refine (F2.out _).mono ?_
          rintro e w1003 ⟨rfl, hg⟩
          have L3 := hid (show (w1001.heap.size ≠ w1001.heap.size + 1) ∧ (w.heap.size + 1 < w1001.heap.size + 1) ∧ (Zc (w1001.heap.size + 1) w1003) ∧ (w.heap.size + 1 < w1001.heap.size) ∧ (Zc (w1001.heap.size) w1003) ∧ (w1003.heap[w.heap.size]? = some BA) ∧ (w1003.heap[w.heap.size + 1]? = some BB) ∧ (w.grownBy w1003 none) from ⟨ne, l4, z4.grown hg, l5, z5.grown hg, at_grown ba hg (by simp), at_grown bb hg (by simp), gb_trans g hg (.inl rfl)⟩)
          clear hHeld hg ne l4 z4 l5 z5 ba bb g
          go_wp2_with fail
          refine hK.out _ _ ?_ (fun hHeld => ?_)
          · exact L3.out
          clear hK K
          try dsimp only at hHeld
          try simp only [Act.put, List.setIfInBounds_toArray, List.set_cons_zero, List.set_cons_succ, List.getElem_toArray, List.getElem_cons_succ, List.getElem_cons_zero]
          refine wpAnyH_ready (rs := [6]) (by kernel_rfl) (by simp) ?_
          refine AllReadyH.cons (o := _) rfl (fun K hK => ?_) AllReadyH.nil
          have hH2 := hHeld
          obtain ⟨ne, l4, z4, l5, z5, ba, bb, g⟩ := hH2
          obtain ⟨_, _, _, _, hz⟩ := z4.ex
          have L6 := hid (show (w1001.heap.size ≠ w1001.heap.size + 1) ∧ (w.heap.size + 1 < w1001.heap.size + 1) ∧ (Zc (w1001.heap.size + 1) ((w1003).setRow (w1001.heap.size + 1) (clV c (.slice ad c.data.length cp)))) ∧ (w.heap.size + 1 < w1001.heap.size) ∧ (Zc (w1001.heap.size) ((w1003).setRow (w1001.heap.size + 1) (clV c (.slice ad c.data.length cp)))) ∧ (((w1003).setRow (w1001.heap.size + 1) (clV c (.slice ad c.data.length cp))).heap[w.heap.size]? = some BA) ∧ (((w1003).setRow (w1001.heap.size + 1) (clV c (.slice ad c.data.length cp))).heap[w.heap.size + 1]? = some BB) ∧ (w.grownBy ((w1003).setRow (w1001.heap.size + 1) (clV c (.slice ad c.data.length cp))) none) from ⟨ne, l4, (z4.row _ _ _ _ _), l5, (z5.row _ _ _ _ _), (at_setRow_other ba (Nat.ne_of_lt (by have := l4; omega))), (at_setRow_other bb (Nat.ne_of_lt l4)), (gb_setRow g (by have := l4; omega))⟩)
          have Ny4 := hid (show ((w1003).setRow (w1001.heap.size + 1) (clV c (.slice ad c.data.length cp))).heap[w1001.heap.size + 1]? = some (.cells (clV c (.slice ad c.data.length cp)) 25) from (at_setRow hz))
          have A6 := hid (hz)
          clear hHeld ne l4 z4 l5 z5 ba bb g
          try simp only [List.getElem_toArray, List.getElem_cons_succ, List.getElem_cons_zero]
          rw [if_pos (by rfl)]
          refine wp_store_row (cs := (clV c (.slice ad c.data.length cp))) A6.out (by kernel_rfl) (by kernel_rfl) (by kernel_rfl) rfl rfl rfl rfl ?_
          refine hK.out _ _ ?_ (fun hHeld => ?_)
          · exact L6.out
          clear hK K
          try dsimp only at hHeld
          try simp only [Act.put, List.setIfInBounds_toArray, List.set_cons_zero, List.set_cons_succ, List.getElem_toArray, List.getElem_cons_succ, List.getElem_cons_zero]
          refine held_stronger (S' := fun w' => (fun w' => w'.heap[w1001.heap.size + 1]? = some (.cells (clV c (.slice ad c.data.length cp)) 25)) w' ∧ ((fun w' => (w1001.heap.size ≠ w1001.heap.size + 1) ∧ (w.heap.size + 1 < w1001.heap.size + 1) ∧ (Zc (w1001.heap.size + 1) w') ∧ (w.heap.size + 1 < w1001.heap.size) ∧ (Zc (w1001.heap.size) w') ∧ (w'.heap[w.heap.size]? = some BA) ∧ (w'.heap[w.heap.size + 1]? = some BB) ∧ (w.grownBy w' none))) w') (fun _ h => h.2) _ _ _ _ ?_
          replace hHeld := And.intro Ny4.out hHeld
          try dsimp only at hHeld
          refine wpAnyH_ready (rs := [7]) (by kernel_rfl) (by simp) ?_
          refine AllReadyH.cons (o := _) rfl (fun K hK => ?_) AllReadyH.nil
          have hH2 := hHeld
          obtain ⟨y4, ne, l4, z4, l5, z5, ba, bb, g⟩ := hH2
          obtain ⟨_, _, _, _, hz⟩ := z5.ex
          have L7 := hid (show ((((w1003).setRow (w1001.heap.size + 1) (clV c (.slice ad c.data.length cp))).setRow (w1001.heap.size) (clV d (.slice ae d.data.length cq))).heap[w1001.heap.size + 1]? = some (.cells (clV c (.slice ad c.data.length cp)) 25)) ∧ (w1001.heap.size ≠ w1001.heap.size + 1) ∧ (w.heap.size + 1 < w1001.heap.size + 1) ∧ (Zc (w1001.heap.size + 1) (((w1003).setRow (w1001.heap.size + 1) (clV c (.slice ad c.data.length cp))).setRow (w1001.heap.size) (clV d (.slice ae d.data.length cq)))) ∧ (w.heap.size + 1 < w1001.heap.size) ∧ (Zc (w1001.heap.size) (((w1003).setRow (w1001.heap.size + 1) (clV c (.slice ad c.data.length cp))).setRow (w1001.heap.size) (clV d (.slice ae d.data.length cq)))) ∧ ((((w1003).setRow (w1001.heap.size + 1) (clV c (.slice ad c.data.length cp))).setRow (w1001.heap.size) (clV d (.slice ae d.data.length cq))).heap[w.heap.size]? = some BA) ∧ ((((w1003).setRow (w1001.heap.size + 1) (clV c (.slice ad c.data.length cp))).setRow (w1001.heap.size) (clV d (.slice ae d.data.length cq))).heap[w.heap.size + 1]? = some BB) ∧ (w.grownBy (((w1003).setRow (w1001.heap.size + 1) (clV c (.slice ad c.data.length cp))).setRow (w1001.heap.size) (clV d (.slice ae d.data.length cq))) none) from ⟨(at_setRow_other y4 (by have := ne; omega)), ne, l4, (z4.row _ _ _ _ _), l5, (z5.row _ _ _ _ _), (at_setRow_other ba (Nat.ne_of_lt (by have := l5; omega))), (at_setRow_other bb (Nat.ne_of_lt l5)), (gb_setRow g (by have := l5; omega))⟩)
          have Ny5 := hid (show (((w1003).setRow (w1001.heap.size + 1) (clV c (.slice ad c.data.length cp))).setRow (w1001.heap.size) (clV d (.slice ae d.data.length cq))).heap[w1001.heap.size]? = some (.cells (clV d (.slice ae d.data.length cq)) 25) from (at_setRow hz))
          have A7 := hid (hz)
          clear hHeld y4 ne l4 z4 l5 z5 ba bb g
          try simp only [List.getElem_toArray, List.getElem_cons_succ, List.getElem_cons_zero]
          rw [if_pos (by rfl)]
          refine wp_store_row (cs := (clV d (.slice ae d.data.length cq))) A7.out (by kernel_rfl) (by kernel_rfl) (by kernel_rfl) rfl rfl rfl rfl ?_
          refine hK.out _ _ ?_ (fun hHeld => ?_)
          · exact L7.out
          clear hK K
          try dsimp only at hHeld
          try simp only [Act.put, List.setIfInBounds_toArray, List.set_cons_zero, List.set_cons_succ, List.getElem_toArray, List.getElem_cons_succ, List.getElem_cons_zero]
          refine held_stronger (S' := fun w' => (fun w' => w'.heap[w1001.heap.size]? = some (.cells (clV d (.slice ae d.data.length cq)) 25)) w' ∧ ((fun w' => (w'.heap[w1001.heap.size + 1]? = some (.cells (clV c (.slice ad c.data.length cp)) 25)) ∧ (w1001.heap.size ≠ w1001.heap.size + 1) ∧ (w.heap.size + 1 < w1001.heap.size + 1) ∧ (Zc (w1001.heap.size + 1) w') ∧ (w.heap.size + 1 < w1001.heap.size) ∧ (Zc (w1001.heap.size) w') ∧ (w'.heap[w.heap.size]? = some BA) ∧ (w'.heap[w.heap.size + 1]? = some BB) ∧ (w.grownBy w' none))) w') (fun _ h => h.2) _ _ _ _ ?_
          replace hHeld := And.intro Ny5.out hHeld
          try dsimp only at hHeld
          refine wpAnyH_done (by kernel_rfl) ?_ _
          obtain ⟨y5, y4, ne, l4, z4, l5, z5, ba, bb, g⟩ := hHeld
          have K := hid (kp_two g y4 y5 HV1.out HV2.out); clear y5 y4 ne l4 z4 l5 z5 ba bb g
          go_wp2_with fail
          go_meet
          exact ⟨_, _, rfl, rfl, K.out⟩
    · have hH2 := hHeld
      obtain ⟨ba, bb, g⟩ := hH2
      have hg : (w0.drew).grownBy ((w0.alloc (.cells #[.int .u32 0, .int .i64 0, .int .i64 0, .slice none 0 0] 25)).drew) none := World.grownBy_alloc (w0.drew) _ _
      have L4 := hid (show (((w0.alloc (.cells #[.int .u32 0, .int .i64 0, .int .i64 0, .slice none 0 0] 25)).drew).heap[w.heap.size]? = some BA) ∧ (((w0.alloc (.cells #[.int .u32 0, .int .i64 0, .int .i64 0, .slice none 0 0] 25)).drew).heap[w.heap.size + 1]? = some BB) ∧ (w.grownBy ((w0.alloc (.cells #[.int .u32 0, .int .i64 0, .int .i64 0, .slice none 0 0] 25)).drew) none) from ⟨at_grown ba hg (by simp), at_grown bb hg (by simp), gb_trans g hg (.inl rfl)⟩)
      have Nz4 := hid (show Zc (w0.heap.size) ((w0.alloc (.cells #[.int .u32 0, .int .i64 0, .int .i64 0, .slice none 0 0] 25)).drew) from (by have h : Zc (w0.drew).heap.size ((w0.alloc (.cells #[.int .u32 0, .int .i64 0, .int .i64 0, .slice none 0 0] 25)).drew) := ⟨⟨_, _, _, _, at_new (w0.drew) (.cells #[.int .u32 0, .int .i64 0, .int .i64 0, .slice none 0 0] 25)⟩⟩; rw [(show (w0.drew).heap.size = w0.heap.size from rfl)] at h; exact h))
      have Nl4 := hid (show w.heap.size + 1 < w0.heap.size from (by rw [← (show (w0.drew).heap.size = w0.heap.size from rfl)]; exact at_lt bb))
      clear hHeld hg ba bb g
      try simp only [List.getElem_toArray, List.getElem_cons_succ, List.getElem_cons_zero]
      go_simp
      refine hK.out _ _ ?_ (fun hHeld => ?_)
      · exact L4.out
      clear hK K
      try dsimp only at hHeld
      try simp only [Act.put, List.setIfInBounds_toArray, List.set_cons_zero, List.set_cons_succ, List.getElem_toArray, List.getElem_cons_succ, List.getElem_cons_zero]
      refine held_stronger (S' := fun w' => (fun w' => Zc (w0.heap.size) w') w' ∧ ((fun w' => (w'.heap[w.heap.size]? = some BA) ∧ (w'.heap[w.heap.size + 1]? = some BB) ∧ (w.grownBy w' none))) w') (fun _ h => h.2) _ _ _ _ ?_
      replace hHeld := And.intro Nz4.out hHeld
      try dsimp only at hHeld
      refine held_stronger (S' := fun w' => (fun w' => w.heap.size + 1 < w0.heap.size) w' ∧ ((fun w' => (Zc (w0.heap.size) w') ∧ (w'.heap[w.heap.size]? = some BA) ∧ (w'.heap[w.heap.size + 1]? = some BB) ∧ (w.grownBy w' none))) w') (fun _ h => h.2) _ _ _ _ ?_
      replace hHeld := And.intro Nl4.out hHeld
      try dsimp only at hHeld
      refine wpAnyH_ready (rs := [1, 5]) (by kernel_rfl) (by simp) ?_
      refine AllReadyH.cons (o := _) rfl (fun K hK => ?_) (AllReadyH.cons (o := _) rfl (fun K hK => ?_) AllReadyH.nil)
      · try simp only [List.getElem_toArray, List.getElem_cons_succ, List.getElem_cons_zero]
        go_simp
        have hH2 := hHeld
        obtain ⟨l4, z4, ba, bb, g⟩ := hH2
        refine (F1.out _).mono ?_
        rintro e w1001 ⟨rfl, hg⟩
        have L1 := hid (show (w.heap.size + 1 < w0.heap.size) ∧ (Zc (w0.heap.size) w1001) ∧ (w1001.heap[w.heap.size]? = some BA) ∧ (w1001.heap[w.heap.size + 1]? = some BB) ∧ (w.grownBy w1001 none) from ⟨l4, z4.grown hg, at_grown ba hg (by simp), at_grown bb hg (by simp), gb_trans g hg (.inl rfl)⟩)
        clear hHeld hg l4 z4 ba bb g
        go_wp2_with fail
        refine hK.out _ _ ?_ (fun hHeld => ?_)
        · exact L1.out
        clear hK K
        try dsimp only at hHeld
        try simp only [Act.put, List.setIfInBounds_toArray, List.set_cons_zero, List.set_cons_succ, List.getElem_toArray, List.getElem_cons_succ, List.getElem_cons_zero]
        refine wpAnyH_ready (rs := [3, 5]) (by kernel_rfl) (by simp) ?_
        refine AllReadyH.cons (o := _) rfl (fun K hK => ?_) (AllReadyH.cons (o := _) rfl (fun K hK => ?_) AllReadyH.nil)
        · try simp only [List.getElem_toArray, List.getElem_cons_succ, List.getElem_cons_zero]
          go_simp
          have hH2 := hHeld
          obtain ⟨l4, z4, ba, bb, g⟩ := hH2
          refine (F2.out _).mono ?_
          rintro e w1003 ⟨rfl, hg⟩
          have L3 := hid (show (w.heap.size + 1 < w0.heap.size) ∧ (Zc (w0.heap.size) w1003) ∧ (w1003.heap[w.heap.size]? = some BA) ∧ (w1003.heap[w.heap.size + 1]? = some BB) ∧ (w.grownBy w1003 none) from ⟨l4, z4.grown hg, at_grown ba hg (by simp), at_grown bb hg (by simp), gb_trans g hg (.inl rfl)⟩)
          clear hHeld hg l4 z4 ba bb g
          go_wp2_with fail
          refine hK.out _ _ ?_ (fun hHeld => ?_)
          · exact L3.out
          clear hK K
          try dsimp only at hHeld
          try simp only [Act.put, List.setIfInBounds_toArray, List.set_cons_zero, List.set_cons_succ, List.getElem_toArray, List.getElem_cons_succ, List.getElem_cons_zero]
          refine wpAnyH_ready (rs := [5]) (by kernel_rfl) (by simp) ?_
          refine AllReadyH.cons (o := _) rfl (fun K hK => ?_) AllReadyH.nil
          have hH2 := hHeld
          obtain ⟨l4, z4, ba, bb, g⟩ := hH2
          have hg : (w1003).grownBy (w1003.alloc (.cells #[.int .u32 0, .int .i64 0, .int .i64 0, .slice none 0 0] 25)) none := World.grownBy_alloc (w1003) _ _
          have L5 := hid (show (w.heap.size + 1 < w0.heap.size) ∧ (Zc (w0.heap.size) (w1003.alloc (.cells #[.int .u32 0, .int .i64 0, .int .i64 0, .slice none 0 0] 25))) ∧ ((w1003.alloc (.cells #[.int .u32 0, .int .i64 0, .int .i64 0, .slice none 0 0] 25)).heap[w.heap.size]? = some BA) ∧ ((w1003.alloc (.cells #[.int .u32 0, .int .i64 0, .int .i64 0, .slice none 0 0] 25)).heap[w.heap.size + 1]? = some BB) ∧ (w.grownBy (w1003.alloc (.cells #[.int .u32 0, .int .i64 0, .int .i64 0, .slice none 0 0] 25)) none) from ⟨l4, z4.grown hg, at_grown ba hg (by simp), at_grown bb hg (by simp), gb_trans g hg (.inl rfl)⟩)
          have Nz5 := hid (show Zc (w1003.heap.size) (w1003.alloc (.cells #[.int .u32 0, .int .i64 0, .int .i64 0, .slice none 0 0] 25)) from (by have h : Zc (w1003).heap.size (w1003.alloc (.cells #[.int .u32 0, .int .i64 0, .int .i64 0, .slice none 0 0] 25)) := ⟨⟨_, _, _, _, at_new (w1003) (.cells #[.int .u32 0, .int .i64 0, .int .i64 0, .slice none 0 0] 25)⟩⟩; rw [(show (w1003).heap.size = w1003.heap.size from rfl)] at h; exact h))
          have Nl5 := hid (show w.heap.size + 1 < w1003.heap.size from (by rw [← (show (w1003).heap.size = w1003.heap.size from rfl)]; exact at_lt bb))
          have Nne := hid (show w0.heap.size ≠ w1003.heap.size from (Nat.ne_of_lt (by rw [← (show (w1003).heap.size = w1003.heap.size from rfl)]; exact z4.lt)))
          clear hHeld hg l4 z4 ba bb g
          try simp only [List.getElem_toArray, List.getElem_cons_succ, List.getElem_cons_zero]
          go_simp
          refine hK.out _ _ ?_ (fun hHeld => ?_)
          · exact L5.out
          clear hK K
          try dsimp only at hHeld
          try simp only [Act.put, List.setIfInBounds_toArray, List.set_cons_zero, List.set_cons_succ, List.getElem_toArray, List.getElem_cons_succ, List.getElem_cons_zero]
          refine held_stronger (S' := fun w' => (fun w' => Zc (w1003.heap.size) w') w' ∧ ((fun w' => (w.heap.size + 1 < w0.heap.size) ∧ (Zc (w0.heap.size) w') ∧ (w'.heap[w.heap.size]? = some BA) ∧ (w'.heap[w.heap.size + 1]? = some BB) ∧ (w.grownBy w' none))) w') (fun _ h => h.2) _ _ _ _ ?_
          replace hHeld := And.intro Nz5.out hHeld
          try dsimp only at hHeld
          refine held_stronger (S' := fun w' => (fun w' => w.heap.size + 1 < w1003.heap.size) w' ∧ ((fun w' => (Zc (w1003.heap.size) w') ∧ (w.heap.size + 1 < w0.heap.size) ∧ (Zc (w0.heap.size) w') ∧ (w'.heap[w.heap.size]? = some BA) ∧ (w'.heap[w.heap.size + 1]? = some BB) ∧ (w.grownBy w' none))) w') (fun _ h => h.2) _ _ _ _ ?_
          replace hHeld := And.intro Nl5.out hHeld
          try dsimp only at hHeld
          refine held_stronger (S' := fun w' => (fun w' => w0.heap.size ≠ w1003.heap.size) w' ∧ ((fun w' => (w.heap.size + 1 < w1003.heap.size) ∧ (Zc (w1003.heap.size) w') ∧ (w.heap.size + 1 < w0.heap.size) ∧ (Zc (w0.heap.size) w') ∧ (w'.heap[w.heap.size]? = some BA) ∧ (w'.heap[w.heap.size + 1]? = some BB) ∧ (w.grownBy w' none))) w') (fun _ h => h.2) _ _ _ _ ?_
          replace hHeld := And.intro Nne.out hHeld
          try dsimp only at hHeld
          refine wpAnyH_ready (rs := [6]) (by kernel_rfl) (by simp) ?_
          refine AllReadyH.cons (o := _) rfl (fun K hK => ?_) AllReadyH.nil
          have hH2 := hHeld
          obtain ⟨ne, l5, z5, l4, z4, ba, bb, g⟩ := hH2
          obtain ⟨_, _, _, _, hz⟩ := z4.ex
          have L6 := hid (show (w0.heap.size ≠ w1003.heap.size) ∧ (w.heap.size + 1 < w1003.heap.size) ∧ (Zc (w1003.heap.size) (((w1003.alloc (.cells #[.int .u32 0, .int .i64 0, .int .i64 0, .slice none 0 0] 25))).setRow (w0.heap.size) (clV c (.slice ad c.data.length cp)))) ∧ (w.heap.size + 1 < w0.heap.size) ∧ (Zc (w0.heap.size) (((w1003.alloc (.cells #[.int .u32 0, .int .i64 0, .int .i64 0, .slice none 0 0] 25))).setRow (w0.heap.size) (clV c (.slice ad c.data.length cp)))) ∧ ((((w1003.alloc (.cells #[.int .u32 0, .int .i64 0, .int .i64 0, .slice none 0 0] 25))).setRow (w0.heap.size) (clV c (.slice ad c.data.length cp))).heap[w.heap.size]? = some BA) ∧ ((((w1003.alloc (.cells #[.int .u32 0, .int .i64 0, .int .i64 0, .slice none 0 0] 25))).setRow (w0.heap.size) (clV c (.slice ad c.data.length cp))).heap[w.heap.size + 1]? = some BB) ∧ (w.grownBy (((w1003.alloc (.cells #[.int .u32 0, .int .i64 0, .int .i64 0, .slice none 0 0] 25))).setRow (w0.heap.size) (clV c (.slice ad c.data.length cp))) none) from ⟨ne, l5, (z5.row _ _ _ _ _), l4, (z4.row _ _ _ _ _), (at_setRow_other ba (Nat.ne_of_lt (by have := l4; omega))), (at_setRow_other bb (Nat.ne_of_lt l4)), (gb_setRow g (by have := l4; omega))⟩)
          have Ny4 := hid (show (((w1003.alloc (.cells #[.int .u32 0, .int .i64 0, .int .i64 0, .slice none 0 0] 25))).setRow (w0.heap.size) (clV c (.slice ad c.data.length cp))).heap[w0.heap.size]? = some (.cells (clV c (.slice ad c.data.length cp)) 25) from (at_setRow hz))
          have A6 := hid (hz)
          clear hHeld ne l5 z5 l4 z4 ba bb g
          try simp only [List.getElem_toArray, List.getElem_cons_succ, List.getElem_cons_zero]
          rw [if_pos (by rfl)]
          refine wp_store_row (cs := (clV c (.slice ad c.data.length cp))) A6.out (by kernel_rfl) (by kernel_rfl) (by kernel_rfl) rfl rfl rfl rfl ?_
          refine hK.out _ _ ?_ (fun hHeld => ?_)
          · exact L6.out
          clear hK K
          try dsimp only at hHeld
          try simp only [Act.put, List.setIfInBounds_toArray, List.set_cons_zero, List.set_cons_succ, List.getElem_toArray, List.getElem_cons_succ, List.getElem_cons_zero]
          refine held_stronger (S' := fun w' => (fun w' => w'.heap[w0.heap.size]? = some (.cells (clV c (.slice ad c.data.length cp)) 25)) w' ∧ ((fun w' => (w0.heap.size ≠ w1003.heap.size) ∧ (w.heap.size + 1 < w1003.heap.size) ∧ (Zc (w1003.heap.size) w') ∧ (w.heap.size + 1 < w0.heap.size) ∧ (Zc (w0.heap.size) w') ∧ (w'.heap[w.heap.size]? = some BA) ∧ (w'.heap[w.heap.size + 1]? = some BB) ∧ (w.grownBy w' none))) w') (fun _ h => h.2) _ _ _ _ ?_
          replace hHeld := And.intro Ny4.out hHeld
          try dsimp only at hHeld
          refine wpAnyH_ready (rs := [7]) (by kernel_rfl) (by simp) ?_
          refine AllReadyH.cons (o := _) rfl (fun K hK => ?_) AllReadyH.nil
          have hH2 := hHeld
          obtain ⟨y4, ne, l5, z5, l4, z4, ba, bb, g⟩ := hH2
          obtain ⟨_, _, _, _, hz⟩ := z5.ex
          have L7 := hid (show (((((w1003.alloc (.cells #[.int .u32 0, .int .i64 0, .int .i64 0, .slice none 0 0] 25))).setRow (w0.heap.size) (clV c (.slice ad c.data.length cp))).setRow (w1003.heap.size) (clV d (.slice ae d.data.length cq))).heap[w0.heap.size]? = some (.cells (clV c (.slice ad c.data.length cp)) 25)) ∧ (w0.heap.size ≠ w1003.heap.size) ∧ (w.heap.size + 1 < w1003.heap.size) ∧ (Zc (w1003.heap.size) ((((w1003.alloc (.cells #[.int .u32 0, .int .i64 0, .int .i64 0, .slice none 0 0] 25))).setRow (w0.heap.size) (clV c (.slice ad c.data.length cp))).setRow (w1003.heap.size) (clV d (.slice ae d.data.length cq)))) ∧ (w.heap.size + 1 < w0.heap.size) ∧ (Zc (w0.heap.size) ((((w1003.alloc (.cells #[.int .u32 0, .int .i64 0, .int .i64 0, .slice none 0 0] 25))).setRow (w0.heap.size) (clV c (.slice ad c.data.length cp))).setRow (w1003.heap.size) (clV d (.slice ae d.data.length cq)))) ∧ (((((w1003.alloc (.cells #[.int .u32 0, .int .i64 0, .int .i64 0, .slice none 0 0] 25))).setRow (w0.heap.size) (clV c (.slice ad c.data.length cp))).setRow (w1003.heap.size) (clV d (.slice ae d.data.length cq))).heap[w.heap.size]? = some BA) ∧ (((((w1003.alloc (.cells #[.int .u32 0, .int .i64 0, .int .i64 0, .slice none 0 0] 25))).setRow (w0.heap.size) (clV c (.slice ad c.data.length cp))).setRow (w1003.heap.size) (clV d (.slice ae d.data.length cq))).heap[w.heap.size + 1]? = some BB) ∧ (w.grownBy ((((w1003.alloc (.cells #[.int .u32 0, .int .i64 0, .int .i64 0, .slice none 0 0] 25))).setRow (w0.heap.size) (clV c (.slice ad c.data.length cp))).setRow (w1003.heap.size) (clV d (.slice ae d.data.length cq))) none) from ⟨(at_setRow_other y4 (by have := ne; omega)), ne, l5, (z5.row _ _ _ _ _), l4, (z4.row _ _ _ _ _), (at_setRow_other ba (Nat.ne_of_lt (by have := l5; omega))), (at_setRow_other bb (Nat.ne_of_lt l5)), (gb_setRow g (by have := l5; omega))⟩)
          have Ny5 := hid (show ((((w1003.alloc (.cells #[.int .u32 0, .int .i64 0, .int .i64 0, .slice none 0 0] 25))).setRow (w0.heap.size) (clV c (.slice ad c.data.length cp))).setRow (w1003.heap.size) (clV d (.slice ae d.data.length cq))).heap[w1003.heap.size]? = some (.cells (clV d (.slice ae d.data.length cq)) 25) from (at_setRow hz))
          have A7 := hid (hz)
          clear hHeld y4 ne l5 z5 l4 z4 ba bb g
          try simp only [List.getElem_toArray, List.getElem_cons_succ, List.getElem_cons_zero]
          rw [if_pos (by rfl)]
          refine wp_store_row (cs := (clV d (.slice ae d.data.length cq))) A7.out (by kernel_rfl) (by kernel_rfl) (by kernel_rfl) rfl rfl rfl rfl ?_
          refine hK.out _ _ ?_ (fun hHeld => ?_)
          · exact L7.out
          clear hK K
          try dsimp only at hHeld
          try simp only [Act.put, List.setIfInBounds_toArray, List.set_cons_zero, List.set_cons_succ, List.getElem_toArray, List.getElem_cons_succ, List.getElem_cons_zero]
          refine held_stronger (S' := fun w' => (fun w' => w'.heap[w1003.heap.size]? = some (.cells (clV d (.slice ae d.data.length cq)) 25)) w' ∧ ((fun w' => (w'.heap[w0.heap.size]? = some (.cells (clV c (.slice ad c.data.length cp)) 25)) ∧ (w0.heap.size ≠ w1003.heap.size) ∧ (w.heap.size + 1 < w1003.heap.size) ∧ (Zc (w1003.heap.size) w') ∧ (w.heap.size + 1 < w0.heap.size) ∧ (Zc (w0.heap.size) w') ∧ (w'.heap[w.heap.size]? = some BA) ∧ (w'.heap[w.heap.size + 1]? = some BB) ∧ (w.grownBy w' none))) w') (fun _ h => h.2) _ _ _ _ ?_
          replace hHeld := And.intro Ny5.out hHeld
          try dsimp only at hHeld
          refine wpAnyH_done (by kernel_rfl) ?_ _
          obtain ⟨y5, y4, ne, l5, z5, l4, z4, ba, bb, g⟩ := hHeld
          have K := hid (kp_two g y4 y5 HV1.out HV2.out); clear y5 y4 ne l5 z5 l4 z4 ba bb g
          go_wp2_with fail
          go_meet
          exact ⟨_, _, rfl, rfl, K.out⟩
        · have hH2 := hHeld
          obtain ⟨l4, z4, ba, bb, g⟩ := hH2
          have hg : (w1001).grownBy (w1001.alloc (.cells #[.int .u32 0, .int .i64 0, .int .i64 0, .slice none 0 0] 25)) none := World.grownBy_alloc (w1001) _ _
          have L5 := hid (show (w.heap.size + 1 < w0.heap.size) ∧ (Zc (w0.heap.size) (w1001.alloc (.cells #[.int .u32 0, .int .i64 0, .int .i64 0, .slice none 0 0] 25))) ∧ ((w1001.alloc (.cells #[.int .u32 0, .int .i64 0, .int .i64 0, .slice none 0 0] 25)).heap[w.heap.size]? = some BA) ∧ ((w1001.alloc (.cells #[.int .u32 0, .int .i64 0, .int .i64 0, .slice none 0 0] 25)).heap[w.heap.size + 1]? = some BB) ∧ (w.grownBy (w1001.alloc (.cells #[.int .u32 0, .int .i64 0, .int .i64 0, .slice none 0 0] 25)) none) from ⟨l4, z4.grown hg, at_grown ba hg (by simp), at_grown bb hg (by simp), gb_trans g hg (.inl rfl)⟩)
          have Nz5 := hid (show Zc (w1001.heap.size) (w1001.alloc (.cells #[.int .u32 0, .int .i64 0, .int .i64 0, .slice none 0 0] 25)) from (by have h : Zc (w1001).heap.size (w1001.alloc (.cells #[.int .u32 0, .int .i64 0, .int .i64 0, .slice none 0 0] 25)) := ⟨⟨_, _, _, _, at_new (w1001) (.cells #[.int .u32 0, .int .i64 0, .int .i64 0, .slice none 0 0] 25)⟩⟩; rw [(show (w1001).heap.size = w1001.heap.size from rfl)] at h; exact h))
          have Nl5 := hid (show w.heap.size + 1 < w1001.heap.size from (by rw [← (show (w1001).heap.size = w1001.heap.size from rfl)]; exact at_lt bb))
          have Nne := hid (show w0.heap.size ≠ w1001.heap.size from (Nat.ne_of_lt (by rw [← (show (w1001).heap.size = w1001.heap.size from rfl)]; exact z4.lt)))
          clear hHeld hg l4 z4 ba bb g
          try simp only [List.getElem_toArray, List.getElem_cons_succ, List.getElem_cons_zero]
          go_simp
          refine hK.out _ _ ?_ (fun hHeld => ?_)
          · exact L5.out
          clear hK K
          try dsimp only at hHeld
          try simp only [Act.put, List.setIfInBounds_toArray, List.set_cons_zero, List.set_cons_succ, List.getElem_toArray, List.getElem_cons_succ, List.getElem_cons_zero]
          refine held_stronger (S' := fun w' => (fun w' => Zc (w1001.heap.size) w') w' ∧ ((fun w' => (w.heap.size + 1 < w0.heap.size) ∧ (Zc (w0.heap.size) w') ∧ (w'.heap[w.heap.size]? = some BA) ∧ (w'.heap[w.heap.size + 1]? = some BB) ∧ (w.grownBy w' none))) w') (fun _ h => h.2) _ _ _ _ ?_
          replace hHeld := And.intro Nz5.out hHeld
          try dsimp only at hHeld
          refine held_stronger (S' := fun w' => (fun w' => w.heap.size + 1 < w1001.heap.size) w' ∧ ((fun w' => (Zc (w1001.heap.size) w') ∧ (w.heap.size + 1 < w0.heap.size) ∧ (Zc (w0.heap.size) w') ∧ (w'.heap[w.heap.size]? = some BA) ∧ (w'.heap[w.heap.size + 1]? = some BB) ∧ (w.grownBy w' none))) w') (fun _ h => h.2) _ _ _ _ ?_
          replace hHeld := And.intro Nl5.out hHeld
          try dsimp only at hHeld
          refine held_stronger (S' := fun w' => (fun w' => w0.heap.size ≠ w1001.heap.size) w' ∧ ((fun w' => (w.heap.size + 1 < w1001.heap.size) ∧ (Zc (w1001.heap.size) w') ∧ (w.heap.size + 1 < w0.heap.size) ∧ (Zc (w0.heap.size) w') ∧ (w'.heap[w.heap.size]? = some BA) ∧ (w'.heap[w.heap.size + 1]? = some BB) ∧ (w.grownBy w' none))) w') (fun _ h => h.2) _ _ _ _ ?_
          replace hHeld := And.intro Nne.out hHeld
          try dsimp only at hHeld
          refine wpAnyH_ready (rs := [3]) (by kernel_rfl) (by simp) ?_
          refine AllReadyH.cons (o := _) rfl (fun K hK => ?_) AllReadyH.nil
          try simp only [List.getElem_toArray, List.getElem_cons_succ, List.getElem_cons_zero]
          go_simp
          have hH2 := hHeld
          obtain ⟨ne, l5, z5, l4, z4, ba, bb, g⟩ := hH2
          refine (F2.out _).mono ?_
          rintro e w1003 ⟨rfl, hg⟩
          have L3 := hid (show (w0.heap.size ≠ w1001.heap.size) ∧ (w.heap.size + 1 < w1001.heap.size) ∧ (Zc (w1001.heap.size) w1003) ∧ (w.heap.size + 1 < w0.heap.size) ∧ (Zc (w0.heap.size) w1003) ∧ (w1003.heap[w.heap.size]? = some BA) ∧ (w1003.heap[w.heap.size + 1]? = some BB) ∧ (w.grownBy w1003 none) from ⟨ne, l5, z5.grown hg, l4, z4.grown hg, at_grown ba hg (by simp), at_grown bb hg (by simp), gb_trans g hg (.inl rfl)⟩)
          clear hHeld hg ne l5 z5 l4 z4 ba bb g
          go_wp2_with fail
          refine hK.out _ _ ?_ (fun hHeld => ?_)
          · exact L3.out
          clear hK K
          try dsimp only at hHeld
          try simp only [Act.put, List.setIfInBounds_toArray, List.set_cons_zero, List.set_cons_succ, List.getElem_toArray, List.getElem_cons_succ, List.getElem_cons_zero]
          refine wpAnyH_ready (rs := [6]) (by kernel_rfl) (by simp) ?_
          refine AllReadyH.cons (o := _) rfl (fun K hK => ?_) AllReadyH.nil
          have hH2 := hHeld
          obtain ⟨ne, l5, z5, l4, z4, ba, bb, g⟩ := hH2
          obtain ⟨_, _, _, _, hz⟩ := z4.ex
          have L6 := hid (show (w0.heap.size ≠ w1001.heap.size) ∧ (w.heap.size + 1 < w1001.heap.size) ∧ (Zc (w1001.heap.size) ((w1003).setRow (w0.heap.size) (clV c (.slice ad c.data.length cp)))) ∧ (w.heap.size + 1 < w0.heap.size) ∧ (Zc (w0.heap.size) ((w1003).setRow (w0.heap.size) (clV c (.slice ad c.data.length cp)))) ∧ (((w1003).setRow (w0.heap.size) (clV c (.slice ad c.data.length cp))).heap[w.heap.size]? = some BA) ∧ (((w1003).setRow (w0.heap.size) (clV c (.slice ad c.data.length cp))).heap[w.heap.size + 1]? = some BB) ∧ (w.grownBy ((w1003).setRow (w0.heap.size) (clV c (.slice ad c.data.length cp))) none) from ⟨ne, l5, (z5.row _ _ _ _ _), l4, (z4.row _ _ _ _ _), (at_setRow_other ba (Nat.ne_of_lt (by have := l4; omega))), (at_setRow_other bb (Nat.ne_of_lt l4)), (gb_setRow g (by have := l4; omega))⟩)
          have Ny4 := hid (show ((w1003).setRow (w0.heap.size) (clV c (.slice ad c.data.length cp))).heap[w0.heap.size]? = some (.cells (clV c (.slice ad c.data.length cp)) 25) from (at_setRow hz))
          have A6 := hid (hz)
          clear hHeld ne l5 z5 l4 z4 ba bb g
          try simp only [List.getElem_toArray, List.getElem_cons_succ, List.getElem_cons_zero]
          rw [if_pos (by rfl)]
          refine wp_store_row (cs := (clV c (.slice ad c.data.length cp))) A6.out (by kernel_rfl) (by kernel_rfl) (by kernel_rfl) rfl rfl rfl rfl ?_
          refine hK.out _ _ ?_ (fun hHeld => ?_)
          · exact L6.out
          clear hK K
          try dsimp only at hHeld
          try simp only [Act.put, List.setIfInBounds_toArray, List.set_cons_zero, List.set_cons_succ, List.getElem_toArray, List.getElem_cons_succ, List.getElem_cons_zero]
          refine held_stronger (S' := fun w' => (fun w' => w'.heap[w0.heap.size]? = some (.cells (clV c (.slice ad c.data.length cp)) 25)) w' ∧ ((fun w' => (w0.heap.size ≠ w1001.heap.size) ∧ (w.heap.size + 1 < w1001.heap.size) ∧ (Zc (w1001.heap.size) w') ∧ (w.heap.size + 1 < w0.heap.size) ∧ (Zc (w0.heap.size) w') ∧ (w'.heap[w.heap.size]? = some BA) ∧ (w'.heap[w.heap.size + 1]? = some BB) ∧ (w.grownBy w' none))) w') (fun _ h => h.2) _ _ _ _ ?_
          replace hHeld := And.intro Ny4.out hHeld
          try dsimp only at hHeld
          refine wpAnyH_ready (rs := [7]) (by kernel_rfl) (by simp) ?_
          refine AllReadyH.cons (o := _) rfl (fun K hK => ?_) AllReadyH.nil
          have hH2 := hHeld
          obtain ⟨y4, ne, l5, z5, l4, z4, ba, bb, g⟩ := hH2
          obtain ⟨_, _, _, _, hz⟩ := z5.ex
          have L7 := hid (show ((((w1003).setRow (w0.heap.size) (clV c (.slice ad c.data.length cp))).setRow (w1001.heap.size) (clV d (.slice ae d.data.length cq))).heap[w0.heap.size]? = some (.cells (clV c (.slice ad c.data.length cp)) 25)) ∧ (w0.heap.size ≠ w1001.heap.size) ∧ (w.heap.size + 1 < w1001.heap.size) ∧ (Zc (w1001.heap.size) (((w1003).setRow (w0.heap.size) (clV c (.slice ad c.data.length cp))).setRow (w1001.heap.size) (clV d (.slice ae d.data.length cq)))) ∧ (w.heap.size + 1 < w0.heap.size) ∧ (Zc (w0.heap.size) (((w1003).setRow (w0.heap.size) (clV c (.slice ad c.data.length cp))).setRow (w1001.heap.size) (clV d (.slice ae d.data.length cq)))) ∧ ((((w1003).setRow (w0.heap.size) (clV c (.slice ad c.data.length cp))).setRow (w1001.heap.size) (clV d (.slice ae d.data.length cq))).heap[w.heap.size]? = some BA) ∧ ((((w1003).setRow (w0.heap.size) (clV c (.slice ad c.data.length cp))).setRow (w1001.heap.size) (clV d (.slice ae d.data.length cq))).heap[w.heap.size + 1]? = some BB) ∧ (w.grownBy (((w1003).setRow (w0.heap.size) (clV c (.slice ad c.data.length cp))).setRow (w1001.heap.size) (clV d (.slice ae d.data.length cq))) none) from ⟨(at_setRow_other y4 (by have := ne; omega)), ne, l5, (z5.row _ _ _ _ _), l4, (z4.row _ _ _ _ _), (at_setRow_other ba (Nat.ne_of_lt (by have := l5; omega))), (at_setRow_other bb (Nat.ne_of_lt l5)), (gb_setRow g (by have := l5; omega))⟩)
          have Ny5 := hid (show (((w1003).setRow (w0.heap.size) (clV c (.slice ad c.data.length cp))).setRow (w1001.heap.size) (clV d (.slice ae d.data.length cq))).heap[w1001.heap.size]? = some (.cells (clV d (.slice ae d.data.length cq)) 25) from (at_setRow hz))
          have A7 := hid (hz)
          clear hHeld y4 ne l5 z5 l4 z4 ba bb g
          try simp only [List.getElem_toArray, List.getElem_cons_succ, List.getElem_cons_zero]
          rw [if_pos (by rfl)]
          refine wp_store_row (cs := (clV d (.slice ae d.data.length cq))) A7.out (by kernel_rfl) (by kernel_rfl) (by kernel_rfl) rfl rfl rfl rfl ?_
          refine hK.out _ _ ?_ (fun hHeld => ?_)
          · exact L7.out
          clear hK K
          try dsimp only at hHeld
          try simp only [Act.put, List.setIfInBounds_toArray, List.set_cons_zero, List.set_cons_succ, List.getElem_toArray, List.getElem_cons_succ, List.getElem_cons_zero]
          refine held_stronger (S' := fun w' => (fun w' => w'.heap[w1001.heap.size]? = some (.cells (clV d (.slice ae d.data.length cq)) 25)) w' ∧ ((fun w' => (w'.heap[w0.heap.size]? = some (.cells (clV c (.slice ad c.data.length cp)) 25)) ∧ (w0.heap.size ≠ w1001.heap.size) ∧ (w.heap.size + 1 < w1001.heap.size) ∧ (Zc (w1001.heap.size) w') ∧ (w.heap.size + 1 < w0.heap.size) ∧ (Zc (w0.heap.size) w') ∧ (w'.heap[w.heap.size]? = some BA) ∧ (w'.heap[w.heap.size + 1]? = some BB) ∧ (w.grownBy w' none))) w') (fun _ h => h.2) _ _ _ _ ?_
          replace hHeld := And.intro Ny5.out hHeld
          try dsimp only at hHeld
          refine wpAnyH_done (by kernel_rfl) ?_ _
          obtain ⟨y5, y4, ne, l5, z5, l4, z4, ba, bb, g⟩ := hHeld
          have K := hid (kp_two g y4 y5 HV1.out HV2.out); clear y5 y4 ne l5 z5 l4 z4 ba bb g
          go_wp2_with fail
          go_meet
          exact ⟨_, _, rfl, rfl, K.out⟩
      · have hH2 := hHeld
        obtain ⟨l4, z4, ba, bb, g⟩ := hH2
        have hg : (((w0.alloc (.cells #[.int .u32 0, .int .i64 0, .int .i64 0, .slice none 0 0] 25)).drew)).grownBy (((w0.alloc (.cells #[.int .u32 0, .int .i64 0, .int .i64 0, .slice none 0 0] 25)).drew).alloc (.cells #[.int .u32 0, .int .i64 0, .int .i64 0, .slice none 0 0] 25)) none := World.grownBy_alloc (((w0.alloc (.cells #[.int .u32 0, .int .i64 0, .int .i64 0, .slice none 0 0] 25)).drew)) _ _
        have L5 := hid (show (w.heap.size + 1 < w0.heap.size) ∧ (Zc (w0.heap.size) (((w0.alloc (.cells #[.int .u32 0, .int .i64 0, .int .i64 0, .slice none 0 0] 25)).drew).alloc (.cells #[.int .u32 0, .int .i64 0, .int .i64 0, .slice none 0 0] 25))) ∧ ((((w0.alloc (.cells #[.int .u32 0, .int .i64 0, .int .i64 0, .slice none 0 0] 25)).drew).alloc (.cells #[.int .u32 0, .int .i64 0, .int .i64 0, .slice none 0 0] 25)).heap[w.heap.size]? = some BA) ∧ ((((w0.alloc (.cells #[.int .u32 0, .int .i64 0, .int .i64 0, .slice none 0 0] 25)).drew).alloc (.cells #[.int .u32 0, .int .i64 0, .int .i64 0, .slice none 0 0] 25)).heap[w.heap.size + 1]? = some BB) ∧ (w.grownBy (((w0.alloc (.cells #[.int .u32 0, .int .i64 0, .int .i64 0, .slice none 0 0] 25)).drew).alloc (.cells #[.int .u32 0, .int .i64 0, .int .i64 0, .slice none 0 0] 25)) none) from ⟨l4, z4.grown hg, at_grown ba hg (by simp), at_grown bb hg (by simp), gb_trans g hg (.inl rfl)⟩)
        have Nz5 := hid (show Zc (w0.heap.size + 1) (((w0.alloc (.cells #[.int .u32 0, .int .i64 0, .int .i64 0, .slice none 0 0] 25)).drew).alloc (.cells #[.int .u32 0, .int .i64 0, .int .i64 0, .slice none 0 0] 25)) from (by have h : Zc (((w0.alloc (.cells #[.int .u32 0, .int .i64 0, .int .i64 0, .slice none 0 0] 25)).drew)).heap.size (((w0.alloc (.cells #[.int .u32 0, .int .i64 0, .int .i64 0, .slice none 0 0] 25)).drew).alloc (.cells #[.int .u32 0, .int .i64 0, .int .i64 0, .slice none 0 0] 25)) := ⟨⟨_, _, _, _, at_new (((w0.alloc (.cells #[.int .u32 0, .int .i64 0, .int .i64 0, .slice none 0 0] 25)).drew)) (.cells #[.int .u32 0, .int .i64 0, .int .i64 0, .slice none 0 0] 25)⟩⟩; rw [(show (((w0.alloc (.cells #[.int .u32 0, .int .i64 0, .int .i64 0, .slice none 0 0] 25)).drew)).heap.size = w0.heap.size + 1 from alloc_size _ _)] at h; exact h))
        have Nl5 := hid (show w.heap.size + 1 < w0.heap.size + 1 from (by rw [← (show (((w0.alloc (.cells #[.int .u32 0, .int .i64 0, .int .i64 0, .slice none 0 0] 25)).drew)).heap.size = w0.heap.size + 1 from alloc_size _ _)]; exact at_lt bb))
        have Nne := hid (show w0.heap.size ≠ w0.heap.size + 1 from (Nat.ne_of_lt (by rw [← (show (((w0.alloc (.cells #[.int .u32 0, .int .i64 0, .int .i64 0, .slice none 0 0] 25)).drew)).heap.size = w0.heap.size + 1 from alloc_size _ _)]; exact z4.lt)))
        clear hHeld hg l4 z4 ba bb g
        try simp only [List.getElem_toArray, List.getElem_cons_succ, List.getElem_cons_zero]
        go_simp
        refine hK.out _ _ ?_ (fun hHeld => ?_)
        · exact L5.out
        clear hK K
        try dsimp only at hHeld
        try simp only [Act.put, List.setIfInBounds_toArray, List.set_cons_zero, List.set_cons_succ, List.getElem_toArray, List.getElem_cons_succ, List.getElem_cons_zero]
        refine held_stronger (S' := fun w' => (fun w' => Zc (w0.heap.size + 1) w') w' ∧ ((fun w' => (w.heap.size + 1 < w0.heap.size) ∧ (Zc (w0.heap.size) w') ∧ (w'.heap[w.heap.size]? = some BA) ∧ (w'.heap[w.heap.size + 1]? = some BB) ∧ (w.grownBy w' none))) w') (fun _ h => h.2) _ _ _ _ ?_
        replace hHeld := And.intro Nz5.out hHeld
        try dsimp only at hHeld
        refine held_stronger (S' := fun w' => (fun w' => w.heap.size + 1 < w0.heap.size + 1) w' ∧ ((fun w' => (Zc (w0.heap.size + 1) w') ∧ (w.heap.size + 1 < w0.heap.size) ∧ (Zc (w0.heap.size) w') ∧ (w'.heap[w.heap.size]? = some BA) ∧ (w'.heap[w.heap.size + 1]? = some BB) ∧ (w.grownBy w' none))) w') (fun _ h => h.2) _ _ _ _ ?_
        replace hHeld := And.intro Nl5.out hHeld
        try dsimp only at hHeld
        refine held_stronger (S' := fun w' => (fun w' => w0.heap.size ≠ w0.heap.size + 1) w' ∧ ((fun w' => (w.heap.size + 1 < w0.heap.size + 1) ∧ (Zc (w0.heap.size + 1) w') ∧ (w.heap.size + 1 < w0.heap.size) ∧ (Zc (w0.heap.size) w') ∧ (w'.heap[w.heap.size]? = some BA) ∧ (w'.heap[w.heap.size + 1]? = some BB) ∧ (w.grownBy w' none))) w') (fun _ h => h.2) _ _ _ _ ?_
        replace hHeld := And.intro Nne.out hHeld
        try dsimp only at hHeld
        refine wpAnyH_ready (rs := [1]) (by kernel_rfl) (by simp) ?_
        refine AllReadyH.cons (o := _) rfl (fun K hK => ?_) AllReadyH.nil
        try simp only [List.getElem_toArray, List.getElem_cons_succ, List.getElem_cons_zero]
        go_simp
        have hH2 := hHeld
        obtain ⟨ne, l5, z5, l4, z4, ba, bb, g⟩ := hH2
        refine (F1.out _).mono ?_
        rintro e w1001 ⟨rfl, hg⟩
        have L1 := hid (show (w0.heap.size ≠ w0.heap.size + 1) ∧ (w.heap.size + 1 < w0.heap.size + 1) ∧ (Zc (w0.heap.size + 1) w1001) ∧ (w.heap.size + 1 < w0.heap.size) ∧ (Zc (w0.heap.size) w1001) ∧ (w1001.heap[w.heap.size]? = some BA) ∧ (w1001.heap[w.heap.size + 1]? = some BB) ∧ (w.grownBy w1001 none) from ⟨ne, l5, z5.grown hg, l4, z4.grown hg, at_grown ba hg (by simp), at_grown bb hg (by simp), gb_trans g hg (.inl rfl)⟩)
        clear hHeld hg ne l5 z5 l4 z4 ba bb g
        go_wp2_with fail
        refine hK.out _ _ ?_ (fun hHeld => ?_)
        · exact L1.out
        clear hK K
        try dsimp only at hHeld
        try simp only [Act.put, List.setIfInBounds_toArray, List.set_cons_zero, List.set_cons_succ, List.getElem_toArray, List.getElem_cons_succ, List.getElem_cons_zero]
        refine wpAnyH_ready (rs := [3]) (by kernel_rfl) (by simp) ?_
        refine AllReadyH.cons (o := _) rfl (fun K hK => ?_) AllReadyH.nil
        try simp only [List.getElem_toArray, List.getElem_cons_succ, List.getElem_cons_zero]
        go_simp
        have hH2 := hHeld
        obtain ⟨ne, l5, z5, l4, z4, ba, bb, g⟩ := hH2
        refine (F2.out _).mono ?_
        rintro e w1003 ⟨rfl, hg⟩
        have L3 := hid (show (w0.heap.size ≠ w0.heap.size + 1) ∧ (w.heap.size + 1 < w0.heap.size + 1) ∧ (Zc (w0.heap.size + 1) w1003) ∧ (w.heap.size + 1 < w0.heap.size) ∧ (Zc (w0.heap.size) w1003) ∧ (w1003.heap[w.heap.size]? = some BA) ∧ (w1003.heap[w.heap.size + 1]? = some BB) ∧ (w.grownBy w1003 none) from ⟨ne, l5, z5.grown hg, l4, z4.grown hg, at_grown ba hg (by simp), at_grown bb hg (by simp), gb_trans g hg (.inl rfl)⟩)
        clear hHeld hg ne l5 z5 l4 z4 ba bb g
        go_wp2_with fail
        refine hK.out _ _ ?_ (fun hHeld => ?_)
        · exact L3.out
        clear hK K
        try dsimp only at hHeld
        try simp only [Act.put, List.setIfInBounds_toArray, List.set_cons_zero, List.set_cons_succ, List.getElem_toArray, List.getElem_cons_succ, List.getElem_cons_zero]
        refine wpAnyH_ready (rs := [6]) (by kernel_rfl) (by simp) ?_
        refine AllReadyH.cons (o := _) rfl (fun K hK => ?_) AllReadyH.nil
        have hH2 := hHeld
        obtain ⟨ne, l5, z5, l4, z4, ba, bb, g⟩ := hH2
        obtain ⟨_, _, _, _, hz⟩ := z4.ex
        have L6 := hid (show (w0.heap.size ≠ w0.heap.size + 1) ∧ (w.heap.size + 1 < w0.heap.size + 1) ∧ (Zc (w0.heap.size + 1) ((w1003).setRow (w0.heap.size) (clV c (.slice ad c.data.length cp)))) ∧ (w.heap.size + 1 < w0.heap.size) ∧ (Zc (w0.heap.size) ((w1003).setRow (w0.heap.size) (clV c (.slice ad c.data.length cp)))) ∧ (((w1003).setRow (w0.heap.size) (clV c (.slice ad c.data.length cp))).heap[w.heap.size]? = some BA) ∧ (((w1003).setRow (w0.heap.size) (clV c (.slice ad c.data.length cp))).heap[w.heap.size + 1]? = some BB) ∧ (w.grownBy ((w1003).setRow (w0.heap.size) (clV c (.slice ad c.data.length cp))) none) from ⟨ne, l5, (z5.row _ _ _ _ _), l4, (z4.row _ _ _ _ _), (at_setRow_other ba (Nat.ne_of_lt (by have := l4; omega))), (at_setRow_other bb (Nat.ne_of_lt l4)), (gb_setRow g (by have := l4; omega))⟩)
        have Ny4 := hid (show ((w1003).setRow (w0.heap.size) (clV c (.slice ad c.data.length cp))).heap[w0.heap.size]? = some (.cells (clV c (.slice ad c.data.length cp)) 25) from (at_setRow hz))
        have A6 := hid (hz)
        clear hHeld ne l5 z5 l4 z4 ba bb g
        try simp only [List.getElem_toArray, List.getElem_cons_succ, List.getElem_cons_zero]
        rw [if_pos (by rfl)]
        refine wp_store_row (cs := (clV c (.slice ad c.data.length cp))) A6.out (by kernel_rfl) (by kernel_rfl) (by kernel_rfl) rfl rfl rfl rfl ?_
        refine hK.out _ _ ?_ (fun hHeld => ?_)
        · exact L6.out
        clear hK K
        try dsimp only at hHeld
        try simp only [Act.put, List.setIfInBounds_toArray, List.set_cons_zero, List.set_cons_succ, List.getElem_toArray, List.getElem_cons_succ, List.getElem_cons_zero]
        refine held_stronger (S' := fun w' => (fun w' => w'.heap[w0.heap.size]? = some (.cells (clV c (.slice ad c.data.length cp)) 25)) w' ∧ ((fun w' => (w0.heap.size ≠ w0.heap.size + 1) ∧ (w.heap.size + 1 < w0.heap.size + 1) ∧ (Zc (w0.heap.size + 1) w') ∧ (w.heap.size + 1 < w0.heap.size) ∧ (Zc (w0.heap.size) w') ∧ (w'.heap[w.heap.size]? = some BA) ∧ (w'.heap[w.heap.size + 1]? = some BB) ∧ (w.grownBy w' none))) w') (fun _ h => h.2) _ _ _ _ ?_
        replace hHeld := And.intro Ny4.out hHeld
        try dsimp only at hHeld
        refine wpAnyH_ready (rs := [7]) (by kernel_rfl) (by simp) ?_
        refine AllReadyH.cons (o := _) rfl (fun K hK => ?_) AllReadyH.nil
        have hH2 := hHeld
        obtain ⟨y4, ne, l5, z5, l4, z4, ba, bb, g⟩ := hH2
        obtain ⟨_, _, _, _, hz⟩ := z5.ex
        have L7 := hid (show ((((w1003).setRow (w0.heap.size) (clV c (.slice ad c.data.length cp))).setRow (w0.heap.size + 1) (clV d (.slice ae d.data.length cq))).heap[w0.heap.size]? = some (.cells (clV c (.slice ad c.data.length cp)) 25)) ∧ (w0.heap.size ≠ w0.heap.size + 1) ∧ (w.heap.size + 1 < w0.heap.size + 1) ∧ (Zc (w0.heap.size + 1) (((w1003).setRow (w0.heap.size) (clV c (.slice ad c.data.length cp))).setRow (w0.heap.size + 1) (clV d (.slice ae d.data.length cq)))) ∧ (w.heap.size + 1 < w0.heap.size) ∧ (Zc (w0.heap.size) (((w1003).setRow (w0.heap.size) (clV c (.slice ad c.data.length cp))).setRow (w0.heap.size + 1) (clV d (.slice ae d.data.length cq)))) ∧ ((((w1003).setRow (w0.heap.size) (clV c (.slice ad c.data.length cp))).setRow (w0.heap.size + 1) (clV d (.slice ae d.data.length cq))).heap[w.heap.size]? = some BA) ∧ ((((w1003).setRow (w0.heap.size) (clV c (.slice ad c.data.length cp))).setRow (w0.heap.size + 1) (clV d (.slice ae d.data.length cq))).heap[w.heap.size + 1]? = some BB) ∧ (w.grownBy (((w1003).setRow (w0.heap.size) (clV c (.slice ad c.data.length cp))).setRow (w0.heap.size + 1) (clV d (.slice ae d.data.length cq))) none) from ⟨(at_setRow_other y4 (by have := ne; omega)), ne, l5, (z5.row _ _ _ _ _), l4, (z4.row _ _ _ _ _), (at_setRow_other ba (Nat.ne_of_lt (by have := l5; omega))), (at_setRow_other bb (Nat.ne_of_lt l5)), (gb_setRow g (by have := l5; omega))⟩)
        have Ny5 := hid (show (((w1003).setRow (w0.heap.size) (clV c (.slice ad c.data.length cp))).setRow (w0.heap.size + 1) (clV d (.slice ae d.data.length cq))).heap[w0.heap.size + 1]? = some (.cells (clV d (.slice ae d.data.length cq)) 25) from (at_setRow hz))
        have A7 := hid (hz)
        clear hHeld y4 ne l5 z5 l4 z4 ba bb g
        try simp only [List.getElem_toArray, List.getElem_cons_succ, List.getElem_cons_zero]
        rw [if_pos (by rfl)]
        refine wp_store_row (cs := (clV d (.slice ae d.data.length cq))) A7.out (by kernel_rfl) (by kernel_rfl) (by kernel_rfl) rfl rfl rfl rfl ?_
        refine hK.out _ _ ?_ (fun hHeld => ?_)
        · exact L7.out
        clear hK K
        try dsimp only at hHeld
        try simp only [Act.put, List.setIfInBounds_toArray, List.set_cons_zero, List.set_cons_succ, List.getElem_toArray, List.getElem_cons_succ, List.getElem_cons_zero]
        refine held_stronger (S' := fun w' => (fun w' => w'.heap[w0.heap.size + 1]? = some (.cells (clV d (.slice ae d.data.length cq)) 25)) w' ∧ ((fun w' => (w'.heap[w0.heap.size]? = some (.cells (clV c (.slice ad c.data.length cp)) 25)) ∧ (w0.heap.size ≠ w0.heap.size + 1) ∧ (w.heap.size + 1 < w0.heap.size + 1) ∧ (Zc (w0.heap.size + 1) w') ∧ (w.heap.size + 1 < w0.heap.size) ∧ (Zc (w0.heap.size) w') ∧ (w'.heap[w.heap.size]? = some BA) ∧ (w'.heap[w.heap.size + 1]? = some BB) ∧ (w.grownBy w' none))) w') (fun _ h => h.2) _ _ _ _ ?_
        replace hHeld := And.intro Ny5.out hHeld
        try dsimp only at hHeld
        refine wpAnyH_done (by kernel_rfl) ?_ _
        obtain ⟨y5, y4, ne, l5, z5, l4, z4, ba, bb, g⟩ := hHeld
        have K := hid (kp_two g y4 y5 HV1.out HV2.out); clear y5 y4 ne l5 z5 l4 z4 ba bb g
        go_wp2_with fail
        go_meet
        exact ⟨_, _, rfl, rfl, K.out⟩
    · have hH2 := hHeld
      obtain ⟨ba, bb, g⟩ := hH2
      have hg : (w0.drew).grownBy ((w0.alloc (.cells #[.int .u32 0, .int .i64 0, .int .i64 0, .slice none 0 0] 25)).drew) none := World.grownBy_alloc (w0.drew) _ _
      have L5 := hid (show (((w0.alloc (.cells #[.int .u32 0, .int .i64 0, .int .i64 0, .slice none 0 0] 25)).drew).heap[w.heap.size]? = some BA) ∧ (((w0.alloc (.cells #[.int .u32 0, .int .i64 0, .int .i64 0, .slice none 0 0] 25)).drew).heap[w.heap.size + 1]? = some BB) ∧ (w.grownBy ((w0.alloc (.cells #[.int .u32 0, .int .i64 0, .int .i64 0, .slice none 0 0] 25)).drew) none) from ⟨at_grown ba hg (by simp), at_grown bb hg (by simp), gb_trans g hg (.inl rfl)⟩)
      have Nz5 := hid (show Zc (w0.heap.size) ((w0.alloc (.cells #[.int .u32 0, .int .i64 0, .int .i64 0, .slice none 0 0] 25)).drew) from (by have h : Zc (w0.drew).heap.size ((w0.alloc (.cells #[.int .u32 0, .int .i64 0, .int .i64 0, .slice none 0 0] 25)).drew) := ⟨⟨_, _, _, _, at_new (w0.drew) (.cells #[.int .u32 0, .int .i64 0, .int .i64 0, .slice none 0 0] 25)⟩⟩; rw [(show (w0.drew).heap.size = w0.heap.size from rfl)] at h; exact h))
      have Nl5 := hid (show w.heap.size + 1 < w0.heap.size from (by rw [← (show (w0.drew).heap.size = w0.heap.size from rfl)]; exact at_lt bb))
      clear hHeld hg ba bb g
      try simp only [List.getElem_toArray, List.getElem_cons_succ, List.getElem_cons_zero]
      go_simp
      refine hK.out _ _ ?_ (fun hHeld => ?_)
      · exact L5.out
      clear hK K
      try dsimp only at hHeld
      try simp only [Act.put, List.setIfInBounds_toArray, List.set_cons_zero, List.set_cons_succ, List.getElem_toArray, List.getElem_cons_succ, List.getElem_cons_zero]
      refine held_stronger (S' := fun w' => (fun w' => Zc (w0.heap.size) w') w' ∧ ((fun w' => (w'.heap[w.heap.size]? = some BA) ∧ (w'.heap[w.heap.size + 1]? = some BB) ∧ (w.grownBy w' none))) w') (fun _ h => h.2) _ _ _ _ ?_
      replace hHeld := And.intro Nz5.out hHeld
      try dsimp only at hHeld
      refine held_stronger (S' := fun w' => (fun w' => w.heap.size + 1 < w0.heap.size) w' ∧ ((fun w' => (Zc (w0.heap.size) w') ∧ (w'.heap[w.heap.size]? = some BA) ∧ (w'.heap[w.heap.size + 1]? = some BB) ∧ (w.grownBy w' none))) w') (fun _ h => h.2) _ _ _ _ ?_
      replace hHeld := And.intro Nl5.out hHeld
      try dsimp only at hHeld
      refine wpAnyH_ready (rs := [1, 4]) (by kernel_rfl) (by simp) ?_
      refine AllReadyH.cons (o := _) rfl (fun K hK => ?_) (AllReadyH.cons (o := _) rfl (fun K hK => ?_) AllReadyH.nil)
      · try simp only [List.getElem_toArray, List.getElem_cons_succ, List.getElem_cons_zero]
        go_simp
        have hH2 := hHeld
        obtain ⟨l5, z5, ba, bb, g⟩ := hH2
        refine (F1.out _).mono ?_
        rintro e w1001 ⟨rfl, hg⟩
        have L1 := hid (show (w.heap.size + 1 < w0.heap.size) ∧ (Zc (w0.heap.size) w1001) ∧ (w1001.heap[w.heap.size]? = some BA) ∧ (w1001.heap[w.heap.size + 1]? = some BB) ∧ (w.grownBy w1001 none) from ⟨l5, z5.grown hg, at_grown ba hg (by simp), at_grown bb hg (by simp), gb_trans g hg (.inl rfl)⟩)
        clear hHeld hg l5 z5 ba bb g
        go_wp2_with fail
        refine hK.out _ _ ?_ (fun hHeld => ?_)
        · exact L1.out
        clear hK K
        try dsimp only at hHeld
        try simp only [Act.put, List.setIfInBounds_toArray, List.set_cons_zero, List.set_cons_succ, List.getElem_toArray, List.getElem_cons_succ, List.getElem_cons_zero]
        refine wpAnyH_ready (rs := [3, 4]) (by kernel_rfl) (by simp) ?_
        refine AllReadyH.cons (o := _) rfl (fun K hK => ?_) (AllReadyH.cons (o := _) rfl (fun K hK => ?_) AllReadyH.nil)
        · try simp only [List.getElem_toArray, List.getElem_cons_succ, List.getElem_cons_zero]
          go_simp
          have hH2 := hHeld
          obtain ⟨l5, z5, ba, bb, g⟩ := hH2
          refine (F2.out _).mono ?_
          rintro e w1003 ⟨rfl, hg⟩
          have L3 := hid (show (w.heap.size + 1 < w0.heap.size) ∧ (Zc (w0.heap.size) w1003) ∧ (w1003.heap[w.heap.size]? = some BA) ∧ (w1003.heap[w.heap.size + 1]? = some BB) ∧ (w.grownBy w1003 none) from ⟨l5, z5.grown hg, at_grown ba hg (by simp), at_grown bb hg (by simp), gb_trans g hg (.inl rfl)⟩)
          clear hHeld hg l5 z5 ba bb g
          go_wp2_with fail
          refine hK.out _ _ ?_ (fun hHeld => ?_)
          · exact L3.out
          clear hK K
          try dsimp only at hHeld
          try simp only [Act.put, List.setIfInBounds_toArray, List.set_cons_zero, List.set_cons_succ, List.getElem_toArray, List.getElem_cons_succ, List.getElem_cons_zero]
          refine wpAnyH_ready (rs := [4]) (by kernel_rfl) (by simp) ?_
          refine AllReadyH.cons (o := _) rfl (fun K hK => ?_) AllReadyH.nil
          have hH2 := hHeld
          obtain ⟨l5, z5, ba, bb, g⟩ := hH2
          have hg : (w1003).grownBy (w1003.alloc (.cells #[.int .u32 0, .int .i64 0, .int .i64 0, .slice none 0 0] 25)) none := World.grownBy_alloc (w1003) _ _
          have L4 := hid (show (w.heap.size + 1 < w0.heap.size) ∧ (Zc (w0.heap.size) (w1003.alloc (.cells #[.int .u32 0, .int .i64 0, .int .i64 0, .slice none 0 0] 25))) ∧ ((w1003.alloc (.cells #[.int .u32 0, .int .i64 0, .int .i64 0, .slice none 0 0] 25)).heap[w.heap.size]? = some BA) ∧ ((w1003.alloc (.cells #[.int .u32 0, .int .i64 0, .int .i64 0, .slice none 0 0] 25)).heap[w.heap.size + 1]? = some BB) ∧ (w.grownBy (w1003.alloc (.cells #[.int .u32 0, .int .i64 0, .int .i64 0, .slice none 0 0] 25)) none) from ⟨l5, z5.grown hg, at_grown ba hg (by simp), at_grown bb hg (by simp), gb_trans g hg (.inl rfl)⟩)
          have Nz4 := hid (show Zc (w1003.heap.size) (w1003.alloc (.cells #[.int .u32 0, .int .i64 0, .int .i64 0, .slice none 0 0] 25)) from (by have h : Zc (w1003).heap.size (w1003.alloc (.cells #[.int .u32 0, .int .i64 0, .int .i64 0, .slice none 0 0] 25)) := ⟨⟨_, _, _, _, at_new (w1003) (.cells #[.int .u32 0, .int .i64 0, .int .i64 0, .slice none 0 0] 25)⟩⟩; rw [(show (w1003).heap.size = w1003.heap.size from rfl)] at h; exact h))
          have Nl4 := hid (show w.heap.size + 1 < w1003.heap.size from (by rw [← (show (w1003).heap.size = w1003.heap.size from rfl)]; exact at_lt bb))
          have Nne := hid (show w0.heap.size ≠ w1003.heap.size from (Nat.ne_of_lt (by rw [← (show (w1003).heap.size = w1003.heap.size from rfl)]; exact z5.lt)))
          clear hHeld hg l5 z5 ba bb g
          try simp only [List.getElem_toArray, List.getElem_cons_succ, List.getElem_cons_zero]
          go_simp
          refine hK.out _ _ ?_ (fun hHeld => ?_)
          · exact L4.out
          clear hK K
          try dsimp only at hHeld
          try simp only [Act.put, List.setIfInBounds_toArray, List.set_cons_zero, List.set_cons_succ, List.getElem_toArray, List.getElem_cons_succ, List.getElem_cons_zero]
          refine held_stronger (S' := fun w' => (fun w' => Zc (w1003.heap.size) w') w' ∧ ((fun w' => (w.heap.size + 1 < w0.heap.size) ∧ (Zc (w0.heap.size) w') ∧ (w'.heap[w.heap.size]? = some BA) ∧ (w'.heap[w.heap.size + 1]? = some BB) ∧ (w.grownBy w' none))) w') (fun _ h => h.2) _ _ _ _ ?_
          replace hHeld := And.intro Nz4.out hHeld
          try dsimp only at hHeld
          refine held_stronger (S' := fun w' => (fun w' => w.heap.size + 1 < w1003.heap.size) w' ∧ ((fun w' => (Zc (w1003.heap.size) w') ∧ (w.heap.size + 1 < w0.heap.size) ∧ (Zc (w0.heap.size) w') ∧ (w'.heap[w.heap.size]? = some BA) ∧ (w'.heap[w.heap.size + 1]? = some BB) ∧ (w.grownBy w' none))) w') (fun _ h => h.2) _ _ _ _ ?_
          replace hHeld := And.intro Nl4.out hHeld
          try dsimp only at hHeld
          refine held_stronger (S' := fun w' => (fun w' => w0.heap.size ≠ w1003.heap.size) w' ∧ ((fun w' => (w.heap.size + 1 < w1003.heap.size) ∧ (Zc (w1003.heap.size) w') ∧ (w.heap.size + 1 < w0.heap.size) ∧ (Zc (w0.heap.size) w') ∧ (w'.heap[w.heap.size]? = some BA) ∧ (w'.heap[w.heap.size + 1]? = some BB) ∧ (w.grownBy w' none))) w') (fun _ h => h.2) _ _ _ _ ?_
          replace hHeld := And.intro Nne.out hHeld
          try dsimp only at hHeld
          refine wpAnyH_ready (rs := [6]) (by kernel_rfl) (by simp) ?_
          refine AllReadyH.cons (o := _) rfl (fun K hK => ?_) AllReadyH.nil
          have hH2 := hHeld
          obtain ⟨ne, l4, z4, l5, z5, ba, bb, g⟩ := hH2
          obtain ⟨_, _, _, _, hz⟩ := z4.ex
          have L6 := hid (show (w0.heap.size ≠ w1003.heap.size) ∧ (w.heap.size + 1 < w1003.heap.size) ∧ (Zc (w1003.heap.size) (((w1003.alloc (.cells #[.int .u32 0, .int .i64 0, .int .i64 0, .slice none 0 0] 25))).setRow (w1003.heap.size) (clV c (.slice ad c.data.length cp)))) ∧ (w.heap.size + 1 < w0.heap.size) ∧ (Zc (w0.heap.size) (((w1003.alloc (.cells #[.int .u32 0, .int .i64 0, .int .i64 0, .slice none 0 0] 25))).setRow (w1003.heap.size) (clV c (.slice ad c.data.length cp)))) ∧ ((((w1003.alloc (.cells #[.int .u32 0, .int .i64 0, .int .i64 0, .slice none 0 0] 25))).setRow (w1003.heap.size) (clV c (.slice ad c.data.length cp))).heap[w.heap.size]? = some BA) ∧ ((((w1003.alloc (.cells #[.int .u32 0, .int .i64 0, .int .i64 0, .slice none 0 0] 25))).setRow (w1003.heap.size) (clV c (.slice ad c.data.length cp))).heap[w.heap.size + 1]? = some BB) ∧ (w.grownBy (((w1003.alloc (.cells #[.int .u32 0, .int .i64 0, .int .i64 0, .slice none 0 0] 25))).setRow (w1003.heap.size) (clV c (.slice ad c.data.length cp))) none) from ⟨ne, l4, (z4.row _ _ _ _ _), l5, (z5.row _ _ _ _ _), (at_setRow_other ba (Nat.ne_of_lt (by have := l4; omega))), (at_setRow_other bb (Nat.ne_of_lt l4)), (gb_setRow g (by have := l4; omega))⟩)
          have Ny4 := hid (show (((w1003.alloc (.cells #[.int .u32 0, .int .i64 0, .int .i64 0, .slice none 0 0] 25))).setRow (w1003.heap.size) (clV c (.slice ad c.data.length cp))).heap[w1003.heap.size]? = some (.cells (clV c (.slice ad c.data.length cp)) 25) from (at_setRow hz))
          have A6 := hid (hz)
          clear hHeld ne l4 z4 l5 z5 ba bb g
          try simp only [List.getElem_toArray, List.getElem_cons_succ, List.getElem_cons_zero]
          rw [if_pos (by rfl)]
          refine wp_store_row (cs := (clV c (.slice ad c.data.length cp))) A6.out (by kernel_rfl) (by kernel_rfl) (by kernel_rfl) rfl rfl rfl rfl ?_
          refine hK.out _ _ ?_ (fun hHeld => ?_)
          · exact L6.out
          clear hK K
          try dsimp only at hHeld
          try simp only [Act.put, List.setIfInBounds_toArray, List.set_cons_zero, List.set_cons_succ, List.getElem_toArray, List.getElem_cons_succ, List.getElem_cons_zero]
          refine held_stronger (S' := fun w' => (fun w' => w'.heap[w1003.heap.size]? = some (.cells (clV c (.slice ad c.data.length cp)) 25)) w' ∧ ((fun w' => (w0.heap.size ≠ w1003.heap.size) ∧ (w.heap.size + 1 < w1003.heap.size) ∧ (Zc (w1003.heap.size) w') ∧ (w.heap.size + 1 < w0.heap.size) ∧ (Zc (w0.heap.size) w') ∧ (w'.heap[w.heap.size]? = some BA) ∧ (w'.heap[w.heap.size + 1]? = some BB) ∧ (w.grownBy w' none))) w') (fun _ h => h.2) _ _ _ _ ?_
          replace hHeld := And.intro Ny4.out hHeld
          try dsimp only at hHeld
          refine wpAnyH_ready (rs := [7]) (by kernel_rfl) (by simp) ?_
          refine AllReadyH.cons (o := _) rfl (fun K hK => ?_) AllReadyH.nil
          have hH2 := hHeld
          obtain ⟨y4, ne, l4, z4, l5, z5, ba, bb, g⟩ := hH2
          obtain ⟨_, _, _, _, hz⟩ := z5.ex
          have L7 := hid (show (((((w1003.alloc (.cells #[.int .u32 0, .int .i64 0, .int .i64 0, .slice none 0 0] 25))).setRow (w1003.heap.size) (clV c (.slice ad c.data.length cp))).setRow (w0.heap.size) (clV d (.slice ae d.data.length cq))).heap[w1003.heap.size]? = some (.cells (clV c (.slice ad c.data.length cp)) 25)) ∧ (w0.heap.size ≠ w1003.heap.size) ∧ (w.heap.size + 1 < w1003.heap.size) ∧ (Zc (w1003.heap.size) ((((w1003.alloc (.cells #[.int .u32 0, .int .i64 0, .int .i64 0, .slice none 0 0] 25))).setRow (w1003.heap.size) (clV c (.slice ad c.data.length cp))).setRow (w0.heap.size) (clV d (.slice ae d.data.length cq)))) ∧ (w.heap.size + 1 < w0.heap.size) ∧ (Zc (w0.heap.size) ((((w1003.alloc (.cells #[.int .u32 0, .int .i64 0, .int .i64 0, .slice none 0 0] 25))).setRow (w1003.heap.size) (clV c (.slice ad c.data.length cp))).setRow (w0.heap.size) (clV d (.slice ae d.data.length cq)))) ∧ (((((w1003.alloc (.cells #[.int .u32 0, .int .i64 0, .int .i64 0, .slice none 0 0] 25))).setRow (w1003.heap.size) (clV c (.slice ad c.data.length cp))).setRow (w0.heap.size) (clV d (.slice ae d.data.length cq))).heap[w.heap.size]? = some BA) ∧ (((((w1003.alloc (.cells #[.int .u32 0, .int .i64 0, .int .i64 0, .slice none 0 0] 25))).setRow (w1003.heap.size) (clV c (.slice ad c.data.length cp))).setRow (w0.heap.size) (clV d (.slice ae d.data.length cq))).heap[w.heap.size + 1]? = some BB) ∧ (w.grownBy ((((w1003.alloc (.cells #[.int .u32 0, .int .i64 0, .int .i64 0, .slice none 0 0] 25))).setRow (w1003.heap.size) (clV c (.slice ad c.data.length cp))).setRow (w0.heap.size) (clV d (.slice ae d.data.length cq))) none) from ⟨(at_setRow_other y4 (by have := ne; omega)), ne, l4, (z4.row _ _ _ _ _), l5, (z5.row _ _ _ _ _), (at_setRow_other ba (Nat.ne_of_lt (by have := l5; omega))), (at_setRow_other bb (Nat.ne_of_lt l5)), (gb_setRow g (by have := l5; omega))⟩)
          have Ny5 := hid (show ((((w1003.alloc (.cells #[.int .u32 0, .int .i64 0, .int .i64 0, .slice none 0 0] 25))).setRow (w1003.heap.size) (clV c (.slice ad c.data.length cp))).setRow (w0.heap.size) (clV d (.slice ae d.data.length cq))).heap[w0.heap.size]? = some (.cells (clV d (.slice ae d.data.length cq)) 25) from (at_setRow hz))
          have A7 := hid (hz)
          clear hHeld y4 ne l4 z4 l5 z5 ba bb g
          try simp only [List.getElem_toArray, List.getElem_cons_succ, List.getElem_cons_zero]
          rw [if_pos (by rfl)]
          refine wp_store_row (cs := (clV d (.slice ae d.data.length cq))) A7.out (by kernel_rfl) (by kernel_rfl) (by kernel_rfl) rfl rfl rfl rfl ?_
          refine hK.out _ _ ?_ (fun hHeld => ?_)
          · exact L7.out
          clear hK K
          try dsimp only at hHeld
          try simp only [Act.put, List.setIfInBounds_toArray, List.set_cons_zero, List.set_cons_succ, List.getElem_toArray, List.getElem_cons_succ, List.getElem_cons_zero]
          refine held_stronger (S' := fun w' => (fun w' => w'.heap[w0.heap.size]? = some (.cells (clV d (.slice ae d.data.length cq)) 25)) w' ∧ ((fun w' => (w'.heap[w1003.heap.size]? = some (.cells (clV c (.slice ad c.data.length cp)) 25)) ∧ (w0.heap.size ≠ w1003.heap.size) ∧ (w.heap.size + 1 < w1003.heap.size) ∧ (Zc (w1003.heap.size) w') ∧ (w.heap.size + 1 < w0.heap.size) ∧ (Zc (w0.heap.size) w') ∧ (w'.heap[w.heap.size]? = some BA) ∧ (w'.heap[w.heap.size + 1]? = some BB) ∧ (w.grownBy w' none))) w') (fun _ h => h.2) _ _ _ _ ?_
          replace hHeld := And.intro Ny5.out hHeld
          try dsimp only at hHeld
          refine wpAnyH_done (by kernel_rfl) ?_ _
          obtain ⟨y5, y4, ne, l4, z4, l5, z5, ba, bb, g⟩ := hHeld
          have K := hid (kp_two g y4 y5 HV1.out HV2.out); clear y5 y4 ne l4 z4 l5 z5 ba bb g
          go_wp2_with fail
          go_meet
          exact ⟨_, _, rfl, rfl, K.out⟩
        · have hH2 := hHeld
          obtain ⟨l5, z5, ba, bb, g⟩ := hH2
          have hg : (w1001).grownBy (w1001.alloc (.cells #[.int .u32 0, .int .i64 0, .int .i64 0, .slice none 0 0] 25)) none := World.grownBy_alloc (w1001) _ _
          have L4 := hid (show (w.heap.size + 1 < w0.heap.size) ∧ (Zc (w0.heap.size) (w1001.alloc (.cells #[.int .u32 0, .int .i64 0, .int .i64 0, .slice none 0 0] 25))) ∧ ((w1001.alloc (.cells #[.int .u32 0, .int .i64 0, .int .i64 0, .slice none 0 0] 25)).heap[w.heap.size]? = some BA) ∧ ((w1001.alloc (.cells #[.int .u32 0, .int .i64 0, .int .i64 0, .slice none 0 0] 25)).heap[w.heap.size + 1]? = some BB) ∧ (w.grownBy (w1001.alloc (.cells #[.int .u32 0, .int .i64 0, .int .i64 0, .slice none 0 0] 25)) none) from ⟨l5, z5.grown hg, at_grown ba hg (by simp), at_grown bb hg (by simp), gb_trans g hg (.inl rfl)⟩)
          have Nz4 := hid (show Zc (w1001.heap.size) (w1001.alloc (.cells #[.int .u32 0, .int .i64 0, .int .i64 0, .slice none 0 0] 25)) from (by have h : Zc (w1001).heap.size (w1001.alloc (.cells #[.int .u32 0, .int .i64 0, .int .i64 0, .slice none 0 0] 25)) := ⟨⟨_, _, _, _, at_new (w1001) (.cells #[.int .u32 0, .int .i64 0, .int .i64 0, .slice none 0 0] 25)⟩⟩; rw [(show (w1001).heap.size = w1001.heap.size from rfl)] at h; exact h))
          have Nl4 := hid (show w.heap.size + 1 < w1001.heap.size from (by rw [← (show (w1001).heap.size = w1001.heap.size from rfl)]; exact at_lt bb))
          have Nne := hid (show w0.heap.size ≠ w1001.heap.size from (Nat.ne_of_lt (by rw [← (show (w1001).heap.size = w1001.heap.size from rfl)]; exact z5.lt)))
          clear hHeld hg l5 z5 ba bb g
          try simp only [List.getElem_toArray, List.getElem_cons_succ, List.getElem_cons_zero]
          go_simp
          refine hK.out _ _ ?_ (fun hHeld => ?_)
          · exact L4.out
          clear hK K
          try dsimp only at hHeld
          try simp only [Act.put, List.setIfInBounds_toArray, List.set_cons_zero, List.set_cons_succ, List.getElem_toArray, List.getElem_cons_succ, List.getElem_cons_zero]
          refine held_stronger (S' := fun w' => (fun w' => Zc (w1001.heap.size) w') w' ∧ ((fun w' => (w.heap.size + 1 < w0.heap.size) ∧ (Zc (w0.heap.size) w') ∧ (w'.heap[w.heap.size]? = some BA) ∧ (w'.heap[w.heap.size + 1]? = some BB) ∧ (w.grownBy w' none))) w') (fun _ h => h.2) _ _ _ _ ?_
          replace hHeld := And.intro Nz4.out hHeld
          try dsimp only at hHeld
          refine held_stronger (S' := fun w' => (fun w' => w.heap.size + 1 < w1001.heap.size) w' ∧ ((fun w' => (Zc (w1001.heap.size) w') ∧ (w.heap.size + 1 < w0.heap.size) ∧ (Zc (w0.heap.size) w') ∧ (w'.heap[w.heap.size]? = some BA) ∧ (w'.heap[w.heap.size + 1]? = some BB) ∧ (w.grownBy w' none))) w') (fun _ h => h.2) _ _ _ _ ?_
          replace hHeld := And.intro Nl4.out hHeld
          try dsimp only at hHeld
          refine held_stronger (S' := fun w' => (fun w' => w0.heap.size ≠ w1001.heap.size) w' ∧ ((fun w' => (w.heap.size + 1 < w1001.heap.size) ∧ (Zc (w1001.heap.size) w') ∧ (w.heap.size + 1 < w0.heap.size) ∧ (Zc (w0.heap.size) w') ∧ (w'.heap[w.heap.size]? = some BA) ∧ (w'.heap[w.heap.size + 1]? = some BB) ∧ (w.grownBy w' none))) w') (fun _ h => h.2) _ _ _ _ ?_
          replace hHeld := And.intro Nne.out hHeld
          try dsimp only at hHeld
          refine wpAnyH_ready (rs := [3]) (by kernel_rfl) (by simp) ?_
          refine AllReadyH.cons (o := _) rfl (fun K hK => ?_) AllReadyH.nil
          try simp only [List.getElem_toArray, List.getElem_cons_succ, List.getElem_cons_zero]
          go_simp
          have hH2 := hHeld
          obtain ⟨ne, l4, z4, l5, z5, ba, bb, g⟩ := hH2
          refine (F2.out _).mono ?_
          rintro e w1003 ⟨rfl, hg⟩
          have L3 := hid (show (w0.heap.size ≠ w1001.heap.size) ∧ (w.heap.size + 1 < w1001.heap.size) ∧ (Zc (w1001.heap.size) w1003) ∧ (w.heap.size + 1 < w0.heap.size) ∧ (Zc (w0.heap.size) w1003) ∧ (w1003.heap[w.heap.size]? = some BA) ∧ (w1003.heap[w.heap.size + 1]? = some BB) ∧ (w.grownBy w1003 none) from ⟨ne, l4, z4.grown hg, l5, z5.grown hg, at_grown ba hg (by simp), at_grown bb hg (by simp), gb_trans g hg (.inl rfl)⟩)
          clear hHeld hg ne l4 z4 l5 z5 ba bb g
          go_wp2_with fail
          refine hK.out _ _ ?_ (fun hHeld => ?_)
          · exact L3.out
          clear hK K
          try dsimp only at hHeld
          try simp only [Act.put, List.setIfInBounds_toArray, List.set_cons_zero, List.set_cons_succ, List.getElem_toArray, List.getElem_cons_succ, List.getElem_cons_zero]
          refine wpAnyH_ready (rs := [6]) (by kernel_rfl) (by simp) ?_
          refine AllReadyH.cons (o := _) rfl (fun K hK => ?_) AllReadyH.nil
          have hH2 := hHeld
          obtain ⟨ne, l4, z4, l5, z5, ba, bb, g⟩ := hH2
          obtain ⟨_, _, _, _, hz⟩ := z4.ex
          have L6 := hid (show (w0.heap.size ≠ w1001.heap.size) ∧ (w.heap.size + 1 < w1001.heap.size) ∧ (Zc (w1001.heap.size) ((w1003).setRow (w1001.heap.size) (clV c (.slice ad c.data.length cp)))) ∧ (w.heap.size + 1 < w0.heap.size) ∧ (Zc (w0.heap.size) ((w1003).setRow (w1001.heap.size) (clV c (.slice ad c.data.length cp)))) ∧ (((w1003).setRow (w1001.heap.size) (clV c (.slice ad c.data.length cp))).heap[w.heap.size]? = some BA) ∧ (((w1003).setRow (w1001.heap.size) (clV c (.slice ad c.data.length cp))).heap[w.heap.size + 1]? = some BB) ∧ (w.grownBy ((w1003).setRow (w1001.heap.size) (clV c (.slice ad c.data.length cp))) none) from ⟨ne, l4, (z4.row _ _ _ _ _), l5, (z5.row _ _ _ _ _), (at_setRow_other ba (Nat.ne_of_lt (by have := l4; omega))), (at_setRow_other bb (Nat.ne_of_lt l4)), (gb_setRow g (by have := l4; omega))⟩)
          have Ny4 := hid (show ((w1003).setRow (w1001.heap.size) (clV c (.slice ad c.data.length cp))).heap[w1001.heap.size]? = some (.cells (clV c (.slice ad c.data.length cp)) 25) from (at_setRow hz))
          have A6 := hid (hz)
          clear hHeld ne l4 z4 l5 z5 ba bb g
          try simp only [List.getElem_toArray, List.getElem_cons_succ, List.getElem_cons_zero]
          rw [if_pos (by rfl)]
          refine wp_store_row (cs := (clV c (.slice ad c.data.length cp))) A6.out (by kernel_rfl) (by kernel_rfl) (by kernel_rfl) rfl rfl rfl rfl ?_
          refine hK.out _ _ ?_ (fun hHeld => ?_)
          · exact L6.out
          clear hK K
          try dsimp only at hHeld
          try simp only [Act.put, List.setIfInBounds_toArray, List.set_cons_zero, List.set_cons_succ, List.getElem_toArray, List.getElem_cons_succ, List.getElem_cons_zero]
          refine held_stronger (S' := fun w' => (fun w' => w'.heap[w1001.heap.size]? = some (.cells (clV c (.slice ad c.data.length cp)) 25)) w' ∧ ((fun w' => (w0.heap.size ≠ w1001.heap.size) ∧ (w.heap.size + 1 < w1001.heap.size) ∧ (Zc (w1001.heap.size) w') ∧ (w.heap.size + 1 < w0.heap.size) ∧ (Zc (w0.heap.size) w') ∧ (w'.heap[w.heap.size]? = some BA) ∧ (w'.heap[w.heap.size + 1]? = some BB) ∧ (w.grownBy w' none))) w') (fun _ h => h.2) _ _ _ _ ?_
          replace hHeld := And.intro Ny4.out hHeld
          try dsimp only at hHeld
          refine wpAnyH_ready (rs := [7]) (by kernel_rfl) (by simp) ?_
          refine AllReadyH.cons (o := _) rfl (fun K hK => ?_) AllReadyH.nil
          have hH2 := hHeld
          obtain ⟨y4, ne, l4, z4, l5, z5, ba, bb, g⟩ := hH2
          obtain ⟨_, _, _, _, hz⟩ := z5.ex
          have L7 := hid (show ((((w1003).setRow (w1001.heap.size) (clV c (.slice ad c.data.length cp))).setRow (w0.heap.size) (clV d (.slice ae d.data.length cq))).heap[w1001.heap.size]? = some (.cells (clV c (.slice ad c.data.length cp)) 25)) ∧ (w0.heap.size ≠ w1001.heap.size) ∧ (w.heap.size + 1 < w1001.heap.size) ∧ (Zc (w1001.heap.size) (((w1003).setRow (w1001.heap.size) (clV c (.slice ad c.data.length cp))).setRow (w0.heap.size) (clV d (.slice ae d.data.length cq)))) ∧ (w.heap.size + 1 < w0.heap.size) ∧ (Zc (w0.heap.size) (((w1003).setRow (w1001.heap.size) (clV c (.slice ad c.data.length cp))).setRow (w0.heap.size) (clV d (.slice ae d.data.length cq)))) ∧ ((((w1003).setRow (w1001.heap.size) (clV c (.slice ad c.data.length cp))).setRow (w0.heap.size) (clV d (.slice ae d.data.length cq))).heap[w.heap.size]? = some BA) ∧ ((((w1003).setRow (w1001.heap.size) (clV c (.slice ad c.data.length cp))).setRow (w0.heap.size) (clV d (.slice ae d.data.length cq))).heap[w.heap.size + 1]? = some BB) ∧ (w.grownBy (((w1003).setRow (w1001.heap.size) (clV c (.slice ad c.data.length cp))).setRow (w0.heap.size) (clV d (.slice ae d.data.length cq))) none) from ⟨(at_setRow_other y4 (by have := ne; omega)), ne, l4, (z4.row _ _ _ _ _), l5, (z5.row _ _ _ _ _), (at_setRow_other ba (Nat.ne_of_lt (by have := l5; omega))), (at_setRow_other bb (Nat.ne_of_lt l5)), (gb_setRow g (by have := l5; omega))⟩)
          have Ny5 := hid (show (((w1003).setRow (w1001.heap.size) (clV c (.slice ad c.data.length cp))).setRow (w0.heap.size) (clV d (.slice ae d.data.length cq))).heap[w0.heap.size]? = some (.cells (clV d (.slice ae d.data.length cq)) 25) from (at_setRow hz))
          have A7 := hid (hz)
          clear hHeld y4 ne l4 z4 l5 z5 ba bb g
          try simp only [List.getElem_toArray, List.getElem_cons_succ, List.getElem_cons_zero]
          rw [if_pos (by rfl)]
          refine wp_store_row (cs := (clV d (.slice ae d.data.length cq))) A7.out (by kernel_rfl) (by kernel_rfl) (by kernel_rfl) rfl rfl rfl rfl ?_
          refine hK.out _ _ ?_ (fun hHeld => ?_)
          · exact L7.out
          clear hK K
          try dsimp only at hHeld
          try simp only [Act.put, List.setIfInBounds_toArray, List.set_cons_zero, List.set_cons_succ, List.getElem_toArray, List.getElem_cons_succ, List.getElem_cons_zero]
          refine held_stronger (S' := fun w' => (fun w' => w'.heap[w0.heap.size]? = some (.cells (clV d (.slice ae d.data.length cq)) 25)) w' ∧ ((fun w' => (w'.heap[w1001.heap.size]? = some (.cells (clV c (.slice ad c.data.length cp)) 25)) ∧ (w0.heap.size ≠ w1001.heap.size) ∧ (w.heap.size + 1 < w1001.heap.size) ∧ (Zc (w1001.heap.size) w') ∧ (w.heap.size + 1 < w0.heap.size) ∧ (Zc (w0.heap.size) w') ∧ (w'.heap[w.heap.size]? = some BA) ∧ (w'.heap[w.heap.size + 1]? = some BB) ∧ (w.grownBy w' none))) w') (fun _ h => h.2) _ _ _ _ ?_
          replace hHeld := And.intro Ny5.out hHeld
          try dsimp only at hHeld
          refine wpAnyH_done (by kernel_rfl) ?_ _
          obtain ⟨y5, y4, ne, l4, z4, l5, z5, ba, bb, g⟩ := hHeld
          have K := hid (kp_two g y4 y5 HV1.out HV2.out); clear y5 y4 ne l4 z4 l5 z5 ba bb g
          go_wp2_with fail
          go_meet
          exact ⟨_, _, rfl, rfl, K.out⟩
      · have hH2 := hHeld
        obtain ⟨l5, z5, ba, bb, g⟩ := hH2
        have hg : (((w0.alloc (.cells #[.int .u32 0, .int .i64 0, .int .i64 0, .slice none 0 0] 25)).drew)).grownBy (((w0.alloc (.cells #[.int .u32 0, .int .i64 0, .int .i64 0, .slice none 0 0] 25)).drew).alloc (.cells #[.int .u32 0, .int .i64 0, .int .i64 0, .slice none 0 0] 25)) none := World.grownBy_alloc (((w0.alloc (.cells #[.int .u32 0, .int .i64 0, .int .i64 0, .slice none 0 0] 25)).drew)) _ _
        have L4 := hid (show (w.heap.size + 1 < w0.heap.size) ∧ (Zc (w0.heap.size) (((w0.alloc (.cells #[.int .u32 0, .int .i64 0, .int .i64 0, .slice none 0 0] 25)).drew).alloc (.cells #[.int .u32 0, .int .i64 0, .int .i64 0, .slice none 0 0] 25))) ∧ ((((w0.alloc (.cells #[.int .u32 0, .int .i64 0, .int .i64 0, .slice none 0 0] 25)).drew).alloc (.cells #[.int .u32 0, .int .i64 0, .int .i64 0, .slice none 0 0] 25)).heap[w.heap.size]? = some BA) ∧ ((((w0.alloc (.cells #[.int .u32 0, .int .i64 0, .int .i64 0, .slice none 0 0] 25)).drew).alloc (.cells #[.int .u32 0, .int .i64 0, .int .i64 0, .slice none 0 0] 25)).heap[w.heap.size + 1]? = some BB) ∧ (w.grownBy (((w0.alloc (.cells #[.int .u32 0, .int .i64 0, .int .i64 0, .slice none 0 0] 25)).drew).alloc (.cells #[.int .u32 0, .int .i64 0, .int .i64 0, .slice none 0 0] 25)) none) from ⟨l5, z5.grown hg, at_grown ba hg (by simp), at_grown bb hg (by simp), gb_trans g hg (.inl rfl)⟩)
        have Nz4 := hid (show Zc (w0.heap.size + 1) (((w0.alloc (.cells #[.int .u32 0, .int .i64 0, .int .i64 0, .slice none 0 0] 25)).drew).alloc (.cells #[.int .u32 0, .int .i64 0, .int .i64 0, .slice none 0 0] 25)) from (by have h : Zc (((w0.alloc (.cells #[.int .u32 0, .int .i64 0, .int .i64 0, .slice none 0 0] 25)).drew)).heap.size (((w0.alloc (.cells #[.int .u32 0, .int .i64 0, .int .i64 0, .slice none 0 0] 25)).drew).alloc (.cells #[.int .u32 0, .int .i64 0, .int .i64 0, .slice none 0 0] 25)) := ⟨⟨_, _, _, _, at_new (((w0.alloc (.cells #[.int .u32 0, .int .i64 0, .int .i64 0, .slice none 0 0] 25)).drew)) (.cells #[.int .u32 0, .int .i64 0, .int .i64 0, .slice none 0 0] 25)⟩⟩; rw [(show (((w0.alloc (.cells #[.int .u32 0, .int .i64 0, .int .i64 0, .slice none 0 0] 25)).drew)).heap.size = w0.heap.size + 1 from alloc_size _ _)] at h; exact h))
        have Nl4 := hid (show w.heap.size + 1 < w0.heap.size + 1 from (by rw [← (show (((w0.alloc (.cells #[.int .u32 0, .int .i64 0, .int .i64 0, .slice none 0 0] 25)).drew)).heap.size = w0.heap.size + 1 from alloc_size _ _)]; exact at_lt bb))
        have Nne := hid (show w0.heap.size ≠ w0.heap.size + 1 from (Nat.ne_of_lt (by rw [← (show (((w0.alloc (.cells #[.int .u32 0, .int .i64 0, .int .i64 0, .slice none 0 0] 25)).drew)).heap.size = w0.heap.size + 1 from alloc_size _ _)]; exact z5.lt)))
        clear hHeld hg l5 z5 ba bb g
        try simp only [List.getElem_toArray, List.getElem_cons_succ, List.getElem_cons_zero]
        go_simp
        refine hK.out _ _ ?_ (fun hHeld => ?_)
        · exact L4.out
        clear hK K
        try dsimp only at hHeld
        try simp only [Act.put, List.setIfInBounds_toArray, List.set_cons_zero, List.set_cons_succ, List.getElem_toArray, List.getElem_cons_succ, List.getElem_cons_zero]
        refine held_stronger (S' := fun w' => (fun w' => Zc (w0.heap.size + 1) w') w' ∧ ((fun w' => (w.heap.size + 1 < w0.heap.size) ∧ (Zc (w0.heap.size) w') ∧ (w'.heap[w.heap.size]? = some BA) ∧ (w'.heap[w.heap.size + 1]? = some BB) ∧ (w.grownBy w' none))) w') (fun _ h => h.2) _ _ _ _ ?_
        replace hHeld := And.intro Nz4.out hHeld
        try dsimp only at hHeld
        refine held_stronger (S' := fun w' => (fun w' => w.heap.size + 1 < w0.heap.size + 1) w' ∧ ((fun w' => (Zc (w0.heap.size + 1) w') ∧ (w.heap.size + 1 < w0.heap.size) ∧ (Zc (w0.heap.size) w') ∧ (w'.heap[w.heap.size]? = some BA) ∧ (w'.heap[w.heap.size + 1]? = some BB) ∧ (w.grownBy w' none))) w') (fun _ h => h.2) _ _ _ _ ?_
        replace hHeld := And.intro Nl4.out hHeld
        try dsimp only at hHeld
        refine held_stronger (S' := fun w' => (fun w' => w0.heap.size ≠ w0.heap.size + 1) w' ∧ ((fun w' => (w.heap.size + 1 < w0.heap.size + 1) ∧ (Zc (w0.heap.size + 1) w') ∧ (w.heap.size + 1 < w0.heap.size) ∧ (Zc (w0.heap.size) w') ∧ (w'.heap[w.heap.size]? = some BA) ∧ (w'.heap[w.heap.size + 1]? = some BB) ∧ (w.grownBy w' none))) w') (fun _ h => h.2) _ _ _ _ ?_
        replace hHeld := And.intro Nne.out hHeld
        try dsimp only at hHeld
        refine wpAnyH_ready (rs := [1]) (by kernel_rfl) (by simp) ?_
        refine AllReadyH.cons (o := _) rfl (fun K hK => ?_) AllReadyH.nil
        try simp only [List.getElem_toArray, List.getElem_cons_succ, List.getElem_cons_zero]
        go_simp
        have hH2 := hHeld
        obtain ⟨ne, l4, z4, l5, z5, ba, bb, g⟩ := hH2
        refine (F1.out _).mono ?_
        rintro e w1001 ⟨rfl, hg⟩
        have L1 := hid (show (w0.heap.size ≠ w0.heap.size + 1) ∧ (w.heap.size + 1 < w0.heap.size + 1) ∧ (Zc (w0.heap.size + 1) w1001) ∧ (w.heap.size + 1 < w0.heap.size) ∧ (Zc (w0.heap.size) w1001) ∧ (w1001.heap[w.heap.size]? = some BA) ∧ (w1001.heap[w.heap.size + 1]? = some BB) ∧ (w.grownBy w1001 none) from ⟨ne, l4, z4.grown hg, l5, z5.grown hg, at_grown ba hg (by simp), at_grown bb hg (by simp), gb_trans g hg (.inl rfl)⟩)
        clear hHeld hg ne l4 z4 l5 z5 ba bb g
        go_wp2_with fail
        refine hK.out _ _ ?_ (fun hHeld => ?_)
        · exact L1.out
        clear hK K
        try dsimp only at hHeld
        try simp only [Act.put, List.setIfInBounds_toArray, List.set_cons_zero, List.set_cons_succ, List.getElem_toArray, List.getElem_cons_succ, List.getElem_cons_zero]
        refine wpAnyH_ready (rs := [3]) (by kernel_rfl) (by simp) ?_
        refine AllReadyH.cons (o := _) rfl (fun K hK => ?_) AllReadyH.nil
        try simp only [List.getElem_toArray, List.getElem_cons_succ, List.getElem_cons_zero]
        go_simp
        have hH2 := hHeld
        obtain ⟨ne, l4, z4, l5, z5, ba, bb, g⟩ := hH2
        refine (F2.out _).mono ?_
        rintro e w1003 ⟨rfl, hg⟩
        have L3 := hid (show (w0.heap.size ≠ w0.heap.size + 1) ∧ (w.heap.size + 1 < w0.heap.size + 1) ∧ (Zc (w0.heap.size + 1) w1003) ∧ (w.heap.size + 1 < w0.heap.size) ∧ (Zc (w0.heap.size) w1003) ∧ (w1003.heap[w.heap.size]? = some BA) ∧ (w1003.heap[w.heap.size + 1]? = some BB) ∧ (w.grownBy w1003 none) from ⟨ne, l4, z4.grown hg, l5, z5.grown hg, at_grown ba hg (by simp), at_grown bb hg (by simp), gb_trans g hg (.inl rfl)⟩)
        clear hHeld hg ne l4 z4 l5 z5 ba bb g
        go_wp2_with fail
        refine hK.out _ _ ?_ (fun hHeld => ?_)
        · exact L3.out
        clear hK K
        try dsimp only at hHeld
        try simp only [Act.put, List.setIfInBounds_toArray, List.set_cons_zero, List.set_cons_succ, List.getElem_toArray, List.getElem_cons_succ, List.getElem_cons_zero]
        refine wpAnyH_ready (rs := [6]) (by kernel_rfl) (by simp) ?_
        refine AllReadyH.cons (o := _) rfl (fun K hK => ?_) AllReadyH.nil
        have hH2 := hHeld
        obtain ⟨ne, l4, z4, l5, z5, ba, bb, g⟩ := hH2
        obtain ⟨_, _, _, _, hz⟩ := z4.ex
        have L6 := hid (show (w0.heap.size ≠ w0.heap.size + 1) ∧ (w.heap.size + 1 < w0.heap.size + 1) ∧ (Zc (w0.heap.size + 1) ((w1003).setRow (w0.heap.size + 1) (clV c (.slice ad c.data.length cp)))) ∧ (w.heap.size + 1 < w0.heap.size) ∧ (Zc (w0.heap.size) ((w1003).setRow (w0.heap.size + 1) (clV c (.slice ad c.data.length cp)))) ∧ (((w1003).setRow (w0.heap.size + 1) (clV c (.slice ad c.data.length cp))).heap[w.heap.size]? = some BA) ∧ (((w1003).setRow (w0.heap.size + 1) (clV c (.slice ad c.data.length cp))).heap[w.heap.size + 1]? = some BB) ∧ (w.grownBy ((w1003).setRow (w0.heap.size + 1) (clV c (.slice ad c.data.length cp))) none) from ⟨ne, l4, (z4.row _ _ _ _ _), l5, (z5.row _ _ _ _ _), (at_setRow_other ba (Nat.ne_of_lt (by have := l4; omega))), (at_setRow_other bb (Nat.ne_of_lt l4)), (gb_setRow g (by have := l4; omega))⟩)
        have Ny4 := hid (show ((w1003).setRow (w0.heap.size + 1) (clV c (.slice ad c.data.length cp))).heap[w0.heap.size + 1]? = some (.cells (clV c (.slice ad c.data.length cp)) 25) from (at_setRow hz))
        have A6 := hid (hz)
        clear hHeld ne l4 z4 l5 z5 ba bb g
        try simp only [List.getElem_toArray, List.getElem_cons_succ, List.getElem_cons_zero]
        rw [if_pos (by rfl)]
        refine wp_store_row (cs := (clV c (.slice ad c.data.length cp))) A6.out (by kernel_rfl) (by kernel_rfl) (by kernel_rfl) rfl rfl rfl rfl ?_
        refine hK.out _ _ ?_ (fun hHeld => ?_)
        · exact L6.out
        clear hK K
        try dsimp only at hHeld
        try simp only [Act.put, List.setIfInBounds_toArray, List.set_cons_zero, List.set_cons_succ, List.getElem_toArray, List.getElem_cons_succ, List.getElem_cons_zero]
        refine held_stronger (S' := fun w' => (fun w' => w'.heap[w0.heap.size + 1]? = some (.cells (clV c (.slice ad c.data.length cp)) 25)) w' ∧ ((fun w' => (w0.heap.size ≠ w0.heap.size + 1) ∧ (w.heap.size + 1 < w0.heap.size + 1) ∧ (Zc (w0.heap.size + 1) w') ∧ (w.heap.size + 1 < w0.heap.size) ∧ (Zc (w0.heap.size) w') ∧ (w'.heap[w.heap.size]? = some BA) ∧ (w'.heap[w.heap.size + 1]? = some BB) ∧ (w.grownBy w' none))) w') (fun _ h => h.2) _ _ _ _ ?_
        replace hHeld := And.intro Ny4.out hHeld
        try dsimp only at hHeld
        refine wpAnyH_ready (rs := [7]) (by kernel_rfl) (by simp) ?_
        refine AllReadyH.cons (o := _) rfl (fun K hK => ?_) AllReadyH.nil
        have hH2 := hHeld
        obtain ⟨y4, ne, l4, z4, l5, z5, ba, bb, g⟩ := hH2
        obtain ⟨_, _, _, _, hz⟩ := z5.ex
        have L7 := hid (show ((((w1003).setRow (w0.heap.size + 1) (clV c (.slice ad c.data.length cp))).setRow (w0.heap.size) (clV d (.slice ae d.data.length cq))).heap[w0.heap.size + 1]? = some (.cells (clV c (.slice ad c.data.length cp)) 25)) ∧ (w0.heap.size ≠ w0.heap.size + 1) ∧ (w.heap.size + 1 < w0.heap.size + 1) ∧ (Zc (w0.heap.size + 1) (((w1003).setRow (w0.heap.size + 1) (clV c (.slice ad c.data.length cp))).setRow (w0.heap.size) (clV d (.slice ae d.data.length cq)))) ∧ (w.heap.size + 1 < w0.heap.size) ∧ (Zc (w0.heap.size) (((w1003).setRow (w0.heap.size + 1) (clV c (.slice ad c.data.length cp))).setRow (w0.heap.size) (clV d (.slice ae d.data.length cq)))) ∧ ((((w1003).setRow (w0.heap.size + 1) (clV c (.slice ad c.data.length cp))).setRow (w0.heap.size) (clV d (.slice ae d.data.length cq))).heap[w.heap.size]? = some BA) ∧ ((((w1003).setRow (w0.heap.size + 1) (clV c (.slice ad c.data.length cp))).setRow (w0.heap.size) (clV d (.slice ae d.data.length cq))).heap[w.heap.size + 1]? = some BB) ∧ (w.grownBy (((w1003).setRow (w0.heap.size + 1) (clV c (.slice ad c.data.length cp))).setRow (w0.heap.size) (clV d (.slice ae d.data.length cq))) none) from ⟨(at_setRow_other y4 (by have := ne; omega)), ne, l4, (z4.row _ _ _ _ _), l5, (z5.row _ _ _ _ _), (at_setRow_other ba (Nat.ne_of_lt (by have := l5; omega))), (at_setRow_other bb (Nat.ne_of_lt l5)), (gb_setRow g (by have := l5; omega))⟩)
        have Ny5 := hid (show (((w1003).setRow (w0.heap.size + 1) (clV c (.slice ad c.data.length cp))).setRow (w0.heap.size) (clV d (.slice ae d.data.length cq))).heap[w0.heap.size]? = some (.cells (clV d (.slice ae d.data.length cq)) 25) from (at_setRow hz))
        have A7 := hid (hz)
        clear hHeld y4 ne l4 z4 l5 z5 ba bb g
        try simp only [List.getElem_toArray, List.getElem_cons_succ, List.getElem_cons_zero]
        rw [if_pos (by rfl)]
        refine wp_store_row (cs := (clV d (.slice ae d.data.length cq))) A7.out (by kernel_rfl) (by kernel_rfl) (by kernel_rfl) rfl rfl rfl rfl ?_
        refine hK.out _ _ ?_ (fun hHeld => ?_)
        · exact L7.out
        clear hK K
        try dsimp only at hHeld
        try simp only [Act.put, List.setIfInBounds_toArray, List.set_cons_zero, List.set_cons_succ, List.getElem_toArray, List.getElem_cons_succ, List.getElem_cons_zero]
        refine held_stronger (S' := fun w' => (fun w' => w'.heap[w0.heap.size]? = some (.cells (clV d (.slice ae d.data.length cq)) 25)) w' ∧ ((fun w' => (w'.heap[w0.heap.size + 1]? = some (.cells (clV c (.slice ad c.data.length cp)) 25)) ∧ (w0.heap.size ≠ w0.heap.size + 1) ∧ (w.heap.size + 1 < w0.heap.size + 1) ∧ (Zc (w0.heap.size + 1) w') ∧ (w.heap.size + 1 < w0.heap.size) ∧ (Zc (w0.heap.size) w') ∧ (w'.heap[w.heap.size]? = some BA) ∧ (w'.heap[w.heap.size + 1]? = some BB) ∧ (w.grownBy w' none))) w') (fun _ h => h.2) _ _ _ _ ?_
        replace hHeld := And.intro Ny5.out hHeld
        try dsimp only at hHeld
        refine wpAnyH_done (by kernel_rfl) ?_ _
        obtain ⟨y5, y4, ne, l4, z4, l5, z5, ba, bb, g⟩ := hHeld
        have K := hid (kp_two g y4 y5 HV1.out HV2.out); clear y5 y4 ne l4 z4 l5 z5 ba bb g
        go_wp2_with fail
        go_meet
        exact ⟨_, _, rfl, rfl, K.out⟩
  case rest =>
    obtain ⟨b5, b6, rfl, rfl, hk⟩ := hcut
    have K1 := hid hk
    clear hk K0
    obtain ⟨d0, d1, d2, d3⟩ := cO_cells K1.out.b0
    obtain ⟨f0, f1, f2, f3⟩ := cO_cells K1.out.b1
    have e0 := EP.out
    cases x0 with
    | true =>
      go_wp2_with fail
      refine (told_any _).mono ?_
      rintro e w5 ⟨rfl, hg⟩
      have K5 := hid (K1.out.grown hg)
      go_wp2_with fail
      go_ret
      exact ⟨rfl, K5.out.g⟩
    | false =>
      go_wp2_with (first | refine wpList_row_w K1.out.b0 Try.underlying25 rfl (by kernel_rfl) rfl rfl rfl rfl ?_ | refine wpList_row K1.out.b0 Try.underlying25 rfl (by kernel_rfl) rfl rfl rfl rfl ?_)
      clear d0 d1 d2 d3 f0 f1 f2 f3
      refine (lput_as c HC.out rfl rfl rfl K1.out.y0 rfl).mono ?_
      rintro e w1 ⟨u, rfl, ho, hg⟩
      obtain ⟨g1, r1, rfl, hr1, -, -, -⟩ := ho.fulln (putL_len HC.out.d) (by decide)
      have K2 := hid ((K1.out.grown hg).addY ho.bytes)
      clear ho hg
      go_wp2_with (first | refine wpList_row_w K2.out.b1 Try.underlying25 rfl (by kernel_rfl) rfl rfl rfl rfl ?_ | refine wpList_row K2.out.b1 Try.underlying25 rfl (by kernel_rfl) rfl rfl rfl rfl ?_)
      refine (lput_as d HD.out rfl rfl rfl K2.out.y2 rfl).mono ?_
      rintro e w2 ⟨u, rfl, ho, hg⟩
      obtain ⟨g2, r2, rfl, hr2, -, -, -⟩ := ho.fulln (putL_len HD.out.d) (by decide)
      have K3 := hid ((K2.out.grown hg).addY ho.bytes)
      clear ho hg
      have kc := KC.out
      have kb0 : (0 : Int) ≤ (k : Int) := by omega
      have kb1 : (k : Int) < 64 := by have := HK.out; omega
      cases zero with
      | false =>
        have HY := hid (putL_len HD.out.d)
        have HX := hid (show ((putL c).take k ++ (putL d).drop k).length = 64 by rw [List.length_append, List.length_take, List.length_drop, HLA.out, HY.out]; have := HK.out; omega)
        go_upto_region 11 with fail
        have hkr : k ≤ r1 := by have := HK.out; omega
        have hkn : ¬ r2 = k := by have := HK.out; omega
        have hk64 : (k : Int) ≤ 64 := by have := HK.out; omega
        have KX := K3
        clear K1 K2 K3
        generalize w2 = wx at *
        refine wp_region_held_drew (S := (fun w' => (w.grownBy w' none))) (by kernel_rfl) (gb_drew KX.out.g) (fun hHeld => ?_)
        try dsimp only at hHeld
        refine' wpAnyH_take (i := 1) (v := _) rfl (by kernel_rfl) (by kernel_rfl) (by kernel_rfl) (fun _ _ _ h => h) (Or.inl ⟨by rfl, ?_⟩) hHeld ?_
        rotate_left
        · (intro w hSw; (try dsimp only at hSw); go_simp; try with_reducible rfl)
        try simp only [Act.put, List.setIfInBounds_toArray, List.set_cons_zero, List.set_cons_succ, List.getElem_toArray, List.getElem_cons_succ, List.getElem_cons_zero]
        refine' wpAnyH_take (i := 2) (v := _) rfl (by kernel_rfl) (by kernel_rfl) (by kernel_rfl) (fun _ _ _ h => h) (Or.inl ⟨by rfl, ?_⟩) hHeld ?_
        rotate_left
        · (intro w hSw; (try dsimp only at hSw); go_simp; try with_reducible rfl)
        try simp only [Act.put, List.setIfInBounds_toArray, List.set_cons_zero, List.set_cons_succ, List.getElem_toArray, List.getElem_cons_succ, List.getElem_cons_zero]
        refine' wpAnyH_take (i := 3) (v := _) rfl (by kernel_rfl) (by kernel_rfl) (by kernel_rfl) (fun _ _ _ h => h) (Or.inl ⟨by rfl, ?_⟩) hHeld ?_
        rotate_left
        · (intro w hSw; (try dsimp only at hSw); go_simp; try with_reducible rfl)
        try simp only [Act.put, List.setIfInBounds_toArray, List.set_cons_zero, List.set_cons_succ, List.getElem_toArray, List.getElem_cons_succ, List.getElem_cons_zero]
        refine' wpAnyH_take (i := 5) (v := _) rfl (by kernel_rfl) (by kernel_rfl) (by kernel_rfl) (fun _ _ _ h => h) (Or.inl ⟨by rfl, ?_⟩) hHeld ?_
        rotate_left
        · (intro w hSw; (try dsimp only at hSw); go_simp; try with_reducible rfl)
        try simp only [Act.put, List.setIfInBounds_toArray, List.set_cons_zero, List.set_cons_succ, List.getElem_toArray, List.getElem_cons_succ, List.getElem_cons_zero]
        refine' wpAnyH_take (i := 6) (v := _) rfl (by kernel_rfl) (by kernel_rfl) (by kernel_rfl) (fun _ _ _ h => h) (Or.inl ⟨by rfl, ?_⟩) hHeld ?_
        rotate_left
        · (intro w hSw; (try dsimp only at hSw); go_simp; try with_reducible rfl)
        try simp only [Act.put, List.setIfInBounds_toArray, List.set_cons_zero, List.set_cons_succ, List.getElem_toArray, List.getElem_cons_succ, List.getElem_cons_zero]
        refine' wpAnyH_take (i := 7) (v := _) rfl (by kernel_rfl) (by kernel_rfl) (by kernel_rfl) (fun _ _ _ h => h) (Or.inl ⟨by rfl, ?_⟩) hHeld ?_
        rotate_left
        · (intro w hSw; (try dsimp only at hSw); go_simp; try with_reducible rfl)
        try simp only [Act.put, List.setIfInBounds_toArray, List.set_cons_zero, List.set_cons_succ, List.getElem_toArray, List.getElem_cons_succ, List.getElem_cons_zero]
        refine wpAnyH_ready (rs := [0]) (by kernel_rfl) (by simp) ?_
        refine AllReadyH.cons (o := _) rfl (fun K hK => ?_) AllReadyH.nil
        have hH2 := hHeld
        have kg := hH2
        have hg : (wx.drew).grownBy ((wx.alloc (.cells #[] 5)).drew) none := World.grownBy_alloc (wx.drew) _ _
        have TG := hid (Kpo.start KX.out).drew
        have L0 := hid (show (w.grownBy ((wx.alloc (.cells #[] 5)).drew) none) from (gb_trans kg hg (.inl rfl)))
        clear hHeld hg kg
        try simp only [List.getElem_toArray, List.getElem_cons_succ, List.getElem_cons_zero]
        go_simp
        refine hK.out _ _ ?_ (fun hHeld => ?_)
        · exact L0.out
        clear hK K
        try dsimp only at hHeld
        try simp only [Act.put, List.setIfInBounds_toArray, List.set_cons_zero, List.set_cons_succ, List.getElem_toArray, List.getElem_cons_succ, List.getElem_cons_zero]
        refine wpAnyH_ready (rs := [4]) (by kernel_rfl) (by simp) ?_
        refine AllReadyH.cons (o := _) rfl (fun K hK => ?_) AllReadyH.nil
        have hH2 := hHeld
        have kg := hH2
        try simp only [List.getElem_toArray, List.getElem_cons_succ, List.getElem_cons_zero]
        rw [if_pos (by rfl)]
        refine wp_append_bytes _ _ rfl _ _ [] rfl TG.out.o _ ((putL c).take k) rfl (TG.out.k.y1.upto (by rw [HLA.out]; omega)) (by rw [List.length_take]; simp; omega) TG.out.hs ?_
        intro v66 w66 hown hgrow hat
        rw [List.nil_append] at hown
        replace TG := hid (TG.out.app hown hgrow)
        clear hown hgrow hat
        have L4 := hid (show (w.grownBy w66 none) from TG.out.k.g)
        clear hHeld kg
        refine hK.out _ _ ?_ (fun hHeld => ?_)
        · exact L4.out
        clear hK K
        try dsimp only at hHeld
        try simp only [Act.put, List.setIfInBounds_toArray, List.set_cons_zero, List.set_cons_succ, List.getElem_toArray, List.getElem_cons_succ, List.getElem_cons_zero]
        refine wpAnyH_ready (rs := [8]) (by kernel_rfl) (by simp) ?_
        refine AllReadyH.cons (o := _) rfl (fun K hK => ?_) AllReadyH.nil
        have hH2 := hHeld
        have kg := hH2
        try simp only [List.getElem_toArray, List.getElem_cons_succ, List.getElem_cons_zero]
        rw [if_pos (by rfl)]
        refine wp_append_bytes _ _ rfl _ _ ((putL c).take k) rfl TG.out.o _ ((putL d).drop k) rfl (TG.out.k.y0.rest HY.out (by have := HK.out; omega)) (by rw [List.length_take, List.length_drop, HLA.out, HY.out]; omega) TG.out.hs ?_
        intro v70 w70 hown hgrow hat
        replace TG := hid (TG.out.app hown hgrow)
        clear hown hgrow hat
        have L8 := hid (show (w.grownBy w70 none) from TG.out.k.g)
        clear hHeld kg
        refine hK.out _ _ ?_ (fun hHeld => ?_)
        · exact L8.out
        clear hK K
        try dsimp only at hHeld
        try simp only [Act.put, List.setIfInBounds_toArray, List.set_cons_zero, List.set_cons_succ, List.getElem_toArray, List.getElem_cons_succ, List.getElem_cons_zero]
        refine' wpAnyH_take (i := 9) (v := _) rfl (by kernel_rfl) (by kernel_rfl) (by kernel_rfl) (fun _ _ _ h => h) (Or.inl ⟨by rfl, ?_⟩) hHeld ?_
        rotate_left
        · (intro w hSw; (try dsimp only at hSw); go_simp; try with_reducible rfl)
        try simp only [Act.put, List.setIfInBounds_toArray, List.set_cons_zero, List.set_cons_succ, List.getElem_toArray, List.getElem_cons_succ, List.getElem_cons_zero]
        refine wpAnyH_done (by kernel_rfl) ?_ _
        have kg := hHeld
        clear kg KX
        obtain ⟨g16, r16, rfl, -, -, -, -⟩ := TG.out.o.fulln HX.out (by decide)
        have K11 := hid TG.out.k; have X11 := hid TG.out.o.bytes
        clear TG
        rcases (HG0'.out (by first | trivial | rfl)) with HG | HG
        · have HG := hid HG
          go_wp2_with fail
          refine (lget_as _ HG.out.2.1 HG.out.1 HG.out.2.2 (P := 0) (Q := 0) (K := 0) rfl rfl rfl (d := []) rfl (n := 0) rfl X11.out).mono ?_
          rintro e w12 ⟨p12, k12, rfl, ho, hg⟩
          have K12 := hid (K11.out.grown hg)
          clear ho hg
          go_upto_region 13 with fail
          have K13 := hid (K12.out.alloc (.cells #[.int .u32 0, .int .i64 0, .int .i64 0, .slice p12 0 k12] 31))
          obtain ⟨b17, hb17⟩ : ∃ b, b = w12.heap.size := ⟨_, rfl⟩
          rw [← hb17] at K13 ⊢
          generalize w12.alloc (.cells #[.int .u32 0, .int .i64 0, .int .i64 0, .slice p12 0 k12] 31) = w13 at *
          clear hb17
          go_wp2_with fail
          refine (told_any _).mono ?_
          rintro e w14 ⟨rfl, hg⟩
          have K14 := hid (K13.out.grown hg)
          clear hg
          go_wp2_with fail
          go_ret
          exact ⟨rfl, K14.out.g⟩
        · have HG := hid HG
          go_wp2_with fail
          refine (lget_as _ HG.out.2.1 HG.out.1 HG.out.2.2 rfl rfl rfl rfl rfl X11.out).mono ?_
          rintro e w12 ⟨p12, k12, rfl, ho, hg⟩
          have K12 := hid (K11.out.grown hg)
          clear ho hg
          go_upto_region 13 with fail
          have K13 := hid (K12.out.alloc (.cells #[.int .u32 (d.pass : Int), .int .i64 (d.place : Int), .int .i64 (d.kind : Int), .slice p12 d.data.length k12] 31))
          obtain ⟨b17, hb17⟩ : ∃ b, b = w12.heap.size := ⟨_, rfl⟩
          rw [← hb17] at K13 ⊢
          generalize w12.alloc (.cells #[.int .u32 (d.pass : Int), .int .i64 (d.place : Int), .int .i64 (d.kind : Int), .slice p12 d.data.length k12] 31) = w13 at *
          clear hb17
          have m0 := at_cell K13.out.b0 0
          rw [show (#[Value.int .u32 (d.pass : Int), Value.int .i64 (d.place : Int), Value.int .i64 (d.kind : Int), Value.slice p12 d.data.length k12] : Array Value)[0]? = some (Value.int .u32 (d.pass : Int)) from rfl] at m0
          obtain ⟨m1, -, -, -⟩ := cO_cells K13.out.b2
          go_wp2_with fail
          refine (told_any _).mono ?_
          rintro e w14 ⟨rfl, hg⟩
          have K14 := hid (K13.out.grown hg)
          clear hg
          go_wp2_with fail
          go_ret
          exact ⟨rfl, K14.out.g⟩
      | true =>
        obtain ⟨OZ, hmk, hzb⟩ := tz_make
        have HZB := hid hzb
        have HY := hid tz0_got.2.1
        have HX := hid (show ((putL c).take k ++ tz.drop k).length = 64 by rw [List.length_append, List.length_take, List.length_drop, HLA.out, HY.out]; have := HK.out; omega)
        go_upto_region 11 with fail
        have hkr : k ≤ r1 := by have := HK.out; omega
        have hkn : ¬ 64 = k := by have := HK.out; omega
        have hk64 : (k : Int) ≤ 64 := by have := HK.out; omega
        have KX := hid ((K3.out.grown (World.grownBy_alloc w2 OZ none)).addY (HZB.out w2))
        obtain ⟨g13, hg13⟩ : ∃ g, g = w2.heap.size := ⟨_, rfl⟩
        rw [← hg13] at KX ⊢
        generalize w2.alloc OZ = wx at *
        clear K1 K2 K3 hmk hzb HZB hg13
        refine wp_region_held_drew (S := (fun w' => (w.grownBy w' none))) (by kernel_rfl) (gb_drew KX.out.g) (fun hHeld => ?_)
        try dsimp only at hHeld
        refine' wpAnyH_take (i := 1) (v := _) rfl (by kernel_rfl) (by kernel_rfl) (by kernel_rfl) (fun _ _ _ h => h) (Or.inl ⟨by rfl, ?_⟩) hHeld ?_
        rotate_left
        · (intro w hSw; (try dsimp only at hSw); go_simp; try with_reducible rfl)
        try simp only [Act.put, List.setIfInBounds_toArray, List.set_cons_zero, List.set_cons_succ, List.getElem_toArray, List.getElem_cons_succ, List.getElem_cons_zero]
        refine' wpAnyH_take (i := 2) (v := _) rfl (by kernel_rfl) (by kernel_rfl) (by kernel_rfl) (fun _ _ _ h => h) (Or.inl ⟨by rfl, ?_⟩) hHeld ?_
        rotate_left
        · (intro w hSw; (try dsimp only at hSw); go_simp; try with_reducible rfl)
        try simp only [Act.put, List.setIfInBounds_toArray, List.set_cons_zero, List.set_cons_succ, List.getElem_toArray, List.getElem_cons_succ, List.getElem_cons_zero]
        refine' wpAnyH_take (i := 3) (v := _) rfl (by kernel_rfl) (by kernel_rfl) (by kernel_rfl) (fun _ _ _ h => h) (Or.inl ⟨by rfl, ?_⟩) hHeld ?_
        rotate_left
        · (intro w hSw; (try dsimp only at hSw); go_simp; try with_reducible rfl)
        try simp only [Act.put, List.setIfInBounds_toArray, List.set_cons_zero, List.set_cons_succ, List.getElem_toArray, List.getElem_cons_succ, List.getElem_cons_zero]
        refine' wpAnyH_take (i := 5) (v := _) rfl (by kernel_rfl) (by kernel_rfl) (by kernel_rfl) (fun _ _ _ h => h) (Or.inl ⟨by rfl, ?_⟩) hHeld ?_
        rotate_left
        · (intro w hSw; (try dsimp only at hSw); go_simp; try with_reducible rfl)
        try simp only [Act.put, List.setIfInBounds_toArray, List.set_cons_zero, List.set_cons_succ, List.getElem_toArray, List.getElem_cons_succ, List.getElem_cons_zero]
        refine' wpAnyH_take (i := 6) (v := _) rfl (by kernel_rfl) (by kernel_rfl) (by kernel_rfl) (fun _ _ _ h => h) (Or.inl ⟨by rfl, ?_⟩) hHeld ?_
        rotate_left
        · (intro w hSw; (try dsimp only at hSw); go_simp; try with_reducible rfl)
        try simp only [Act.put, List.setIfInBounds_toArray, List.set_cons_zero, List.set_cons_succ, List.getElem_toArray, List.getElem_cons_succ, List.getElem_cons_zero]
        refine' wpAnyH_take (i := 7) (v := _) rfl (by kernel_rfl) (by kernel_rfl) (by kernel_rfl) (fun _ _ _ h => h) (Or.inl ⟨by rfl, ?_⟩) hHeld ?_
        rotate_left
        · (intro w hSw; (try dsimp only at hSw); go_simp; try with_reducible rfl)
        try simp only [Act.put, List.setIfInBounds_toArray, List.set_cons_zero, List.set_cons_succ, List.getElem_toArray, List.getElem_cons_succ, List.getElem_cons_zero]
        refine wpAnyH_ready (rs := [0]) (by kernel_rfl) (by simp) ?_
        refine AllReadyH.cons (o := _) rfl (fun K hK => ?_) AllReadyH.nil
        have hH2 := hHeld
        have kg := hH2
        have hg : (wx.drew).grownBy ((wx.alloc (.cells #[] 5)).drew) none := World.grownBy_alloc (wx.drew) _ _
        have TG := hid (Kpo.start KX.out).drew
        have L0 := hid (show (w.grownBy ((wx.alloc (.cells #[] 5)).drew) none) from (gb_trans kg hg (.inl rfl)))
        clear hHeld hg kg
        try simp only [List.getElem_toArray, List.getElem_cons_succ, List.getElem_cons_zero]
        go_simp
        refine hK.out _ _ ?_ (fun hHeld => ?_)
        · exact L0.out
        clear hK K
        try dsimp only at hHeld
        try simp only [Act.put, List.setIfInBounds_toArray, List.set_cons_zero, List.set_cons_succ, List.getElem_toArray, List.getElem_cons_succ, List.getElem_cons_zero]
        refine wpAnyH_ready (rs := [4]) (by kernel_rfl) (by simp) ?_
        refine AllReadyH.cons (o := _) rfl (fun K hK => ?_) AllReadyH.nil
        have hH2 := hHeld
        have kg := hH2
        try simp only [List.getElem_toArray, List.getElem_cons_succ, List.getElem_cons_zero]
        rw [if_pos (by rfl)]
        refine wp_append_bytes _ _ rfl _ _ [] rfl TG.out.o _ ((putL c).take k) rfl (TG.out.k.y2.upto (by rw [HLA.out]; omega)) (by rw [List.length_take]; simp; omega) TG.out.hs ?_
        intro v66 w66 hown hgrow hat
        rw [List.nil_append] at hown
        replace TG := hid (TG.out.app hown hgrow)
        clear hown hgrow hat
        have L4 := hid (show (w.grownBy w66 none) from TG.out.k.g)
        clear hHeld kg
        refine hK.out _ _ ?_ (fun hHeld => ?_)
        · exact L4.out
        clear hK K
        try dsimp only at hHeld
        try simp only [Act.put, List.setIfInBounds_toArray, List.set_cons_zero, List.set_cons_succ, List.getElem_toArray, List.getElem_cons_succ, List.getElem_cons_zero]
        refine wpAnyH_ready (rs := [8]) (by kernel_rfl) (by simp) ?_
        refine AllReadyH.cons (o := _) rfl (fun K hK => ?_) AllReadyH.nil
        have hH2 := hHeld
        have kg := hH2
        try simp only [List.getElem_toArray, List.getElem_cons_succ, List.getElem_cons_zero]
        rw [if_pos (by rfl)]
        refine wp_append_bytes _ _ rfl _ _ ((putL c).take k) rfl TG.out.o _ (tz.drop k) rfl (TG.out.k.y0.rest HY.out (by have := HK.out; omega)) (by rw [List.length_take, List.length_drop, HLA.out, HY.out]; omega) TG.out.hs ?_
        intro v70 w70 hown hgrow hat
        replace TG := hid (TG.out.app hown hgrow)
        clear hown hgrow hat
        have L8 := hid (show (w.grownBy w70 none) from TG.out.k.g)
        clear hHeld kg
        refine hK.out _ _ ?_ (fun hHeld => ?_)
        · exact L8.out
        clear hK K
        try dsimp only at hHeld
        try simp only [Act.put, List.setIfInBounds_toArray, List.set_cons_zero, List.set_cons_succ, List.getElem_toArray, List.getElem_cons_succ, List.getElem_cons_zero]
        refine' wpAnyH_take (i := 9) (v := _) rfl (by kernel_rfl) (by kernel_rfl) (by kernel_rfl) (fun _ _ _ h => h) (Or.inl ⟨by rfl, ?_⟩) hHeld ?_
        rotate_left
        · (intro w hSw; (try dsimp only at hSw); go_simp; try with_reducible rfl)
        try simp only [Act.put, List.setIfInBounds_toArray, List.set_cons_zero, List.set_cons_succ, List.getElem_toArray, List.getElem_cons_succ, List.getElem_cons_zero]
        refine wpAnyH_done (by kernel_rfl) ?_ _
        have kg := hHeld
        clear kg KX
        obtain ⟨g16, r16, rfl, -, -, -, -⟩ := TG.out.o.fulln HX.out (by decide)
        have K11 := hid TG.out.k; have X11 := hid TG.out.o.bytes
        clear TG
        have HG := HG1
        go_wp2_with fail
        refine (lget_as _ HG.out.2.1 HG.out.1 HG.out.2.2 (P := 0) (Q := 0) (K := 0) rfl rfl rfl (d := []) rfl (n := 0) rfl X11.out).mono ?_
        rintro e w12 ⟨p12, k12, rfl, ho, hg⟩
        have K12 := hid (K11.out.grown hg)
        clear ho hg
        go_upto_region 13 with fail
        have K13 := hid (K12.out.alloc (.cells #[.int .u32 0, .int .i64 0, .int .i64 0, .slice p12 0 k12] 31))
        obtain ⟨b17, hb17⟩ : ∃ b, b = w12.heap.size := ⟨_, rfl⟩
        rw [← hb17] at K13 ⊢
        generalize w12.alloc (.cells #[.int .u32 0, .int .i64 0, .int .i64 0, .slice p12 0 k12] 31) = w13 at *
        clear hb17
        go_wp2_with fail
        refine (told_any _).mono ?_
        rintro e w14 ⟨rfl, hg⟩
        have K14 := hid (K13.out.grown hg)
        clear hg
        go_wp2_with fail
        go_ret
        exact ⟨rfl, K14.out.g⟩
theorem walk {w : World} (p1 : Nat) (q1 k1 : Int) (u1 : Value) (l1 : List UInt8) (hb1 : BytesAt w u1 l1) (p2 : Nat) (q2 k2 : Int) (u2 : Value) (l2 : List UInt8) (hb2 : BytesAt w u2 l2) (cut : Int) (zero : Bool) :
    Calls Try.prog 5 #[lcV p1 q1 k1 u1, lcV p2 q2 k2 u2, .int .i64 cut, .bool zero] w fun e w' => e = .returned (.bool true) ∧ w.grownBy w' none := by
  obtain ⟨a, cp, rfl⟩ := hb1.form
  obtain ⟨b, cq, rfl⟩ := hb2.form
  obtain ⟨k, hk, mk⟩ := umod_small cut 64 (by omega)
  rw [show ((64 : Nat) : Int) = 64 from rfl] at mk
  have hc := fit_may p1 q1 k1 l1
  have hd := fit_may p2 q2 k2 l2
  have z := tz0_got
  refine in_walk p1 p2 q1 k1 q2 k2 cut zero a b l1.length l2.length cp cq (fitC p1 q1 k1 l1) (fitC p2 q2 k2 l2) hc hd k hk mk _ rfl (fun hne => ?_) ?_ w (fit_bytes p1 q1 k1 hb1) (fit_bytes p2 q2 k2 hb2) (fun w => fit_eq p1 q1 k1 hb1 w) (fun w => fit_eq p2 q2 k2 hb2 w)
  · have hne' : (fitC p1 q1 k1 l1).pass ≠ (fitC p2 q2 k2 l2).pass := fun e => by rw [e] at hne; simp at hne
    generalize fitC p1 q1 k1 l1 = c at *
    generalize fitC p2 q2 k2 l2 = d at *
    by_cases h0 : k = 0
    · subst h0
      obtain ⟨g1, g2, g3⟩ := got_put hd
      exact .inr (by simp [g1, g2, g3])
    · exact .inl (torn_got hc (putL_len hd.d) (fun i h1 h2 => put_high hd i h1 h2) (by rw [mark_put hd]; exact fun e => hne' e.symm) hk (fun e => absurd e h0))
  · exact torn_got hc z.2.1 (fun i _ _ => z.2.2 i) (by rw [z.2.2 63]; have := hc.p1; show (0 : Nat) ≠ _; omega) hk (fun _ => by have h := z.1; unfold gotW at h; rw [z.2.1] at h; simpa using h)
end Go.Proofs.Ytjebmlmjbnaghaa.lgtorn
