/-
  Contract for package state: a decision is kept. The condition: the state lies there.
  slices.IndexFunc and slices.DeleteFunc of samples of those who are out. The condition: the state lies there; the slice is the call's own.
-/
import Derived.Test.YtecggbndlbkhdaaGreatJ0
import Derived.Test.YtecggbndlbkhdaaGreatY31
import Derived.Test.YtecggbndlbkhdaaGreatY13
import Derived.Test.YtecggbndlbkhdaaGreatY4
import Derived.Deep.RegionHeld3
import Derived.Test.YtecggbndlbkhdaaGreatY37
section
set_option linter.unusedSimpArgs false
set_option linter.unusedVariables false
namespace Go.Proofs.YtecggbndlbkhdaaGreat
set_option maxRecDepth 100000
open Go.RowKit

theorem dc_new (w : World) (d : Dc) : DAt (w.alloc (dcObj d)) (.slice (some ⟨w.heap.size, 0, none⟩) 1 1) [d] :=
  .inr ⟨_, 0, 1, rfl, Nat.le_refl _, by unfold maxLen; omega, fun j u hj => by
    rw [Nat.zero_add, at_cell (at_new w _) j]
    have e : flatD [d] = cellsD d := by simp [flatD]
    rw [e] at hj
    simpa [cellsD] using hj⟩
section
variable {w w' : World} {X : SBl} {c : Conf} {s : Ste}
theorem StAt.nd (h : StAt w X c s) {x : Nat} (hx : X.o x ≠ 5) : x ∉ X.d.ownBlock.toList := fun hm => hx (h.od x (by simpa using hm))
/-- other decisions -/
theorem StAt.decsNew0 (h : StAt w X c s) {v' : Value} {l' : List Dc} (hd : OwnD 0 w' v' l') (hc : Chg X.d.ownBlock.toList w w') (hb : ∀ x, v'.ownBlock = some x → X.d.ownBlock = some x ∨ w.heap.size ≤ x) :
    ∃ o' : Nat → Nat, StAt (w'.setCell ⟨X.b, 31, none⟩ v') { X with d := v', o := o' } c { s with ds := l' } ∧ Chg X.all w (w'.setCell ⟨X.b, 31, none⟩ v') ∧ ∀ x ∈ ({ X with d := v', o := o' } : SBl).all, x ∈ X.all ∨ w.heap.size ≤ x := by
  have hl := h.lt
  have keep : ∀ {x : Nat}, x ∈ X.all → (if x < w.heap.size then X.o x else 5) = X.o x := fun hx => if_pos (hl _ hx)
  have nb : ∀ {x : Nat}, X.o x ≠ 0 → x ∉ [X.b] := fun hx hm => hx (by rw [List.mem_singleton.1 hm]; exact h.ob)
  have hs : Chg [X.b] w' (w'.setCell ⟨X.b, 31, none⟩ v') := (chg_refl w' _).set (.inl (by simp)) _
  have hc2 : Chg (X.b :: X.d.ownBlock.toList) w (w'.setCell ⟨X.b, 31, none⟩ v') := (hc.more (fun x hx => List.mem_cons_of_mem _ hx)).then (hs.more (fun x hx => by rw [List.mem_singleton.1 hx]; exact List.mem_cons_self ..))
  have nn : ∀ {x : Nat}, X.o x ≠ 0 → X.o x ≠ 5 → x ∉ X.b :: X.d.ownBlock.toList := fun h0 h5 hm => by
    rcases List.mem_cons.1 hm with e | hm
    · exact h0 (by rw [e]; exact h.ob)
    · exact h.nd h5 hm
  refine ⟨fun x => if x < w.heap.size then X.o x else 5, ⟨?_, h.gate.chg hc2 fun x hx => nn (by rw [h.og x hx]; decide) (by rw [h.og x hx]; decide), h.table.chg hc2 (nn (by rw [h.ot.1]; decide) (by rw [h.ot.1]; decide)) (nn (by rw [h.ot.2]; decide) (by rw [h.ot.2]; decide)),
    h.score.chg hc2 (nn (by rw [h.os.1]; decide) (by rw [h.os.1]; decide)) (nn (by rw [h.os.2]; decide) (by rw [h.os.2]; decide)), h.law.chg hc2 fun x hx => nn (by rw [h.ol x hx]; decide) (by rw [h.ol x hx]; decide), ?_, ?_, fun x hx => ?_, ⟨?_, ?_⟩, ⟨?_, ?_⟩, fun x hx => ?_, fun x hx => ?_⟩, ?_, fun x hx => ?_⟩
  · have := at_set (hc.at h.row (h.nd (by rw [h.ob]; decide))) 31 v'
    exact this
  · refine hd.chg hs fun g hg hm => ?_
    rw [List.mem_singleton.1 hm] at hg
    rcases hb _ hg with h1 | h1
    · have := h.od _ h1; rw [h.ob] at this; cases this
    · have := hl _ X.mb; omega
  · exact (keep X.mb).trans h.ob
  · exact (keep (X.mF hx)).trans (h.og x hx)
  · exact (keep X.mt.1).trans h.ot.1
  · exact (keep X.mt.2.1).trans h.ot.2
  · exact (keep X.mt.2.2.1).trans h.os.1
  · exact (keep X.mt.2.2.2).trans h.os.2
  · exact (keep (X.ml hx)).trans (h.ol x hx)
  · show (if x < w.heap.size then X.o x else 5) = 5
    rcases hb x hx with h1 | h1
    · rw [if_pos (hl _ (X.md h1))]; exact h.od x h1
    · rw [if_neg (by omega)]
  · exact hc2.more fun x hx => by
      rcases List.mem_cons.1 hx with e | hx
      · rw [e]; exact X.mb
      · exact X.md (by simpa using hx)
  · rcases SBl.cases _ hx with e | e | e | e | e | e | e | e
    · exact .inl (by rw [e]; exact X.mb)
    · exact .inl (by rw [e]; exact X.mt.1)
    · exact .inl (by rw [e]; exact X.mt.2.1)
    · exact .inl (by rw [e]; exact X.mt.2.2.1)
    · exact .inl (by rw [e]; exact X.mt.2.2.2)
    · exact .inl (X.mF e)
    · exact .inl (X.ml e)
    · rcases hb x e with h1 | h1
      · exact .inl (X.md h1)
      · exact .inr h1
theorem StAt.decsNew (h : StAt w X c s) {v' : Value} {l' : List Dc} (hd : OwnD 0 w' v' l') (hc : Chg X.d.ownBlock.toList w w') (hb : ∀ x, v'.ownBlock = some x → X.d.ownBlock = some x ∨ w.heap.size ≤ x) :
    SuK w X.all X.b c { s with ds := l' } (w'.setCell ⟨X.b, 31, none⟩ v') := by
  obtain ⟨o', h1, h2, h3⟩ := h.decsNew0 hd hc hb
  exact ⟨{ X with d := v', o := o' }, rfl, h1, h2, h3⟩
end
set_option maxHeartbeats 3200000 in
theorem sukeep_room {w : World} {X : SBl} {c : Conf} {s : Ste} (hK : StAt w X c s) (d : Dc) (hl : s.ds.length < 64) :
    Calls Tryz.prog 156 #[.pointer (some ⟨X.b, 0, none⟩), dcV d] w fun e w' => e = .returned (.tuple #[]) ∧ SuK w X.all X.b c { s with ds := s.ds ++ [d] } w' := by
  have KX := hid (at_new w (dcObj d))
  have T := hid (hK.alloc (dcObj d))
  have RX := hid T.out.row
  have NX := hid (show w.heap.size ∉ X.d.ownBlock.toList from fun hm => Nat.lt_irrefl _ (hK.lt _ (X.md (by simpa using hm))))
  have HLN := hid (show s.ds.length < 64 from hl)
  have hn : ¬ (s.ds.length : Int) = 64 := by omega
  obtain ⟨pd, cd, hd⟩ := hK.decs.form
  have c31 := T.out.cells.2.2.2.2.2
  rw [hd] at c31
  have EB := hid hd
  have YX := hid (show ∀ y, y ∈ X.all → y < w.heap.size from hK.lt)
  have HK := hid hK
  clear hK hl hd
  go_enter Tryz.func156, Tryz.ntmps156
  go_wp2_with fail
  clear hn c31
  generalize hxb : w.heap.size = xb at KX NX ⊢
  have GX := hid (gb_alloc (.refl w none) (dcObj d))
  generalize w.alloc (dcObj d) = W0 at *
  clear hxb
  refine wp_region_last (S := (fun w' => (w'.heap[X.b]? = some (.cells (suCells c s.now X) 132)) ∧ (w'.heap[xb]? = some (dcObj d)))) 10 10 #[false, false, false, false, false, false, false, false, false, false, true] (by kernel_rfl) (by kernel_rfl) (by kernel_rfl) (by kernel_rfl) ⟨RX.out, KX.out⟩ (fun hHeld => ?_)
  try dsimp only at hHeld
  refine jU 0 hHeld ?_
  try simp only [jX, jD, jE, jF]
  refine jU 1 hHeld ?_
  try simp only [jX, jD, jE, jF]
  refine jU 2 hHeld ?_
  try simp only [jX, jD, jE, jF]
  refine jU 3 hHeld ?_
  try simp only [jX, jD, jE, jF]
  refine' jT 4 rfl (by rfl) ?_ hHeld ?_
  rotate_left
  · (intro w hSw; (try dsimp only at hSw); obtain ⟨R, KB⟩ := hSw; have k31 := (at_cell R 31).trans (congrArg some EB.out); go_simp; try with_reducible rfl)
  try simp only [jX, jD, jE, jF]
  refine' jT 5 rfl (by rfl) ?_ hHeld ?_
  rotate_left
  · (intro w hSw; (try dsimp only at hSw); (try simp only [jD, jE, jF]); refine exec_row (x := .tmp 3) (by obtain ⟨R, KB⟩ := hSw; exact KB) Tryz.underlying57 rfl (by kernel_rfl) ?_ ?_ <;> rfl)
  try simp only [jX, jD, jE, jF]
  refine jR [6] ?_
  refine jG rfl (fun K hK => ?_) AllReadyH.nil
  have hH2 := hHeld
  obtain ⟨R, KB⟩ := hH2
  have hg : W0.drew.grownBy (W0.drew.alloc (dcObj d)) none := World.grownBy_alloc _ _ _
  have R := at_grown R hg (by simp)
  have KB := at_grown KB hg (by simp)
  replace T := hid (T.out.drew.grown hg)
  have GA := hid (gb_trans (gb_drew (.refl W0 none)) hg (.inl rfl))
  have DN := hid (dc_new W0.drew d)
  have L6 := hid (show (((W0.drew.alloc (dcObj d))).heap[X.b]? = some (.cells (suCells c s.now X) 132)) ∧ (((W0.drew.alloc (dcObj d))).heap[xb]? = some (dcObj d)) from ⟨R, KB⟩)
  clear hHeld hg R KB
  try simp only [jD, jE, jF]
  go_simp
  refine hK.out _ _ ?_ (fun hHeld => ?_)
  · exact L6.out
  clear hK K
  try dsimp only at hHeld
  try simp only [jX, jD, jE, jF]
  refine jR [7] ?_
  refine jG rfl (fun K hK => ?_) AllReadyH.nil
  have hH2 := hHeld
  obtain ⟨R, KB⟩ := hH2
  try simp only [jD, jE, jF]
  rw [if_pos (by rfl)]
  have D7 := T.out.decs
  rw [EB.out] at D7
  refine wp_append_dc _ _ rfl 0 (.slice pd s.ds.length cd) s.ds rfl D7 _ [d] rfl DN.out (by rw [List.length_singleton]; have := HLN.out; omega) (Nat.zero_le _) ?_
  intro v7 w7 hown hgrow hat
  rw [← EB.out] at hgrow hat
  have C7 := hid (chg_opt hgrow)
  have O7 := hid hown
  have A7 := hid hat
  have T7 := hid T.out
  have R := C7.out.at R (T.out.nd (by rw [T.out.ob]; decide))
  have KB := C7.out.at KB NX.out
  clear hown hgrow hat
  have L7 := hid (show (w7.heap[X.b]? = some (.cells (suCells c s.now X) 132)) ∧ (w7.heap[xb]? = some (dcObj d)) from ⟨R, KB⟩)
  clear hHeld R KB
  refine hK.out _ _ ?_ (fun hHeld => ?_)
  · exact L7.out
  clear hK K
  try dsimp only at hHeld
  try simp only [jX, jD, jE, jF]
  refine jU 8 hHeld ?_
  try simp only [jX, jD, jE, jF]
  refine jU 9 hHeld ?_
  try simp only [jX, jD, jE, jF]
  refine wpAnyH_done (by kernel_rfl) ?_ _
  obtain ⟨R, KB⟩ := hHeld
  have RF := hid R
  obtain ⟨p7, c7, rfl⟩ := O7.out.form
  have FIN := hid (T7.out.decsNew O7.out C7.out (fun x hx => A7.out.elim (fun h => .inl (by rw [h] at hx; exact hx)) (fun h => .inr (by rw [h] at hx; cases hx; exact Nat.le_refl _))))
  have h9 := FIN.out
  simp only [List.length_append, List.length_cons, List.length_nil, Nat.zero_add] at h9
  have FIN := hid h9
  clear h9
  have k4 := at_free RF.out 31
  have k5 := (at_cell RF.out 31).trans (congrArg some EB.out)
  clear R KB
  refine atLast_step (o := _) rfl (fun K hK => ?_)
  try simp only [jD, jE, jF]
  go_simp
  refine hK.out _ _ ?_
  clear hK K k4 k5
  try simp only [jX, jD, jE, jF]
  go_wp2_with fail
  all_goals (go_end0; exact ⟨rfl, SuK.then ((chg_grown GX.out X.all).grown GA.out) (fun x hx => .inl hx) FIN.out⟩)
set_option maxHeartbeats 3200000 in
theorem sukeep_full {w : World} {X : SBl} {c : Conf} {s : Ste} (hK : StAt w X c s) (d : Dc) (hl : s.ds.length = 64) :
    Calls Tryz.prog 156 #[.pointer (some ⟨X.b, 0, none⟩), dcV d] w fun e w' => e = .returned (.tuple #[]) ∧ SuK w X.all X.b c { s with ds := s.ds.drop 1 ++ [d] } w' := by
  have KX := hid (at_new w (dcObj d))
  have T := hid (hK.alloc (dcObj d))
  have NX := hid (show w.heap.size ∉ X.d.ownBlock.toList from fun hm => Nat.lt_irrefl _ (hK.lt _ (X.md (by simpa using hm))))
  have hn : (s.ds.length : Int) = 64 := by omega
  obtain ⟨pd, cd, hd⟩ := hK.decs.form
  rw [hl] at hd
  have HD := hK.decs
  obtain ⟨-, h1 | ⟨g, cap, cur, e, -⟩⟩ := HD
  · have := h1.2; omega
  rw [hd, hl] at e
  cases e
  have c31 := T.out.cells.2.2.2.2.2
  rw [hd] at c31
  have EB := hid hd
  have DX := T.out.decs
  rw [hd] at DX
  have DL := hid (ddel_any DX hl)
  have YX := hid (show ∀ y, y ∈ X.all → y < w.heap.size from hK.lt)
  have HK := hid hK
  have hln : (s.ds.drop 1).length = 63 := by rw [List.length_drop]; omega
  obtain ⟨dr, hdr⟩ : ∃ r, s.ds.drop 1 = r := ⟨_, rfl⟩
  rw [hdr] at DL hln ⊢
  have HLN := hid (show dr.length < 64 by omega)
  have HL1 := hid hln
  clear hK hl hd DX hln hdr
  go_enter Tryz.func156, Tryz.ntmps156
  go_wp2_with fail
  refine DL.out.mono ?_
  rintro e w1 ⟨rfl, hO, hc⟩
  have hc' : Chg X.d.ownBlock.toList (w.alloc (dcObj d)) w1 := by rw [EB.out]; exact hc
  have R1 := hc'.at T.out.row (T.out.nd (by rw [T.out.ob]; decide))
  have K1 := hid (hc'.at KX.out NX.out)
  obtain ⟨o1, t1, t2, t3⟩ := T.out.decsNew0 hO hc' (fun x hx => .inl (by rw [EB.out]; exact hx))
  have T1 := hid t1; have T2 := hid t2; have T3 := hid t3
  have k31 := (at_cell R1 31).trans (congrArg some EB.out)
  have f31 := at_free R1 31
  clear hO hc hc' t1 t2 t3 DL c31 hn
  go_upto_region 3 with fail
  clear k31 f31 R1
  have KX2 := hid (at_set_other (p := ⟨X.b, 31, none⟩) K1.out (by intro e; have h1 := YX.out _ X.mb; have e : w.heap.size = X.b := e; omega) (.slice (some ⟨g, 0, none⟩) 63 cd))
  replace NX := hid (show w.heap.size ∉ (Value.slice (some ⟨g, 0, none⟩) 63 cd).ownBlock.toList by have h := NX.out; rw [EB.out] at h; exact h)
  clear K1 KX T
  generalize hxb : w.heap.size = xb at KX2 NX ⊢
  have KX := hid KX2.out
  have GX := hid (gb_alloc (.refl w none) (dcObj d))
  have S0 := hid (show ∀ x ∈ ({ X with d := .slice (some ⟨g, 0, none⟩) 63 cd, o := o1 } : SBl).all, x ∈ X.all ∨ w.heap.size ≤ x from fun x hx => (T3.out x hx).imp id (fun h => by have := GX.out.size; omega))
  generalize w1.setCell ⟨X.b, 31, none⟩ (.slice (some ⟨g, 0, none⟩) 63 cd) = W0 at *
  clear hxb KX2 EB T3
  obtain ⟨X1, hX1⟩ : ∃ Y : SBl, ({ X with d := .slice (some ⟨g, 0, none⟩) 63 cd, o := o1 } : SBl) = Y := ⟨_, rfl⟩
  have EX := hid (show X1.b = X.b from by rw [← hX1])
  have EB := hid (show X1.d = .slice (some ⟨g, 0, none⟩) 63 cd from by rw [← hX1])
  rw [hX1] at T1 S0
  rw [← EB.out] at NX
  have T := hid T1.out
  have RX := hid (show W0.heap[X.b]? = some (.cells (suCells c s.now X1) 132) from by have h := T.out.row; rw [EX.out] at h; exact h)
  have DD := hid T.out.decs
  clear hX1 T1
  have C0 := hid ((chg_grown GX.out X.all).trans T2.out (fun x hx => .inl hx))
  refine wp_region_last (S := (fun w' => (w'.heap[X.b]? = some (.cells (suCells c s.now X1) 132)) ∧ (w'.heap[xb]? = some (dcObj d)))) 10 10 #[false, false, false, false, false, false, false, false, false, false, true] (by kernel_rfl) (by kernel_rfl) (by kernel_rfl) (by kernel_rfl) ⟨RX.out, KX.out⟩ (fun hHeld => ?_)
  try dsimp only at hHeld
  refine jU 0 hHeld ?_
  try simp only [jX, jD, jE, jF]
  refine jU 1 hHeld ?_
  try simp only [jX, jD, jE, jF]
  refine jU 2 hHeld ?_
  try simp only [jX, jD, jE, jF]
  refine jU 3 hHeld ?_
  try simp only [jX, jD, jE, jF]
  refine' jT 4 rfl (by rfl) ?_ hHeld ?_
  rotate_left
  · (intro w hSw; (try dsimp only at hSw); obtain ⟨R, KB⟩ := hSw; have k31 := (at_cell R 31).trans (congrArg some EB.out); go_simp; try with_reducible rfl)
  try simp only [jX, jD, jE, jF]
  refine' jT 5 rfl (by rfl) ?_ hHeld ?_
  rotate_left
  · (intro w hSw; (try dsimp only at hSw); (try simp only [jD, jE, jF]); refine exec_row (x := .tmp 3) (by obtain ⟨R, KB⟩ := hSw; exact KB) Tryz.underlying57 rfl (by kernel_rfl) ?_ ?_ <;> rfl)
  try simp only [jX, jD, jE, jF]
  refine jR [6] ?_
  refine jG rfl (fun K hK => ?_) AllReadyH.nil
  have hH2 := hHeld
  obtain ⟨R, KB⟩ := hH2
  have hg : W0.drew.grownBy (W0.drew.alloc (dcObj d)) none := World.grownBy_alloc _ _ _
  have R := at_grown R hg (by simp)
  have KB := at_grown KB hg (by simp)
  replace T := hid (T.out.drew.grown hg)
  have GA := hid (gb_trans (gb_drew (.refl W0 none)) hg (.inl rfl))
  have DN := hid (dc_new W0.drew d)
  have L6 := hid (show (((W0.drew.alloc (dcObj d))).heap[X.b]? = some (.cells (suCells c s.now X1) 132)) ∧ (((W0.drew.alloc (dcObj d))).heap[xb]? = some (dcObj d)) from ⟨R, KB⟩)
  clear hHeld hg R KB
  try simp only [jD, jE, jF]
  go_simp
  refine hK.out _ _ ?_ (fun hHeld => ?_)
  · exact L6.out
  clear hK K
  try dsimp only at hHeld
  try simp only [jX, jD, jE, jF]
  refine jR [7] ?_
  refine jG rfl (fun K hK => ?_) AllReadyH.nil
  have hH2 := hHeld
  obtain ⟨R, KB⟩ := hH2
  try simp only [jD, jE, jF]
  rw [if_pos (by rfl)]
  have D7 := T.out.decs
  rw [EB.out] at D7
  refine wp_append_dc _ _ rfl 0 (.slice (some ⟨g, 0, none⟩) 63 cd) dr rfl D7 _ [d] rfl DN.out (by rw [List.length_singleton]; have := HLN.out; omega) (Nat.zero_le _) ?_
  intro v7 w7 hown hgrow hat
  rw [← EB.out] at hgrow hat
  have C7 := hid (chg_opt hgrow)
  have O7 := hid hown
  have A7 := hid hat
  have T7 := hid T.out
  have R := C7.out.at R (T.out.nd (by rw [← EX.out, T.out.ob]; decide))
  have KB := C7.out.at KB NX.out
  clear hown hgrow hat
  have L7 := hid (show (w7.heap[X.b]? = some (.cells (suCells c s.now X1) 132)) ∧ (w7.heap[xb]? = some (dcObj d)) from ⟨R, KB⟩)
  clear hHeld R KB
  refine hK.out _ _ ?_ (fun hHeld => ?_)
  · exact L7.out
  clear hK K
  try dsimp only at hHeld
  try simp only [jX, jD, jE, jF]
  refine jU 8 hHeld ?_
  try simp only [jX, jD, jE, jF]
  refine jU 9 hHeld ?_
  try simp only [jX, jD, jE, jF]
  refine wpAnyH_done (by kernel_rfl) ?_ _
  obtain ⟨R, KB⟩ := hHeld
  have RF := hid R
  obtain ⟨p7, c7, rfl⟩ := O7.out.form
  have FIN := hid (T7.out.decsNew O7.out C7.out (fun x hx => A7.out.elim (fun h => .inl (by rw [h] at hx; exact hx)) (fun h => .inr (by rw [h] at hx; cases hx; exact Nat.le_refl _))))
  have h9 := FIN.out
  simp only [List.length_append, List.length_cons, List.length_nil, Nat.zero_add] at h9
  have FIN := hid h9
  clear h9
  have FIN2 := hid (show SuK _ X1.all X.b c _ _ from by have h := FIN.out; rw [EX.out] at h; exact h)
  have k4 := at_free RF.out 31
  have k5 := (at_cell RF.out 31).trans (congrArg some EB.out)
  clear R KB
  refine atLast_step (o := _) rfl (fun K hK => ?_)
  try simp only [jD, jE, jF]
  go_simp
  refine hK.out _ _ ?_
  clear hK K k4 k5
  try simp only [jX, jD, jE, jF]
  go_wp2_with fail
  all_goals (go_end0; exact ⟨rfl, SuK.then (C0.out.grown GA.out) S0.out FIN2.out⟩)
end Go.Proofs.YtecggbndlbkhdaaGreat
end
section
set_option linter.unusedSimpArgs false
set_option linter.unusedVariables false
namespace Go.Proofs.YtecggbndlbkhdaaGreat
set_option maxRecDepth 100000
open Go.RowKit

/-- where the first one who is out stands -/
def FirstOut (H : List Hd) (L : List Sm) (i : Int) : Prop := (i = -1 ∧ ∀ (j : Nat) (x : Sm), L[j]? = some x → outL H x.who = false) ∨ ∃ k : Nat, i = (k : Int) ∧ k < L.length ∧ (∀ (j : Nat) (x : Sm), j < k → L[j]? = some x → outL H x.who = false) ∧ ∀ x, L[k]? = some x → outL H x.who = true
set_option maxHeartbeats 1600000 in
theorem zindex_any {X : SBl} {c : Conf} {s : Ste} {sb : Nat} {w : World} (hK : HrK X c s sb w) (v : Value) (L : List Sm) (hv : SAt w v L) (hlen : L.length ≤ 100000) :
    Calls Tryz.prog 308 #[v, hrdF sb] w fun e w' => ∃ i, e = .returned (.int .i64 i) ∧ FirstOut s.s.H L i ∧ w.grownBy w' none := by
  have HK := hid hK; have HI := hid hv
  obtain ⟨p, cp, rfl⟩ := hv.form
  obtain ⟨n, hn⟩ : ∃ n, L.length = n := ⟨_, rfl⟩
  have HN := hid hn
  rw [hn] at HI hlen ⊢
  clear hK hv hn
  go_enter Tryz.func308, Tryz.ntmps308
  go_wp2_with fail
  go_loopw [5, 8] (fun _ i wr => ∃ k : Nat, k ≤ n ∧ i = .int .i64 (k : Int) ∧ (∀ (j : Nat) (x : Sm), j < k → L[j]? = some x → outL s.s.H x.who = false) ∧ w.grownBy wr none) (fun _ i _ => n - (intOf i).toNat)
  case atStart => exact ⟨0, Nat.zero_le _, rfl, fun j x hj => absurd hj (Nat.not_lt_zero _), .refl w none⟩
  case round =>
    obtain ⟨k, hk, rfl, ha, hgr⟩ := hrel
    have HA := hid ha; have HGR := hid hgr
    clear ha hgr
    by_cases hlt : k < n
    · have hkl : k < L.length := by rw [HN.out]; exact hlt
      obtain ⟨ab, ao, rfl, -, hcc, e0, e1, e2, e3⟩ := (HI.out.grown HGR.out).cells hkl
      have hx := List.getElem?_eq_getElem hkl
      generalize L[k] = y at *
      have HX := hid hx; clear hx
      have HB := hid (hrd_any (HK.out.grown HGR.out) y)
      obtain ⟨yw, ym, ye, yv⟩ := y
      dsimp only at e0 e1 e2 e3
      cases hy : outL s.s.H yw with
      | true =>
        have HY := hid hy
        dsimp only at HB
        rw [hy] at HB
        clear hy
        go_wp2_with fail
        refine HB.out.mono ?_
        rintro e w1 ⟨rfl, hg⟩
        have G1 := hid (gb_trans HGR.out hg (.inl rfl)); clear hg
        go_wp2_with fail
        go_ret
        exact ⟨_, rfl, .inr ⟨k, rfl, hkl, HA.out, fun x hx => by rw [HX.out] at hx; cases hx; exact HY.out⟩, G1.out⟩
      | false =>
        have HY := hid hy
        dsimp only at HB
        rw [hy] at HB
        clear hy
        go_wp2_with fail
        refine HB.out.mono ?_
        rintro e w1 ⟨rfl, hg⟩
        have G1 := hid (gb_trans HGR.out hg (.inl rfl)); clear hg
        go_wp2_with fail
        go_roundw
        case rel => exact ⟨k + 1, by omega, by go_num, fun j x hj hjx => by
          rcases Nat.lt_or_ge j k with h1 | h1
          · exact HA.out j x h1 hjx
          · obtain rfl : j = k := by omega
            rw [HX.out] at hjx; cases hjx; exact HY.out, G1.out⟩
        case measure => simp [intOf]; omega
    · obtain rfl : k = n := by omega
      go_wp2_with fail
      go_ret
      exact ⟨_, rfl, .inl ⟨rfl, fun j x hj => HA.out j x (by rw [← HN.out]; exact (List.getElem?_eq_some_iff.1 hj).1) hj⟩, HGR.out⟩
/-- a row's samples in a block, with what is behind them -/
def ZBlk (W : World) (g : Nat) (M : List Sm) (R : List Value) : Prop := W.heap[g]? = some (.cells (flatS M ++ R).toArray 91)
theorem cellsS_len (x : Sm) : (cellsS x).length = 4 := rfl
theorem ZBlk.cells {W : World} {g : Nat} {M : List Sm} {R : List Value} (h : ZBlk W g M R) {j : Nat} (hj : j < M.length) : W.cell? ⟨g, j * 4, none⟩ = some (.int .i64 M[j].who) ∧ W.cell? ⟨g, j * 4 + 1, none⟩ = some (.int .i64 M[j].met) ∧ W.cell? ⟨g, j * 4 + 2, none⟩ = some (.int .i64 M[j].ep) ∧ W.cell? ⟨g, j * 4 + 3, none⟩ = some (.int .i64 M[j].val) := by
  obtain ⟨k0, k1, k2, k3⟩ := flatS_at M j hj
  have hl : (flatS M).length = M.length * 4 := flatS_len M
  have q : ∀ i, i < (flatS M).length → W.cell? ⟨g, i, none⟩ = (flatS M)[i]? := fun i hi => by
    rw [at_cell h i, List.getElem?_toArray, List.getElem?_append_left hi]
  exact ⟨(q _ (by omega)).trans k0, (q _ (by omega)).trans k1, (q _ (by omega)).trans k2, (q _ (by omega)).trans k3⟩
theorem ZBlk.set {W : World} {g : Nat} {M : List Sm} {R : List Value} (h : ZBlk W g M R) {i : Nat} (hi : i < M.length) (x : Sm) : ZBlk (W.setCells g (i * 4) (cellsS x)) g (M.set i x) R := by
  have hl := flatS_len M
  have := at_setCells (cellsS x) (i * 4) W _ h (by rw [List.length_append, cellsS_len]; omega)
  rw [show overV (flatS M ++ R) (cellsS x) (i * 4) = flatS (M.set i x) ++ R from flat_over cellsS cellsS_len M i hi x R] at this
  exact this
theorem filter_step {H : List Hd} {L : List Sm} {j : Nat} {x : Sm} (h : L[j]? = some x) : heardL H (L.take (j + 1)) = if outL H x.who = true then heardL H (L.take j) else heardL H (L.take j) ++ [x] := by
  unfold heardL
  rw [List.take_add_one, h]
  simp only [Option.toList_some, List.filter_append]
  cases hx : outL H x.who <;> simp [hx]
theorem filter_all {H : List Hd} {L : List Sm} {k : Nat} (h : ∀ (j : Nat) (x : Sm), j < k → L[j]? = some x → outL H x.who = false) : heardL H (L.take k) = L.take k := by
  unfold heardL
  refine List.filter_eq_self.2 fun x hx => ?_
  obtain ⟨j, hj, rfl⟩ := List.mem_iff_getElem.1 hx
  rw [List.length_take] at hj
  rw [h j _ (by omega) (by rw [List.getElem?_eq_getElem (by omega)]; simp)]
  rfl
def sz4 : List Value := [.int .i64 0, .int .i64 0, .int .i64 0, .int .i64 0]
theorem sz_zero (w : World) : (zeroValue 91).run Tryz.prog w = .ok (.agg sz4.toArray) w := by
  obtain ⟨i, hi, hz0, hz1, hz2⟩ := info_parts infoS
  simp [zeroValue, typeInfo, hi, hz0, sz4]
theorem rep_zero (k : Nat) : (List.replicate k sz4).flatMap id = flatS (List.replicate k ⟨0, 0, 0, 0⟩) := by
  induction k with
  | zero => rfl
  | succ k ih => rw [List.replicate_succ, List.replicate_succ, List.flatMap_cons, ih]; rfl
/-- the last ones made zero -/
theorem ZBlk.clear {W : World} {g cap i n : Nat} {M : List Sm} {R : List Value} (h : ZBlk W g M R) (hn : M.length = n) (hi : i < n) :
    (∀ ty, (Builtin.clear_ #[86] ty #[.slice (some ⟨g, i * 4, none⟩) (n - i) (cap - i)]).run Tryz.prog W = .ok (.tuple #[]) (W.setCells g (i * 4) (List.replicate (n - i) sz4).flatten)) ∧
    ZBlk (W.setCells g (i * 4) (List.replicate (n - i) sz4).flatten) g (M.take i) (flatS (List.replicate (n - i) ⟨0, 0, 0, 0⟩) ++ R) ∧ Chg [g] W (W.setCells g (i * 4) (List.replicate (n - i) sz4).flatten) := by
  rw [show (List.replicate (n - i) sz4).flatten = (List.replicate (n - i) sz4).flatMap id by simp]
  have hl := flatS_len M
  have hq : (n - i) * sz4.length = (n - i) * 4 := rfl
  have hlen : ((List.replicate (n - i) sz4).flatMap id).length = (n - i) * 4 := rep_len sz4 _
  refine ⟨fun ty => ?_, ?_, chg_setCells _ _ _⟩
  · refine run_clear_rows 86 91 ty (.agg sz4.toArray) sz4 Tryz.underlying86 sz_zero (by rfl) (by decide) (by intro u hu; simp only [sz4, List.mem_cons, List.not_mem_nil, or_false] at hu; rcases hu with rfl | rfl | rfl | rfl <;> rfl) g (i * 4) (n - i) _ (by omega)
      (fun j hj => ?_) (fun j hj => at_free h _)
    rw [hq] at hj
    rw [at_cell h, List.getElem?_toArray, List.getElem?_append_left (by omega), List.getElem?_eq_getElem (by omega)]
    rfl
  · have h1 := at_setCells ((List.replicate (n - i) sz4).flatMap id) (i * 4) W _ h (by rw [List.length_append, hlen]; omega)
    have e1 : overV (flatS M ++ R) ((List.replicate (n - i) sz4).flatMap id) (i * 4) = flatS (M.take i ++ List.replicate (n - i) ⟨0, 0, 0, 0⟩) ++ R := by
      rw [rep_zero]
      exact flat_tail cellsS cellsS_len M (List.replicate (n - i) ⟨0, 0, 0, 0⟩) i (by rw [List.length_replicate]; omega) R
    rw [e1, flatS_append, List.append_assoc] at h1
    exact h1
set_option maxHeartbeats 3200000 in
theorem zdel_any {X : SBl} {c : Conf} {s : Ste} {sb g cap : Nat} {w : World} {L : List Sm} {R : List Value} (hK : HrK X c s sb w) (hB : ZBlk w g L R) (hlen : L.length ≤ 100000) (hcap : L.length ≤ cap) (hmx : cap ≤ maxLen) (hg : g ∉ X.all ∧ g ≠ sb) :
    Calls Tryz.prog 240 #[.slice (some ⟨g, 0, none⟩) L.length cap, hrdF sb] w fun e w' => e = .returned (.slice (some ⟨g, 0, none⟩) (heardL s.s.H L).length cap) ∧ (∃ R', ZBlk w' g (heardL s.s.H L) R' ∧ (flatS (heardL s.s.H L) ++ R').length = (flatS L ++ R).length) ∧ Chg [g] w w' := by
  have hS : SAt w (.slice (some ⟨g, 0, none⟩) L.length cap) L := .inr ⟨g, 0, cap, rfl, hcap, hmx, fun j u hj => by
    rw [Nat.zero_add, at_cell hB, List.getElem?_toArray, List.getElem?_append_left (List.getElem?_eq_some_iff.1 hj).1]; exact hj⟩
  have IX := hid (zindex_any hK _ L hS hlen)
  have HK := hid hK; have HB := hid hB; have HG := hid hg; have HLL := hid hlen
  obtain ⟨n, hn⟩ : ∃ n, L.length = n := ⟨_, rfl⟩
  have HN := hid hn
  rw [hn] at IX hcap hlen ⊢
  unfold maxLen at hmx
  clear hK hB hg hS hn
  go_enter Tryz.func240, Tryz.ntmps240
  go_wp2_with fail
  refine IX.out.mono ?_
  rintro e w1 ⟨i, rfl, hf, hg1⟩
  have G1 := hid hg1
  clear IX hg1
  rcases hf with ⟨rfl, hno⟩ | ⟨k, rfl, hkn, hbe, hat⟩
  · have e1 : heardL s.s.H L = L := by
      have := filter_all (k := L.length) (fun j x _ h => hno j x h)
      rwa [List.take_length] at this
    have HE := hid e1
    clear hno e1
    go_wp2_with fail
    go_ret
    rw [HE.out, HN.out]
    exact ⟨rfl, ⟨R, at_grown HB.out G1.out (by simp), rfl⟩, chg_grown G1.out _⟩
  · have hk1 : ¬ (k : Int) = -1 := by omega
    rw [HN.out] at hkn
    have HBE := hid hbe; have HAT := hid hat
    clear hbe hat
    have E0 := hid (filter_all (k := k) HBE.out)
    have ES := hid (show heardL s.s.H (L.take (k + 1)) = L.take k by
      have hkl : k < L.length := by rw [HN.out]; exact hkn
      have := filter_step (H := s.s.H) (List.getElem?_eq_getElem hkl)
      rw [if_pos (HAT.out _ (List.getElem?_eq_getElem hkl))] at this
      rw [this]; exact E0.out)
    have HTL := hid (show (L.take k).length = k by rw [List.length_take, HN.out]; omega)
    have hk2 : ((k : Int) == -1) = false := by rw [beq_eq_false_iff_ne]; exact hk1
    clear hk1
    go_wp2_with fail
    clear hk2
    go_loopw [5, 6, 7] (fun a b _ wr => ∃ (ii jj : Nat) (M : List Sm), a = .int .i64 (ii : Int) ∧ b = .int .i64 (jj : Int) ∧ ii < jj ∧ jj ≤ n ∧ M.length = n ∧ M.take ii = heardL s.s.H (L.take jj) ∧ (heardL s.s.H (L.take jj)).length = ii ∧ M.drop jj = L.drop jj ∧ ZBlk wr g M R ∧ Chg [g] w wr) (fun _ b _ _ => n - (intOf b).toNat)
    case atStart => exact ⟨k, k + 1, L, rfl, by go_num, Nat.lt_succ_self k, hkn, HN.out, ES.out.symm, by rw [ES.out]; exact HTL.out, rfl, at_grown HB.out G1.out (by simp), chg_grown G1.out _⟩
    case round =>
      obtain ⟨ii, jj, M, rfl, rfl, hij, hjn, hM, hT, hL, hD, hZ, hC⟩ := hrel
      have HM := hid hM; have HT := hid hT; have HL := hid hL; have HD := hid hD; have HZ := hid hZ; have HC := hid hC
      have HKR := hid (HK.out.chg hC fun x hx => by rw [List.mem_singleton.1 hx]; exact HG.out)
      clear hM hT hL hD hZ hC
      by_cases hlt : jj < n
      · have hjM : jj < M.length := by rw [HM.out]; exact hlt
        have hiM : ii < M.length := by rw [HM.out]; omega
        obtain ⟨e0, e1, e2, e3⟩ := HZ.out.cells hjM
        have hxM := List.getElem?_eq_getElem hjM
        have hxL : L[jj]? = some M[jj] := by
          rw [← hxM]
          have h1 : (M.drop jj)[0]? = (L.drop jj)[0]? := by rw [HD.out]
          rw [List.getElem?_drop, List.getElem?_drop, Nat.add_zero] at h1
          exact h1.symm
        have HF := hid (filter_step (H := s.s.H) hxL)
        have HDD := hid (show M.drop (jj + 1) = L.drop (jj + 1) by rw [← List.drop_drop, HD.out, List.drop_drop])
        generalize M[jj] = y at *
        have HO := hid (hrd_any (HKR.out.grown (World.grownBy_alloc wr (.cells #[.int .i64 y.who, .int .i64 y.met, .int .i64 y.ep, .int .i64 y.val] 91) none)) y)
        have HN1 := hid (at_new wr (.cells #[.int .i64 y.who, .int .i64 y.met, .int .i64 y.ep, .int .i64 y.val] 91))
        have HZ1 := hid (show ZBlk (wr.alloc (.cells #[.int .i64 y.who, .int .i64 y.met, .int .i64 y.ep, .int .i64 y.val] 91)) g M R from at_alloc HZ.out _)
        have HC1 := hid (HC.out.alloc (.cells #[.int .i64 y.who, .int .i64 y.met, .int .i64 y.ep, .int .i64 y.val] 91))
        have hjc : jj < cap := by omega
        have hic : ii < cap := by omega
        have hin : ii < n := by omega
        obtain ⟨yw, ym, ye, yv⟩ := y
        dsimp only at e0 e1 e2 e3 HO HN1 HZ1 HC1
        clear hxM hxL HZ HC hjM
        cases hy : outL s.s.H yw with
        | true =>
          rw [hy] at HO
          have HFT := hid (show heardL s.s.H (L.take (jj + 1)) = heardL s.s.H (L.take jj) by rw [HF.out, if_pos hy])
          clear hy HF
          go_wp2_with fail
          refine HO.out.mono ?_
          rintro e w3 ⟨rfl, hg3⟩
          have Z3 := hid (show ZBlk w3 g M R from at_grown HZ1.out hg3 (by simp))
          have C3 := hid (HC1.out.grown hg3)
          clear hg3 HO HZ1 HC1 HN1 e0 e1 e2 e3
          go_wp2_with fail
          go_roundw
          case rel => exact ⟨ii, jj + 1, M, rfl, by go_num, by omega, hlt, HM.out, by rw [HFT.out]; exact HT.out, by rw [HFT.out]; exact HL.out, HDD.out, Z3.out, C3.out⟩
          case measure => simp [intOf]; omega
        | false =>
          rw [hy] at HO
          have HFT := hid (show heardL s.s.H (L.take (jj + 1)) = heardL s.s.H (L.take jj) ++ [⟨yw, ym, ye, yv⟩] by rw [HF.out, if_neg (by rw [hy]; simp)])
          clear hy HF
          go_wp2_with fail
          refine HO.out.mono ?_
          rintro e w3 ⟨rfl, hg3⟩
          have Z3 := hid (show ZBlk w3 g M R from at_grown HZ1.out hg3 (by simp))
          have C3 := hid (HC1.out.grown hg3)
          have hN3 := at_grown HN1.out hg3 (by simp)
          have n0 := at_cell hN3 0; have n1 := at_cell hN3 1; have n2 := at_cell hN3 2; have n3 := at_cell hN3 3
          obtain ⟨d0, d1, d2, d3⟩ := Z3.out.cells hiM
          have fz := at_free (w := w3) (b := g) Z3.out
          have Z4 := hid (Z3.out.set hiM ⟨yw, ym, ye, yv⟩)
          have C4 := hid (C3.out.then (chg_setCells (cellsS ⟨yw, ym, ye, yv⟩) (ii * 4) w3))
          have HT4 := hid (show (M.set ii ⟨yw, ym, ye, yv⟩).take (ii + 1) = heardL s.s.H (L.take jj) ++ [⟨yw, ym, ye, yv⟩] by
            rw [← HT.out, List.take_set, List.take_succ_eq_append_getElem hiM, List.set_append_right _ _ (by rw [List.length_take]; omega), List.length_take, Nat.min_eq_left (by omega), Nat.sub_self]
            rfl)
          have HD4 := hid (show (M.set ii ⟨yw, ym, ye, yv⟩).drop (jj + 1) = L.drop (jj + 1) by rw [List.drop_set_of_lt (by omega)]; exact HDD.out)
          clear hg3 HO HZ1 HC1 HN1 hN3 e0 e1 e2 e3
          go_wp2_with fail
          go_roundw
          case rel => exact ⟨ii + 1, jj + 1, _, by go_num, by go_num, by omega, hlt, by rw [List.length_set]; exact HM.out, by rw [HFT.out]; exact HT4.out, by rw [HFT.out, List.length_append, HL.out]; rfl, HD4.out, Z4.out, C4.out⟩
          case measure => simp [intOf]; omega
      · obtain rfl : jj = n := by omega
        have hic : ii ≤ cap := by omega
        have hic2 : ii < cap := by omega
        have hin2 : (ii : Int) ≤ (jj : Int) := by omega
        obtain ⟨k1, k2, k3⟩ := HZ.out.clear (cap := cap) HM.out hij
        have hii : ¬ cap = ii := by omega
        have K2 := hid k2; have C5 := hid (HC.out.then k3)
        have HFL := hid (show heardL s.s.H L = M.take ii by rw [HT.out, ← HN.out, List.take_length])
        have HTI := hid (show (M.take ii).length = ii by rw [List.length_take, HM.out]; omega)
        have HRL := hid (show (flatS (M.take ii) ++ (flatS (List.replicate (jj - ii) ⟨0, 0, 0, 0⟩) ++ R)).length = (flatS L ++ R).length by
          have a1 := flatS_len (M.take ii); have a2 := flatS_len (List.replicate (jj - ii) (⟨0, 0, 0, 0⟩ : Sm)); have a3 := flatS_len L
          rw [HTI.out] at a1; rw [List.length_replicate] at a2; rw [HN.out] at a3
          rw [List.length_append, List.length_append, List.length_append, a1, a2, a3, Nat.sub_mul]
          have : ii * 4 ≤ jj * 4 := Nat.mul_le_mul_right 4 (by omega)
          omega)
        clear k2 k3 HZ HC
        go_wp2_with fail
        go_ret
        rw [HFL.out, HTI.out]
        exact ⟨rfl, ⟨_, K2.out, HRL.out⟩, C5.out⟩
end Go.Proofs.YtecggbndlbkhdaaGreat
end
