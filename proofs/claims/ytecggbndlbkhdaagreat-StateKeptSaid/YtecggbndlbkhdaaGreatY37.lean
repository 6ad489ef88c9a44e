/-
  Samples of those that are heard: the closure that tells who is out, slices.IndexFunc and slices.DeleteFunc over it. The condition: the state lies there; the slice is the call's own.
  Contract for package state: New. The condition: a configuration that may be; of another one nil.
  Contracts: slices.SortedFunc of maps.Keys; all samples of a table, in their order. The condition: the table lies there.
-/
import Derived.Test.YtecggbndlbkhdaaGreatJ0
import Derived.Test.YtecggbndlbkhdaaGreatY29
import Derived.Test.YtecggbndlbkhdaaGreatY10
import Derived.Test.YtecggbndlbkhdaaGreatY6
import Derived.Test.YtecggbndlbkhdaaGreatY4
import Derived.Test.YtecggbndlbkhdaaGreatY13
import Derived.Test.YtecggbndlbkhdaaGreatY28
import Derived.Deep.RegionHeld3
import Derived.Test.YtecggbndlbkhdaaGreatY24
import Derived.Test.YtecggbndlbkhdaaGreatY7
import Derived.Test.YtecggbndlbkhdaaGreatY26
section
set_option linter.unusedSimpArgs false
set_option linter.unusedVariables false
namespace Go.Proofs.YtecggbndlbkhdaaGreat
set_option maxRecDepth 100000
open Go.RowKit

@[reducible] def smV (x : Sm) : Value := .agg #[.int .i64 x.who, .int .i64 x.met, .int .i64 x.ep, .int .i64 x.val]
@[reducible] def hrdF (sb : Nat) : Value := .func (.func 242) #[] #[.pointer (some ⟨sb, 0, none⟩)]
/-- the state, and the box of its pointer, beside what is done -/
structure HrK (X : SBl) (c : Conf) (s : Ste) (sb : Nat) (W : World) : Prop where
  st : StAt W X c s
  box : W.heap[sb]? = some (.cells #[.pointer (some ⟨X.b, 0, none⟩)] 29)
section
variable {w w' : World} {X : SBl} {c : Conf} {s : Ste} {sb : Nat} {F : List Nat}
theorem HrK.grown (h : HrK X c s sb w) (hg : w.grownBy w' none) : HrK X c s sb w' := ⟨h.st.grown hg, at_grown h.box hg (by simp)⟩
theorem HrK.drew (h : HrK X c s sb w) : HrK X c s sb w.drew := ⟨h.st.drew, h.box⟩
theorem HrK.chg (h : HrK X c s sb w) (hc : Chg F w w') (hF : ∀ x ∈ F, x ∉ X.all ∧ x ≠ sb) : HrK X c s sb w' := ⟨h.st.chg hc fun x hx hm => (hF x hm).1 hx, hc.at h.box fun hm => (hF sb hm).2 rfl⟩
theorem hrd_any (h : HrK X c s sb w) (x : Sm) :
    Calls Tryz.prog 242 #[smV x, .pointer (some ⟨sb, 0, none⟩)] w fun e w' => e = .returned (.bool (outL s.s.H x.who)) ∧ w.grownBy w' none := by
  obtain ⟨xw, xm, xe, xv⟩ := x
  have h1 := h.grown (World.grownBy_alloc w (.cells #[.int .i64 xw, .int .i64 xm, .int .i64 xe, .int .i64 xv] 91) none)
  have c0 := at_cell h1.box 0
  have O := hid (suout_any h1.st xw)
  have G := hid (gb_alloc (World.grownBy.refl w none) (.cells #[.int .i64 xw, .int .i64 xm, .int .i64 xe, .int .i64 xv] 91))
  clear h h1
  go_enter Tryz.func242, Tryz.ntmps242
  go_wp2_with fail
  refine O.out.mono ?_
  rintro e w2 ⟨rfl, hg⟩
  have G2 := hid (gb_trans G.out hg (.inl rfl))
  clear hg
  go_wp2_with fail
  go_ret
  exact ⟨rfl, G2.out⟩
end
end Go.Proofs.YtecggbndlbkhdaaGreat
end
section
set_option linter.unusedSimpArgs false
set_option linter.unusedVariables false
namespace Go.Proofs.YtecggbndlbkhdaaGreat
set_option maxRecDepth 100000
open Go.RowKit

def suO (n1 n2 n3 n4 x : Nat) : Nat := if x < n1 then 1 else if x < n2 then 2 else if x < n3 then 3 else if x < n4 then 4 else 0
@[reducible] def suX (B : GBl) (F : List Nat) (tb tm sb sh : Nat) (L : LBl) (b n1 n2 n3 : Nat) : SBl := ⟨b, B, F, tb, tm, sb, sh, L, .slice none 0 0, suO n1 n2 n3 b⟩
/-- what New makes -/
structure Made19 (w : World) (c : Conf) (s : Ste) (X : SBl) (W : World) : Prop where
  st : StAt W X c s
  gr : w.grownBy W none
  lo : ∀ x ∈ X.all, w.heap.size ≤ x
theorem su_fin {w W : World} {c : Conf} {s0 : Ste} (hO : SuOf c s0) (G : w.grownBy W none) {F : List Nat} {B : GBl} (hG : GtAt W F B s0.g) {n1 n2 n3 : Nat} (q1 : ∀ x ∈ F, w.heap.size ≤ x ∧ x < n1) (hT : TbAt c.n c.m c.fresh [] (n1 + 1) n1 W) (q2 : n1 + 1 < n2)
    {sb sh : Nat} (hS : ScAt s0.s sb sh W) (q3 : n2 ≤ sb ∧ n2 ≤ sh ∧ sb < n3 ∧ sh < n3) {L : LBl} (hL : LaAt W L s0.l) (q4 : ∀ x ∈ L.F, n3 ≤ x ∧ x < W.heap.size) :
    Made19 w c s0 (suX B F (n1 + 1) n1 sb sh L W.heap.size n1 n2 n3) (W.alloc (.cells (suCells c 0 (suX B F (n1 + 1) n1 sb sh L W.heap.size n1 n2 n3)) 132)) := by
  have h0 := q1 _ hG.mg
  have h4 := q4 L.b (by simp)
  obtain ⟨z1, z2, z3⟩ := hO.zero
  refine ⟨⟨?_, hG.grown (World.grownBy_alloc _ _ _), ?_, hS.alloc _, hL.grown (World.grownBy_alloc _ _ _), ?_, ?_, fun x hx => ?_, ⟨?_, ?_⟩, ⟨?_, ?_⟩, fun x hx => ?_, fun x hx => ?_⟩, gb_alloc G _, fun x hx => ?_⟩
  · rw [z1]; exact at_new W _
  · rw [z2]; exact hT.alloc _
  · rw [z3]; exact OwnD.nil _ _
  · show suO n1 n2 n3 W.heap.size W.heap.size = 0
    unfold suO
    rw [if_neg (by omega), if_neg (by omega), if_neg (by omega), if_neg (by omega)]
  · have := q1 x hx
    show suO n1 n2 n3 W.heap.size x = 1
    unfold suO
    rw [if_pos (by omega)]
  · show suO n1 n2 n3 W.heap.size (n1 + 1) = 2
    unfold suO
    rw [if_neg (by omega), if_pos (by omega)]
  · show suO n1 n2 n3 W.heap.size n1 = 2
    unfold suO
    rw [if_neg (by omega), if_pos (by omega)]
  · show suO n1 n2 n3 W.heap.size sb = 3
    unfold suO
    rw [if_neg (by omega), if_neg (by omega), if_pos (by omega)]
  · show suO n1 n2 n3 W.heap.size sh = 3
    unfold suO
    rw [if_neg (by omega), if_neg (by omega), if_pos (by omega)]
  · have := q4 x hx
    show suO n1 n2 n3 W.heap.size x = 4
    unfold suO
    rw [if_neg (by omega), if_neg (by omega), if_neg (by omega), if_pos (by omega)]
  · cases hx
  · have := G.size
    rcases SBl.cases _ hx with e | e | e | e | e | e | e | e
    · rw [e]; exact G.size
    · rw [e]; show w.heap.size ≤ n1 + 1; omega
    · rw [e]; show w.heap.size ≤ n1; omega
    · rw [e]; show w.heap.size ≤ sb; omega
    · rw [e]; show w.heap.size ≤ sh; omega
    · exact (q1 x e).1
    · have := q4 x e; omega
    · cases e
set_option maxHeartbeats 3200000 in
theorem sunew_ok {c : Conf} {s0 : Ste} (hO : SuOf c s0) (w : World) :
    Calls Tryz.prog 16 #[cf c] w fun e w' => ∃ X : SBl, e = .returned (.pointer (some ⟨X.b, 0, none⟩)) ∧ Made19 w c s0 X w' := by
  have K := hid (boxc_new w c)
  have MY := hid (fun u => cmay_any c u)
  rw [hO.may] at MY
  rw [show ((none : Option ByteArray).getD ⟨#[]⟩).toList.isEmpty = true by decide +kernel] at MY
  have HO := hid hO
  have GN := hid hO.gn
  have LN := hid hO.ln
  have TN := hid (fun u => new_yes c.n c.m c.fresh hO.tn u)
  obtain ⟨n, en, hms, es⟩ := hO.sn
  have SN := hid (fun u => scnew_yes n c.strikes c.probe c.far hms u)
  rw [← en, ← es] at SN
  clear hO en hms es
  go_enter Tryz.func16, Tryz.ntmps16
  go_wp2_with (refine wpList_conf K.out.box rfl rfl rfl rfl ?_)
  refine (MY.out _).mono ?_
  rintro e w1 ⟨rfl, hg⟩
  have K1 := hid (K.out.grown hg); clear hg MY
  go_wp2_with fail
  have KG := hid K1.out.g; have KB := hid K1.out.box
  generalize w.heap.size = xb at KB
  clear K K1
  refine wp_region_held_drew (S := (fun w' => (w.grownBy w' none) ∧ (w'.heap[xb]? = some (.cells c.cells 27)))) (by kernel_rfl) ⟨gb_drew KG.out, KB.out⟩ (fun hHeld => ?_)
  try dsimp only at hHeld
  refine' jT 0 rfl (by rfl) ?_ hHeld ?_
  rotate_left
  · (intro w hSw; (try dsimp only at hSw); (try simp only [jD, jE, jF]); refine exec_row (x := .tmp 1) (by obtain ⟨G, KC⟩ := hSw; exact KC) Tryz.underlying27 rfl (by kernel_rfl) ?_ ?_ <;> rfl)
  try simp only [jX, jD, jE, jF]
  refine' jT 1 rfl (by rfl) ?_ hHeld ?_
  rotate_left
  · (intro w hSw; (try dsimp only at hSw); (try simp only [jD, jE, jF]); refine exec_row (x := .tmp 1) (by obtain ⟨G, KC⟩ := hSw; exact KC) Tryz.underlying27 rfl (by kernel_rfl) ?_ ?_ <;> rfl)
  try simp only [jX, jD, jE, jF]
  refine jU 3 hHeld ?_
  try simp only [jX, jD, jE, jF]
  refine' jT 4 rfl (by rfl) ?_ hHeld ?_
  rotate_left
  · (intro w hSw; (try dsimp only at hSw); obtain ⟨G, KC⟩ := hSw; have k0 := at_cell KC 0; go_simp; try with_reducible rfl)
  try simp only [jX, jD, jE, jF]
  refine jU 5 hHeld ?_
  try simp only [jX, jD, jE, jF]
  refine' jT 6 rfl (by rfl) ?_ hHeld ?_
  rotate_left
  · (intro w hSw; (try dsimp only at hSw); obtain ⟨G, KC⟩ := hSw; have k2 := at_cell KC 2; go_simp; try with_reducible rfl)
  try simp only [jX, jD, jE, jF]
  refine jU 7 hHeld ?_
  try simp only [jX, jD, jE, jF]
  refine' jT 8 rfl (by rfl) ?_ hHeld ?_
  rotate_left
  · (intro w hSw; (try dsimp only at hSw); obtain ⟨G, KC⟩ := hSw; have k4 := at_cell KC 4; go_simp; try with_reducible rfl)
  try simp only [jX, jD, jE, jF]
  refine jU 10 hHeld ?_
  try simp only [jX, jD, jE, jF]
  refine' jT 11 rfl (by rfl) ?_ hHeld ?_
  rotate_left
  · (intro w hSw; (try dsimp only at hSw); obtain ⟨G, KC⟩ := hSw; have k0 := at_cell KC 0; go_simp; try with_reducible rfl)
  try simp only [jX, jD, jE, jF]
  refine jU 12 hHeld ?_
  try simp only [jX, jD, jE, jF]
  refine' jT 13 rfl (by rfl) ?_ hHeld ?_
  rotate_left
  · (intro w hSw; (try dsimp only at hSw); obtain ⟨G, KC⟩ := hSw; have k22 := at_cell KC 22; go_simp; try with_reducible rfl)
  try simp only [jX, jD, jE, jF]
  refine jU 14 hHeld ?_
  try simp only [jX, jD, jE, jF]
  refine' jT 15 rfl (by rfl) ?_ hHeld ?_
  rotate_left
  · (intro w hSw; (try dsimp only at hSw); obtain ⟨G, KC⟩ := hSw; have k23 := at_cell KC 23; go_simp; try with_reducible rfl)
  try simp only [jX, jD, jE, jF]
  refine jU 16 hHeld ?_
  try simp only [jX, jD, jE, jF]
  refine' jT 17 rfl (by rfl) ?_ hHeld ?_
  rotate_left
  · (intro w hSw; (try dsimp only at hSw); obtain ⟨G, KC⟩ := hSw; have k21 := at_cell KC 21; go_simp; try with_reducible rfl)
  try simp only [jX, jD, jE, jF]
  refine' jT 19 rfl (by rfl) ?_ hHeld ?_
  rotate_left
  · (intro w hSw; (try dsimp only at hSw); (try simp only [jD, jE, jF]); refine exec_row (x := .tmp 1) (by obtain ⟨G, KC⟩ := hSw; exact KC) Tryz.underlying27 rfl (by kernel_rfl) ?_ ?_ <;> rfl)
  try simp only [jX, jD, jE, jF]
  refine jU 20 hHeld ?_
  try simp only [jX, jD, jE, jF]
  refine' jT 21 rfl (by rfl) ?_ hHeld ?_
  rotate_left
  · (intro w hSw; (try dsimp only at hSw); obtain ⟨G, KC⟩ := hSw; have k12 := at_cell KC 12; go_simp; try with_reducible rfl)
  try simp only [jX, jD, jE, jF]
  refine jR [2] ?_
  refine jG rfl (fun K hK => ?_) AllReadyH.nil
  try simp only [jD, jE, jF]
  go_simp
  have hH2 := hHeld
  obtain ⟨G, KC⟩ := hH2
  refine ((GN.out _)).mono ?_
  rintro e w1002 ⟨F, B, rfl, hG, hg, hlo⟩
  have L2 := hid (show (w.grownBy w1002 none) ∧ (w1002.heap[xb]? = some (.cells c.cells 27)) from ⟨gb_trans G hg (.inl rfl), at_grown KC hg (by simp)⟩)
  have NGT := hid (show GtAt w1002 F B s0.g from hG)
  have Nq1 := hid (show ∀ x ∈ F, w.heap.size ≤ x ∧ x < w1002.heap.size from fun x hx => ⟨Nat.le_trans G.size (hlo x hx), hG.lt x hx⟩)
  clear hHeld hg G KC
  go_wp2_with fail
  refine hK.out _ _ ?_ (fun hHeld => ?_)
  · exact L2.out
  clear hK K
  try dsimp only at hHeld
  try simp only [jX, jD, jE, jF]
  refine held_stronger (S' := fun w' => (fun w' => GtAt w' F B s0.g) w' ∧ ((fun w' => (w.grownBy w' none) ∧ (w'.heap[xb]? = some (.cells c.cells 27)))) w') (fun _ h => h.2) _ _ _ _ ?_
  replace hHeld := And.intro NGT.out hHeld
  try dsimp only at hHeld
  refine held_stronger (S' := fun w' => (fun w' => ∀ x ∈ F, w.heap.size ≤ x ∧ x < w1002.heap.size) w' ∧ ((fun w' => (GtAt w' F B s0.g) ∧ (w.grownBy w' none) ∧ (w'.heap[xb]? = some (.cells c.cells 27)))) w') (fun _ h => h.2) _ _ _ _ ?_
  replace hHeld := And.intro Nq1.out hHeld
  try dsimp only at hHeld
  refine jR [9] ?_
  refine jG rfl (fun K hK => ?_) AllReadyH.nil
  try simp only [jD, jE, jF]
  go_simp
  have hH2 := hHeld
  obtain ⟨q1, GT, G, KC⟩ := hH2
  refine ((TN.out _)).mono ?_
  rintro e w1009 ⟨rfl, hT, hg⟩
  have L9 := hid (show (∀ x ∈ F, w.heap.size ≤ x ∧ x < w1002.heap.size) ∧ (GtAt w1009 F B s0.g) ∧ (w.grownBy w1009 none) ∧ (w1009.heap[xb]? = some (.cells c.cells 27)) from ⟨q1, GT.grown hg, gb_trans G hg (.inl rfl), at_grown KC hg (by simp)⟩)
  have NTB := hid (show TbAt c.n c.m c.fresh [] (w1002.heap.size + 1) w1002.heap.size w1009 from hT)
  have Nq2 := hid (show w1002.heap.size + 1 < w1009.heap.size from hT.lt.1)
  clear hHeld hg q1 GT G KC
  go_wp2_with fail
  refine hK.out _ _ ?_ (fun hHeld => ?_)
  · exact L9.out
  clear hK K
  try dsimp only at hHeld
  try simp only [jX, jD, jE, jF]
  refine held_stronger (S' := fun w' => (fun w' => TbAt c.n c.m c.fresh [] (w1002.heap.size + 1) w1002.heap.size w') w' ∧ ((fun w' => (∀ x ∈ F, w.heap.size ≤ x ∧ x < w1002.heap.size) ∧ (GtAt w' F B s0.g) ∧ (w.grownBy w' none) ∧ (w'.heap[xb]? = some (.cells c.cells 27)))) w') (fun _ h => h.2) _ _ _ _ ?_
  replace hHeld := And.intro NTB.out hHeld
  try dsimp only at hHeld
  refine held_stronger (S' := fun w' => (fun w' => w1002.heap.size + 1 < w1009.heap.size) w' ∧ ((fun w' => (TbAt c.n c.m c.fresh [] (w1002.heap.size + 1) w1002.heap.size w') ∧ (∀ x ∈ F, w.heap.size ≤ x ∧ x < w1002.heap.size) ∧ (GtAt w' F B s0.g) ∧ (w.grownBy w' none) ∧ (w'.heap[xb]? = some (.cells c.cells 27)))) w') (fun _ h => h.2) _ _ _ _ ?_
  replace hHeld := And.intro Nq2.out hHeld
  try dsimp only at hHeld
  refine jR [18] ?_
  refine jG rfl (fun K hK => ?_) AllReadyH.nil
  try simp only [jD, jE, jF]
  go_simp
  have hH2 := hHeld
  obtain ⟨q2, TB, q1, GT, G, KC⟩ := hH2
  refine ((SN.out _)).mono ?_
  rintro e w1018 ⟨sb, hb, rfl, hS, hg, l1, l2⟩
  have L18 := hid (show (w1002.heap.size + 1 < w1009.heap.size) ∧ (TbAt c.n c.m c.fresh [] (w1002.heap.size + 1) w1002.heap.size w1018) ∧ (∀ x ∈ F, w.heap.size ≤ x ∧ x < w1002.heap.size) ∧ (GtAt w1018 F B s0.g) ∧ (w.grownBy w1018 none) ∧ (w1018.heap[xb]? = some (.cells c.cells 27)) from ⟨q2, TB.grown hg, q1, GT.grown hg, gb_trans G hg (.inl rfl), at_grown KC hg (by simp)⟩)
  have NSC := hid (show ScAt s0.s sb hb w1018 from hS)
  have Nq3 := hid (show w1009.heap.size ≤ sb ∧ w1009.heap.size ≤ hb ∧ sb < w1018.heap.size ∧ hb < w1018.heap.size from ⟨l1, l2, hS.lt.1, hS.lt.2⟩)
  clear hHeld hg q2 TB q1 GT G KC
  go_wp2_with fail
  refine hK.out _ _ ?_ (fun hHeld => ?_)
  · exact L18.out
  clear hK K
  try dsimp only at hHeld
  try simp only [jX, jD, jE, jF]
  refine held_stronger (S' := fun w' => (fun w' => ScAt s0.s sb hb w') w' ∧ ((fun w' => (w1002.heap.size + 1 < w1009.heap.size) ∧ (TbAt c.n c.m c.fresh [] (w1002.heap.size + 1) w1002.heap.size w') ∧ (∀ x ∈ F, w.heap.size ≤ x ∧ x < w1002.heap.size) ∧ (GtAt w' F B s0.g) ∧ (w.grownBy w' none) ∧ (w'.heap[xb]? = some (.cells c.cells 27)))) w') (fun _ h => h.2) _ _ _ _ ?_
  replace hHeld := And.intro NSC.out hHeld
  try dsimp only at hHeld
  refine held_stronger (S' := fun w' => (fun w' => w1009.heap.size ≤ sb ∧ w1009.heap.size ≤ hb ∧ sb < w1018.heap.size ∧ hb < w1018.heap.size) w' ∧ ((fun w' => (ScAt s0.s sb hb w') ∧ (w1002.heap.size + 1 < w1009.heap.size) ∧ (TbAt c.n c.m c.fresh [] (w1002.heap.size + 1) w1002.heap.size w') ∧ (∀ x ∈ F, w.heap.size ≤ x ∧ x < w1002.heap.size) ∧ (GtAt w' F B s0.g) ∧ (w.grownBy w' none) ∧ (w'.heap[xb]? = some (.cells c.cells 27)))) w') (fun _ h => h.2) _ _ _ _ ?_
  replace hHeld := And.intro Nq3.out hHeld
  try dsimp only at hHeld
  refine jR [22] ?_
  refine jG rfl (fun K hK => ?_) AllReadyH.nil
  try simp only [jD, jE, jF]
  go_simp
  have hH2 := hHeld
  obtain ⟨q3, SC, q2, TB, q1, GT, G, KC⟩ := hH2
  refine ((LN.out _)).mono ?_
  rintro e w1022 ⟨LB, rfl, hL, hg, hlo⟩
  have L22 := hid (show (w1009.heap.size ≤ sb ∧ w1009.heap.size ≤ hb ∧ sb < w1018.heap.size ∧ hb < w1018.heap.size) ∧ (ScAt s0.s sb hb w1022) ∧ (w1002.heap.size + 1 < w1009.heap.size) ∧ (TbAt c.n c.m c.fresh [] (w1002.heap.size + 1) w1002.heap.size w1022) ∧ (∀ x ∈ F, w.heap.size ≤ x ∧ x < w1002.heap.size) ∧ (GtAt w1022 F B s0.g) ∧ (w.grownBy w1022 none) ∧ (w1022.heap[xb]? = some (.cells c.cells 27)) from ⟨q3, SC.grown hg, q2, TB.grown hg, q1, GT.grown hg, gb_trans G hg (.inl rfl), at_grown KC hg (by simp)⟩)
  have NLA := hid (show LaAt w1022 LB s0.l from hL)
  have Nq4 := hid (show ∀ x ∈ LB.F, w1018.heap.size ≤ x ∧ x < w1022.heap.size from fun x hx => ⟨hlo x hx, hL.lts x hx⟩)
  clear hHeld hg q3 SC q2 TB q1 GT G KC
  go_wp2_with fail
  refine hK.out _ _ ?_ (fun hHeld => ?_)
  · exact L22.out
  clear hK K
  try dsimp only at hHeld
  try simp only [jX, jD, jE, jF]
  refine held_stronger (S' := fun w' => (fun w' => LaAt w' LB s0.l) w' ∧ ((fun w' => (w1009.heap.size ≤ sb ∧ w1009.heap.size ≤ hb ∧ sb < w1018.heap.size ∧ hb < w1018.heap.size) ∧ (ScAt s0.s sb hb w') ∧ (w1002.heap.size + 1 < w1009.heap.size) ∧ (TbAt c.n c.m c.fresh [] (w1002.heap.size + 1) w1002.heap.size w') ∧ (∀ x ∈ F, w.heap.size ≤ x ∧ x < w1002.heap.size) ∧ (GtAt w' F B s0.g) ∧ (w.grownBy w' none) ∧ (w'.heap[xb]? = some (.cells c.cells 27)))) w') (fun _ h => h.2) _ _ _ _ ?_
  replace hHeld := And.intro NLA.out hHeld
  try dsimp only at hHeld
  refine held_stronger (S' := fun w' => (fun w' => ∀ x ∈ LB.F, w1018.heap.size ≤ x ∧ x < w1022.heap.size) w' ∧ ((fun w' => (LaAt w' LB s0.l) ∧ (w1009.heap.size ≤ sb ∧ w1009.heap.size ≤ hb ∧ sb < w1018.heap.size ∧ hb < w1018.heap.size) ∧ (ScAt s0.s sb hb w') ∧ (w1002.heap.size + 1 < w1009.heap.size) ∧ (TbAt c.n c.m c.fresh [] (w1002.heap.size + 1) w1002.heap.size w') ∧ (∀ x ∈ F, w.heap.size ≤ x ∧ x < w1002.heap.size) ∧ (GtAt w' F B s0.g) ∧ (w.grownBy w' none) ∧ (w'.heap[xb]? = some (.cells c.cells 27)))) w') (fun _ h => h.2) _ _ _ _ ?_
  replace hHeld := And.intro Nq4.out hHeld
  try dsimp only at hHeld
  refine' jT 23 rfl (by rfl) ?_ hHeld ?_
  rotate_left
  · (intro w hSw; (try dsimp only at hSw); (try simp only [jD, jE, jF]); refine exec_build (ty := 132) (parts := #[(0, Operand.tmp 6), (2, Operand.tmp 8), (3, Operand.tmp 15), (4, Operand.tmp 24), (5, Operand.tmp 28)]) (cs := suCells c 0 (suX B F (w1002.heap.size + 1) w1002.heap.size sb hb LB w1022.heap.size w1002.heap.size w1009.heap.size w1018.heap.size)) ?_ (by kernel_rfl) <;> rfl)
  try simp only [jX, jD, jE, jF]
  refine jR [24] ?_
  refine jG rfl (fun K hK => ?_) AllReadyH.nil
  have hH2 := hHeld
  obtain ⟨q4, LA, q3, SC, q2, TB, q1, GT, G, KC⟩ := hH2
  have hg : w1022.grownBy (w1022.alloc (.cells (suCells c 0 (suX B F (w1002.heap.size + 1) w1002.heap.size sb hb LB w1022.heap.size w1002.heap.size w1009.heap.size w1018.heap.size)) 132)) none := World.grownBy_alloc _ _ _
  have L24 := hid (show (∀ x ∈ LB.F, w1018.heap.size ≤ x ∧ x < w1022.heap.size) ∧ (LaAt ((w1022.alloc (.cells (suCells c 0 (suX B F (w1002.heap.size + 1) w1002.heap.size sb hb LB w1022.heap.size w1002.heap.size w1009.heap.size w1018.heap.size)) 132))) LB s0.l) ∧ (w1009.heap.size ≤ sb ∧ w1009.heap.size ≤ hb ∧ sb < w1018.heap.size ∧ hb < w1018.heap.size) ∧ (ScAt s0.s sb hb ((w1022.alloc (.cells (suCells c 0 (suX B F (w1002.heap.size + 1) w1002.heap.size sb hb LB w1022.heap.size w1002.heap.size w1009.heap.size w1018.heap.size)) 132)))) ∧ (w1002.heap.size + 1 < w1009.heap.size) ∧ (TbAt c.n c.m c.fresh [] (w1002.heap.size + 1) w1002.heap.size ((w1022.alloc (.cells (suCells c 0 (suX B F (w1002.heap.size + 1) w1002.heap.size sb hb LB w1022.heap.size w1002.heap.size w1009.heap.size w1018.heap.size)) 132)))) ∧ (∀ x ∈ F, w.heap.size ≤ x ∧ x < w1002.heap.size) ∧ (GtAt ((w1022.alloc (.cells (suCells c 0 (suX B F (w1002.heap.size + 1) w1002.heap.size sb hb LB w1022.heap.size w1002.heap.size w1009.heap.size w1018.heap.size)) 132))) F B s0.g) ∧ (w.grownBy ((w1022.alloc (.cells (suCells c 0 (suX B F (w1002.heap.size + 1) w1002.heap.size sb hb LB w1022.heap.size w1002.heap.size w1009.heap.size w1018.heap.size)) 132))) none) ∧ (((w1022.alloc (.cells (suCells c 0 (suX B F (w1002.heap.size + 1) w1002.heap.size sb hb LB w1022.heap.size w1002.heap.size w1009.heap.size w1018.heap.size)) 132))).heap[xb]? = some (.cells c.cells 27)) from ⟨q4, LA.grown hg, q3, SC.grown hg, q2, TB.grown hg, q1, GT.grown hg, gb_trans G hg (.inl rfl), at_grown KC hg (by simp)⟩)
  have NFIN := hid (show Made19 w c s0 (suX B F (w1002.heap.size + 1) w1002.heap.size sb hb LB w1022.heap.size w1002.heap.size w1009.heap.size w1018.heap.size) (w1022.alloc (.cells (suCells c 0 (suX B F (w1002.heap.size + 1) w1002.heap.size sb hb LB w1022.heap.size w1002.heap.size w1009.heap.size w1018.heap.size)) 132)) from su_fin HO.out G GT q1 TB q2 SC q3 LA q4)
  clear hHeld hg q4 LA q3 SC q2 TB q1 GT G KC
  try simp only [jD, jE, jF]
  go_simp
  refine hK.out _ _ ?_ (fun hHeld => ?_)
  · exact L24.out
  clear hK K
  try dsimp only at hHeld
  try simp only [jX, jD, jE, jF]
  refine held_stronger (S' := fun w' => (fun w' => Made19 w c s0 (suX B F (w1002.heap.size + 1) w1002.heap.size sb hb LB w1022.heap.size w1002.heap.size w1009.heap.size w1018.heap.size) (w1022.alloc (.cells (suCells c 0 (suX B F (w1002.heap.size + 1) w1002.heap.size sb hb LB w1022.heap.size w1002.heap.size w1009.heap.size w1018.heap.size)) 132))) w' ∧ ((fun w' => (∀ x ∈ LB.F, w1018.heap.size ≤ x ∧ x < w1022.heap.size) ∧ (LaAt w' LB s0.l) ∧ (w1009.heap.size ≤ sb ∧ w1009.heap.size ≤ hb ∧ sb < w1018.heap.size ∧ hb < w1018.heap.size) ∧ (ScAt s0.s sb hb w') ∧ (w1002.heap.size + 1 < w1009.heap.size) ∧ (TbAt c.n c.m c.fresh [] (w1002.heap.size + 1) w1002.heap.size w') ∧ (∀ x ∈ F, w.heap.size ≤ x ∧ x < w1002.heap.size) ∧ (GtAt w' F B s0.g) ∧ (w.grownBy w' none) ∧ (w'.heap[xb]? = some (.cells c.cells 27)))) w') (fun _ h => h.2) _ _ _ _ ?_
  replace hHeld := And.intro NFIN.out hHeld
  try dsimp only at hHeld
  refine jU 25 hHeld ?_
  try simp only [jX, jD, jE, jF]
  refine wpAnyH_done (by kernel_rfl) ?_ _
  obtain ⟨FIN, q4, LA, q3, SC, q2, TB, q1, GT, G, KC⟩ := hHeld
  have FF := hid FIN
  clear G KC GT q1 TB q2 SC q3 LA q4 FIN
  go_wp2_with fail
  go_ret
  exact ⟨_, rfl, FF.out⟩
theorem sunew_nil {c : Conf} (h : ((st22 c).getD ⟨#[]⟩).toList.isEmpty = false) (w : World) :
    Calls Tryz.prog 16 #[cf c] w fun e w' => e = .returned (.pointer none) ∧ w.grownBy w' none := by
  have K := hid (boxc_new w c)
  have MY := hid (fun u => cmay_any c u)
  rw [h] at MY
  clear h
  go_enter Tryz.func16, Tryz.ntmps16
  go_wp2_with (refine wpList_conf K.out.box rfl rfl rfl rfl ?_)
  refine (MY.out _).mono ?_
  rintro e w1 ⟨rfl, hg⟩
  have K1 := hid (K.out.grown hg); clear hg MY
  go_wp2_with fail
  go_ret
  exact ⟨rfl, K1.out.g⟩
end Go.Proofs.YtecggbndlbkhdaaGreat
end
section
set_option linter.unusedSimpArgs false
set_option linter.unusedVariables false
namespace Go.Proofs.YtecggbndlbkhdaaGreat
set_option maxRecDepth 100000
open Go.RowKit

theorem keys_any (mb : Option Nat) (w : World) : Calls Tryz.prog 204 #[.map mb] w fun e w' => e = .returned (.func (.func 286) #[] #[.pointer (some ⟨w.heap.size, 0, none⟩)]) ∧ w' = w.alloc (.cells #[.map mb] 228) :=
  (callsIn_wide (n := 1)).1 (keys_in Fence.wide 1 trivial rfl mb w)
theorem gb_of_below {w w' : World} (h : Below w.heap.size w w') : w.grownBy w' none := ⟨h.os, h.tape, h.output, h.size, fun k hk _ => h.block k hk⟩
theorem collect_any {L : List Sm} (Bm b nn : Nat) (D : DataW Unit) (hM : MapIs D L) (hS : Srt L) (hL : FitsT L) (hlen : L.length ≤ 100000) (w : World) (hBm : Bm < w.heap.size) (hm : w.cell? ⟨Bm, 0, none⟩ = some (.map (some b))) (hown : w.ownsMap Tryz.prog 317 (plainElem Tryz.prog 2) b nn D) :
    Calls Tryz.prog 284 #[.func (.func 286) #[] #[.pointer (some ⟨Bm, 0, none⟩)]] w fun e w' => ∃ v ps, e = .returned v ∧ ps.Perm (L.map Sm.pl) ∧ w'.ownsRow w.heap.size 317 3 v ps.length (flatP ps) ∧ (v = .slice none 0 0 ↔ ps = []) ∧ w.grownBy w' none :=
  ((callsIn_wide (n := 3)).1 (collect_in Fence.wide 3 trivial trivial rfl (Nat.le_refl _) 286 _ trivial (enters_of Tryz.func286 (by kernel_rfl) rfl) _ _ L.length hlen w (keys_stops Fence.wide 1 trivial rfl (Nat.le_refl _) Bm b nn D L hM hS hL w hBm hm hown))).mono
    fun e w' ⟨v, ps, h1, h2, h3, h4, h5⟩ => ⟨v, ps, h1, h2, h3, h4, gb_of_below h5⟩
theorem sorted_any {L : List Sm} (Bm b nn : Nat) (D : DataW Unit) (hM : MapIs D L) (hS : Srt L) (hL : FitsT L) (hlen : L.length ≤ 100000) (w : World) (hBm : Bm < w.heap.size) (hm : w.cell? ⟨Bm, 0, none⟩ = some (.map (some b))) (hown : w.ownsMap Tryz.prog 317 (plainElem Tryz.prog 2) b nn D) :
    Calls Tryz.prog 203 #[.func (.func 286) #[] #[.pointer (some ⟨Bm, 0, none⟩)], .func (.func 205) #[] #[]] w fun e w' => ∃ v, e = .returned v ∧ RdP w' v (L.map Sm.pl) ∧ w.grownBy w' none := by
  have HC := hid (collect_any Bm b nn D hM hS hL hlen w hBm hm hown)
  have HS := hid (And.intro hS hlen)
  clear hM hS hL hlen hBm hm hown
  go_enter Tryz.func203, Tryz.ntmps203
  go_wp2_with (first
    | (go_at_call 284; refine HC.out.mono ?_; rintro e w1 ⟨v, ps, rfl, hp, hrow, hnil, hg⟩; have HP := hid hp; have HROW := hid (And.intro hrow hnil); have HG := hid hg; clear hp hrow hnil hg)
    | (go_at_call 285; refine (sortP_any HS.out.1 _ v ps HP.out _ HROW.out.1 HROW.out.2 (by rw [HP.out.length_eq, List.length_map]; exact HS.out.2)).mono ?_; rintro e w2 ⟨rfl, hrd, hc⟩; have HRD := hid hrd; have HC2 := hid hc; clear hrd hc))
  go_ret
  refine ⟨v, rfl, HRD.out, ?_⟩
  have hc2 := HC2.out
  have hg := HG.out
  refine ((chg_grown hg []).trans hc2 fun x hx => .inr ?_).free (fun x hx => by cases hx)
  rcases HROW.out.1.2 with ⟨e0, _⟩ | ⟨g, cap, cur, e0, hb, _⟩
  · rw [e0] at hx; simp [Value.ownBlock] at hx
  · rw [e0] at hx; simp [Value.ownBlock] at hx; omega
theorem RdP.grown {W W' : World} {v : Value} {l : List Pc} (h : RdP W v l) (hg : W.grownBy W' none) : RdP W' v l := by
  rcases h with h | ⟨g, cap, rfl, h1, h2, h3⟩
  · exact .inl h
  · refine .inr ⟨g, cap, rfl, h1, h2, fun i hi => ?_⟩
    obtain ⟨k0, k1, k2⟩ := h3 i hi
    exact ⟨hg.cell k0 (by simp), hg.cell k1 (by simp), hg.cell k2 (by simp)⟩
theorem RdP.form {W : World} {v : Value} {l : List Pc} (h : RdP W v l) : ∃ p c, v = .slice p l.length c := by
  rcases h with ⟨rfl, rfl⟩ | ⟨g, cap, rfl, _⟩
  · exact ⟨none, 0, rfl⟩
  · exact ⟨_, cap, rfl⟩
theorem RdP.cells {W : World} {p : Option Addr} {n c : Nat} {l : List Pc} (h : RdP W (.slice p n c) l) {i : Nat} (hi : i < l.length) :
    ∃ g, p = some ⟨g, 0, none⟩ ∧ n = l.length ∧ n ≤ c ∧ W.cell? ⟨g, i * 3, none⟩ = some (.int .i64 l[i].1) ∧ W.cell? ⟨g, i * 3 + 1, none⟩ = some (.int .i64 l[i].2.1) ∧ W.cell? ⟨g, i * 3 + 2, none⟩ = some (.int .i64 l[i].2.2) := by
  rcases h with ⟨_, rfl⟩ | ⟨g, cap, e, h1, h2, h3⟩
  · simp at hi
  · cases e
    exact ⟨g, rfl, rfl, h1, h3 i hi⟩
set_option maxHeartbeats 1000000 in
theorem tall_any {n m f : Int} {L : List Sm} {b mb : Nat} {w : World} (h : TbAt n m f L b mb w) (hlen : L.length ≤ 100000) :
    Calls Tryz.prog 112 #[.pointer (some ⟨b, 0, none⟩)] w fun x w' => ∃ v, x = .returned v ∧ OwnZ w.heap.size w' v L ∧ w.grownBy w' none := by
  have HT := hid h
  have HLEN := hid hlen
  obtain ⟨c0, c1, c2, c3⟩ := h.cells
  obtain ⟨D, k1, k2⟩ := h.map
  have hs := sorted_any w.heap.size mb L.length D k2 h.fine.srt h.fine.fits hlen (w.alloc (.cells #[.map (some mb)] 228)) (by simp) (at_cell (at_new w _) 0) (k1.alloc _)
  have HS := hid hs
  clear h hlen k1 k2 hs
  go_enter Tryz.func112, Tryz.ntmps112
  go_wp2_with (first
    | (go_at_call 204; refine (keys_any _ _).mono ?_; rintro e w1 ⟨rfl, rfl⟩)
    | (go_at_call 203; refine HS.out.mono ?_; rintro e w2 ⟨v0, rfl, hrd, hg⟩; obtain ⟨p0, cc0, rfl⟩ := hrd.form; have HRD := hid hrd; have HG := hid (gb_trans (World.grownBy_alloc w _ none) hg (.inl rfl)); clear hrd hg))
  have HT2 := hid (HT.out.grown HG.out)
  clear HS
  clear c0 c1 c2 c3
  try rw [List.length_map]
  go_loopw [3, 15] (fun v i wr => ∃ (k : Nat) (vv : Value), v = vv ∧ k ≤ L.length ∧ i = .int .i64 (k : Int) ∧ OwnZ w2.heap.size wr vv (L.take k) ∧ w2.grownBy wr none)
    (fun _ i _ => L.length - (intOf i).toNat)
  case atStart =>
    exact ⟨0, _, rfl, Nat.zero_le _, rfl, by simpa using OwnZ.nil _ _, .refl _ _⟩
  case round =>
    obtain ⟨k, v, hv, hk, rfl, hown, hgr⟩ := hrel
    have hv' := hv.symm
    clear hv
    subst hv'
    have HOWN := hid hown
    have HGR := hid hgr
    clear hown hgr
    by_cases hkn : k < L.length
    · have hkn' : (k : Int) < (L.length : Int) := by omega
      have hlt : k + 1 ≤ L.length := hkn
      obtain ⟨g, rfl, hn0, hnc, d0, d1, d2⟩ := (HRD.out.grown HGR.out).cells (i := k) (by simpa using hkn)
      rw [List.getElem_map] at d0 d1 d2
      obtain ⟨s, hs⟩ : ∃ s, s = L[k] := ⟨_, rfl⟩
      have hmem : s ∈ L := by rw [hs]; exact List.getElem_mem hkn
      rw [← hs] at d0 d1 d2
      have htake : L.take (k + 1) = L.take k ++ [s] := by rw [hs]; exact (List.take_append_getElem hkn).symm
      have HM := hid (And.intro hmem htake)
      clear hn0 hs hmem htake
      simp only [Sm.pl] at d0 d1 d2
      have HB0 := hid (show w2.grownBy (wr.alloc (.cells #[.int .i64 s.ep, .int .i64 s.met, .int .i64 s.who] 317)) none ∧ (wr.alloc (.cells #[.int .i64 s.ep, .int .i64 s.met, .int .i64 s.who] 317)).heap[wr.heap.size]? = some (.cells #[.int .i64 s.ep, .int .i64 s.met, .int .i64 s.who] 317) from ⟨gb_alloc HGR.out _, at_new _ _⟩)
      have T0 := hid (HOWN.out.grown (World.grownBy_alloc wr (.cells #[.int .i64 s.ep, .int .i64 s.met, .int .i64 s.who] 317) none))
      have NB := hid (show some wr.heap.size ≠ v.ownBlock from fun e => by have := (HOWN.out.lt _ e.symm).2; omega)
      have LEN := hid (show (L.take k).length + [s].length ≤ 1000000 by have := HLEN.out; simp only [List.length_take, List.length_cons, List.length_nil]; omega)
      have hk6 : k < 100000 := by have := HLEN.out; omega
      have HKL := hid (show (L.take k).length = k by rw [List.length_take]; omega)
      go_upto_region 7 with fail
      refine wp_region_held_drew (S := (fun w' => (w2.grownBy w' none) ∧ (w'.heap[wr.heap.size]? = some (.cells #[.int .i64 s.ep, .int .i64 s.met, .int .i64 s.who] 317)))) (by kernel_rfl) ⟨gb_drew HB0.out.1, HB0.out.2⟩ (fun hHeld => ?_)
      try dsimp only at hHeld
      refine jU 0 hHeld ?_
      try simp only [jX, jD, jE, jF]
      refine' jT 1 rfl (by rfl) ?_ hHeld ?_
      rotate_left
      · (intro w hSw; (try dsimp only at hSw); obtain ⟨gr, pb⟩ := hSw; have e0 := at_cell pb 0; have e1 := at_cell pb 1; have e2 := at_cell pb 2; go_simp; try with_reducible rfl)
      try simp only [jX, jD, jE, jF]
      refine jU 2 hHeld ?_
      try simp only [jX, jD, jE, jF]
      refine jU 3 hHeld ?_
      try simp only [jX, jD, jE, jF]
      refine jU 4 hHeld ?_
      try simp only [jX, jD, jE, jF]
      refine' jT 5 rfl (by rfl) ?_ hHeld ?_
      rotate_left
      · (intro w hSw; (try dsimp only at hSw); obtain ⟨gr, pb⟩ := hSw; obtain ⟨t0, t1, t2, t3⟩ := (HT2.out.grown gr).cells; go_simp; try with_reducible rfl)
      try simp only [jX, jD, jE, jF]
      refine' jT 6 rfl (by rfl) ?_ hHeld ?_
      rotate_left
      · (intro w hSw; (try dsimp only at hSw); obtain ⟨gr, pb⟩ := hSw; have e0 := at_cell pb 0; have e1 := at_cell pb 1; have e2 := at_cell pb 2; go_simp; try with_reducible rfl)
      try simp only [jX, jD, jE, jF]
      refine' jT 7 rfl (by rfl) ?_ hHeld ?_
      rotate_left
      · (intro w hSw; (try dsimp only at hSw); (try simp only [jD, jE, jF]); refine exec_look (m := .tmp 24) (x := .tmp 25) (v := .int .i64 s.val) ?_ ?_ ?_ ((HT2.out.grown hSw.1).hit1 HM.out.1) <;> rfl)
      try simp only [jX, jD, jE, jF]
      refine jR [8] ?_
      refine jG rfl (fun K hK => ?_) AllReadyH.nil
      try simp only [jD, jE, jF]
      go_simp
      have hH2 := hHeld
      obtain ⟨gr, pb⟩ := hH2
      refine (sample_any s.ep s.met s.who s.val _).mono ?_
      rintro e w1008 ⟨rfl, hg⟩
      have T8 := hid (T0.out.drew.grown hg)
      have L8 := hid (show (w2.grownBy w1008 none) ∧ (w1008.heap[wr.heap.size]? = some (.cells #[.int .i64 s.ep, .int .i64 s.met, .int .i64 s.who] 317)) from ⟨gb_trans gr hg (.inl rfl), at_grown pb hg (by simp)⟩)
      clear hHeld hg gr pb
      go_wp2_with fail
      refine hK.out _ _ ?_ (fun hHeld => ?_)
      · exact L8.out
      clear hK K
      try dsimp only at hHeld
      try simp only [jX, jD, jE, jF]
      refine jR [9] ?_
      refine jG rfl (fun K hK => ?_) AllReadyH.nil
      have hH2 := hHeld
      obtain ⟨gr, pb⟩ := hH2
      have hg : w1008.grownBy (w1008.alloc (.cells #[.int .i64 s.who, .int .i64 s.met, .int .i64 s.ep, .int .i64 s.val] 91)) none := World.grownBy_alloc _ _ _
      have T9 := hid (T8.out.grown hg)
      have SM := hid (smp_new w1008 s)
      have L9 := hid (show (w2.grownBy (w1008.alloc (.cells #[.int .i64 s.who, .int .i64 s.met, .int .i64 s.ep, .int .i64 s.val] 91)) none) ∧ ((w1008.alloc (.cells #[.int .i64 s.who, .int .i64 s.met, .int .i64 s.ep, .int .i64 s.val] 91)).heap[wr.heap.size]? = some (.cells #[.int .i64 s.ep, .int .i64 s.met, .int .i64 s.who] 317)) from ⟨gb_trans gr hg (.inl rfl), at_grown pb hg (by simp)⟩)
      clear hHeld hg gr pb
      try simp only [jD, jE, jF]
      go_simp
      refine hK.out _ _ ?_ (fun hHeld => ?_)
      · exact L9.out
      clear hK K
      try dsimp only at hHeld
      try simp only [jX, jD, jE, jF]
      refine jR [10] ?_
      refine jG rfl (fun K hK => ?_) AllReadyH.nil
      have hH2 := hHeld
      obtain ⟨gr, pb⟩ := hH2
      try simp only [jD, jE, jF]
      rw [if_pos (by rfl)]
      refine wp_append_smp _ _ rfl w2.heap.size _ _ rfl T9.out _ [s] rfl SM.out LEN.out gr.size ?_
      intro v' w10 hown hgrow hat
      have TG := hid hown
      have TGR := hid (gb_ownZ gr T9.out (Nat.le_refl _) hgrow)
      have TPB := hid (at_grown pb hgrow NB.out)
      obtain ⟨p10, c10, rfl⟩ := hown.form
      clear hown hgrow hat
      have L10 := hid (show (w2.grownBy w10 none) ∧ (w10.heap[wr.heap.size]? = some (.cells #[.int .i64 s.ep, .int .i64 s.met, .int .i64 s.who] 317)) from ⟨TGR.out, TPB.out⟩)
      clear hHeld gr pb
      refine hK.out _ _ ?_ (fun hHeld => ?_)
      · exact L10.out
      clear hK K
      try dsimp only at hHeld
      try simp only [jX, jD, jE, jF]
      refine jU 11 hHeld ?_
      try simp only [jX, jD, jE, jF]
      refine wpAnyH_done (by kernel_rfl) ?_ _
      obtain ⟨gr, pb⟩ := hHeld
      clear gr pb
      go_wp2_with fail
      go_roundw
      case rel => exact ⟨k + 1, _, rfl, hlt, by go_num, by rw [HM.out.2]; have h := TG.out; simp only [List.length_append, List.length_cons, List.length_nil, Nat.zero_add, HKL.out] at h ⊢; exact h, TGR.out⟩
      case measure => simp [intOf]; omega
    · obtain rfl : k = L.length := by omega
      go_wp2_with fail
      go_ret
      exact ⟨v, rfl, by have h := HOWN.out.le HG.out.size; rw [List.take_length] at h; exact h, gb_trans HG.out HGR.out (.inl rfl)⟩
end Go.Proofs.YtecggbndlbkhdaaGreat
end
