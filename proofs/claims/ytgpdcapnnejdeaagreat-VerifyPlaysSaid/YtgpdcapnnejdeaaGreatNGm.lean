/-
  Contract: a new gate of the document's, of a configuration that may be. The condition: the configuration's parts are told as numbers.
-/
import Derived.Test.YtgpdcapnnejdeaaGreatJ0
import Derived.Test.YtgpdcapnnejdeaaGreatY18
import Derived.Test.YtgpdcapnnejdeaaGreatY16
import Derived.LoopTactic
set_option linter.unusedSimpArgs false
set_option linter.unusedVariables false
namespace Go.Proofs.YtgpdcapnnejdeaaGreat
set_option maxRecDepth 100000
open Go.RowKit

def MadeGr (w : World) (c : Conf) (G : Gt) (e : Ending) (w' : World) : Prop := ∃ F B, e = .returned (.pointer (some ⟨B.g, 0, none⟩)) ∧ GrAt w' F B c 0 G ∧ w.grownBy w' none ∧ ∀ x ∈ F, w.heap.size ≤ x
theorem nd_inj {l : List Nat} (h : l.Nodup) {i j : Nat} (hi : i < l.length) (hj : j < l.length) (e : l[i] = l[j]) : i = j := by
 rcases Nat.lt_trichotomy i j with hlt | rfl | hlt
 ·exact absurd e ((List.pairwise_iff_getElem.1 h) i j hi hj hlt)
 ·rfl
 ·exact absurd e.symm ((List.pairwise_iff_getElem.1 h) j i hj hi hlt)
theorem Nr.done {w0 w : World} {bx gb r gn sn : Nat} {c : Conf} {sd : BitVec 64} {n grace win met fresh : Nat} {vR vP : Value} {lR lP : List Nat} (h : Nr w0 bx gb r gn sn c sd n grace win vR vP vR vP lR lP w) (hR : lR.length = n) (hP : lP.length = n) (n1 : 1 ≤ n)
  (en : c.n = n) (ew : c.window = win) (em : c.m = met) (ef : c.fresh = fresh) (w1 : 1 ≤ win) (w2 : win ≤ 64) (m1 : 1 ≤ met) (m2 : met ≤ 4) (f1 : 1 ≤ fresh) (f2 : fresh ≤ 8) :
  ∃ F B, B.g = gb ∧ GrAt w F B c 0 (.new sd n grace win met fresh) ∧ ∀ x ∈ F, w0.heap.size ≤ x := by
 obtain ⟨rp, cr, cs, e1, r1, r2, r3, r4⟩ := h.oR.full (by omega)
 obtain ⟨ps, cp, ds, e2, p1, p2, p3, p4⟩ := h.oP.full (by omega)
 have dj := h.dj
 rw [hR] at e1; rw [hP] at e2
 subst e1 e2
 have hne : rp ≠ ps := fun e => dj rp (by simp [ownL, Value.ownBlock]) (by simp [ownL, Value.ownBlock, e])
 have nd := h.nd
 simp only [List.nodup_append] at nd
 obtain ⟨ndR, ndP, ndx⟩ := nd
 let B : RBl := ⟨gb, r, gn, sn, rp, ps, cr, cp, fun i => lR.getD i 0, fun i => lP.getD i 0, fun _ => .slice none 0 0, fun _ => .slice none 0 0⟩
 have gA : ∀ i, (hi : i < n) → B.A i = lR[i]'(by omega) := fun i hi => by show lR.getD i 0 = _; simp [List.getD, List.getElem?_eq_getElem (show i < lR.length by omega)]
 have gO : ∀ i, (hi : i < n) → B.O i = lP[i]'(by omega) := fun i hi => by show lP.getD i 0 = _; simp [List.getD, List.getElem?_eq_getElem (show i < lP.length by omega)]
 have oA : ∀ i, B.oA i = [B.A i] := fun i => by simp [RBl.oA, B, ownL, Value.ownBlock]
 have oO : ∀ i, B.oO i = [B.O i] := fun i => by simp [RBl.oO, B, ownL, Value.ownBlock]
 have iA : ∀ i, i < n → B.A i ∈ lR ++ lP := fun i hi => List.mem_append_left _ (by rw [gA i hi]; exact List.getElem_mem _)
 have iO : ∀ i, i < n → B.O i ∈ lR ++ lP := fun i hi => List.mem_append_right _ (by rw [gO i hi]; exact List.getElem_mem _)
 obtain ⟨gs, g1, _⟩ := h.ring.gens
 obtain ⟨ss, s1, _⟩ := h.ring.sinces
 have base : ∀ a ∈ lR ++ lP, a ∉ B.base := fun a ha hm => by
  have ht := (h.rep a ha).top
  simp only [RBl.base, B, List.mem_cons, List.not_mem_nil, or_false] at hm
  rcases hm with rfl | rfl | rfl | rfl | rfl | rfl
  ·exact obj_ne h.top ht (by decide) rfl
  ·exact obj_ne h.ring.top ht (by decide) rfl
  ·exact obj_ne g1 ht (by decide) rfl
  ·exact obj_ne s1 ht (by decide) rfl
  ·exact obj_ne r3 ht (by decide) rfl
  ·exact obj_ne p3 ht (by decide) rfl
 refine ⟨B.base ++ (lR ++ lP), B, rfl, ⟨h.top, en, ew, em, ef, h.ring, ⟨cs, r3, fun i hi => ?_⟩, ⟨ds, p3, fun i hi => ?_⟩, hne, ⟨by rw [hR] at r1; exact r1, r2⟩, ⟨by rw [hP] at p1; exact p1, p2⟩,
  fun i hi => h.rep _ (iA i hi), fun i hi => h.rep _ (iO i hi), fun i hi x hx => ?_, fun i hi x hx => ?_, fun i j hi hj hij x hx hy => ?_, fun i j hi hj hij x hx hy => ?_, fun i j hi hj x hx hy => ?_,
  fun x hx => List.mem_append_left _ hx, fun i hi x hx => ?_, fun i hi x hx => ?_, fun x hx => ?_, ⟨w1, w2, m1, m2, f1, f2, fun _ => rfl, fun _ => rfl⟩⟩, fun x hx => ?_⟩
 ·have hi' : i < n := hi
  rw [gA i hi']; exact r4 i (by omega)
 ·have hi' : i < n := hi
  rw [gO i hi']; exact p4 i (by omega)
 ·rw [oA] at hx; rw [List.mem_singleton.1 hx]; exact base _ (iA i hi)
 ·rw [oO] at hx; rw [List.mem_singleton.1 hx]; exact base _ (iO i hi)
 ·have hi' : i < n := hi; have hj' : j < n := hj
  rw [oA] at hx hy
  rw [List.mem_singleton.1 hx] at hy
  have e := List.mem_singleton.1 hy
  rw [gA i hi', gA j hj'] at e
  exact hij (nd_inj ndR _ _ e)
 ·have hi' : i < n := hi; have hj' : j < n := hj
  rw [oO] at hx hy
  rw [List.mem_singleton.1 hx] at hy
  have e := List.mem_singleton.1 hy
  rw [gO i hi', gO j hj'] at e
  exact hij (nd_inj ndP _ _ e)
 ·have hi' : i < n := hi; have hj' : j < n := hj
  rw [oA] at hx; rw [oO] at hy
  rw [List.mem_singleton.1 hx] at hy
  have e := List.mem_singleton.1 hy
  rw [gA i hi', gO j hj'] at e
  exact ndx _ (List.getElem_mem _) _ (List.getElem_mem _) e
 ·rw [oA] at hx; rw [List.mem_singleton.1 hx]; exact List.mem_append_right _ (iA i hi)
 ·rw [oO] at hx; rw [List.mem_singleton.1 hx]; exact List.mem_append_right _ (iO i hi)
 ·rcases List.mem_append.1 hx with hx | hx
  ·simp only [RBl.base, B, List.mem_cons, List.not_mem_nil, or_false] at hx
   rcases hx with rfl | rfl | rfl | rfl | rfl | rfl
   ·exact at_lt h.top
   ·exact h.ring.lt.1
   ·exact h.ring.lt.2.1
   ·exact h.ring.lt.2.2
   ·exact at_lt r3
   ·exact at_lt p3
  ·exact (h.rep x hx).lt.1
 ·rcases List.mem_append.1 hx with hx | hx
  ·simp only [RBl.base, B, List.mem_cons, List.not_mem_nil, or_false] at hx
   rcases hx with rfl | rfl | rfl | rfl | rfl | rfl
   ·exact h.lo.1
   ·exact h.lo.2.1
   ·exact h.lo.2.2.1
   ·exact h.lo.2.2.2
   ·exact h.lv _ (List.mem_append_left _ (by simp [ownL, Value.ownBlock]))
   ·exact h.lv _ (List.mem_append_right _ (by simp [ownL, Value.ownBlock]))
  ·exact h.lr x hx
set_option maxHeartbeats 12800000 in
theorem gnewr_ok (c : Conf) (sd : BitVec 64) (n grace win met fresh : Nat) (hM : st22 c = none) (en : c.n = n) (eg : c.grace = grace) (ew : c.window = win) (em : c.m = met) (ef : c.fresh = fresh) (es : c.seed = q sd)
  (n1 : 1 ≤ n) (n2 : n ≤ 16) (g1 : 1 ≤ grace) (g2 : grace ≤ 100) (w1 : 1 ≤ win) (w2 : win ≤ 64) (m1 : 1 ≤ met) (m2 : met ≤ 4) (f1 : 1 ≤ fresh) (f2 : fresh ≤ 8) (w : World) :
  Calls Tryz.prog 11 #[cf c] w (MadeGr w c (.new sd n grace win met fresh)) := by
 have CM := hid (fun u => refmay_any c u)
 rw [hM] at CM
 rw [show ((none : Option ByteArray).getD ⟨#[]⟩).toList.isEmpty = true by decide +kernel] at CM
 have B0 := hid (boxc_new w c)
 have CN := hid (fun u => fnew_ok sd n grace n1 n2 g1 g2 u)
 have CP := hid (fun u => qnew_ok win w1 w2 u)
 have DN := hid (fun (w0 w : World) (bx gb r gn sn : Nat) (vR vP : Value) (lR lP : List Nat) (h : Nr w0 bx gb r gn sn c sd n grace win vR vP vR vP lR lP w) (hR : lR.length = n) (hP : lP.length = n) => h.done hR hP n1 en ew em ef w1 w2 m1 m2 f1 f2)
 have HC := hid (show ∀ (u : World) (b : Nat), u.heap[b]? = some (Obj.cells c.cells 27) → u.cell? ⟨b, 0, none⟩ = some (Value.int IntKind.i64 (n : Int)) ∧ u.cell? ⟨b, 5, none⟩ = some (Value.int IntKind.i64 (grace : Int)) ∧ u.cell? ⟨b, 6, none⟩ = some (Value.int IntKind.i64 (win : Int)) ∧ u.cell? ⟨b, 25, none⟩ = some (Value.int IntKind.u64 (q sd)) from fun u b h => ⟨(at_cell h 0).trans (by rw [← en]; rfl), (at_cell h 5).trans (by rw [← eg]; rfl), (at_cell h 6).trans (by rw [← ew]; rfl), (at_cell h 25).trans (by rw [← es]; rfl)⟩)
 clear hM en eg ew em ef es w1 w2 m1 m2 f1 f2 g1 g2
 go_enter Tryz.func11, Tryz.ntmps11
 go_wp2_with (refine wpList_conf B0.out.box rfl rfl rfl rfl ?_)
 refine (CM.out _).mono ?_
 rintro e w1 ⟨rfl, hg⟩
 have B1 := hid (B0.out.grown hg); clear hg B0 CM
 go_upto_region 3 with fail
 refine wp_region_held_drew (S := (fun w' => (BoxC w c w'))) (by kernel_rfl) B1.out.drew (fun hHeld => ?_)
 try dsimp only at hHeld
 refine' jT 0 rfl (by rfl) ?_ hHeld ?_
 rotate_left
 ·(intro w hSw; (try dsimp only at hSw); (try simp only [jD, jE, jF]); refine exec_row (x := .tmp 1) hSw.box Tryz.underlying27 rfl (by kernel_rfl) ?_ ?_ <;> rfl)
 try simp only [jX, jD, jE, jF]
 refine jU 1 hHeld ?_
 try simp only [jX, jD, jE, jF]
 refine' jT 2 rfl (by rfl) ?_ hHeld ?_
 rotate_left
 ·(intro w hSw; (try dsimp only at hSw); have bb := hSw; obtain ⟨c0, c5, c6, c25⟩ := HC.out _ _ bb.box; go_simp; try with_reducible rfl)
 try simp only [jX, jD, jE, jF]
 refine jU 3 hHeld ?_
 try simp only [jX, jD, jE, jF]
 refine' jT 4 rfl (by rfl) ?_ hHeld ?_
 rotate_left
 ·(intro w hSw; (try dsimp only at hSw); have bb := hSw; obtain ⟨c0, c5, c6, c25⟩ := HC.out _ _ bb.box; go_simp; try with_reducible rfl)
 try simp only [jX, jD, jE, jF]
 refine jU 5 hHeld ?_
 try simp only [jX, jD, jE, jF]
 refine' jT 6 rfl (by rfl) ?_ hHeld ?_
 rotate_left
 ·(intro w hSw; (try dsimp only at hSw); have bb := hSw; obtain ⟨c0, c5, c6, c25⟩ := HC.out _ _ bb.box; go_simp; try with_reducible rfl)
 try simp only [jX, jD, jE, jF]
 refine jR [7] ?_
 refine jG rfl (fun K hK => ?_) AllReadyH.nil
 try simp only [jD, jE, jF]
 go_simp
 have hH2 := hHeld
 have bb := hH2
 refine (CN.out _).mono ?_
 rintro e w1007 ⟨r, gn, sn, rfl, hr, hg, lr0, lr1, lr2⟩
 have LRB := hid (show w.heap.size ≤ r ∧ w.heap.size ≤ gn ∧ w.heap.size ≤ sn from ⟨Nat.le_trans (gb_size bb.g) lr0, Nat.le_trans (gb_size bb.g) lr1, Nat.le_trans (gb_size bb.g) lr2⟩); clear lr0 lr1 lr2
 have L7 := hid (show (BoxC w c w1007) from (bb.grown hg))
 have Nrr := hid (show RfAt w1007 r gn sn (.new sd n grace) from hr)
 clear hHeld hg bb
 go_wp2_with fail
 refine hK.out _ _ ?_ (fun hHeld => ?_)
 ·exact L7.out
 clear hK K
 try dsimp only at hHeld
 try simp only [jX, jD, jE, jF]
 refine held_stronger (S' := fun w' => (fun w' => RfAt w' r gn sn (.new sd n grace)) w' ∧ ((fun w' => (BoxC w c w'))) w') (fun _ h => h.2) _ _ _ _ ?_
 replace hHeld := And.intro Nrr.out hHeld
 try dsimp only at hHeld
 refine' jT 8 rfl (by rfl) ?_ hHeld ?_
 rotate_left
 ·(intro w hSw; (try dsimp only at hSw); (try simp only [jD, jE, jF]); refine exec_build (ty := 66) (parts := #[(0, Operand.tmp 8), (1, Operand.tmp 15)]) (cs := newCells c r (.slice none 0 0) (.slice none 0 0)) ?_ (by kernel_rfl) <;> rfl)
 try simp only [jX, jD, jE, jF]
 refine jR [9] ?_
 refine jG rfl (fun K hK => ?_) AllReadyH.nil
 have hH2 := hHeld
 obtain ⟨rr, bb⟩ := hH2
 have hg : w1007.grownBy (w1007.alloc (.cells (newCells c r (.slice none 0 0) (.slice none 0 0)) 66)) none := World.grownBy_alloc _ _ _
 obtain ⟨gb, hgb⟩ : ∃ gb, w1007.heap.size = gb := ⟨_, rfl⟩
 have lgb := hid (show w.heap.size ≤ gb from hgb ▸ gb_size bb.g)
 have L9 := hid (show (RfAt (w1007.alloc (.cells (newCells c r (.slice none 0 0) (.slice none 0 0)) 66)) r gn sn (.new sd n grace)) ∧ (BoxC w c (w1007.alloc (.cells (newCells c r (.slice none 0 0) (.slice none 0 0)) 66))) from ⟨rr.grown hg, bb.grown hg⟩)
 have Ngg := hid (show (w1007.alloc (.cells (newCells c r (.slice none 0 0) (.slice none 0 0)) 66)).heap[gb]? = some (.cells (newCells c r (.slice none 0 0) (.slice none 0 0)) 66) from hgb ▸ at_new w1007 _)
 clear hHeld hg rr bb
 try simp only [jD, jE, jF]
 go_simp
 refine hK.out _ _ ?_ (fun hHeld => ?_)
 ·exact L9.out
 clear hK K
 try dsimp only at hHeld
 try simp only [jX, jD, jE, jF]
 refine held_stronger (S' := fun w' => (fun w' => w'.heap[gb]? = some (.cells (newCells c r (.slice none 0 0) (.slice none 0 0)) 66)) w' ∧ ((fun w' => (RfAt w' r gn sn (.new sd n grace)) ∧ (BoxC w c w'))) w') (fun _ h => h.2) _ _ _ _ ?_
 replace hHeld := And.intro Ngg.out hHeld
 try dsimp only at hHeld
 refine jU 10 hHeld ?_
 try simp only [jX, jD, jE, jF]
 refine wpAnyH_done (by kernel_rfl) ?_ _
 obtain ⟨gg, rr, bb⟩ := hHeld
 refine exit_gen (fun wx => Nr w w.heap.size gb r gn sn c sd n grace win (.slice none 0 0) (.slice none 0 0) (.slice none 0 0) (.slice none 0 0) [] [] wx) ⟨bb.box, gg, rr, OwnP.nil _, OwnP.nil _, (by intro k hk; simp [ownL, Value.ownBlock] at hk), (by simp), (by simp), ⟨lgb.out, LRB.out⟩, (by simp [ownL, Value.ownBlock]), (by simp), bb.g⟩ ?_
 clear bb gg rr
 intro w2 h2
 have K2 := hid h2; clear h2 B1 lgb LRB CN
 generalize w.heap.size = bx0 at K2 ⊢
 go_wp2_with fail
 go_loopw [4] (fun i wr => ∃ (k : Nat) (vR vP : Value) (lR lP : List Nat), k ≤ n ∧ i = .int .i64 (k : Int) ∧ lR.length = k ∧ lP.length = k ∧ Nr w bx0 gb r gn sn c sd n grace win vR vP vR vP lR lP wr) (fun i _ => n - (intOf i).toNat)
 case atStart => exact ⟨0, _, _, [], [], Nat.zero_le _, rfl, rfl, rfl, K2.out⟩
 case round =>
  obtain ⟨k, vR, vP, lR, lP, hk, rfl, eR, eP, hN⟩ := hrel
  have K3 := hid hN; clear hN K2
  obtain ⟨c0, c5, c6, c25⟩ := HC.out _ _ K3.out.box
  have ER := hid eR; have EP := hid eP; clear eR eP
  by_cases hlt : k < n
  ·have q0 : (k : Int) < (n : Int) := by omega
   have s1 : IntKind.i64.wrap ((k : Int) + 1) = (k : Int) + 1 := IntWalk.i64_in _ (by omega)
   go_wp2_with fail
   clear c0 c5 c6 c25
   have TG := hid K3.out.drew
   refine wp_region_held_drew (S := (fun w' => (w'.heap[bx0]? = some (.cells c.cells 27)))) (by kernel_rfl) K3.out.drew.box (fun hHeld => ?_)
   try dsimp only at hHeld
   refine jU 0 hHeld ?_
   try simp only [jX, jD, jE, jF]
   refine jU 1 hHeld ?_
   try simp only [jX, jD, jE, jF]
   refine jU 2 hHeld ?_
   try simp only [jX, jD, jE, jF]
   refine jU 3 hHeld ?_
   try simp only [jX, jD, jE, jF]
   refine jU 4 hHeld ?_
   try simp only [jX, jD, jE, jF]
   refine jU 6 hHeld ?_
   try simp only [jX, jD, jE, jF]
   refine' jT 7 rfl (by rfl) ?_ hHeld ?_
   rotate_left
   ·(intro w hSw; (try dsimp only at hSw); have bb := hSw; obtain ⟨c0, c5, c6, c25⟩ := HC.out _ _ hSw; go_simp; try with_reducible rfl)
   try simp only [jX, jD, jE, jF]
   refine jU 11 hHeld ?_
   try simp only [jX, jD, jE, jF]
   refine jU 12 hHeld ?_
   try simp only [jX, jD, jE, jF]
   refine jU 13 hHeld ?_
   try simp only [jX, jD, jE, jF]
   refine jU 15 hHeld ?_
   try simp only [jX, jD, jE, jF]
   refine' jT 16 rfl (by rfl) ?_ hHeld ?_
   rotate_left
   ·(intro w hSw; (try dsimp only at hSw); have bb := hSw; obtain ⟨c0, c5, c6, c25⟩ := HC.out _ _ hSw; go_simp; try with_reducible rfl)
   try simp only [jX, jD, jE, jF]
   refine jR [5, 8, 14] ?_
   refine AllReadyH.cons (o := _) rfl (fun K hK => ?g3) (AllReadyH.cons (o := _) rfl (fun K hK => ?g2) (AllReadyH.cons (o := _) rfl (fun K hK => ?g1) AllReadyH.nil))
   case' g3 =>
    have hH2 := hHeld
    have bb := hH2
    have hg : wr.drew.grownBy wr.drew none := .refl _ _
    have cg : (wr.drew).cell? ⟨gb, 27, none⟩ = some vR := at_cell TG.out.top 27
    have L5 := hid (show (wr.drew.heap[bx0]? = some (.cells c.cells 27)) from (at_grown bb hg (by simp)))
    clear hHeld hg bb
    try simp only [jD, jE, jF]
    go_simp
    refine hK.out _ _ ?_ (fun hHeld => ?_)
    ·exact L5.out
    clear hK K
    try dsimp only at hHeld
    try simp only [jX, jD, jE, jF]
    refine jR [8, 14] ?_
    refine AllReadyH.cons (o := _) rfl (fun K hK => ?g5) (AllReadyH.cons (o := _) rfl (fun K hK => ?g4) AllReadyH.nil)
    case' g5 =>
     try simp only [jD, jE, jF]
     go_simp
     have hH2 := hHeld
     have bb := hH2
     refine (CP.out _).mono ?_
     rintro e w1008 ⟨n1b, rfl, hq, hg, hz⟩
     have Fn1b := hid (TG.out.fresh hz); have Qn1b := hid hq; have Zn1b := hid (Nat.le_trans (gb_size TG.out.g) hz)
     replace TG := hid (TG.out.grown hg)
     clear hq hz
     have L8 := hid (show (w1008.heap[bx0]? = some (.cells c.cells 27)) from (at_grown bb hg (by simp)))
     clear hHeld hg bb
     go_wp2_with fail
     refine hK.out _ _ ?_ (fun hHeld => ?_)
     ·exact L8.out
     clear hK K
     try dsimp only at hHeld
     try simp only [jX, jD, jE, jF]
     refine jR [9, 14] ?_
     refine AllReadyH.cons (o := _) rfl (fun K hK => ?g7) (AllReadyH.cons (o := _) rfl (fun K hK => ?g6) AllReadyH.nil)
     case' g7 =>
      have hH2 := hHeld
      have bb := hH2
      have hg : w1008.grownBy (w1008.alloc (.cells #[.pointer (some ⟨n1b, 0, none⟩)] 71)) none := World.grownBy_alloc _ _ _
      obtain ⟨k1b, hk1b⟩ : ∃ t, w1008.heap.size = t := ⟨_, rfl⟩
      have Ak1b := hid (show (w1008.alloc (.cells #[.pointer (some ⟨n1b, 0, none⟩)] 71)).cell? ⟨k1b, 0, none⟩ = some (pv n1b) from hk1b ▸ at_cell (at_new w1008 _) 0)
      replace TG := hid (TG.out.grown hg)
      replace Qn1b := hid (Qn1b.out.grown hg)
      have L9 := hid (show ((w1008.alloc (.cells #[.pointer (some ⟨n1b, 0, none⟩)] 71)).heap[bx0]? = some (.cells c.cells 27)) from (at_grown bb hg (by simp)))
      clear hHeld hg bb
      try simp only [jD, jE, jF]
      go_simp
      refine hK.out _ _ ?_ (fun hHeld => ?_)
      ·exact L9.out
      clear hK K
      try dsimp only at hHeld
      try simp only [jX, jD, jE, jF]
      refine jR [10, 14] ?_
      refine AllReadyH.cons (o := _) rfl (fun K hK => ?g9) (AllReadyH.cons (o := _) rfl (fun K hK => ?g8) AllReadyH.nil)
      case' g9 =>
       have hH2 := hHeld
       have bb := hH2
       try simp only [jD, jE, jF]
       rw [if_pos (by rfl)]
       refine wp_append_ptr _ _ rfl _ _ rfl TG.out.oR k1b n1b rfl Ak1b.out (by have := ER.out; omega) ?_
       intro v1 w7 hown hgrow hat
       obtain ⟨pv1, cv1, ev1⟩ := hown.form; simp only [List.length_append, List.length_cons, List.length_nil, Nat.zero_add] at ev1; subst ev1
       replace TG := hid (TG.out.appR hown hgrow hat Qn1b.out Fn1b.out Zn1b.out)
       clear hown hgrow hat
       have L10 := hid (show (w7.heap[bx0]? = some (.cells c.cells 27)) from TG.out.box)
       clear hHeld bb
       refine hK.out _ _ ?_ (fun hHeld => ?_)
       ·exact L10.out
       clear hK K
       try dsimp only at hHeld
       try simp only [jX, jD, jE, jF]
       refine jR [14, 17] ?_
       refine AllReadyH.cons (o := _) rfl (fun K hK => ?g11) (AllReadyH.cons (o := _) rfl (fun K hK => ?g10) AllReadyH.nil)
       case' g11 =>
        have hH2 := hHeld
        have bb := hH2
        have hg : w7.grownBy w7 none := .refl _ _
        have cg : (w7).cell? ⟨gb, 28, none⟩ = some vP := at_cell TG.out.top 28
        have L14 := hid (show (w7.heap[bx0]? = some (.cells c.cells 27)) from (at_grown bb hg (by simp)))
        clear hHeld hg bb
        try simp only [jD, jE, jF]
        go_simp
        refine hK.out _ _ ?_ (fun hHeld => ?_)
        ·exact L14.out
        clear hK K
        try dsimp only at hHeld
        try simp only [jX, jD, jE, jF]
        refine jR [17] ?_
        refine jG rfl (fun K hK => ?_) AllReadyH.nil
        try simp only [jD, jE, jF]
        go_simp
        have hH2 := hHeld
        have bb := hH2
        refine (CP.out _).mono ?_
        rintro e w1017 ⟨n2b, rfl, hq, hg, hz⟩
        have Fn2b := hid (TG.out.fresh hz); have Qn2b := hid hq; have Zn2b := hid (Nat.le_trans (gb_size TG.out.g) hz)
        replace TG := hid (TG.out.grown hg)
        clear hq hz
        have L17 := hid (show (w1017.heap[bx0]? = some (.cells c.cells 27)) from (at_grown bb hg (by simp)))
        clear hHeld hg bb
        go_wp2_with fail
        refine hK.out _ _ ?_ (fun hHeld => ?_)
        ·exact L17.out
        clear hK K
        try dsimp only at hHeld
        try simp only [jX, jD, jE, jF]
        refine jR [18] ?_
        refine jG rfl (fun K hK => ?_) AllReadyH.nil
        have hH2 := hHeld
        have bb := hH2
        have hg : w1017.grownBy (w1017.alloc (.cells #[.pointer (some ⟨n2b, 0, none⟩)] 71)) none := World.grownBy_alloc _ _ _
        obtain ⟨k2b, hk2b⟩ : ∃ t, w1017.heap.size = t := ⟨_, rfl⟩
        have Ak2b := hid (show (w1017.alloc (.cells #[.pointer (some ⟨n2b, 0, none⟩)] 71)).cell? ⟨k2b, 0, none⟩ = some (pv n2b) from hk2b ▸ at_cell (at_new w1017 _) 0)
        replace TG := hid (TG.out.grown hg)
        replace Qn2b := hid (Qn2b.out.grown hg)
        have L18 := hid (show ((w1017.alloc (.cells #[.pointer (some ⟨n2b, 0, none⟩)] 71)).heap[bx0]? = some (.cells c.cells 27)) from (at_grown bb hg (by simp)))
        clear hHeld hg bb
        try simp only [jD, jE, jF]
        go_simp
        refine hK.out _ _ ?_ (fun hHeld => ?_)
        ·exact L18.out
        clear hK K
        try dsimp only at hHeld
        try simp only [jX, jD, jE, jF]
        refine jR [19] ?_
        refine jG rfl (fun K hK => ?_) AllReadyH.nil
        have hH2 := hHeld
        have bb := hH2
        try simp only [jD, jE, jF]
        rw [if_pos (by rfl)]
        refine wp_append_ptr _ _ rfl _ _ rfl TG.out.oP k2b n2b rfl Ak2b.out (by have := EP.out; omega) ?_
        intro v2 w7 hown hgrow hat
        obtain ⟨pv2, cv2, ev2⟩ := hown.form; simp only [List.length_append, List.length_cons, List.length_nil, Nat.zero_add] at ev2; subst ev2
        replace TG := hid (TG.out.appP hown hgrow hat Qn2b.out Fn2b.out Zn2b.out)
        clear hown hgrow hat
        have L19 := hid (show (w7.heap[bx0]? = some (.cells c.cells 27)) from TG.out.box)
        clear hHeld bb
        refine hK.out _ _ ?_ (fun hHeld => ?_)
        ·exact L19.out
        clear hK K
        try dsimp only at hHeld
        try simp only [jX, jD, jE, jF]
       case' g10 =>
        try simp only [jD, jE, jF]
        go_simp
        have hH2 := hHeld
        have bb := hH2
        refine (CP.out _).mono ?_
        rintro e w1017 ⟨n2b, rfl, hq, hg, hz⟩
        have Fn2b := hid (TG.out.fresh hz); have Qn2b := hid hq; have Zn2b := hid (Nat.le_trans (gb_size TG.out.g) hz)
        replace TG := hid (TG.out.grown hg)
        clear hq hz
        have L17 := hid (show (w1017.heap[bx0]? = some (.cells c.cells 27)) from (at_grown bb hg (by simp)))
        clear hHeld hg bb
        go_wp2_with fail
        refine hK.out _ _ ?_ (fun hHeld => ?_)
        ·exact L17.out
        clear hK K
        try dsimp only at hHeld
        try simp only [jX, jD, jE, jF]
        refine jR [14, 18] ?_
        refine AllReadyH.cons (o := _) rfl (fun K hK => ?g16) (AllReadyH.cons (o := _) rfl (fun K hK => ?g15) AllReadyH.nil)
        case' g16 =>
         have hH2 := hHeld
         have bb := hH2
         have hg : w1017.grownBy w1017 none := .refl _ _
         have cg : (w1017).cell? ⟨gb, 28, none⟩ = some vP := at_cell TG.out.top 28
         have L14 := hid (show (w1017.heap[bx0]? = some (.cells c.cells 27)) from (at_grown bb hg (by simp)))
         clear hHeld hg bb
         try simp only [jD, jE, jF]
         go_simp
         refine hK.out _ _ ?_ (fun hHeld => ?_)
         ·exact L14.out
         clear hK K
         try dsimp only at hHeld
         try simp only [jX, jD, jE, jF]
         refine jR [18] ?_
         refine jG rfl (fun K hK => ?_) AllReadyH.nil
         have hH2 := hHeld
         have bb := hH2
         have hg : w1017.grownBy (w1017.alloc (.cells #[.pointer (some ⟨n2b, 0, none⟩)] 71)) none := World.grownBy_alloc _ _ _
         obtain ⟨k2b, hk2b⟩ : ∃ t, w1017.heap.size = t := ⟨_, rfl⟩
         have Ak2b := hid (show (w1017.alloc (.cells #[.pointer (some ⟨n2b, 0, none⟩)] 71)).cell? ⟨k2b, 0, none⟩ = some (pv n2b) from hk2b ▸ at_cell (at_new w1017 _) 0)
         replace TG := hid (TG.out.grown hg)
         replace Qn2b := hid (Qn2b.out.grown hg)
         have L18 := hid (show ((w1017.alloc (.cells #[.pointer (some ⟨n2b, 0, none⟩)] 71)).heap[bx0]? = some (.cells c.cells 27)) from (at_grown bb hg (by simp)))
         clear hHeld hg bb
         try simp only [jD, jE, jF]
         go_simp
         refine hK.out _ _ ?_ (fun hHeld => ?_)
         ·exact L18.out
         clear hK K
         try dsimp only at hHeld
         try simp only [jX, jD, jE, jF]
         refine jR [19] ?_
         refine jG rfl (fun K hK => ?_) AllReadyH.nil
         have hH2 := hHeld
         have bb := hH2
         try simp only [jD, jE, jF]
         rw [if_pos (by rfl)]
         refine wp_append_ptr _ _ rfl _ _ rfl TG.out.oP k2b n2b rfl Ak2b.out (by have := EP.out; omega) ?_
         intro v2 w7 hown hgrow hat
         obtain ⟨pv2, cv2, ev2⟩ := hown.form; simp only [List.length_append, List.length_cons, List.length_nil, Nat.zero_add] at ev2; subst ev2
         replace TG := hid (TG.out.appP hown hgrow hat Qn2b.out Fn2b.out Zn2b.out)
         clear hown hgrow hat
         have L19 := hid (show (w7.heap[bx0]? = some (.cells c.cells 27)) from TG.out.box)
         clear hHeld bb
         refine hK.out _ _ ?_ (fun hHeld => ?_)
         ·exact L19.out
         clear hK K
         try dsimp only at hHeld
         try simp only [jX, jD, jE, jF]
        case' g15 =>
         have hH2 := hHeld
         have bb := hH2
         have hg : w1017.grownBy (w1017.alloc (.cells #[.pointer (some ⟨n2b, 0, none⟩)] 71)) none := World.grownBy_alloc _ _ _
         obtain ⟨k2b, hk2b⟩ : ∃ t, w1017.heap.size = t := ⟨_, rfl⟩
         have Ak2b := hid (show (w1017.alloc (.cells #[.pointer (some ⟨n2b, 0, none⟩)] 71)).cell? ⟨k2b, 0, none⟩ = some (pv n2b) from hk2b ▸ at_cell (at_new w1017 _) 0)
         replace TG := hid (TG.out.grown hg)
         replace Qn2b := hid (Qn2b.out.grown hg)
         have L18 := hid (show ((w1017.alloc (.cells #[.pointer (some ⟨n2b, 0, none⟩)] 71)).heap[bx0]? = some (.cells c.cells 27)) from (at_grown bb hg (by simp)))
         clear hHeld hg bb
         try simp only [jD, jE, jF]
         go_simp
         refine hK.out _ _ ?_ (fun hHeld => ?_)
         ·exact L18.out
         clear hK K
         try dsimp only at hHeld
         try simp only [jX, jD, jE, jF]
         refine jR [14] ?_
         refine jG rfl (fun K hK => ?_) AllReadyH.nil
         have hH2 := hHeld
         have bb := hH2
         have hg : (w1017.alloc (.cells #[.pointer (some ⟨n2b, 0, none⟩)] 71)).grownBy (w1017.alloc (.cells #[.pointer (some ⟨n2b, 0, none⟩)] 71)) none := .refl _ _
         have cg : ((w1017.alloc (.cells #[.pointer (some ⟨n2b, 0, none⟩)] 71))).cell? ⟨gb, 28, none⟩ = some vP := at_cell TG.out.top 28
         have L14 := hid (show (((w1017.alloc (.cells #[.pointer (some ⟨n2b, 0, none⟩)] 71))).heap[bx0]? = some (.cells c.cells 27)) from (at_grown bb hg (by simp)))
         clear hHeld hg bb
         try simp only [jD, jE, jF]
         go_simp
         refine hK.out _ _ ?_ (fun hHeld => ?_)
         ·exact L14.out
         clear hK K
         try dsimp only at hHeld
         try simp only [jX, jD, jE, jF]
         refine jR [19] ?_
         refine jG rfl (fun K hK => ?_) AllReadyH.nil
         have hH2 := hHeld
         have bb := hH2
         try simp only [jD, jE, jF]
         rw [if_pos (by rfl)]
         refine wp_append_ptr _ _ rfl _ _ rfl TG.out.oP k2b n2b rfl Ak2b.out (by have := EP.out; omega) ?_
         intro v2 w7 hown hgrow hat
         obtain ⟨pv2, cv2, ev2⟩ := hown.form; simp only [List.length_append, List.length_cons, List.length_nil, Nat.zero_add] at ev2; subst ev2
         replace TG := hid (TG.out.appP hown hgrow hat Qn2b.out Fn2b.out Zn2b.out)
         clear hown hgrow hat
         have L19 := hid (show (w7.heap[bx0]? = some (.cells c.cells 27)) from TG.out.box)
         clear hHeld bb
         refine hK.out _ _ ?_ (fun hHeld => ?_)
         ·exact L19.out
         clear hK K
         try dsimp only at hHeld
         try simp only [jX, jD, jE, jF]
      case' g8 =>
       have hH2 := hHeld
       have bb := hH2
       have hg : (w1008.alloc (.cells #[.pointer (some ⟨n1b, 0, none⟩)] 71)).grownBy (w1008.alloc (.cells #[.pointer (some ⟨n1b, 0, none⟩)] 71)) none := .refl _ _
       have cg : ((w1008.alloc (.cells #[.pointer (some ⟨n1b, 0, none⟩)] 71))).cell? ⟨gb, 28, none⟩ = some vP := at_cell TG.out.top 28
       have L14 := hid (show (((w1008.alloc (.cells #[.pointer (some ⟨n1b, 0, none⟩)] 71))).heap[bx0]? = some (.cells c.cells 27)) from (at_grown bb hg (by simp)))
       clear hHeld hg bb
       try simp only [jD, jE, jF]
       go_simp
       refine hK.out _ _ ?_ (fun hHeld => ?_)
       ·exact L14.out
       clear hK K
       try dsimp only at hHeld
       try simp only [jX, jD, jE, jF]
       refine jR [10] ?_
       refine jG rfl (fun K hK => ?_) AllReadyH.nil
       have hH2 := hHeld
       have bb := hH2
       try simp only [jD, jE, jF]
       rw [if_pos (by rfl)]
       refine wp_append_ptr _ _ rfl _ _ rfl TG.out.oR k1b n1b rfl Ak1b.out (by have := ER.out; omega) ?_
       intro v1 w7 hown hgrow hat
       obtain ⟨pv1, cv1, ev1⟩ := hown.form; simp only [List.length_append, List.length_cons, List.length_nil, Nat.zero_add] at ev1; subst ev1
       replace TG := hid (TG.out.appR hown hgrow hat Qn1b.out Fn1b.out Zn1b.out)
       clear hown hgrow hat
       have L10 := hid (show (w7.heap[bx0]? = some (.cells c.cells 27)) from TG.out.box)
       clear hHeld bb
       refine hK.out _ _ ?_ (fun hHeld => ?_)
       ·exact L10.out
       clear hK K
       try dsimp only at hHeld
       try simp only [jX, jD, jE, jF]
       refine jR [17] ?_
       refine jG rfl (fun K hK => ?_) AllReadyH.nil
       try simp only [jD, jE, jF]
       go_simp
       have hH2 := hHeld
       have bb := hH2
       refine (CP.out _).mono ?_
       rintro e w1017 ⟨n2b, rfl, hq, hg, hz⟩
       have Fn2b := hid (TG.out.fresh hz); have Qn2b := hid hq; have Zn2b := hid (Nat.le_trans (gb_size TG.out.g) hz)
       replace TG := hid (TG.out.grown hg)
       clear hq hz
       have L17 := hid (show (w1017.heap[bx0]? = some (.cells c.cells 27)) from (at_grown bb hg (by simp)))
       clear hHeld hg bb
       go_wp2_with fail
       refine hK.out _ _ ?_ (fun hHeld => ?_)
       ·exact L17.out
       clear hK K
       try dsimp only at hHeld
       try simp only [jX, jD, jE, jF]
       refine jR [18] ?_
       refine jG rfl (fun K hK => ?_) AllReadyH.nil
       have hH2 := hHeld
       have bb := hH2
       have hg : w1017.grownBy (w1017.alloc (.cells #[.pointer (some ⟨n2b, 0, none⟩)] 71)) none := World.grownBy_alloc _ _ _
       obtain ⟨k2b, hk2b⟩ : ∃ t, w1017.heap.size = t := ⟨_, rfl⟩
       have Ak2b := hid (show (w1017.alloc (.cells #[.pointer (some ⟨n2b, 0, none⟩)] 71)).cell? ⟨k2b, 0, none⟩ = some (pv n2b) from hk2b ▸ at_cell (at_new w1017 _) 0)
       replace TG := hid (TG.out.grown hg)
       replace Qn2b := hid (Qn2b.out.grown hg)
       have L18 := hid (show ((w1017.alloc (.cells #[.pointer (some ⟨n2b, 0, none⟩)] 71)).heap[bx0]? = some (.cells c.cells 27)) from (at_grown bb hg (by simp)))
       clear hHeld hg bb
       try simp only [jD, jE, jF]
       go_simp
       refine hK.out _ _ ?_ (fun hHeld => ?_)
       ·exact L18.out
       clear hK K
       try dsimp only at hHeld
       try simp only [jX, jD, jE, jF]
       refine jR [19] ?_
       refine jG rfl (fun K hK => ?_) AllReadyH.nil
       have hH2 := hHeld
       have bb := hH2
       try simp only [jD, jE, jF]
       rw [if_pos (by rfl)]
       refine wp_append_ptr _ _ rfl _ _ rfl TG.out.oP k2b n2b rfl Ak2b.out (by have := EP.out; omega) ?_
       intro v2 w7 hown hgrow hat
       obtain ⟨pv2, cv2, ev2⟩ := hown.form; simp only [List.length_append, List.length_cons, List.length_nil, Nat.zero_add] at ev2; subst ev2
       replace TG := hid (TG.out.appP hown hgrow hat Qn2b.out Fn2b.out Zn2b.out)
       clear hown hgrow hat
       have L19 := hid (show (w7.heap[bx0]? = some (.cells c.cells 27)) from TG.out.box)
       clear hHeld bb
       refine hK.out _ _ ?_ (fun hHeld => ?_)
       ·exact L19.out
       clear hK K
       try dsimp only at hHeld
       try simp only [jX, jD, jE, jF]
     case' g6 =>
      have hH2 := hHeld
      have bb := hH2
      have hg : w1008.grownBy w1008 none := .refl _ _
      have cg : (w1008).cell? ⟨gb, 28, none⟩ = some vP := at_cell TG.out.top 28
      have L14 := hid (show (w1008.heap[bx0]? = some (.cells c.cells 27)) from (at_grown bb hg (by simp)))
      clear hHeld hg bb
      try simp only [jD, jE, jF]
      go_simp
      refine hK.out _ _ ?_ (fun hHeld => ?_)
      ·exact L14.out
      clear hK K
      try dsimp only at hHeld
      try simp only [jX, jD, jE, jF]
      refine jR [9] ?_
      refine jG rfl (fun K hK => ?_) AllReadyH.nil
      have hH2 := hHeld
      have bb := hH2
      have hg : w1008.grownBy (w1008.alloc (.cells #[.pointer (some ⟨n1b, 0, none⟩)] 71)) none := World.grownBy_alloc _ _ _
      obtain ⟨k1b, hk1b⟩ : ∃ t, w1008.heap.size = t := ⟨_, rfl⟩
      have Ak1b := hid (show (w1008.alloc (.cells #[.pointer (some ⟨n1b, 0, none⟩)] 71)).cell? ⟨k1b, 0, none⟩ = some (pv n1b) from hk1b ▸ at_cell (at_new w1008 _) 0)
      replace TG := hid (TG.out.grown hg)
      replace Qn1b := hid (Qn1b.out.grown hg)
      have L9 := hid (show ((w1008.alloc (.cells #[.pointer (some ⟨n1b, 0, none⟩)] 71)).heap[bx0]? = some (.cells c.cells 27)) from (at_grown bb hg (by simp)))
      clear hHeld hg bb
      try simp only [jD, jE, jF]
      go_simp
      refine hK.out _ _ ?_ (fun hHeld => ?_)
      ·exact L9.out
      clear hK K
      try dsimp only at hHeld
      try simp only [jX, jD, jE, jF]
      refine jR [10] ?_
      refine jG rfl (fun K hK => ?_) AllReadyH.nil
      have hH2 := hHeld
      have bb := hH2
      try simp only [jD, jE, jF]
      rw [if_pos (by rfl)]
      refine wp_append_ptr _ _ rfl _ _ rfl TG.out.oR k1b n1b rfl Ak1b.out (by have := ER.out; omega) ?_
      intro v1 w7 hown hgrow hat
      obtain ⟨pv1, cv1, ev1⟩ := hown.form; simp only [List.length_append, List.length_cons, List.length_nil, Nat.zero_add] at ev1; subst ev1
      replace TG := hid (TG.out.appR hown hgrow hat Qn1b.out Fn1b.out Zn1b.out)
      clear hown hgrow hat
      have L10 := hid (show (w7.heap[bx0]? = some (.cells c.cells 27)) from TG.out.box)
      clear hHeld bb
      refine hK.out _ _ ?_ (fun hHeld => ?_)
      ·exact L10.out
      clear hK K
      try dsimp only at hHeld
      try simp only [jX, jD, jE, jF]
      refine jR [17] ?_
      refine jG rfl (fun K hK => ?_) AllReadyH.nil
      try simp only [jD, jE, jF]
      go_simp
      have hH2 := hHeld
      have bb := hH2
      refine (CP.out _).mono ?_
      rintro e w1017 ⟨n2b, rfl, hq, hg, hz⟩
      have Fn2b := hid (TG.out.fresh hz); have Qn2b := hid hq; have Zn2b := hid (Nat.le_trans (gb_size TG.out.g) hz)
      replace TG := hid (TG.out.grown hg)
      clear hq hz
      have L17 := hid (show (w1017.heap[bx0]? = some (.cells c.cells 27)) from (at_grown bb hg (by simp)))
      clear hHeld hg bb
      go_wp2_with fail
      refine hK.out _ _ ?_ (fun hHeld => ?_)
      ·exact L17.out
      clear hK K
      try dsimp only at hHeld
      try simp only [jX, jD, jE, jF]
      refine jR [18] ?_
      refine jG rfl (fun K hK => ?_) AllReadyH.nil
      have hH2 := hHeld
      have bb := hH2
      have hg : w1017.grownBy (w1017.alloc (.cells #[.pointer (some ⟨n2b, 0, none⟩)] 71)) none := World.grownBy_alloc _ _ _
      obtain ⟨k2b, hk2b⟩ : ∃ t, w1017.heap.size = t := ⟨_, rfl⟩
      have Ak2b := hid (show (w1017.alloc (.cells #[.pointer (some ⟨n2b, 0, none⟩)] 71)).cell? ⟨k2b, 0, none⟩ = some (pv n2b) from hk2b ▸ at_cell (at_new w1017 _) 0)
      replace TG := hid (TG.out.grown hg)
      replace Qn2b := hid (Qn2b.out.grown hg)
      have L18 := hid (show ((w1017.alloc (.cells #[.pointer (some ⟨n2b, 0, none⟩)] 71)).heap[bx0]? = some (.cells c.cells 27)) from (at_grown bb hg (by simp)))
      clear hHeld hg bb
      try simp only [jD, jE, jF]
      go_simp
      refine hK.out _ _ ?_ (fun hHeld => ?_)
      ·exact L18.out
      clear hK K
      try dsimp only at hHeld
      try simp only [jX, jD, jE, jF]
      refine jR [19] ?_
      refine jG rfl (fun K hK => ?_) AllReadyH.nil
      have hH2 := hHeld
      have bb := hH2
      try simp only [jD, jE, jF]
      rw [if_pos (by rfl)]
      refine wp_append_ptr _ _ rfl _ _ rfl TG.out.oP k2b n2b rfl Ak2b.out (by have := EP.out; omega) ?_
      intro v2 w7 hown hgrow hat
      obtain ⟨pv2, cv2, ev2⟩ := hown.form; simp only [List.length_append, List.length_cons, List.length_nil, Nat.zero_add] at ev2; subst ev2
      replace TG := hid (TG.out.appP hown hgrow hat Qn2b.out Fn2b.out Zn2b.out)
      clear hown hgrow hat
      have L19 := hid (show (w7.heap[bx0]? = some (.cells c.cells 27)) from TG.out.box)
      clear hHeld bb
      refine hK.out _ _ ?_ (fun hHeld => ?_)
      ·exact L19.out
      clear hK K
      try dsimp only at hHeld
      try simp only [jX, jD, jE, jF]
    case' g4 =>
     have hH2 := hHeld
     have bb := hH2
     have hg : wr.drew.grownBy wr.drew none := .refl _ _
     have cg : (wr.drew).cell? ⟨gb, 28, none⟩ = some vP := at_cell TG.out.top 28
     have L14 := hid (show (wr.drew.heap[bx0]? = some (.cells c.cells 27)) from (at_grown bb hg (by simp)))
     clear hHeld hg bb
     try simp only [jD, jE, jF]
     go_simp
     refine hK.out _ _ ?_ (fun hHeld => ?_)
     ·exact L14.out
     clear hK K
     try dsimp only at hHeld
     try simp only [jX, jD, jE, jF]
     refine jR [8] ?_
     refine jG rfl (fun K hK => ?_) AllReadyH.nil
     try simp only [jD, jE, jF]
     go_simp
     have hH2 := hHeld
     have bb := hH2
     refine (CP.out _).mono ?_
     rintro e w1008 ⟨n1b, rfl, hq, hg, hz⟩
     have Fn1b := hid (TG.out.fresh hz); have Qn1b := hid hq; have Zn1b := hid (Nat.le_trans (gb_size TG.out.g) hz)
     replace TG := hid (TG.out.grown hg)
     clear hq hz
     have L8 := hid (show (w1008.heap[bx0]? = some (.cells c.cells 27)) from (at_grown bb hg (by simp)))
     clear hHeld hg bb
     go_wp2_with fail
     refine hK.out _ _ ?_ (fun hHeld => ?_)
     ·exact L8.out
     clear hK K
     try dsimp only at hHeld
     try simp only [jX, jD, jE, jF]
     refine jR [9] ?_
     refine jG rfl (fun K hK => ?_) AllReadyH.nil
     have hH2 := hHeld
     have bb := hH2
     have hg : w1008.grownBy (w1008.alloc (.cells #[.pointer (some ⟨n1b, 0, none⟩)] 71)) none := World.grownBy_alloc _ _ _
     obtain ⟨k1b, hk1b⟩ : ∃ t, w1008.heap.size = t := ⟨_, rfl⟩
     have Ak1b := hid (show (w1008.alloc (.cells #[.pointer (some ⟨n1b, 0, none⟩)] 71)).cell? ⟨k1b, 0, none⟩ = some (pv n1b) from hk1b ▸ at_cell (at_new w1008 _) 0)
     replace TG := hid (TG.out.grown hg)
     replace Qn1b := hid (Qn1b.out.grown hg)
     have L9 := hid (show ((w1008.alloc (.cells #[.pointer (some ⟨n1b, 0, none⟩)] 71)).heap[bx0]? = some (.cells c.cells 27)) from (at_grown bb hg (by simp)))
     clear hHeld hg bb
     try simp only [jD, jE, jF]
     go_simp
     refine hK.out _ _ ?_ (fun hHeld => ?_)
     ·exact L9.out
     clear hK K
     try dsimp only at hHeld
     try simp only [jX, jD, jE, jF]
     refine jR [10] ?_
     refine jG rfl (fun K hK => ?_) AllReadyH.nil
     have hH2 := hHeld
     have bb := hH2
     try simp only [jD, jE, jF]
     rw [if_pos (by rfl)]
     refine wp_append_ptr _ _ rfl _ _ rfl TG.out.oR k1b n1b rfl Ak1b.out (by have := ER.out; omega) ?_
     intro v1 w7 hown hgrow hat
     obtain ⟨pv1, cv1, ev1⟩ := hown.form; simp only [List.length_append, List.length_cons, List.length_nil, Nat.zero_add] at ev1; subst ev1
     replace TG := hid (TG.out.appR hown hgrow hat Qn1b.out Fn1b.out Zn1b.out)
     clear hown hgrow hat
     have L10 := hid (show (w7.heap[bx0]? = some (.cells c.cells 27)) from TG.out.box)
     clear hHeld bb
     refine hK.out _ _ ?_ (fun hHeld => ?_)
     ·exact L10.out
     clear hK K
     try dsimp only at hHeld
     try simp only [jX, jD, jE, jF]
     refine jR [17] ?_
     refine jG rfl (fun K hK => ?_) AllReadyH.nil
     try simp only [jD, jE, jF]
     go_simp
     have hH2 := hHeld
     have bb := hH2
     refine (CP.out _).mono ?_
     rintro e w1017 ⟨n2b, rfl, hq, hg, hz⟩
     have Fn2b := hid (TG.out.fresh hz); have Qn2b := hid hq; have Zn2b := hid (Nat.le_trans (gb_size TG.out.g) hz)
     replace TG := hid (TG.out.grown hg)
     clear hq hz
     have L17 := hid (show (w1017.heap[bx0]? = some (.cells c.cells 27)) from (at_grown bb hg (by simp)))
     clear hHeld hg bb
     go_wp2_with fail
     refine hK.out _ _ ?_ (fun hHeld => ?_)
     ·exact L17.out
     clear hK K
     try dsimp only at hHeld
     try simp only [jX, jD, jE, jF]
     refine jR [18] ?_
     refine jG rfl (fun K hK => ?_) AllReadyH.nil
     have hH2 := hHeld
     have bb := hH2
     have hg : w1017.grownBy (w1017.alloc (.cells #[.pointer (some ⟨n2b, 0, none⟩)] 71)) none := World.grownBy_alloc _ _ _
     obtain ⟨k2b, hk2b⟩ : ∃ t, w1017.heap.size = t := ⟨_, rfl⟩
     have Ak2b := hid (show (w1017.alloc (.cells #[.pointer (some ⟨n2b, 0, none⟩)] 71)).cell? ⟨k2b, 0, none⟩ = some (pv n2b) from hk2b ▸ at_cell (at_new w1017 _) 0)
     replace TG := hid (TG.out.grown hg)
     replace Qn2b := hid (Qn2b.out.grown hg)
     have L18 := hid (show ((w1017.alloc (.cells #[.pointer (some ⟨n2b, 0, none⟩)] 71)).heap[bx0]? = some (.cells c.cells 27)) from (at_grown bb hg (by simp)))
     clear hHeld hg bb
     try simp only [jD, jE, jF]
     go_simp
     refine hK.out _ _ ?_ (fun hHeld => ?_)
     ·exact L18.out
     clear hK K
     try dsimp only at hHeld
     try simp only [jX, jD, jE, jF]
     refine jR [19] ?_
     refine jG rfl (fun K hK => ?_) AllReadyH.nil
     have hH2 := hHeld
     have bb := hH2
     try simp only [jD, jE, jF]
     rw [if_pos (by rfl)]
     refine wp_append_ptr _ _ rfl _ _ rfl TG.out.oP k2b n2b rfl Ak2b.out (by have := EP.out; omega) ?_
     intro v2 w7 hown hgrow hat
     obtain ⟨pv2, cv2, ev2⟩ := hown.form; simp only [List.length_append, List.length_cons, List.length_nil, Nat.zero_add] at ev2; subst ev2
     replace TG := hid (TG.out.appP hown hgrow hat Qn2b.out Fn2b.out Zn2b.out)
     clear hown hgrow hat
     have L19 := hid (show (w7.heap[bx0]? = some (.cells c.cells 27)) from TG.out.box)
     clear hHeld bb
     refine hK.out _ _ ?_ (fun hHeld => ?_)
     ·exact L19.out
     clear hK K
     try dsimp only at hHeld
     try simp only [jX, jD, jE, jF]
   case' g2 =>
    try simp only [jD, jE, jF]
    go_simp
    have hH2 := hHeld
    have bb := hH2
    refine (CP.out _).mono ?_
    rintro e w1008 ⟨n1b, rfl, hq, hg, hz⟩
    have Fn1b := hid (TG.out.fresh hz); have Qn1b := hid hq; have Zn1b := hid (Nat.le_trans (gb_size TG.out.g) hz)
    replace TG := hid (TG.out.grown hg)
    clear hq hz
    have L8 := hid (show (w1008.heap[bx0]? = some (.cells c.cells 27)) from (at_grown bb hg (by simp)))
    clear hHeld hg bb
    go_wp2_with fail
    refine hK.out _ _ ?_ (fun hHeld => ?_)
    ·exact L8.out
    clear hK K
    try dsimp only at hHeld
    try simp only [jX, jD, jE, jF]
    refine jR [5, 9, 14] ?_
    refine AllReadyH.cons (o := _) rfl (fun K hK => ?g38) (AllReadyH.cons (o := _) rfl (fun K hK => ?g37) (AllReadyH.cons (o := _) rfl (fun K hK => ?g36) AllReadyH.nil))
    case' g38 =>
     have hH2 := hHeld
     have bb := hH2
     have hg : w1008.grownBy w1008 none := .refl _ _
     have cg : (w1008).cell? ⟨gb, 27, none⟩ = some vR := at_cell TG.out.top 27
     have L5 := hid (show (w1008.heap[bx0]? = some (.cells c.cells 27)) from (at_grown bb hg (by simp)))
     clear hHeld hg bb
     try simp only [jD, jE, jF]
     go_simp
     refine hK.out _ _ ?_ (fun hHeld => ?_)
     ·exact L5.out
     clear hK K
     try dsimp only at hHeld
     try simp only [jX, jD, jE, jF]
     refine jR [9, 14] ?_
     refine AllReadyH.cons (o := _) rfl (fun K hK => ?g40) (AllReadyH.cons (o := _) rfl (fun K hK => ?g39) AllReadyH.nil)
     case' g40 =>
      have hH2 := hHeld
      have bb := hH2
      have hg : w1008.grownBy (w1008.alloc (.cells #[.pointer (some ⟨n1b, 0, none⟩)] 71)) none := World.grownBy_alloc _ _ _
      obtain ⟨k1b, hk1b⟩ : ∃ t, w1008.heap.size = t := ⟨_, rfl⟩
      have Ak1b := hid (show (w1008.alloc (.cells #[.pointer (some ⟨n1b, 0, none⟩)] 71)).cell? ⟨k1b, 0, none⟩ = some (pv n1b) from hk1b ▸ at_cell (at_new w1008 _) 0)
      replace TG := hid (TG.out.grown hg)
      replace Qn1b := hid (Qn1b.out.grown hg)
      have L9 := hid (show ((w1008.alloc (.cells #[.pointer (some ⟨n1b, 0, none⟩)] 71)).heap[bx0]? = some (.cells c.cells 27)) from (at_grown bb hg (by simp)))
      clear hHeld hg bb
      try simp only [jD, jE, jF]
      go_simp
      refine hK.out _ _ ?_ (fun hHeld => ?_)
      ·exact L9.out
      clear hK K
      try dsimp only at hHeld
      try simp only [jX, jD, jE, jF]
      refine jR [10, 14] ?_
      refine AllReadyH.cons (o := _) rfl (fun K hK => ?g42) (AllReadyH.cons (o := _) rfl (fun K hK => ?g41) AllReadyH.nil)
      case' g42 =>
       have hH2 := hHeld
       have bb := hH2
       try simp only [jD, jE, jF]
       rw [if_pos (by rfl)]
       refine wp_append_ptr _ _ rfl _ _ rfl TG.out.oR k1b n1b rfl Ak1b.out (by have := ER.out; omega) ?_
       intro v1 w7 hown hgrow hat
       obtain ⟨pv1, cv1, ev1⟩ := hown.form; simp only [List.length_append, List.length_cons, List.length_nil, Nat.zero_add] at ev1; subst ev1
       replace TG := hid (TG.out.appR hown hgrow hat Qn1b.out Fn1b.out Zn1b.out)
       clear hown hgrow hat
       have L10 := hid (show (w7.heap[bx0]? = some (.cells c.cells 27)) from TG.out.box)
       clear hHeld bb
       refine hK.out _ _ ?_ (fun hHeld => ?_)
       ·exact L10.out
       clear hK K
       try dsimp only at hHeld
       try simp only [jX, jD, jE, jF]
       refine jR [14, 17] ?_
       refine AllReadyH.cons (o := _) rfl (fun K hK => ?g44) (AllReadyH.cons (o := _) rfl (fun K hK => ?g43) AllReadyH.nil)
       case' g44 =>
        have hH2 := hHeld
        have bb := hH2
        have hg : w7.grownBy w7 none := .refl _ _
        have cg : (w7).cell? ⟨gb, 28, none⟩ = some vP := at_cell TG.out.top 28
        have L14 := hid (show (w7.heap[bx0]? = some (.cells c.cells 27)) from (at_grown bb hg (by simp)))
        clear hHeld hg bb
        try simp only [jD, jE, jF]
        go_simp
        refine hK.out _ _ ?_ (fun hHeld => ?_)
        ·exact L14.out
        clear hK K
        try dsimp only at hHeld
        try simp only [jX, jD, jE, jF]
        refine jR [17] ?_
        refine jG rfl (fun K hK => ?_) AllReadyH.nil
        try simp only [jD, jE, jF]
        go_simp
        have hH2 := hHeld
        have bb := hH2
        refine (CP.out _).mono ?_
        rintro e w1017 ⟨n2b, rfl, hq, hg, hz⟩
        have Fn2b := hid (TG.out.fresh hz); have Qn2b := hid hq; have Zn2b := hid (Nat.le_trans (gb_size TG.out.g) hz)
        replace TG := hid (TG.out.grown hg)
        clear hq hz
        have L17 := hid (show (w1017.heap[bx0]? = some (.cells c.cells 27)) from (at_grown bb hg (by simp)))
        clear hHeld hg bb
        go_wp2_with fail
        refine hK.out _ _ ?_ (fun hHeld => ?_)
        ·exact L17.out
        clear hK K
        try dsimp only at hHeld
        try simp only [jX, jD, jE, jF]
        refine jR [18] ?_
        refine jG rfl (fun K hK => ?_) AllReadyH.nil
        have hH2 := hHeld
        have bb := hH2
        have hg : w1017.grownBy (w1017.alloc (.cells #[.pointer (some ⟨n2b, 0, none⟩)] 71)) none := World.grownBy_alloc _ _ _
        obtain ⟨k2b, hk2b⟩ : ∃ t, w1017.heap.size = t := ⟨_, rfl⟩
        have Ak2b := hid (show (w1017.alloc (.cells #[.pointer (some ⟨n2b, 0, none⟩)] 71)).cell? ⟨k2b, 0, none⟩ = some (pv n2b) from hk2b ▸ at_cell (at_new w1017 _) 0)
        replace TG := hid (TG.out.grown hg)
        replace Qn2b := hid (Qn2b.out.grown hg)
        have L18 := hid (show ((w1017.alloc (.cells #[.pointer (some ⟨n2b, 0, none⟩)] 71)).heap[bx0]? = some (.cells c.cells 27)) from (at_grown bb hg (by simp)))
        clear hHeld hg bb
        try simp only [jD, jE, jF]
        go_simp
        refine hK.out _ _ ?_ (fun hHeld => ?_)
        ·exact L18.out
        clear hK K
        try dsimp only at hHeld
        try simp only [jX, jD, jE, jF]
        refine jR [19] ?_
        refine jG rfl (fun K hK => ?_) AllReadyH.nil
        have hH2 := hHeld
        have bb := hH2
        try simp only [jD, jE, jF]
        rw [if_pos (by rfl)]
        refine wp_append_ptr _ _ rfl _ _ rfl TG.out.oP k2b n2b rfl Ak2b.out (by have := EP.out; omega) ?_
        intro v2 w7 hown hgrow hat
        obtain ⟨pv2, cv2, ev2⟩ := hown.form; simp only [List.length_append, List.length_cons, List.length_nil, Nat.zero_add] at ev2; subst ev2
        replace TG := hid (TG.out.appP hown hgrow hat Qn2b.out Fn2b.out Zn2b.out)
        clear hown hgrow hat
        have L19 := hid (show (w7.heap[bx0]? = some (.cells c.cells 27)) from TG.out.box)
        clear hHeld bb
        refine hK.out _ _ ?_ (fun hHeld => ?_)
        ·exact L19.out
        clear hK K
        try dsimp only at hHeld
        try simp only [jX, jD, jE, jF]
       case' g43 =>
        try simp only [jD, jE, jF]
        go_simp
        have hH2 := hHeld
        have bb := hH2
        refine (CP.out _).mono ?_
        rintro e w1017 ⟨n2b, rfl, hq, hg, hz⟩
        have Fn2b := hid (TG.out.fresh hz); have Qn2b := hid hq; have Zn2b := hid (Nat.le_trans (gb_size TG.out.g) hz)
        replace TG := hid (TG.out.grown hg)
        clear hq hz
        have L17 := hid (show (w1017.heap[bx0]? = some (.cells c.cells 27)) from (at_grown bb hg (by simp)))
        clear hHeld hg bb
        go_wp2_with fail
        refine hK.out _ _ ?_ (fun hHeld => ?_)
        ·exact L17.out
        clear hK K
        try dsimp only at hHeld
        try simp only [jX, jD, jE, jF]
        refine jR [14, 18] ?_
        refine AllReadyH.cons (o := _) rfl (fun K hK => ?g49) (AllReadyH.cons (o := _) rfl (fun K hK => ?g48) AllReadyH.nil)
        case' g49 =>
         have hH2 := hHeld
         have bb := hH2
         have hg : w1017.grownBy w1017 none := .refl _ _
         have cg : (w1017).cell? ⟨gb, 28, none⟩ = some vP := at_cell TG.out.top 28
         have L14 := hid (show (w1017.heap[bx0]? = some (.cells c.cells 27)) from (at_grown bb hg (by simp)))
         clear hHeld hg bb
         try simp only [jD, jE, jF]
         go_simp
         refine hK.out _ _ ?_ (fun hHeld => ?_)
         ·exact L14.out
         clear hK K
         try dsimp only at hHeld
         try simp only [jX, jD, jE, jF]
         refine jR [18] ?_
         refine jG rfl (fun K hK => ?_) AllReadyH.nil
         have hH2 := hHeld
         have bb := hH2
         have hg : w1017.grownBy (w1017.alloc (.cells #[.pointer (some ⟨n2b, 0, none⟩)] 71)) none := World.grownBy_alloc _ _ _
         obtain ⟨k2b, hk2b⟩ : ∃ t, w1017.heap.size = t := ⟨_, rfl⟩
         have Ak2b := hid (show (w1017.alloc (.cells #[.pointer (some ⟨n2b, 0, none⟩)] 71)).cell? ⟨k2b, 0, none⟩ = some (pv n2b) from hk2b ▸ at_cell (at_new w1017 _) 0)
         replace TG := hid (TG.out.grown hg)
         replace Qn2b := hid (Qn2b.out.grown hg)
         have L18 := hid (show ((w1017.alloc (.cells #[.pointer (some ⟨n2b, 0, none⟩)] 71)).heap[bx0]? = some (.cells c.cells 27)) from (at_grown bb hg (by simp)))
         clear hHeld hg bb
         try simp only [jD, jE, jF]
         go_simp
         refine hK.out _ _ ?_ (fun hHeld => ?_)
         ·exact L18.out
         clear hK K
         try dsimp only at hHeld
         try simp only [jX, jD, jE, jF]
         refine jR [19] ?_
         refine jG rfl (fun K hK => ?_) AllReadyH.nil
         have hH2 := hHeld
         have bb := hH2
         try simp only [jD, jE, jF]
         rw [if_pos (by rfl)]
         refine wp_append_ptr _ _ rfl _ _ rfl TG.out.oP k2b n2b rfl Ak2b.out (by have := EP.out; omega) ?_
         intro v2 w7 hown hgrow hat
         obtain ⟨pv2, cv2, ev2⟩ := hown.form; simp only [List.length_append, List.length_cons, List.length_nil, Nat.zero_add] at ev2; subst ev2
         replace TG := hid (TG.out.appP hown hgrow hat Qn2b.out Fn2b.out Zn2b.out)
         clear hown hgrow hat
         have L19 := hid (show (w7.heap[bx0]? = some (.cells c.cells 27)) from TG.out.box)
         clear hHeld bb
         refine hK.out _ _ ?_ (fun hHeld => ?_)
         ·exact L19.out
         clear hK K
         try dsimp only at hHeld
         try simp only [jX, jD, jE, jF]
        case' g48 =>
         have hH2 := hHeld
         have bb := hH2
         have hg : w1017.grownBy (w1017.alloc (.cells #[.pointer (some ⟨n2b, 0, none⟩)] 71)) none := World.grownBy_alloc _ _ _
         obtain ⟨k2b, hk2b⟩ : ∃ t, w1017.heap.size = t := ⟨_, rfl⟩
         have Ak2b := hid (show (w1017.alloc (.cells #[.pointer (some ⟨n2b, 0, none⟩)] 71)).cell? ⟨k2b, 0, none⟩ = some (pv n2b) from hk2b ▸ at_cell (at_new w1017 _) 0)
         replace TG := hid (TG.out.grown hg)
         replace Qn2b := hid (Qn2b.out.grown hg)
         have L18 := hid (show ((w1017.alloc (.cells #[.pointer (some ⟨n2b, 0, none⟩)] 71)).heap[bx0]? = some (.cells c.cells 27)) from (at_grown bb hg (by simp)))
         clear hHeld hg bb
         try simp only [jD, jE, jF]
         go_simp
         refine hK.out _ _ ?_ (fun hHeld => ?_)
         ·exact L18.out
         clear hK K
         try dsimp only at hHeld
         try simp only [jX, jD, jE, jF]
         refine jR [14] ?_
         refine jG rfl (fun K hK => ?_) AllReadyH.nil
         have hH2 := hHeld
         have bb := hH2
         have hg : (w1017.alloc (.cells #[.pointer (some ⟨n2b, 0, none⟩)] 71)).grownBy (w1017.alloc (.cells #[.pointer (some ⟨n2b, 0, none⟩)] 71)) none := .refl _ _
         have cg : ((w1017.alloc (.cells #[.pointer (some ⟨n2b, 0, none⟩)] 71))).cell? ⟨gb, 28, none⟩ = some vP := at_cell TG.out.top 28
         have L14 := hid (show (((w1017.alloc (.cells #[.pointer (some ⟨n2b, 0, none⟩)] 71))).heap[bx0]? = some (.cells c.cells 27)) from (at_grown bb hg (by simp)))
         clear hHeld hg bb
         try simp only [jD, jE, jF]
         go_simp
         refine hK.out _ _ ?_ (fun hHeld => ?_)
         ·exact L14.out
         clear hK K
         try dsimp only at hHeld
         try simp only [jX, jD, jE, jF]
         refine jR [19] ?_
         refine jG rfl (fun K hK => ?_) AllReadyH.nil
         have hH2 := hHeld
         have bb := hH2
         try simp only [jD, jE, jF]
         rw [if_pos (by rfl)]
         refine wp_append_ptr _ _ rfl _ _ rfl TG.out.oP k2b n2b rfl Ak2b.out (by have := EP.out; omega) ?_
         intro v2 w7 hown hgrow hat
         obtain ⟨pv2, cv2, ev2⟩ := hown.form; simp only [List.length_append, List.length_cons, List.length_nil, Nat.zero_add] at ev2; subst ev2
         replace TG := hid (TG.out.appP hown hgrow hat Qn2b.out Fn2b.out Zn2b.out)
         clear hown hgrow hat
         have L19 := hid (show (w7.heap[bx0]? = some (.cells c.cells 27)) from TG.out.box)
         clear hHeld bb
         refine hK.out _ _ ?_ (fun hHeld => ?_)
         ·exact L19.out
         clear hK K
         try dsimp only at hHeld
         try simp only [jX, jD, jE, jF]
      case' g41 =>
       have hH2 := hHeld
       have bb := hH2
       have hg : (w1008.alloc (.cells #[.pointer (some ⟨n1b, 0, none⟩)] 71)).grownBy (w1008.alloc (.cells #[.pointer (some ⟨n1b, 0, none⟩)] 71)) none := .refl _ _
       have cg : ((w1008.alloc (.cells #[.pointer (some ⟨n1b, 0, none⟩)] 71))).cell? ⟨gb, 28, none⟩ = some vP := at_cell TG.out.top 28
       have L14 := hid (show (((w1008.alloc (.cells #[.pointer (some ⟨n1b, 0, none⟩)] 71))).heap[bx0]? = some (.cells c.cells 27)) from (at_grown bb hg (by simp)))
       clear hHeld hg bb
       try simp only [jD, jE, jF]
       go_simp
       refine hK.out _ _ ?_ (fun hHeld => ?_)
       ·exact L14.out
       clear hK K
       try dsimp only at hHeld
       try simp only [jX, jD, jE, jF]
       refine jR [10] ?_
       refine jG rfl (fun K hK => ?_) AllReadyH.nil
       have hH2 := hHeld
       have bb := hH2
       try simp only [jD, jE, jF]
       rw [if_pos (by rfl)]
       refine wp_append_ptr _ _ rfl _ _ rfl TG.out.oR k1b n1b rfl Ak1b.out (by have := ER.out; omega) ?_
       intro v1 w7 hown hgrow hat
       obtain ⟨pv1, cv1, ev1⟩ := hown.form; simp only [List.length_append, List.length_cons, List.length_nil, Nat.zero_add] at ev1; subst ev1
       replace TG := hid (TG.out.appR hown hgrow hat Qn1b.out Fn1b.out Zn1b.out)
       clear hown hgrow hat
       have L10 := hid (show (w7.heap[bx0]? = some (.cells c.cells 27)) from TG.out.box)
       clear hHeld bb
       refine hK.out _ _ ?_ (fun hHeld => ?_)
       ·exact L10.out
       clear hK K
       try dsimp only at hHeld
       try simp only [jX, jD, jE, jF]
       refine jR [17] ?_
       refine jG rfl (fun K hK => ?_) AllReadyH.nil
       try simp only [jD, jE, jF]
       go_simp
       have hH2 := hHeld
       have bb := hH2
       refine (CP.out _).mono ?_
       rintro e w1017 ⟨n2b, rfl, hq, hg, hz⟩
       have Fn2b := hid (TG.out.fresh hz); have Qn2b := hid hq; have Zn2b := hid (Nat.le_trans (gb_size TG.out.g) hz)
       replace TG := hid (TG.out.grown hg)
       clear hq hz
       have L17 := hid (show (w1017.heap[bx0]? = some (.cells c.cells 27)) from (at_grown bb hg (by simp)))
       clear hHeld hg bb
       go_wp2_with fail
       refine hK.out _ _ ?_ (fun hHeld => ?_)
       ·exact L17.out
       clear hK K
       try dsimp only at hHeld
       try simp only [jX, jD, jE, jF]
       refine jR [18] ?_
       refine jG rfl (fun K hK => ?_) AllReadyH.nil
       have hH2 := hHeld
       have bb := hH2
       have hg : w1017.grownBy (w1017.alloc (.cells #[.pointer (some ⟨n2b, 0, none⟩)] 71)) none := World.grownBy_alloc _ _ _
       obtain ⟨k2b, hk2b⟩ : ∃ t, w1017.heap.size = t := ⟨_, rfl⟩
       have Ak2b := hid (show (w1017.alloc (.cells #[.pointer (some ⟨n2b, 0, none⟩)] 71)).cell? ⟨k2b, 0, none⟩ = some (pv n2b) from hk2b ▸ at_cell (at_new w1017 _) 0)
       replace TG := hid (TG.out.grown hg)
       replace Qn2b := hid (Qn2b.out.grown hg)
       have L18 := hid (show ((w1017.alloc (.cells #[.pointer (some ⟨n2b, 0, none⟩)] 71)).heap[bx0]? = some (.cells c.cells 27)) from (at_grown bb hg (by simp)))
       clear hHeld hg bb
       try simp only [jD, jE, jF]
       go_simp
       refine hK.out _ _ ?_ (fun hHeld => ?_)
       ·exact L18.out
       clear hK K
       try dsimp only at hHeld
       try simp only [jX, jD, jE, jF]
       refine jR [19] ?_
       refine jG rfl (fun K hK => ?_) AllReadyH.nil
       have hH2 := hHeld
       have bb := hH2
       try simp only [jD, jE, jF]
       rw [if_pos (by rfl)]
       refine wp_append_ptr _ _ rfl _ _ rfl TG.out.oP k2b n2b rfl Ak2b.out (by have := EP.out; omega) ?_
       intro v2 w7 hown hgrow hat
       obtain ⟨pv2, cv2, ev2⟩ := hown.form; simp only [List.length_append, List.length_cons, List.length_nil, Nat.zero_add] at ev2; subst ev2
       replace TG := hid (TG.out.appP hown hgrow hat Qn2b.out Fn2b.out Zn2b.out)
       clear hown hgrow hat
       have L19 := hid (show (w7.heap[bx0]? = some (.cells c.cells 27)) from TG.out.box)
       clear hHeld bb
       refine hK.out _ _ ?_ (fun hHeld => ?_)
       ·exact L19.out
       clear hK K
       try dsimp only at hHeld
       try simp only [jX, jD, jE, jF]
     case' g39 =>
      have hH2 := hHeld
      have bb := hH2
      have hg : w1008.grownBy w1008 none := .refl _ _
      have cg : (w1008).cell? ⟨gb, 28, none⟩ = some vP := at_cell TG.out.top 28
      have L14 := hid (show (w1008.heap[bx0]? = some (.cells c.cells 27)) from (at_grown bb hg (by simp)))
      clear hHeld hg bb
      try simp only [jD, jE, jF]
      go_simp
      refine hK.out _ _ ?_ (fun hHeld => ?_)
      ·exact L14.out
      clear hK K
      try dsimp only at hHeld
      try simp only [jX, jD, jE, jF]
      refine jR [9] ?_
      refine jG rfl (fun K hK => ?_) AllReadyH.nil
      have hH2 := hHeld
      have bb := hH2
      have hg : w1008.grownBy (w1008.alloc (.cells #[.pointer (some ⟨n1b, 0, none⟩)] 71)) none := World.grownBy_alloc _ _ _
      obtain ⟨k1b, hk1b⟩ : ∃ t, w1008.heap.size = t := ⟨_, rfl⟩
      have Ak1b := hid (show (w1008.alloc (.cells #[.pointer (some ⟨n1b, 0, none⟩)] 71)).cell? ⟨k1b, 0, none⟩ = some (pv n1b) from hk1b ▸ at_cell (at_new w1008 _) 0)
      replace TG := hid (TG.out.grown hg)
      replace Qn1b := hid (Qn1b.out.grown hg)
      have L9 := hid (show ((w1008.alloc (.cells #[.pointer (some ⟨n1b, 0, none⟩)] 71)).heap[bx0]? = some (.cells c.cells 27)) from (at_grown bb hg (by simp)))
      clear hHeld hg bb
      try simp only [jD, jE, jF]
      go_simp
      refine hK.out _ _ ?_ (fun hHeld => ?_)
      ·exact L9.out
      clear hK K
      try dsimp only at hHeld
      try simp only [jX, jD, jE, jF]
      refine jR [10] ?_
      refine jG rfl (fun K hK => ?_) AllReadyH.nil
      have hH2 := hHeld
      have bb := hH2
      try simp only [jD, jE, jF]
      rw [if_pos (by rfl)]
      refine wp_append_ptr _ _ rfl _ _ rfl TG.out.oR k1b n1b rfl Ak1b.out (by have := ER.out; omega) ?_
      intro v1 w7 hown hgrow hat
      obtain ⟨pv1, cv1, ev1⟩ := hown.form; simp only [List.length_append, List.length_cons, List.length_nil, Nat.zero_add] at ev1; subst ev1
      replace TG := hid (TG.out.appR hown hgrow hat Qn1b.out Fn1b.out Zn1b.out)
      clear hown hgrow hat
      have L10 := hid (show (w7.heap[bx0]? = some (.cells c.cells 27)) from TG.out.box)
      clear hHeld bb
      refine hK.out _ _ ?_ (fun hHeld => ?_)
      ·exact L10.out
      clear hK K
      try dsimp only at hHeld
      try simp only [jX, jD, jE, jF]
      refine jR [17] ?_
      refine jG rfl (fun K hK => ?_) AllReadyH.nil
      try simp only [jD, jE, jF]
      go_simp
      have hH2 := hHeld
      have bb := hH2
      refine (CP.out _).mono ?_
      rintro e w1017 ⟨n2b, rfl, hq, hg, hz⟩
      have Fn2b := hid (TG.out.fresh hz); have Qn2b := hid hq; have Zn2b := hid (Nat.le_trans (gb_size TG.out.g) hz)
      replace TG := hid (TG.out.grown hg)
      clear hq hz
      have L17 := hid (show (w1017.heap[bx0]? = some (.cells c.cells 27)) from (at_grown bb hg (by simp)))
      clear hHeld hg bb
      go_wp2_with fail
      refine hK.out _ _ ?_ (fun hHeld => ?_)
      ·exact L17.out
      clear hK K
      try dsimp only at hHeld
      try simp only [jX, jD, jE, jF]
      refine jR [18] ?_
      refine jG rfl (fun K hK => ?_) AllReadyH.nil
      have hH2 := hHeld
      have bb := hH2
      have hg : w1017.grownBy (w1017.alloc (.cells #[.pointer (some ⟨n2b, 0, none⟩)] 71)) none := World.grownBy_alloc _ _ _
      obtain ⟨k2b, hk2b⟩ : ∃ t, w1017.heap.size = t := ⟨_, rfl⟩
      have Ak2b := hid (show (w1017.alloc (.cells #[.pointer (some ⟨n2b, 0, none⟩)] 71)).cell? ⟨k2b, 0, none⟩ = some (pv n2b) from hk2b ▸ at_cell (at_new w1017 _) 0)
      replace TG := hid (TG.out.grown hg)
      replace Qn2b := hid (Qn2b.out.grown hg)
      have L18 := hid (show ((w1017.alloc (.cells #[.pointer (some ⟨n2b, 0, none⟩)] 71)).heap[bx0]? = some (.cells c.cells 27)) from (at_grown bb hg (by simp)))
      clear hHeld hg bb
      try simp only [jD, jE, jF]
      go_simp
      refine hK.out _ _ ?_ (fun hHeld => ?_)
      ·exact L18.out
      clear hK K
      try dsimp only at hHeld
      try simp only [jX, jD, jE, jF]
      refine jR [19] ?_
      refine jG rfl (fun K hK => ?_) AllReadyH.nil
      have hH2 := hHeld
      have bb := hH2
      try simp only [jD, jE, jF]
      rw [if_pos (by rfl)]
      refine wp_append_ptr _ _ rfl _ _ rfl TG.out.oP k2b n2b rfl Ak2b.out (by have := EP.out; omega) ?_
      intro v2 w7 hown hgrow hat
      obtain ⟨pv2, cv2, ev2⟩ := hown.form; simp only [List.length_append, List.length_cons, List.length_nil, Nat.zero_add] at ev2; subst ev2
      replace TG := hid (TG.out.appP hown hgrow hat Qn2b.out Fn2b.out Zn2b.out)
      clear hown hgrow hat
      have L19 := hid (show (w7.heap[bx0]? = some (.cells c.cells 27)) from TG.out.box)
      clear hHeld bb
      refine hK.out _ _ ?_ (fun hHeld => ?_)
      ·exact L19.out
      clear hK K
      try dsimp only at hHeld
      try simp only [jX, jD, jE, jF]
    case' g37 =>
     have hH2 := hHeld
     have bb := hH2
     have hg : w1008.grownBy (w1008.alloc (.cells #[.pointer (some ⟨n1b, 0, none⟩)] 71)) none := World.grownBy_alloc _ _ _
     obtain ⟨k1b, hk1b⟩ : ∃ t, w1008.heap.size = t := ⟨_, rfl⟩
     have Ak1b := hid (show (w1008.alloc (.cells #[.pointer (some ⟨n1b, 0, none⟩)] 71)).cell? ⟨k1b, 0, none⟩ = some (pv n1b) from hk1b ▸ at_cell (at_new w1008 _) 0)
     replace TG := hid (TG.out.grown hg)
     replace Qn1b := hid (Qn1b.out.grown hg)
     have L9 := hid (show ((w1008.alloc (.cells #[.pointer (some ⟨n1b, 0, none⟩)] 71)).heap[bx0]? = some (.cells c.cells 27)) from (at_grown bb hg (by simp)))
     clear hHeld hg bb
     try simp only [jD, jE, jF]
     go_simp
     refine hK.out _ _ ?_ (fun hHeld => ?_)
     ·exact L9.out
     clear hK K
     try dsimp only at hHeld
     try simp only [jX, jD, jE, jF]
     refine jR [5, 14] ?_
     refine AllReadyH.cons (o := _) rfl (fun K hK => ?g64) (AllReadyH.cons (o := _) rfl (fun K hK => ?g63) AllReadyH.nil)
     case' g64 =>
      have hH2 := hHeld
      have bb := hH2
      have hg : (w1008.alloc (.cells #[.pointer (some ⟨n1b, 0, none⟩)] 71)).grownBy (w1008.alloc (.cells #[.pointer (some ⟨n1b, 0, none⟩)] 71)) none := .refl _ _
      have cg : ((w1008.alloc (.cells #[.pointer (some ⟨n1b, 0, none⟩)] 71))).cell? ⟨gb, 27, none⟩ = some vR := at_cell TG.out.top 27
      have L5 := hid (show (((w1008.alloc (.cells #[.pointer (some ⟨n1b, 0, none⟩)] 71))).heap[bx0]? = some (.cells c.cells 27)) from (at_grown bb hg (by simp)))
      clear hHeld hg bb
      try simp only [jD, jE, jF]
      go_simp
      refine hK.out _ _ ?_ (fun hHeld => ?_)
      ·exact L5.out
      clear hK K
      try dsimp only at hHeld
      try simp only [jX, jD, jE, jF]
      refine jR [10, 14] ?_
      refine AllReadyH.cons (o := _) rfl (fun K hK => ?g66) (AllReadyH.cons (o := _) rfl (fun K hK => ?g65) AllReadyH.nil)
      case' g66 =>
       have hH2 := hHeld
       have bb := hH2
       try simp only [jD, jE, jF]
       rw [if_pos (by rfl)]
       refine wp_append_ptr _ _ rfl _ _ rfl TG.out.oR k1b n1b rfl Ak1b.out (by have := ER.out; omega) ?_
       intro v1 w7 hown hgrow hat
       obtain ⟨pv1, cv1, ev1⟩ := hown.form; simp only [List.length_append, List.length_cons, List.length_nil, Nat.zero_add] at ev1; subst ev1
       replace TG := hid (TG.out.appR hown hgrow hat Qn1b.out Fn1b.out Zn1b.out)
       clear hown hgrow hat
       have L10 := hid (show (w7.heap[bx0]? = some (.cells c.cells 27)) from TG.out.box)
       clear hHeld bb
       refine hK.out _ _ ?_ (fun hHeld => ?_)
       ·exact L10.out
       clear hK K
       try dsimp only at hHeld
       try simp only [jX, jD, jE, jF]
       refine jR [14, 17] ?_
       refine AllReadyH.cons (o := _) rfl (fun K hK => ?g68) (AllReadyH.cons (o := _) rfl (fun K hK => ?g67) AllReadyH.nil)
       case' g68 =>
        have hH2 := hHeld
        have bb := hH2
        have hg : w7.grownBy w7 none := .refl _ _
        have cg : (w7).cell? ⟨gb, 28, none⟩ = some vP := at_cell TG.out.top 28
        have L14 := hid (show (w7.heap[bx0]? = some (.cells c.cells 27)) from (at_grown bb hg (by simp)))
        clear hHeld hg bb
        try simp only [jD, jE, jF]
        go_simp
        refine hK.out _ _ ?_ (fun hHeld => ?_)
        ·exact L14.out
        clear hK K
        try dsimp only at hHeld
        try simp only [jX, jD, jE, jF]
        refine jR [17] ?_
        refine jG rfl (fun K hK => ?_) AllReadyH.nil
        try simp only [jD, jE, jF]
        go_simp
        have hH2 := hHeld
        have bb := hH2
        refine (CP.out _).mono ?_
        rintro e w1017 ⟨n2b, rfl, hq, hg, hz⟩
        have Fn2b := hid (TG.out.fresh hz); have Qn2b := hid hq; have Zn2b := hid (Nat.le_trans (gb_size TG.out.g) hz)
        replace TG := hid (TG.out.grown hg)
        clear hq hz
        have L17 := hid (show (w1017.heap[bx0]? = some (.cells c.cells 27)) from (at_grown bb hg (by simp)))
        clear hHeld hg bb
        go_wp2_with fail
        refine hK.out _ _ ?_ (fun hHeld => ?_)
        ·exact L17.out
        clear hK K
        try dsimp only at hHeld
        try simp only [jX, jD, jE, jF]
        refine jR [18] ?_
        refine jG rfl (fun K hK => ?_) AllReadyH.nil
        have hH2 := hHeld
        have bb := hH2
        have hg : w1017.grownBy (w1017.alloc (.cells #[.pointer (some ⟨n2b, 0, none⟩)] 71)) none := World.grownBy_alloc _ _ _
        obtain ⟨k2b, hk2b⟩ : ∃ t, w1017.heap.size = t := ⟨_, rfl⟩
        have Ak2b := hid (show (w1017.alloc (.cells #[.pointer (some ⟨n2b, 0, none⟩)] 71)).cell? ⟨k2b, 0, none⟩ = some (pv n2b) from hk2b ▸ at_cell (at_new w1017 _) 0)
        replace TG := hid (TG.out.grown hg)
        replace Qn2b := hid (Qn2b.out.grown hg)
        have L18 := hid (show ((w1017.alloc (.cells #[.pointer (some ⟨n2b, 0, none⟩)] 71)).heap[bx0]? = some (.cells c.cells 27)) from (at_grown bb hg (by simp)))
        clear hHeld hg bb
        try simp only [jD, jE, jF]
        go_simp
        refine hK.out _ _ ?_ (fun hHeld => ?_)
        ·exact L18.out
        clear hK K
        try dsimp only at hHeld
        try simp only [jX, jD, jE, jF]
        refine jR [19] ?_
        refine jG rfl (fun K hK => ?_) AllReadyH.nil
        have hH2 := hHeld
        have bb := hH2
        try simp only [jD, jE, jF]
        rw [if_pos (by rfl)]
        refine wp_append_ptr _ _ rfl _ _ rfl TG.out.oP k2b n2b rfl Ak2b.out (by have := EP.out; omega) ?_
        intro v2 w7 hown hgrow hat
        obtain ⟨pv2, cv2, ev2⟩ := hown.form; simp only [List.length_append, List.length_cons, List.length_nil, Nat.zero_add] at ev2; subst ev2
        replace TG := hid (TG.out.appP hown hgrow hat Qn2b.out Fn2b.out Zn2b.out)
        clear hown hgrow hat
        have L19 := hid (show (w7.heap[bx0]? = some (.cells c.cells 27)) from TG.out.box)
        clear hHeld bb
        refine hK.out _ _ ?_ (fun hHeld => ?_)
        ·exact L19.out
        clear hK K
        try dsimp only at hHeld
        try simp only [jX, jD, jE, jF]
       case' g67 =>
        try simp only [jD, jE, jF]
        go_simp
        have hH2 := hHeld
        have bb := hH2
        refine (CP.out _).mono ?_
        rintro e w1017 ⟨n2b, rfl, hq, hg, hz⟩
        have Fn2b := hid (TG.out.fresh hz); have Qn2b := hid hq; have Zn2b := hid (Nat.le_trans (gb_size TG.out.g) hz)
        replace TG := hid (TG.out.grown hg)
        clear hq hz
        have L17 := hid (show (w1017.heap[bx0]? = some (.cells c.cells 27)) from (at_grown bb hg (by simp)))
        clear hHeld hg bb
        go_wp2_with fail
        refine hK.out _ _ ?_ (fun hHeld => ?_)
        ·exact L17.out
        clear hK K
        try dsimp only at hHeld
        try simp only [jX, jD, jE, jF]
        refine jR [14, 18] ?_
        refine AllReadyH.cons (o := _) rfl (fun K hK => ?g73) (AllReadyH.cons (o := _) rfl (fun K hK => ?g72) AllReadyH.nil)
        case' g73 =>
         have hH2 := hHeld
         have bb := hH2
         have hg : w1017.grownBy w1017 none := .refl _ _
         have cg : (w1017).cell? ⟨gb, 28, none⟩ = some vP := at_cell TG.out.top 28
         have L14 := hid (show (w1017.heap[bx0]? = some (.cells c.cells 27)) from (at_grown bb hg (by simp)))
         clear hHeld hg bb
         try simp only [jD, jE, jF]
         go_simp
         refine hK.out _ _ ?_ (fun hHeld => ?_)
         ·exact L14.out
         clear hK K
         try dsimp only at hHeld
         try simp only [jX, jD, jE, jF]
         refine jR [18] ?_
         refine jG rfl (fun K hK => ?_) AllReadyH.nil
         have hH2 := hHeld
         have bb := hH2
         have hg : w1017.grownBy (w1017.alloc (.cells #[.pointer (some ⟨n2b, 0, none⟩)] 71)) none := World.grownBy_alloc _ _ _
         obtain ⟨k2b, hk2b⟩ : ∃ t, w1017.heap.size = t := ⟨_, rfl⟩
         have Ak2b := hid (show (w1017.alloc (.cells #[.pointer (some ⟨n2b, 0, none⟩)] 71)).cell? ⟨k2b, 0, none⟩ = some (pv n2b) from hk2b ▸ at_cell (at_new w1017 _) 0)
         replace TG := hid (TG.out.grown hg)
         replace Qn2b := hid (Qn2b.out.grown hg)
         have L18 := hid (show ((w1017.alloc (.cells #[.pointer (some ⟨n2b, 0, none⟩)] 71)).heap[bx0]? = some (.cells c.cells 27)) from (at_grown bb hg (by simp)))
         clear hHeld hg bb
         try simp only [jD, jE, jF]
         go_simp
         refine hK.out _ _ ?_ (fun hHeld => ?_)
         ·exact L18.out
         clear hK K
         try dsimp only at hHeld
         try simp only [jX, jD, jE, jF]
         refine jR [19] ?_
         refine jG rfl (fun K hK => ?_) AllReadyH.nil
         have hH2 := hHeld
         have bb := hH2
         try simp only [jD, jE, jF]
         rw [if_pos (by rfl)]
         refine wp_append_ptr _ _ rfl _ _ rfl TG.out.oP k2b n2b rfl Ak2b.out (by have := EP.out; omega) ?_
         intro v2 w7 hown hgrow hat
         obtain ⟨pv2, cv2, ev2⟩ := hown.form; simp only [List.length_append, List.length_cons, List.length_nil, Nat.zero_add] at ev2; subst ev2
         replace TG := hid (TG.out.appP hown hgrow hat Qn2b.out Fn2b.out Zn2b.out)
         clear hown hgrow hat
         have L19 := hid (show (w7.heap[bx0]? = some (.cells c.cells 27)) from TG.out.box)
         clear hHeld bb
         refine hK.out _ _ ?_ (fun hHeld => ?_)
         ·exact L19.out
         clear hK K
         try dsimp only at hHeld
         try simp only [jX, jD, jE, jF]
        case' g72 =>
         have hH2 := hHeld
         have bb := hH2
         have hg : w1017.grownBy (w1017.alloc (.cells #[.pointer (some ⟨n2b, 0, none⟩)] 71)) none := World.grownBy_alloc _ _ _
         obtain ⟨k2b, hk2b⟩ : ∃ t, w1017.heap.size = t := ⟨_, rfl⟩
         have Ak2b := hid (show (w1017.alloc (.cells #[.pointer (some ⟨n2b, 0, none⟩)] 71)).cell? ⟨k2b, 0, none⟩ = some (pv n2b) from hk2b ▸ at_cell (at_new w1017 _) 0)
         replace TG := hid (TG.out.grown hg)
         replace Qn2b := hid (Qn2b.out.grown hg)
         have L18 := hid (show ((w1017.alloc (.cells #[.pointer (some ⟨n2b, 0, none⟩)] 71)).heap[bx0]? = some (.cells c.cells 27)) from (at_grown bb hg (by simp)))
         clear hHeld hg bb
         try simp only [jD, jE, jF]
         go_simp
         refine hK.out _ _ ?_ (fun hHeld => ?_)
         ·exact L18.out
         clear hK K
         try dsimp only at hHeld
         try simp only [jX, jD, jE, jF]
         refine jR [14] ?_
         refine jG rfl (fun K hK => ?_) AllReadyH.nil
         have hH2 := hHeld
         have bb := hH2
         have hg : (w1017.alloc (.cells #[.pointer (some ⟨n2b, 0, none⟩)] 71)).grownBy (w1017.alloc (.cells #[.pointer (some ⟨n2b, 0, none⟩)] 71)) none := .refl _ _
         have cg : ((w1017.alloc (.cells #[.pointer (some ⟨n2b, 0, none⟩)] 71))).cell? ⟨gb, 28, none⟩ = some vP := at_cell TG.out.top 28
         have L14 := hid (show (((w1017.alloc (.cells #[.pointer (some ⟨n2b, 0, none⟩)] 71))).heap[bx0]? = some (.cells c.cells 27)) from (at_grown bb hg (by simp)))
         clear hHeld hg bb
         try simp only [jD, jE, jF]
         go_simp
         refine hK.out _ _ ?_ (fun hHeld => ?_)
         ·exact L14.out
         clear hK K
         try dsimp only at hHeld
         try simp only [jX, jD, jE, jF]
         refine jR [19] ?_
         refine jG rfl (fun K hK => ?_) AllReadyH.nil
         have hH2 := hHeld
         have bb := hH2
         try simp only [jD, jE, jF]
         rw [if_pos (by rfl)]
         refine wp_append_ptr _ _ rfl _ _ rfl TG.out.oP k2b n2b rfl Ak2b.out (by have := EP.out; omega) ?_
         intro v2 w7 hown hgrow hat
         obtain ⟨pv2, cv2, ev2⟩ := hown.form; simp only [List.length_append, List.length_cons, List.length_nil, Nat.zero_add] at ev2; subst ev2
         replace TG := hid (TG.out.appP hown hgrow hat Qn2b.out Fn2b.out Zn2b.out)
         clear hown hgrow hat
         have L19 := hid (show (w7.heap[bx0]? = some (.cells c.cells 27)) from TG.out.box)
         clear hHeld bb
         refine hK.out _ _ ?_ (fun hHeld => ?_)
         ·exact L19.out
         clear hK K
         try dsimp only at hHeld
         try simp only [jX, jD, jE, jF]
      case' g65 =>
       have hH2 := hHeld
       have bb := hH2
       have hg : ((w1008.alloc (.cells #[.pointer (some ⟨n1b, 0, none⟩)] 71))).grownBy ((w1008.alloc (.cells #[.pointer (some ⟨n1b, 0, none⟩)] 71))) none := .refl _ _
       have cg : (((w1008.alloc (.cells #[.pointer (some ⟨n1b, 0, none⟩)] 71)))).cell? ⟨gb, 28, none⟩ = some vP := at_cell TG.out.top 28
       have L14 := hid (show ((((w1008.alloc (.cells #[.pointer (some ⟨n1b, 0, none⟩)] 71)))).heap[bx0]? = some (.cells c.cells 27)) from (at_grown bb hg (by simp)))
       clear hHeld hg bb
       try simp only [jD, jE, jF]
       go_simp
       refine hK.out _ _ ?_ (fun hHeld => ?_)
       ·exact L14.out
       clear hK K
       try dsimp only at hHeld
       try simp only [jX, jD, jE, jF]
       refine jR [10] ?_
       refine jG rfl (fun K hK => ?_) AllReadyH.nil
       have hH2 := hHeld
       have bb := hH2
       try simp only [jD, jE, jF]
       rw [if_pos (by rfl)]
       refine wp_append_ptr _ _ rfl _ _ rfl TG.out.oR k1b n1b rfl Ak1b.out (by have := ER.out; omega) ?_
       intro v1 w7 hown hgrow hat
       obtain ⟨pv1, cv1, ev1⟩ := hown.form; simp only [List.length_append, List.length_cons, List.length_nil, Nat.zero_add] at ev1; subst ev1
       replace TG := hid (TG.out.appR hown hgrow hat Qn1b.out Fn1b.out Zn1b.out)
       clear hown hgrow hat
       have L10 := hid (show (w7.heap[bx0]? = some (.cells c.cells 27)) from TG.out.box)
       clear hHeld bb
       refine hK.out _ _ ?_ (fun hHeld => ?_)
       ·exact L10.out
       clear hK K
       try dsimp only at hHeld
       try simp only [jX, jD, jE, jF]
       refine jR [17] ?_
       refine jG rfl (fun K hK => ?_) AllReadyH.nil
       try simp only [jD, jE, jF]
       go_simp
       have hH2 := hHeld
       have bb := hH2
       refine (CP.out _).mono ?_
       rintro e w1017 ⟨n2b, rfl, hq, hg, hz⟩
       have Fn2b := hid (TG.out.fresh hz); have Qn2b := hid hq; have Zn2b := hid (Nat.le_trans (gb_size TG.out.g) hz)
       replace TG := hid (TG.out.grown hg)
       clear hq hz
       have L17 := hid (show (w1017.heap[bx0]? = some (.cells c.cells 27)) from (at_grown bb hg (by simp)))
       clear hHeld hg bb
       go_wp2_with fail
       refine hK.out _ _ ?_ (fun hHeld => ?_)
       ·exact L17.out
       clear hK K
       try dsimp only at hHeld
       try simp only [jX, jD, jE, jF]
       refine jR [18] ?_
       refine jG rfl (fun K hK => ?_) AllReadyH.nil
       have hH2 := hHeld
       have bb := hH2
       have hg : w1017.grownBy (w1017.alloc (.cells #[.pointer (some ⟨n2b, 0, none⟩)] 71)) none := World.grownBy_alloc _ _ _
       obtain ⟨k2b, hk2b⟩ : ∃ t, w1017.heap.size = t := ⟨_, rfl⟩
       have Ak2b := hid (show (w1017.alloc (.cells #[.pointer (some ⟨n2b, 0, none⟩)] 71)).cell? ⟨k2b, 0, none⟩ = some (pv n2b) from hk2b ▸ at_cell (at_new w1017 _) 0)
       replace TG := hid (TG.out.grown hg)
       replace Qn2b := hid (Qn2b.out.grown hg)
       have L18 := hid (show ((w1017.alloc (.cells #[.pointer (some ⟨n2b, 0, none⟩)] 71)).heap[bx0]? = some (.cells c.cells 27)) from (at_grown bb hg (by simp)))
       clear hHeld hg bb
       try simp only [jD, jE, jF]
       go_simp
       refine hK.out _ _ ?_ (fun hHeld => ?_)
       ·exact L18.out
       clear hK K
       try dsimp only at hHeld
       try simp only [jX, jD, jE, jF]
       refine jR [19] ?_
       refine jG rfl (fun K hK => ?_) AllReadyH.nil
       have hH2 := hHeld
       have bb := hH2
       try simp only [jD, jE, jF]
       rw [if_pos (by rfl)]
       refine wp_append_ptr _ _ rfl _ _ rfl TG.out.oP k2b n2b rfl Ak2b.out (by have := EP.out; omega) ?_
       intro v2 w7 hown hgrow hat
       obtain ⟨pv2, cv2, ev2⟩ := hown.form; simp only [List.length_append, List.length_cons, List.length_nil, Nat.zero_add] at ev2; subst ev2
       replace TG := hid (TG.out.appP hown hgrow hat Qn2b.out Fn2b.out Zn2b.out)
       clear hown hgrow hat
       have L19 := hid (show (w7.heap[bx0]? = some (.cells c.cells 27)) from TG.out.box)
       clear hHeld bb
       refine hK.out _ _ ?_ (fun hHeld => ?_)
       ·exact L19.out
       clear hK K
       try dsimp only at hHeld
       try simp only [jX, jD, jE, jF]
     case' g63 =>
      have hH2 := hHeld
      have bb := hH2
      have hg : (w1008.alloc (.cells #[.pointer (some ⟨n1b, 0, none⟩)] 71)).grownBy (w1008.alloc (.cells #[.pointer (some ⟨n1b, 0, none⟩)] 71)) none := .refl _ _
      have cg : ((w1008.alloc (.cells #[.pointer (some ⟨n1b, 0, none⟩)] 71))).cell? ⟨gb, 28, none⟩ = some vP := at_cell TG.out.top 28
      have L14 := hid (show (((w1008.alloc (.cells #[.pointer (some ⟨n1b, 0, none⟩)] 71))).heap[bx0]? = some (.cells c.cells 27)) from (at_grown bb hg (by simp)))
      clear hHeld hg bb
      try simp only [jD, jE, jF]
      go_simp
      refine hK.out _ _ ?_ (fun hHeld => ?_)
      ·exact L14.out
      clear hK K
      try dsimp only at hHeld
      try simp only [jX, jD, jE, jF]
      refine jR [5] ?_
      refine jG rfl (fun K hK => ?_) AllReadyH.nil
      have hH2 := hHeld
      have bb := hH2
      have hg : ((w1008.alloc (.cells #[.pointer (some ⟨n1b, 0, none⟩)] 71))).grownBy ((w1008.alloc (.cells #[.pointer (some ⟨n1b, 0, none⟩)] 71))) none := .refl _ _
      have cg : (((w1008.alloc (.cells #[.pointer (some ⟨n1b, 0, none⟩)] 71)))).cell? ⟨gb, 27, none⟩ = some vR := at_cell TG.out.top 27
      have L5 := hid (show ((((w1008.alloc (.cells #[.pointer (some ⟨n1b, 0, none⟩)] 71)))).heap[bx0]? = some (.cells c.cells 27)) from (at_grown bb hg (by simp)))
      clear hHeld hg bb
      try simp only [jD, jE, jF]
      go_simp
      refine hK.out _ _ ?_ (fun hHeld => ?_)
      ·exact L5.out
      clear hK K
      try dsimp only at hHeld
      try simp only [jX, jD, jE, jF]
      refine jR [10] ?_
      refine jG rfl (fun K hK => ?_) AllReadyH.nil
      have hH2 := hHeld
      have bb := hH2
      try simp only [jD, jE, jF]
      rw [if_pos (by rfl)]
      refine wp_append_ptr _ _ rfl _ _ rfl TG.out.oR k1b n1b rfl Ak1b.out (by have := ER.out; omega) ?_
      intro v1 w7 hown hgrow hat
      obtain ⟨pv1, cv1, ev1⟩ := hown.form; simp only [List.length_append, List.length_cons, List.length_nil, Nat.zero_add] at ev1; subst ev1
      replace TG := hid (TG.out.appR hown hgrow hat Qn1b.out Fn1b.out Zn1b.out)
      clear hown hgrow hat
      have L10 := hid (show (w7.heap[bx0]? = some (.cells c.cells 27)) from TG.out.box)
      clear hHeld bb
      refine hK.out _ _ ?_ (fun hHeld => ?_)
      ·exact L10.out
      clear hK K
      try dsimp only at hHeld
      try simp only [jX, jD, jE, jF]
      refine jR [17] ?_
      refine jG rfl (fun K hK => ?_) AllReadyH.nil
      try simp only [jD, jE, jF]
      go_simp
      have hH2 := hHeld
      have bb := hH2
      refine (CP.out _).mono ?_
      rintro e w1017 ⟨n2b, rfl, hq, hg, hz⟩
      have Fn2b := hid (TG.out.fresh hz); have Qn2b := hid hq; have Zn2b := hid (Nat.le_trans (gb_size TG.out.g) hz)
      replace TG := hid (TG.out.grown hg)
      clear hq hz
      have L17 := hid (show (w1017.heap[bx0]? = some (.cells c.cells 27)) from (at_grown bb hg (by simp)))
      clear hHeld hg bb
      go_wp2_with fail
      refine hK.out _ _ ?_ (fun hHeld => ?_)
      ·exact L17.out
      clear hK K
      try dsimp only at hHeld
      try simp only [jX, jD, jE, jF]
      refine jR [18] ?_
      refine jG rfl (fun K hK => ?_) AllReadyH.nil
      have hH2 := hHeld
      have bb := hH2
      have hg : w1017.grownBy (w1017.alloc (.cells #[.pointer (some ⟨n2b, 0, none⟩)] 71)) none := World.grownBy_alloc _ _ _
      obtain ⟨k2b, hk2b⟩ : ∃ t, w1017.heap.size = t := ⟨_, rfl⟩
      have Ak2b := hid (show (w1017.alloc (.cells #[.pointer (some ⟨n2b, 0, none⟩)] 71)).cell? ⟨k2b, 0, none⟩ = some (pv n2b) from hk2b ▸ at_cell (at_new w1017 _) 0)
      replace TG := hid (TG.out.grown hg)
      replace Qn2b := hid (Qn2b.out.grown hg)
      have L18 := hid (show ((w1017.alloc (.cells #[.pointer (some ⟨n2b, 0, none⟩)] 71)).heap[bx0]? = some (.cells c.cells 27)) from (at_grown bb hg (by simp)))
      clear hHeld hg bb
      try simp only [jD, jE, jF]
      go_simp
      refine hK.out _ _ ?_ (fun hHeld => ?_)
      ·exact L18.out
      clear hK K
      try dsimp only at hHeld
      try simp only [jX, jD, jE, jF]
      refine jR [19] ?_
      refine jG rfl (fun K hK => ?_) AllReadyH.nil
      have hH2 := hHeld
      have bb := hH2
      try simp only [jD, jE, jF]
      rw [if_pos (by rfl)]
      refine wp_append_ptr _ _ rfl _ _ rfl TG.out.oP k2b n2b rfl Ak2b.out (by have := EP.out; omega) ?_
      intro v2 w7 hown hgrow hat
      obtain ⟨pv2, cv2, ev2⟩ := hown.form; simp only [List.length_append, List.length_cons, List.length_nil, Nat.zero_add] at ev2; subst ev2
      replace TG := hid (TG.out.appP hown hgrow hat Qn2b.out Fn2b.out Zn2b.out)
      clear hown hgrow hat
      have L19 := hid (show (w7.heap[bx0]? = some (.cells c.cells 27)) from TG.out.box)
      clear hHeld bb
      refine hK.out _ _ ?_ (fun hHeld => ?_)
      ·exact L19.out
      clear hK K
      try dsimp only at hHeld
      try simp only [jX, jD, jE, jF]
    case' g36 =>
     have hH2 := hHeld
     have bb := hH2
     have hg : w1008.grownBy w1008 none := .refl _ _
     have cg : (w1008).cell? ⟨gb, 28, none⟩ = some vP := at_cell TG.out.top 28
     have L14 := hid (show (w1008.heap[bx0]? = some (.cells c.cells 27)) from (at_grown bb hg (by simp)))
     clear hHeld hg bb
     try simp only [jD, jE, jF]
     go_simp
     refine hK.out _ _ ?_ (fun hHeld => ?_)
     ·exact L14.out
     clear hK K
     try dsimp only at hHeld
     try simp only [jX, jD, jE, jF]
     refine jR [5, 9] ?_
     refine AllReadyH.cons (o := _) rfl (fun K hK => ?g88) (AllReadyH.cons (o := _) rfl (fun K hK => ?g87) AllReadyH.nil)
     case' g88 =>
      have hH2 := hHeld
      have bb := hH2
      have hg : w1008.grownBy w1008 none := .refl _ _
      have cg : (w1008).cell? ⟨gb, 27, none⟩ = some vR := at_cell TG.out.top 27
      have L5 := hid (show (w1008.heap[bx0]? = some (.cells c.cells 27)) from (at_grown bb hg (by simp)))
      clear hHeld hg bb
      try simp only [jD, jE, jF]
      go_simp
      refine hK.out _ _ ?_ (fun hHeld => ?_)
      ·exact L5.out
      clear hK K
      try dsimp only at hHeld
      try simp only [jX, jD, jE, jF]
      refine jR [9] ?_
      refine jG rfl (fun K hK => ?_) AllReadyH.nil
      have hH2 := hHeld
      have bb := hH2
      have hg : w1008.grownBy (w1008.alloc (.cells #[.pointer (some ⟨n1b, 0, none⟩)] 71)) none := World.grownBy_alloc _ _ _
      obtain ⟨k1b, hk1b⟩ : ∃ t, w1008.heap.size = t := ⟨_, rfl⟩
      have Ak1b := hid (show (w1008.alloc (.cells #[.pointer (some ⟨n1b, 0, none⟩)] 71)).cell? ⟨k1b, 0, none⟩ = some (pv n1b) from hk1b ▸ at_cell (at_new w1008 _) 0)
      replace TG := hid (TG.out.grown hg)
      replace Qn1b := hid (Qn1b.out.grown hg)
      have L9 := hid (show ((w1008.alloc (.cells #[.pointer (some ⟨n1b, 0, none⟩)] 71)).heap[bx0]? = some (.cells c.cells 27)) from (at_grown bb hg (by simp)))
      clear hHeld hg bb
      try simp only [jD, jE, jF]
      go_simp
      refine hK.out _ _ ?_ (fun hHeld => ?_)
      ·exact L9.out
      clear hK K
      try dsimp only at hHeld
      try simp only [jX, jD, jE, jF]
      refine jR [10] ?_
      refine jG rfl (fun K hK => ?_) AllReadyH.nil
      have hH2 := hHeld
      have bb := hH2
      try simp only [jD, jE, jF]
      rw [if_pos (by rfl)]
      refine wp_append_ptr _ _ rfl _ _ rfl TG.out.oR k1b n1b rfl Ak1b.out (by have := ER.out; omega) ?_
      intro v1 w7 hown hgrow hat
      obtain ⟨pv1, cv1, ev1⟩ := hown.form; simp only [List.length_append, List.length_cons, List.length_nil, Nat.zero_add] at ev1; subst ev1
      replace TG := hid (TG.out.appR hown hgrow hat Qn1b.out Fn1b.out Zn1b.out)
      clear hown hgrow hat
      have L10 := hid (show (w7.heap[bx0]? = some (.cells c.cells 27)) from TG.out.box)
      clear hHeld bb
      refine hK.out _ _ ?_ (fun hHeld => ?_)
      ·exact L10.out
      clear hK K
      try dsimp only at hHeld
      try simp only [jX, jD, jE, jF]
      refine jR [17] ?_
      refine jG rfl (fun K hK => ?_) AllReadyH.nil
      try simp only [jD, jE, jF]
      go_simp
      have hH2 := hHeld
      have bb := hH2
      refine (CP.out _).mono ?_
      rintro e w1017 ⟨n2b, rfl, hq, hg, hz⟩
      have Fn2b := hid (TG.out.fresh hz); have Qn2b := hid hq; have Zn2b := hid (Nat.le_trans (gb_size TG.out.g) hz)
      replace TG := hid (TG.out.grown hg)
      clear hq hz
      have L17 := hid (show (w1017.heap[bx0]? = some (.cells c.cells 27)) from (at_grown bb hg (by simp)))
      clear hHeld hg bb
      go_wp2_with fail
      refine hK.out _ _ ?_ (fun hHeld => ?_)
      ·exact L17.out
      clear hK K
      try dsimp only at hHeld
      try simp only [jX, jD, jE, jF]
      refine jR [18] ?_
      refine jG rfl (fun K hK => ?_) AllReadyH.nil
      have hH2 := hHeld
      have bb := hH2
      have hg : w1017.grownBy (w1017.alloc (.cells #[.pointer (some ⟨n2b, 0, none⟩)] 71)) none := World.grownBy_alloc _ _ _
      obtain ⟨k2b, hk2b⟩ : ∃ t, w1017.heap.size = t := ⟨_, rfl⟩
      have Ak2b := hid (show (w1017.alloc (.cells #[.pointer (some ⟨n2b, 0, none⟩)] 71)).cell? ⟨k2b, 0, none⟩ = some (pv n2b) from hk2b ▸ at_cell (at_new w1017 _) 0)
      replace TG := hid (TG.out.grown hg)
      replace Qn2b := hid (Qn2b.out.grown hg)
      have L18 := hid (show ((w1017.alloc (.cells #[.pointer (some ⟨n2b, 0, none⟩)] 71)).heap[bx0]? = some (.cells c.cells 27)) from (at_grown bb hg (by simp)))
      clear hHeld hg bb
      try simp only [jD, jE, jF]
      go_simp
      refine hK.out _ _ ?_ (fun hHeld => ?_)
      ·exact L18.out
      clear hK K
      try dsimp only at hHeld
      try simp only [jX, jD, jE, jF]
      refine jR [19] ?_
      refine jG rfl (fun K hK => ?_) AllReadyH.nil
      have hH2 := hHeld
      have bb := hH2
      try simp only [jD, jE, jF]
      rw [if_pos (by rfl)]
      refine wp_append_ptr _ _ rfl _ _ rfl TG.out.oP k2b n2b rfl Ak2b.out (by have := EP.out; omega) ?_
      intro v2 w7 hown hgrow hat
      obtain ⟨pv2, cv2, ev2⟩ := hown.form; simp only [List.length_append, List.length_cons, List.length_nil, Nat.zero_add] at ev2; subst ev2
      replace TG := hid (TG.out.appP hown hgrow hat Qn2b.out Fn2b.out Zn2b.out)
      clear hown hgrow hat
      have L19 := hid (show (w7.heap[bx0]? = some (.cells c.cells 27)) from TG.out.box)
      clear hHeld bb
      refine hK.out _ _ ?_ (fun hHeld => ?_)
      ·exact L19.out
      clear hK K
      try dsimp only at hHeld
      try simp only [jX, jD, jE, jF]
     case' g87 =>
      have hH2 := hHeld
      have bb := hH2
      have hg : w1008.grownBy (w1008.alloc (.cells #[.pointer (some ⟨n1b, 0, none⟩)] 71)) none := World.grownBy_alloc _ _ _
      obtain ⟨k1b, hk1b⟩ : ∃ t, w1008.heap.size = t := ⟨_, rfl⟩
      have Ak1b := hid (show (w1008.alloc (.cells #[.pointer (some ⟨n1b, 0, none⟩)] 71)).cell? ⟨k1b, 0, none⟩ = some (pv n1b) from hk1b ▸ at_cell (at_new w1008 _) 0)
      replace TG := hid (TG.out.grown hg)
      replace Qn1b := hid (Qn1b.out.grown hg)
      have L9 := hid (show ((w1008.alloc (.cells #[.pointer (some ⟨n1b, 0, none⟩)] 71)).heap[bx0]? = some (.cells c.cells 27)) from (at_grown bb hg (by simp)))
      clear hHeld hg bb
      try simp only [jD, jE, jF]
      go_simp
      refine hK.out _ _ ?_ (fun hHeld => ?_)
      ·exact L9.out
      clear hK K
      try dsimp only at hHeld
      try simp only [jX, jD, jE, jF]
      refine jR [5] ?_
      refine jG rfl (fun K hK => ?_) AllReadyH.nil
      have hH2 := hHeld
      have bb := hH2
      have hg : (w1008.alloc (.cells #[.pointer (some ⟨n1b, 0, none⟩)] 71)).grownBy (w1008.alloc (.cells #[.pointer (some ⟨n1b, 0, none⟩)] 71)) none := .refl _ _
      have cg : ((w1008.alloc (.cells #[.pointer (some ⟨n1b, 0, none⟩)] 71))).cell? ⟨gb, 27, none⟩ = some vR := at_cell TG.out.top 27
      have L5 := hid (show (((w1008.alloc (.cells #[.pointer (some ⟨n1b, 0, none⟩)] 71))).heap[bx0]? = some (.cells c.cells 27)) from (at_grown bb hg (by simp)))
      clear hHeld hg bb
      try simp only [jD, jE, jF]
      go_simp
      refine hK.out _ _ ?_ (fun hHeld => ?_)
      ·exact L5.out
      clear hK K
      try dsimp only at hHeld
      try simp only [jX, jD, jE, jF]
      refine jR [10] ?_
      refine jG rfl (fun K hK => ?_) AllReadyH.nil
      have hH2 := hHeld
      have bb := hH2
      try simp only [jD, jE, jF]
      rw [if_pos (by rfl)]
      refine wp_append_ptr _ _ rfl _ _ rfl TG.out.oR k1b n1b rfl Ak1b.out (by have := ER.out; omega) ?_
      intro v1 w7 hown hgrow hat
      obtain ⟨pv1, cv1, ev1⟩ := hown.form; simp only [List.length_append, List.length_cons, List.length_nil, Nat.zero_add] at ev1; subst ev1
      replace TG := hid (TG.out.appR hown hgrow hat Qn1b.out Fn1b.out Zn1b.out)
      clear hown hgrow hat
      have L10 := hid (show (w7.heap[bx0]? = some (.cells c.cells 27)) from TG.out.box)
      clear hHeld bb
      refine hK.out _ _ ?_ (fun hHeld => ?_)
      ·exact L10.out
      clear hK K
      try dsimp only at hHeld
      try simp only [jX, jD, jE, jF]
      refine jR [17] ?_
      refine jG rfl (fun K hK => ?_) AllReadyH.nil
      try simp only [jD, jE, jF]
      go_simp
      have hH2 := hHeld
      have bb := hH2
      refine (CP.out _).mono ?_
      rintro e w1017 ⟨n2b, rfl, hq, hg, hz⟩
      have Fn2b := hid (TG.out.fresh hz); have Qn2b := hid hq; have Zn2b := hid (Nat.le_trans (gb_size TG.out.g) hz)
      replace TG := hid (TG.out.grown hg)
      clear hq hz
      have L17 := hid (show (w1017.heap[bx0]? = some (.cells c.cells 27)) from (at_grown bb hg (by simp)))
      clear hHeld hg bb
      go_wp2_with fail
      refine hK.out _ _ ?_ (fun hHeld => ?_)
      ·exact L17.out
      clear hK K
      try dsimp only at hHeld
      try simp only [jX, jD, jE, jF]
      refine jR [18] ?_
      refine jG rfl (fun K hK => ?_) AllReadyH.nil
      have hH2 := hHeld
      have bb := hH2
      have hg : w1017.grownBy (w1017.alloc (.cells #[.pointer (some ⟨n2b, 0, none⟩)] 71)) none := World.grownBy_alloc _ _ _
      obtain ⟨k2b, hk2b⟩ : ∃ t, w1017.heap.size = t := ⟨_, rfl⟩
      have Ak2b := hid (show (w1017.alloc (.cells #[.pointer (some ⟨n2b, 0, none⟩)] 71)).cell? ⟨k2b, 0, none⟩ = some (pv n2b) from hk2b ▸ at_cell (at_new w1017 _) 0)
      replace TG := hid (TG.out.grown hg)
      replace Qn2b := hid (Qn2b.out.grown hg)
      have L18 := hid (show ((w1017.alloc (.cells #[.pointer (some ⟨n2b, 0, none⟩)] 71)).heap[bx0]? = some (.cells c.cells 27)) from (at_grown bb hg (by simp)))
      clear hHeld hg bb
      try simp only [jD, jE, jF]
      go_simp
      refine hK.out _ _ ?_ (fun hHeld => ?_)
      ·exact L18.out
      clear hK K
      try dsimp only at hHeld
      try simp only [jX, jD, jE, jF]
      refine jR [19] ?_
      refine jG rfl (fun K hK => ?_) AllReadyH.nil
      have hH2 := hHeld
      have bb := hH2
      try simp only [jD, jE, jF]
      rw [if_pos (by rfl)]
      refine wp_append_ptr _ _ rfl _ _ rfl TG.out.oP k2b n2b rfl Ak2b.out (by have := EP.out; omega) ?_
      intro v2 w7 hown hgrow hat
      obtain ⟨pv2, cv2, ev2⟩ := hown.form; simp only [List.length_append, List.length_cons, List.length_nil, Nat.zero_add] at ev2; subst ev2
      replace TG := hid (TG.out.appP hown hgrow hat Qn2b.out Fn2b.out Zn2b.out)
      clear hown hgrow hat
      have L19 := hid (show (w7.heap[bx0]? = some (.cells c.cells 27)) from TG.out.box)
      clear hHeld bb
      refine hK.out _ _ ?_ (fun hHeld => ?_)
      ·exact L19.out
      clear hK K
      try dsimp only at hHeld
      try simp only [jX, jD, jE, jF]
   case' g1 =>
    have hH2 := hHeld
    have bb := hH2
    have hg : wr.drew.grownBy wr.drew none := .refl _ _
    have cg : (wr.drew).cell? ⟨gb, 28, none⟩ = some vP := at_cell TG.out.top 28
    have L14 := hid (show (wr.drew.heap[bx0]? = some (.cells c.cells 27)) from (at_grown bb hg (by simp)))
    clear hHeld hg bb
    try simp only [jD, jE, jF]
    go_simp
    refine hK.out _ _ ?_ (fun hHeld => ?_)
    ·exact L14.out
    clear hK K
    try dsimp only at hHeld
    try simp only [jX, jD, jE, jF]
    refine jR [5, 8] ?_
    refine AllReadyH.cons (o := _) rfl (fun K hK => ?g100) (AllReadyH.cons (o := _) rfl (fun K hK => ?g99) AllReadyH.nil)
    case' g100 =>
     have hH2 := hHeld
     have bb := hH2
     have hg : wr.drew.grownBy wr.drew none := .refl _ _
     have cg : (wr.drew).cell? ⟨gb, 27, none⟩ = some vR := at_cell TG.out.top 27
     have L5 := hid (show (wr.drew.heap[bx0]? = some (.cells c.cells 27)) from (at_grown bb hg (by simp)))
     clear hHeld hg bb
     try simp only [jD, jE, jF]
     go_simp
     refine hK.out _ _ ?_ (fun hHeld => ?_)
     ·exact L5.out
     clear hK K
     try dsimp only at hHeld
     try simp only [jX, jD, jE, jF]
     refine jR [8] ?_
     refine jG rfl (fun K hK => ?_) AllReadyH.nil
     try simp only [jD, jE, jF]
     go_simp
     have hH2 := hHeld
     have bb := hH2
     refine (CP.out _).mono ?_
     rintro e w1008 ⟨n1b, rfl, hq, hg, hz⟩
     have Fn1b := hid (TG.out.fresh hz); have Qn1b := hid hq; have Zn1b := hid (Nat.le_trans (gb_size TG.out.g) hz)
     replace TG := hid (TG.out.grown hg)
     clear hq hz
     have L8 := hid (show (w1008.heap[bx0]? = some (.cells c.cells 27)) from (at_grown bb hg (by simp)))
     clear hHeld hg bb
     go_wp2_with fail
     refine hK.out _ _ ?_ (fun hHeld => ?_)
     ·exact L8.out
     clear hK K
     try dsimp only at hHeld
     try simp only [jX, jD, jE, jF]
     refine jR [9] ?_
     refine jG rfl (fun K hK => ?_) AllReadyH.nil
     have hH2 := hHeld
     have bb := hH2
     have hg : w1008.grownBy (w1008.alloc (.cells #[.pointer (some ⟨n1b, 0, none⟩)] 71)) none := World.grownBy_alloc _ _ _
     obtain ⟨k1b, hk1b⟩ : ∃ t, w1008.heap.size = t := ⟨_, rfl⟩
     have Ak1b := hid (show (w1008.alloc (.cells #[.pointer (some ⟨n1b, 0, none⟩)] 71)).cell? ⟨k1b, 0, none⟩ = some (pv n1b) from hk1b ▸ at_cell (at_new w1008 _) 0)
     replace TG := hid (TG.out.grown hg)
     replace Qn1b := hid (Qn1b.out.grown hg)
     have L9 := hid (show ((w1008.alloc (.cells #[.pointer (some ⟨n1b, 0, none⟩)] 71)).heap[bx0]? = some (.cells c.cells 27)) from (at_grown bb hg (by simp)))
     clear hHeld hg bb
     try simp only [jD, jE, jF]
     go_simp
     refine hK.out _ _ ?_ (fun hHeld => ?_)
     ·exact L9.out
     clear hK K
     try dsimp only at hHeld
     try simp only [jX, jD, jE, jF]
     refine jR [10] ?_
     refine jG rfl (fun K hK => ?_) AllReadyH.nil
     have hH2 := hHeld
     have bb := hH2
     try simp only [jD, jE, jF]
     rw [if_pos (by rfl)]
     refine wp_append_ptr _ _ rfl _ _ rfl TG.out.oR k1b n1b rfl Ak1b.out (by have := ER.out; omega) ?_
     intro v1 w7 hown hgrow hat
     obtain ⟨pv1, cv1, ev1⟩ := hown.form; simp only [List.length_append, List.length_cons, List.length_nil, Nat.zero_add] at ev1; subst ev1
     replace TG := hid (TG.out.appR hown hgrow hat Qn1b.out Fn1b.out Zn1b.out)
     clear hown hgrow hat
     have L10 := hid (show (w7.heap[bx0]? = some (.cells c.cells 27)) from TG.out.box)
     clear hHeld bb
     refine hK.out _ _ ?_ (fun hHeld => ?_)
     ·exact L10.out
     clear hK K
     try dsimp only at hHeld
     try simp only [jX, jD, jE, jF]
     refine jR [17] ?_
     refine jG rfl (fun K hK => ?_) AllReadyH.nil
     try simp only [jD, jE, jF]
     go_simp
     have hH2 := hHeld
     have bb := hH2
     refine (CP.out _).mono ?_
     rintro e w1017 ⟨n2b, rfl, hq, hg, hz⟩
     have Fn2b := hid (TG.out.fresh hz); have Qn2b := hid hq; have Zn2b := hid (Nat.le_trans (gb_size TG.out.g) hz)
     replace TG := hid (TG.out.grown hg)
     clear hq hz
     have L17 := hid (show (w1017.heap[bx0]? = some (.cells c.cells 27)) from (at_grown bb hg (by simp)))
     clear hHeld hg bb
     go_wp2_with fail
     refine hK.out _ _ ?_ (fun hHeld => ?_)
     ·exact L17.out
     clear hK K
     try dsimp only at hHeld
     try simp only [jX, jD, jE, jF]
     refine jR [18] ?_
     refine jG rfl (fun K hK => ?_) AllReadyH.nil
     have hH2 := hHeld
     have bb := hH2
     have hg : w1017.grownBy (w1017.alloc (.cells #[.pointer (some ⟨n2b, 0, none⟩)] 71)) none := World.grownBy_alloc _ _ _
     obtain ⟨k2b, hk2b⟩ : ∃ t, w1017.heap.size = t := ⟨_, rfl⟩
     have Ak2b := hid (show (w1017.alloc (.cells #[.pointer (some ⟨n2b, 0, none⟩)] 71)).cell? ⟨k2b, 0, none⟩ = some (pv n2b) from hk2b ▸ at_cell (at_new w1017 _) 0)
     replace TG := hid (TG.out.grown hg)
     replace Qn2b := hid (Qn2b.out.grown hg)
     have L18 := hid (show ((w1017.alloc (.cells #[.pointer (some ⟨n2b, 0, none⟩)] 71)).heap[bx0]? = some (.cells c.cells 27)) from (at_grown bb hg (by simp)))
     clear hHeld hg bb
     try simp only [jD, jE, jF]
     go_simp
     refine hK.out _ _ ?_ (fun hHeld => ?_)
     ·exact L18.out
     clear hK K
     try dsimp only at hHeld
     try simp only [jX, jD, jE, jF]
     refine jR [19] ?_
     refine jG rfl (fun K hK => ?_) AllReadyH.nil
     have hH2 := hHeld
     have bb := hH2
     try simp only [jD, jE, jF]
     rw [if_pos (by rfl)]
     refine wp_append_ptr _ _ rfl _ _ rfl TG.out.oP k2b n2b rfl Ak2b.out (by have := EP.out; omega) ?_
     intro v2 w7 hown hgrow hat
     obtain ⟨pv2, cv2, ev2⟩ := hown.form; simp only [List.length_append, List.length_cons, List.length_nil, Nat.zero_add] at ev2; subst ev2
     replace TG := hid (TG.out.appP hown hgrow hat Qn2b.out Fn2b.out Zn2b.out)
     clear hown hgrow hat
     have L19 := hid (show (w7.heap[bx0]? = some (.cells c.cells 27)) from TG.out.box)
     clear hHeld bb
     refine hK.out _ _ ?_ (fun hHeld => ?_)
     ·exact L19.out
     clear hK K
     try dsimp only at hHeld
     try simp only [jX, jD, jE, jF]
    case' g99 =>
     try simp only [jD, jE, jF]
     go_simp
     have hH2 := hHeld
     have bb := hH2
     refine (CP.out _).mono ?_
     rintro e w1008 ⟨n1b, rfl, hq, hg, hz⟩
     have Fn1b := hid (TG.out.fresh hz); have Qn1b := hid hq; have Zn1b := hid (Nat.le_trans (gb_size TG.out.g) hz)
     replace TG := hid (TG.out.grown hg)
     clear hq hz
     have L8 := hid (show (w1008.heap[bx0]? = some (.cells c.cells 27)) from (at_grown bb hg (by simp)))
     clear hHeld hg bb
     go_wp2_with fail
     refine hK.out _ _ ?_ (fun hHeld => ?_)
     ·exact L8.out
     clear hK K
     try dsimp only at hHeld
     try simp only [jX, jD, jE, jF]
     refine jR [5, 9] ?_
     refine AllReadyH.cons (o := _) rfl (fun K hK => ?g108) (AllReadyH.cons (o := _) rfl (fun K hK => ?g107) AllReadyH.nil)
     case' g108 =>
      have hH2 := hHeld
      have bb := hH2
      have hg : w1008.grownBy w1008 none := .refl _ _
      have cg : (w1008).cell? ⟨gb, 27, none⟩ = some vR := at_cell TG.out.top 27
      have L5 := hid (show (w1008.heap[bx0]? = some (.cells c.cells 27)) from (at_grown bb hg (by simp)))
      clear hHeld hg bb
      try simp only [jD, jE, jF]
      go_simp
      refine hK.out _ _ ?_ (fun hHeld => ?_)
      ·exact L5.out
      clear hK K
      try dsimp only at hHeld
      try simp only [jX, jD, jE, jF]
      refine jR [9] ?_
      refine jG rfl (fun K hK => ?_) AllReadyH.nil
      have hH2 := hHeld
      have bb := hH2
      have hg : w1008.grownBy (w1008.alloc (.cells #[.pointer (some ⟨n1b, 0, none⟩)] 71)) none := World.grownBy_alloc _ _ _
      obtain ⟨k1b, hk1b⟩ : ∃ t, w1008.heap.size = t := ⟨_, rfl⟩
      have Ak1b := hid (show (w1008.alloc (.cells #[.pointer (some ⟨n1b, 0, none⟩)] 71)).cell? ⟨k1b, 0, none⟩ = some (pv n1b) from hk1b ▸ at_cell (at_new w1008 _) 0)
      replace TG := hid (TG.out.grown hg)
      replace Qn1b := hid (Qn1b.out.grown hg)
      have L9 := hid (show ((w1008.alloc (.cells #[.pointer (some ⟨n1b, 0, none⟩)] 71)).heap[bx0]? = some (.cells c.cells 27)) from (at_grown bb hg (by simp)))
      clear hHeld hg bb
      try simp only [jD, jE, jF]
      go_simp
      refine hK.out _ _ ?_ (fun hHeld => ?_)
      ·exact L9.out
      clear hK K
      try dsimp only at hHeld
      try simp only [jX, jD, jE, jF]
      refine jR [10] ?_
      refine jG rfl (fun K hK => ?_) AllReadyH.nil
      have hH2 := hHeld
      have bb := hH2
      try simp only [jD, jE, jF]
      rw [if_pos (by rfl)]
      refine wp_append_ptr _ _ rfl _ _ rfl TG.out.oR k1b n1b rfl Ak1b.out (by have := ER.out; omega) ?_
      intro v1 w7 hown hgrow hat
      obtain ⟨pv1, cv1, ev1⟩ := hown.form; simp only [List.length_append, List.length_cons, List.length_nil, Nat.zero_add] at ev1; subst ev1
      replace TG := hid (TG.out.appR hown hgrow hat Qn1b.out Fn1b.out Zn1b.out)
      clear hown hgrow hat
      have L10 := hid (show (w7.heap[bx0]? = some (.cells c.cells 27)) from TG.out.box)
      clear hHeld bb
      refine hK.out _ _ ?_ (fun hHeld => ?_)
      ·exact L10.out
      clear hK K
      try dsimp only at hHeld
      try simp only [jX, jD, jE, jF]
      refine jR [17] ?_
      refine jG rfl (fun K hK => ?_) AllReadyH.nil
      try simp only [jD, jE, jF]
      go_simp
      have hH2 := hHeld
      have bb := hH2
      refine (CP.out _).mono ?_
      rintro e w1017 ⟨n2b, rfl, hq, hg, hz⟩
      have Fn2b := hid (TG.out.fresh hz); have Qn2b := hid hq; have Zn2b := hid (Nat.le_trans (gb_size TG.out.g) hz)
      replace TG := hid (TG.out.grown hg)
      clear hq hz
      have L17 := hid (show (w1017.heap[bx0]? = some (.cells c.cells 27)) from (at_grown bb hg (by simp)))
      clear hHeld hg bb
      go_wp2_with fail
      refine hK.out _ _ ?_ (fun hHeld => ?_)
      ·exact L17.out
      clear hK K
      try dsimp only at hHeld
      try simp only [jX, jD, jE, jF]
      refine jR [18] ?_
      refine jG rfl (fun K hK => ?_) AllReadyH.nil
      have hH2 := hHeld
      have bb := hH2
      have hg : w1017.grownBy (w1017.alloc (.cells #[.pointer (some ⟨n2b, 0, none⟩)] 71)) none := World.grownBy_alloc _ _ _
      obtain ⟨k2b, hk2b⟩ : ∃ t, w1017.heap.size = t := ⟨_, rfl⟩
      have Ak2b := hid (show (w1017.alloc (.cells #[.pointer (some ⟨n2b, 0, none⟩)] 71)).cell? ⟨k2b, 0, none⟩ = some (pv n2b) from hk2b ▸ at_cell (at_new w1017 _) 0)
      replace TG := hid (TG.out.grown hg)
      replace Qn2b := hid (Qn2b.out.grown hg)
      have L18 := hid (show ((w1017.alloc (.cells #[.pointer (some ⟨n2b, 0, none⟩)] 71)).heap[bx0]? = some (.cells c.cells 27)) from (at_grown bb hg (by simp)))
      clear hHeld hg bb
      try simp only [jD, jE, jF]
      go_simp
      refine hK.out _ _ ?_ (fun hHeld => ?_)
      ·exact L18.out
      clear hK K
      try dsimp only at hHeld
      try simp only [jX, jD, jE, jF]
      refine jR [19] ?_
      refine jG rfl (fun K hK => ?_) AllReadyH.nil
      have hH2 := hHeld
      have bb := hH2
      try simp only [jD, jE, jF]
      rw [if_pos (by rfl)]
      refine wp_append_ptr _ _ rfl _ _ rfl TG.out.oP k2b n2b rfl Ak2b.out (by have := EP.out; omega) ?_
      intro v2 w7 hown hgrow hat
      obtain ⟨pv2, cv2, ev2⟩ := hown.form; simp only [List.length_append, List.length_cons, List.length_nil, Nat.zero_add] at ev2; subst ev2
      replace TG := hid (TG.out.appP hown hgrow hat Qn2b.out Fn2b.out Zn2b.out)
      clear hown hgrow hat
      have L19 := hid (show (w7.heap[bx0]? = some (.cells c.cells 27)) from TG.out.box)
      clear hHeld bb
      refine hK.out _ _ ?_ (fun hHeld => ?_)
      ·exact L19.out
      clear hK K
      try dsimp only at hHeld
      try simp only [jX, jD, jE, jF]
     case' g107 =>
      have hH2 := hHeld
      have bb := hH2
      have hg : w1008.grownBy (w1008.alloc (.cells #[.pointer (some ⟨n1b, 0, none⟩)] 71)) none := World.grownBy_alloc _ _ _
      obtain ⟨k1b, hk1b⟩ : ∃ t, w1008.heap.size = t := ⟨_, rfl⟩
      have Ak1b := hid (show (w1008.alloc (.cells #[.pointer (some ⟨n1b, 0, none⟩)] 71)).cell? ⟨k1b, 0, none⟩ = some (pv n1b) from hk1b ▸ at_cell (at_new w1008 _) 0)
      replace TG := hid (TG.out.grown hg)
      replace Qn1b := hid (Qn1b.out.grown hg)
      have L9 := hid (show ((w1008.alloc (.cells #[.pointer (some ⟨n1b, 0, none⟩)] 71)).heap[bx0]? = some (.cells c.cells 27)) from (at_grown bb hg (by simp)))
      clear hHeld hg bb
      try simp only [jD, jE, jF]
      go_simp
      refine hK.out _ _ ?_ (fun hHeld => ?_)
      ·exact L9.out
      clear hK K
      try dsimp only at hHeld
      try simp only [jX, jD, jE, jF]
      refine jR [5] ?_
      refine jG rfl (fun K hK => ?_) AllReadyH.nil
      have hH2 := hHeld
      have bb := hH2
      have hg : (w1008.alloc (.cells #[.pointer (some ⟨n1b, 0, none⟩)] 71)).grownBy (w1008.alloc (.cells #[.pointer (some ⟨n1b, 0, none⟩)] 71)) none := .refl _ _
      have cg : ((w1008.alloc (.cells #[.pointer (some ⟨n1b, 0, none⟩)] 71))).cell? ⟨gb, 27, none⟩ = some vR := at_cell TG.out.top 27
      have L5 := hid (show (((w1008.alloc (.cells #[.pointer (some ⟨n1b, 0, none⟩)] 71))).heap[bx0]? = some (.cells c.cells 27)) from (at_grown bb hg (by simp)))
      clear hHeld hg bb
      try simp only [jD, jE, jF]
      go_simp
      refine hK.out _ _ ?_ (fun hHeld => ?_)
      ·exact L5.out
      clear hK K
      try dsimp only at hHeld
      try simp only [jX, jD, jE, jF]
      refine jR [10] ?_
      refine jG rfl (fun K hK => ?_) AllReadyH.nil
      have hH2 := hHeld
      have bb := hH2
      try simp only [jD, jE, jF]
      rw [if_pos (by rfl)]
      refine wp_append_ptr _ _ rfl _ _ rfl TG.out.oR k1b n1b rfl Ak1b.out (by have := ER.out; omega) ?_
      intro v1 w7 hown hgrow hat
      obtain ⟨pv1, cv1, ev1⟩ := hown.form; simp only [List.length_append, List.length_cons, List.length_nil, Nat.zero_add] at ev1; subst ev1
      replace TG := hid (TG.out.appR hown hgrow hat Qn1b.out Fn1b.out Zn1b.out)
      clear hown hgrow hat
      have L10 := hid (show (w7.heap[bx0]? = some (.cells c.cells 27)) from TG.out.box)
      clear hHeld bb
      refine hK.out _ _ ?_ (fun hHeld => ?_)
      ·exact L10.out
      clear hK K
      try dsimp only at hHeld
      try simp only [jX, jD, jE, jF]
      refine jR [17] ?_
      refine jG rfl (fun K hK => ?_) AllReadyH.nil
      try simp only [jD, jE, jF]
      go_simp
      have hH2 := hHeld
      have bb := hH2
      refine (CP.out _).mono ?_
      rintro e w1017 ⟨n2b, rfl, hq, hg, hz⟩
      have Fn2b := hid (TG.out.fresh hz); have Qn2b := hid hq; have Zn2b := hid (Nat.le_trans (gb_size TG.out.g) hz)
      replace TG := hid (TG.out.grown hg)
      clear hq hz
      have L17 := hid (show (w1017.heap[bx0]? = some (.cells c.cells 27)) from (at_grown bb hg (by simp)))
      clear hHeld hg bb
      go_wp2_with fail
      refine hK.out _ _ ?_ (fun hHeld => ?_)
      ·exact L17.out
      clear hK K
      try dsimp only at hHeld
      try simp only [jX, jD, jE, jF]
      refine jR [18] ?_
      refine jG rfl (fun K hK => ?_) AllReadyH.nil
      have hH2 := hHeld
      have bb := hH2
      have hg : w1017.grownBy (w1017.alloc (.cells #[.pointer (some ⟨n2b, 0, none⟩)] 71)) none := World.grownBy_alloc _ _ _
      obtain ⟨k2b, hk2b⟩ : ∃ t, w1017.heap.size = t := ⟨_, rfl⟩
      have Ak2b := hid (show (w1017.alloc (.cells #[.pointer (some ⟨n2b, 0, none⟩)] 71)).cell? ⟨k2b, 0, none⟩ = some (pv n2b) from hk2b ▸ at_cell (at_new w1017 _) 0)
      replace TG := hid (TG.out.grown hg)
      replace Qn2b := hid (Qn2b.out.grown hg)
      have L18 := hid (show ((w1017.alloc (.cells #[.pointer (some ⟨n2b, 0, none⟩)] 71)).heap[bx0]? = some (.cells c.cells 27)) from (at_grown bb hg (by simp)))
      clear hHeld hg bb
      try simp only [jD, jE, jF]
      go_simp
      refine hK.out _ _ ?_ (fun hHeld => ?_)
      ·exact L18.out
      clear hK K
      try dsimp only at hHeld
      try simp only [jX, jD, jE, jF]
      refine jR [19] ?_
      refine jG rfl (fun K hK => ?_) AllReadyH.nil
      have hH2 := hHeld
      have bb := hH2
      try simp only [jD, jE, jF]
      rw [if_pos (by rfl)]
      refine wp_append_ptr _ _ rfl _ _ rfl TG.out.oP k2b n2b rfl Ak2b.out (by have := EP.out; omega) ?_
      intro v2 w7 hown hgrow hat
      obtain ⟨pv2, cv2, ev2⟩ := hown.form; simp only [List.length_append, List.length_cons, List.length_nil, Nat.zero_add] at ev2; subst ev2
      replace TG := hid (TG.out.appP hown hgrow hat Qn2b.out Fn2b.out Zn2b.out)
      clear hown hgrow hat
      have L19 := hid (show (w7.heap[bx0]? = some (.cells c.cells 27)) from TG.out.box)
      clear hHeld bb
      refine hK.out _ _ ?_ (fun hHeld => ?_)
      ·exact L19.out
      clear hK K
      try dsimp only at hHeld
      try simp only [jX, jD, jE, jF]
   all_goals
    refine jU 20 hHeld ?_
    try simp only [jX, jD, jE, jF]
    refine jU 21 hHeld ?_
    try simp only [jX, jD, jE, jF]
    refine jR [22] ?_
    refine jG rfl (fun K hK => ?_) AllReadyH.nil
    have hH2 := hHeld
    have bb := hH2
    have cg : (w7).cell? ⟨gb, 27, none⟩ = some vR := at_cell TG.out.top 27
    have fg : (w7).frozen? ⟨gb, 27, none⟩ = false := at_free TG.out.top 27
    have hst : ((w7).setCell ⟨gb, 27, none⟩ (.slice pv1 (lR.length + 1) cv1)).heap[gb]? = some (.cells (newCells c r (.slice pv1 (lR.length + 1) cv1) vP) 66) := by have := at_set TG.out.top 27 (.slice pv1 (lR.length + 1) cv1); exact this
    replace TG := hid (TG.out.stored ((chg_refl (w7) [gb]).set (.inl (by simp)) _) hst)
    have hg := True.intro
    have L22 := hid (show (((w7).setCell ⟨gb, 27, none⟩ (.slice pv1 (lR.length + 1) cv1)).heap[bx0]? = some (.cells c.cells 27)) from TG.out.box)
    clear hHeld hg bb
    try simp only [jD, jE, jF]
    go_simp
    refine hK.out _ _ ?_ (fun hHeld => ?_)
    ·exact L22.out
    clear hK K
    try dsimp only at hHeld
    try simp only [jX, jD, jE, jF]
    refine jU 23 hHeld ?_
    try simp only [jX, jD, jE, jF]
    refine jU 24 hHeld ?_
    try simp only [jX, jD, jE, jF]
    refine jR [25] ?_
    refine jG rfl (fun K hK => ?_) AllReadyH.nil
    have hH2 := hHeld
    have bb := hH2
    have cg : (((w7).setCell ⟨gb, 27, none⟩ (.slice pv1 (lR.length + 1) cv1))).cell? ⟨gb, 28, none⟩ = some vP := at_cell TG.out.top 28
    have fg : (((w7).setCell ⟨gb, 27, none⟩ (.slice pv1 (lR.length + 1) cv1))).frozen? ⟨gb, 28, none⟩ = false := at_free TG.out.top 28
    have hst : ((((w7).setCell ⟨gb, 27, none⟩ (.slice pv1 (lR.length + 1) cv1))).setCell ⟨gb, 28, none⟩ (.slice pv2 (lP.length + 1) cv2)).heap[gb]? = some (.cells (newCells c r (.slice pv1 (lR.length + 1) cv1) (.slice pv2 (lP.length + 1) cv2)) 66) := by have := at_set TG.out.top 28 (.slice pv2 (lP.length + 1) cv2); exact this
    replace TG := hid (TG.out.stored ((chg_refl (((w7).setCell ⟨gb, 27, none⟩ (.slice pv1 (lR.length + 1) cv1))) [gb]).set (.inl (by simp)) _) hst)
    have hg := True.intro
    have L25 := hid (show (((((w7).setCell ⟨gb, 27, none⟩ (.slice pv1 (lR.length + 1) cv1))).setCell ⟨gb, 28, none⟩ (.slice pv2 (lP.length + 1) cv2)).heap[bx0]? = some (.cells c.cells 27)) from TG.out.box)
    clear hHeld hg bb
    try simp only [jD, jE, jF]
    go_simp
    refine hK.out _ _ ?_ (fun hHeld => ?_)
    ·exact L25.out
    clear hK K
    try dsimp only at hHeld
    try simp only [jX, jD, jE, jF]
    refine wpAnyH_done (by kernel_rfl) ?_ _
    have bb := hHeld
    have FIN := hid (show Nr w bx0 gb r gn sn c sd n grace win (.slice pv1 (lR.length + 1) cv1) (.slice pv2 (lP.length + 1) cv2) (.slice pv1 (lR.length + 1) cv1) (.slice pv2 (lP.length + 1) cv2) (lR ++ [n1b]) (lP ++ [n2b]) (((((w7).setCell ⟨gb, 27, none⟩ (.slice pv1 (lR.length + 1) cv1))).setCell ⟨gb, 28, none⟩ (.slice pv2 (lP.length + 1) cv2))) from TG.out)
    clear bb TG
    go_wp2_with fail
    go_roundw
    case rel => exact ⟨k + 1, _, _, _, _, hlt, rfl, by have := ER.out; simp [this], by have := EP.out; simp [this], FIN.out⟩
    case measure => simp [intOf]; omega
  ·have hkn : k = n := by omega
   have dlt : decide ((k : Int) < (n : Int)) = false := by simp; omega
   obtain ⟨F9, B9, b1, b2, b3⟩ := DN.out _ _ _ _ _ _ _ _ _ _ _ K3.out (by have := ER.out; omega) (by have := EP.out; omega)
   have E9 := hid b1; have D9 := hid b2; have L9 := hid b3; have G9 := hid K3.out.g; clear b1 b2 b3 K3
   go_wp2_with fail
   go_ret
   exact ⟨F9, B9, by rw [E9.out]; rfl, D9.out, G9.out, L9.out⟩
end Go.Proofs.YtgpdcapnnejdeaaGreat
