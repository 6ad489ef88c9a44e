/-
  Contracts for package law: New. The condition of a call: the object lies there, slices read as numbers.
  Contract: the first part that may not be, as the document says it: it is what the program finds. No condition.
-/
import Derived.Test.YthobbekocimcnaaGreatZ6
import Derived.Test.YthobbekocimcnaaGreatZ7
section
set_option linter.unusedSimpArgs false
set_option linter.unusedVariables false
namespace Go.Proofs.YthobbekocimcnaaGreat
set_option maxRecDepth 100000
open Go.RowKit

theorem tarr_len : Tryz.prog.arrayLen 25 = 4 := by kernel_rfl
theorem tarr_elem : Tryz.prog.elem 25 = 2 := by kernel_rfl
theorem tsize_i64 (u : World) : (sizeOf 2).run Tryz.prog u = .ok 1 u := by
  obtain ⟨i, hi, hz0, hz1, hz2⟩ := info_parts info_i64
  simp [sizeOf, typeInfo, hi, hz1]
theorem tarr_h (b o n : Nat) (h : n ≤ 4) (u : World) : (Instr.sliceAt 25 (.pointer (some ⟨b, o, none⟩)) none (some (.int .i64 (n : Int))) none).run Tryz.prog u = .ok (.slice (some ⟨b, o, none⟩) n 4) u := by
  rw [run_sliceAt_array_h (P := Tryz.prog) u 25 ⟨b, o, none⟩ (by kernel_rfl) .i64 (n : Int) (by omega) (by rw [tarr_len]; omega), tarr_elem, tsize_i64, tarr_len]
  simp [slicedAt, Result.andThen, Addr.add]
/-- the targets of the metrics that there are -/
@[reducible] def tgOf (c : Conf) (m : Nat) : List Int := [c.t0, c.t1, c.t2, c.t3].take m
theorem tgOf_len (c : Conf) {m : Nat} (h : m ≤ 4) : (tgOf c m).length = m := by rw [List.length_take]; simp; omega
theorem tgOf_at {w : World} {x m : Nat} {c : Conf} {t : TypeId} {cs : Array Value} (hcs : ∀ i, i < 4 → cs[7 + i]? = ([c.t0, c.t1, c.t2, c.t3][i]?).map iv) (h : w.heap[x]? = some (.cells cs t)) (hm : m ≤ 4) : IntsAt w (.slice (some ⟨x, 7, none⟩) m 4) (tgOf c m) := by
  refine .inr ⟨_, 4, by rw [tgOf_len c hm], by rw [tgOf_len c hm]; exact hm, by unfold maxLen; omega, fun i hi => ?_⟩
  have hi' : i < m := by rw [tgOf_len c hm] at hi; exact hi
  rw [iadd_at, at_cell h, hcs i (by omega)]
  have : (tgOf c m)[i]? = [c.t0, c.t1, c.t2, c.t3][i]? := by rw [List.getElem?_take, if_pos hi']
  rw [← this, List.getElem?_eq_getElem hi]; rfl
theorem conf_tg (c : Conf) : ∀ i, i < 4 → c.cells[7 + i]? = ([c.t0, c.t1, c.t2, c.t3][i]?).map iv
  | 0, _ => rfl
  | 1, _ => rfl
  | 2, _ => rfl
  | 3, _ => rfl
  | k + 4, h => by omega
theorem lclone_any (a : Addr) (n c : Nat) (l : List Int) (w : World) (h : IntsAt w (.slice (some a) n c) l) (hn : l.length ≤ 999999) (hne : 0 < l.length) :
    Calls Tryz.prog 21 #[.slice (some a) n c] w fun e w' => ∃ bt ao k, e = .returned (.slice (some ⟨bt, ao, none⟩) l.length k) ∧ IntsAt w' (.slice (some ⟨bt, ao, none⟩) l.length k) l ∧ w.heap.size ≤ bt ∧ bt < w'.heap.size ∧ w.grownBy w' none := by
  have HI := hid h
  have hnil := Lib.run_eql_slice_nil w 23 2 (some a) n c 0 0 Tryz.underlying23
  have HE := hid (OwnI.empty w)
  have HB := hid (HI.out.alloc (.cells #[] 2))
  have HL := hid hn; have HNE := hid hne
  clear h hn hne
  go_enter Tryz.func21, Tryz.ntmps21
  go_wp2_with (refine append_ints rfl _ _ rfl w.heap.size _ [] rfl HE.out _ l rfl HB.out (by have := HL.out; simp; omega) (gb_size (gb_alloc (.refl w none) _)) ?_; intro v' w' hown hgrow hat; have HO := hid hown; have HG := hid (gb_ownI (gb_alloc (.refl w none) _) HE.out (Nat.le_refl _) hgrow); clear hown hgrow hat)
  go_ret
  have hown := HO.out
  rw [List.nil_append] at hown
  have hI := hown.ints
  obtain ⟨p, k, rfl⟩ := hown.form
  obtain ⟨ab, ao, rfl, -, -, -⟩ := hI.cell HNE.out
  have hb := hown.at ab (by simp [ownL, Value.ownBlock])
  exact ⟨ab, ao, k, rfl, hI, hb.1, hb.2, HG.out⟩
/-- a Law of the call's own -/
def LaMade (w : World) (s : La) (e : Ending) (w' : World) : Prop := ∃ B : LBl, e = .returned (.pointer (some ⟨B.b, 0, none⟩)) ∧ LaAt w' B s ∧ w.grownBy w' none ∧ ∀ x ∈ B.F, w.heap.size ≤ x
theorem lnew_fin {w W : World} {b bc bp bt ao k m wp : Nat} {tol n : Int} {tg : List Int} {ca : Ca} {po : Po} (hR : W.heap[b]? = some (.cells (laCells ⟨b, bc, bp, bt⟩ ao k m tol 0) 66)) (hI : IntsAt W (.slice (some ⟨bt, ao, none⟩) m k) tg)
    (hc : CaAt W bc ca) (hp : PoAt W bp po) (g : w.grownBy W none) (q0 : bp < wp) (q1 : wp ≤ bt) (q3 : bt < bc) (q4 : bc < b) (qb : w.heap.size ≤ wp) (qbp : w.heap.size ≤ bp) (q2 : bt < W.heap.size) (hl : tg.length = m) (ho : (La.mk tg tol ca po n).Ok) :
    LaAt (W.setCell ⟨b, 4, none⟩ (.int .i64 n)) ⟨b, bc, bp, bt⟩ ⟨tg, tol, ca, po, n⟩ ∧ w.grownBy (W.setCell ⟨b, 4, none⟩ (.int .i64 n)) none ∧ ∀ x ∈ (LBl.mk b bc bp bt).F, w.heap.size ≤ x := by
  subst hl
  have hc2 : Chg [b] W (W.setCell ⟨b, 4, none⟩ (.int .i64 n)) := (chg_refl W [b]).set (.inl (by simp)) _
  refine ⟨⟨⟨ao, k, by rw [at_set hR]; rfl, ints_chg hI hc2 (fun a n c e => by cases e; simp; omega)⟩, hc.chg hc2 (by simp; omega), hp.chg hc2 (by simp; omega), Nat.lt_of_lt_of_le q2 hc2.size, ⟨by show b ≠ bc; omega, by show b ≠ bp; omega, by show b ≠ bt; omega, by show bc ≠ bp; omega, by show bc ≠ bt; omega, by show bp ≠ bt; omega⟩, ho⟩,
    ((chg_grown g []).trans hc2 (fun y hy => by rw [List.mem_singleton] at hy; subst hy; exact .inr (by omega))).free (fun y hy => by cases hy), fun x hx => ?_⟩
  simp only [List.mem_cons, List.mem_singleton, List.not_mem_nil, or_false] at hx
  rcases hx with rfl | rfl | rfl | rfl <;> omega
theorem in_bounds {s : La} (h : s.Ok) : 0 ≤ s.n ∧ s.n ≤ 10000 := La.n_in h
/-- a configuration's Law as it is made -/
@[reducible] def laOf (c : Conf) (m u d : Nat) (first : Int) : La := ⟨tgOf c m, c.tol, ⟨u, d, []⟩, ⟨rt c, [first]⟩, first⟩
set_option maxHeartbeats 3200000 in
theorem lnew_ok (c : Conf) (first : Int) (m u d : Nat) (h0 : ((st22 c).getD ⟨#[]⟩).toList.isEmpty = true) (hm : c.m = (m : Int)) (hu : (u : Int) = c.calmup) (hd : (d : Int) = c.calmdown) (hm1 : 1 ≤ m) (hm4 : m ≤ 4) (hu60 : u ≤ 60) (hd60 : d ≤ 60) (hr : (rt c).may = true) (hi : inR (rt c) first = true) (hok : (laOf c m u d first).Ok) (w : World) :
    Calls Tryz.prog 5 #[cf c, .int .i64 first] w (LaMade w (laOf c m u d first)) := by
  have K := hid (boxc_new w c)
  have MY := hid (cmay_any c)
  rw [h0] at MY
  have PN := hid (ponew_ok c first hr hi)
  have hf : 0 ≤ first ∧ first ≤ 10000 := in_bounds hok
  have e1 : IntKind.i64.wrap first = first := IntWalk.i64_in _ (by omega)
  have HM := hid hm; have HU := hid hu; have HD := hid hd
  have HOK := hid hok
  have HTL := hid (tgOf_len c hm4)
  have hs := fun b u => tarr_h b 7 m hm4 u
  have CL := hid (fun (W : World) (h : W.heap[w.heap.size]? = some (.cells c.cells 28)) => lclone_any _ _ _ (tgOf c m) W (tgOf_at (conf_tg c) h hm4) (by rw [tgOf_len c hm4]; omega) (by rw [tgOf_len c hm4]; omega))
  rw [tgOf_len c hm4] at CL
  unfold laOf at *
  generalize tgOf c m = tg at *
  clear h0 hr hi hok hm1 hf hm hu hd
  go_enter Tryz.func5, Tryz.ntmps5
  go_wp2_with (refine wpList_conf K.out.box rfl rfl rfl rfl ?_)
  refine (MY.out _).mono ?_
  rintro e w1 ⟨rfl, hg⟩
  have K1 := hid (K.out.grown hg); clear hg MY
  go_wp2_with (refine wpList_conf K1.out.box rfl rfl rfl rfl ?_)
  refine (PN.out _).mono ?_
  rintro e zp ⟨bp, rfl, hp, hg, hb⟩
  have KP := hp; have KC := (K1.out.grown hg).box; have G := (K1.out.grown hg).g; have qbp : w.heap.size ≤ bp := Nat.le_trans K1.out.g.size hb; have q0 := hp.lt; have qb := G.size
  clear hp hg hb PN K K1
  generalize w.heap.size = xb at KC CL
  go_wp2_with fail
  refine wp_region_held_drew (S := (fun w' => (w.grownBy w' none) ∧ (w'.heap[xb]? = some (.cells c.cells 28)) ∧ (PoAt w' bp ⟨rt c, [first]⟩))) (by kernel_rfl) ⟨gb_drew G, KC, KP.drew⟩ (fun hHeld => ?_)
  try dsimp only at hHeld
  refine' wpAnyH_take (i := 0) (v := _) rfl (by kernel_rfl) (by kernel_rfl) (by kernel_rfl) (fun _ _ _ h => h) (Or.inl ⟨by rfl, ?_⟩) hHeld ?_
  rotate_left
  · (intro w hSw; (try dsimp only at hSw); go_simp; try with_reducible rfl)
  try simp only [Act.put, List.setIfInBounds_toArray, List.set_cons_zero, List.set_cons_succ, List.getElem_toArray, List.getElem_cons_succ, List.getElem_cons_zero]
  refine' wpAnyH_take (i := 1) (v := _) rfl (by kernel_rfl) (by kernel_rfl) (by kernel_rfl) (fun _ _ _ h => h) (Or.inl ⟨by rfl, ?_⟩) hHeld ?_
  rotate_left
  · (intro w hSw; (try dsimp only at hSw); go_simp; try with_reducible rfl)
  try simp only [Act.put, List.setIfInBounds_toArray, List.set_cons_zero, List.set_cons_succ, List.getElem_toArray, List.getElem_cons_succ, List.getElem_cons_zero]
  refine' wpAnyH_take (i := 2) (v := _) rfl (by kernel_rfl) (by kernel_rfl) (by kernel_rfl) (fun _ _ _ h => h) (Or.inl ⟨by rfl, ?_⟩) hHeld ?_
  rotate_left
  · (intro w hSw; (try dsimp only at hSw); obtain ⟨G, KC, KP⟩ := hSw; have k2 : w.cell? ⟨xb, 2, none⟩ = some (.int .i64 (m : Int)) := (at_cell KC 2).trans (congrArg (fun z => some (Value.int .i64 z)) HM.out); go_simp; try with_reducible rfl)
  try simp only [Act.put, List.setIfInBounds_toArray, List.set_cons_zero, List.set_cons_succ, List.getElem_toArray, List.getElem_cons_succ, List.getElem_cons_zero]
  refine' wpAnyH_take (i := 3) (v := _) rfl (by kernel_rfl) (by kernel_rfl) (by kernel_rfl) (fun _ _ _ h => h) (Or.inl ⟨by rfl, ?_⟩) hHeld ?_
  rotate_left
  · (intro w hSw; (try dsimp only at hSw); go_simp; try with_reducible rfl)
  try simp only [Act.put, List.setIfInBounds_toArray, List.set_cons_zero, List.set_cons_succ, List.getElem_toArray, List.getElem_cons_succ, List.getElem_cons_zero]
  refine' wpAnyH_take (i := 5) (v := _) rfl (by kernel_rfl) (by kernel_rfl) (by kernel_rfl) (fun _ _ _ h => h) (Or.inl ⟨by rfl, ?_⟩) hHeld ?_
  rotate_left
  · (intro w hSw; (try dsimp only at hSw); go_simp; try with_reducible rfl)
  try simp only [Act.put, List.setIfInBounds_toArray, List.set_cons_zero, List.set_cons_succ, List.getElem_toArray, List.getElem_cons_succ, List.getElem_cons_zero]
  refine' wpAnyH_take (i := 6) (v := _) rfl (by kernel_rfl) (by kernel_rfl) (by kernel_rfl) (fun _ _ _ h => h) (Or.inl ⟨by rfl, ?_⟩) hHeld ?_
  rotate_left
  · (intro w hSw; (try dsimp only at hSw); obtain ⟨G, KC, KP⟩ := hSw; have k11 := at_cell KC 11; go_simp; try with_reducible rfl)
  try simp only [Act.put, List.setIfInBounds_toArray, List.set_cons_zero, List.set_cons_succ, List.getElem_toArray, List.getElem_cons_succ, List.getElem_cons_zero]
  refine' wpAnyH_take (i := 7) (v := _) rfl (by kernel_rfl) (by kernel_rfl) (by kernel_rfl) (fun _ _ _ h => h) (Or.inl ⟨by rfl, ?_⟩) hHeld ?_
  rotate_left
  · (intro w hSw; (try dsimp only at hSw); go_simp; try with_reducible rfl)
  try simp only [Act.put, List.setIfInBounds_toArray, List.set_cons_zero, List.set_cons_succ, List.getElem_toArray, List.getElem_cons_succ, List.getElem_cons_zero]
  refine' wpAnyH_take (i := 8) (v := _) rfl (by kernel_rfl) (by kernel_rfl) (by kernel_rfl) (fun _ _ _ h => h) (Or.inl ⟨by rfl, ?_⟩) hHeld ?_
  rotate_left
  · (intro w hSw; (try dsimp only at hSw); obtain ⟨G, KC, KP⟩ := hSw; have k14 := at_cell KC 14; go_simp; try with_reducible rfl)
  try simp only [Act.put, List.setIfInBounds_toArray, List.set_cons_zero, List.set_cons_succ, List.getElem_toArray, List.getElem_cons_succ, List.getElem_cons_zero]
  refine' wpAnyH_take (i := 9) (v := _) rfl (by kernel_rfl) (by kernel_rfl) (by kernel_rfl) (fun _ _ _ h => h) (Or.inl ⟨by rfl, ?_⟩) hHeld ?_
  rotate_left
  · (intro w hSw; (try dsimp only at hSw); go_simp; try with_reducible rfl)
  try simp only [Act.put, List.setIfInBounds_toArray, List.set_cons_zero, List.set_cons_succ, List.getElem_toArray, List.getElem_cons_succ, List.getElem_cons_zero]
  refine' wpAnyH_take (i := 10) (v := _) rfl (by kernel_rfl) (by kernel_rfl) (by kernel_rfl) (fun _ _ _ h => h) (Or.inl ⟨by rfl, ?_⟩) hHeld ?_
  rotate_left
  · (intro w hSw; (try dsimp only at hSw); obtain ⟨G, KC, KP⟩ := hSw; have k15 := at_cell KC 15; go_simp; try with_reducible rfl)
  try simp only [Act.put, List.setIfInBounds_toArray, List.set_cons_zero, List.set_cons_succ, List.getElem_toArray, List.getElem_cons_succ, List.getElem_cons_zero]
  refine' wpAnyH_take (i := 12) (v := _) rfl (by kernel_rfl) (by kernel_rfl) (by kernel_rfl) (fun _ _ _ h => h) (Or.inl ⟨by rfl, ?_⟩) hHeld ?_
  rotate_left
  · (intro w hSw; (try dsimp only at hSw); go_simp; try with_reducible rfl)
  try simp only [Act.put, List.setIfInBounds_toArray, List.set_cons_zero, List.set_cons_succ, List.getElem_toArray, List.getElem_cons_succ, List.getElem_cons_zero]
  refine wpAnyH_ready (rs := [4]) (by kernel_rfl) (by simp) ?_
  refine AllReadyH.cons (o := _) rfl (fun K hK => ?_) AllReadyH.nil
  try simp only [List.getElem_toArray, List.getElem_cons_succ, List.getElem_cons_zero]
  go_simp
  have hH2 := hHeld
  obtain ⟨G, KC, KP⟩ := hH2
  refine ((CL.out _ KC)).mono ?_
  rintro e w1004 ⟨bt, ao, k, rfl, hit, hbt, hlt, hg⟩
  have L4 := hid (show (w.grownBy w1004 none) ∧ (w1004.heap[xb]? = some (.cells c.cells 28)) ∧ (PoAt w1004 bp ⟨rt c, [first]⟩) from ⟨gb_trans G hg (.inl rfl), at_grown KC hg (by simp), KP.grown hg⟩)
  have NIT := hid (show IntsAt w1004 (.slice (some ⟨bt, ao, none⟩) m k) tg from hit)
  have Nq1 := hid (show zp.heap.size ≤ bt from hbt)
  have Nq2 := hid (show bt < w1004.heap.size from hlt)
  clear hHeld hg G KC KP
  go_wp2_with fail
  refine hK.out _ _ ?_ (fun hHeld => ?_)
  · exact L4.out
  clear hK K
  try dsimp only at hHeld
  try simp only [Act.put, List.setIfInBounds_toArray, List.set_cons_zero, List.set_cons_succ, List.getElem_toArray, List.getElem_cons_succ, List.getElem_cons_zero]
  refine held_stronger (S' := fun w' => (fun w' => IntsAt w' (.slice (some ⟨bt, ao, none⟩) m k) tg) w' ∧ ((fun w' => (w.grownBy w' none) ∧ (w'.heap[xb]? = some (.cells c.cells 28)) ∧ (PoAt w' bp ⟨rt c, [first]⟩))) w') (fun _ h => h.2) _ _ _ _ ?_
  replace hHeld := And.intro NIT.out hHeld
  try dsimp only at hHeld
  refine held_stronger (S' := fun w' => (fun w' => zp.heap.size ≤ bt) w' ∧ ((fun w' => (IntsAt w' (.slice (some ⟨bt, ao, none⟩) m k) tg) ∧ (w.grownBy w' none) ∧ (w'.heap[xb]? = some (.cells c.cells 28)) ∧ (PoAt w' bp ⟨rt c, [first]⟩))) w') (fun _ h => h.2) _ _ _ _ ?_
  replace hHeld := And.intro Nq1.out hHeld
  try dsimp only at hHeld
  refine held_stronger (S' := fun w' => (fun w' => bt < w'.heap.size) w' ∧ ((fun w' => (zp.heap.size ≤ bt) ∧ (IntsAt w' (.slice (some ⟨bt, ao, none⟩) m k) tg) ∧ (w.grownBy w' none) ∧ (w'.heap[xb]? = some (.cells c.cells 28)) ∧ (PoAt w' bp ⟨rt c, [first]⟩))) w') (fun _ h => h.2) _ _ _ _ ?_
  replace hHeld := And.intro Nq2.out hHeld
  try dsimp only at hHeld
  refine wpAnyH_ready (rs := [11]) (by kernel_rfl) (by simp) ?_
  refine AllReadyH.cons (o := _) rfl (fun K hK => ?_) AllReadyH.nil
  try simp only [List.getElem_toArray, List.getElem_cons_succ, List.getElem_cons_zero]
  go_simp
  have hH2 := hHeld
  obtain ⟨q2, q1, IT, G, KC, KP⟩ := hH2
  refine ((new_as u d HU.out HD.out hu60 hd60 _)).mono ?_
  rintro e w1011 ⟨bc, rfl, hca, hg, hbc⟩
  have L11 := hid (show (bt < w1011.heap.size) ∧ (zp.heap.size ≤ bt) ∧ (IntsAt w1011 (.slice (some ⟨bt, ao, none⟩) m k) tg) ∧ (w.grownBy w1011 none) ∧ (w1011.heap[xb]? = some (.cells c.cells 28)) ∧ (PoAt w1011 bp ⟨rt c, [first]⟩) from ⟨Nat.lt_of_lt_of_le q2 hg.size, q1, IT.grown hg, gb_trans G hg (.inl rfl), at_grown KC hg (by simp), KP.grown hg⟩)
  have Nq3 := hid (show bt < bc from Nat.lt_of_lt_of_le q2 hbc)
  have Nq4 := hid (show bc < w1011.heap.size from hca.lt)
  have NCA := hid (show CaAt w1011 bc ⟨u, d, []⟩ from hca)
  clear hHeld hg q2 q1 IT G KC KP
  go_wp2_with fail
  refine hK.out _ _ ?_ (fun hHeld => ?_)
  · exact L11.out
  clear hK K
  try dsimp only at hHeld
  try simp only [Act.put, List.setIfInBounds_toArray, List.set_cons_zero, List.set_cons_succ, List.getElem_toArray, List.getElem_cons_succ, List.getElem_cons_zero]
  refine held_stronger (S' := fun w' => (fun w' => bt < bc) w' ∧ ((fun w' => (bt < w'.heap.size) ∧ (zp.heap.size ≤ bt) ∧ (IntsAt w' (.slice (some ⟨bt, ao, none⟩) m k) tg) ∧ (w.grownBy w' none) ∧ (w'.heap[xb]? = some (.cells c.cells 28)) ∧ (PoAt w' bp ⟨rt c, [first]⟩))) w') (fun _ h => h.2) _ _ _ _ ?_
  replace hHeld := And.intro Nq3.out hHeld
  try dsimp only at hHeld
  refine held_stronger (S' := fun w' => (fun w' => bc < w1011.heap.size) w' ∧ ((fun w' => (bt < bc) ∧ (bt < w'.heap.size) ∧ (zp.heap.size ≤ bt) ∧ (IntsAt w' (.slice (some ⟨bt, ao, none⟩) m k) tg) ∧ (w.grownBy w' none) ∧ (w'.heap[xb]? = some (.cells c.cells 28)) ∧ (PoAt w' bp ⟨rt c, [first]⟩))) w') (fun _ h => h.2) _ _ _ _ ?_
  replace hHeld := And.intro Nq4.out hHeld
  try dsimp only at hHeld
  refine held_stronger (S' := fun w' => (fun w' => CaAt w' bc ⟨u, d, []⟩) w' ∧ ((fun w' => (bc < w1011.heap.size) ∧ (bt < bc) ∧ (bt < w'.heap.size) ∧ (zp.heap.size ≤ bt) ∧ (IntsAt w' (.slice (some ⟨bt, ao, none⟩) m k) tg) ∧ (w.grownBy w' none) ∧ (w'.heap[xb]? = some (.cells c.cells 28)) ∧ (PoAt w' bp ⟨rt c, [first]⟩))) w') (fun _ h => h.2) _ _ _ _ ?_
  replace hHeld := And.intro NCA.out hHeld
  try dsimp only at hHeld
  refine' wpAnyH_take (i := 13) (v := _) rfl (by kernel_rfl) (by kernel_rfl) (by kernel_rfl) (fun _ _ _ h => h) (Or.inl ⟨by rfl, ?_⟩) hHeld ?_
  rotate_left
  · (intro w hSw; (try dsimp only at hSw); go_simp; try with_reducible rfl)
  try simp only [Act.put, List.setIfInBounds_toArray, List.set_cons_zero, List.set_cons_succ, List.getElem_toArray, List.getElem_cons_succ, List.getElem_cons_zero]
  refine wpAnyH_ready (rs := [14]) (by kernel_rfl) (by simp) ?_
  refine AllReadyH.cons (o := _) rfl (fun K hK => ?_) AllReadyH.nil
  have hH2 := hHeld
  obtain ⟨CA, q4, q3, q2, q1, IT, G, KC, KP⟩ := hH2
  have hg : w1011.grownBy (w1011.alloc (.cells (laCells ⟨w1011.heap.size, bc, bp, bt⟩ ao k m c.tol 0) 66)) none := World.grownBy_alloc _ _ _
  have L14 := hid (show (CaAt ((w1011.alloc (.cells (laCells ⟨w1011.heap.size, bc, bp, bt⟩ ao k m c.tol 0) 66))) bc ⟨u, d, []⟩) ∧ (bc < w1011.heap.size) ∧ (bt < bc) ∧ (bt < ((w1011.alloc (.cells (laCells ⟨w1011.heap.size, bc, bp, bt⟩ ao k m c.tol 0) 66))).heap.size) ∧ (zp.heap.size ≤ bt) ∧ (IntsAt ((w1011.alloc (.cells (laCells ⟨w1011.heap.size, bc, bp, bt⟩ ao k m c.tol 0) 66))) (.slice (some ⟨bt, ao, none⟩) m k) tg) ∧ (w.grownBy ((w1011.alloc (.cells (laCells ⟨w1011.heap.size, bc, bp, bt⟩ ao k m c.tol 0) 66))) none) ∧ (((w1011.alloc (.cells (laCells ⟨w1011.heap.size, bc, bp, bt⟩ ao k m c.tol 0) 66))).heap[xb]? = some (.cells c.cells 28)) ∧ (PoAt ((w1011.alloc (.cells (laCells ⟨w1011.heap.size, bc, bp, bt⟩ ao k m c.tol 0) 66))) bp ⟨rt c, [first]⟩) from ⟨CA.grown hg, q4, q3, Nat.lt_of_lt_of_le q2 hg.size, q1, IT.grown hg, gb_trans G hg (.inl rfl), at_grown KC hg (by simp), KP.grown hg⟩)
  have NRW := hid (show ((w1011.alloc (.cells (laCells ⟨w1011.heap.size, bc, bp, bt⟩ ao k m c.tol 0) 66))).heap[w1011.heap.size]? = some (.cells (laCells ⟨w1011.heap.size, bc, bp, bt⟩ ao k m c.tol 0) 66) from at_new _ _)
  clear hHeld hg CA q4 q3 q2 q1 IT G KC KP
  try simp only [List.getElem_toArray, List.getElem_cons_succ, List.getElem_cons_zero]
  go_simp
  refine hK.out _ _ ?_ (fun hHeld => ?_)
  · exact L14.out
  clear hK K
  try dsimp only at hHeld
  try simp only [Act.put, List.setIfInBounds_toArray, List.set_cons_zero, List.set_cons_succ, List.getElem_toArray, List.getElem_cons_succ, List.getElem_cons_zero]
  refine held_stronger (S' := fun w' => (fun w' => w'.heap[w1011.heap.size]? = some (.cells (laCells ⟨w1011.heap.size, bc, bp, bt⟩ ao k m c.tol 0) 66)) w' ∧ ((fun w' => (CaAt w' bc ⟨u, d, []⟩) ∧ (bc < w1011.heap.size) ∧ (bt < bc) ∧ (bt < w'.heap.size) ∧ (zp.heap.size ≤ bt) ∧ (IntsAt w' (.slice (some ⟨bt, ao, none⟩) m k) tg) ∧ (w.grownBy w' none) ∧ (w'.heap[xb]? = some (.cells c.cells 28)) ∧ (PoAt w' bp ⟨rt c, [first]⟩))) w') (fun _ h => h.2) _ _ _ _ ?_
  replace hHeld := And.intro NRW.out hHeld
  try dsimp only at hHeld
  refine' wpAnyH_take (i := 15) (v := _) rfl (by kernel_rfl) (by kernel_rfl) (by kernel_rfl) (fun _ _ _ h => h) (Or.inl ⟨by rfl, ?_⟩) hHeld ?_
  rotate_left
  · (intro w hSw; (try dsimp only at hSw); go_simp; try with_reducible rfl)
  try simp only [Act.put, List.setIfInBounds_toArray, List.set_cons_zero, List.set_cons_succ, List.getElem_toArray, List.getElem_cons_succ, List.getElem_cons_zero]
  refine wpAnyH_done (by kernel_rfl) ?_ _
  obtain ⟨RW, CA, q4, q3, q2, q1, IT, G, KC, KP⟩ := hHeld
  generalize hWB : w1011.alloc (.cells (laCells ⟨w1011.heap.size, bc, bp, bt⟩ ao k m c.tol 0) 66) = WB at *
  generalize w1011.heap.size = bb at *
  have FIN := hid (lnew_fin (n := first) RW IT CA KP G q0 q1 q3 q4 qb qbp q2 HTL.out HOK.out)
  clear hWB
  have S0 := hid (store_i64 _ first _ _ (at_cell RW 4) (at_free RW 4))
  clear G KC KP IT q1 q2 q3 q4 CA RW
  go_wp2_with fail
  refine S0.out.mono ?_
  rintro e w9 ⟨rfl, rfl⟩
  go_wp2_with fail
  go_ret
  exact ⟨⟨bb, bc, bp, bt⟩, rfl, FIN.out.1, FIN.out.2.1, FIN.out.2.2⟩
end Go.Proofs.YthobbekocimcnaaGreat
end
section
set_option linter.unusedSimpArgs false
namespace Go.Proofs.YthobbekocimcnaaGreat
set_option maxRecDepth 100000
open Go.RowKit

theorem third {n f : Int} (h1 : 1 ≤ n) (h2 : n ≤ 16) : cwithin f 0 (wrap64 ((wrap64 (n - 1)).tdiv 3)) = (decide (0 ≤ f) && decide (3 * f + 1 ≤ n)) := by
  rw [wrap_small (x := n - 1) (by omega) (by omega), Int.tdiv_eq_ediv_of_nonneg (by omega), wrap_small (by omega) (by omega)]
  unfold cwithin
  congr 1
  rw [decide_eq_decide]
  omega
theorem no1 {c : Conf} (hb : cwithin c.n 1 16 = false) : st22 c = some ⟨#[110]⟩ := by
  have h1 : st1 c = some ⟨#[110]⟩ := by unfold st1; rw [hb]; rfl
  simp only [st2, st3, st4, st5, st6, st7, st8, st9, st10, st11, st12, st13, st14, st15, st16, st17, st18, st19, st20, st21, st22, h1, ask1]
theorem ok1 {c : Conf} (hb : cwithin c.n 1 16 = true) : st1 c = none := by unfold st1; rw [hb]; rfl
theorem no2 {c : Conf} (h : st1 c = none) (hb : cwithin c.f 0 (wrap64 ((wrap64 (c.n - 1)).tdiv 3)) = false) : st22 c = some ⟨#[102]⟩ := by
  have h1 : st2 c = some ⟨#[102]⟩ := by unfold st2; rw [h, hb]; rfl
  simp only [st3, st4, st5, st6, st7, st8, st9, st10, st11, st12, st13, st14, st15, st16, st17, st18, st19, st20, st21, st22, h1, ask1]
theorem ok2 {c : Conf} (h : st1 c = none) (hb : cwithin c.f 0 (wrap64 ((wrap64 (c.n - 1)).tdiv 3)) = true) : st2 c = none := by unfold st2; rw [h, hb]; rfl
theorem no3 {c : Conf} (h : st2 c = none) (hb : cwithin c.m 1 4 = false) : st22 c = some ⟨#[109]⟩ := by
  have h1 : st3 c = some ⟨#[109]⟩ := by unfold st3; rw [h, hb]; rfl
  simp only [st4, st5, st6, st7, st8, st9, st10, st11, st12, st13, st14, st15, st16, st17, st18, st19, st20, st21, st22, h1, ask1]
theorem ok3 {c : Conf} (h : st2 c = none) (hb : cwithin c.m 1 4 = true) : st3 c = none := by unfold st3; rw [h, hb]; rfl
theorem no4 {c : Conf} (h : st3 c = none) (hb : cwithin c.quorum (wrap64 (wrap64 (2 * c.f) + 1)) c.n = false) : st22 c = some ⟨#[113, 117, 111, 114, 117, 109]⟩ := by
  have h1 : st4 c = some ⟨#[113, 117, 111, 114, 117, 109]⟩ := by unfold st4; rw [h, hb]; rfl
  simp only [st5, st6, st7, st8, st9, st10, st11, st12, st13, st14, st15, st16, st17, st18, st19, st20, st21, st22, h1, ask1]
theorem ok4 {c : Conf} (h : st3 c = none) (hb : cwithin c.quorum (wrap64 (wrap64 (2 * c.f) + 1)) c.n = true) : st4 c = none := by unfold st4; rw [h, hb]; rfl
theorem no5 {c : Conf} (h : st4 c = none) (hb : cwithin c.fresh 1 8 = false) : st22 c = some ⟨#[102, 114, 101, 115, 104]⟩ := by
  have h1 : st5 c = some ⟨#[102, 114, 101, 115, 104]⟩ := by unfold st5; rw [h, hb]; rfl
  simp only [st6, st7, st8, st9, st10, st11, st12, st13, st14, st15, st16, st17, st18, st19, st20, st21, st22, h1, ask1]
theorem ok5 {c : Conf} (h : st4 c = none) (hb : cwithin c.fresh 1 8 = true) : st5 c = none := by unfold st5; rw [h, hb]; rfl
theorem no6 {c : Conf} (h : st5 c = none) (hb : cwithin c.grace 1 100 = false) : st22 c = some ⟨#[103, 114, 97, 99, 101]⟩ := by
  have h1 : st6 c = some ⟨#[103, 114, 97, 99, 101]⟩ := by unfold st6; rw [h, hb]; rfl
  simp only [st7, st8, st9, st10, st11, st12, st13, st14, st15, st16, st17, st18, st19, st20, st21, st22, h1, ask1]
theorem ok6 {c : Conf} (h : st5 c = none) (hb : cwithin c.grace 1 100 = true) : st6 c = none := by unfold st6; rw [h, hb]; rfl
theorem no7 {c : Conf} (h : st6 c = none) (hb : cwithin c.window 1 64 = false) : st22 c = some ⟨#[119, 105, 110, 100, 111, 119]⟩ := by
  have h1 : st7 c = some ⟨#[119, 105, 110, 100, 111, 119]⟩ := by unfold st7; rw [h, hb]; rfl
  simp only [st8, st9, st10, st11, st12, st13, st14, st15, st16, st17, st18, st19, st20, st21, st22, h1, ask1]
theorem ok7 {c : Conf} (h : st6 c = none) (hb : cwithin c.window 1 64 = true) : st7 c = none := by unfold st7; rw [h, hb]; rfl
theorem no8 {c : Conf} (h : st7 c = none) (hb : tgts c.m c.t0 c.t1 c.t2 c.t3 = false) : st22 c = some ⟨#[116, 97, 114, 103, 101, 116]⟩ := by
  have h1 : st8 c = some ⟨#[116, 97, 114, 103, 101, 116]⟩ := by unfold st8; rw [h, hb]; rfl
  simp only [st9, st10, st11, st12, st13, st14, st15, st16, st17, st18, st19, st20, st21, st22, h1, ask1]
theorem ok8 {c : Conf} (h : st7 c = none) (hb : tgts c.m c.t0 c.t1 c.t2 c.t3 = true) : st8 c = none := by unfold st8; rw [h, hb]; rfl
theorem no9 {c : Conf} (h : st8 c = none) (hb : cwithin c.tol 0 1000 = false) : st22 c = some ⟨#[116, 111, 108]⟩ := by
  have h1 : st9 c = some ⟨#[116, 111, 108]⟩ := by unfold st9; rw [h, hb]; rfl
  simp only [st10, st11, st12, st13, st14, st15, st16, st17, st18, st19, st20, st21, st22, h1, ask1]
theorem ok9 {c : Conf} (h : st8 c = none) (hb : cwithin c.tol 0 1000 = true) : st9 c = none := by unfold st9; rw [h, hb]; rfl
theorem no10 {c : Conf} (h : st9 c = none) (hb : cwithin c.min 1 10000 = false) : st22 c = some ⟨#[109, 105, 110]⟩ := by
  have h1 : st10 c = some ⟨#[109, 105, 110]⟩ := by unfold st10; rw [h, hb]; rfl
  simp only [st11, st12, st13, st14, st15, st16, st17, st18, st19, st20, st21, st22, h1, ask1]
theorem ok10 {c : Conf} (h : st9 c = none) (hb : cwithin c.min 1 10000 = true) : st10 c = none := by unfold st10; rw [h, hb]; rfl
theorem no11 {c : Conf} (h : st10 c = none) (hb : cwithin c.max c.min 10000 = false) : st22 c = some ⟨#[109, 97, 120]⟩ := by
  have h1 : st11 c = some ⟨#[109, 97, 120]⟩ := by unfold st11; rw [h, hb]; rfl
  simp only [st12, st13, st14, st15, st16, st17, st18, st19, st20, st21, st22, h1, ask1]
theorem ok11 {c : Conf} (h : st10 c = none) (hb : cwithin c.max c.min 10000 = true) : st11 c = none := by unfold st11; rw [h, hb]; rfl
theorem no12 {c : Conf} (h : st11 c = none) (hb : cwithin c.calmup 0 60 = false) : st22 c = some ⟨#[99, 97, 108, 109, 117, 112]⟩ := by
  have h1 : st12 c = some ⟨#[99, 97, 108, 109, 117, 112]⟩ := by unfold st12; rw [h, hb]; rfl
  simp only [st13, st14, st15, st16, st17, st18, st19, st20, st21, st22, h1, ask1]
theorem ok12 {c : Conf} (h : st11 c = none) (hb : cwithin c.calmup 0 60 = true) : st12 c = none := by unfold st12; rw [h, hb]; rfl
theorem no13 {c : Conf} (h : st12 c = none) (hb : cwithin c.calmdown 0 60 = false) : st22 c = some ⟨#[99, 97, 108, 109, 100, 111, 119, 110]⟩ := by
  have h1 : st13 c = some ⟨#[99, 97, 108, 109, 100, 111, 119, 110]⟩ := by unfold st13; rw [h, hb]; rfl
  simp only [st14, st15, st16, st17, st18, st19, st20, st21, st22, h1, ask1]
theorem ok13 {c : Conf} (h : st12 c = none) (hb : cwithin c.calmdown 0 60 = true) : st13 c = none := by unfold st13; rw [h, hb]; rfl
theorem no14 {c : Conf} (h : st13 c = none) (hb : cwithin c.podsup 1 1000 = false) : st22 c = some ⟨#[112, 111, 100, 115, 117, 112]⟩ := by
  have h1 : st14 c = some ⟨#[112, 111, 100, 115, 117, 112]⟩ := by unfold st14; rw [h, hb]; rfl
  simp only [st15, st16, st17, st18, st19, st20, st21, st22, h1, ask1]
theorem ok14 {c : Conf} (h : st13 c = none) (hb : cwithin c.podsup 1 1000 = true) : st14 c = none := by unfold st14; rw [h, hb]; rfl
theorem no15 {c : Conf} (h : st14 c = none) (hb : cwithin c.pctup 1 1000 = false) : st22 c = some ⟨#[112, 99, 116, 117, 112]⟩ := by
  have h1 : st15 c = some ⟨#[112, 99, 116, 117, 112]⟩ := by unfold st15; rw [h, hb]; rfl
  simp only [st16, st17, st18, st19, st20, st21, st22, h1, ask1]
theorem ok15 {c : Conf} (h : st14 c = none) (hb : cwithin c.pctup 1 1000 = true) : st15 c = none := by unfold st15; rw [h, hb]; rfl
theorem no16 {c : Conf} (h : st15 c = none) (hb : cwithin c.podsdown 1 1000 = false) : st22 c = some ⟨#[112, 111, 100, 115, 100, 111, 119, 110]⟩ := by
  have h1 : st16 c = some ⟨#[112, 111, 100, 115, 100, 111, 119, 110]⟩ := by unfold st16; rw [h, hb]; rfl
  simp only [st17, st18, st19, st20, st21, st22, h1, ask1]
theorem ok16 {c : Conf} (h : st15 c = none) (hb : cwithin c.podsdown 1 1000 = true) : st16 c = none := by unfold st16; rw [h, hb]; rfl
theorem no17 {c : Conf} (h : st16 c = none) (hb : cwithin c.pctdown 1 100 = false) : st22 c = some ⟨#[112, 99, 116, 100, 111, 119, 110]⟩ := by
  have h1 : st17 c = some ⟨#[112, 99, 116, 100, 111, 119, 110]⟩ := by unfold st17; rw [h, hb]; rfl
  simp only [st18, st19, st20, st21, st22, h1, ask1]
theorem ok17 {c : Conf} (h : st16 c = none) (hb : cwithin c.pctdown 1 100 = true) : st17 c = none := by unfold st17; rw [h, hb]; rfl
theorem no18 {c : Conf} (h : st17 c = none) (hb : cwithin c.period 1 60 = false) : st22 c = some ⟨#[112, 101, 114, 105, 111, 100]⟩ := by
  have h1 : st18 c = some ⟨#[112, 101, 114, 105, 111, 100]⟩ := by unfold st18; rw [h, hb]; rfl
  simp only [st19, st20, st21, st22, h1, ask1]
theorem ok18 {c : Conf} (h : st17 c = none) (hb : cwithin c.period 1 60 = true) : st18 c = none := by unfold st18; rw [h, hb]; rfl
theorem no19 {c : Conf} (h : st18 c = none) (hb : cwithin c.far 0 1099511627776 = false) : st22 c = some ⟨#[102, 97, 114]⟩ := by
  have h1 : st19 c = some ⟨#[102, 97, 114]⟩ := by unfold st19; rw [h, hb]; rfl
  simp only [st20, st21, st22, h1, ask1]
theorem ok19 {c : Conf} (h : st18 c = none) (hb : cwithin c.far 0 1099511627776 = true) : st19 c = none := by unfold st19; rw [h, hb]; rfl
theorem no20 {c : Conf} (h : st19 c = none) (hb : cwithin c.strikes 1 100 = false) : st22 c = some ⟨#[115, 116, 114, 105, 107, 101, 115]⟩ := by
  have h1 : st20 c = some ⟨#[115, 116, 114, 105, 107, 101, 115]⟩ := by unfold st20; rw [h, hb]; rfl
  simp only [st21, st22, h1, ask1]
theorem ok20 {c : Conf} (h : st19 c = none) (hb : cwithin c.strikes 1 100 = true) : st20 c = none := by unfold st20; rw [h, hb]; rfl
theorem no21 {c : Conf} (h : st20 c = none) (hb : cwithin c.probe 1 100 = false) : st22 c = some ⟨#[112, 114, 111, 98, 101]⟩ := by
  have h1 : st21 c = some ⟨#[112, 114, 111, 98, 101]⟩ := by unfold st21; rw [h, hb]; rfl
  simp only [st22, h1, ask1]
theorem ok21 {c : Conf} (h : st20 c = none) (hb : cwithin c.probe 1 100 = true) : st21 c = none := by unfold st21; rw [h, hb]; rfl
theorem no22 {c : Conf} (h : st21 c = none) (hb : cwithin c.sectors 64 4096 = false) : st22 c = some ⟨#[115, 101, 99, 116, 111, 114, 115]⟩ := by
  have h1 : st22 c = some ⟨#[115, 101, 99, 116, 111, 114, 115]⟩ := by unfold st22; rw [h, hb]; rfl
  exact h1
theorem ok22 {c : Conf} (h : st21 c = none) (hb : cwithin c.sectors 64 4096 = true) : st22 c = none := by unfold st22; rw [h, hb]; rfl

set_option maxHeartbeats 6400000 in
theorem refwrong_any (c : Conf) (w : World) :
    Calls Tryz.prog 47 #[cf c] w fun e w' => e = .returned (.string ((st22 c).getD ⟨#[]⟩)) ∧ w.grownBy w' none := by
  have h0 := boxc_new w c
  have H0 := hid h0; clear h0
  obtain ⟨s, hs⟩ : ∃ s, s = st22 c := ⟨_, rfl⟩
  rw [← hs]
  have HS := hid hs; clear hs
  go_enter Tryz.func47, Tryz.ntmps47
  have z0 : (w.alloc (.cells c.cells 28)).cell? ⟨w.heap.size, 0, none⟩ = some (.int .i64 c.n) := at_cell H0.out.box 0
  go_wp2_with fail
  refine (cin_any _ _ _ _).mono ?_
  rintro e v1 ⟨rfl, hv⟩
  subst v1
  clear z0
  by_cases hb : cwithin c.n 1 16 = true
  rotate_left
  · have hb' : cwithin c.n 1 16 = false := by simpa using hb
    have R := hid (HS.out.trans (no1 hb'))
    clear hb
    go_wp2_with fail
    go_ret
    exact ⟨by rw [R.out]; rfl, H0.out.g⟩
  have S1 := hid (ok1 hb)
  have B1 := hid hb; have hb1 := hb; clear hb
  have hN : 1 ≤ c.n ∧ c.n ≤ 16 := by have := B1.out; simpa [cwithin] using this
  have z1 : (w.alloc (.cells c.cells 28)).cell? ⟨w.heap.size, 1, none⟩ = some (.int .i64 c.f) := at_cell H0.out.box 1
  have z0 : (w.alloc (.cells c.cells 28)).cell? ⟨w.heap.size, 0, none⟩ = some (.int .i64 c.n) := at_cell H0.out.box 0
  by_cases hb : cwithin c.f 0 (wrap64 ((wrap64 (c.n - 1)).tdiv 3)) = true
  rotate_left
  · have hb' : cwithin c.f 0 (wrap64 ((wrap64 (c.n - 1)).tdiv 3)) = false := by simpa using hb
    have R := hid (HS.out.trans (no2 S1.out hb'))
    rw [third hN.1 hN.2] at hb'
    clear hb
    by_cases hf : c.f < 0
    · clear hb'
      go_wp2_with fail
      go_ret
      exact ⟨by rw [R.out]; rfl, H0.out.g⟩
    · by_cases hf5 : 5 < c.f
      · clear hb'
        go_wp2_with fail
        go_ret
        exact ⟨by rw [R.out]; rfl, H0.out.g⟩
      · have h3 : c.n < 3 * c.f + 1 := by simp at hb'; omega
        have hw1 : wrap64 (3 * c.f) = 3 * c.f := wrap_small (by omega) (by omega)
        have hw2 : wrap64 (3 * c.f + 1) = 3 * c.f + 1 := wrap_small (by omega) (by omega)
        clear hb'
        go_wp2_with fail
        go_ret
        exact ⟨by rw [R.out]; rfl, H0.out.g⟩
  have S2 := hid (ok2 S1.out hb); clear S1
  rw [third hN.1 hN.2] at hb
  have hf : 0 ≤ c.f ∧ 3 * c.f + 1 ≤ c.n := by simpa using hb
  have hw1 : wrap64 (3 * c.f) = 3 * c.f := wrap_small (by omega) (by omega)
  have hw2 : wrap64 (3 * c.f + 1) = 3 * c.f + 1 := wrap_small (by omega) (by omega)
  have e1 : ¬ c.f < 0 := by omega
  have e2 : ¬ 5 < c.f := by omega
  have e3 : ¬ c.n < 3 * c.f + 1 := by omega
  clear hb
  have F2 := hid hf; clear hf hN
  go_wp2_with fail
  clear hb1 e1 e2 e3 hw1 hw2 z0 z1
  have z2 : (w.alloc (.cells c.cells 28)).cell? ⟨w.heap.size, 2, none⟩ = some (.int .i64 c.m) := at_cell H0.out.box 2
  go_wp2_with fail
  refine (cin_any _ _ _ _).mono ?_
  rintro e v3 ⟨rfl, hv⟩
  subst v3
  clear z2
  by_cases hb : cwithin c.m 1 4 = true
  rotate_left
  · have hb' : cwithin c.m 1 4 = false := by simpa using hb
    have R := hid (HS.out.trans (no3 S2.out hb'))
    clear hb
    go_wp2_with fail
    go_ret
    exact ⟨by rw [R.out]; rfl, H0.out.g⟩
  have S3 := hid (ok3 S2.out hb); clear S2
  have hb1 := hb; clear hb
  have z3 : (w.alloc (.cells c.cells 28)).cell? ⟨w.heap.size, 3, none⟩ = some (.int .i64 c.quorum) := at_cell H0.out.box 3
  have z1 : (w.alloc (.cells c.cells 28)).cell? ⟨w.heap.size, 1, none⟩ = some (.int .i64 c.f) := at_cell H0.out.box 1
  have z0 : (w.alloc (.cells c.cells 28)).cell? ⟨w.heap.size, 0, none⟩ = some (.int .i64 c.n) := at_cell H0.out.box 0
  go_wp2_with fail
  clear hb1
  refine (cin_any _ _ _ _).mono ?_
  rintro e v4 ⟨rfl, hv⟩
  subst v4
  clear z3 z1 z0
  have hLO : wrap64 (wrap64 (2 * c.f) + 1) = 2 * c.f + 1 := by have := F2.out; have hn := B1.out; simp [cwithin] at hn; rw [wrap_small (x := 2 * c.f) (by omega) (by omega), wrap_small (by omega) (by omega)]
  by_cases hb : cwithin c.quorum (wrap64 (wrap64 (2 * c.f) + 1)) c.n = true
  rotate_left
  · have hb' : cwithin c.quorum (wrap64 (wrap64 (2 * c.f) + 1)) c.n = false := by simpa using hb
    have R := hid (HS.out.trans (no4 S3.out hb'))
    rw [hLO] at hb'; clear hLO; clear hb
    go_wp2_with fail
    go_ret
    exact ⟨by rw [R.out]; rfl, H0.out.g⟩
  have S4 := hid (ok4 S3.out hb); clear S3
  rw [hLO] at hb; clear hLO
  have hb1 := hb; clear hb
  have z4 : (w.alloc (.cells c.cells 28)).cell? ⟨w.heap.size, 4, none⟩ = some (.int .i64 c.fresh) := at_cell H0.out.box 4
  go_wp2_with fail
  clear hb1
  refine (cin_any _ _ _ _).mono ?_
  rintro e v5 ⟨rfl, hv⟩
  subst v5
  clear z4
  by_cases hb : cwithin c.fresh 1 8 = true
  rotate_left
  · have hb' : cwithin c.fresh 1 8 = false := by simpa using hb
    have R := hid (HS.out.trans (no5 S4.out hb'))
    clear hb
    go_wp2_with fail
    go_ret
    exact ⟨by rw [R.out]; rfl, H0.out.g⟩
  have S5 := hid (ok5 S4.out hb); clear S4
  have hb1 := hb; clear hb
  have z5 : (w.alloc (.cells c.cells 28)).cell? ⟨w.heap.size, 5, none⟩ = some (.int .i64 c.grace) := at_cell H0.out.box 5
  go_wp2_with fail
  clear hb1
  refine (cin_any _ _ _ _).mono ?_
  rintro e v6 ⟨rfl, hv⟩
  subst v6
  clear z5
  by_cases hb : cwithin c.grace 1 100 = true
  rotate_left
  · have hb' : cwithin c.grace 1 100 = false := by simpa using hb
    have R := hid (HS.out.trans (no6 S5.out hb'))
    clear hb
    go_wp2_with fail
    go_ret
    exact ⟨by rw [R.out]; rfl, H0.out.g⟩
  have S6 := hid (ok6 S5.out hb); clear S5
  have hb1 := hb; clear hb
  have z6 : (w.alloc (.cells c.cells 28)).cell? ⟨w.heap.size, 6, none⟩ = some (.int .i64 c.window) := at_cell H0.out.box 6
  go_wp2_with fail
  clear hb1
  refine (cin_any _ _ _ _).mono ?_
  rintro e v7 ⟨rfl, hv⟩
  subst v7
  clear z6
  by_cases hb : cwithin c.window 1 64 = true
  rotate_left
  · have hb' : cwithin c.window 1 64 = false := by simpa using hb
    have R := hid (HS.out.trans (no7 S6.out hb'))
    clear hb
    go_wp2_with fail
    go_ret
    exact ⟨by rw [R.out]; rfl, H0.out.g⟩
  have S7 := hid (ok7 S6.out hb); clear S6
  have hb1 := hb; clear hb
  go_wp2_with (refine wpList_conf H0.out.box rfl rfl rfl rfl ?_)
  clear hb1
  refine (reftargets_any c _).mono ?_
  rintro e v8 ⟨rfl, hg⟩
  have HB := hid (H0.out.grown hg); clear hg H0 
  by_cases hb : tgts c.m c.t0 c.t1 c.t2 c.t3 = true
  rotate_left
  · have hb' : tgts c.m c.t0 c.t1 c.t2 c.t3 = false := by simpa using hb
    have R := hid (HS.out.trans (no8 S7.out hb'))
    clear hb
    go_wp2_with fail
    go_ret
    exact ⟨by rw [R.out]; rfl, HB.out.g⟩
  have S8 := hid (ok8 S7.out hb); clear S7
  have hb1 := hb; clear hb
  have z11 : v8.cell? ⟨w.heap.size, 11, none⟩ = some (.int .i64 c.tol) := at_cell HB.out.box 11
  go_wp2_with fail
  clear hb1
  refine (cin_any _ _ _ _).mono ?_
  rintro e v9 ⟨rfl, hv⟩
  subst v9
  clear z11
  by_cases hb : cwithin c.tol 0 1000 = true
  rotate_left
  · have hb' : cwithin c.tol 0 1000 = false := by simpa using hb
    have R := hid (HS.out.trans (no9 S8.out hb'))
    clear hb
    go_wp2_with fail
    go_ret
    exact ⟨by rw [R.out]; rfl, HB.out.g⟩
  have S9 := hid (ok9 S8.out hb); clear S8
  have hb1 := hb; clear hb
  have z12 : v8.cell? ⟨w.heap.size, 12, none⟩ = some (.int .i64 c.min) := at_cell HB.out.box 12
  go_wp2_with fail
  clear hb1
  refine (cin_any _ _ _ _).mono ?_
  rintro e v10 ⟨rfl, hv⟩
  subst v10
  clear z12
  by_cases hb : cwithin c.min 1 10000 = true
  rotate_left
  · have hb' : cwithin c.min 1 10000 = false := by simpa using hb
    have R := hid (HS.out.trans (no10 S9.out hb'))
    clear hb
    go_wp2_with fail
    go_ret
    exact ⟨by rw [R.out]; rfl, HB.out.g⟩
  have S10 := hid (ok10 S9.out hb); clear S9
  have hb1 := hb; clear hb
  have z13 : v8.cell? ⟨w.heap.size, 13, none⟩ = some (.int .i64 c.max) := at_cell HB.out.box 13
  have z12 : v8.cell? ⟨w.heap.size, 12, none⟩ = some (.int .i64 c.min) := at_cell HB.out.box 12
  go_wp2_with fail
  clear hb1
  refine (cin_any _ _ _ _).mono ?_
  rintro e v11 ⟨rfl, hv⟩
  subst v11
  clear z13 z12
  by_cases hb : cwithin c.max c.min 10000 = true
  rotate_left
  · have hb' : cwithin c.max c.min 10000 = false := by simpa using hb
    have R := hid (HS.out.trans (no11 S10.out hb'))
    clear hb
    go_wp2_with fail
    go_ret
    exact ⟨by rw [R.out]; rfl, HB.out.g⟩
  have S11 := hid (ok11 S10.out hb); clear S10
  have hb1 := hb; clear hb
  have z14 : v8.cell? ⟨w.heap.size, 14, none⟩ = some (.int .i64 c.calmup) := at_cell HB.out.box 14
  go_wp2_with fail
  clear hb1
  refine (cin_any _ _ _ _).mono ?_
  rintro e v12 ⟨rfl, hv⟩
  subst v12
  clear z14
  by_cases hb : cwithin c.calmup 0 60 = true
  rotate_left
  · have hb' : cwithin c.calmup 0 60 = false := by simpa using hb
    have R := hid (HS.out.trans (no12 S11.out hb'))
    clear hb
    go_wp2_with fail
    go_ret
    exact ⟨by rw [R.out]; rfl, HB.out.g⟩
  have S12 := hid (ok12 S11.out hb); clear S11
  have hb1 := hb; clear hb
  have z15 : v8.cell? ⟨w.heap.size, 15, none⟩ = some (.int .i64 c.calmdown) := at_cell HB.out.box 15
  go_wp2_with fail
  clear hb1
  refine (cin_any _ _ _ _).mono ?_
  rintro e v13 ⟨rfl, hv⟩
  subst v13
  clear z15
  by_cases hb : cwithin c.calmdown 0 60 = true
  rotate_left
  · have hb' : cwithin c.calmdown 0 60 = false := by simpa using hb
    have R := hid (HS.out.trans (no13 S12.out hb'))
    clear hb
    go_wp2_with fail
    go_ret
    exact ⟨by rw [R.out]; rfl, HB.out.g⟩
  have S13 := hid (ok13 S12.out hb); clear S12
  have hb1 := hb; clear hb
  have z16 : v8.cell? ⟨w.heap.size, 16, none⟩ = some (.int .i64 c.podsup) := at_cell HB.out.box 16
  go_wp2_with fail
  clear hb1
  refine (cin_any _ _ _ _).mono ?_
  rintro e v14 ⟨rfl, hv⟩
  subst v14
  clear z16
  by_cases hb : cwithin c.podsup 1 1000 = true
  rotate_left
  · have hb' : cwithin c.podsup 1 1000 = false := by simpa using hb
    have R := hid (HS.out.trans (no14 S13.out hb'))
    clear hb
    go_wp2_with fail
    go_ret
    exact ⟨by rw [R.out]; rfl, HB.out.g⟩
  have S14 := hid (ok14 S13.out hb); clear S13
  have hb1 := hb; clear hb
  have z17 : v8.cell? ⟨w.heap.size, 17, none⟩ = some (.int .i64 c.pctup) := at_cell HB.out.box 17
  go_wp2_with fail
  clear hb1
  refine (cin_any _ _ _ _).mono ?_
  rintro e v15 ⟨rfl, hv⟩
  subst v15
  clear z17
  by_cases hb : cwithin c.pctup 1 1000 = true
  rotate_left
  · have hb' : cwithin c.pctup 1 1000 = false := by simpa using hb
    have R := hid (HS.out.trans (no15 S14.out hb'))
    clear hb
    go_wp2_with fail
    go_ret
    exact ⟨by rw [R.out]; rfl, HB.out.g⟩
  have S15 := hid (ok15 S14.out hb); clear S14
  have hb1 := hb; clear hb
  have z18 : v8.cell? ⟨w.heap.size, 18, none⟩ = some (.int .i64 c.podsdown) := at_cell HB.out.box 18
  go_wp2_with fail
  clear hb1
  refine (cin_any _ _ _ _).mono ?_
  rintro e v16 ⟨rfl, hv⟩
  subst v16
  clear z18
  by_cases hb : cwithin c.podsdown 1 1000 = true
  rotate_left
  · have hb' : cwithin c.podsdown 1 1000 = false := by simpa using hb
    have R := hid (HS.out.trans (no16 S15.out hb'))
    clear hb
    go_wp2_with fail
    go_ret
    exact ⟨by rw [R.out]; rfl, HB.out.g⟩
  have S16 := hid (ok16 S15.out hb); clear S15
  have hb1 := hb; clear hb
  have z19 : v8.cell? ⟨w.heap.size, 19, none⟩ = some (.int .i64 c.pctdown) := at_cell HB.out.box 19
  go_wp2_with fail
  clear hb1
  refine (cin_any _ _ _ _).mono ?_
  rintro e v17 ⟨rfl, hv⟩
  subst v17
  clear z19
  by_cases hb : cwithin c.pctdown 1 100 = true
  rotate_left
  · have hb' : cwithin c.pctdown 1 100 = false := by simpa using hb
    have R := hid (HS.out.trans (no17 S16.out hb'))
    clear hb
    go_wp2_with fail
    go_ret
    exact ⟨by rw [R.out]; rfl, HB.out.g⟩
  have S17 := hid (ok17 S16.out hb); clear S16
  have hb1 := hb; clear hb
  have z20 : v8.cell? ⟨w.heap.size, 20, none⟩ = some (.int .i64 c.period) := at_cell HB.out.box 20
  go_wp2_with fail
  clear hb1
  refine (cin_any _ _ _ _).mono ?_
  rintro e v18 ⟨rfl, hv⟩
  subst v18
  clear z20
  by_cases hb : cwithin c.period 1 60 = true
  rotate_left
  · have hb' : cwithin c.period 1 60 = false := by simpa using hb
    have R := hid (HS.out.trans (no18 S17.out hb'))
    clear hb
    go_wp2_with fail
    go_ret
    exact ⟨by rw [R.out]; rfl, HB.out.g⟩
  have S18 := hid (ok18 S17.out hb); clear S17
  have hb1 := hb; clear hb
  have z21 : v8.cell? ⟨w.heap.size, 21, none⟩ = some (.int .i64 c.far) := at_cell HB.out.box 21
  by_cases hb : cwithin c.far 0 1099511627776 = true
  rotate_left
  · have hb' : cwithin c.far 0 1099511627776 = false := by simpa using hb
    have R := hid (HS.out.trans (no19 S18.out hb'))
    by_cases hf : c.far < 0
    · clear hb' hb
      go_wp2_with fail
      go_ret
      exact ⟨by rw [R.out]; rfl, HB.out.g⟩
    · have h3 : 1099511627776 < c.far := by simp [cwithin] at hb'; omega
      clear hb' hb
      go_wp2_with fail
      go_ret
      exact ⟨by rw [R.out]; rfl, HB.out.g⟩
  have S19 := hid (ok19 S18.out hb); clear S18
  have hf : 0 ≤ c.far ∧ c.far ≤ 1099511627776 := by simpa [cwithin] using hb
  have e1 : ¬ c.far < 0 := by omega
  have e2 : ¬ 1099511627776 < c.far := by omega
  clear hb hf
  have z22 : v8.cell? ⟨w.heap.size, 22, none⟩ = some (.int .i64 c.strikes) := at_cell HB.out.box 22
  go_wp2_with fail
  clear hb1 e1 e2 z21
  refine (cin_any _ _ _ _).mono ?_
  rintro e v20 ⟨rfl, hv⟩
  subst v20
  clear z22
  by_cases hb : cwithin c.strikes 1 100 = true
  rotate_left
  · have hb' : cwithin c.strikes 1 100 = false := by simpa using hb
    have R := hid (HS.out.trans (no20 S19.out hb'))
    clear hb
    go_wp2_with fail
    go_ret
    exact ⟨by rw [R.out]; rfl, HB.out.g⟩
  have S20 := hid (ok20 S19.out hb); clear S19
  have hb1 := hb; clear hb
  have z23 : v8.cell? ⟨w.heap.size, 23, none⟩ = some (.int .i64 c.probe) := at_cell HB.out.box 23
  go_wp2_with fail
  clear hb1
  refine (cin_any _ _ _ _).mono ?_
  rintro e v21 ⟨rfl, hv⟩
  subst v21
  clear z23
  by_cases hb : cwithin c.probe 1 100 = true
  rotate_left
  · have hb' : cwithin c.probe 1 100 = false := by simpa using hb
    have R := hid (HS.out.trans (no21 S20.out hb'))
    clear hb
    go_wp2_with fail
    go_ret
    exact ⟨by rw [R.out]; rfl, HB.out.g⟩
  have S21 := hid (ok21 S20.out hb); clear S20
  have hb1 := hb; clear hb
  have z24 : v8.cell? ⟨w.heap.size, 24, none⟩ = some (.int .i64 c.sectors) := at_cell HB.out.box 24
  go_wp2_with fail
  clear hb1
  refine (cin_any _ _ _ _).mono ?_
  rintro e v22 ⟨rfl, hv⟩
  subst v22
  clear z24
  by_cases hb : cwithin c.sectors 64 4096 = true
  rotate_left
  · have hb' : cwithin c.sectors 64 4096 = false := by simpa using hb
    have R := hid (HS.out.trans (no22 S21.out hb'))
    clear hb
    go_wp2_with fail
    go_ret
    exact ⟨by rw [R.out]; rfl, HB.out.g⟩
  have S22 := hid (ok22 S21.out hb); clear S21
  have hb1 := hb; clear hb
  go_wp2_with fail
  go_ret
  exact ⟨by rw [HS.out.trans S22.out]; rfl, HB.out.g⟩
end Go.Proofs.YthobbekocimcnaaGreat
end
