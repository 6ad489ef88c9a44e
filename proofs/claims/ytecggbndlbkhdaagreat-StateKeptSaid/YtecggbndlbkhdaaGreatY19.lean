/-
  Contracts for package law: Next, of nil too. The condition of a call: the object lies there, slices read as numbers.
  Contracts for package law: New. The condition of a call: the object lies there, slices read as numbers.
  Contract: the law's own examples: the program tells what the document says of a few. And: what a walk keeps of a Law of the call's own, beside a configuration. No condition.
  Contracts for the document's Calm: the object, its inner functions, New, Set. The condition of a call: the object lies there, a slice reads as numbers.
  Contract for the document's Calm: Next. The condition: the object lies there.
-/
import Derived.Test.YtecggbndlbkhdaaGreatJ0
import Derived.Test.YtecggbndlbkhdaaGreatY14
import Derived.Test.YtecggbndlbkhdaaGreatY4
import Derived.Deep.RegionHeld3
import Derived.Test.YtecggbndlbkhdaaGreatY16
import Derived.Test.YtecggbndlbkhdaaGreatY17
section
set_option linter.unusedSimpArgs false
set_option linter.unusedVariables false
namespace Go.Proofs.YtecggbndlbkhdaaGreat
set_option maxRecDepth 100000
open Go.RowKit

theorem LaAt.rowx {w : World} {B : LBl} {s : La} (H : LaAt w B s) : ∃ ao k m tol n, w.heap[B.b]? = some (.cells (laCells B ao k m tol n) 238) := by
  obtain ⟨ao, k, h1, -⟩ := H.row
  exact ⟨_, _, _, _, _, h1⟩
theorem La.most_yes {s : La} {vs : List Int} (h : s.may vs = true) : raMost s.n vs s.tg s.tol = (s.want vs, true) := by
  unfold La.may at h; unfold La.want
  exact Prod.ext rfl h
set_option maxHeartbeats 3200000 in
theorem lnext_yes {w : World} {B : LBl} {s : La} {v : Value} {vs : List Int} (hm : s.may vs = true) (H : LaAt w B s) (hv : IntsAt w v vs) :
    Calls Tryz.prog 245 #[.pointer (some ⟨B.b, 0, none⟩), v] w fun e w' => e = .returned (.tuple #[.int .i64 (s.come vs), .int .i64 (s.want vs), .int .i64 0]) ∧ LaAt w' B (s.next vs) ∧ Chg B.F w w' := by
  obtain ⟨pv, cv, rfl⟩ := hv.form
  obtain ⟨ao, k, hR, hIT⟩ := H.row
  have hIV := hv
  have C := hid (lcount_any H)
  have M := hid (fun (W : World) (h1 : IntsAt W (.slice pv vs.length cv) vs) (h2 : IntsAt W (.slice (some ⟨B.t, ao, none⟩) s.tg.length k) s.tg) => rmost_any s.n s.tol _ _ vs s.tg W h1 h2)
  rw [La.most_yes hm] at M
  have hin : s.po.in (s.come vs) = true := Po.in_iff.2 (La.come_in H.ok vs)
  have hy : s.po.lim ((s.ca.push (s.want vs)).out s.n) = s.come vs := rfl
  have hs := La.next_set s vs
  rw [hs]
  generalize s.want vs = x at *
  generalize s.come vs = y at *
  have HIN := hid (show ({ s with ca := s.ca.push x } : La).po.in y = true from hin)
  obtain ⟨o1, ho1⟩ : ∃ o, (s.ca.push x).out s.n = o := ⟨_, rfl⟩
  rw [ho1] at hy
  have HO1 := hid ho1; have HY := hid hy
  have HH := hid H
  clear hv H hm hin hs hy ho1
  go_enter Tryz.func245, Tryz.ntmps245
  go_wp2_with fail
  refine C.out.mono ?_
  rintro e w1 ⟨rfl, rfl⟩
  clear C
  go_wp2_with fail
  refine wp_region_held_drew (S := (fun w' => (w.grownBy w' none) ∧ (w'.heap[B.b]? = some (.cells (laCells B ao k s.tg.length s.tol s.n) 238)) ∧ (IntsAt w' (.slice (some ⟨B.t, ao, none⟩) s.tg.length k) s.tg) ∧ (IntsAt w' (.slice pv vs.length cv) vs))) (by kernel_rfl) ⟨gb_drew (.refl w none), hR, hIT, hIV⟩ (fun hHeld => ?_)
  try dsimp only at hHeld
  refine jU 0 hHeld ?_
  try simp only [jX, jD, jE, jF]
  refine jU 1 hHeld ?_
  try simp only [jX, jD, jE, jF]
  refine jU 2 hHeld ?_
  try simp only [jX, jD, jE, jF]
  refine jU 3 hHeld ?_
  try simp only [jX, jD, jE, jF]
  refine jU 4 hHeld ?_
  try simp only [jX, jD, jE, jF]
  refine' jT 5 rfl (by rfl) ?_ hHeld ?_
  rotate_left
  · (intro w hSw; (try dsimp only at hSw); obtain ⟨G, R, IT, IV⟩ := hSw; have c0 := at_cell R 0; go_simp; try with_reducible rfl)
  try simp only [jX, jD, jE, jF]
  refine jU 6 hHeld ?_
  try simp only [jX, jD, jE, jF]
  refine jU 7 hHeld ?_
  try simp only [jX, jD, jE, jF]
  refine jU 8 hHeld ?_
  try simp only [jX, jD, jE, jF]
  refine' jT 9 rfl (by rfl) ?_ hHeld ?_
  rotate_left
  · (intro w hSw; (try dsimp only at hSw); obtain ⟨G, R, IT, IV⟩ := hSw; have c1 := at_cell R 1; go_simp; try with_reducible rfl)
  try simp only [jX, jD, jE, jF]
  refine jR [10] ?_
  refine jG rfl (fun K hK => ?_) AllReadyH.nil
  try simp only [jD, jE, jF]
  go_simp
  have hH2 := hHeld
  obtain ⟨G, R, IT, IV⟩ := hH2
  refine ((M.out _ IV IT)).mono ?_
  rintro e w1010 ⟨rfl, hg⟩
  have L10 := hid (show (w.grownBy w1010 none) ∧ (w1010.heap[B.b]? = some (.cells (laCells B ao k s.tg.length s.tol s.n) 238)) ∧ (IntsAt w1010 (.slice (some ⟨B.t, ao, none⟩) s.tg.length k) s.tg) ∧ (IntsAt w1010 (.slice pv vs.length cv) vs) from ⟨gb_trans G hg (.inl rfl), at_grown R hg (by simp), IT.grown hg, IV.grown hg⟩)
  clear hHeld hg G R IT IV
  go_wp2_with fail
  refine hK.out _ _ ?_ (fun hHeld => ?_)
  · exact L10.out
  clear hK K
  try dsimp only at hHeld
  try simp only [jX, jD, jE, jF]
  refine jU 11 hHeld ?_
  try simp only [jX, jD, jE, jF]
  refine jU 12 hHeld ?_
  try simp only [jX, jD, jE, jF]
  refine jU 13 hHeld ?_
  try simp only [jX, jD, jE, jF]
  refine jU 14 hHeld ?_
  try simp only [jX, jD, jE, jF]
  refine jU 15 hHeld ?_
  try simp only [jX, jD, jE, jF]
  refine wpAnyH_done (by kernel_rfl) ?_ _
  obtain ⟨G, R, IT, IV⟩ := hHeld
  have G1 := hid G; clear G R IT IV
  go_wp2_with fail
  generalize w1010 = WQ at *
  have T := hid ((HH.out.grown G1.out).drew); have HC := hid (show Chg B.F w WQ.drew from (chg_grown G1.out B.F).drew); clear G1 M HH hR hIT hIV
  refine wp_region_held_drew (S := (fun w' => (∃ ao k m tol n, w'.heap[B.b]? = some (.cells (laCells B ao k m tol n) 238)))) (by kernel_rfl) T.out.rowx (fun hHeld => ?_)
  try dsimp only at hHeld
  refine jU 0 hHeld ?_
  try simp only [jX, jD, jE, jF]
  refine jU 1 hHeld ?_
  try simp only [jX, jD, jE, jF]
  refine jU 2 hHeld ?_
  try simp only [jX, jD, jE, jF]
  refine jU 3 hHeld ?_
  try simp only [jX, jD, jE, jF]
  refine' jT 4 rfl (by rfl) ?_ hHeld ?_
  rotate_left
  · (intro w hSw; (try dsimp only at hSw); have R := hSw; obtain ⟨ao', k', m', tol', n', R⟩ := R; have c2 := at_cell R 2; have c3 := at_cell R 3; go_simp; try with_reducible rfl)
  try simp only [jX, jD, jE, jF]
  refine jU 5 hHeld ?_
  try simp only [jX, jD, jE, jF]
  refine jU 6 hHeld ?_
  try simp only [jX, jD, jE, jF]
  refine jU 7 hHeld ?_
  try simp only [jX, jD, jE, jF]
  refine' jT 8 rfl (by rfl) ?_ hHeld ?_
  rotate_left
  · (intro w hSw; (try dsimp only at hSw); have R := hSw; obtain ⟨ao', k', m', tol', n', R⟩ := R; have c2 := at_cell R 2; have c3 := at_cell R 3; go_simp; try with_reducible rfl)
  try simp only [jX, jD, jE, jF]
  refine jU 9 hHeld ?_
  try simp only [jX, jD, jE, jF]
  refine jU 10 hHeld ?_
  try simp only [jX, jD, jE, jF]
  refine jU 14 hHeld ?_
  try simp only [jX, jD, jE, jF]
  refine jR [11] ?_
  refine jG rfl (fun K hK => ?_) AllReadyH.nil
  try simp only [jD, jE, jF]
  go_simp
  have hH2 := hHeld
  have R := hH2
  refine ((next_any s.n x T.out.ca)).mono ?_
  rintro e w1011 ⟨he, hc, hch⟩
  obtain rfl := he
  have R := (T.out.calm hc hch).rowx
  replace HC := hid (HC.out.then (hch.more (by simp)))
  replace T := hid (T.out.calm hc hch)
  rw [HO1.out]
  clear hc hch
  have hg := True.intro
  have L11 := hid (show (∃ ao k m tol n, w1011.heap[B.b]? = some (.cells (laCells B ao k m tol n) 238)) from R)
  clear hHeld hg R
  go_wp2_with fail
  refine hK.out _ _ ?_ (fun hHeld => ?_)
  · exact L11.out
  clear hK K
  try dsimp only at hHeld
  try simp only [jX, jD, jE, jF]
  refine jR [12] ?_
  refine jG rfl (fun K hK => ?_) AllReadyH.nil
  try simp only [jD, jE, jF]
  go_simp
  have hH2 := hHeld
  have R := hH2
  refine ((plim_any o1 T.out.po)).mono ?_
  rintro e w1012 ⟨he, hg⟩
  obtain rfl := he
  replace T := hid (T.out.grown hg)
  have R := T.out.rowx
  replace HC := hid (HC.out.grown hg)
  rw [show ({ s with ca := s.ca.push x } : La).po.lim o1 = y from HY.out]
  have L12 := hid (show (∃ ao k m tol n, w1012.heap[B.b]? = some (.cells (laCells B ao k m tol n) 238)) from R)
  clear hHeld hg R
  go_wp2_with fail
  refine hK.out _ _ ?_ (fun hHeld => ?_)
  · exact L12.out
  clear hK K
  try dsimp only at hHeld
  try simp only [jX, jD, jE, jF]
  refine jR [13] ?_
  refine jG rfl (fun K hK => ?_) AllReadyH.nil
  try simp only [jD, jE, jF]
  go_simp
  have hH2 := hHeld
  have R := hH2
  refine ((lput_any (s := { s with ca := s.ca.push x }) HIN.out T.out)).mono ?_
  rintro e w1013 ⟨he, hl, hch⟩
  obtain rfl := he
  have R := hl.rowx
  replace HC := hid (HC.out.then hch)
  have T3 := hid hl
  clear hl hch
  have hg := True.intro
  have L13 := hid (show (∃ ao k m tol n, w1013.heap[B.b]? = some (.cells (laCells B ao k m tol n) 238)) from R)
  clear hHeld hg R
  go_wp2_with fail
  refine hK.out _ _ ?_ (fun hHeld => ?_)
  · exact L13.out
  clear hK K
  try dsimp only at hHeld
  try simp only [jX, jD, jE, jF]
  refine jU 15 hHeld ?_
  try simp only [jX, jD, jE, jF]
  refine jU 16 hHeld ?_
  try simp only [jX, jD, jE, jF]
  refine jU 17 hHeld ?_
  try simp only [jX, jD, jE, jF]
  refine wpAnyH_done (by kernel_rfl) ?_ _
  have R := hHeld
  clear R
  go_wp2_with fail
  go_ret3
  exact ⟨rfl, T3.out, HC.out⟩
end Go.Proofs.YtecggbndlbkhdaaGreat
end
section
set_option linter.unusedSimpArgs false
set_option linter.unusedVariables false
namespace Go.Proofs.YtecggbndlbkhdaaGreat
set_option maxRecDepth 100000
open Go.RowKit

theorem tarr_len : Tryz.prog.arrayLen 24 = 4 := by kernel_rfl
theorem tarr_elem : Tryz.prog.elem 24 = 2 := by kernel_rfl
theorem tsize_i64 (u : World) : (sizeOf 2).run Tryz.prog u = .ok 1 u := by
  obtain ⟨i, hi, hz0, hz1, hz2⟩ := info_parts info_i64
  simp [sizeOf, typeInfo, hi, hz1]
theorem tarr_h (b o n : Nat) (h : n ≤ 4) (u : World) : (Instr.sliceAt 24 (.pointer (some ⟨b, o, none⟩)) none (some (.int .i64 (n : Int))) none).run Tryz.prog u = .ok (.slice (some ⟨b, o, none⟩) n 4) u := by
  rw [run_sliceAt_array_h (P := Tryz.prog) u 24 ⟨b, o, none⟩ (by kernel_rfl) .i64 (n : Int) (by omega) (by rw [tarr_len]; omega), tarr_elem, tsize_i64, tarr_len]
  simp [slicedAt, Result.andThen, Addr.add]
/-- the targets of the metrics that there are -/
@[reducible] def tgOf (c : Conf) (m : Nat) : List Int := [c.t0, c.t1, c.t2, c.t3].take m
theorem tgOf_len (c : Conf) {m : Nat} (h : m ≤ 4) : (tgOf c m).length = m := by rw [List.length_take]; simp; omega
theorem tgOf_at {w : World} {x m : Nat} {c : Conf} {t : TypeId} {cs : Array Value} (hcs : ∀ i, i < 4 → cs[7 + i]? = ([c.t0, c.t1, c.t2, c.t3][i]?).map iv) (h : w.heap[x]? = some (.cells cs t)) (hm : m ≤ 4) : IntsAt w (.slice (some ⟨x, 7, none⟩) m 4) (tgOf c m) := by
  refine .inr ⟨_, 4, by rw [tgOf_len c hm], by rw [tgOf_len c hm]; exact hm, by unfold maxLen; omega, fun i hi => ?_⟩
  have hi' : i < m := by rw [tgOf_len c hm] at hi; exact hi
  rw [iadd_at, at_cell h, hcs i (by omega)]
  have : (tgOf c m)[i]? = [c.t0, c.t1, c.t2, c.t3][i]? := by rw [List.getElem?_take, if_pos hi']
  rw [← this, List.getElem?_eq_getElem hi]; rfl
theorem conf_tg (c : Conf) : ∀ i, i < 4 → c.cells[7 + i]? = ([c.t0, c.t1, c.t2, c.t3][i]?).map iv
  | 0, _ => rfl
  | 1, _ => rfl
  | 2, _ => rfl
  | 3, _ => rfl
  | k + 4, h => by omega
theorem lclone_any (a : Addr) (n c : Nat) (l : List Int) (w : World) (h : IntsAt w (.slice (some a) n c) l) (hn : l.length ≤ 999999) (hne : 0 < l.length) :
    Calls Tryz.prog 129 #[.slice (some a) n c] w fun e w' => ∃ bt ao k, e = .returned (.slice (some ⟨bt, ao, none⟩) l.length k) ∧ IntsAt w' (.slice (some ⟨bt, ao, none⟩) l.length k) l ∧ w.heap.size ≤ bt ∧ bt < w'.heap.size ∧ w.grownBy w' none := by
  have HI := hid h
  have hnil := Lib.run_eql_slice_nil w 73 2 (some a) n c 0 0 Tryz.underlying73
  have HE := hid (OwnI.empty w)
  have HB := hid (HI.out.alloc (.cells #[] 2))
  have HL := hid hn; have HNE := hid hne
  clear h hn hne
  go_enter Tryz.func129, Tryz.ntmps129
  go_wp2_with (refine append_ints rfl _ _ rfl w.heap.size _ [] rfl HE.out _ l rfl HB.out (by have := HL.out; simp; omega) (gb_size (gb_alloc (.refl w none) _)) ?_; intro v' w' hown hgrow hat; have HO := hid hown; have HG := hid (gb_ownI (gb_alloc (.refl w none) _) HE.out (Nat.le_refl _) hgrow); clear hown hgrow hat)
  go_ret
  have hown := HO.out
  rw [List.nil_append] at hown
  have hI := hown.ints
  obtain ⟨p, k, rfl⟩ := hown.form
  obtain ⟨ab, ao, rfl, -, -, -⟩ := hI.cell HNE.out
  have hb := hown.at ab (by simp [ownL, Value.ownBlock])
  exact ⟨ab, ao, k, rfl, hI, hb.1, hb.2, HG.out⟩
/-- a Law of the call's own -/
def LaMade (w : World) (s : La) (e : Ending) (w' : World) : Prop := ∃ B : LBl, e = .returned (.pointer (some ⟨B.b, 0, none⟩)) ∧ LaAt w' B s ∧ w.grownBy w' none ∧ ∀ x ∈ B.F, w.heap.size ≤ x
theorem lnew_fin {w W : World} {b bc bp bt ao k m wp : Nat} {tol n : Int} {tg : List Int} {ca : Ca} {po : Po} (hR : W.heap[b]? = some (.cells (laCells ⟨b, bc, bp, bt⟩ ao k m tol 0) 238)) (hI : IntsAt W (.slice (some ⟨bt, ao, none⟩) m k) tg)
    (hc : CaAt W bc ca) (hp : PoAt W bp po) (g : w.grownBy W none) (q0 : bp < wp) (q1 : wp ≤ bt) (q3 : bt < bc) (q4 : bc < b) (qb : w.heap.size ≤ wp) (qbp : w.heap.size ≤ bp) (q2 : bt < W.heap.size) (hl : tg.length = m) (ho : (La.mk tg tol ca po n).Ok) :
    LaAt (W.setCell ⟨b, 4, none⟩ (.int .i64 n)) ⟨b, bc, bp, bt⟩ ⟨tg, tol, ca, po, n⟩ ∧ w.grownBy (W.setCell ⟨b, 4, none⟩ (.int .i64 n)) none ∧ ∀ x ∈ (LBl.mk b bc bp bt).F, w.heap.size ≤ x := by
  subst hl
  have hc2 : Chg [b] W (W.setCell ⟨b, 4, none⟩ (.int .i64 n)) := (chg_refl W [b]).set (.inl (by simp)) _
  refine ⟨⟨⟨ao, k, by rw [at_set hR]; rfl, ints_chg hI hc2 (fun a n c e => by cases e; simp; omega)⟩, hc.chg hc2 (by simp; omega), hp.chg hc2 (by simp; omega), Nat.lt_of_lt_of_le q2 hc2.size, ⟨by show b ≠ bc; omega, by show b ≠ bp; omega, by show b ≠ bt; omega, by show bc ≠ bp; omega, by show bc ≠ bt; omega, by show bp ≠ bt; omega⟩, ho⟩,
    ((chg_grown g []).trans hc2 (fun y hy => by rw [List.mem_singleton] at hy; subst hy; exact .inr (by omega))).free (fun y hy => by cases hy), fun x hx => ?_⟩
  simp only [List.mem_cons, List.mem_singleton, List.not_mem_nil, or_false] at hx
  rcases hx with rfl | rfl | rfl | rfl <;> omega
theorem in_bounds {s : La} (h : s.Ok) : 0 ≤ s.n ∧ s.n ≤ 10000 := La.n_in h
/-- a configuration's Law as it is made -/
@[reducible] def laOf (c : Conf) (m u d : Nat) (first : Int) : La := ⟨tgOf c m, c.tol, ⟨u, d, []⟩, ⟨rt c, [first]⟩, first⟩
set_option maxHeartbeats 3200000 in
theorem lnew_ok (c : Conf) (first : Int) (m u d : Nat) (h0 : ((st22 c).getD ⟨#[]⟩).toList.isEmpty = true) (hm : c.m = (m : Int)) (hu : (u : Int) = c.calmup) (hd : (d : Int) = c.calmdown) (hm1 : 1 ≤ m) (hm4 : m ≤ 4) (hu60 : u ≤ 60) (hd60 : d ≤ 60) (hr : (rt c).may = true) (hi : inR (rt c) first = true) (hok : (laOf c m u d first).Ok) (w : World) :
    Calls Tryz.prog 60 #[cf c, .int .i64 first] w (LaMade w (laOf c m u d first)) := by
  have K := hid (boxc_new w c)
  have MY := hid (cmay_any c)
  rw [h0] at MY
  have PN := hid (ponew_ok c first hr hi)
  have hf : 0 ≤ first ∧ first ≤ 10000 := in_bounds hok
  have e1 : IntKind.i64.wrap first = first := IntWalk.i64_in _ (by omega)
  have HM := hid hm; have HU := hid hu; have HD := hid hd
  have HOK := hid hok
  have HTL := hid (tgOf_len c hm4)
  have hs := fun b u => tarr_h b 7 m hm4 u
  have CL := hid (fun (W : World) (h : W.heap[w.heap.size]? = some (.cells c.cells 27)) => lclone_any _ _ _ (tgOf c m) W (tgOf_at (conf_tg c) h hm4) (by rw [tgOf_len c hm4]; omega) (by rw [tgOf_len c hm4]; omega))
  rw [tgOf_len c hm4] at CL
  unfold laOf at *
  generalize tgOf c m = tg at *
  clear h0 hr hi hok hm1 hf hm hu hd
  go_enter Tryz.func60, Tryz.ntmps60
  go_wp2_with (refine wpList_conf K.out.box rfl rfl rfl rfl ?_)
  refine (MY.out _).mono ?_
  rintro e w1 ⟨rfl, hg⟩
  have K1 := hid (K.out.grown hg); clear hg MY
  go_wp2_with (refine wpList_conf K1.out.box rfl rfl rfl rfl ?_)
  refine (PN.out _).mono ?_
  rintro e zp ⟨bp, rfl, hp, hg, hb⟩
  have KP := hp; have KC := (K1.out.grown hg).box; have G := (K1.out.grown hg).g; have qbp : w.heap.size ≤ bp := Nat.le_trans K1.out.g.size hb; have q0 := hp.lt; have qb := G.size
  clear hp hg hb PN K K1
  generalize w.heap.size = xb at KC CL
  go_wp2_with fail
  refine wp_region_held_drew (S := (fun w' => (w.grownBy w' none) ∧ (w'.heap[xb]? = some (.cells c.cells 27)) ∧ (PoAt w' bp ⟨rt c, [first]⟩))) (by kernel_rfl) ⟨gb_drew G, KC, KP.drew⟩ (fun hHeld => ?_)
  try dsimp only at hHeld
  refine jU 0 hHeld ?_
  try simp only [jX, jD, jE, jF]
  refine jU 1 hHeld ?_
  try simp only [jX, jD, jE, jF]
  refine' jT 2 rfl (by rfl) ?_ hHeld ?_
  rotate_left
  · (intro w hSw; (try dsimp only at hSw); obtain ⟨G, KC, KP⟩ := hSw; have k2 : w.cell? ⟨xb, 2, none⟩ = some (.int .i64 (m : Int)) := (at_cell KC 2).trans (congrArg (fun z => some (Value.int .i64 z)) HM.out); go_simp; try with_reducible rfl)
  try simp only [jX, jD, jE, jF]
  refine jU 3 hHeld ?_
  try simp only [jX, jD, jE, jF]
  refine jU 5 hHeld ?_
  try simp only [jX, jD, jE, jF]
  refine' jT 6 rfl (by rfl) ?_ hHeld ?_
  rotate_left
  · (intro w hSw; (try dsimp only at hSw); obtain ⟨G, KC, KP⟩ := hSw; have k11 := at_cell KC 11; go_simp; try with_reducible rfl)
  try simp only [jX, jD, jE, jF]
  refine jU 7 hHeld ?_
  try simp only [jX, jD, jE, jF]
  refine' jT 8 rfl (by rfl) ?_ hHeld ?_
  rotate_left
  · (intro w hSw; (try dsimp only at hSw); obtain ⟨G, KC, KP⟩ := hSw; have k14 := at_cell KC 14; go_simp; try with_reducible rfl)
  try simp only [jX, jD, jE, jF]
  refine jU 9 hHeld ?_
  try simp only [jX, jD, jE, jF]
  refine' jT 10 rfl (by rfl) ?_ hHeld ?_
  rotate_left
  · (intro w hSw; (try dsimp only at hSw); obtain ⟨G, KC, KP⟩ := hSw; have k15 := at_cell KC 15; go_simp; try with_reducible rfl)
  try simp only [jX, jD, jE, jF]
  refine jU 12 hHeld ?_
  try simp only [jX, jD, jE, jF]
  refine jR [4] ?_
  refine jG rfl (fun K hK => ?_) AllReadyH.nil
  try simp only [jD, jE, jF]
  go_simp
  have hH2 := hHeld
  obtain ⟨G, KC, KP⟩ := hH2
  refine ((CL.out _ KC)).mono ?_
  rintro e w1004 ⟨bt, ao, k, rfl, hit, hbt, hlt, hg⟩
  have L4 := hid (show (w.grownBy w1004 none) ∧ (w1004.heap[xb]? = some (.cells c.cells 27)) ∧ (PoAt w1004 bp ⟨rt c, [first]⟩) from ⟨gb_trans G hg (.inl rfl), at_grown KC hg (by simp), KP.grown hg⟩)
  have NIT := hid (show IntsAt w1004 (.slice (some ⟨bt, ao, none⟩) m k) tg from hit)
  have Nq1 := hid (show zp.heap.size ≤ bt from hbt)
  have Nq2 := hid (show bt < w1004.heap.size from hlt)
  clear hHeld hg G KC KP
  go_wp2_with fail
  refine hK.out _ _ ?_ (fun hHeld => ?_)
  · exact L4.out
  clear hK K
  try dsimp only at hHeld
  try simp only [jX, jD, jE, jF]
  refine held_stronger (S' := fun w' => (fun w' => IntsAt w' (.slice (some ⟨bt, ao, none⟩) m k) tg) w' ∧ ((fun w' => (w.grownBy w' none) ∧ (w'.heap[xb]? = some (.cells c.cells 27)) ∧ (PoAt w' bp ⟨rt c, [first]⟩))) w') (fun _ h => h.2) _ _ _ _ ?_
  replace hHeld := And.intro NIT.out hHeld
  try dsimp only at hHeld
  refine held_stronger (S' := fun w' => (fun w' => zp.heap.size ≤ bt) w' ∧ ((fun w' => (IntsAt w' (.slice (some ⟨bt, ao, none⟩) m k) tg) ∧ (w.grownBy w' none) ∧ (w'.heap[xb]? = some (.cells c.cells 27)) ∧ (PoAt w' bp ⟨rt c, [first]⟩))) w') (fun _ h => h.2) _ _ _ _ ?_
  replace hHeld := And.intro Nq1.out hHeld
  try dsimp only at hHeld
  refine held_stronger (S' := fun w' => (fun w' => bt < w'.heap.size) w' ∧ ((fun w' => (zp.heap.size ≤ bt) ∧ (IntsAt w' (.slice (some ⟨bt, ao, none⟩) m k) tg) ∧ (w.grownBy w' none) ∧ (w'.heap[xb]? = some (.cells c.cells 27)) ∧ (PoAt w' bp ⟨rt c, [first]⟩))) w') (fun _ h => h.2) _ _ _ _ ?_
  replace hHeld := And.intro Nq2.out hHeld
  try dsimp only at hHeld
  refine jR [11] ?_
  refine jG rfl (fun K hK => ?_) AllReadyH.nil
  try simp only [jD, jE, jF]
  go_simp
  have hH2 := hHeld
  obtain ⟨q2, q1, IT, G, KC, KP⟩ := hH2
  refine ((new_as u d HU.out HD.out hu60 hd60 _)).mono ?_
  rintro e w1011 ⟨bc, rfl, hca, hg, hbc⟩
  have L11 := hid (show (bt < w1011.heap.size) ∧ (zp.heap.size ≤ bt) ∧ (IntsAt w1011 (.slice (some ⟨bt, ao, none⟩) m k) tg) ∧ (w.grownBy w1011 none) ∧ (w1011.heap[xb]? = some (.cells c.cells 27)) ∧ (PoAt w1011 bp ⟨rt c, [first]⟩) from ⟨Nat.lt_of_lt_of_le q2 hg.size, q1, IT.grown hg, gb_trans G hg (.inl rfl), at_grown KC hg (by simp), KP.grown hg⟩)
  have Nq3 := hid (show bt < bc from Nat.lt_of_lt_of_le q2 hbc)
  have Nq4 := hid (show bc < w1011.heap.size from hca.lt)
  have NCA := hid (show CaAt w1011 bc ⟨u, d, []⟩ from hca)
  clear hHeld hg q2 q1 IT G KC KP
  go_wp2_with fail
  refine hK.out _ _ ?_ (fun hHeld => ?_)
  · exact L11.out
  clear hK K
  try dsimp only at hHeld
  try simp only [jX, jD, jE, jF]
  refine held_stronger (S' := fun w' => (fun w' => bt < bc) w' ∧ ((fun w' => (bt < w'.heap.size) ∧ (zp.heap.size ≤ bt) ∧ (IntsAt w' (.slice (some ⟨bt, ao, none⟩) m k) tg) ∧ (w.grownBy w' none) ∧ (w'.heap[xb]? = some (.cells c.cells 27)) ∧ (PoAt w' bp ⟨rt c, [first]⟩))) w') (fun _ h => h.2) _ _ _ _ ?_
  replace hHeld := And.intro Nq3.out hHeld
  try dsimp only at hHeld
  refine held_stronger (S' := fun w' => (fun w' => bc < w1011.heap.size) w' ∧ ((fun w' => (bt < bc) ∧ (bt < w'.heap.size) ∧ (zp.heap.size ≤ bt) ∧ (IntsAt w' (.slice (some ⟨bt, ao, none⟩) m k) tg) ∧ (w.grownBy w' none) ∧ (w'.heap[xb]? = some (.cells c.cells 27)) ∧ (PoAt w' bp ⟨rt c, [first]⟩))) w') (fun _ h => h.2) _ _ _ _ ?_
  replace hHeld := And.intro Nq4.out hHeld
  try dsimp only at hHeld
  refine held_stronger (S' := fun w' => (fun w' => CaAt w' bc ⟨u, d, []⟩) w' ∧ ((fun w' => (bc < w1011.heap.size) ∧ (bt < bc) ∧ (bt < w'.heap.size) ∧ (zp.heap.size ≤ bt) ∧ (IntsAt w' (.slice (some ⟨bt, ao, none⟩) m k) tg) ∧ (w.grownBy w' none) ∧ (w'.heap[xb]? = some (.cells c.cells 27)) ∧ (PoAt w' bp ⟨rt c, [first]⟩))) w') (fun _ h => h.2) _ _ _ _ ?_
  replace hHeld := And.intro NCA.out hHeld
  try dsimp only at hHeld
  refine jU 13 hHeld ?_
  try simp only [jX, jD, jE, jF]
  refine jR [14] ?_
  refine jG rfl (fun K hK => ?_) AllReadyH.nil
  have hH2 := hHeld
  obtain ⟨CA, q4, q3, q2, q1, IT, G, KC, KP⟩ := hH2
  have hg : w1011.grownBy (w1011.alloc (.cells (laCells ⟨w1011.heap.size, bc, bp, bt⟩ ao k m c.tol 0) 238)) none := World.grownBy_alloc _ _ _
  have L14 := hid (show (CaAt ((w1011.alloc (.cells (laCells ⟨w1011.heap.size, bc, bp, bt⟩ ao k m c.tol 0) 238))) bc ⟨u, d, []⟩) ∧ (bc < w1011.heap.size) ∧ (bt < bc) ∧ (bt < ((w1011.alloc (.cells (laCells ⟨w1011.heap.size, bc, bp, bt⟩ ao k m c.tol 0) 238))).heap.size) ∧ (zp.heap.size ≤ bt) ∧ (IntsAt ((w1011.alloc (.cells (laCells ⟨w1011.heap.size, bc, bp, bt⟩ ao k m c.tol 0) 238))) (.slice (some ⟨bt, ao, none⟩) m k) tg) ∧ (w.grownBy ((w1011.alloc (.cells (laCells ⟨w1011.heap.size, bc, bp, bt⟩ ao k m c.tol 0) 238))) none) ∧ (((w1011.alloc (.cells (laCells ⟨w1011.heap.size, bc, bp, bt⟩ ao k m c.tol 0) 238))).heap[xb]? = some (.cells c.cells 27)) ∧ (PoAt ((w1011.alloc (.cells (laCells ⟨w1011.heap.size, bc, bp, bt⟩ ao k m c.tol 0) 238))) bp ⟨rt c, [first]⟩) from ⟨CA.grown hg, q4, q3, Nat.lt_of_lt_of_le q2 hg.size, q1, IT.grown hg, gb_trans G hg (.inl rfl), at_grown KC hg (by simp), KP.grown hg⟩)
  have NRW := hid (show ((w1011.alloc (.cells (laCells ⟨w1011.heap.size, bc, bp, bt⟩ ao k m c.tol 0) 238))).heap[w1011.heap.size]? = some (.cells (laCells ⟨w1011.heap.size, bc, bp, bt⟩ ao k m c.tol 0) 238) from at_new _ _)
  clear hHeld hg CA q4 q3 q2 q1 IT G KC KP
  try simp only [jD, jE, jF]
  go_simp
  refine hK.out _ _ ?_ (fun hHeld => ?_)
  · exact L14.out
  clear hK K
  try dsimp only at hHeld
  try simp only [jX, jD, jE, jF]
  refine held_stronger (S' := fun w' => (fun w' => w'.heap[w1011.heap.size]? = some (.cells (laCells ⟨w1011.heap.size, bc, bp, bt⟩ ao k m c.tol 0) 238)) w' ∧ ((fun w' => (CaAt w' bc ⟨u, d, []⟩) ∧ (bc < w1011.heap.size) ∧ (bt < bc) ∧ (bt < w'.heap.size) ∧ (zp.heap.size ≤ bt) ∧ (IntsAt w' (.slice (some ⟨bt, ao, none⟩) m k) tg) ∧ (w.grownBy w' none) ∧ (w'.heap[xb]? = some (.cells c.cells 27)) ∧ (PoAt w' bp ⟨rt c, [first]⟩))) w') (fun _ h => h.2) _ _ _ _ ?_
  replace hHeld := And.intro NRW.out hHeld
  try dsimp only at hHeld
  refine jU 15 hHeld ?_
  try simp only [jX, jD, jE, jF]
  refine wpAnyH_done (by kernel_rfl) ?_ _
  obtain ⟨RW, CA, q4, q3, q2, q1, IT, G, KC, KP⟩ := hHeld
  generalize hWB : w1011.alloc (.cells (laCells ⟨w1011.heap.size, bc, bp, bt⟩ ao k m c.tol 0) 238) = WB at *
  generalize w1011.heap.size = bb at *
  have FIN := hid (lnew_fin (n := first) RW IT CA KP G q0 q1 q3 q4 qb qbp q2 HTL.out HOK.out)
  clear hWB
  have S0 := hid (store_i64 _ first _ _ (at_cell RW 4) (at_free RW 4))
  clear G KC KP IT q1 q2 q3 q4 CA RW
  go_wp2_with fail
  refine S0.out.mono ?_
  rintro e w9 ⟨rfl, rfl⟩
  go_wp2_with fail
  go_ret
  exact ⟨⟨bb, bc, bp, bt⟩, rfl, FIN.out.1, FIN.out.2.1, FIN.out.2.2⟩
end Go.Proofs.YtecggbndlbkhdaaGreat
end
section
set_option linter.unusedSimpArgs false
set_option linter.unusedVariables false
namespace Go.Proofs.YtecggbndlbkhdaaGreat
set_option maxRecDepth 100000
open Go.RowKit

/-- New: none -/
theorem lnew_no (c : Conf) (first : Int) (h0 : ((st22 c).getD ⟨#[]⟩).toList.isEmpty = true) (h : ¬ ((rt c).may = true ∧ inR (rt c) first = true)) (w : World) :
    Calls Tryz.prog 60 #[cf c, .int .i64 first] w fun e w' => e = .returned (.pointer none) ∧ w.grownBy w' none := by
  have K := hid (boxc_new w c)
  have MY := hid (cmay_any c)
  rw [h0] at MY
  have PN := hid (ponew_no c first h)
  clear h h0
  go_enter Tryz.func60, Tryz.ntmps60
  go_wp2_with (refine wpList_conf K.out.box rfl rfl rfl rfl ?_)
  refine (MY.out _).mono ?_
  rintro e w1 ⟨rfl, hg⟩
  have K1 := hid (K.out.grown hg); clear hg MY
  go_wp2_with (refine wpList_conf K1.out.box rfl rfl rfl rfl ?_)
  refine (PN.out _).mono ?_
  rintro e w2 ⟨rfl, hg⟩
  have K2 := hid (K1.out.grown hg); clear hg
  go_wp2_with fail
  go_ret
  exact ⟨rfl, K2.out.g⟩
/-- a Law of the call's own; one beside a configuration in a block; two of them -/
structure Lk0 (w : World) (B : LBl) (s : La) (W : World) : Prop where
  gr : w.grownBy W none
  at1 : LaAt W B s
  lo : ∀ y ∈ B.F, w.heap.size ≤ y
structure Lk1 (w : World) (x : Nat) (c : Conf) (B : LBl) (s : La) (W : World) : Prop where
  k : Lk0 w B s W
  box : W.heap[x]? = some (.cells c.cells 27)
  nx : x ∉ B.F
structure Lk2 (w : World) (x : Nat) (c : Conf) (B : LBl) (s : La) (C : LBl) (t : La) (W : World) : Prop where
  k1 : Lk1 w x c B s W
  k2 : Lk1 w x c C t W
  ne : ∀ y ∈ B.F, y ∉ C.F
section
variable {w W W' : World} {x : Nat} {c : Conf} {B C : LBl} {s s' t t' : La} {v : Value} {vs : List Int} {a y z : Int}
theorem lgb_chg (h : w.grownBy W none) (hc : Chg B.F W W') (hb : ∀ y ∈ B.F, w.heap.size ≤ y) : w.grownBy W' none :=
  ((chg_grown h []).trans hc (fun y hy => .inr (hb y hy))).free (fun y hy => by cases hy)
theorem Lk0.grown (h : Lk0 w B s W) (hg : W.grownBy W' none) : Lk0 w B s W' := ⟨gb_trans h.gr hg (.inl rfl), h.at1.grown hg, h.lo⟩
theorem Lk0.drew (h : Lk0 w B s W) : Lk0 w B s W.drew := ⟨gb_drew h.gr, h.at1.drew, h.lo⟩
theorem Lk0.chg (h : Lk0 w B s W) (hl : LaAt W' B s') (hc : Chg B.F W W') : Lk0 w B s' W' := ⟨lgb_chg h.gr hc h.lo, hl, h.lo⟩
theorem Lk0.start (hg : w.grownBy W none) (hl : LaAt W' B s) (h2 : W.grownBy W' none) (hb : ∀ y ∈ B.F, W.heap.size ≤ y) : Lk0 w B s W' := ⟨gb_trans hg h2 (.inl rfl), hl, fun y hy => Nat.le_trans hg.size (hb y hy)⟩
theorem Lk1.grown (h : Lk1 w x c B s W) (hg : W.grownBy W' none) : Lk1 w x c B s W' := ⟨h.k.grown hg, at_grown h.box hg (by simp), h.nx⟩
theorem Lk1.drew (h : Lk1 w x c B s W) : Lk1 w x c B s W.drew := ⟨h.k.drew, h.box, h.nx⟩
theorem Lk1.chg (h : Lk1 w x c B s W) (hl : LaAt W' B s') (hc : Chg B.F W W') : Lk1 w x c B s' W' := ⟨h.k.chg hl hc, hc.at h.box h.nx, h.nx⟩
theorem Lk1.start (hC : Cfx w x c W) (hl : LaAt W' B s) (h2 : W.grownBy W' none) (hb : ∀ y ∈ B.F, W.heap.size ≤ y) : Lk1 w x c B s W' :=
  ⟨Lk0.start hC.g hl h2 hb, at_grown hC.box h2 (by simp), fun hm => Nat.lt_irrefl _ (Nat.lt_of_lt_of_le (at_lt hC.box) (hb x hm))⟩
theorem Lk1.cfx (h : Lk1 w x c B s W) : Cfx w x c W := ⟨h.box, h.k.gr⟩
theorem Lk2.grown (h : Lk2 w x c B s C t W) (hg : W.grownBy W' none) : Lk2 w x c B s C t W' := ⟨h.k1.grown hg, h.k2.grown hg, h.ne⟩
theorem Lk2.drew (h : Lk2 w x c B s C t W) : Lk2 w x c B s C t W.drew := ⟨h.k1.drew, h.k2.drew, h.ne⟩
theorem Lk2.swap (h : Lk2 w x c B s C t W) : Lk2 w x c C t B s W := ⟨h.k2, h.k1, fun y hy hm => h.ne y hm hy⟩
theorem Lk2.start (h : Lk1 w x c B s W) (hl : LaAt W' C t) (h2 : W.grownBy W' none) (hb : ∀ y ∈ C.F, W.heap.size ≤ y) : Lk2 w x c B s C t W' :=
  ⟨h.grown h2, Lk1.start h.cfx hl h2 hb, fun y hy hm => Nat.lt_irrefl _ (Nat.lt_of_lt_of_le (h.k.at1.lts y hy) (hb y hm))⟩
end
/-- a made configuration's Law -/
theorem fine_law {c : Conf} (h : Fine c) : ∃ m u d : Nat, c.m = (m : Int) ∧ (u : Int) = c.calmup ∧ (d : Int) = c.calmdown ∧ 1 ≤ m ∧ m ≤ 2 ∧ u ≤ 3 ∧ d ≤ 4 ∧ (∀ f, c.min ≤ f → f ≤ c.max → (laOf c m u d f).Ok) ∧ (m = 1 ∨ m = 2 ∧ 1 ≤ c.t1 ∧ c.t1 ≤ 2000) := by
  have h1 := h.m; have h2 := h.calmup; have h3 := h.calmdown; have h4 := h.t0; have h5 := h.tol; have h6 := h.min; have h7 := h.max
  obtain ⟨m, hm⟩ : ∃ m : Nat, c.m = (m : Int) := ⟨c.m.toNat, by omega⟩
  obtain ⟨u, hu⟩ : ∃ m : Nat, (m : Int) = c.calmup := ⟨c.calmup.toNat, by omega⟩
  obtain ⟨d, hd⟩ : ∃ m : Nat, (m : Int) = c.calmdown := ⟨c.calmdown.toNat, by omega⟩
  refine ⟨m, u, d, hm, hu, hd, by omega, by omega, by omega, by omega, fun f hf1 hf2 => ⟨?_, ?_, by show 0 ≤ c.tol ∧ c.tol ≤ 1000; omega, ⟨by show u ≤ 60; omega, by show d ≤ 60; omega, Nat.zero_le _, fun x hx => by cases hx⟩, Po.new_ok (fine_ok h) hf1 hf2, hf1, hf2⟩, by omega⟩
  · intro t ht
    have ht : t ∈ [c.t0, c.t1, c.t2, c.t3].take m := ht
    rcases h1 with ⟨h1, h8⟩ | ⟨h1, h8, h9⟩
    · obtain rfl : m = 1 := by omega
      simp at ht
      omega
    · obtain rfl : m = 2 := by omega
      simp at ht
      omega
  · show [c.t0, c.t1, c.t2, c.t3].take m ≠ []
    rcases h1 with ⟨h1, h8⟩ | ⟨h1, h8, h9⟩
    · obtain rfl : m = 1 := by omega
      simp
    · obtain rfl : m = 2 := by omega
      simp
end Go.Proofs.YtecggbndlbkhdaaGreat
end
section
set_option linter.unusedSimpArgs false
set_option linter.unusedVariables false
namespace Go.Proofs.YtecggbndlbkhdaaGreat
set_option maxRecDepth 100000
open Go.RowKit

/-- the document's, its list in a block that is none of F -/
structure CbAt (w : World) (F : List Nat) (b : Nat) (c : Ca) : Prop where
  row : ∃ (p : Option Addr) (k : Nat), w.heap[b]? = some (.cells #[.int .i64 (c.up : Int), .int .i64 (c.down : Int), .slice p c.l.length k] 292) ∧ IntsAt w (.slice p c.l.length k) c.l ∧ (∀ a, p = some a → a.block ∉ F)
  inF : b ∈ F
  lt : ∀ x ∈ F, x < w.heap.size
  ok : c.Ok
section
variable {w w' : World} {F G : List Nat} {b : Nat} {c c' : Ca}
theorem CbAt.chg (H : CbAt w F b c) (hc : Chg G w w') (hG : ∀ x ∈ G, x ∈ F) (hb : b ∉ G) : CbAt w' F b c := by
  obtain ⟨⟨p, k, h1, h2, h3⟩, h4, h5, h6⟩ := H
  exact ⟨⟨p, k, hc.at h1 hb, ints_chg h2 hc (fun a n c e hm => by cases e; exact h3 a rfl (hG _ hm)), h3⟩, h4, fun x hx => Nat.lt_of_lt_of_le (h5 x hx) hc.size, h6⟩
theorem CbAt.grown (H : CbAt w F b c) (hg : w.grownBy w' none) : CbAt w' F b c := H.chg (chg_grown hg []) (by simp) (by simp)
theorem CbAt.drew (H : CbAt w F b c) : CbAt w.drew F b c := ⟨H.row, H.inF, H.lt, H.ok⟩
theorem CbAt.cells (H : CbAt w F b c) : w.cell? ⟨b, 0, none⟩ = some (.int .i64 (c.up : Int)) ∧ w.cell? ⟨b, 1, none⟩ = some (.int .i64 (c.down : Int)) ∧ ∀ k, w.frozen? ⟨b, k, none⟩ = false := by
  obtain ⟨⟨p, k, h1, -, -⟩, -⟩ := H
  exact ⟨at_cell h1 0, at_cell h1 1, fun k => at_free h1 k⟩
/-- another list in the block -/
theorem CbAt.put (H : CbAt w F b c) {p : Option Addr} {k : Nat} {l : List Int} (hl : IntsAt w (.slice p l.length k) l) (hp : ∀ a, p = some a → a.block ∉ F) (ho : ({ c with l := l } : Ca).Ok) :
    CbAt (w.setCell ⟨b, 2, none⟩ (.slice p l.length k)) F b { c with l := l } ∧ Chg [b] w (w.setCell ⟨b, 2, none⟩ (.slice p l.length k)) := by
  have hc : Chg [b] w (w.setCell ⟨b, 2, none⟩ (.slice p l.length k)) := (chg_refl w [b]).set (.inl (by simp)) _
  obtain ⟨⟨q, m, h1, -, -⟩, h4, h5, h6⟩ := H
  refine ⟨⟨⟨p, k, ?_, ints_chg hl hc (fun a n c e hm => by cases e; rw [List.mem_singleton] at hm; exact hp a rfl (hm ▸ h4)), hp⟩, h4, fun x hx => Nat.lt_of_lt_of_le (h5 x hx) hc.size, ho⟩, hc⟩
  rw [at_set h1]; rfl
end
end Go.Proofs.YtecggbndlbkhdaaGreat
end
section
set_option linter.unusedSimpArgs false
set_option linter.unusedVariables false
namespace Go.Proofs.YtecggbndlbkhdaaGreat
set_option maxRecDepth 100000
open Go.RowKit

end Go.Proofs.YtecggbndlbkhdaaGreat
end
