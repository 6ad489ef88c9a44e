/-
  Contract for package state: the epoch's end. The condition: the state lies there.
  Contract for package state: what a record does. The condition: the state lies there.
  Contract for package state: Do, in whole. The condition: the state lies there.
-/
import Derived.Test.YtecggbndlbkhdaaGreatJ0
import Derived.Test.YtecggbndlbkhdaaGreatY33
import Derived.Test.YtecggbndlbkhdaaGreatY34
import Derived.Test.YtecggbndlbkhdaaGreatY28
import Derived.Test.YtecggbndlbkhdaaGreatY4
import Derived.Deep.RegionHeld3
import Derived.Test.YtecggbndlbkhdaaGreatY24
section
set_option linter.unusedSimpArgs false
set_option linter.unusedVariables false
namespace Go.Proofs.YtecggbndlbkhdaaGreat
set_option maxRecDepth 100000
open Go.RowKit

theorem SuK.fresh {w W W' : World} {A : List Nat} {b : Nat} {c : Conf} {s : Ste} (h : SuK W A b c s W') (cs : Array Value) {b2 : Nat} (h2 : b2 ∉ A) (hl : b2 < W'.heap.size) (hs : w.heap.size ≤ W.heap.size) (hb : w.heap.size ≤ b2) (hW : b2 < W.heap.size := by omega) : SuK W (b2 :: A) b c s (W'.setRow b2 cs) := by
  obtain ⟨X, e, h1, hc, h3⟩ := h
  refine ⟨X, e, h1.chg (chg_setRow W' b2 cs) fun x hx hm => ?_, (hc.more fun x hx => List.mem_cons_of_mem _ hx).then ((chg_setRow W' b2 cs).more fun x hx => by rw [List.mem_singleton.1 hx]; exact List.mem_cons_self ..), fun x hx => (h3 x hx).imp (List.mem_cons_of_mem _) id⟩
  rw [List.mem_singleton.1 hm] at hx
  rcases h3 _ hx with h4 | h4
  · exact h2 h4
  · omega
/-- one step more, in blocks of the call's own besides -/
theorem SuK.thenx {w W W' : World} {A B : List Nat} {b : Nat} {c : Conf} {s : Ste} (hC : Chg A w W) (hX : ∀ x ∈ B, x ∈ A ∨ w.heap.size ≤ x) (h : SuK W B b c s W') : SuK w A b c s W' := by
  obtain ⟨Y, e, h1, h2, h3⟩ := h
  exact ⟨Y, e, h1, hC.trans h2 hX, fun x hx => (h3 x hx).elim (fun h => hX x h) (fun h => .inr (Nat.le_trans hC.size h))⟩
set_option maxHeartbeats 6400000 in
theorem end_walk {w : World} {X : SBl} {c : Conf} {s : Ste} (hK : StAt w X c s) {m : Nat} (hm : c.m = (m : Int)) (hm4 : m ≤ 4) (hlen : s.t.length ≤ 512) (hn0 : 0 ≤ s.now) (hn1 : s.now < 1099511627776) (hsc : s.s.ok) (hf : -9223372036854775808 ≤ c.f ∧ c.f ≤ 9223372036854775807)
    {rows : List (List Sm)} (hrows : (List.range m).map (fun k : Nat => heardL s.s.H (ofT s.t s.now (k : Int))) = rows) {vals : List Int} {ok : Bool} (hB : belR c.quorum c.f rows = (vals, ok)) (hmay : ok = true → s.l.may vals = true) (hds : s.ds.length ≤ 64) :
    Calls Tryz.prog 75 #[.pointer (some ⟨X.b, 0, none⟩)] w fun e w' => e = .returned (.tuple #[dcV (decOf s.l s.now vals ok), .int .i64 0]) ∧
      SuK w X.all X.b c { s with l := if ok = true then s.l.next vals else s.l.hold, s := s.s.close rows c.quorum, t := dropT s.t s.now, now := s.now + 1, ds := keep64 (s.ds ++ [decOf s.l s.now vals ok]) } w' := by
  have K0 := hid (hK.alloc (dcObj zD))
  have B2 := hid (at_new w (dcObj zD))
  have hne : ¬ s.now = 1099511627776 := by omega
  have HN1 := hid (show IntKind.i64.wrap (s.now + 1) = s.now + 1 from IntWalk.i64_in _ (by omega))
  have HSC := hid hsc; have HF := hid hf; have HM := hid hmay; have HDS := hid hds; have HTL := hid hlen; have HMM := hid hm
  have HWN := hid (show wf64 s.now from wf_small ⟨hn0, by omega⟩)
  have HB := hid hB; have HR := hid hrows
  have NX := hid (show w.heap.size ∉ X.all from fun h => Nat.lt_irrefl _ (hK.lt _ h))
  have LT := hid hK.lt
  obtain ⟨D, hD⟩ : ∃ D, decOf s.l s.now vals ok = D := ⟨_, rfl⟩
  obtain ⟨L', hL'⟩ : ∃ L', (if ok = true then s.l.next vals else s.l.hold) = L' := ⟨_, rfl⟩
  rw [hD, hL']
  have HD := hid hD; have HLP := hid hL'
  clear hD hL'
  clear hK hsc hf hmay hds hlen hB hrows hm hn0 hn1
  go_enter Tryz.func75, Tryz.ntmps75
  go_wp2_with fail
  refine (sunow_any K0.out).mono ?_
  rintro e w0 ⟨rfl, rfl⟩
  go_wp2_with fail
  refine (suheard_any K0.out (by have := HTL.out; omega) HMM.out hm4 s.now HWN.out).mono ?_
  rintro e w1 ⟨v, ls, rfl, hr, hls, hg⟩
  rw [HR.out] at hls
  have HRO := hid hr; have HLS := hid hls
  have T1 := hid (K0.out.grown hg); have B21 := hid (at_grown B2.out hg (by simp)); have G1 := hid (gb_trans (gb_alloc (.refl w none) (dcObj zD)) hg (.inl rfl))
  have HL4 := hid (show ls.length ≤ 4 by
    have : (ls.map Prod.snd).length = rows.length := by rw [hls]
    rw [List.length_map] at this
    rw [this, ← HR.out, List.length_map, List.length_range]; exact hm4)
  have HROW := hid (show ∀ x ∈ ls, x.2.length ≤ 1000 from fun x hx => by
    have h1 : x.2 ∈ rows := by rw [← hls]; exact List.mem_map_of_mem hx
    rw [← HR.out] at h1
    obtain ⟨k, _, hk⟩ := List.mem_map.1 h1
    have h2 := heardL_len s.s.H (ofT s.t s.now (k : Int))
    have h3 := ofT_len s.t s.now (k : Int)
    have h4 := HTL.out
    rw [← hk]; omega)
  have HL1 := hid (show ls.length ≤ 1000 by have := HL4.out; omega)
  have SZ1 := hid (show (w.alloc (dcObj zD)).heap.size = w.heap.size + 1 from size_new _ _)
  clear hr hls hg K0 B2
  go_wp2_with fail
  refine (decide_any T1.out s.now v ls HRO.out.reads HL4.out HROW.out HF.out (by rw [HLS.out]; exact HB.out) HM.out).mono ?_
  rintro e w2 ⟨rfl, ht, hc⟩
  rw [HD.out]
  rw [HLP.out] at ht
  have E2 := hid (show EnK w c X.b w.heap.size { s with l := L' } v ls (w.alloc (dcObj zD)).heap.size X w2 from
    ⟨rfl, ht, hc.at B21.out NX.out, ⟨Nat.le_refl _, NX.out⟩, fun A hA => (chg_grown G1.out A).then (hc.more hA), HRO.out.chg hc (fun x hx => by have := LT.out x hx; have := SZ1.out; omega), fun x hx => by have := LT.out x hx; have := SZ1.out; omega⟩)
  clear ht hc T1 B21 HRO LT
  have RN := hid (at_new w2 (dcObj D))
  have N6 := hid (show w2.heap.size ∉ X.all ∧ w2.heap.size ≠ w.heap.size from ⟨fun h => Nat.lt_irrefl _ (E2.out.st.lt _ h), fun h => by have := at_lt E2.out.r2; omega⟩)
  go_upto_region 6 with (first | refine wpList_store_new (w := w2) (cs := Dc.cells D) rfl (by kernel_rfl) (by kernel_rfl) (by kernel_rfl) rfl rfl rfl rfl rfl ?_)
  have E := hid ((E2.out.grown (World.grownBy_alloc w2 (dcObj D) none)).drew)
  have R6 := hid (show (w2.alloc (dcObj D)).drew.heap[w2.heap.size]? = some (dcObj D) from RN.out)
  generalize w2.heap.size = b6 at R6 N6 ⊢
  generalize w2.alloc (dcObj D) = W3 at *
  clear E2 RN
  refine wp_region_held_drew (S := (fun w' => (∃ s' : Ste, w'.heap[X.b]? = some (.cells (suCells c s'.now X) 132)))) (by kernel_rfl) ⟨s, E.out.st.row⟩ (fun hHeld => ?_)
  try dsimp only at hHeld
  refine jU 0 hHeld ?_
  try simp only [jX, jD, jE, jF]
  refine jU 1 hHeld ?_
  try simp only [jX, jD, jE, jF]
  refine jU 2 hHeld ?_
  try simp only [jX, jD, jE, jF]
  refine' jT 3 rfl (by rfl) ?_ hHeld ?_
  rotate_left
  · (intro w hSw; (try dsimp only at hSw); have R := hSw; obtain ⟨s', R⟩ := R; have c29 := at_cell R 29; have c3 := at_cell R 3; go_simp; try with_reducible rfl)
  try simp only [jX, jD, jE, jF]
  refine jU 4 hHeld ?_
  try simp only [jX, jD, jE, jF]
  refine jU 5 hHeld ?_
  try simp only [jX, jD, jE, jF]
  refine jU 6 hHeld ?_
  try simp only [jX, jD, jE, jF]
  refine jU 7 hHeld ?_
  try simp only [jX, jD, jE, jF]
  refine jU 8 hHeld ?_
  try simp only [jX, jD, jE, jF]
  refine' jT 9 rfl (by rfl) ?_ hHeld ?_
  rotate_left
  · (intro w hSw; (try dsimp only at hSw); have R := hSw; obtain ⟨s', R⟩ := R; have c29 := at_cell R 29; have c3 := at_cell R 3; go_simp; try with_reducible rfl)
  try simp only [jX, jD, jE, jF]
  refine jR [10] ?_
  refine jG rfl (fun K hK => ?_) AllReadyH.nil
  try simp only [jD, jE, jF]
  go_simp
  have hH2 := hHeld
  have R := hH2
  refine ((close_any E.out.st.score HSC.out v ls E.out.rows.reads HL1.out HROW.out c.quorum)).mono ?_
  rintro e w1010 ⟨u, rfl, -, hsa, hc⟩
  rw [HLS.out] at hsa
  have R6n := hid (hc.at R6.out (fun hm => N6.out.1 (by rw [List.mem_singleton.1 hm]; exact X.mt.2.2.2)))
  replace E := hid (E.out.step (E.out.st.scoreNew hsa hc) hc (fun x hx => by rw [List.mem_singleton.1 hx]; exact X.mt.2.2.2))
  have R : ∃ s' : Ste, w1010.heap[X.b]? = some (.cells (suCells c s'.now X) 132) := ⟨s, E.out.st.row⟩
  clear hsa hc
  have hg := True.intro
  have L10 := hid (show (∃ s' : Ste, w1010.heap[X.b]? = some (.cells (suCells c s'.now X) 132)) from R)
  clear hHeld hg R
  go_wp2_with fail
  refine hK.out _ _ ?_ (fun hHeld => ?_)
  · exact L10.out
  clear hK K
  try dsimp only at hHeld
  try simp only [jX, jD, jE, jF]
  refine wpAnyH_done (by kernel_rfl) ?_ _
  have R := hHeld
  clear R R6
  obtain ⟨-, -, c28, -⟩ := E.out.st.cells
  go_wp2_with fail
  refine (drop_any E.out.st.table (by show s.t.length ≤ 100000; have := HTL.out; omega) s.now).mono ?_
  rintro e w5 ⟨rfl, hta, hc5⟩
  have R7 := hid (hc5.at R6n.out (fun hm => N6.out.1 (by rw [List.mem_singleton.1 hm]; exact X.mt.2.1)))
  have E5 := hid (E.out.step (E.out.st.tableNew hta hc5) hc5 (fun x hx => by rw [List.mem_singleton.1 hx]; exact X.mt.2.1))
  clear hta hc5 c28 E R6n
  go_wp2_with fail
  refine (addn_i64 _ s.now 1 (s.now + 1) _ E5.out.st.cells.1 (E5.out.st.free 26) HN1.out).mono ?_
  rintro e w6 ⟨rfl, rfl⟩
  obtain ⟨hs6, hc6⟩ := E5.out.st.nowNew (s.now + 1)
  have R8 := hid (hc6.at R7.out (fun hm => N6.out.1 (by rw [List.mem_singleton.1 hm]; exact X.mb)))
  have E6 := hid (E5.out.step hs6 hc6 (fun x hx => by rw [List.mem_singleton.1 hx]; exact X.mb))
  clear hs6 hc6 E5 R7
  generalize w5.setCell ⟨X.b, 26, none⟩ (.int .i64 (s.now + 1)) = w7 at *
  go_wp2_with (refine wpList_row R8.out Tryz.underlying57 rfl (by kernel_rfl) rfl rfl rfl rfl ?_)
  refine (sukeep_any E6.out.st D HDS.out).mono ?_
  rintro e w8 ⟨rfl, hk⟩
  have K8 := hid hk
  obtain ⟨X8, -, -, hc8, -⟩ := hk
  have R9 := hid (hc8.at R8.out N6.out.1)
  have R2 := hid (hc8.at E6.out.r2 E6.out.n2.2)
  have CH := hid (E6.out.ch X.all (fun _ h => h))
  have N2 := hid E6.out.n2; have LB2 := hid (at_lt E6.out.r2)
  clear hc8 E6 R8
  go_wp2_with (first | refine wpList_row R9.out Tryz.underlying57 rfl (by kernel_rfl) rfl rfl rfl rfl ?_ | refine wpList_store_row (cs := Dc.cells D) R2.out (by kernel_rfl) (by kernel_rfl) (by kernel_rfl) rfl rfl rfl rfl rfl ?_)
  have H6 := at_setRow (cs := Dc.cells D) R2.out
  obtain ⟨e0, e1, e2, e3, e4, e5, e6, e7⟩ := dcObj_cells H6
  have FIN := hid (SuK.thenx CH.out (fun x hx => (List.mem_cons.1 hx).elim (fun e => .inr (by rw [e]; exact N2.out.1)) (fun h => .inl h)) (K8.out.fresh (Dc.cells D) N2.out.2 (at_lt R2.out) CH.out.size N2.out.1 LB2.out))
  exact bodyPost_ret (v := .tuple #[dcV D, .int .i64 0]) (by simp [results, Tryz.results75, go_sem, e0, e1, e2, e3, e4, e5, e6, e7]) rfl ⟨rfl, FIN.out⟩
end Go.Proofs.YtecggbndlbkhdaaGreat
end
section
set_option linter.unusedSimpArgs false
set_option linter.unusedVariables false
namespace Go.Proofs.YtecggbndlbkhdaaGreat
set_option maxRecDepth 100000
open Go.RowKit

@[reducible] def rcCells (k : Int) (m : Mg) : Array Value := #[.int .i64 k, .int .i64 m.kind, .int .i64 m.who, .int .i64 m.gen, .int .i64 m.seq, .int .i64 m.epoch, .int .i64 m.value, .int .i64 m.metric]
@[reducible] def rcV (k : Int) (m : Mg) : Value := .agg (rcCells k m)
@[reducible] def rcObj (k : Int) (m : Mg) : Obj := .cells (rcCells k m) 39
def isClose (k : Int) (m : Mg) : Bool := k == 3 && msgEq m zeroM
theorem isClose_iff {k : Int} {m : Mg} : isClose k m = true ↔ k = 3 ∧ m = zeroM := by unfold isClose; simp [msgEq_iff]
set_option maxHeartbeats 1600000 in
theorem rec_equal (k : Int) (m : Mg) (w : World) : (Op.equalIn 10000 39 (rcV k m) (.agg #[.int .i64 3, .int .i64 0, .int .i64 0, .int .i64 0, .int .i64 0, .int .i64 0, .int .i64 0, .int .i64 0])).run Tryz.prog w = .ok (isClose k m) w := by
  unfold isClose msgEq zeroM
  rw [run_equalIn_agg w 9999 39 (rcCells k m) #[.int .i64 3, .int .i64 0, .int .i64 0, .int .i64 0, .int .i64 0, .int .i64 0, .int .i64 0, .int .i64 0] (by kernel_rfl) (by kernel_rfl)]
  simp [go_sem]
  (repeat' split) <;> simp [*]
/-- a record of a message that is taken -/
def isTk (k : Int) (m : Mg) : Bool := (k == 1 && (m.kind == 1 || m.kind == 3)) || (k == 2 && m.kind == 2)
theorem istaken_any (k : Int) (m : Mg) (w : World) :
    Calls Tryz.prog 76 #[rcV k m] w fun e w' => e = .returned (.bool (isTk k m)) ∧ w.grownBy w' none := by
  have K := hid (at_new w (rcObj k m))
  have G := hid (gb_alloc (.refl w none) (rcObj k m))
  have c0 := at_cell K.out 0
  have c1 := at_cell K.out 1
  obtain ⟨mk, mw, mg', ms, me, mv, mm⟩ := m
  unfold isTk
  dsimp only at *
  by_cases h1 : k = 1
  · subst h1
    by_cases h2 : mk = 1
    · subst h2
      go_enter Tryz.func76, Tryz.ntmps76
      go_wp2_with fail
      go_ret
      exact ⟨by first | rfl | simp, by first | exact G.out | exact gb_drew G.out⟩
    · by_cases h3 : mk = 3
      · subst h3
        go_enter Tryz.func76, Tryz.ntmps76
        go_wp2_with fail
        go_ret
        exact ⟨by first | rfl | simp, by first | exact G.out | exact gb_drew G.out⟩
      · go_enter Tryz.func76, Tryz.ntmps76
        go_wp2_with fail
        go_ret
        exact ⟨by simp [h2, h3], by first | exact G.out | exact gb_drew G.out⟩
  · by_cases h4 : k = 2
    · subst h4
      by_cases h2 : mk = 2
      · subst h2
        go_enter Tryz.func76, Tryz.ntmps76
        go_wp2_with fail
        go_ret
        exact ⟨by first | rfl | simp, by first | exact G.out | exact gb_drew G.out⟩
      · go_enter Tryz.func76, Tryz.ntmps76
        go_wp2_with fail
        go_ret
        exact ⟨by simp [h2], by first | exact G.out | exact gb_drew G.out⟩
    · go_enter Tryz.func76, Tryz.ntmps76
      go_wp2_with fail
      go_ret
      exact ⟨by simp [h1, h4], by first | exact G.out | exact gb_drew G.out⟩
theorem end_last {w : World} {X : SBl} {c : Conf} {s : Ste} (hK : StAt w X c s) (hn : s.now = 1099511627776) :
    Calls Tryz.prog 75 #[.pointer (some ⟨X.b, 0, none⟩)] w fun e w' => e = .returned (.tuple #[dcV zD, .int .i64 1]) ∧ w.grownBy w' none := by
  have K0 := hid (hK.alloc (dcObj zD))
  have B2 := hid (at_new w (dcObj zD))
  have NW := hid (sunow_any K0.out)
  rw [hn] at NW
  clear hK hn
  go_enter Tryz.func75, Tryz.ntmps75
  go_wp2_with fail
  refine NW.out.mono ?_
  rintro e w0 ⟨rfl, rfl⟩
  go_wp2_with (first | refine wpList_store_row (cs := Dc.cells zD) B2.out (by kernel_rfl) (by kernel_rfl) (by kernel_rfl) rfl rfl rfl rfl rfl ?_ | refine wpList_buildTo (ty := 57) (cs := Dc.cells zD) rfl rfl rfl (by kernel_rfl) ?_)
  have H6 := at_setRow (cs := Dc.cells zD) B2.out
  obtain ⟨e0, e1, e2, e3, e4, e5, e6, e7⟩ := dcObj_cells H6
  exact bodyPost_ret (v := .tuple #[dcV zD, .int .i64 1]) (by simp [results, Tryz.results75, go_sem, e0, e1, e2, e3, e4, e5, e6, e7]) rfl ⟨rfl, gb_setRow (gb_alloc (.refl w none) _) (Nat.le_refl _)⟩
end Go.Proofs.YtecggbndlbkhdaaGreat
end
section
set_option linter.unusedSimpArgs false
set_option linter.unusedVariables false
namespace Go.Proofs.YtecggbndlbkhdaaGreat
set_option maxRecDepth 100000
open Go.RowKit

/-- what Do keeps: the record's box, the answer's -/
structure DoK (w : World) (k : Int) (m : Mg) (X : SBl) (c : Conf) (s : Ste) (W : World) : Prop where
  st : StAt W X c s
  r3 : W.heap[w.heap.size]? = some (rcObj k m)
  b4 : W.heap[w.heap.size + 1]? = some (dcObj zD)
  gr : w.grownBy W none
  lt : ∀ x ∈ X.all, x < w.heap.size
theorem DoK.grown {w W W' : World} {k : Int} {m : Mg} {X : SBl} {c : Conf} {s : Ste} (h : DoK w k m X c s W) (hg : W.grownBy W' none) : DoK w k m X c s W' := ⟨h.st.grown hg, at_grown h.r3 hg (by simp), at_grown h.b4 hg (by simp), gb_trans h.gr hg (.inl rfl), h.lt⟩
theorem DoK.start {w : World} {k : Int} {m : Mg} {X : SBl} {c : Conf} {s : Ste} (h : StAt w X c s) : DoK w k m X c s ((w.alloc (rcObj k m)).alloc (dcObj zD)) := by
  refine ⟨(h.alloc _).alloc _, at_alloc (at_new w _) _, ?_, gb_alloc (gb_alloc (.refl w none) _) _, h.lt⟩
  have := at_new (w.alloc (rcObj k m)) (dcObj zD)
  rwa [size_new] at this
/-- the answer is stored behind the state's change -/
theorem DoK.fin {w W W' : World} {k : Int} {m : Mg} {X : SBl} {c : Conf} {s s' : Ste} (h : DoK w k m X c s W) (hk : SuK W X.all X.b c s' W') (cs : Array Value) :
    SuK w X.all X.b c s' (W'.setRow (w.heap.size + 1) cs) ∧ W'.heap[w.heap.size + 1]? = some (dcObj zD) := by
  have n : w.heap.size + 1 ∉ X.all := fun hm => by have := h.lt _ hm; omega
  have hr : W'.heap[w.heap.size + 1]? = some (dcObj zD) := by
    obtain ⟨_, _, _, hc, _⟩ := hk; exact hc.at h.b4 n
  refine ⟨SuK.thenx (chg_grown h.gr X.all) (fun x hx => ?_) (hk.fresh cs n (at_lt hr) h.gr.size (by omega) (at_lt h.b4)), hr⟩
  rcases List.mem_cons.1 hx with e | hx
  · exact .inr (by rw [e]; omega)
  · exact .inl hx
set_option maxHeartbeats 1600000 in
theorem do_close {w : World} {X : SBl} {c : Conf} {s s' : Ste} {k z : Int} {m : Mg} {D : Dc} (hK : StAt w X c s) (hc : isClose k m = true)
    (CE : ∀ u, StAt u X c s → Calls Tryz.prog 75 #[.pointer (some ⟨X.b, 0, none⟩)] u fun e w' => e = .returned (.tuple #[dcV D, .int .i64 z]) ∧ SuK u X.all X.b c s' w') :
    Calls Tryz.prog 24 #[.pointer (some ⟨X.b, 0, none⟩), rcV k m] w fun e w' => e = .returned (.tuple #[dcV D, .int .i64 z]) ∧ SuK w X.all X.b c s' w' := by
  have K0 := hid (DoK.start (k := k) (m := m) hK)
  have M0 := hid (sumade_any K0.out.st)
  have CE0 := hid (CE _ K0.out.st)
  have he := rec_equal k m
  rw [hc] at he
  have R3 := hid K0.out.r3
  clear hK hc CE
  go_enter Tryz.func24, Tryz.ntmps24
  go_wp2_with fail
  refine M0.out.mono ?_
  rintro e w0 ⟨rfl, rfl⟩
  go_wp2_with (first | refine wpList_row R3.out Tryz.underlying39 rfl (by kernel_rfl) rfl rfl rfl rfl ?_ | refine wpList_buildTo (ty := 39) (cs := #[.int .i64 3, .int .i64 0, .int .i64 0, .int .i64 0, .int .i64 0, .int .i64 0, .int .i64 0, .int .i64 0]) rfl rfl rfl (by kernel_rfl) ?_)
  refine CE0.out.mono ?_
  rintro e w1 ⟨rfl, hk⟩
  obtain ⟨hF, hB⟩ := K0.out.fin hk D.cells
  have F0 := hid hF; have B4 := hid hB
  clear hk hF hB CE0 M0 R3 K0 he
  go_wp2_with (refine wpList_store_row (cs := D.cells) B4.out (by kernel_rfl) (by kernel_rfl) (by kernel_rfl) rfl rfl rfl rfl rfl ?_)
  have H6 := at_setRow (cs := D.cells) B4.out
  obtain ⟨e0, e1, e2, e3, e4, e5, e6, e7⟩ := dcObj_cells H6
  exact bodyPost_ret (v := .tuple #[dcV D, .int .i64 z]) (by simp [results, Tryz.results24, go_sem, e0, e1, e2, e3, e4, e5, e6, e7]) rfl ⟨rfl, F0.out⟩
set_option maxHeartbeats 1600000 in
theorem do_not {w : World} {X : SBl} {c : Conf} {s : Ste} {k : Int} {m : Mg} (hK : StAt w X c s) (hc : isClose k m = false) (ht : isTk k m = false) :
    Calls Tryz.prog 24 #[.pointer (some ⟨X.b, 0, none⟩), rcV k m] w fun e w' => e = .returned (.tuple #[dcV zD, .int .i64 1]) ∧ SuK w X.all X.b c s w' := by
  have K0 := hid (DoK.start (k := k) (m := m) hK)
  have M0 := hid (sumade_any K0.out.st)
  have IT := hid (fun u => istaken_any k m u)
  rw [ht] at IT
  have he := rec_equal k m
  rw [hc] at he
  have R3 := hid K0.out.r3
  clear hK hc ht
  go_enter Tryz.func24, Tryz.ntmps24
  go_wp2_with fail
  refine M0.out.mono ?_
  rintro e w0 ⟨rfl, rfl⟩
  go_wp2_with (first | refine wpList_row R3.out Tryz.underlying39 rfl (by kernel_rfl) rfl rfl rfl rfl ?_ | refine wpList_buildTo (ty := 39) (cs := #[.int .i64 3, .int .i64 0, .int .i64 0, .int .i64 0, .int .i64 0, .int .i64 0, .int .i64 0, .int .i64 0]) rfl rfl rfl (by kernel_rfl) ?_)
  refine (IT.out _).mono ?_
  rintro e w1 ⟨rfl, hg⟩
  have K1 := hid (K0.out.grown hg)
  obtain ⟨hF, hB⟩ := K1.out.fin K1.out.st.suk zD.cells
  have F0 := hid hF; have B4 := hid hB
  clear hg hF hB M0 R3 K0 K1 he IT
  go_wp2_with (first | refine wpList_store_row (cs := zD.cells) B4.out (by kernel_rfl) (by kernel_rfl) (by kernel_rfl) rfl rfl rfl rfl rfl ?_ | refine wpList_buildTo (ty := 57) (cs := zD.cells) rfl rfl rfl (by kernel_rfl) ?_)
  have H6 := at_setRow (cs := zD.cells) B4.out
  obtain ⟨e0, e1, e2, e3, e4, e5, e6, e7⟩ := dcObj_cells H6
  exact bodyPost_ret (v := .tuple #[dcV zD, .int .i64 1]) (by simp [results, Tryz.results24, go_sem, e0, e1, e2, e3, e4, e5, e6, e7]) rfl ⟨rfl, F0.out⟩
end Go.Proofs.YtecggbndlbkhdaaGreat
end
