/-
  Contract for package state: what is decided. The condition: the state lies there, rows of samples that read.
  Contract: slices.Delete of the oldest of sixty-four decisions. The condition: the slice is the call's own, of sixty-four.
-/
import Derived.Test.YtecggbndlbkhdaaGreatY30
import Derived.Test.YtecggbndlbkhdaaGreatY21
import Derived.Laws.CopyRow
import Derived.Test.YtecggbndlbkhdaaGreatY10
import Derived.Deep.RegionLaw
import Derived.Deep.LoopGhost
import Derived.Shelf.RegionOpenPlain
section
set_option linter.unusedSimpArgs false
set_option linter.unusedVariables false
namespace Go.Proofs.YtecggbndlbkhdaaGreat
set_option maxRecDepth 100000
open Go.RowKit

@[reducible] def Dc.cells (d : Dc) : Array Value := #[.int .i64 d.ep, .int .i64 d.rep, .int .i64 d.want, .bool d.hold, .int .i64 d.v0, .int .i64 d.v1, .int .i64 d.v2, .int .i64 d.v3]
@[reducible] def dcObj (d : Dc) : Obj := .cells d.cells 57
def withV (d : Dc) (vs : List Int) : Dc := { d with v0 := vs.getD 0 0, v1 := vs.getD 1 0, v2 := vs.getD 2 0, v3 := vs.getD 3 0 }
theorem copy_dc {w : World} {b : Nat} {d : Dc} (hb : w.heap[b]? = some (dcObj d)) (hd : d.v0 = 0 ∧ d.v1 = 0 ∧ d.v2 = 0 ∧ d.v3 = 0) {v : Value} {l : List Int} (hv : IntsAt w v l) (hl : l.length ≤ 4) (ty : TypeId) :
    ∃ w', (Builtin.copy_ #[73, 73] ty #[.slice (some ⟨b, 4, none⟩) 4 4, v]).run Tryz.prog w = .ok (goInt l.length) w' ∧ w'.heap[b]? = some (dcObj (withV d l)) ∧ Chg [b] w w' := by
  obtain ⟨i, hi, hz0, hz1, hz2⟩ := info_parts info_i64
  have hsz : (Tryz.prog.info? 2).map (·.size) = some 1 := by rw [hi]; simp [hz1]
  obtain ⟨ep, rep, want, hold, v0, v1, v2, v3⟩ := d
  obtain ⟨rfl, rfl, rfl, rfl⟩ := hd
  rcases hv with ⟨rfl, rfl⟩ | ⟨a, cap, rfl, h1, h2, h3⟩
  · refine ⟨w, ?_, hb, chg_refl _ _⟩
    exact run_copy_nil Tryz.prog w 73 73 ty 2 ⟨b, 4, none⟩ 4 4 Tryz.underlying73 (by rw [hi]; rfl)
  · have hmin : (l.map iv).length = Nat.min l.length 4 := by rw [List.length_map]; exact (Nat.min_eq_left hl).symm
    refine ⟨_, (run_copy_row Tryz.prog w 73 73 ty 2 b 4 4 4 a l.length cap _ _ (l.map iv) Tryz.underlying73 hsz hb hmin (fun j x hj => ?_) (by rw [List.length_map]; show 4 + l.length ≤ 8; omega) (fun x hx => ?_)).trans (by rw [List.length_map]), ?_, ?_⟩
    · rw [List.getElem?_map] at hj
      by_cases hlt : j < l.length
      · rw [List.getElem?_eq_getElem hlt] at hj; cases hj; exact h3 j hlt
      · rw [List.getElem?_eq_none (by omega)] at hj; cases hj
    · obtain ⟨c, _, rfl⟩ := List.mem_map.1 hx; rfl
    · rw [setRow_heap w b _ _ _ _ hb]
      rcases l with _ | ⟨a0, _ | ⟨a1, _ | ⟨a2, _ | ⟨a3, _ | ⟨a4, l⟩⟩⟩⟩⟩ <;> first | rfl | (exfalso; simp at hl; done) | (exfalso; simp at hl; omega)
    · exact ⟨rfl, rfl, rfl, by simp [World.setRow], fun k hk hn => setRow_other w b k _ (by intro e; exact hn (by simp [e]))⟩
/-- what comes of an epoch -/
def decOf (L : La) (ep : Int) (vs : List Int) (ok : Bool) : Dc := if ok = true then withV ⟨ep, L.come vs, L.want vs, false, 0, 0, 0, 0⟩ vs else ⟨ep, L.n, 0, true, 0, 0, 0, 0⟩
theorem dcObj_cells {w : World} {b : Nat} {d : Dc} (h : w.heap[b]? = some (dcObj d)) : w.cell? ⟨b, 0, none⟩ = some (.int .i64 d.ep) ∧ w.cell? ⟨b, 1, none⟩ = some (.int .i64 d.rep) ∧ w.cell? ⟨b, 2, none⟩ = some (.int .i64 d.want) ∧ w.cell? ⟨b, 3, none⟩ = some (.bool d.hold) ∧ w.cell? ⟨b, 4, none⟩ = some (.int .i64 d.v0) ∧ w.cell? ⟨b, 5, none⟩ = some (.int .i64 d.v1) ∧ w.cell? ⟨b, 6, none⟩ = some (.int .i64 d.v2) ∧ w.cell? ⟨b, 7, none⟩ = some (.int .i64 d.v3) :=
  ⟨at_cell h 0, at_cell h 1, at_cell h 2, at_cell h 3, at_cell h 4, at_cell h 5, at_cell h 6, at_cell h 7⟩
@[reducible] def zD : Dc := ⟨0, 0, 0, false, 0, 0, 0, 0⟩
/-- what the walk keeps: the state beside two blocks of the call's own -/
structure DcK (w : World) (X : SBl) (c : Conf) (s : Ste) (b6 b7 : Nat) (d : Dc) (W : World) : Prop where
  st : StAt W X c s
  r6 : W.heap[b6]? = some (dcObj zD)
  r7 : W.heap[b7]? = some (dcObj d)
  ch : Chg X.all w W
  n6 : w.heap.size ≤ b6 ∧ b6 ∉ X.all
  n7 : w.heap.size ≤ b7 ∧ b7 ∉ X.all
  ne : b6 ≠ b7
section
variable {w W W' : World} {X : SBl} {c : Conf} {s s' : Ste} {b6 b7 : Nat} {d d' : Dc}
theorem DcK.grown (h : DcK w X c s b6 b7 d W) (hg : W.grownBy W' none) : DcK w X c s b6 b7 d W' := ⟨h.st.grown hg, at_grown h.r6 hg (by simp), at_grown h.r7 hg (by simp), h.ch.grown hg, h.n6, h.n7, h.ne⟩
theorem DcK.law (h : DcK w X c s b6 b7 d W) {L : La} (hl : LaAt W' X.l L) (hc : Chg X.l.F W W') : DcK w X c { s with l := L } b6 b7 d W' :=
  ⟨h.st.lawNew hl hc, hc.at h.r6 fun hm => h.n6.2 (X.ml hm), hc.at h.r7 fun hm => h.n7.2 (X.ml hm), h.ch.then (hc.more fun x hx => X.ml hx), h.n6, h.n7, h.ne⟩
theorem DcK.set (h : DcK w X c s b6 b7 d W) (hr : W'.heap[b7]? = some (dcObj d')) (hc : Chg [b7] W W') : DcK w X c s b6 b7 d' W' :=
  ⟨h.st.chg hc fun x hx hm => h.n7.2 (by rw [← List.mem_singleton.1 hm]; exact hx), hc.at h.r6 (by simpa using h.ne), hr, h.ch.trans hc fun x hx => .inr (by rw [List.mem_singleton.1 hx]; exact h.n7.1), h.n6, h.n7, h.ne⟩
theorem DcK.start (h : StAt w X c s) (d : Dc) : DcK w X c s w.heap.size (w.heap.size + 1) d ((w.alloc (dcObj zD)).alloc (dcObj d)) := by
  have n : ∀ y, w.heap.size ≤ y → y ∉ X.all := fun y hy hm => by have := h.lt y hm; omega
  refine ⟨(h.alloc _).alloc _, at_alloc (at_new w _) _, ?_, ((chg_refl w _).alloc _).alloc _, ⟨Nat.le_refl _, n _ (Nat.le_refl _)⟩, ⟨Nat.le_succ _, n _ (Nat.le_succ _)⟩, by omega⟩
  have := at_new (w.alloc (dcObj zD)) (dcObj d)
  rwa [World.size_alloc] at this
theorem chg_setRow (w : World) (b : Nat) (cs : Array Value) : Chg [b] w (w.setRow b cs) := ⟨rfl, rfl, rfl, by simp [World.setRow], fun k hk hn => setRow_other w b k _ (by intro e; exact hn (by simp [e]))⟩
theorem DcK.fin (h : DcK w X c s b6 b7 d W) (cs : Array Value) : StAt (W.setRow b6 cs) X c s ∧ Chg X.all w (W.setRow b6 cs) :=
  ⟨h.st.chg (chg_setRow W b6 cs) fun x hx hm => h.n6.2 (by rw [← List.mem_singleton.1 hm]; exact hx), h.ch.trans (chg_setRow W b6 cs) fun x hx => .inr (by rw [List.mem_singleton.1 hx]; exact h.n6.1)⟩
end
theorem ints_past {w w' : World} {p : Option Addr} {cu b : Nat} {l : List Int} (h : IntsAt w (.slice p l.length cu) l) (hc : Chg [b] w w') (hn : ∀ a n k, (Value.slice p l.length cu) = .slice (some a) n k → a.block ≠ b) : IntsAt w' (.slice p l.length cu) l := by
  rcases h with h | ⟨a, cap, e, h1, h2, h3⟩
  · exact .inl h
  · refine .inr ⟨a, cap, e, h1, h2, fun i hi => hc.cell (h3 i hi) ?_⟩
    have := hn a _ _ e
    intro hm
    rw [List.mem_singleton] at hm
    exact this (by rw [← hm]; unfold Addr.add; split <;> rfl)
set_option maxHeartbeats 3200000 in
theorem decide_no {w : World} {X : SBl} {c : Conf} {s : Ste} (hK : StAt w X c s) (ep : Int) (v : Value) (ls : List (Value × List Sm)) (hv : RowsS w v ls) (hL : ls.length ≤ 1000) (hrow : ∀ x ∈ ls, x.2.length ≤ 1000) (hf : -9223372036854775808 ≤ c.f ∧ c.f ≤ 9223372036854775807) (hB : belR c.quorum c.f (ls.map Prod.snd) = ([], false)) :
    Calls Tryz.prog 152 #[.pointer (some ⟨X.b, 0, none⟩), .int .i64 ep, v] w fun e w' => e = .returned (dcV ⟨ep, s.l.n, 0, true, 0, 0, 0, 0⟩) ∧ StAt w' X c { s with l := s.l.hold } ∧ Chg X.all w w' := by
  have K0 := hid (DcK.start hK ⟨ep, 0, 0, false, 0, 0, 0, 0⟩)
  have gg := gb_alloc (gb_alloc (.refl w none) (dcObj zD)) (dcObj ⟨ep, 0, 0, false, 0, 0, 0, 0⟩)
  have BV := hid (believe_any K0.out.st v ls (hv.grown gg) hL hrow hf)
  rw [hB] at BV
  clear hK hv hL hrow hf hB gg
  go_enter Tryz.func152, Tryz.ntmps152
  go_wp2_with fail
  refine BV.out.mono ?_
  rintro e w1 ⟨u, rfl, ho, hg⟩
  have K1 := hid (K0.out.grown hg)
  obtain ⟨pu, cu, rfl⟩ := ho.form
  clear ho hg K0 BV
  generalize w.heap.size + 1 = b7 at K1
  generalize hb6 : w.heap.size = b6 at K1
  clear hb6
  obtain ⟨-, -, -, -, c30, -⟩ := K1.out.st.cells
  go_wp2_with fail
  refine (lhold_any K1.out.st.law).mono ?_
  rintro e w2 ⟨rfl, hl, hc⟩
  have K2 := hid (K1.out.law hl hc)
  clear hl hc c30 K1
  obtain ⟨e0, e1, e2, e3, e4, e5, e6, e7⟩ := dcObj_cells K2.out.r7
  have fz := at_free K2.out.r7
  go_upto_region 5 with fail
  have hr : ((w2.setCell ⟨b7, 1, none⟩ (.int .i64 s.l.n)).setCell ⟨b7, 3, none⟩ (.bool true)).heap[b7]? = some (dcObj ⟨ep, s.l.n, 0, true, 0, 0, 0, 0⟩) := at_set (at_set K2.out.r7 1 _) 3 _
  have K3 := hid (K2.out.set hr (((chg_refl w2 [b7]).set (.inl (by simp)) _).set (.inl (by simp)) _))
  clear hr e0 e1 e2 e3 e4 e5 e6 e7 fz K2
  generalize (w2.setCell ⟨b7, 1, none⟩ (.int .i64 s.l.n)).setCell ⟨b7, 3, none⟩ (.bool true) = w3 at *
  have R6 := hid K3.out.r6; have R7 := hid K3.out.r7
  generalize hz : s.l.n = z at *
  go_wp2_with (first | refine wpList_row R7.out Tryz.underlying57 rfl (by kernel_rfl) rfl rfl rfl rfl ?_ | refine wpList_store_row (cs := Dc.cells ⟨ep, z, 0, true, 0, 0, 0, 0⟩) R6.out (by kernel_rfl) (by kernel_rfl) (by kernel_rfl) rfl rfl rfl rfl rfl ?_)
  have H6 := at_setRow (cs := Dc.cells ⟨ep, z, 0, true, 0, 0, 0, 0⟩) R6.out
  have F6 := hid (K3.out.fin (Dc.cells ⟨ep, z, 0, true, 0, 0, 0, 0⟩))
  obtain ⟨e0, e1, e2, e3, e4, e5, e6, e7⟩ := dcObj_cells H6
  exact bodyPost_ret (v := dcV ⟨ep, z, 0, true, 0, 0, 0, 0⟩) (by simp [results, Tryz.results152, go_sem, e0, e1, e2, e3, e4, e5, e6, e7]) rfl (by subst hz; exact ⟨rfl, F6.out.1, F6.out.2⟩)
set_option maxHeartbeats 3200000 in
theorem decide_yes {w : World} {X : SBl} {c : Conf} {s : Ste} (hK : StAt w X c s) (ep : Int) (v : Value) (ls : List (Value × List Sm)) (hv : RowsS w v ls) (hL : ls.length ≤ 1000) (hrow : ∀ x ∈ ls, x.2.length ≤ 1000) (hf : -9223372036854775808 ≤ c.f ∧ c.f ≤ 9223372036854775807) (vals : List Int) (hB : belR c.quorum c.f (ls.map Prod.snd) = (vals, true)) (hm : s.l.may vals = true) (hl4 : vals.length ≤ 4) :
    Calls Tryz.prog 152 #[.pointer (some ⟨X.b, 0, none⟩), .int .i64 ep, v] w fun e w' => e = .returned (dcV (withV ⟨ep, s.l.come vals, s.l.want vals, false, 0, 0, 0, 0⟩ vals)) ∧ StAt w' X c { s with l := s.l.next vals } ∧ Chg X.all w w' := by
  have K0 := hid (DcK.start hK ⟨ep, 0, 0, false, 0, 0, 0, 0⟩)
  have gg := gb_alloc (gb_alloc (.refl w none) (dcObj zD)) (dcObj ⟨ep, 0, 0, false, 0, 0, 0, 0⟩)
  have BV := hid (believe_any K0.out.st v ls (hv.grown gg) hL hrow hf)
  rw [hB] at BV
  have HM := hid hm; have H4 := hid hl4
  have LT := hid (show ∀ x ∈ X.all, x < ((w.alloc (dcObj zD)).alloc (dcObj ⟨ep, 0, 0, false, 0, 0, 0, 0⟩)).heap.size from K0.out.st.lt)
  clear hK hv hL hrow hf hB gg hm hl4
  go_enter Tryz.func152, Tryz.ntmps152
  go_wp2_with fail
  refine BV.out.mono ?_
  rintro e w1 ⟨u, rfl, ho, hg⟩
  have K1 := hid (K0.out.grown hg)
  have HO := hid ho
  have NU := hid (show ∀ g, g ∈ ownL u → g ∉ X.all from fun g hgm hm => by have h1 := (ho.at g hgm).1; have h2 := LT.out g hm; omega)
  have NB := hid (show ∀ g, g ∈ ownL u → g ≠ w.heap.size + 1 from fun g hgm e => by have h1 := (ho.at g hgm).1; have h2 := at_lt K0.out.r7; omega)
  obtain ⟨pu, cu, rfl⟩ := ho.form
  clear ho hg K0 BV LT
  generalize w.heap.size + 1 = b7 at K1 NB
  generalize hb6 : w.heap.size = b6 at K1
  clear hb6
  obtain ⟨-, -, -, -, c30, -⟩ := K1.out.st.cells
  go_wp2_with fail
  refine (lnext_yes HM.out K1.out.st.law HO.out.ints).mono ?_
  rintro e w2 ⟨rfl, hl, hc⟩
  have K2 := hid (K1.out.law hl hc)
  have HI := hid (HO.out.chg hc (fun g hgm hm => NU.out g hgm (X.ml hm))).ints
  clear hl hc c30 K1 HO NU
  have HNB := hid (show ∀ a n k, (Value.slice pu vals.length cu) = .slice (some a) n k → a.block ≠ b7 from fun a n k e => NB.out _ (by cases e; simp [ownL, Value.ownBlock]))
  clear NB
  obtain ⟨e0, e1, e2, e3, e4, e5, e6, e7⟩ := dcObj_cells K2.out.r7
  have fz := at_free K2.out.r7
  generalize hy : s.l.come vals = y at *
  generalize hx : s.l.want vals = x at *
  go_upto_region 7 with fail
  have hr : ((w2.setCell ⟨b7, 1, none⟩ (.int .i64 y)).setCell ⟨b7, 2, none⟩ (.int .i64 x)).heap[b7]? = some (dcObj ⟨ep, y, x, false, 0, 0, 0, 0⟩) := at_set (at_set K2.out.r7 1 _) 2 _
  have hc2 := ((chg_refl w2 [b7]).set (.inl (by simp)) (p := ⟨b7, 1, none⟩) (.int .i64 y)).set (.inl (by simp)) (p := ⟨b7, 2, none⟩) (.int .i64 x)
  have K3 := hid (K2.out.set hr hc2)
  have HI3 := hid (ints_past HI.out hc2 HNB.out)
  clear hr hc2 e0 e1 e2 e3 e4 e5 e6 e7 fz K2 HI HNB
  generalize (w2.setCell ⟨b7, 1, none⟩ (.int .i64 y)).setCell ⟨b7, 2, none⟩ (.int .i64 x) = w3 at *
  obtain ⟨w4, hcp, hr4, hc4⟩ := copy_dc K3.out.r7 ⟨rfl, rfl, rfl, rfl⟩ HI3.out H4.out 3
  have K4 := hid (K3.out.set hr4 hc4)
  clear hr4 hc4 K3 HI3
  go_upto_region 8 with fail
  have R6 := hid K4.out.r6; have R7 := hid K4.out.r7
  have HW := hid (show (withV ⟨ep, y, x, false, 0, 0, 0, 0⟩ vals).cells = (withV ⟨ep, y, x, false, 0, 0, 0, 0⟩ vals).cells from rfl)
  generalize hd : withV ⟨ep, y, x, false, 0, 0, 0, 0⟩ vals = D at *
  go_wp2_with (first | refine wpList_row R7.out Tryz.underlying57 rfl (by kernel_rfl) rfl rfl rfl rfl ?_ | refine wpList_store_row (cs := Dc.cells D) R6.out (by kernel_rfl) (by kernel_rfl) (by kernel_rfl) rfl rfl rfl rfl rfl ?_)
  have H6 := at_setRow (cs := Dc.cells D) R6.out
  have F6 := hid (K4.out.fin (Dc.cells D))
  obtain ⟨e0, e1, e2, e3, e4, e5, e6, e7⟩ := dcObj_cells H6
  exact bodyPost_ret (v := dcV D) (by simp [results, Tryz.results152, go_sem, e0, e1, e2, e3, e4, e5, e6, e7]) rfl (by subst hd; subst hy; subst hx; exact ⟨rfl, F6.out.1, F6.out.2⟩)
/-- what is decided -/
theorem decide_any {w : World} {X : SBl} {c : Conf} {s : Ste} (hK : StAt w X c s) (ep : Int) (v : Value) (ls : List (Value × List Sm)) (hv : RowsS w v ls) (hL : ls.length ≤ 4) (hrow : ∀ x ∈ ls, x.2.length ≤ 1000) (hf : -9223372036854775808 ≤ c.f ∧ c.f ≤ 9223372036854775807) {vals : List Int} {ok : Bool} (hB : belR c.quorum c.f (ls.map Prod.snd) = (vals, ok)) (hm : ok = true → s.l.may vals = true) :
    Calls Tryz.prog 152 #[.pointer (some ⟨X.b, 0, none⟩), .int .i64 ep, v] w fun e w' => e = .returned (dcV (decOf s.l ep vals ok)) ∧ StAt w' X c { s with l := if ok = true then s.l.next vals else s.l.hold } ∧ Chg X.all w w' := by
  cases ok with
  | true =>
    refine decide_yes hK ep v ls hv (by omega) hrow hf vals hB (hm rfl) ?_
    unfold belR at hB
    split at hB
    · cases hB; rw [List.length_map, List.length_map]; omega
    · cases hB
  | false =>
    unfold belR at hB
    split at hB
    · cases hB
    · next h =>
      refine decide_no hK ep v ls hv (by omega) hrow hf ?_
      unfold belR; rw [if_neg h]
end Go.Proofs.YtecggbndlbkhdaaGreat
end
section
set_option linter.unusedSimpArgs false
set_option linter.unusedVariables false
namespace Go.Proofs.YtecggbndlbkhdaaGreat
set_option maxRecDepth 100000
open Go.RowKit Go.Lib

def dz8 : List Value := [.int .i64 0, .int .i64 0, .int .i64 0, .bool false, .int .i64 0, .int .i64 0, .int .i64 0, .int .i64 0]
theorem cellsD_len (d : Dc) : (cellsD d).length = 8 := rfl
theorem dz_zero (w : World) : (zeroValue 57).run Tryz.prog w = .ok (.agg dz8.toArray) w := by
  obtain ⟨i, hi, hz0, hz1, hz2⟩ := info_parts infoD
  simp [zeroValue, typeInfo, hi, hz0, dz8]
set_option maxHeartbeats 3200000 in
theorem ddel_any {w : World} {g cap : Nat} {l : List Dc} (h : OwnD 0 w (.slice (some ⟨g, 0, none⟩) 64 cap) l) (hl : l.length = 64) :
    Calls Tryz.prog 251 #[.slice (some ⟨g, 0, none⟩) 64 cap, .int .i64 0, .int .i64 1] w fun e w' => e = .returned (.slice (some ⟨g, 0, none⟩) 63 cap) ∧ OwnD 0 w' (.slice (some ⟨g, 0, none⟩) 63 cap) (l.drop 1) ∧ Chg [g] w w' := by
  obtain ⟨i, hi, hz0, hz1, hz2⟩ := info_parts infoD
  obtain ⟨h0, h1 | ⟨g', cap', cur, e, -, hb, hcap, hmx, hcs, htk⟩⟩ := h
  · cases h1.1
  rw [hl] at e
  cases e
  obtain ⟨L, hL⟩ : ∃ L, cur.toList = L := ⟨_, rfl⟩
  have hcur : cur = L.toArray := by rw [← hL]
  subst hcur
  rw [hl] at htk
  rw [hl] at hcap
  have hLs : L.length = cap * 8 := by simpa using hcs
  obtain ⟨R, hR⟩ : ∃ R, L = flatD l ++ R := ⟨L.drop (64 * 8), by rw [← htk]; exact (List.take_append_drop _ _).symm⟩
  subst hR
  obtain ⟨news, hnews⟩ : ∃ n, flatD (l.drop 1) = n := ⟨_, rfl⟩
  have hnl : news.length = 504 := by rw [← hnews, flatD_len, List.length_drop, hl]
  have hrow : w.drew.heap[g]? = some (.cells (flatD l ++ R).toArray 57 (0, 0)) := hb
  have hdrop : news = (flatD l).drop 8 := by rw [← hnews]; exact (flat_drop cellsD cellsD_len l 1).symm
  have hfl : (flatD l).length = 512 := by rw [flatD_len, hl]
  have s0 : Hid (∀ j u, news[j]? = some u → w.drew.cell? (Addr.add ⟨g, 8, none⟩ j) = some u) := hid fun j u hu => by
    rw [dadd_at, at_cell hrow]
    rw [hdrop, List.getElem?_drop] at hu
    rw [List.getElem?_toArray, List.getElem?_append_left (by have := (List.getElem?_eq_some_iff.1 hu).1; omega)]
    exact hu
  have s1 : Hid (news.length = 63 * 8) := hid hnl
  have s2 : Hid (∀ u ∈ news, u.oneCell' = true) := hid fun u hu => by
    rw [← hnews] at hu
    obtain ⟨x, _, hx⟩ := List.mem_flatMap.1 hu
    simp only [cellsD, List.mem_cons, List.not_mem_nil, or_false] at hx
    rcases hx with rfl | rfl | rfl | rfl | rfl | rfl | rfl | rfl <;> rfl
  have s3 : Hid (∀ j, j < news.length → (w.drew.cell? ⟨g, 0 + 0 * 8 + j, none⟩).isSome = true ∧ w.drew.frozen? ⟨g, 0 + 0 * 8 + j, none⟩ = false) := hid fun j hj => by
    refine ⟨?_, at_free hrow _⟩
    rw [at_cell hrow, List.getElem?_toArray, List.getElem?_append_left (by omega), List.getElem?_eq_getElem (by omega)]
    rfl
  obtain ⟨W1, hW1⟩ : ∃ W1, W1 = w.drew.setCells g (0 + 0 * 8) news := ⟨_, rfl⟩
  have r1 : W1.heap[g]? = some (.cells (overV (flatD l ++ R) news 0).toArray 57 (0, 0)) := by
    rw [hW1]; exact at_setCells news 0 w.drew _ hrow (by rw [List.length_append]; omega)
  have c1 : Chg [g] w W1 := by rw [hW1]; exact ((chg_refl w [g]).drew).then (chg_setCells news _ _)
  have hov : (overV (flatD l ++ R) news 0).length = cap * 8 := by rw [overV_len (by rw [List.length_append]; omega)]; exact hLs
  have hcl : ∀ ty, (Builtin.clear_ #[48] ty #[.slice (some ⟨g, 504, none⟩) 1 (cap - 63)]).run Tryz.prog W1 = .ok (.tuple #[]) (W1.setCells g 504 ((List.replicate 1 dz8).flatMap id)) := fun ty =>
    run_clear_rows 48 57 ty (.agg dz8.toArray) dz8 Tryz.underlying48 dz_zero (by rfl) (by decide) (by intro u hu; simp only [dz8, List.mem_cons, List.not_mem_nil, or_false] at hu; rcases hu with rfl | rfl | rfl | rfl | rfl | rfl | rfl | rfl <;> rfl) g 504 1 _ (by decide)
      (fun j hj => by
        have hj : j < 8 := hj
        rw [at_cell r1, List.getElem?_toArray, List.getElem?_eq_getElem (by omega)]; rfl) (fun j hj => at_free r1 _)
  have e1 : (List.replicate 1 dz8).flatMap id = dz8 := rfl
  rw [e1] at hcl
  have r2 := hid (at_setCells dz8 504 W1 _ r1 (by rw [hov]; show 504 + 8 ≤ _; omega))
  have c2 := hid (c1.then (chg_setCells dz8 504 W1))
  have FIN := hid (show overV (overV (flatD l ++ R) news 0) dz8 504 = flatD (l.drop 1 ++ [⟨0, 0, 0, false, 0, 0, 0, 0⟩]) ++ R by
    have a1 : overV (flatD l ++ R) news 0 = flatD (l.drop 1 ++ l.drop 63) ++ R := by
      have := flat_mid cellsD cellsD_len l (l.drop 1) 0 (by rw [List.length_drop]; omega) R
      rw [Nat.zero_mul, List.take_zero, List.nil_append, List.length_drop, hl] at this
      rw [← hnews]; exact this
    rw [a1]
    have := flat_over cellsD cellsD_len (l.drop 1 ++ l.drop 63) 63 (by rw [List.length_append, List.length_drop, List.length_drop]; omega) ⟨0, 0, 0, false, 0, 0, 0, 0⟩ R
    have e2 : (l.drop 1 ++ l.drop 63).set 63 (⟨0, 0, 0, false, 0, 0, 0, 0⟩ : Dc) = l.drop 1 ++ [⟨0, 0, 0, false, 0, 0, 0, 0⟩] := by
      rw [List.set_append_right _ _ (by rw [List.length_drop]; omega), List.length_drop, hl]
      have : (l.drop 63).length = 1 := by rw [List.length_drop]; omega
      obtain ⟨y, hy⟩ := List.length_eq_one_iff.1 this
      rw [hy]; rfl
    rw [e2] at this
    exact this)
  have HW : Hid (W1 = w.drew.setCells g (0 + 0 * 8) news) := hid hW1
  have HC := hid (show 63 ≤ cap ∧ 1 ≤ cap ∧ 64 ≤ cap ∧ cap ≤ maxLen from ⟨by omega, by omega, hcap, hmx⟩)
  have HL := hid (show (l.drop 1).length = 63 by rw [List.length_drop]; omega)
  have HR := hid (show (flatD (l.drop 1 ++ [⟨0, 0, 0, false, 0, 0, 0, 0⟩]) ++ R).length = cap * 8 by rw [← FIN.out, overV_len (by rw [hov]; show 504 + 8 ≤ _; omega)]; exact hov)
  have i1 : 64 ≤ cap := hcap
  have i2 : 1 ≤ cap := by omega
  have i3 : ¬ cap = 1 := by omega
  have i4 : 63 ≤ cap := by omega
  have i5 : ¬ cap = 63 := by omega
  clear hW1 r1 c1 hov hnews hnl hrow hdrop hfl hb hcs hLs hl htk h0
  go_enter Tryz.func251, Tryz.ntmps251
  go_wp2_with fail
  go_region_law (refine step_append_room rfl (.tmp 22) (.tmp 25) 48 rfl 57 i 8 Tryz.underlying48 hi hz1 g 0 0 cap (by simp [Act.eval, Act.put]) ⟨g, 8, none⟩ 63 (cap - 1) news (by simp [Act.eval, Act.put]) s1.out s0.out s2.out (by omega) s3.out ?_; rw [← HW.out])
  go_wp2
  go_ret
  refine ⟨rfl, ?_, c2.out⟩
  have h2 := r2.out
  rw [FIN.out] at h2
  refine ⟨by rw [flatD_len], .inr ⟨g, cap, _, by rw [HL.out], Nat.zero_le _, h2, by rw [HL.out]; exact HC.out.1, HC.out.2.2.2, ?_, ?_⟩⟩
  · rw [List.size_toArray]; exact HR.out
  · have e3 : flatD (l.drop 1 ++ [⟨0, 0, 0, false, 0, 0, 0, 0⟩]) ++ R = flatD (l.drop 1) ++ (flatD [⟨0, 0, 0, false, 0, 0, 0, 0⟩] ++ R) := by rw [flatD_append, List.append_assoc]
    rw [HL.out]
    show (flatD (l.drop 1 ++ [⟨0, 0, 0, false, 0, 0, 0, 0⟩]) ++ R).take (63 * 8) = _
    rw [e3, List.take_append_of_le_length (by rw [flatD_len, HL.out]; exact Nat.le_refl _), List.take_of_length_le (by rw [flatD_len, HL.out]; exact Nat.le_refl _)]
end Go.Proofs.YtecggbndlbkhdaaGreat
end
