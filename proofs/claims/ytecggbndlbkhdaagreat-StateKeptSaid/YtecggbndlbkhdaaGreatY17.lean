/-
  Contract for package calm: one more want is put behind the others, the oldest goes for it. The condition: the object lies there, the want may be.
  Contracts for package calm: Next, All, Set, New, of nil too. The condition of a call: the object lies there, slices read as numbers.
  Contracts for the answer of package conf, which is made once: a part that may not be makes it, if no part ahead of it did. The condition: the answer's block is as the program makes it, its lock free.
  Contracts for package calm: Set, New, of nil too. The condition of a call: the object lies there, slices read as numbers.
  Literals of numbers: what a new block of them reads as. No condition. Nothing of the program's functions is named here.
  Contract: the law's own examples: the program tells what the document says of a few. And: what a walk keeps of objects of the call's own. No condition.
-/
import Derived.Test.YtecggbndlbkhdaaGreatJ0
import Derived.Test.YtecggbndlbkhdaaGreatNCaB
import Derived.Test.YtecggbndlbkhdaaGreatY4
import Derived.Test.YtecggbndlbkhdaaGreatY13
import Derived.Deep.RegionHeld3
import Derived.Test.YtecggbndlbkhdaaGreatY6
import Derived.Test.YtecggbndlbkhdaaGreatY2
import Derived.Test.YtecggbndlbkhdaaGreatY20
section
set_option linter.unusedSimpArgs false
set_option linter.unusedVariables false
namespace Go.Proofs.YtecggbndlbkhdaaGreat
set_option maxRecDepth 100000
open Go.RowKit

theorem push_full {c : Ca} (h : c.l.length = c.most) (w : Int) : (c.push w).l = c.l.drop 1 ++ [mill w] := by
  have h1 : 1 ≤ c.most := by unfold Ca.most; omega
  show lastL (c.l ++ [mill w]) c.most = _
  unfold lastL
  rw [List.length_append, List.length_singleton, show c.l.length + 1 - c.most = 1 by omega, List.drop_append_of_le_length (by omega)]
theorem push_room {c : Ca} (h : c.l.length < c.most) (w : Int) : (c.push w).l = c.l ++ [mill w] := by
  show lastL (c.l ++ [mill w]) c.most = _
  exact lastL_all (by rw [List.length_append, List.length_singleton]; omega)
/-- what is kept of a call that puts x behind -/
def Putted (w : World) (b : Nat) (c : Ca) (e : Ending) (w' : World) : Prop := e = .returned (.tuple #[]) ∧ CaAt w' b c ∧ Chg [b] w w'
theorem put_fin {w w2 w3 : World} {b : Nat} {c : Ca} {ws : List Int} {K : Nat} {x : Int} {l0 : List Int} (ho : (c.push x).Ok) (h61 : ws.length = 61) (hx : mill x = x) (hl : ws.take K = l0) (hK : K < 61) (h0 : l0.length = K) (hp : (c.push x).l = l0 ++ [mill x])
    (hr : w3.heap[b]? = some (.cells (caCells c.up c.down (K + 1) ws) 356)) (hc : Chg [b] w w3) :
    CaAt (w3.setCell ⟨b, 3 + K, none⟩ (.int .i64 x)) b (c.push x) ∧ Chg [b] w (w3.setCell ⟨b, 3 + K, none⟩ (.int .i64 x)) := by
  have hlen : (c.push x).l.length = K + 1 := by rw [hp, List.length_append, h0]; rfl
  refine ⟨⟨⟨ws.set K x, by rw [List.length_set, h61], ?_, ?_⟩, ho⟩, hc.set (.inl (by simp)) _⟩
  · rw [hlen, List.take_succ_eq_append_getElem (by rw [List.length_set]; omega), hp, List.getElem_set_self, List.take_set_of_le (Nat.le_refl _), hl, hx]
  · rw [hlen]
    exact row_want hr K x

set_option maxHeartbeats 1600000 in
theorem caput_any {b : Nat} {c : Ca} (x : Int) (hx : mill x = x) {w : World} (H : CaAt w b c) :
    Calls Tryz.prog 367 #[.pointer (some ⟨b, 0, none⟩), .int .i64 x] w (Putted w b (c.push x)) := by
  have A := hid (all_any H)
  have R := hid (fun W (h : w.grownBy W none) => room_any (H.grown h))
  have hml := most_le H.ok
  have hok := hid (Ca.push_ok H.ok x)
  have hn := H.ok.n
  have HH := hid H
  have PF := hid (fun h => push_full (c := c) h x)
  have PR := hid (fun h => push_room (c := c) h x)
  obtain ⟨⟨ws, h61, htk, hrow⟩, -⟩ := H
  have H61 := hid h61; have HTK := hid htk
  have hrw := hid (fun W (h : w.grownBy W none) => at_grown hrow h (by simp))
  have HX := hid hx
  have m1 : 1 ≤ c.most := by unfold Ca.most; omega
  obtain ⟨m, hm⟩ : ∃ m, c.most = m := ⟨_, rfl⟩
  obtain ⟨n, hN⟩ : ∃ n, c.l.length = n := ⟨_, rfl⟩
  rw [hm] at R hml hn m1
  rw [hN] at A hn hrw
  have HM := hid hm; have HN := hid hN
  clear hm hN h61 htk hrow hx
  by_cases hf : n = m
  · subst hf
    have s0 : ((n : Int) == (n : Int)) = true := by simp
    obtain ⟨K, hK⟩ : ∃ K, n = K + 1 := ⟨n - 1, by omega⟩
    have HKK := hid hK
    have AC := hid (arr_all b); have A1 := hid (arr_one b)
    have hs := fun u => arr_all b u
    have hs1 := fun u => arr_one b u
    clear hK
    go_enter Tryz.func367, Tryz.ntmps367
    go_wp2_with fail
    refine A.out.mono ?_
    rintro e w1 ⟨rfl, hg1⟩
    have G1 := hid hg1; clear hg1
    go_wp2_with fail
    refine (R.out _ G1.out).mono ?_
    rintro e w2 ⟨rfl, hg2⟩
    have G2 := hid (gb_trans G1.out hg2 (.inl rfl)); clear hg2
    go_wp2_with fail
    have HS := hid (hrw.out _ (gb_drew G2.out))
    have HI4 := hid (show IntsAt w2.drew (.slice (some ⟨b, 4, none⟩) 60 60) (ws.drop 1) from .inr ⟨_, 60, by rw [List.length_drop, H61.out], by rw [List.length_drop, H61.out]; omega, by unfold maxLen; omega, fun i hi => by
      rw [List.length_drop, H61.out] at hi
      rw [iadd_at, at_cell HS.out, show 4 + i = 3 + (1 + i) by omega, ca_cellk, List.getElem_drop, List.getElem?_eq_getElem]; rfl⟩)
    have hcp := fun ty => copy_into HS.out H61.out HI4.out (by rw [List.length_drop]; have := H61.out; omega) ty
    obtain ⟨w3, hc1, hc2, hc3⟩ := hcp 3
    rw [List.length_drop, H61.out] at hc1 hc2
    have HC2 := hid hc2; have HC3 := hid hc3
    clear hc2 hc3 hcp
    go_region
    go_wp2_with fail
    refine (keptn (m := K) HC2.out (-1) (K : Int) (by rw [IntWalk.i64_in _ (by omega)]; have := HKK.out; omega) rfl).mono ?_
    rintro e wq ⟨rfl, hrow, hch⟩
    have HROW0 := hid (show wq.drew.heap[b]? = _ from hrow)
    have HC := hid (show Chg [b] w wq.drew from ((chg_grown (gb_drew G2.out) [b]).then HC3.out).then hch |>.drew)
    have HFIN := hid (fun (w3 : World) hr hc => put_fin (w := w) (w2 := w) (w3 := w3) (b := b) (c := c) (ws := ws.drop 1 ++ ws.drop (61 - 1)) (K := K) (x := x) (l0 := c.l.drop 1) hok.out (by rw [List.length_append, List.length_drop, List.length_drop, H61.out]) HX.out (by
      have hk := HKK.out
      rw [List.take_append_of_le_length (by rw [List.length_drop, H61.out]; omega), List.take_drop, show 1 + K = n by omega, ← HN.out, HTK.out]) (by have := HKK.out; omega) (by rw [List.length_drop, HN.out, HKK.out]; rfl) (PF.out (HN.out.trans HM.out.symm)) hr hc)
    have HK5 := hid (show K < (ws.drop 1 ++ ws.drop (61 - 1)).length by rw [List.length_append, List.length_drop, List.length_drop, H61.out]; have := HKK.out; omega)
    generalize ws.drop 1 ++ ws.drop (61 - 1) = ws1 at *
    clear hrow hch HC2 HC3 HI4 HS hc1 w3 HTK H61
    have hk61 : K < 61 := by have := HKK.out; omega
    obtain ⟨z, hz⟩ : ∃ z : Int, z = (K : Int) + 1 := ⟨_, rfl⟩
    have HZ := hid (show IntKind.i64.wrap ((K : Int) + 1) = z by rw [← hz]; exact IntWalk.i64_in _ (by omega))
    have HZK := hid (show z = ((K + 1 : Nat) : Int) by omega)
    have s5 : IntKind.i64.wrap (z - 1) = (K : Int) := by rw [IntWalk.i64_in _ (by omega)]; omega
    have k5 : (K : Int) < 61 := by omega
    clear hz HKK s0
    go_wp2_with fail
    refine wp_region_last (S := (fun w' => (True))) 10 10 #[false, false, false, false, false, false, false, false, false, false, true] (by kernel_rfl) (by kernel_rfl) (by kernel_rfl) (by kernel_rfl) trivial (fun hHeld => ?_)
    try dsimp only at hHeld
    refine jU 0 hHeld ?_
    try simp only [jX, jD, jE, jF]
    refine jU 1 hHeld ?_
    try simp only [jX, jD, jE, jF]
    refine jU 2 hHeld ?_
    try simp only [jX, jD, jE, jF]
    refine jU 3 hHeld ?_
    try simp only [jX, jD, jE, jF]
    refine jU 6 hHeld ?_
    try simp only [jX, jD, jE, jF]
    refine jU 7 hHeld ?_
    try simp only [jX, jD, jE, jF]
    refine jU 8 hHeld ?_
    try simp only [jX, jD, jE, jF]
    refine jR [4] ?_
    refine jG rfl (fun K hK => ?_) AllReadyH.nil
    try simp only [jD, jE, jF]
    go_simp
    have hH2 := hHeld
    have hp := hH2
    refine (keptn HROW0.out 1 z HZ.out HZK.out).mono ?_
    rintro e w1004 ⟨rfl, hrow, hch⟩
    have HR2 := hid hrow; have HC2 := hid (HC.out.then hch); clear hrow hch
    have hg := True.intro
    have L4 := hid (show (True) from hp)
    clear hHeld hg hp
    go_wp2_with fail
    refine hK.out _ _ ?_ (fun hHeld => ?_)
    · exact L4.out
    clear hK K
    try dsimp only at hHeld
    try simp only [jX, jD, jE, jF]
    refine jU 5 hHeld ?_
    try simp only [jX, jD, jE, jF]
    refine jU 9 hHeld ?_
    try simp only [jX, jD, jE, jF]
    refine wpAnyH_done (by kernel_rfl) ?_ _
    have hp := hHeld
    have c5 := at_cell HR2.out (3 + K); have f5 := at_free HR2.out (3 + K)
    rw [ca_cellk, List.getElem?_eq_getElem HK5.out] at c5
    clear hp
    refine atLast_step (o := _) rfl (fun K hK => ?_)
    try simp only [jD, jE, jF]
    go_simp
    refine hK.out _ _ ?_
    clear hK K c5 f5
    try simp only [jX, jD, jE, jF]
    go_wp2_with fail
    go_end0
    exact ⟨rfl, HFIN.out _ HR2.out HC2.out⟩
  · have s0 : ((n : Int) == (m : Int)) = false := by simp; omega
    obtain ⟨K, hK⟩ : ∃ K, n = K := ⟨n, rfl⟩
    subst hK
    have s0' : ¬ (n : Int) = (m : Int) := by omega
    have hk61 : n < 61 := by omega
    have HLT := hid (show n < m by omega)
    clear hf
    go_enter Tryz.func367, Tryz.ntmps367
    go_wp2_with fail
    refine A.out.mono ?_
    rintro e w1 ⟨rfl, hg1⟩
    have G1 := hid hg1; clear hg1
    go_wp2_with fail
    refine (R.out _ G1.out).mono ?_
    rintro e wq ⟨rfl, hg2⟩
    have G2 := hid (gb_trans G1.out hg2 (.inl rfl)); clear hg2
    have HROW := hid (hrw.out _ (gb_drew G2.out))
    have HC := hid (chg_grown (gb_drew G2.out) [b])
    have HFIN := hid (fun (w3 : World) hr hc => put_fin (w := w) (w2 := w) (w3 := w3) (b := b) (c := c) (ws := ws) (K := n) (x := x) (l0 := c.l) hok.out H61.out HX.out (by rw [← HN.out]; exact HTK.out) hk61 HN.out (PR.out (by rw [HN.out, HM.out]; exact HLT.out)) hr hc)
    have HK5 := hid (show n < ws.length by rw [H61.out]; exact hk61)
    obtain ⟨z, hz⟩ : ∃ z : Int, z = (n : Int) + 1 := ⟨_, rfl⟩
    have HZ := hid (show IntKind.i64.wrap ((n : Int) + 1) = z by rw [← hz]; exact IntWalk.i64_in _ (by omega))
    have HZK := hid (show z = ((n + 1 : Nat) : Int) by omega)
    have s5 : IntKind.i64.wrap (z - 1) = (n : Int) := by rw [IntWalk.i64_in _ (by omega)]; omega
    have k5 : (n : Int) < 61 := by omega
    clear hz HTK H61
    go_wp2_with fail
    refine wp_region_last (S := (fun w' => (True))) 10 10 #[false, false, false, false, false, false, false, false, false, false, true] (by kernel_rfl) (by kernel_rfl) (by kernel_rfl) (by kernel_rfl) trivial (fun hHeld => ?_)
    try dsimp only at hHeld
    refine jU 0 hHeld ?_
    try simp only [jX, jD, jE, jF]
    refine jU 1 hHeld ?_
    try simp only [jX, jD, jE, jF]
    refine jU 2 hHeld ?_
    try simp only [jX, jD, jE, jF]
    refine jU 3 hHeld ?_
    try simp only [jX, jD, jE, jF]
    refine jU 6 hHeld ?_
    try simp only [jX, jD, jE, jF]
    refine jU 7 hHeld ?_
    try simp only [jX, jD, jE, jF]
    refine jU 8 hHeld ?_
    try simp only [jX, jD, jE, jF]
    refine jR [4] ?_
    refine jG rfl (fun K hK => ?_) AllReadyH.nil
    try simp only [jD, jE, jF]
    go_simp
    have hH2 := hHeld
    have hp := hH2
    refine (keptn HROW.out 1 z HZ.out HZK.out).mono ?_
    rintro e w1004 ⟨rfl, hrow, hch⟩
    have HR2 := hid hrow; have HC2 := hid (HC.out.then hch); clear hrow hch
    have hg := True.intro
    have L4 := hid (show (True) from hp)
    clear hHeld hg hp
    go_wp2_with fail
    refine hK.out _ _ ?_ (fun hHeld => ?_)
    · exact L4.out
    clear hK K
    try dsimp only at hHeld
    try simp only [jX, jD, jE, jF]
    refine jU 5 hHeld ?_
    try simp only [jX, jD, jE, jF]
    refine jU 9 hHeld ?_
    try simp only [jX, jD, jE, jF]
    refine wpAnyH_done (by kernel_rfl) ?_ _
    have hp := hHeld
    have c5 := at_cell HR2.out (3 + n); have f5 := at_free HR2.out (3 + n)
    rw [ca_cellk, List.getElem?_eq_getElem HK5.out] at c5
    clear hp
    refine atLast_step (o := _) rfl (fun K hK => ?_)
    try simp only [jD, jE, jF]
    go_simp
    refine hK.out _ _ ?_
    clear hK K c5 f5
    try simp only [jX, jD, jE, jF]
    go_wp2_with fail
    go_end0
    exact ⟨rfl, HFIN.out _ HR2.out HC2.out⟩
end Go.Proofs.YtecggbndlbkhdaaGreat
end
section
set_option linter.unusedSimpArgs false
set_option linter.unusedVariables false
namespace Go.Proofs.YtecggbndlbkhdaaGreat
set_option maxRecDepth 100000
open Go.RowKit

theorem push_mill (c : Ca) (x : Int) : c.push (mill x) = c.push x := by
  unfold Ca.push; rw [mill_id (mill_in x)]
theorem lo_in {c : Ca} (h : c.Ok) (hne : c.l ≠ []) : 0 ≤ c.lo ∧ c.lo ≤ 1000000 := h.m _ (lastL_mem (loL_mem (lastL_ne hne (Nat.succ_pos _))))
theorem hi_in {c : Ca} (h : c.Ok) (hne : c.l ≠ []) : 0 ≤ c.hi ∧ c.hi ≤ 1000000 := h.m _ (lastL_mem (hiL_mem (lastL_ne hne (Nat.succ_pos _))))
theorem out_plain {c : Ca} (h : c.Ok) (hne : c.l ≠ []) (n : Int) : c.out n = min c.hi (max n c.lo) := by
  have h1 := lo_in h hne; have h2 := hi_in h hne
  unfold Ca.out mill; omega
def Nexted (w : World) (b : Nat) (c : Ca) (n : Int) (e : Ending) (w' : World) : Prop := e = .returned (.int .i64 (c.out n)) ∧ CaAt w' b c ∧ Chg [b] w w'
set_option maxHeartbeats 1600000 in
theorem next_any {b : Nat} {c : Ca} (n x : Int) {w : World} (H : CaAt w b c) :
    Calls Tryz.prog 315 #[.pointer (some ⟨b, 0, none⟩), .int .i64 n, .int .i64 x] w (Nexted w b (c.push x) n) := by
  have P := hid (caput_any (mill x) (mill_id (mill_in x)) H)
  rw [push_mill] at P
  have hne := Ca.push_ne c x
  have hok := Ca.push_ok H.ok x
  have ho := hid (out_plain hok hne n)
  have TA := hid (tame_any x)
  generalize c.push x = c1 at *
  generalize mill x = y at *
  have hu := hok.u; have hd := hok.d
  have L1 := hid (fun (W : World) (h : CaAt W b c1) => last_any c1.up hu h)
  have L2 := hid (fun (W : World) (h : CaAt W b c1) => last_any c1.down hd h)
  have N1 := hid (lastL_ne hne (Nat.succ_pos c1.up))
  have N2 := hid (lastL_ne hne (Nat.succ_pos c1.down))
  have CC := hid (fun (W : World) (h : CaAt W b c1) => h.cells)
  clear hu hd hok hne H
  go_enter Tryz.func315, Tryz.ntmps315
  go_wp2_with fail
  refine (TA.out _).mono ?_
  rintro e w0 ⟨rfl, rfl⟩
  go_wp2_with fail
  refine P.out.mono ?_
  rintro e w1 ⟨rfl, hc, hg⟩
  have H1 := hid hc; have G1 := hid hg
  obtain ⟨c0, -, -, -⟩ := CC.out _ hc
  clear hc hg P
  go_wp2_with fail
  refine (L1.out _ H1.out).mono ?_
  rintro e w2 ⟨⟨v, rfl, hv⟩, hg⟩
  have V := hid hv; have H2 := hid (H1.out.grown hg); have G2 := hid (G1.out.grown hg)
  clear hv hg c0
  go_wp2_with fail
  refine (min_any _ _ _ V.out N1.out).mono ?_
  rintro e w3 ⟨rfl, rfl⟩
  obtain ⟨-, c0, -, -⟩ := CC.out _ H2.out
  obtain ⟨z1, hz1⟩ : ∃ z, loL (lastL c1.l (c1.up + 1)) = z := ⟨_, rfl⟩
  rw [hz1]
  have Z1 := hid hz1; clear hz1
  go_wp2_with fail
  refine (L2.out _ H2.out).mono ?_
  rintro e w4 ⟨⟨u, rfl, hv⟩, hg⟩
  have U := hid hv; have H4 := hid (H2.out.grown hg); have G4 := hid (G2.out.grown hg)
  clear hv hg c0
  go_wp2_with fail
  refine (max_any _ _ _ U.out N2.out).mono ?_
  rintro e w5 ⟨rfl, rfl⟩
  obtain ⟨z2, hz2⟩ : ∃ z, hiL (lastL c1.l (c1.down + 1)) = z := ⟨_, rfl⟩
  rw [hz2]
  have Z2 := hid hz2; clear hz2
  go_wp2_with fail
  all_goals go_ret
  all_goals exact ⟨congrArg (fun z => Ending.returned (.int .i64 z)) (by
    have e1 : c1.lo = z1 := Z1.out
    have e2 : c1.hi = z2 := Z2.out
    rw [ho.out, e1, e2]; try omega), H4.out, G4.out⟩
theorem clone_any (a : Addr) (n c : Nat) (l : List Int) (w : World) (h : IntsAt w (.slice (some a) n c) l) (hn : l.length ≤ 999999) :
    Calls Tryz.prog 193 #[.slice (some a) n c] w fun e w' => (∃ v, e = .returned v ∧ OwnN w.heap.size w' v l) ∧ w.grownBy w' none := by
  have HI := hid h
  have hnil := Lib.run_eql_slice_nil w 22 3 (some a) n c 0 0 Tryz.underlying22
  have HE := hid (OwnN.empty w)
  have HB := hid (HI.out.alloc (.cells #[] 3))
  have HL := hid hn
  clear h hn
  go_enter Tryz.func193, Tryz.ntmps193
  go_wp2_with (refine append_nums rfl _ _ rfl w.heap.size _ [] rfl HE.out _ l rfl HB.out (by have := HL.out; simp; omega) (gb_size (gb_alloc (.refl w none) _)) ?_; intro v' w' hown hgrow hat)
  go_ret
  exact ⟨⟨_, rfl, by simpa using hown⟩, gb_ownN (gb_alloc (.refl w none) _) HE.out (Nat.le_refl _) hgrow⟩
/-- All -/
theorem alls_any {b : Nat} {c : Ca} {w : World} (H : CaAt w b c) :
    Calls Tryz.prog 94 #[.pointer (some ⟨b, 0, none⟩)] w fun e w' => (∃ v, e = .returned v ∧ OwnN w.heap.size w' v c.l) ∧ w.grownBy w' none := by
  have A := hid (all_any H)
  have hn := H.ok.n61
  have C1 := hid (fun (W : World) (h : w.grownBy W none) => clone_any _ _ _ c.l W (H.grown h).ints (by omega))
  generalize c.l = l at *
  clear H
  go_enter Tryz.func94, Tryz.ntmps94
  go_wp2_with fail
  refine A.out.mono ?_
  rintro e w1 ⟨rfl, hg⟩
  have G1 := hid hg; clear hg
  go_wp2_with fail
  refine (C1.out _ G1.out).mono ?_
  rintro e w2 ⟨⟨v, rfl, hv⟩, hg⟩
  have V := hid (hv.le G1.out.size); have G2 := hid (gb_trans G1.out hg (.inl rfl))
  clear hv hg
  go_wp2_with fail
  go_ret
  exact ⟨⟨_, rfl, V.out⟩, G2.out⟩
end Go.Proofs.YtecggbndlbkhdaaGreat
end
section
set_option linter.unusedSimpArgs false
namespace Go.Proofs.YtecggbndlbkhdaaGreat
set_option maxRecDepth 100000
open Go.RowKit

/-- a block that is an answer: not made, or made with a name -/
@[reducible] def ansObj (done : Int) (s : ByteArray) : Obj := .cells #[.int .u32 done, .int .i32 0, .int .u32 0, .string s] 338
/-- which name, if one -/
@[reducible] def told1 : Option ByteArray → Obj
  | none => ansObj 0 ⟨#[]⟩
  | some s => ansObj 1 s
def ask1 (st : Option ByteArray) (s : ByteArray) (may : Bool) : Option ByteArray :=
  match st with
  | some r => some r
  | none => if may then none else some s

set_option maxHeartbeats 1600000 in
theorem cslow_any (b nb pb : Nat) (hk : b ≠ nb) (hp : b ≠ pb) (s : ByteArray) (w : World)
    (hb : w.heap[b]? = some (ansObj 0 ⟨#[]⟩))
    (hnb : w.heap[nb]? = some (.cells #[.string s] 9))
    (hpb : w.heap[pb]? = some (.cells #[.pointer (some ⟨b, 0, none⟩)] 411)) :
    Calls Tryz.prog 353 #[.pointer (some ⟨b, 0, none⟩), .func (.func 299) #[] #[.pointer (some ⟨nb, 0, none⟩), .pointer (some ⟨pb, 0, none⟩)]] w fun e w' => e = .returned (.tuple #[]) ∧
      w'.heap[b]? = some (ansObj 1 s) ∧ w.grownBy w' (some b) := by
  -- the world in which the lock is held
  have hb1 := at_set hb 1 (.int .i32 1)
  have hnb1 := at_set_other (p := ⟨b, 1, none⟩) hnb (fun h => hk h.symm) (.int .i32 1)
  have hpb1 := at_set_other (p := ⟨b, 1, none⟩) hpb (fun h => hp h.symm) (.int .i32 1)
  have c1 : w.cell? ⟨b, 1, none⟩ = some (.int .i32 0) := at_cell hb 1
  have f1 : w.frozen? ⟨b, 1, none⟩ = false := at_free hb 1
  have hl := run_call_load (P := Tryz.prog) Tryz.func376 (by kernel_rfl) (by kernel_rfl) (by kernel_rfl) .u32 (by kernel_rfl) (w := w.setCell ⟨b, 1, none⟩ (.int .i32 1)) (a := ⟨b, 0, none⟩) (x := 0) (at_cell hb1 0)
  have hnot : ∀ (x : Bool) (w : World), (Op.unary .not (.bool x)).run Tryz.prog w = .ok (.bool (!x)) w := fun _ _ => rfl
  have p0 : (w.setCell ⟨b, 1, none⟩ (.int .i32 1)).cell? ⟨pb, 0, none⟩ = some (.pointer (some ⟨b, 0, none⟩)) := at_cell hpb1 0
  have q0 : (w.setCell ⟨b, 1, none⟩ (.int .i32 1)).cell? ⟨nb, 0, none⟩ = some (.string s) := at_cell hnb1 0
  have x3 : (w.setCell ⟨b, 1, none⟩ (.int .i32 1)).cell? ⟨b, 3, none⟩ = some (.string ⟨#[]⟩) := at_cell hb1 3
  have fz : ∀ i, w.frozen? ⟨b, i, none⟩ = false := fun i => at_free hb i
  have HB := hid hb; have HB1 := hid hb1
  clear hb hnb hpb hb1 hnb1 hpb1
  go_enter_defers Tryz.func353, Tryz.ntmps353
  go_wp2_with (go_at_call 390; refine (lock_free ⟨b, 1, none⟩ _ (by go_simp) (by go_simp)).mono ?_; rintro e w' ⟨rfl, rfl⟩)
  go_wp2
  go_end0
  go_wp2
  have hb3 := at_set HB1.out 3 (.string s)
  have hb4 := at_set (at_drew hb3) 0 (.int .u32 1)
  have hb5 := at_set hb4 1 (.int .i32 0)
  have hg3 := gb_row (gb_row (.refl w (some b)) (p := ⟨b, 1, none⟩) rfl (.int .i32 1)) (p := ⟨b, 3, none⟩) rfl (.string s)
  have hg5 := gb_row (gb_row (gb_drew hg3) (p := ⟨b, 0, none⟩) rfl (.int .u32 1)) (p := ⟨b, 1, none⟩) rfl (.int .i32 0)
  -- the door: two deferred calls, the last laid first
  refine leaves_cons (f := 392) (args := #[.pointer (some ⟨b, 0, none⟩), .bool true]) (by simp) (by simp [go_sem]) ?_
  refine (store_deferred ⟨b, 0, none⟩ (.int .u32 0) .returning _ (at_cell hb3 0) (at_free hb3 0)).mono ?_
  rintro e u' w'' ⟨rfl, rfl, rfl⟩
  refine leaves_cons (f := 391) (args := #[.pointer (some ⟨b, 1, none⟩)]) (by simp [settle]) (by simp [go_sem]) ?_
  refine (unlock_deferred ⟨b, 1, none⟩ _ _ (at_cell hb4 1) (at_free hb4 1)).mono ?_
  rintro e u' w'' ⟨rfl, rfl, rfl⟩
  clear hb3 hb4 hg3 x3 p0 q0 hl HB HB1 fz c1 f1 hnot
  have H5 := hid hb5; have G5 := hid hg5; clear hb5 hg5
  simp [Go.Leaves, settle, results, Tryz.results353]
  exact ⟨H5.out, G5.out⟩

set_option maxHeartbeats 800000 in
theorem cdo_first (b nb pb : Nat) (hk : b ≠ nb) (hp : b ≠ pb) (s : ByteArray) (w : World)
    (hb : w.heap[b]? = some (ansObj 0 ⟨#[]⟩))
    (hnb : w.heap[nb]? = some (.cells #[.string s] 9))
    (hpb : w.heap[pb]? = some (.cells #[.pointer (some ⟨b, 0, none⟩)] 411)) :
    Calls Tryz.prog 298 #[.pointer (some ⟨b, 0, none⟩), .func (.func 299) #[] #[.pointer (some ⟨nb, 0, none⟩), .pointer (some ⟨pb, 0, none⟩)]] w fun e w' => e = .returned (.tuple #[]) ∧
      w'.heap[b]? = some (ansObj 1 s) ∧ w.grownBy w' (some b) := by
  have hl := run_call_load (P := Tryz.prog) Tryz.func376 (by kernel_rfl) (by kernel_rfl) (by kernel_rfl) .u32 (by kernel_rfl) (w := w) (a := ⟨b, 0, none⟩) (x := 0) (at_cell hb 0)
  have hnot : ∀ (x : Bool) (w : World), (Op.unary .not (.bool x)).run Tryz.prog w = .ok (.bool (!x)) w := fun _ _ => rfl
  have HB := hid hb; have HK := hid hnb; have HP := hid hpb
  clear hb hnb hpb
  go_enter Tryz.func298, Tryz.ntmps298
  go_wp2_with (go_at_call 352; go_in)
  refine (cslow_any b nb pb hk hp s _ HB.out HK.out HP.out).mono ?_
  rintro e w' ⟨rfl, h1, h2⟩
  have H1 := hid h1; clear h1
  go_wp2
  go_end0
  exact ⟨rfl, H1.out, h2⟩

set_option maxHeartbeats 800000 in
/-- a part that may be -/
theorem ask_may (b : Nat) (s : ByteArray) (w : World) :
    Calls Tryz.prog 215 #[.pointer (some ⟨b, 0, none⟩), .string s, .bool true] w fun e w' => e = .returned (.tuple #[]) ∧ w.grownBy w' none := by
  have hnot : ∀ (x : Bool) (w : World), (Op.unary .not (.bool x)).run Tryz.prog w = .ok (.bool (!x)) w := fun _ _ => rfl
  go_enter Tryz.func215, Tryz.ntmps215
  go_wp2_with fail
  go_end0
  exact ⟨rfl, gb_alloc (gb_alloc (.refl _ _) _) _⟩

set_option maxHeartbeats 800000 in
/-- the first part that may not be -/
theorem ask_first (b : Nat) (s : ByteArray) (w : World) (hb : w.heap[b]? = some (ansObj 0 ⟨#[]⟩)) :
    Calls Tryz.prog 215 #[.pointer (some ⟨b, 0, none⟩), .string s, .bool false] w fun e w' => e = .returned (.tuple #[]) ∧
      w'.heap[b]? = some (ansObj 1 s) ∧ w.grownBy w' (some b) := by
  have hmf : ∀ (fn : Fn) (first cap : Array Value) (w : World), (Instr.makeFunc fn first cap).run Tryz.prog w = .ok (.func fn first cap) w := fun _ _ _ _ => rfl
  have hnot : ∀ (x : Bool) (w : World), (Op.unary .not (.bool x)).run Tryz.prog w = .ok (.bool (!x)) w := fun _ _ => rfl
  have hlt := at_lt hb
  have HB := hid hb
  clear hb
  go_enter Tryz.func215, Tryz.ntmps215
  go_wp2_with fail
  refine (cdo_first b (w.heap.size + 1) w.heap.size (by omega) (by omega) s _ (at_alloc (at_alloc HB.out _) _) (by simpa using at_new (w.alloc _) _) (at_alloc (at_new w _) _)).mono ?_
  rintro e w' ⟨rfl, h1, h2⟩
  have H1 := hid h1; clear h1
  go_wp2
  go_end0
  exact ⟨rfl, H1.out, gb_trans (gb_alloc (gb_alloc (.refl _ _) _) _) h2 (.inr (.inl rfl))⟩

set_option maxHeartbeats 800000 in
/-- a later part that may not be -/
theorem ask_later (b : Nat) (s r : ByteArray) (w : World) (hb : w.heap[b]? = some (ansObj 1 r)) :
    Calls Tryz.prog 215 #[.pointer (some ⟨b, 0, none⟩), .string s, .bool false] w fun e w' => e = .returned (.tuple #[]) ∧ w.grownBy w' none := by
  have hmf : ∀ (fn : Fn) (first cap : Array Value) (w : World), (Instr.makeFunc fn first cap).run Tryz.prog w = .ok (.func fn first cap) w := fun _ _ _ _ => rfl
  have hnot : ∀ (x : Bool) (w : World), (Op.unary .not (.bool x)).run Tryz.prog w = .ok (.bool (!x)) w := fun _ _ => rfl
  have HB := hid hb
  clear hb
  go_enter Tryz.func215, Tryz.ntmps215
  go_wp2_with fail
  refine (do_done ⟨b, 0, none⟩ 1 (by decide) _ _ (at_cell (at_alloc (at_alloc HB.out _) _) 0)).mono ?_
  rintro e w' ⟨rfl, rfl⟩
  go_wp2
  go_end0
  exact ⟨rfl, gb_alloc (gb_alloc (.refl _ _) _) _⟩

/-- a part is asked -/
theorem ask_any (b : Nat) (s : ByteArray) (may : Bool) (st : Option ByteArray) (w : World) (hb : w.heap[b]? = some (told1 st)) :
    Calls Tryz.prog 215 #[.pointer (some ⟨b, 0, none⟩), .string s, .bool may] w fun e w' => e = .returned (.tuple #[]) ∧
      w'.heap[b]? = some (told1 (ask1 st s may)) ∧ w.grownBy w' (some b) := by
  have weak : ∀ {a c : World}, a.grownBy c none → a.grownBy c (some b) := fun h => ⟨h.os, h.tape, h.output, h.size, fun i hi _ => h.block i hi (by simp)⟩
  cases may with
  | true =>
    refine (ask_may b s w).mono ?_
    rintro e w' ⟨rfl, hg⟩
    refine ⟨rfl, ?_, weak hg⟩
    rw [at_grown hb hg (by simp)]
    cases st <;> rfl
  | false =>
    cases st with
    | none => exact ask_first b s w hb
    | some r =>
      refine (ask_later b s r w hb).mono ?_
      rintro e w' ⟨rfl, hg⟩
      exact ⟨rfl, at_grown hb hg (by simp), weak hg⟩
end Go.Proofs.YtecggbndlbkhdaaGreat
end
section
set_option linter.unusedSimpArgs false
set_option linter.unusedVariables false
namespace Go.Proofs.YtecggbndlbkhdaaGreat
set_option maxRecDepth 100000
open Go.RowKit

theorem caall_hit {l : List Int} {k : Nat} {x : Int} (h : l[k]? = some x) (hx : okC x = false) : l.all okC = false := by
  obtain ⟨hk, rfl⟩ := List.getElem?_eq_some_iff.1 h
  cases hb : l.all okC with
  | false => rfl
  | true => rw [List.all_eq_true] at hb; rw [hb _ (List.getElem_mem hk)] at hx; cases hx
theorem caall_none {l : List Int} (h : ∀ (i : Nat) (x : Int), i < l.length → l[i]? = some x → okC x = true) : l.all okC = true := by
  rw [List.all_eq_true]
  intro x hx
  obtain ⟨i, hi, rfl⟩ := List.mem_iff_getElem.1 hx
  exact h i _ hi (List.getElem?_eq_getElem hi)

set_option maxHeartbeats 800000 in
theorem caindex_any (v : Value) (l : List Int) (w : World) (h : IntsAt w v l) :
    Calls Tryz.prog 375 #[v, .func (.func 336) #[] #[]] w fun e w' => (∃ r : Int, e = .returned (.int .i64 r) ∧ decide (0 ≤ r) = !(l.all okC)) ∧ w.grownBy w' none := by
  have HI := hid h
  obtain ⟨p, c, rfl⟩ := h.form
  obtain ⟨n, hn⟩ : ∃ n, l.length = n := ⟨_, rfl⟩
  have HN := hid hn
  have hlen := h.len
  rw [hn] at HI hlen ⊢
  unfold maxLen at hlen
  clear h hn
  go_enter Tryz.func375, Tryz.ntmps375
  go_wp2_with fail
  go_loopw [5, 8] (fun _ i wr => ∃ k : Nat, k ≤ n ∧ i = .int .i64 (k : Int) ∧ (∀ (j : Nat) (x : Int), j < k → l[j]? = some x → okC x = true) ∧ w.grownBy wr none) (fun _ i _ => n - (intOf i).toNat)
  case atStart => exact ⟨0, Nat.zero_le _, rfl, fun j x hj => absurd hj (Nat.not_lt_zero _), .refl w none⟩
  case round =>
    obtain ⟨k, hk, rfl, ha, hgr⟩ := hrel
    have HA := hid ha; have HGR := hid hgr
    clear ha hgr
    by_cases hlt : k < n
    · have hkl : k < l.length := by rw [HN.out]; exact hlt
      obtain ⟨ab, ao, rfl, -, hcc, hcell⟩ := (HI.out.grown HGR.out).cell hkl
      have hx := List.getElem?_eq_getElem hkl
      generalize l[k] = y at *
      have HX := hid hx; clear hx
      cases hy : okC y with
      | false =>
        have HB := hid (cabeyond_any y wr)
        rw [hy] at HB
        have HALL := hid (caall_hit HX.out hy)
        clear hy
        go_wp2_with fail
        refine HB.out.mono ?_
        rintro e w1 ⟨rfl, rfl⟩
        have G1 := hid HGR.out
        go_wp2_with fail
        go_ret
        exact ⟨⟨_, rfl, by rw [HALL.out]; simp⟩, G1.out⟩
      | true =>
        have HB := hid (cabeyond_any y wr)
        rw [hy] at HB
        have HY := hid hy
        clear hy
        go_wp2_with fail
        refine HB.out.mono ?_
        rintro e w1 ⟨rfl, rfl⟩
        have G1 := hid HGR.out
        go_wp2_with fail
        go_roundw
        case rel => exact ⟨k + 1, by omega, by go_num, fun j x hj hjx => by
          rcases Nat.lt_or_ge j k with h1 | h1
          · exact HA.out j x h1 hjx
          · obtain rfl : j = k := by omega
            rw [HX.out] at hjx; cases hjx; exact HY.out, G1.out⟩
        case measure => simp [intOf]; omega
    · obtain rfl : k = n := by omega
      go_wp2_with fail
      go_ret
      exact ⟨⟨_, rfl, by rw [caall_none fun i x hi => HA.out i x (by rw [← HN.out]; exact hi)]; rfl⟩, HGR.out⟩

theorem cacontains_any (v : Value) (l : List Int) (w : World) (h : IntsAt w v l) :
    Calls Tryz.prog 335 #[v, .func (.func 336) #[] #[]] w fun e w' => e = .returned (.bool (!(l.all okC))) ∧ w.grownBy w' none := by
  have C1 := hid (caindex_any v l w h)
  obtain ⟨p, c, rfl⟩ := h.form
  generalize l.length = n at *
  generalize l.all okC = b at *
  clear h
  go_enter Tryz.func335, Tryz.ntmps335
  go_wp2_with fail
  refine C1.out.mono ?_
  rintro e w1 ⟨⟨r, rfl, hr⟩, hg⟩
  have G1 := hid hg; clear hg C1
  go_wp2_with fail
  go_ret
  exact ⟨rfl, G1.out⟩


def Setted (w : World) (b : Nat) (c : Ca) (l : List Int) (e : Ending) (w' : World) : Prop :=
  (c.mayset l = true ∧ e = .returned (.int .i64 0) ∧ CaAt w' b { c with l := l } ∧ Chg [b] w w') ∨ (c.mayset l = false ∧ e = .returned (.int .i64 1) ∧ w.grownBy w' none)
theorem mayset_eq (c : Ca) (l : List Int) : c.mayset l = (decide (l.length ≤ c.most) && l.all okC) := rfl
theorem set_ok {c : Ca} (h : c.Ok) {l : List Int} (hl : c.mayset l = true) : ({ c with l := l } : Ca).Ok := by
  rw [mayset_eq, Bool.and_eq_true, decide_eq_true_eq, List.all_eq_true] at hl
  refine ⟨h.u, h.d, hl.1, fun x hx => ?_⟩
  have := hl.2 x hx
  unfold okC at this
  rw [Bool.and_eq_true, decide_eq_true_eq, decide_eq_true_eq] at this
  exact this
set_option maxHeartbeats 1600000 in
theorem set_any {b : Nat} {c : Ca} (v : Value) (l : List Int) {w : World} (H : CaAt w b c) (hv : IntsAt w v l) :
    Calls Tryz.prog 269 #[.pointer (some ⟨b, 0, none⟩), v] w (Setted w b c l) := by
  have R := hid (room_any H)
  have HV := hid hv
  have C1 := hid (fun (W : World) (h : w.grownBy W none) => cacontains_any v l W (hv.grown h))
  have hm61 := most_le H.ok
  have hlen := hv.len
  unfold maxLen at hlen
  obtain ⟨p, cc, rfl⟩ := hv.form
  obtain ⟨n, hn⟩ : ∃ n, l.length = n := ⟨_, rfl⟩
  have HN := hid hn
  rw [hn] at HV hlen C1 ⊢
  clear hv
  by_cases h1 : n ≤ c.most
  rotate_left
  · have hms := hid (show c.mayset l = false by rw [mayset_eq, hn, decide_eq_false h1]; rfl)
    have i1 : c.most < n := by omega
    have d1 : decide ((c.most : Int) < (n : Int)) = true := by simp; omega
    generalize c.most = m at *
    clear h1 hn
    go_enter Tryz.func269, Tryz.ntmps269
    go_wp2_with fail
    refine R.out.mono ?_
    rintro e w1 ⟨rfl, hg⟩
    have G1 := hid hg; clear hg
    go_wp2_with fail
    go_ret
    exact .inr ⟨hms.out, rfl, G1.out⟩
  have d1 : decide ((c.most : Int) < (n : Int)) = false := by simp; omega
  have i1 : ¬ c.most < n := by omega
  have hn61 := hid (show n ≤ 61 by omega)
  cases ha : l.all okC with
  | false =>
    have hms := hid (show c.mayset l = false by rw [mayset_eq, ha, Bool.and_false])
    rw [ha] at C1
    generalize c.most = m at *
    clear h1 hn ha
    go_enter Tryz.func269, Tryz.ntmps269
    go_wp2_with fail
    refine R.out.mono ?_
    rintro e w1 ⟨rfl, hg⟩
    have G1 := hid hg; clear hg
    go_wp2_with fail
    refine (C1.out _ G1.out).mono ?_
    rintro e w2 ⟨rfl, hg⟩
    have G2 := hid (gb_trans G1.out hg (.inl rfl)); clear hg
    go_wp2_with fail
    go_ret
    exact .inr ⟨hms.out, rfl, G2.out⟩
  | true =>
    have hms := hid (show c.mayset l = true by rw [mayset_eq, ha, hn, decide_eq_true h1]; rfl)
    have hok := hid (set_ok H.ok hms.out)
    rw [ha] at C1
    obtain ⟨⟨ws, h61, -, hrow⟩, -⟩ := H
    have H61 := hid h61
    have hrw := hid (fun W (h : w.grownBy W none) => at_grown hrow h (by simp))
    have hs := fun u => arr_all b u
    generalize c.most = m at *
    clear h1 hn ha h61 hrow
    go_enter Tryz.func269, Tryz.ntmps269
    go_wp2_with fail
    refine R.out.mono ?_
    rintro e w1 ⟨rfl, hg⟩
    have G1 := hid hg; clear hg
    go_wp2_with fail
    refine (C1.out _ G1.out).mono ?_
    rintro e w2 ⟨rfl, hg⟩
    have G2 := hid (gb_drew (gb_trans G1.out hg (.inl rfl))); clear hg
    go_wp2_with fail
    obtain ⟨w3, hc1, hc2, hc3⟩ := copy_into (hrw.out _ G2.out) H61.out (HV.out.grown G2.out) (by rw [HN.out]; exact hn61.out) 3
    rw [HN.out] at hc1 hc2
    have HC2 := hid hc2; have HC3 := hid hc3
    have c2 := at_cell hc2 2; rw [ca_cell2] at c2
    have f2 := at_free hc2 2
    have HST := hid (store_i64 ⟨b, 2, none⟩ (n : Int) _ w3 c2 f2)
    clear hc2 hc3
    refine wp_region_last (S := (fun w' => (True))) 9 9 #[false, false, false, false, false, false, false, false, false, true] (by kernel_rfl) (by kernel_rfl) (by kernel_rfl) (by kernel_rfl) trivial (fun hHeld => ?_)
    try dsimp only at hHeld
    refine jU 0 hHeld ?_
    try simp only [jX, jD, jE, jF]
    refine jU 1 hHeld ?_
    try simp only [jX, jD, jE, jF]
    refine jU 2 hHeld ?_
    try simp only [jX, jD, jE, jF]
    refine jU 3 hHeld ?_
    try simp only [jX, jD, jE, jF]
    refine jU 4 hHeld ?_
    try simp only [jX, jD, jE, jF]
    refine jU 5 hHeld ?_
    try simp only [jX, jD, jE, jF]
    refine jU 6 hHeld ?_
    try simp only [jX, jD, jE, jF]
    refine jU 7 hHeld ?_
    try simp only [jX, jD, jE, jF]
    refine jR [8] ?_
    refine jG rfl (fun K hK => ?_) AllReadyH.nil
    have hH2 := hHeld
    have hp := hH2
    try simp only [jD, jE, jF]
    rw [if_pos (by rfl)]
    refine wp_copyN _ _ rfl _ _ rfl rfl hc1 ?_
    have L8 := hid (show (True) from hp)
    clear hHeld hp
    refine hK.out _ _ ?_ (fun hHeld => ?_)
    · exact L8.out
    clear hK K
    try dsimp only at hHeld
    try simp only [jX, jD, jE, jF]
    refine wpAnyH_done (by kernel_rfl) ?_ _
    have hp := hHeld
    clear hp
    refine atLast_step (o := _) rfl (fun K hK => ?_)
    try simp only [jD, jE, jF]
    go_simp
    refine HST.out.mono ?_
    rintro e w4 ⟨rfl, rfl⟩
    go_wp2_with fail
    refine hK.out _ _ ?_
    clear hK K
    try simp only [jX, jD, jE, jF]
    go_wp2_with fail
    go_ret
    exact .inl ⟨hms.out, rfl, ⟨⟨l ++ ws.drop n, by rw [List.length_append, List.length_drop, H61.out, HN.out]; have := hn61.out; omega, by simp, by rw [HN.out]; exact row_kept HC2.out n⟩, hok.out⟩, ((chg_grown G2.out [b]).then HC3.out).set (.inl (by simp)) _⟩
def MadeC (w : World) (c : Ca) (e : Ending) (w' : World) : Prop := ∃ b, e = .returned (.pointer (some ⟨b, 0, none⟩)) ∧ CaAt w' b c ∧ w.grownBy w' none ∧ w.heap.size ≤ b
theorem new_ok (u d : Nat) (hu : u ≤ 60) (hd : d ≤ 60) (w : World) :
    Calls Tryz.prog 130 #[.int .i64 (u : Int), .int .i64 (d : Int)] w (MadeC w ⟨u, d, []⟩) := by
  have M1 := hid (camay_any (u : Int) 60); have M2 := hid (camay_any (d : Int) 60)
  have h1 : (decide (0 ≤ (u : Int)) && decide ((u : Int) ≤ 60)) = true := by simp; omega
  have h2 : (decide (0 ≤ (d : Int)) && decide ((d : Int) ≤ 60)) = true := by simp; omega
  rw [h1] at M1; rw [h2] at M2
  clear h1 h2
  have L := hid (show CaAt (w.alloc (.cells (caCells u d 0 (List.replicate 61 0)) 356)) w.heap.size ⟨u, d, []⟩ from ⟨⟨List.replicate 61 0, rfl, rfl, at_new w _⟩, ⟨hu, hd, Nat.zero_le _, fun x hx => by cases hx⟩⟩)
  go_enter Tryz.func130, Tryz.ntmps130
  go_wp2_with fail
  refine (M1.out _).mono ?_
  rintro e w1 ⟨rfl, rfl⟩
  go_wp2_with fail
  refine (M2.out _).mono ?_
  rintro e w1 ⟨rfl, rfl⟩
  go_wp2_with fail
  go_ret
  exact ⟨_, rfl, L.out, gb_alloc (.refl w none) _, Nat.le_refl _⟩
end Go.Proofs.YtecggbndlbkhdaaGreat
end
section
set_option linter.unusedSimpArgs false
set_option linter.unusedVariables false
namespace Go.Proofs.YtecggbndlbkhdaaGreat
set_option maxRecDepth 100000
open Go.RowKit

end Go.Proofs.YtecggbndlbkhdaaGreat
end
section
set_option linter.unusedSimpArgs false
set_option linter.unusedVariables false
namespace Go.Proofs.YtecggbndlbkhdaaGreat
set_option maxRecDepth 100000
open Go.RowKit

section
variable {w W W' : World} {b b1 b2 : Nat} {c c' c1 c2 : Ca} {n x z : Int} {v : Value} {l : List Int}
theorem gb_chgC (h : w.grownBy W none) (hc : Chg [b] W W') (hb : w.heap.size ≤ b) : w.grownBy W' none :=
  ((chg_grown h []).trans hc (fun y hy => by rw [List.mem_singleton] at hy; subst hy; exact .inr hb)).free (fun y hy => by cases hy)
/-- one object of the call's own; two -/
structure Ck1 (w : World) (b : Nat) (c : Ca) (W : World) : Prop where
  gr : w.grownBy W none
  at1 : CaAt W b c
  lo : w.heap.size ≤ b
structure Ck2 (w : World) (b1 : Nat) (c1 : Ca) (b2 : Nat) (c2 : Ca) (W : World) : Prop where
  k1 : Ck1 w b1 c1 W
  k2 : Ck1 w b2 c2 W
  ne : b1 ≠ b2
theorem Ck1.grown (h : Ck1 w b c W) (hg : W.grownBy W' none) : Ck1 w b c W' := ⟨gb_trans h.gr hg (.inl rfl), h.at1.grown hg, h.lo⟩
theorem Ck1.drew (h : Ck1 w b c W) : Ck1 w b c W.drew := ⟨gb_drew h.gr, h.at1.drew, h.lo⟩
theorem Ck1.chg (h : Ck1 w b c W) (hc : CaAt W' b c') (hg : Chg [b] W W') : Ck1 w b c' W' := ⟨gb_chgC h.gr hg h.lo, hc, h.lo⟩
theorem Ck2.grown (h : Ck2 w b1 c1 b2 c2 W) (hg : W.grownBy W' none) : Ck2 w b1 c1 b2 c2 W' := ⟨h.k1.grown hg, h.k2.grown hg, h.ne⟩
theorem Ck2.drew (h : Ck2 w b1 c1 b2 c2 W) : Ck2 w b1 c1 b2 c2 W.drew := ⟨h.k1.drew, h.k2.drew, h.ne⟩
theorem Ck2.swap (h : Ck2 w b1 c1 b2 c2 W) : Ck2 w b2 c2 b1 c1 W := ⟨h.k2, h.k1, h.ne.symm⟩
theorem Ck1.start (h : CaAt W b c) (hg : w.grownBy W none) (hb : w.heap.size ≤ b) : Ck1 w b c W := ⟨hg, h, hb⟩
theorem Ck2.start (h : Ck1 w b1 c1 W) (h2 : CaAt W' b c) (hg : W.grownBy W' none) (hb : W.heap.size ≤ b) : Ck2 w b1 c1 b c W' :=
  ⟨h.grown hg, ⟨gb_trans h.gr hg (.inl rfl), h2, Nat.le_trans h.gr.size hb⟩, by have := h.at1.lt; omega⟩
theorem new_as (u d : Nat) {U D : Int} (hU : (u : Int) = U) (hD : (d : Int) = D) (hu : u ≤ 60) (hd : d ≤ 60) (w : World) : Calls Tryz.prog 130 #[.int .i64 U, .int .i64 D] w (MadeC w ⟨u, d, []⟩) := by
  subst hU; subst hD; exact new_ok u d hu hd w
end

end Go.Proofs.YtecggbndlbkhdaaGreat
end
