/-
  Contract for package policy: one more count is put behind the others, the oldest goes for it. The condition: the object lies there, no more are kept than a period has.
-/
import Derived.Test.YtmhpldnmapjghaaPoB
import Derived.Test.YtmhpldnmapjghaaHeld
import Derived.Test.YtmhpldnmapjghaaLst
import Derived.Deep.RegionHeld3
set_option linter.unusedSimpArgs false
set_option linter.unusedVariables false
namespace Go.Proofs.Ytmhpldnmapjghaa
set_option maxRecDepth 100000
open Go.RowKit

/-- with one more behind -/
def Po.keep (p : Po) (x : Int) : Po := ⟨p.r, lastL (p.l ++ [x]) p.r.per.toNat⟩
theorem keep_full {p : Po} {m : Nat} (hm : p.r.per = (m : Int)) (h1 : 1 ≤ m) (h : p.l.length = m) (x : Int) : (p.keep x).l = p.l.drop 1 ++ [x] := by
  show lastL (p.l ++ [x]) p.r.per.toNat = _
  unfold lastL
  rw [hm, Int.toNat_natCast, List.length_append, List.length_singleton, show p.l.length + 1 - m = 1 by omega, List.drop_append_of_le_length (by omega)]
theorem keep_room {p : Po} {m : Nat} (hm : p.r.per = (m : Int)) (h : p.l.length < m) (x : Int) : (p.keep x).l = p.l ++ [x] := by
  show lastL (p.l ++ [x]) p.r.per.toNat = _
  exact lastL_all (by rw [hm, Int.toNat_natCast, List.length_append, List.length_singleton]; omega)
/-- what is kept of a call that puts x behind -/
def Kept (w : World) (b : Nat) (p : Po) (e : Ending) (w' : World) : Prop := e = .returned (.tuple #[]) ∧ PoTop w' b p ∧ Chg [b] w w'
theorem keep_fin {w w3 : World} {b : Nat} {p : Po} {ws : List Int} {K : Nat} {x : Int} {l0 : List Int} (h60 : ws.length = 60) (hl : ws.take K = l0) (hK : K < 60) (h0 : l0.length = K) (hp : (p.keep x).l = l0 ++ [x])
    (hr : w3.heap[b]? = some (.cells (poCells p.r (K + 1) ws) 62)) (hc : Chg [b] w w3) :
    PoTop (w3.setCell ⟨b, 8 + K, none⟩ (.int .i64 x)) b (p.keep x) ∧ Chg [b] w (w3.setCell ⟨b, 8 + K, none⟩ (.int .i64 x)) := by
  have hlen : (p.keep x).l.length = K + 1 := by rw [hp, List.length_append, h0]; rfl
  refine ⟨⟨ws.set K x, by rw [List.length_set, h60], ?_, ?_⟩, hc.set (.inl (by simp)) _⟩
  · rw [hlen, List.take_succ_eq_append_getElem (by rw [List.length_set]; omega), hp, List.getElem_set_self, List.take_set_of_le (Nat.le_refl _), hl]
  · rw [hlen]
    exact prow_want hr K x

set_option maxHeartbeats 1600000 in
theorem keep_any {b : Nat} {p : Po} (x : Int) (m : Nat) (hm : p.r.per = (m : Int)) (m1 : 1 ≤ m) (m60 : m ≤ 60) (hn : p.l.length ≤ m) {w : World} (H : PoTop w b p) :
    Calls Try.prog 27 #[.pointer (some ⟨b, 0, none⟩), .int .i64 x] w (Kept w b (p.keep x)) := by
  have A := hid (potop_any H (by omega))
  have PF := hid (fun h => keep_full (p := p) hm m1 h x)
  have PR := hid (fun h => keep_room (p := p) hm h x)
  have C4 := hid (fun W (h : w.grownBy W none) => (H.grown h).cells.1)
  have HI0 := hid (fun W (h : w.grownBy W none) => (H.grown h).ints (by omega))
  rw [hm] at C4
  obtain ⟨ws, h60, htk, hrow⟩ := H
  have H60 := hid h60; have HTK := hid htk
  have hrw := hid (fun W (h : w.grownBy W none) => at_grown hrow h (by simp))
  obtain ⟨n, hN⟩ : ∃ n, p.l.length = n := ⟨_, rfl⟩
  rw [hN] at A hn hrw HI0
  have HN := hid hN
  clear hN hm h60 htk hrow
  by_cases hf : n = m
  · subst hf
    have s0 : ((n : Int) == (n : Int)) = true := by simp
    obtain ⟨K, hK⟩ : ∃ K, n = K + 1 := ⟨n - 1, by omega⟩
    have HKK := hid hK
    have hs := fun u => parr_all b u
    clear hK
    go_enter Try.func27, Try.ntmps27
    go_wp2_with fail
    refine A.out.mono ?_
    rintro e w1 ⟨rfl, hg1⟩
    have G1 := hid (gb_drew hg1)
    have c4 := C4.out _ hg1; clear hg1
    go_wp2_with fail
    have HS := hid (hrw.out _ G1.out)
    have HI4 := hid (show IntsAt w1.drew (.slice (some ⟨b, 9, none⟩) (n - 1) 59) (p.l.drop 1) from by
      have hk := HKK.out
      have h := ints_slice1 (HI0.out _ G1.out) (i := 1) (by omega)
      exact h)
    have n1i : (1 : Int) ≤ (n : Int) := by omega
    have hcp := fun ty => pcopy_into HS.out H60.out HI4.out (by rw [List.length_drop, HN.out]; omega) ty
    obtain ⟨w3, hc1, hc2, hc3⟩ := hcp 3
    rw [show (p.l.drop 1).length = K by rw [List.length_drop, HN.out]; have := HKK.out; omega] at hc1 hc2
    have HC2 := hid hc2; have HC3 := hid hc3
    have c2 := at_cell hc2 7; rw [po_cell7] at c2
    have f2 := at_free hc2 7
    have HST := hid (store_i64 ⟨b, 7, none⟩ (K : Int) _ w3 c2 f2)
    clear hc2 hc3 hcp c2 f2
    refine wp_region_last (S := (fun w' => (True))) 10 10 #[false, false, false, false, false, false, false, false, false, false, true] (by kernel_rfl) (by kernel_rfl) (by kernel_rfl) (by kernel_rfl) trivial (fun hHeld => ?_)
    try dsimp only at hHeld
    refine' wpAnyH_take (i := 0) (v := _) rfl (by kernel_rfl) (by kernel_rfl) (by kernel_rfl) (fun _ _ _ h => h) (Or.inl ⟨by rfl, ?_⟩) hHeld ?_
    rotate_left
    · (intro w hSw; (try dsimp only at hSw); go_simp; try with_reducible rfl)
    try simp only [Act.put, List.setIfInBounds_toArray, List.set_cons_zero, List.set_cons_succ, List.getElem_toArray, List.getElem_cons_succ, List.getElem_cons_zero]
    refine' wpAnyH_take (i := 1) (v := _) rfl (by kernel_rfl) (by kernel_rfl) (by kernel_rfl) (fun _ _ _ h => h) (Or.inl ⟨by rfl, ?_⟩) hHeld ?_
    rotate_left
    · (intro w hSw; (try dsimp only at hSw); go_simp; try with_reducible rfl)
    try simp only [Act.put, List.setIfInBounds_toArray, List.set_cons_zero, List.set_cons_succ, List.getElem_toArray, List.getElem_cons_succ, List.getElem_cons_zero]
    refine' wpAnyH_take (i := 2) (v := _) rfl (by kernel_rfl) (by kernel_rfl) (by kernel_rfl) (fun _ _ _ h => h) (Or.inl ⟨by rfl, ?_⟩) hHeld ?_
    rotate_left
    · (intro w hSw; (try dsimp only at hSw); go_simp; try with_reducible rfl)
    try simp only [Act.put, List.setIfInBounds_toArray, List.set_cons_zero, List.set_cons_succ, List.getElem_toArray, List.getElem_cons_succ, List.getElem_cons_zero]
    refine' wpAnyH_take (i := 3) (v := _) rfl (by kernel_rfl) (by kernel_rfl) (by kernel_rfl) (fun _ _ _ h => h) (Or.inl ⟨by rfl, ?_⟩) hHeld ?_
    rotate_left
    · (intro w hSw; (try dsimp only at hSw); go_simp; try with_reducible rfl)
    try simp only [Act.put, List.setIfInBounds_toArray, List.set_cons_zero, List.set_cons_succ, List.getElem_toArray, List.getElem_cons_succ, List.getElem_cons_zero]
    refine' wpAnyH_take (i := 4) (v := _) rfl (by kernel_rfl) (by kernel_rfl) (by kernel_rfl) (fun _ _ _ h => h) (Or.inl ⟨by rfl, ?_⟩) hHeld ?_
    rotate_left
    · (intro w hSw; (try dsimp only at hSw); go_simp; try with_reducible rfl)
    try simp only [Act.put, List.setIfInBounds_toArray, List.set_cons_zero, List.set_cons_succ, List.getElem_toArray, List.getElem_cons_succ, List.getElem_cons_zero]
    refine' wpAnyH_take (i := 5) (v := _) rfl (by kernel_rfl) (by kernel_rfl) (by kernel_rfl) (fun _ _ _ h => h) (Or.inl ⟨by rfl, ?_⟩) hHeld ?_
    rotate_left
    · (intro w hSw; (try dsimp only at hSw); go_simp; try with_reducible rfl)
    try simp only [Act.put, List.setIfInBounds_toArray, List.set_cons_zero, List.set_cons_succ, List.getElem_toArray, List.getElem_cons_succ, List.getElem_cons_zero]
    refine' wpAnyH_take (i := 6) (v := _) rfl (by kernel_rfl) (by kernel_rfl) (by kernel_rfl) (fun _ _ _ h => h) (Or.inl ⟨by rfl, ?_⟩) hHeld ?_
    rotate_left
    · (intro w hSw; (try dsimp only at hSw); go_simp; try with_reducible rfl)
    try simp only [Act.put, List.setIfInBounds_toArray, List.set_cons_zero, List.set_cons_succ, List.getElem_toArray, List.getElem_cons_succ, List.getElem_cons_zero]
    refine' wpAnyH_take (i := 7) (v := _) rfl (by kernel_rfl) (by kernel_rfl) (by kernel_rfl) (fun _ _ _ h => h) (Or.inl ⟨by rfl, ?_⟩) hHeld ?_
    rotate_left
    · (intro w hSw; (try dsimp only at hSw); go_simp; try with_reducible rfl)
    try simp only [Act.put, List.setIfInBounds_toArray, List.set_cons_zero, List.set_cons_succ, List.getElem_toArray, List.getElem_cons_succ, List.getElem_cons_zero]
    refine' wpAnyH_take (i := 8) (v := _) rfl (by kernel_rfl) (by kernel_rfl) (by kernel_rfl) (fun _ _ _ h => h) (Or.inl ⟨by rfl, ?_⟩) hHeld ?_
    rotate_left
    · (intro w hSw; (try dsimp only at hSw); go_simp; try with_reducible rfl)
    try simp only [Act.put, List.setIfInBounds_toArray, List.set_cons_zero, List.set_cons_succ, List.getElem_toArray, List.getElem_cons_succ, List.getElem_cons_zero]
    refine wpAnyH_ready (rs := [9]) (by kernel_rfl) (by simp) ?_
    refine AllReadyH.cons (o := _) rfl (fun K hK => ?_) AllReadyH.nil
    have hH2 := hHeld
    have hp := hH2
    try simp only [List.getElem_toArray, List.getElem_cons_succ, List.getElem_cons_zero]
    rw [if_pos (by rfl)]
    refine pwp_copyN _ _ rfl _ _ rfl rfl hc1 ?_
    have L9 := hid (show (True) from hp)
    clear hHeld hp
    refine hK.out _ _ ?_ (fun hHeld => ?_)
    · exact L9.out
    clear hK K
    try dsimp only at hHeld
    try simp only [Act.put, List.setIfInBounds_toArray, List.set_cons_zero, List.set_cons_succ, List.getElem_toArray, List.getElem_cons_succ, List.getElem_cons_zero]
    refine wpAnyH_done (by kernel_rfl) ?_ _
    have hp := hHeld
    clear hp
    refine atLast_step (o := _) rfl (fun KK hK => ?_)
    try simp only [List.getElem_toArray, List.getElem_cons_succ, List.getElem_cons_zero]
    go_simp
    refine HST.out.mono ?_
    rintro e w4 ⟨rfl, rfl⟩
    go_wp2_with fail
    refine hK.out _ _ ?_
    clear hK KK
    try simp only [Act.put, List.setIfInBounds_toArray, List.set_cons_zero, List.set_cons_succ, List.getElem_toArray, List.getElem_cons_succ, List.getElem_cons_zero]
    have HROW0 := hid (prow_kept HC2.out K)
    have HC0 := hid (show Chg [b] w (w3.setCell ⟨b, 7, none⟩ (.int .i64 (K : Int))) from ((chg_grown G1.out [b]).then HC3.out).set (.inl (by simp)) _)
    generalize w3.setCell ⟨b, 7, none⟩ (.int .i64 (K : Int)) = wq at *
    have HROW := hid (show wq.drew.heap[b]? = _ from HROW0.out)
    have HC := hid (show Chg [b] w wq.drew from HC0.out.drew)
    have HFIN := hid (fun (w3 : World) hr hc => keep_fin (w := w) (w3 := w3) (b := b) (p := p) (ws := p.l.drop 1 ++ ws.drop K) (K := K) (x := x) (l0 := p.l.drop 1) (by rw [List.length_append, List.length_drop, List.length_drop, H60.out, HN.out]; have := HKK.out; omega) (by
      rw [List.take_append_of_le_length (by rw [List.length_drop, HN.out]; have := HKK.out; omega), List.take_of_length_le (by rw [List.length_drop, HN.out]; have := HKK.out; omega)]) (by have := HKK.out; omega) (by rw [List.length_drop, HN.out, HKK.out]; rfl) (PF.out HN.out) hr hc)
    have HK5 := hid (show K < (p.l.drop 1 ++ ws.drop K).length by rw [List.length_append, List.length_drop, List.length_drop, H60.out, HN.out]; have := HKK.out; omega)
    generalize p.l.drop 1 ++ ws.drop K = ws1 at *
    have hk60 : K < 60 := by have := HKK.out; omega
    obtain ⟨z, hz⟩ : ∃ z : Int, z = (K : Int) + 1 := ⟨_, rfl⟩
    have HZ := hid (show IntKind.i64.wrap ((K : Int) + 1) = z by rw [← hz]; exact IntWalk.i64_in _ (by omega))
    have HZK := hid (show z = ((K + 1 : Nat) : Int) by omega)
    have s5 : IntKind.i64.wrap (z - 1) = (K : Int) := by rw [IntWalk.i64_in _ (by omega)]; omega
    have k5 : (K : Int) < 60 := by omega
    clear hz HKK s0 HC2 HC3 HI4 HS HST hc1 HTK H60 HI0 hrw
    go_wp2_with fail
    refine wp_region_last (S := (fun w' => (True))) 10 10 #[false, false, false, false, false, false, false, false, false, false, true] (by kernel_rfl) (by kernel_rfl) (by kernel_rfl) (by kernel_rfl) trivial (fun hHeld => ?_)
    try dsimp only at hHeld
    refine' wpAnyH_take (i := 0) (v := _) rfl (by kernel_rfl) (by kernel_rfl) (by kernel_rfl) (fun _ _ _ h => h) (Or.inl ⟨by rfl, ?_⟩) hHeld ?_
    rotate_left
    · (intro w hSw; (try dsimp only at hSw); go_simp; try with_reducible rfl)
    try simp only [Act.put, List.setIfInBounds_toArray, List.set_cons_zero, List.set_cons_succ, List.getElem_toArray, List.getElem_cons_succ, List.getElem_cons_zero]
    refine' wpAnyH_take (i := 1) (v := _) rfl (by kernel_rfl) (by kernel_rfl) (by kernel_rfl) (fun _ _ _ h => h) (Or.inl ⟨by rfl, ?_⟩) hHeld ?_
    rotate_left
    · (intro w hSw; (try dsimp only at hSw); go_simp; try with_reducible rfl)
    try simp only [Act.put, List.setIfInBounds_toArray, List.set_cons_zero, List.set_cons_succ, List.getElem_toArray, List.getElem_cons_succ, List.getElem_cons_zero]
    refine' wpAnyH_take (i := 2) (v := _) rfl (by kernel_rfl) (by kernel_rfl) (by kernel_rfl) (fun _ _ _ h => h) (Or.inl ⟨by rfl, ?_⟩) hHeld ?_
    rotate_left
    · (intro w hSw; (try dsimp only at hSw); go_simp; try with_reducible rfl)
    try simp only [Act.put, List.setIfInBounds_toArray, List.set_cons_zero, List.set_cons_succ, List.getElem_toArray, List.getElem_cons_succ, List.getElem_cons_zero]
    refine' wpAnyH_take (i := 3) (v := _) rfl (by kernel_rfl) (by kernel_rfl) (by kernel_rfl) (fun _ _ _ h => h) (Or.inl ⟨by rfl, ?_⟩) hHeld ?_
    rotate_left
    · (intro w hSw; (try dsimp only at hSw); go_simp; try with_reducible rfl)
    try simp only [Act.put, List.setIfInBounds_toArray, List.set_cons_zero, List.set_cons_succ, List.getElem_toArray, List.getElem_cons_succ, List.getElem_cons_zero]
    refine' wpAnyH_take (i := 6) (v := _) rfl (by kernel_rfl) (by kernel_rfl) (by kernel_rfl) (fun _ _ _ h => h) (Or.inl ⟨by rfl, ?_⟩) hHeld ?_
    rotate_left
    · (intro w hSw; (try dsimp only at hSw); go_simp; try with_reducible rfl)
    try simp only [Act.put, List.setIfInBounds_toArray, List.set_cons_zero, List.set_cons_succ, List.getElem_toArray, List.getElem_cons_succ, List.getElem_cons_zero]
    refine' wpAnyH_take (i := 7) (v := _) rfl (by kernel_rfl) (by kernel_rfl) (by kernel_rfl) (fun _ _ _ h => h) (Or.inl ⟨by rfl, ?_⟩) hHeld ?_
    rotate_left
    · (intro w hSw; (try dsimp only at hSw); go_simp; try with_reducible rfl)
    try simp only [Act.put, List.setIfInBounds_toArray, List.set_cons_zero, List.set_cons_succ, List.getElem_toArray, List.getElem_cons_succ, List.getElem_cons_zero]
    refine' wpAnyH_take (i := 8) (v := _) rfl (by kernel_rfl) (by kernel_rfl) (by kernel_rfl) (fun _ _ _ h => h) (Or.inl ⟨by rfl, ?_⟩) hHeld ?_
    rotate_left
    · (intro w hSw; (try dsimp only at hSw); go_simp; try with_reducible rfl)
    try simp only [Act.put, List.setIfInBounds_toArray, List.set_cons_zero, List.set_cons_succ, List.getElem_toArray, List.getElem_cons_succ, List.getElem_cons_zero]
    refine wpAnyH_ready (rs := [4]) (by kernel_rfl) (by simp) ?_
    refine AllReadyH.cons (o := _) rfl (fun K hK => ?_) AllReadyH.nil
    try simp only [List.getElem_toArray, List.getElem_cons_succ, List.getElem_cons_zero]
    go_simp
    have hH2 := hHeld
    have hp := hH2
    refine (pkeptn HROW.out 1 z HZ.out HZK.out).mono ?_
    rintro e w1004 ⟨rfl, hrow, hch⟩
    have HR2 := hid hrow; have HC2 := hid (HC.out.then hch); clear hrow hch
    have hg := True.intro
    have L4 := hid (show (True) from hp)
    clear hHeld hg hp
    go_wp2_with fail
    refine hK.out _ _ ?_ (fun hHeld => ?_)
    · exact L4.out
    clear hK K
    try dsimp only at hHeld
    try simp only [Act.put, List.setIfInBounds_toArray, List.set_cons_zero, List.set_cons_succ, List.getElem_toArray, List.getElem_cons_succ, List.getElem_cons_zero]
    refine' wpAnyH_take (i := 5) (v := _) rfl (by kernel_rfl) (by kernel_rfl) (by kernel_rfl) (fun _ _ _ h => h) (Or.inl ⟨by rfl, ?_⟩) hHeld ?_
    rotate_left
    · (intro w hSw; (try dsimp only at hSw); go_simp; try with_reducible rfl)
    try simp only [Act.put, List.setIfInBounds_toArray, List.set_cons_zero, List.set_cons_succ, List.getElem_toArray, List.getElem_cons_succ, List.getElem_cons_zero]
    refine' wpAnyH_take (i := 9) (v := _) rfl (by kernel_rfl) (by kernel_rfl) (by kernel_rfl) (fun _ _ _ h => h) (Or.inl ⟨by rfl, ?_⟩) hHeld ?_
    rotate_left
    · (intro w hSw; (try dsimp only at hSw); go_simp; try with_reducible rfl)
    try simp only [Act.put, List.setIfInBounds_toArray, List.set_cons_zero, List.set_cons_succ, List.getElem_toArray, List.getElem_cons_succ, List.getElem_cons_zero]
    refine wpAnyH_done (by kernel_rfl) ?_ _
    have hp := hHeld
    have c5 := at_cell HR2.out (8 + K); have f5 := at_free HR2.out (8 + K)
    rw [po_cellk, List.getElem?_eq_getElem HK5.out] at c5
    clear hp
    refine atLast_step (o := _) rfl (fun K hK => ?_)
    try simp only [List.getElem_toArray, List.getElem_cons_succ, List.getElem_cons_zero]
    go_simp
    refine hK.out _ _ ?_
    clear hK K c5 f5
    try simp only [Act.put, List.setIfInBounds_toArray, List.set_cons_zero, List.set_cons_succ, List.getElem_toArray, List.getElem_cons_succ, List.getElem_cons_zero]
    go_wp2_with fail
    go_end0
    exact ⟨rfl, HFIN.out _ HR2.out HC2.out⟩
  · have s0 : ((n : Int) == (m : Int)) = false := by simp; omega
    have hk60 : n < 60 := by omega
    have HLT := hid (show n < m by omega)
    go_enter Try.func27, Try.ntmps27
    go_wp2_with fail
    refine A.out.mono ?_
    rintro e wq ⟨rfl, hg1⟩
    have G1 := hid (gb_drew hg1)
    have c4 := C4.out _ hg1; clear hg1
    have HROW := hid (hrw.out _ G1.out)
    have HC := hid (chg_grown G1.out [b])
    have HFIN := hid (fun (w3 : World) hr hc => keep_fin (w := w) (w3 := w3) (b := b) (p := p) (ws := ws) (K := n) (x := x) (l0 := p.l) H60.out (by rw [← HN.out]; exact HTK.out) hk60 HN.out (PR.out (by rw [HN.out]; exact HLT.out)) hr hc)
    have HK5 := hid (show n < ws.length by rw [H60.out]; exact hk60)
    obtain ⟨z, hz⟩ : ∃ z : Int, z = (n : Int) + 1 := ⟨_, rfl⟩
    have HZ := hid (show IntKind.i64.wrap ((n : Int) + 1) = z by rw [← hz]; exact IntWalk.i64_in _ (by omega))
    have HZK := hid (show z = ((n + 1 : Nat) : Int) by omega)
    have s5 : IntKind.i64.wrap (z - 1) = (n : Int) := by rw [IntWalk.i64_in _ (by omega)]; omega
    have k5 : (n : Int) < 60 := by omega
    clear hz HTK H60 hf HI0 hrw
    go_wp2_with fail
    refine wp_region_last (S := (fun w' => (True))) 10 10 #[false, false, false, false, false, false, false, false, false, false, true] (by kernel_rfl) (by kernel_rfl) (by kernel_rfl) (by kernel_rfl) trivial (fun hHeld => ?_)
    try dsimp only at hHeld
    refine' wpAnyH_take (i := 0) (v := _) rfl (by kernel_rfl) (by kernel_rfl) (by kernel_rfl) (fun _ _ _ h => h) (Or.inl ⟨by rfl, ?_⟩) hHeld ?_
    rotate_left
    · (intro w hSw; (try dsimp only at hSw); go_simp; try with_reducible rfl)
    try simp only [Act.put, List.setIfInBounds_toArray, List.set_cons_zero, List.set_cons_succ, List.getElem_toArray, List.getElem_cons_succ, List.getElem_cons_zero]
    refine' wpAnyH_take (i := 1) (v := _) rfl (by kernel_rfl) (by kernel_rfl) (by kernel_rfl) (fun _ _ _ h => h) (Or.inl ⟨by rfl, ?_⟩) hHeld ?_
    rotate_left
    · (intro w hSw; (try dsimp only at hSw); go_simp; try with_reducible rfl)
    try simp only [Act.put, List.setIfInBounds_toArray, List.set_cons_zero, List.set_cons_succ, List.getElem_toArray, List.getElem_cons_succ, List.getElem_cons_zero]
    refine' wpAnyH_take (i := 2) (v := _) rfl (by kernel_rfl) (by kernel_rfl) (by kernel_rfl) (fun _ _ _ h => h) (Or.inl ⟨by rfl, ?_⟩) hHeld ?_
    rotate_left
    · (intro w hSw; (try dsimp only at hSw); go_simp; try with_reducible rfl)
    try simp only [Act.put, List.setIfInBounds_toArray, List.set_cons_zero, List.set_cons_succ, List.getElem_toArray, List.getElem_cons_succ, List.getElem_cons_zero]
    refine' wpAnyH_take (i := 3) (v := _) rfl (by kernel_rfl) (by kernel_rfl) (by kernel_rfl) (fun _ _ _ h => h) (Or.inl ⟨by rfl, ?_⟩) hHeld ?_
    rotate_left
    · (intro w hSw; (try dsimp only at hSw); go_simp; try with_reducible rfl)
    try simp only [Act.put, List.setIfInBounds_toArray, List.set_cons_zero, List.set_cons_succ, List.getElem_toArray, List.getElem_cons_succ, List.getElem_cons_zero]
    refine' wpAnyH_take (i := 6) (v := _) rfl (by kernel_rfl) (by kernel_rfl) (by kernel_rfl) (fun _ _ _ h => h) (Or.inl ⟨by rfl, ?_⟩) hHeld ?_
    rotate_left
    · (intro w hSw; (try dsimp only at hSw); go_simp; try with_reducible rfl)
    try simp only [Act.put, List.setIfInBounds_toArray, List.set_cons_zero, List.set_cons_succ, List.getElem_toArray, List.getElem_cons_succ, List.getElem_cons_zero]
    refine' wpAnyH_take (i := 7) (v := _) rfl (by kernel_rfl) (by kernel_rfl) (by kernel_rfl) (fun _ _ _ h => h) (Or.inl ⟨by rfl, ?_⟩) hHeld ?_
    rotate_left
    · (intro w hSw; (try dsimp only at hSw); go_simp; try with_reducible rfl)
    try simp only [Act.put, List.setIfInBounds_toArray, List.set_cons_zero, List.set_cons_succ, List.getElem_toArray, List.getElem_cons_succ, List.getElem_cons_zero]
    refine' wpAnyH_take (i := 8) (v := _) rfl (by kernel_rfl) (by kernel_rfl) (by kernel_rfl) (fun _ _ _ h => h) (Or.inl ⟨by rfl, ?_⟩) hHeld ?_
    rotate_left
    · (intro w hSw; (try dsimp only at hSw); go_simp; try with_reducible rfl)
    try simp only [Act.put, List.setIfInBounds_toArray, List.set_cons_zero, List.set_cons_succ, List.getElem_toArray, List.getElem_cons_succ, List.getElem_cons_zero]
    refine wpAnyH_ready (rs := [4]) (by kernel_rfl) (by simp) ?_
    refine AllReadyH.cons (o := _) rfl (fun K hK => ?_) AllReadyH.nil
    try simp only [List.getElem_toArray, List.getElem_cons_succ, List.getElem_cons_zero]
    go_simp
    have hH2 := hHeld
    have hp := hH2
    refine (pkeptn HROW.out 1 z HZ.out HZK.out).mono ?_
    rintro e w1004 ⟨rfl, hrow, hch⟩
    have HR2 := hid hrow; have HC2 := hid (HC.out.then hch); clear hrow hch
    have hg := True.intro
    have L4 := hid (show (True) from hp)
    clear hHeld hg hp
    go_wp2_with fail
    refine hK.out _ _ ?_ (fun hHeld => ?_)
    · exact L4.out
    clear hK K
    try dsimp only at hHeld
    try simp only [Act.put, List.setIfInBounds_toArray, List.set_cons_zero, List.set_cons_succ, List.getElem_toArray, List.getElem_cons_succ, List.getElem_cons_zero]
    refine' wpAnyH_take (i := 5) (v := _) rfl (by kernel_rfl) (by kernel_rfl) (by kernel_rfl) (fun _ _ _ h => h) (Or.inl ⟨by rfl, ?_⟩) hHeld ?_
    rotate_left
    · (intro w hSw; (try dsimp only at hSw); go_simp; try with_reducible rfl)
    try simp only [Act.put, List.setIfInBounds_toArray, List.set_cons_zero, List.set_cons_succ, List.getElem_toArray, List.getElem_cons_succ, List.getElem_cons_zero]
    refine' wpAnyH_take (i := 9) (v := _) rfl (by kernel_rfl) (by kernel_rfl) (by kernel_rfl) (fun _ _ _ h => h) (Or.inl ⟨by rfl, ?_⟩) hHeld ?_
    rotate_left
    · (intro w hSw; (try dsimp only at hSw); go_simp; try with_reducible rfl)
    try simp only [Act.put, List.setIfInBounds_toArray, List.set_cons_zero, List.set_cons_succ, List.getElem_toArray, List.getElem_cons_succ, List.getElem_cons_zero]
    refine wpAnyH_done (by kernel_rfl) ?_ _
    have hp := hHeld
    have c5 := at_cell HR2.out (8 + n); have f5 := at_free HR2.out (8 + n)
    rw [po_cellk, List.getElem?_eq_getElem HK5.out] at c5
    clear hp
    refine atLast_step (o := _) rfl (fun K hK => ?_)
    try simp only [List.getElem_toArray, List.getElem_cons_succ, List.getElem_cons_zero]
    go_simp
    refine hK.out _ _ ?_
    clear hK K c5 f5
    try simp only [Act.put, List.setIfInBounds_toArray, List.set_cons_zero, List.set_cons_succ, List.getElem_toArray, List.getElem_cons_succ, List.getElem_cons_zero]
    go_wp2_with fail
    go_end0
    exact ⟨rfl, HFIN.out _ HR2.out HC2.out⟩
end Go.Proofs.Ytmhpldnmapjghaa
