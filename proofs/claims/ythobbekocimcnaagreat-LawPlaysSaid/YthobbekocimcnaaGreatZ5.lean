/-
  Contract for package policy: one more count is put behind the others, the oldest goes for it. The condition: the object lies there, no more are kept than a period has.
  Contracts for package policy: New, Put, Base, All, Limit, Bounds, of nil too. The condition of a call: the object lies there, slices read as numbers.
  Contracts for package ratio, and for the document's own: which numbers may be, the band, shares, what is wanted. No condition, but for numbers that may be.
-/
import Derived.Test.YthobbekocimcnaaGreatZ4
import Derived.Test.YthobbekocimcnaaGreatZ2
import Derived.Test.YthobbekocimcnaaGreatZ3
import Derived.Deep.RegionHeld3
import Derived.Test.YthobbekocimcnaaGreatZ1
section
set_option linter.unusedSimpArgs false
set_option linter.unusedVariables false
namespace Go.Proofs.YthobbekocimcnaaGreat
set_option maxRecDepth 100000
open Go.RowKit

/-- with one more behind -/
def Po.keep (p : Po) (x : Int) : Po := ⟨p.r, lastL (p.l ++ [x]) p.r.per.toNat⟩
theorem keep_full {p : Po} {m : Nat} (hm : p.r.per = (m : Int)) (h1 : 1 ≤ m) (h : p.l.length = m) (x : Int) : (p.keep x).l = p.l.drop 1 ++ [x] := by
  show lastL (p.l ++ [x]) p.r.per.toNat = _
  unfold lastL
  rw [hm, Int.toNat_natCast, List.length_append, List.length_singleton, show p.l.length + 1 - m = 1 by omega, List.drop_append_of_le_length (by omega)]
theorem keep_room {p : Po} {m : Nat} (hm : p.r.per = (m : Int)) (h : p.l.length < m) (x : Int) : (p.keep x).l = p.l ++ [x] := by
  show lastL (p.l ++ [x]) p.r.per.toNat = _
  exact lastL_all (by rw [hm, Int.toNat_natCast, List.length_append, List.length_singleton]; omega)
/-- what is kept of a call that puts x behind -/
def Kept (w : World) (b : Nat) (p : Po) (e : Ending) (w' : World) : Prop := e = .returned (.tuple #[]) ∧ PoTop w' b p ∧ Chg [b] w w'
theorem keep_fin {w w3 : World} {b : Nat} {p : Po} {ws : List Int} {K : Nat} {x : Int} {l0 : List Int} (h60 : ws.length = 60) (hl : ws.take K = l0) (hK : K < 60) (h0 : l0.length = K) (hp : (p.keep x).l = l0 ++ [x])
    (hr : w3.heap[b]? = some (.cells (poCells p.r (K + 1) ws) 84)) (hc : Chg [b] w w3) :
    PoTop (w3.setCell ⟨b, 8 + K, none⟩ (.int .i64 x)) b (p.keep x) ∧ Chg [b] w (w3.setCell ⟨b, 8 + K, none⟩ (.int .i64 x)) := by
  have hlen : (p.keep x).l.length = K + 1 := by rw [hp, List.length_append, h0]; rfl
  refine ⟨⟨ws.set K x, by rw [List.length_set, h60], ?_, ?_⟩, hc.set (.inl (by simp)) _⟩
  · rw [hlen, List.take_succ_eq_append_getElem (by rw [List.length_set]; omega), hp, List.getElem_set_self, List.take_set_of_le (Nat.le_refl _), hl]
  · rw [hlen]
    exact prow_want hr K x

set_option maxHeartbeats 1600000 in
theorem keep_any {b : Nat} {p : Po} (x : Int) (m : Nat) (hm : p.r.per = (m : Int)) (m1 : 1 ≤ m) (m60 : m ≤ 60) (hn : p.l.length ≤ m) {w : World} (H : PoTop w b p) :
    Calls Tryz.prog 44 #[.pointer (some ⟨b, 0, none⟩), .int .i64 x] w (Kept w b (p.keep x)) := by
  have A := hid (potop_any H (by omega))
  have PF := hid (fun h => keep_full (p := p) hm m1 h x)
  have PR := hid (fun h => keep_room (p := p) hm h x)
  have C4 := hid (fun W (h : w.grownBy W none) => (H.grown h).cells.1)
  have HI0 := hid (fun W (h : w.grownBy W none) => (H.grown h).ints (by omega))
  rw [hm] at C4
  obtain ⟨ws, h60, htk, hrow⟩ := H
  have H60 := hid h60; have HTK := hid htk
  have hrw := hid (fun W (h : w.grownBy W none) => at_grown hrow h (by simp))
  obtain ⟨n, hN⟩ : ∃ n, p.l.length = n := ⟨_, rfl⟩
  rw [hN] at A hn hrw HI0
  have HN := hid hN
  clear hN hm h60 htk hrow
  by_cases hf : n = m
  · subst hf
    have s0 : ((n : Int) == (n : Int)) = true := by simp
    obtain ⟨K, hK⟩ : ∃ K, n = K + 1 := ⟨n - 1, by omega⟩
    have HKK := hid hK
    have hs := fun u => parr_all b u
    clear hK
    go_enter Tryz.func44, Tryz.ntmps44
    go_wp2_with fail
    refine A.out.mono ?_
    rintro e w1 ⟨rfl, hg1⟩
    have G1 := hid (gb_drew hg1)
    have c4 := C4.out _ hg1; clear hg1
    go_wp2_with fail
    have HS := hid (hrw.out _ G1.out)
    have HI4 := hid (show IntsAt w1.drew (.slice (some ⟨b, 9, none⟩) (n - 1) 59) (p.l.drop 1) from by
      have hk := HKK.out
      have h := ints_slice1 (HI0.out _ G1.out) (i := 1) (by omega)
      exact h)
    have n1i : (1 : Int) ≤ (n : Int) := by omega
    have hcp := fun ty => pcopy_into HS.out H60.out HI4.out (by rw [List.length_drop, HN.out]; omega) ty
    obtain ⟨w3, hc1, hc2, hc3⟩ := hcp 3
    rw [show (p.l.drop 1).length = K by rw [List.length_drop, HN.out]; have := HKK.out; omega] at hc1 hc2
    have HC2 := hid hc2; have HC3 := hid hc3
    have c2 := at_cell hc2 7; rw [po_cell7] at c2
    have f2 := at_free hc2 7
    have HST := hid (store_i64 ⟨b, 7, none⟩ (K : Int) _ w3 c2 f2)
    clear hc2 hc3 hcp c2 f2
    refine wp_region_last (S := (fun w' => (True))) 10 10 #[false, false, false, false, false, false, false, false, false, false, true] (by kernel_rfl) (by kernel_rfl) (by kernel_rfl) (by kernel_rfl) trivial (fun hHeld => ?_)
    try dsimp only at hHeld
    refine' wpAnyH_take (i := 0) (v := _) rfl (by kernel_rfl) (by kernel_rfl) (by kernel_rfl) (fun _ _ _ h => h) (Or.inl ⟨by rfl, ?_⟩) hHeld ?_
    rotate_left
    · (intro w hSw; (try dsimp only at hSw); go_simp; try with_reducible rfl)
    try simp only [Act.put, List.setIfInBounds_toArray, List.set_cons_zero, List.set_cons_succ, List.getElem_toArray, List.getElem_cons_succ, List.getElem_cons_zero]
    refine' wpAnyH_take (i := 1) (v := _) rfl (by kernel_rfl) (by kernel_rfl) (by kernel_rfl) (fun _ _ _ h => h) (Or.inl ⟨by rfl, ?_⟩) hHeld ?_
    rotate_left
    · (intro w hSw; (try dsimp only at hSw); go_simp; try with_reducible rfl)
    try simp only [Act.put, List.setIfInBounds_toArray, List.set_cons_zero, List.set_cons_succ, List.getElem_toArray, List.getElem_cons_succ, List.getElem_cons_zero]
    refine' wpAnyH_take (i := 2) (v := _) rfl (by kernel_rfl) (by kernel_rfl) (by kernel_rfl) (fun _ _ _ h => h) (Or.inl ⟨by rfl, ?_⟩) hHeld ?_
    rotate_left
    · (intro w hSw; (try dsimp only at hSw); go_simp; try with_reducible rfl)
    try simp only [Act.put, List.setIfInBounds_toArray, List.set_cons_zero, List.set_cons_succ, List.getElem_toArray, List.getElem_cons_succ, List.getElem_cons_zero]
    refine' wpAnyH_take (i := 3) (v := _) rfl (by kernel_rfl) (by kernel_rfl) (by kernel_rfl) (fun _ _ _ h => h) (Or.inl ⟨by rfl, ?_⟩) hHeld ?_
    rotate_left
    · (intro w hSw; (try dsimp only at hSw); go_simp; try with_reducible rfl)
    try simp only [Act.put, List.setIfInBounds_toArray, List.set_cons_zero, List.set_cons_succ, List.getElem_toArray, List.getElem_cons_succ, List.getElem_cons_zero]
    refine' wpAnyH_take (i := 4) (v := _) rfl (by kernel_rfl) (by kernel_rfl) (by kernel_rfl) (fun _ _ _ h => h) (Or.inl ⟨by rfl, ?_⟩) hHeld ?_
    rotate_left
    · (intro w hSw; (try dsimp only at hSw); go_simp; try with_reducible rfl)
    try simp only [Act.put, List.setIfInBounds_toArray, List.set_cons_zero, List.set_cons_succ, List.getElem_toArray, List.getElem_cons_succ, List.getElem_cons_zero]
    refine' wpAnyH_take (i := 5) (v := _) rfl (by kernel_rfl) (by kernel_rfl) (by kernel_rfl) (fun _ _ _ h => h) (Or.inl ⟨by rfl, ?_⟩) hHeld ?_
    rotate_left
    · (intro w hSw; (try dsimp only at hSw); go_simp; try with_reducible rfl)
    try simp only [Act.put, List.setIfInBounds_toArray, List.set_cons_zero, List.set_cons_succ, List.getElem_toArray, List.getElem_cons_succ, List.getElem_cons_zero]
    refine' wpAnyH_take (i := 6) (v := _) rfl (by kernel_rfl) (by kernel_rfl) (by kernel_rfl) (fun _ _ _ h => h) (Or.inl ⟨by rfl, ?_⟩) hHeld ?_
    rotate_left
    · (intro w hSw; (try dsimp only at hSw); go_simp; try with_reducible rfl)
    try simp only [Act.put, List.setIfInBounds_toArray, List.set_cons_zero, List.set_cons_succ, List.getElem_toArray, List.getElem_cons_succ, List.getElem_cons_zero]
    refine' wpAnyH_take (i := 7) (v := _) rfl (by kernel_rfl) (by kernel_rfl) (by kernel_rfl) (fun _ _ _ h => h) (Or.inl ⟨by rfl, ?_⟩) hHeld ?_
    rotate_left
    · (intro w hSw; (try dsimp only at hSw); go_simp; try with_reducible rfl)
    try simp only [Act.put, List.setIfInBounds_toArray, List.set_cons_zero, List.set_cons_succ, List.getElem_toArray, List.getElem_cons_succ, List.getElem_cons_zero]
    refine' wpAnyH_take (i := 8) (v := _) rfl (by kernel_rfl) (by kernel_rfl) (by kernel_rfl) (fun _ _ _ h => h) (Or.inl ⟨by rfl, ?_⟩) hHeld ?_
    rotate_left
    · (intro w hSw; (try dsimp only at hSw); go_simp; try with_reducible rfl)
    try simp only [Act.put, List.setIfInBounds_toArray, List.set_cons_zero, List.set_cons_succ, List.getElem_toArray, List.getElem_cons_succ, List.getElem_cons_zero]
    refine wpAnyH_ready (rs := [9]) (by kernel_rfl) (by simp) ?_
    refine AllReadyH.cons (o := _) rfl (fun K hK => ?_) AllReadyH.nil
    have hH2 := hHeld
    have hp := hH2
    try simp only [List.getElem_toArray, List.getElem_cons_succ, List.getElem_cons_zero]
    rw [if_pos (by rfl)]
    refine pwp_copyN _ _ rfl _ _ rfl rfl hc1 ?_
    have L9 := hid (show (True) from hp)
    clear hHeld hp
    refine hK.out _ _ ?_ (fun hHeld => ?_)
    · exact L9.out
    clear hK K
    try dsimp only at hHeld
    try simp only [Act.put, List.setIfInBounds_toArray, List.set_cons_zero, List.set_cons_succ, List.getElem_toArray, List.getElem_cons_succ, List.getElem_cons_zero]
    refine wpAnyH_done (by kernel_rfl) ?_ _
    have hp := hHeld
    clear hp
    refine atLast_step (o := _) rfl (fun KK hK => ?_)
    try simp only [List.getElem_toArray, List.getElem_cons_succ, List.getElem_cons_zero]
    go_simp
    refine HST.out.mono ?_
    rintro e w4 ⟨rfl, rfl⟩
    go_wp2_with fail
    refine hK.out _ _ ?_
    clear hK KK
    try simp only [Act.put, List.setIfInBounds_toArray, List.set_cons_zero, List.set_cons_succ, List.getElem_toArray, List.getElem_cons_succ, List.getElem_cons_zero]
    have HROW0 := hid (prow_kept HC2.out K)
    have HC0 := hid (show Chg [b] w (w3.setCell ⟨b, 7, none⟩ (.int .i64 (K : Int))) from ((chg_grown G1.out [b]).then HC3.out).set (.inl (by simp)) _)
    generalize w3.setCell ⟨b, 7, none⟩ (.int .i64 (K : Int)) = wq at *
    have HROW := hid (show wq.drew.heap[b]? = _ from HROW0.out)
    have HC := hid (show Chg [b] w wq.drew from HC0.out.drew)
    have HFIN := hid (fun (w3 : World) hr hc => keep_fin (w := w) (w3 := w3) (b := b) (p := p) (ws := p.l.drop 1 ++ ws.drop K) (K := K) (x := x) (l0 := p.l.drop 1) (by rw [List.length_append, List.length_drop, List.length_drop, H60.out, HN.out]; have := HKK.out; omega) (by
      rw [List.take_append_of_le_length (by rw [List.length_drop, HN.out]; have := HKK.out; omega), List.take_of_length_le (by rw [List.length_drop, HN.out]; have := HKK.out; omega)]) (by have := HKK.out; omega) (by rw [List.length_drop, HN.out, HKK.out]; rfl) (PF.out HN.out) hr hc)
    have HK5 := hid (show K < (p.l.drop 1 ++ ws.drop K).length by rw [List.length_append, List.length_drop, List.length_drop, H60.out, HN.out]; have := HKK.out; omega)
    generalize p.l.drop 1 ++ ws.drop K = ws1 at *
    have hk60 : K < 60 := by have := HKK.out; omega
    obtain ⟨z, hz⟩ : ∃ z : Int, z = (K : Int) + 1 := ⟨_, rfl⟩
    have HZ := hid (show IntKind.i64.wrap ((K : Int) + 1) = z by rw [← hz]; exact IntWalk.i64_in _ (by omega))
    have HZK := hid (show z = ((K + 1 : Nat) : Int) by omega)
    have s5 : IntKind.i64.wrap (z - 1) = (K : Int) := by rw [IntWalk.i64_in _ (by omega)]; omega
    have k5 : (K : Int) < 60 := by omega
    clear hz HKK s0 HC2 HC3 HI4 HS HST hc1 HTK H60 HI0 hrw
    go_wp2_with fail
    refine wp_region_last (S := (fun w' => (True))) 10 10 #[false, false, false, false, false, false, false, false, false, false, true] (by kernel_rfl) (by kernel_rfl) (by kernel_rfl) (by kernel_rfl) trivial (fun hHeld => ?_)
    try dsimp only at hHeld
    refine' wpAnyH_take (i := 0) (v := _) rfl (by kernel_rfl) (by kernel_rfl) (by kernel_rfl) (fun _ _ _ h => h) (Or.inl ⟨by rfl, ?_⟩) hHeld ?_
    rotate_left
    · (intro w hSw; (try dsimp only at hSw); go_simp; try with_reducible rfl)
    try simp only [Act.put, List.setIfInBounds_toArray, List.set_cons_zero, List.set_cons_succ, List.getElem_toArray, List.getElem_cons_succ, List.getElem_cons_zero]
    refine' wpAnyH_take (i := 1) (v := _) rfl (by kernel_rfl) (by kernel_rfl) (by kernel_rfl) (fun _ _ _ h => h) (Or.inl ⟨by rfl, ?_⟩) hHeld ?_
    rotate_left
    · (intro w hSw; (try dsimp only at hSw); go_simp; try with_reducible rfl)
    try simp only [Act.put, List.setIfInBounds_toArray, List.set_cons_zero, List.set_cons_succ, List.getElem_toArray, List.getElem_cons_succ, List.getElem_cons_zero]
    refine' wpAnyH_take (i := 2) (v := _) rfl (by kernel_rfl) (by kernel_rfl) (by kernel_rfl) (fun _ _ _ h => h) (Or.inl ⟨by rfl, ?_⟩) hHeld ?_
    rotate_left
    · (intro w hSw; (try dsimp only at hSw); go_simp; try with_reducible rfl)
    try simp only [Act.put, List.setIfInBounds_toArray, List.set_cons_zero, List.set_cons_succ, List.getElem_toArray, List.getElem_cons_succ, List.getElem_cons_zero]
    refine' wpAnyH_take (i := 3) (v := _) rfl (by kernel_rfl) (by kernel_rfl) (by kernel_rfl) (fun _ _ _ h => h) (Or.inl ⟨by rfl, ?_⟩) hHeld ?_
    rotate_left
    · (intro w hSw; (try dsimp only at hSw); go_simp; try with_reducible rfl)
    try simp only [Act.put, List.setIfInBounds_toArray, List.set_cons_zero, List.set_cons_succ, List.getElem_toArray, List.getElem_cons_succ, List.getElem_cons_zero]
    refine' wpAnyH_take (i := 6) (v := _) rfl (by kernel_rfl) (by kernel_rfl) (by kernel_rfl) (fun _ _ _ h => h) (Or.inl ⟨by rfl, ?_⟩) hHeld ?_
    rotate_left
    · (intro w hSw; (try dsimp only at hSw); go_simp; try with_reducible rfl)
    try simp only [Act.put, List.setIfInBounds_toArray, List.set_cons_zero, List.set_cons_succ, List.getElem_toArray, List.getElem_cons_succ, List.getElem_cons_zero]
    refine' wpAnyH_take (i := 7) (v := _) rfl (by kernel_rfl) (by kernel_rfl) (by kernel_rfl) (fun _ _ _ h => h) (Or.inl ⟨by rfl, ?_⟩) hHeld ?_
    rotate_left
    · (intro w hSw; (try dsimp only at hSw); go_simp; try with_reducible rfl)
    try simp only [Act.put, List.setIfInBounds_toArray, List.set_cons_zero, List.set_cons_succ, List.getElem_toArray, List.getElem_cons_succ, List.getElem_cons_zero]
    refine' wpAnyH_take (i := 8) (v := _) rfl (by kernel_rfl) (by kernel_rfl) (by kernel_rfl) (fun _ _ _ h => h) (Or.inl ⟨by rfl, ?_⟩) hHeld ?_
    rotate_left
    · (intro w hSw; (try dsimp only at hSw); go_simp; try with_reducible rfl)
    try simp only [Act.put, List.setIfInBounds_toArray, List.set_cons_zero, List.set_cons_succ, List.getElem_toArray, List.getElem_cons_succ, List.getElem_cons_zero]
    refine wpAnyH_ready (rs := [4]) (by kernel_rfl) (by simp) ?_
    refine AllReadyH.cons (o := _) rfl (fun K hK => ?_) AllReadyH.nil
    try simp only [List.getElem_toArray, List.getElem_cons_succ, List.getElem_cons_zero]
    go_simp
    have hH2 := hHeld
    have hp := hH2
    refine (pkeptn HROW.out 1 z HZ.out HZK.out).mono ?_
    rintro e w1004 ⟨rfl, hrow, hch⟩
    have HR2 := hid hrow; have HC2 := hid (HC.out.then hch); clear hrow hch
    have hg := True.intro
    have L4 := hid (show (True) from hp)
    clear hHeld hg hp
    go_wp2_with fail
    refine hK.out _ _ ?_ (fun hHeld => ?_)
    · exact L4.out
    clear hK K
    try dsimp only at hHeld
    try simp only [Act.put, List.setIfInBounds_toArray, List.set_cons_zero, List.set_cons_succ, List.getElem_toArray, List.getElem_cons_succ, List.getElem_cons_zero]
    refine' wpAnyH_take (i := 5) (v := _) rfl (by kernel_rfl) (by kernel_rfl) (by kernel_rfl) (fun _ _ _ h => h) (Or.inl ⟨by rfl, ?_⟩) hHeld ?_
    rotate_left
    · (intro w hSw; (try dsimp only at hSw); go_simp; try with_reducible rfl)
    try simp only [Act.put, List.setIfInBounds_toArray, List.set_cons_zero, List.set_cons_succ, List.getElem_toArray, List.getElem_cons_succ, List.getElem_cons_zero]
    refine' wpAnyH_take (i := 9) (v := _) rfl (by kernel_rfl) (by kernel_rfl) (by kernel_rfl) (fun _ _ _ h => h) (Or.inl ⟨by rfl, ?_⟩) hHeld ?_
    rotate_left
    · (intro w hSw; (try dsimp only at hSw); go_simp; try with_reducible rfl)
    try simp only [Act.put, List.setIfInBounds_toArray, List.set_cons_zero, List.set_cons_succ, List.getElem_toArray, List.getElem_cons_succ, List.getElem_cons_zero]
    refine wpAnyH_done (by kernel_rfl) ?_ _
    have hp := hHeld
    have c5 := at_cell HR2.out (8 + K); have f5 := at_free HR2.out (8 + K)
    rw [po_cellk, List.getElem?_eq_getElem HK5.out] at c5
    clear hp
    refine atLast_step (o := _) rfl (fun K hK => ?_)
    try simp only [List.getElem_toArray, List.getElem_cons_succ, List.getElem_cons_zero]
    go_simp
    refine hK.out _ _ ?_
    clear hK K c5 f5
    try simp only [Act.put, List.setIfInBounds_toArray, List.set_cons_zero, List.set_cons_succ, List.getElem_toArray, List.getElem_cons_succ, List.getElem_cons_zero]
    go_wp2_with fail
    go_end0
    exact ⟨rfl, HFIN.out _ HR2.out HC2.out⟩
  · have s0 : ((n : Int) == (m : Int)) = false := by simp; omega
    have hk60 : n < 60 := by omega
    have HLT := hid (show n < m by omega)
    go_enter Tryz.func44, Tryz.ntmps44
    go_wp2_with fail
    refine A.out.mono ?_
    rintro e wq ⟨rfl, hg1⟩
    have G1 := hid (gb_drew hg1)
    have c4 := C4.out _ hg1; clear hg1
    have HROW := hid (hrw.out _ G1.out)
    have HC := hid (chg_grown G1.out [b])
    have HFIN := hid (fun (w3 : World) hr hc => keep_fin (w := w) (w3 := w3) (b := b) (p := p) (ws := ws) (K := n) (x := x) (l0 := p.l) H60.out (by rw [← HN.out]; exact HTK.out) hk60 HN.out (PR.out (by rw [HN.out]; exact HLT.out)) hr hc)
    have HK5 := hid (show n < ws.length by rw [H60.out]; exact hk60)
    obtain ⟨z, hz⟩ : ∃ z : Int, z = (n : Int) + 1 := ⟨_, rfl⟩
    have HZ := hid (show IntKind.i64.wrap ((n : Int) + 1) = z by rw [← hz]; exact IntWalk.i64_in _ (by omega))
    have HZK := hid (show z = ((n + 1 : Nat) : Int) by omega)
    have s5 : IntKind.i64.wrap (z - 1) = (n : Int) := by rw [IntWalk.i64_in _ (by omega)]; omega
    have k5 : (n : Int) < 60 := by omega
    clear hz HTK H60 hf HI0 hrw
    go_wp2_with fail
    refine wp_region_last (S := (fun w' => (True))) 10 10 #[false, false, false, false, false, false, false, false, false, false, true] (by kernel_rfl) (by kernel_rfl) (by kernel_rfl) (by kernel_rfl) trivial (fun hHeld => ?_)
    try dsimp only at hHeld
    refine' wpAnyH_take (i := 0) (v := _) rfl (by kernel_rfl) (by kernel_rfl) (by kernel_rfl) (fun _ _ _ h => h) (Or.inl ⟨by rfl, ?_⟩) hHeld ?_
    rotate_left
    · (intro w hSw; (try dsimp only at hSw); go_simp; try with_reducible rfl)
    try simp only [Act.put, List.setIfInBounds_toArray, List.set_cons_zero, List.set_cons_succ, List.getElem_toArray, List.getElem_cons_succ, List.getElem_cons_zero]
    refine' wpAnyH_take (i := 1) (v := _) rfl (by kernel_rfl) (by kernel_rfl) (by kernel_rfl) (fun _ _ _ h => h) (Or.inl ⟨by rfl, ?_⟩) hHeld ?_
    rotate_left
    · (intro w hSw; (try dsimp only at hSw); go_simp; try with_reducible rfl)
    try simp only [Act.put, List.setIfInBounds_toArray, List.set_cons_zero, List.set_cons_succ, List.getElem_toArray, List.getElem_cons_succ, List.getElem_cons_zero]
    refine' wpAnyH_take (i := 2) (v := _) rfl (by kernel_rfl) (by kernel_rfl) (by kernel_rfl) (fun _ _ _ h => h) (Or.inl ⟨by rfl, ?_⟩) hHeld ?_
    rotate_left
    · (intro w hSw; (try dsimp only at hSw); go_simp; try with_reducible rfl)
    try simp only [Act.put, List.setIfInBounds_toArray, List.set_cons_zero, List.set_cons_succ, List.getElem_toArray, List.getElem_cons_succ, List.getElem_cons_zero]
    refine' wpAnyH_take (i := 3) (v := _) rfl (by kernel_rfl) (by kernel_rfl) (by kernel_rfl) (fun _ _ _ h => h) (Or.inl ⟨by rfl, ?_⟩) hHeld ?_
    rotate_left
    · (intro w hSw; (try dsimp only at hSw); go_simp; try with_reducible rfl)
    try simp only [Act.put, List.setIfInBounds_toArray, List.set_cons_zero, List.set_cons_succ, List.getElem_toArray, List.getElem_cons_succ, List.getElem_cons_zero]
    refine' wpAnyH_take (i := 6) (v := _) rfl (by kernel_rfl) (by kernel_rfl) (by kernel_rfl) (fun _ _ _ h => h) (Or.inl ⟨by rfl, ?_⟩) hHeld ?_
    rotate_left
    · (intro w hSw; (try dsimp only at hSw); go_simp; try with_reducible rfl)
    try simp only [Act.put, List.setIfInBounds_toArray, List.set_cons_zero, List.set_cons_succ, List.getElem_toArray, List.getElem_cons_succ, List.getElem_cons_zero]
    refine' wpAnyH_take (i := 7) (v := _) rfl (by kernel_rfl) (by kernel_rfl) (by kernel_rfl) (fun _ _ _ h => h) (Or.inl ⟨by rfl, ?_⟩) hHeld ?_
    rotate_left
    · (intro w hSw; (try dsimp only at hSw); go_simp; try with_reducible rfl)
    try simp only [Act.put, List.setIfInBounds_toArray, List.set_cons_zero, List.set_cons_succ, List.getElem_toArray, List.getElem_cons_succ, List.getElem_cons_zero]
    refine' wpAnyH_take (i := 8) (v := _) rfl (by kernel_rfl) (by kernel_rfl) (by kernel_rfl) (fun _ _ _ h => h) (Or.inl ⟨by rfl, ?_⟩) hHeld ?_
    rotate_left
    · (intro w hSw; (try dsimp only at hSw); go_simp; try with_reducible rfl)
    try simp only [Act.put, List.setIfInBounds_toArray, List.set_cons_zero, List.set_cons_succ, List.getElem_toArray, List.getElem_cons_succ, List.getElem_cons_zero]
    refine wpAnyH_ready (rs := [4]) (by kernel_rfl) (by simp) ?_
    refine AllReadyH.cons (o := _) rfl (fun K hK => ?_) AllReadyH.nil
    try simp only [List.getElem_toArray, List.getElem_cons_succ, List.getElem_cons_zero]
    go_simp
    have hH2 := hHeld
    have hp := hH2
    refine (pkeptn HROW.out 1 z HZ.out HZK.out).mono ?_
    rintro e w1004 ⟨rfl, hrow, hch⟩
    have HR2 := hid hrow; have HC2 := hid (HC.out.then hch); clear hrow hch
    have hg := True.intro
    have L4 := hid (show (True) from hp)
    clear hHeld hg hp
    go_wp2_with fail
    refine hK.out _ _ ?_ (fun hHeld => ?_)
    · exact L4.out
    clear hK K
    try dsimp only at hHeld
    try simp only [Act.put, List.setIfInBounds_toArray, List.set_cons_zero, List.set_cons_succ, List.getElem_toArray, List.getElem_cons_succ, List.getElem_cons_zero]
    refine' wpAnyH_take (i := 5) (v := _) rfl (by kernel_rfl) (by kernel_rfl) (by kernel_rfl) (fun _ _ _ h => h) (Or.inl ⟨by rfl, ?_⟩) hHeld ?_
    rotate_left
    · (intro w hSw; (try dsimp only at hSw); go_simp; try with_reducible rfl)
    try simp only [Act.put, List.setIfInBounds_toArray, List.set_cons_zero, List.set_cons_succ, List.getElem_toArray, List.getElem_cons_succ, List.getElem_cons_zero]
    refine' wpAnyH_take (i := 9) (v := _) rfl (by kernel_rfl) (by kernel_rfl) (by kernel_rfl) (fun _ _ _ h => h) (Or.inl ⟨by rfl, ?_⟩) hHeld ?_
    rotate_left
    · (intro w hSw; (try dsimp only at hSw); go_simp; try with_reducible rfl)
    try simp only [Act.put, List.setIfInBounds_toArray, List.set_cons_zero, List.set_cons_succ, List.getElem_toArray, List.getElem_cons_succ, List.getElem_cons_zero]
    refine wpAnyH_done (by kernel_rfl) ?_ _
    have hp := hHeld
    have c5 := at_cell HR2.out (8 + n); have f5 := at_free HR2.out (8 + n)
    rw [po_cellk, List.getElem?_eq_getElem HK5.out] at c5
    clear hp
    refine atLast_step (o := _) rfl (fun K hK => ?_)
    try simp only [List.getElem_toArray, List.getElem_cons_succ, List.getElem_cons_zero]
    go_simp
    refine hK.out _ _ ?_
    clear hK K c5 f5
    try simp only [Act.put, List.setIfInBounds_toArray, List.set_cons_zero, List.set_cons_succ, List.getElem_toArray, List.getElem_cons_succ, List.getElem_cons_zero]
    go_wp2_with fail
    go_end0
    exact ⟨rfl, HFIN.out _ HR2.out HC2.out⟩
end Go.Proofs.YthobbekocimcnaaGreat
end
section
set_option linter.unusedSimpArgs false
set_option linter.unusedVariables false
namespace Go.Proofs.YthobbekocimcnaaGreat
set_option maxRecDepth 100000
open Go.RowKit

theorem PoAt.rcells {w : World} {b : Nat} {p : Po} (H : PoAt w b p) : w.cell? ⟨b, 0, none⟩ = some (.int .i64 p.r.pu) ∧ w.cell? ⟨b, 1, none⟩ = some (.int .i64 p.r.cu) ∧ w.cell? ⟨b, 2, none⟩ = some (.int .i64 p.r.pd) ∧ w.cell? ⟨b, 3, none⟩ = some (.int .i64 p.r.cd) ∧ w.cell? ⟨b, 4, none⟩ = some (.int .i64 p.r.per) ∧ w.cell? ⟨b, 5, none⟩ = some (.int .i64 p.r.mn) ∧ w.cell? ⟨b, 6, none⟩ = some (.int .i64 p.r.mx) := by
  obtain ⟨⟨ws, h1, h2, h3⟩, ho⟩ := H
  exact ⟨by rw [at_cell h3]; simp [poCells, iv], by rw [at_cell h3]; simp [poCells, iv], by rw [at_cell h3]; simp [poCells, iv], by rw [at_cell h3]; simp [poCells, iv], by rw [at_cell h3]; simp [poCells, iv], by rw [at_cell h3]; simp [poCells, iv], by rw [at_cell h3]; simp [poCells, iv]⟩
theorem in_inR (p : Po) (x : Int) : p.in x = inR p.r x := rfl
/-- New: none -/
theorem ponew_no (c : Conf) (first : Int) (h : ¬ ((rt c).may = true ∧ inR (rt c) first = true)) (w : World) :
    Calls Tryz.prog 20 #[cf c, .int .i64 first] w fun e w' => e = .returned (.pointer none) ∧ w.grownBy w' none := by
  have K := hid (boxc_new w c)
  have R := hid (rules_any c)
  cases hm : (rt c).may with
  | false =>
    rw [hm, if_neg (by simp)] at R
    clear h hm
    go_enter Tryz.func20, Tryz.ntmps20
    go_wp2_with (refine wpList_conf K.out.box rfl rfl rfl rfl ?_)
    refine (R.out _).mono ?_
    rintro e w1 ⟨rfl, hg⟩
    have G1 := hid (gb_trans K.out.g hg (.inl rfl)); clear hg
    go_wp2_with fail
    go_ret
    exact ⟨rfl, gb_alloc G1.out _⟩
  | true =>
    have hi : inR (rt c) first = false := by
      cases hb : inR (rt c) first with
      | false => rfl
      | true => exact absurd ⟨hm, hb⟩ h
    rw [hm, if_pos rfl] at R
    have B := hid (pbeyond_any (rt c) first)
    rw [hi] at B
    clear h hm hi
    go_enter Tryz.func20, Tryz.ntmps20
    go_wp2_with (refine wpList_conf K.out.box rfl rfl rfl rfl ?_)
    refine (R.out _).mono ?_
    rintro e w1 ⟨rfl, hg⟩
    have G1 := hid (gb_trans K.out.g hg (.inl rfl)); clear hg
    go_wp2_with fail
    refine (B.out _).mono ?_
    rintro e w2 ⟨rfl, hg⟩
    have G2 := hid (gb_trans (gb_alloc G1.out _) hg (.inl rfl)); clear hg
    go_wp2_with fail
    go_ret
    exact ⟨rfl, G2.out⟩
def PoMade (w : World) (p : Po) (e : Ending) (w' : World) : Prop := ∃ b, e = .returned (.pointer (some ⟨b, 0, none⟩)) ∧ PoAt w' b p ∧ w.grownBy w' none ∧ w.heap.size ≤ b
theorem ponew_ok (c : Conf) (first : Int) (hm : (rt c).may = true) (hi : inR (rt c) first = true) (w : World) :
    Calls Tryz.prog 20 #[cf c, .int .i64 first] w (PoMade w ⟨rt c, [first]⟩) := by
  have K := hid (boxc_new w c)
  have R := hid (rules_any c)
  rw [hm, if_pos rfl] at R
  have B := hid (pbeyond_any (rt c) first)
  rw [hi] at B
  have hr := Rt.may_iff.1 hm
  have hf : (rt c).mn ≤ first ∧ first ≤ (rt c).mx := by
    unfold inR at hi
    simpa using hi
  have hok := hid (Po.new_ok hr hf.1 hf.2)
  have hper := hr.per
  obtain ⟨m, hpm⟩ : ∃ m : Nat, (rt c).per = (m : Int) := ⟨(rt c).per.toNat, by omega⟩
  have KP := hid (fun (W : World) (b : Nat) (hT : PoTop W b ⟨rt c, []⟩) => keep_any (p := ⟨rt c, []⟩) first m hpm (by omega) (by omega) (Nat.zero_le _) hT)
  have hk := hid (show (Po.keep ⟨rt c, []⟩ first) = ⟨rt c, [first]⟩ by
    have h1 : (Po.keep ⟨rt c, []⟩ first).l = [first] := keep_room hpm (by show 0 < m; omega) first
    show Po.mk _ (Po.keep ⟨rt c, []⟩ first).l = _
    rw [h1])
  have TOP := hid (fun (W : World) => (show PoTop (W.alloc (.cells (poCells (rt c) 0 (List.replicate 60 0)) 84)) W.heap.size ⟨rt c, []⟩ from ⟨List.replicate 60 0, rfl, rfl, at_new W _⟩))
  clear hm hi hf hper hpm hr
  go_enter Tryz.func20, Tryz.ntmps20
  go_wp2_with (refine wpList_conf K.out.box rfl rfl rfl rfl ?_)
  refine (R.out _).mono ?_
  rintro e w1 ⟨rfl, hg⟩
  have G1 := hid (gb_trans K.out.g hg (.inl rfl)); clear hg
  go_wp2_with fail
  refine (B.out _).mono ?_
  rintro e w2 ⟨rfl, hg⟩
  have hrow := hid (at_grown (at_new w1 (.cells (rtCells (rt c)) 78)) hg (by simp))
  have G2 := hid (gb_trans (gb_alloc G1.out _) hg (.inl rfl)); clear hg
  go_wp2_with (first | refine wpList_row hrow.out Tryz.underlying78 rfl (by kernel_rfl) rfl rfl rfl rfl ?_ | refine wpList_buildTo (ty := 84) (cs := poCells (rt c) 0 (List.replicate 60 0)) rfl rfl rfl (by kernel_rfl) ?_)
  refine (KP.out _ _ (TOP.out w2)).mono ?_
  rintro e w3 ⟨rfl, ht, hc⟩
  rw [hk.out] at ht
  have HT := hid ht; have HC := hid hc; clear ht hc
  go_wp2_with fail
  go_ret
  refine ⟨_, rfl, ⟨HT.out, hok.out⟩, ((chg_grown (gb_alloc G2.out _) []).trans HC.out (fun y hy => by rw [List.mem_singleton] at hy; subst hy; exact .inr G2.out.size)).free (fun y hy => by cases hy), G2.out.size⟩

/-- Put -/
theorem pput_nil (x : Int) (w : World) :
    Calls Tryz.prog 49 #[.pointer none, .int .i64 x] w fun e w' => e = .returned (.int .i64 1) ∧ w = w' := by
  have I := hid (isMade_nil)
  go_enter Tryz.func49, Tryz.ntmps49
  go_wp2_with fail
  refine (I.out _).mono ?_
  rintro e w1 ⟨rfl, rfl⟩
  go_wp2_with fail
  go_ret
  exact ⟨rfl, rfl⟩
theorem pput_no {b : Nat} {p : Po} (x : Int) (hx : p.in x = false) {w : World} (H : PoAt w b p) :
    Calls Tryz.prog 49 #[.pointer (some ⟨b, 0, none⟩), .int .i64 x] w fun e w' => e = .returned (.int .i64 1) ∧ w.grownBy w' none := by
  have I := hid (isMade_any H)
  have HH := hid H
  have B := hid (pbeyond_any p.r x)
  rw [← in_inR, hx] at B
  clear hx H
  go_enter Tryz.func49, Tryz.ntmps49
  go_wp2_with fail
  refine I.out.mono ?_
  rintro e w1 ⟨rfl, hg⟩
  have G1 := hid hg; have H1 := hid (HH.out.grown hg); clear hg
  obtain ⟨d0, d1, d2, d3, d4, d5, d6⟩ := H1.out.rcells
  go_wp2_with fail
  refine (B.out _).mono ?_
  rintro e w2 ⟨rfl, hg⟩
  have G2 := hid (gb_trans G1.out hg (.inl rfl)); clear hg
  go_wp2_with fail
  go_ret
  exact ⟨rfl, G2.out⟩
theorem pput_yes {b : Nat} {p : Po} (x : Int) (hx : p.in x = true) {w : World} (H : PoAt w b p) :
    Calls Tryz.prog 49 #[.pointer (some ⟨b, 0, none⟩), .int .i64 x] w fun e w' => e = .returned (.int .i64 0) ∧ PoAt w' b (p.put x).2 ∧ Chg [b] w w' := by
  have I := hid (isMade_any H)
  have HH := hid H
  have B := hid (pbeyond_any p.r x)
  rw [← in_inR, hx] at B
  have hok := hid (Po.put_ok H.ok x)
  have hper := H.ok.r.per; have hn := H.ok.n
  obtain ⟨m, hpm⟩ : ∃ m : Nat, p.r.per = (m : Int) := ⟨p.r.per.toNat, by omega⟩
  have KP := hid (fun (W : World) (hT : PoTop W b p) => keep_any x m hpm (by omega) (by omega) (by omega) hT)
  have hk := hid (show p.keep x = (p.put x).2 by rw [Po.put_yes hx]; rfl)
  clear hx H hpm hper hn
  go_enter Tryz.func49, Tryz.ntmps49
  go_wp2_with fail
  refine I.out.mono ?_
  rintro e w1 ⟨rfl, hg⟩
  have G1 := hid hg; have H1 := hid (HH.out.grown hg); clear hg
  obtain ⟨d0, d1, d2, d3, d4, d5, d6⟩ := H1.out.rcells
  go_wp2_with fail
  refine (B.out _).mono ?_
  rintro e w2 ⟨rfl, hg⟩
  have G2 := hid (gb_trans G1.out hg (.inl rfl)); have H2 := hid (H1.out.grown hg); clear hg d0 d1 d2 d3 d4 d5 d6
  go_wp2_with fail
  refine (KP.out _ H2.out.top).mono ?_
  rintro e w3 ⟨rfl, ht, hc⟩
  rw [hk.out] at ht
  have HT := hid ht; have HC := hid hc; clear ht hc
  go_wp2_with fail
  go_ret
  exact ⟨rfl, ⟨HT.out, hok.out⟩, (chg_grown G2.out [b]).then HC.out⟩
/-- Base -/
theorem head_at (l : List Int) (h : 0 < l.length) : l[0] = l.headD 0 := by
  cases l with
  | nil => simp at h
  | cons a t => rfl
theorem pbase_any {b : Nat} {p : Po} {w : World} (H : PoAt w b p) :
    Calls Tryz.prog 54 #[.pointer (some ⟨b, 0, none⟩)] w fun e w' => e = .returned (.int .i64 p.base) ∧ w.grownBy w' none := by
  have I := hid (isMade_any H)
  have A := hid (fun W (h : w.grownBy W none) => pall_any (H.grown h))
  have n1 := H.ok.n1
  have hc := hid (fun W (h : w.grownBy W none) => (H.grown h).ints.cell n1)
  have hb : p.l[0]'n1 = p.base := by
    exact head_at p.l n1
  rw [hb] at hc
  generalize p.base = z at *
  have n1i : (1 : Int) ≤ (p.l.length : Int) := by omega
  clear hb
  generalize p.l.length = n at *
  clear H
  go_enter Tryz.func54, Tryz.ntmps54
  go_wp2_with fail
  refine I.out.mono ?_
  rintro e w1 ⟨rfl, hg⟩
  have G1 := hid hg; clear hg
  go_wp2_with fail
  refine (A.out _ G1.out).mono ?_
  rintro e w2 ⟨rfl, hg⟩
  have G2 := hid (gb_trans G1.out hg (.inl rfl)); clear hg
  obtain ⟨ab, ao, he, -, -, hcell⟩ := hc.out _ G2.out
  cases he
  go_wp2_with fail
  go_ret
  exact ⟨rfl, G2.out⟩
theorem pbase_nil (w : World) :
    Calls Tryz.prog 54 #[.pointer none] w fun e w' => e = .returned (.int .i64 0) ∧ w = w' := by
  have I := hid (isMade_nil)
  go_enter Tryz.func54, Tryz.ntmps54
  go_wp2_with fail
  refine (I.out _).mono ?_
  rintro e w1 ⟨rfl, rfl⟩
  go_wp2_with fail
  go_ret
  exact ⟨rfl, rfl⟩
/-- All -/
theorem pclone_any (a : Addr) (n c : Nat) (l : List Int) (w : World) (h : IntsAt w (.slice (some a) n c) l) (hn : l.length ≤ 999999) :
    Calls Tryz.prog 37 #[.slice (some a) n c] w fun e w' => (∃ v, e = .returned v ∧ OwnN w.heap.size w' v l) ∧ w.grownBy w' none := by
  have HI := hid h
  have hnil := Lib.run_eql_slice_nil w 22 3 (some a) n c 0 0 Tryz.underlying22
  have HE := hid (OwnN.empty w)
  have HB := hid (HI.out.alloc (.cells #[] 3))
  have HL := hid hn
  clear h hn
  go_enter Tryz.func37, Tryz.ntmps37
  go_wp2_with (refine append_nums rfl _ _ rfl w.heap.size _ [] rfl HE.out _ l rfl HB.out (by have := HL.out; simp; omega) (gb_size (gb_alloc (.refl w none) _)) ?_; intro v' w' hown hgrow hat)
  go_ret
  exact ⟨⟨_, rfl, by simpa using hown⟩, gb_ownN (gb_alloc (.refl w none) _) HE.out (Nat.le_refl _) hgrow⟩
theorem palls_any {b : Nat} {p : Po} {w : World} (H : PoAt w b p) :
    Calls Tryz.prog 17 #[.pointer (some ⟨b, 0, none⟩)] w fun e w' => (∃ v, e = .returned v ∧ OwnN w.heap.size w' v p.l) ∧ w.grownBy w' none := by
  have I := hid (isMade_any H)
  have A := hid (fun W (h : w.grownBy W none) => pall_any (H.grown h))
  have hn := H.ok.n60
  have C1 := hid (fun (W : World) (h : w.grownBy W none) => pclone_any _ _ _ p.l W (H.grown h).ints (by omega))
  generalize p.l = l at *
  clear H
  go_enter Tryz.func17, Tryz.ntmps17
  go_wp2_with fail
  refine I.out.mono ?_
  rintro e w1 ⟨rfl, hg⟩
  have G1 := hid hg; clear hg
  go_wp2_with fail
  refine (A.out _ G1.out).mono ?_
  rintro e w2 ⟨rfl, hg⟩
  have G2 := hid (gb_trans G1.out hg (.inl rfl)); clear hg
  go_wp2_with fail
  refine (C1.out _ G2.out).mono ?_
  rintro e w3 ⟨⟨v, rfl, hv⟩, hg⟩
  have V := hid (hv.le G2.out.size); have G3 := hid (gb_trans G2.out hg (.inl rfl))
  clear hv hg
  go_wp2_with fail
  go_ret
  exact ⟨⟨_, rfl, V.out⟩, G3.out⟩
theorem palls_nil (w : World) :
    Calls Tryz.prog 17 #[.pointer none] w fun e w' => e = .returned (.slice none 0 0) ∧ w = w' := by
  have I := hid (isMade_nil)
  go_enter Tryz.func17, Tryz.ntmps17
  go_wp2_with fail
  refine (I.out _).mono ?_
  rintro e w1 ⟨rfl, rfl⟩
  go_wp2_with fail
  go_ret
  exact ⟨rfl, rfl⟩
/-- Limit -/
theorem plim_nil (x : Int) (w : World) :
    Calls Tryz.prog 31 #[.pointer none, .int .i64 x] w fun e w' => e = .returned (.int .i64 0) ∧ w = w' := by
  have I := hid (isMade_nil)
  go_enter Tryz.func31, Tryz.ntmps31
  go_wp2_with fail
  refine (I.out _).mono ?_
  rintro e w1 ⟨rfl, rfl⟩
  go_wp2_with fail
  go_ret
  exact ⟨rfl, rfl⟩
set_option maxHeartbeats 1600000 in
theorem plim_any {b : Nat} {p : Po} (x : Int) {w : World} (H : PoAt w b p) :
    Calls Tryz.prog 31 #[.pointer (some ⟨b, 0, none⟩), .int .i64 x] w fun e w' => e = .returned (.int .i64 (p.lim x)) ∧ w.grownBy w' none := by
  have I := hid (isMade_any H)
  have HH := hid H
  have HOK := hid H.ok
  have HB := hid (show 0 ≤ p.base ∧ p.base ≤ 10000 by
    have h1 := Po.base_in H.ok; have h2 := H.ok.r.mn; have h3 := H.ok.r.mx
    omega)
  have HL := hid (show p.lim x = min (max (min (max x (p.r.lo p.base)) (p.r.hi p.base)) p.r.mn) p.r.mx from rfl)
  clear H
  go_enter Tryz.func31, Tryz.ntmps31
  go_wp2_with fail
  refine I.out.mono ?_
  rintro e w1 ⟨rfl, hg⟩
  have G := hg; have H := HH.out.grown hg; clear hg
  go_wp2_with fail
  refine wp_region_held_drew (S := (fun w' => (PoAt w' b p) ∧ (w.grownBy w' none))) (by kernel_rfl) ⟨H.drew, gb_drew G⟩ (fun hHeld => ?_)
  try dsimp only at hHeld
  clear H G
  refine' wpAnyH_take (i := 0) (v := _) rfl (by kernel_rfl) (by kernel_rfl) (by kernel_rfl) (fun _ _ _ h => h) (Or.inl ⟨by rfl, ?_⟩) hHeld ?_
  rotate_left
  · (intro w hSw; (try dsimp only at hSw); go_simp; try with_reducible rfl)
  try simp only [Act.put, List.setIfInBounds_toArray, List.set_cons_zero, List.set_cons_succ, List.getElem_toArray, List.getElem_cons_succ, List.getElem_cons_zero]
  refine' wpAnyH_take (i := 1) (v := _) rfl (by kernel_rfl) (by kernel_rfl) (by kernel_rfl) (fun _ _ _ h => h) (Or.inl ⟨by rfl, ?_⟩) hHeld ?_
  rotate_left
  · (intro w hSw; (try dsimp only at hSw); go_simp; try with_reducible rfl)
  try simp only [Act.put, List.setIfInBounds_toArray, List.set_cons_zero, List.set_cons_succ, List.getElem_toArray, List.getElem_cons_succ, List.getElem_cons_zero]
  refine' wpAnyH_take (i := 2) (v := _) rfl (by kernel_rfl) (by kernel_rfl) (by kernel_rfl) (fun _ _ _ h => h) (Or.inl ⟨by rfl, ?_⟩) hHeld ?_
  rotate_left
  · (intro w hSw; (try dsimp only at hSw); go_simp; try with_reducible rfl)
  try simp only [Act.put, List.setIfInBounds_toArray, List.set_cons_zero, List.set_cons_succ, List.getElem_toArray, List.getElem_cons_succ, List.getElem_cons_zero]
  refine' wpAnyH_take (i := 3) (v := _) rfl (by kernel_rfl) (by kernel_rfl) (by kernel_rfl) (fun _ _ _ h => h) (Or.inl ⟨by rfl, ?_⟩) hHeld ?_
  rotate_left
  · (intro w hSw; (try dsimp only at hSw); obtain ⟨H, G⟩ := hSw; obtain ⟨d0, d1, d2, d3, d4, d5, d6⟩ := H.rcells; obtain ⟨-, -, -, -, fz⟩ := H.cells; go_simp; try with_reducible rfl)
  try simp only [Act.put, List.setIfInBounds_toArray, List.set_cons_zero, List.set_cons_succ, List.getElem_toArray, List.getElem_cons_succ, List.getElem_cons_zero]
  refine' wpAnyH_take (i := 4) (v := _) rfl (by kernel_rfl) (by kernel_rfl) (by kernel_rfl) (fun _ _ _ h => h) (Or.inl ⟨by rfl, ?_⟩) hHeld ?_
  rotate_left
  · (intro w hSw; (try dsimp only at hSw); go_simp; try with_reducible rfl)
  try simp only [Act.put, List.setIfInBounds_toArray, List.set_cons_zero, List.set_cons_succ, List.getElem_toArray, List.getElem_cons_succ, List.getElem_cons_zero]
  refine wpAnyH_ready (rs := [5]) (by kernel_rfl) (by simp) ?_
  refine AllReadyH.cons (o := _) rfl (fun K hK => ?_) AllReadyH.nil
  try simp only [List.getElem_toArray, List.getElem_cons_succ, List.getElem_cons_zero]
  go_simp
  have hH2 := hHeld
  obtain ⟨H, G⟩ := hH2
  refine (pbase_any H).mono ?_
  rintro e w1005 ⟨rfl, hg⟩
  have L5 := hid (show (PoAt w1005 b p) ∧ (w.grownBy w1005 none) from ⟨H.grown hg, gb_trans G hg (.inl rfl)⟩)
  clear hHeld hg H G
  go_wp2_with fail
  refine hK.out _ _ ?_ (fun hHeld => ?_)
  · exact L5.out
  clear hK K
  try dsimp only at hHeld
  try simp only [Act.put, List.setIfInBounds_toArray, List.set_cons_zero, List.set_cons_succ, List.getElem_toArray, List.getElem_cons_succ, List.getElem_cons_zero]
  refine wpAnyH_ready (rs := [6]) (by kernel_rfl) (by simp) ?_
  refine AllReadyH.cons (o := _) rfl (fun K hK => ?_) AllReadyH.nil
  try simp only [List.getElem_toArray, List.getElem_cons_succ, List.getElem_cons_zero]
  go_simp
  have hH2 := hHeld
  obtain ⟨H, G⟩ := hH2
  refine (pbounds_any p.r p.base HOK.out.r HB.out.1 HB.out.2 _).mono ?_
  rintro e w1006 ⟨rfl, hg⟩
  have L6 := hid (show (PoAt w1006 b p) ∧ (w.grownBy w1006 none) from ⟨H.grown hg, gb_trans G hg (.inl rfl)⟩)
  clear hHeld hg H G
  go_wp2_with fail
  refine hK.out _ _ ?_ (fun hHeld => ?_)
  · exact L6.out
  clear hK K
  try dsimp only at hHeld
  try simp only [Act.put, List.setIfInBounds_toArray, List.set_cons_zero, List.set_cons_succ, List.getElem_toArray, List.getElem_cons_succ, List.getElem_cons_zero]
  refine' wpAnyH_take (i := 7) (v := _) rfl (by kernel_rfl) (by kernel_rfl) (by kernel_rfl) (fun _ _ _ h => h) (Or.inl ⟨by rfl, ?_⟩) hHeld ?_
  rotate_left
  · (intro w hSw; (try dsimp only at hSw); go_simp; try with_reducible rfl)
  try simp only [Act.put, List.setIfInBounds_toArray, List.set_cons_zero, List.set_cons_succ, List.getElem_toArray, List.getElem_cons_succ, List.getElem_cons_zero]
  refine' wpAnyH_take (i := 8) (v := _) rfl (by kernel_rfl) (by kernel_rfl) (by kernel_rfl) (fun _ _ _ h => h) (Or.inl ⟨by rfl, ?_⟩) hHeld ?_
  rotate_left
  · (intro w hSw; (try dsimp only at hSw); go_simp; try with_reducible rfl)
  try simp only [Act.put, List.setIfInBounds_toArray, List.set_cons_zero, List.set_cons_succ, List.getElem_toArray, List.getElem_cons_succ, List.getElem_cons_zero]
  refine' wpAnyH_take (i := 9) (v := _) rfl (by kernel_rfl) (by kernel_rfl) (by kernel_rfl) (fun _ _ _ h => h) (Or.inl ⟨by rfl, ?_⟩) hHeld ?_
  rotate_left
  · (intro w hSw; (try dsimp only at hSw); go_simp; try with_reducible rfl)
  try simp only [Act.put, List.setIfInBounds_toArray, List.set_cons_zero, List.set_cons_succ, List.getElem_toArray, List.getElem_cons_succ, List.getElem_cons_zero]
  refine' wpAnyH_take (i := 10) (v := _) rfl (by kernel_rfl) (by kernel_rfl) (by kernel_rfl) (fun _ _ _ h => h) (Or.inl ⟨by rfl, ?_⟩) hHeld ?_
  rotate_left
  · (intro w hSw; (try dsimp only at hSw); go_simp; try with_reducible rfl)
  try simp only [Act.put, List.setIfInBounds_toArray, List.set_cons_zero, List.set_cons_succ, List.getElem_toArray, List.getElem_cons_succ, List.getElem_cons_zero]
  refine' wpAnyH_take (i := 11) (v := _) rfl (by kernel_rfl) (by kernel_rfl) (by kernel_rfl) (fun _ _ _ h => h) (Or.inl ⟨by rfl, ?_⟩) hHeld ?_
  rotate_left
  · (intro w hSw; (try dsimp only at hSw); go_simp; try with_reducible rfl)
  try simp only [Act.put, List.setIfInBounds_toArray, List.set_cons_zero, List.set_cons_succ, List.getElem_toArray, List.getElem_cons_succ, List.getElem_cons_zero]
  refine wpAnyH_done (by kernel_rfl) ?_ _
  obtain ⟨H, G⟩ := hHeld
  have H3 := hid H; have G3 := hid G; clear H G
  go_wp2_with fail
  generalize p.r.lo p.base = lo at *
  generalize p.r.hi p.base = hi at *
  obtain ⟨-, d5, d6, -, fz⟩ := H3.out.cells
  have C1 := hid (clamp_any x lo hi)
  obtain ⟨z, hz⟩ : ∃ z, min (max x lo) hi = z := ⟨_, rfl⟩
  rw [hz] at HL C1
  have C2 := hid (clamp_any z p.r.mn p.r.mx)
  rw [← HL.out] at C2
  obtain ⟨y, hy⟩ : ∃ y, p.lim x = y := ⟨_, rfl⟩
  rw [hy] at C2
  have HY := hid hy
  clear hz HL hy
  generalize p.r.mn = mn at *
  generalize p.r.mx = mx at *
  go_quiet ((go_at_call 55; first | with_reducible exact Calls.quiet_of_same (still_of (C1.out _)) | with_reducible exact Calls.quiet_of_same (still_of (C2.out _))))
  go_wp2_with fail
  go_ret
  exact ⟨congrArg (fun z => Ending.returned (.int .i64 z)) HY.out.symm, gb_trans G3.out ⟨rfl, rfl, rfl, Nat.le_refl _, fun _ _ _ => rfl⟩ (.inl rfl)⟩
end Go.Proofs.YthobbekocimcnaaGreat
end
section
set_option linter.unusedSimpArgs false
set_option linter.unusedVariables false
namespace Go.Proofs.YthobbekocimcnaaGreat
set_option maxRecDepth 100000
open Go.RowKit

theorem rmay_any (v t l : Int) (w : World) :
    Calls Tryz.prog 74 #[.int .i64 v, .int .i64 t, .int .i64 l] w fun e w' => e = .returned (.bool (raMay v t l)) ∧ w = w' := by
  unfold raMay
  cases d0 : decide (0 ≤ v) with
  | false =>
    simp only [Bool.false_and, Bool.and_false, Bool.true_and]
    go_enter Tryz.func74, Tryz.ntmps74
    go_wp2_with fail
    go_ret
    exact ⟨rfl, rfl⟩
  | true =>
    cases d1 : decide (v ≤ 1099511627776) with
    | false =>
      simp only [Bool.false_and, Bool.and_false, Bool.true_and]
      go_enter Tryz.func74, Tryz.ntmps74
      go_wp2_with fail
      go_ret
      exact ⟨rfl, rfl⟩
    | true =>
      cases d2 : decide (1 ≤ t) with
      | false =>
        simp only [Bool.false_and, Bool.and_false, Bool.true_and]
        go_enter Tryz.func74, Tryz.ntmps74
        go_wp2_with fail
        go_ret
        exact ⟨rfl, rfl⟩
      | true =>
        cases d3 : decide (t ≤ 1099511627776) with
        | false =>
          simp only [Bool.false_and, Bool.and_false, Bool.true_and]
          go_enter Tryz.func74, Tryz.ntmps74
          go_wp2_with fail
          go_ret
          exact ⟨rfl, rfl⟩
        | true =>
          cases d4 : decide (0 ≤ l) with
          | false =>
            simp only [Bool.false_and, Bool.and_false, Bool.true_and]
            go_enter Tryz.func74, Tryz.ntmps74
            go_wp2_with fail
            go_ret
            exact ⟨rfl, rfl⟩
          | true =>
            cases d5 : decide (l ≤ 1000) with
            | false =>
              simp only [Bool.false_and, Bool.and_false, Bool.true_and]
              go_enter Tryz.func74, Tryz.ntmps74
              go_wp2_with fail
              go_ret
              exact ⟨rfl, rfl⟩
            | true =>
              simp only [Bool.true_and, Bool.and_true]
              go_enter Tryz.func74, Tryz.ntmps74
              go_wp2_with fail
              go_ret
              exact ⟨rfl, rfl⟩

theorem rrmay_any (v t l : Int) (w : World) :
    Calls Tryz.prog 61 #[.int .i64 v, .int .i64 t, .int .i64 l] w fun e w' => e = .returned (.bool (raMay v t l)) ∧ w = w' := by
  unfold raMay
  cases d0 : decide (0 ≤ v) with
  | false =>
    simp only [Bool.false_and, Bool.and_false, Bool.true_and]
    go_enter Tryz.func61, Tryz.ntmps61
    go_wp2_with fail
    go_ret
    exact ⟨rfl, rfl⟩
  | true =>
    cases d1 : decide (v ≤ 1099511627776) with
    | false =>
      simp only [Bool.false_and, Bool.and_false, Bool.true_and]
      go_enter Tryz.func61, Tryz.ntmps61
      go_wp2_with fail
      go_ret
      exact ⟨rfl, rfl⟩
    | true =>
      cases d2 : decide (1 ≤ t) with
      | false =>
        simp only [Bool.false_and, Bool.and_false, Bool.true_and]
        go_enter Tryz.func61, Tryz.ntmps61
        go_wp2_with fail
        go_ret
        exact ⟨rfl, rfl⟩
      | true =>
        cases d3 : decide (t ≤ 1099511627776) with
        | false =>
          simp only [Bool.false_and, Bool.and_false, Bool.true_and]
          go_enter Tryz.func61, Tryz.ntmps61
          go_wp2_with fail
          go_ret
          exact ⟨rfl, rfl⟩
        | true =>
          cases d4 : decide (0 ≤ l) with
          | false =>
            simp only [Bool.false_and, Bool.and_false, Bool.true_and]
            go_enter Tryz.func61, Tryz.ntmps61
            go_wp2_with fail
            go_ret
            exact ⟨rfl, rfl⟩
          | true =>
            cases d5 : decide (l ≤ 1000) with
            | false =>
              simp only [Bool.false_and, Bool.and_false, Bool.true_and]
              go_enter Tryz.func61, Tryz.ntmps61
              go_wp2_with fail
              go_ret
              exact ⟨rfl, rfl⟩
            | true =>
              simp only [Bool.true_and, Bool.and_true]
              go_enter Tryz.func61, Tryz.ntmps61
              go_wp2_with fail
              go_ret
              exact ⟨rfl, rfl⟩

set_option maxHeartbeats 800000 in
theorem near_any (v t l : Int) (w : World) (hv : 0 ≤ v ∧ v ≤ 1099511627776) (ht : 1 ≤ t ∧ t ≤ 1099511627776) (hl : 0 ≤ l ∧ l ≤ 1000) :
    Calls Tryz.prog 75 #[.int .i64 v, .int .i64 t, .int .i64 l] w fun e w' => e = .returned (.bool (raNear v t l)) ∧ w = w' := by
  obtain ⟨A, hA⟩ : ∃ A, v * 1000 = A := ⟨_, rfl⟩
  obtain ⟨B, hB⟩ : ∃ B, 1000 - l = B := ⟨_, rfl⟩
  obtain ⟨D, hD⟩ : ∃ D, 1000 + l = D := ⟨_, rfl⟩
  have b1 := ra_low ht hl
  have b2 := ra_high ht hl
  unfold raNear
  rw [hA, hB, hD]
  rw [hB] at b1
  rw [hD] at b2
  obtain ⟨C, hC⟩ : ∃ C, t * B = C := ⟨_, rfl⟩
  obtain ⟨E, hE⟩ : ∃ E, t * D = E := ⟨_, rfl⟩
  rw [hC] at b1 ⊢
  rw [hE] at b2 ⊢
  have e1 : IntKind.i64.wrap (v * 1000) = A := by rw [hA]; exact IntWalk.i64_in _ (by omega)
  have e2 : IntKind.i64.wrap (1000 - l) = B := by rw [hB]; exact IntWalk.i64_in _ (by omega)
  have e3 : IntKind.i64.wrap (1000 + l) = D := by rw [hD]; exact IntWalk.i64_in _ (by omega)
  have e4 : IntKind.i64.wrap (t * B) = C := by rw [hC]; exact IntWalk.i64_in _ (by omega)
  have e5 : IntKind.i64.wrap (t * D) = E := by rw [hE]; exact IntWalk.i64_in _ (by omega)
  clear hA hB hD hC hE b1 b2
  clear hv ht hl
  cases d0 : decide (C ≤ A) with
  | false =>
    simp only [Bool.false_and]
    go_enter Tryz.func75, Tryz.ntmps75
    go_wp2_with fail
    go_ret
    exact ⟨rfl, rfl⟩
  | true =>
    cases d1 : decide (A ≤ E) with
    | false =>
      simp only [Bool.and_false]
      go_enter Tryz.func75, Tryz.ntmps75
      go_wp2_with fail
      go_ret
      exact ⟨rfl, rfl⟩
    | true =>
      simp only [Bool.and_true]
      go_enter Tryz.func75, Tryz.ntmps75
      go_wp2_with fail
      go_ret
      exact ⟨rfl, rfl⟩

theorem shares_any (x t : Int) (w : World) (hx : 0 ≤ x ∧ x ≤ 10995116277760000) (ht : 1 ≤ t ∧ t ≤ 1099511627776) :
    Calls Tryz.prog 76 #[.int .i64 x, .int .i64 t] w fun e w' => e = .returned (.int .i64 (raShares x t)) ∧ w = w' := by
  have hq := raShares_tdiv hx.1 ht.1
  have hs := raShares_spec hx.1 ht.1
  have hle : raShares x t ≤ x := raShares_least ht.1 (by have := Int.mul_le_mul_of_nonneg_left ht.1 hx.1; omega)
  obtain ⟨A, hA⟩ : ∃ A, x + t = A := ⟨_, rfl⟩
  obtain ⟨B, hB⟩ : ∃ B, A - 1 = B := ⟨_, rfl⟩
  obtain ⟨S, hS⟩ : ∃ S, raShares x t = S := ⟨_, rfl⟩
  rw [hA, hB, hS] at hq
  rw [hS] at hs hle ⊢
  have e1 : IntKind.i64.wrap (x + t) = A := by rw [hA]; exact IntWalk.i64_in _ (by omega)
  have e2 : IntKind.i64.wrap (A - 1) = B := by rw [hB]; exact IntWalk.i64_in _ (by omega)
  have e3 : IntKind.i64.wrap (B.tdiv t) = S := by rw [hq]; exact IntWalk.i64_in _ (by omega)
  have n0 : ¬ t = 0 := by omega
  have n1 : (1 : Int) ≤ t := ht.1
  clear hA hB hS hq hs hle hx ht
  go_enter Tryz.func76, Tryz.ntmps76
  go_wp2_with fail
  go_ret
  exact ⟨rfl, rfl⟩

set_option maxHeartbeats 800000 in
theorem rrin_any (v t l : Int) (w : World) :
    Calls Tryz.prog 79 #[.int .i64 v, .int .i64 t, .int .i64 l] w fun e w' => e = .returned (.bool (raIn v t l)) ∧ w = w' := by
  have M := rrmay_any v t l w
  unfold raIn
  cases hm : raMay v t l with
  | false =>
    rw [hm] at M
    have M := hid M
    simp only [Bool.false_and]
    clear hm
    go_enter Tryz.func79, Tryz.ntmps79
    go_wp2_with fail
    refine M.out.mono ?_
    rintro e w1 ⟨rfl, rfl⟩
    clear M
    go_wp2_with fail
    go_ret
    exact ⟨rfl, rfl⟩
  | true =>
    rw [hm] at M
    have M := hid M
    obtain ⟨hv, ht, hl⟩ := raMay_iff.1 hm
    simp only [Bool.true_and]
    clear hm
    obtain ⟨A, hA⟩ : ∃ A, v * 1000 = A := ⟨_, rfl⟩
    obtain ⟨B, hB⟩ : ∃ B, 1000 - l = B := ⟨_, rfl⟩
    obtain ⟨D, hD⟩ : ∃ D, 1000 + l = D := ⟨_, rfl⟩
    have b1 := ra_low ht hl
    have b2 := ra_high ht hl
    unfold raNear
    rw [hA, hB, hD]
    rw [hB] at b1
    rw [hD] at b2
    obtain ⟨C, hC⟩ : ∃ C, t * B = C := ⟨_, rfl⟩
    obtain ⟨E, hE⟩ : ∃ E, t * D = E := ⟨_, rfl⟩
    rw [hC] at b1 ⊢
    rw [hE] at b2 ⊢
    have e1 : IntKind.i64.wrap (v * 1000) = A := by rw [hA]; exact IntWalk.i64_in _ (by omega)
    have e2 : IntKind.i64.wrap (1000 - l) = B := by rw [hB]; exact IntWalk.i64_in _ (by omega)
    have e3 : IntKind.i64.wrap (1000 + l) = D := by rw [hD]; exact IntWalk.i64_in _ (by omega)
    have e4 : IntKind.i64.wrap (t * B) = C := by rw [hC]; exact IntWalk.i64_in _ (by omega)
    have e5 : IntKind.i64.wrap (t * D) = E := by rw [hE]; exact IntWalk.i64_in _ (by omega)
    clear hA hB hD hC hE b1 b2
    clear hv ht hl
    cases d0 : decide (C ≤ A) with
    | false =>
      simp only [Bool.false_and]
      go_enter Tryz.func79, Tryz.ntmps79
      go_wp2_with fail
      refine M.out.mono ?_
      rintro e w1 ⟨rfl, rfl⟩
      clear M
      go_wp2_with fail
      go_ret
      exact ⟨rfl, rfl⟩
    | true =>
      cases d1 : decide (A ≤ E) with
      | false =>
        simp only [Bool.and_false]
        go_enter Tryz.func79, Tryz.ntmps79
        go_wp2_with fail
        refine M.out.mono ?_
        rintro e w1 ⟨rfl, rfl⟩
        clear M
        go_wp2_with fail
        go_ret
        exact ⟨rfl, rfl⟩
      | true =>
        simp only [Bool.and_true]
        go_enter Tryz.func79, Tryz.ntmps79
        go_wp2_with fail
        refine M.out.mono ?_
        rintro e w1 ⟨rfl, rfl⟩
        clear M
        go_wp2_with fail
        go_ret
        exact ⟨rfl, rfl⟩

set_option maxHeartbeats 800000 in
theorem wanted_any (c v t l : Int) (w : World) :
    Calls Tryz.prog 51 #[.int .i64 c, .int .i64 v, .int .i64 t, .int .i64 l] w fun e w' => e = .returned (.tuple #[.int .i64 (raWant c v t l), .bool (raOk c v t l)]) ∧ w = w' := by
  have M := rmay_any v t l w
  cases d0 : decide (c < 0) with
  | true =>
    have h0 : c < 0 := by simpa using d0
    have ho : raOk c v t l = false := by cases h : raOk c v t l with | false => rfl | true => have := (raOk_iff.1 h).1; omega
    rw [raWant_not ho, ho]
    clear M ho h0
    go_enter Tryz.func51, Tryz.ntmps51
    go_wp2_with fail
    go_ret2
    exact ⟨rfl, rfl⟩
  | false =>
  have h0 : ¬ c < 0 := by simpa using d0
  cases d1 : decide (10000 < c) with
  | true =>
    have h1 : 10000 < c := by simpa using d1
    have ho : raOk c v t l = false := by cases h : raOk c v t l with | false => rfl | true => have := (raOk_iff.1 h).1; omega
    rw [raWant_not ho, ho]
    clear M ho h0 h1
    go_enter Tryz.func51, Tryz.ntmps51
    go_wp2_with fail
    go_ret2
    exact ⟨rfl, rfl⟩
  | false =>
  have h1 : ¬ 10000 < c := by simpa using d1
  cases hm : raMay v t l with
  | false =>
    rw [hm] at M
    have M := hid M
    have ho : raOk c v t l = false := by unfold raOk; rw [hm, Bool.and_false]
    rw [raWant_not ho, ho]
    clear ho h0 h1 hm
    go_enter Tryz.func51, Tryz.ntmps51
    go_wp2_with fail
    refine M.out.mono ?_
    rintro e w1 ⟨rfl, rfl⟩
    clear M
    go_wp2_with fail
    go_ret2
    exact ⟨rfl, rfl⟩
  | true =>
  rw [hm] at M
  have M := hid M
  obtain ⟨hv, ht, hl⟩ := raMay_iff.1 hm
  have ho : raOk c v t l = true := raOk_iff.2 ⟨by omega, hv, ht, hl⟩
  have hin := raIn_near ho
  rw [ho]
  have N := fun w => near_any v t l w hv ht hl
  cases hn : raNear v t l with
  | true =>
    rw [hn] at N
    have N := hid N
    rw [raWant_in (by omega) (by rw [hin, hn])]
    clear ho h0 h1 hm hin hn hv ht hl
    go_enter Tryz.func51, Tryz.ntmps51
    go_wp2_with fail
    refine M.out.mono ?_
    rintro e w1 ⟨rfl, rfl⟩
    clear M
    go_wp2_with fail
    refine (N.out _).mono ?_
    rintro e w2 ⟨rfl, rfl⟩
    clear N
    go_wp2_with fail
    go_ret2
    exact ⟨rfl, rfl⟩
  | false =>
  rw [hn] at N
  have N := hid N
  rw [raWant_out ho (by rw [hin, hn])]
  have hb := ra_load (c := c) (v := v) (by omega) hv
  obtain ⟨X, hX⟩ : ∃ X, c * v = X := ⟨_, rfl⟩
  rw [hX] at hb ⊢
  have e1 : IntKind.i64.wrap (c * v) = X := by rw [hX]; exact IntWalk.i64_in _ (by omega)
  have S := hid (fun w => shares_any X t w hb ht)
  obtain ⟨Z, hZ⟩ : ∃ Z, raShares X t = Z := ⟨_, rfl⟩
  rw [hZ] at S ⊢
  obtain ⟨Y, hY⟩ : ∃ Y, min 1000000 Z = Y := ⟨_, rfl⟩
  rw [hY]
  have HY := hid hY; clear hY
  clear ho h0 h1 hm hin hn hv ht hl hX hb hZ
  go_enter Tryz.func51, Tryz.ntmps51
  go_wp2_with fail
  refine M.out.mono ?_
  rintro e w1 ⟨rfl, rfl⟩
  clear M
  go_wp2_with fail
  refine (N.out _).mono ?_
  rintro e w2 ⟨rfl, rfl⟩
  clear N
  go_wp2_with fail
  refine (S.out _).mono ?_
  rintro e w3 ⟨rfl, rfl⟩
  clear S
  go_wp2_with fail
  all_goals go_ret2
  all_goals refine ⟨?_, rfl⟩
  all_goals first | (obtain rfl : Y = Z := (by have := HY.out; omega); rfl) | (obtain rfl : Y = 1000000 := (by have := HY.out; omega); rfl) | (obtain rfl : Y = min 1000000 Z := (by have := HY.out; omega); rfl)

set_option maxHeartbeats 800000 in
theorem rrwant_any (c v t l : Int) (w : World) :
    Calls Tryz.prog 62 #[.int .i64 c, .int .i64 v, .int .i64 t, .int .i64 l] w fun e w' => e = .returned (.int .i64 (raWant c v t l)) ∧ w = w' := by
  have M := rrmay_any v t l w
  cases d0 : decide (c < 0) with
  | true =>
    have h0 : c < 0 := by simpa using d0
    have ho : raOk c v t l = false := by cases h : raOk c v t l with | false => rfl | true => have := (raOk_iff.1 h).1; omega
    rw [raWant_not ho]
    clear M ho h0
    go_enter Tryz.func62, Tryz.ntmps62
    go_wp2_with fail
    go_ret
    exact ⟨rfl, rfl⟩
  | false =>
  have h0 : ¬ c < 0 := by simpa using d0
  cases d1 : decide (10000 < c) with
  | true =>
    have h1 : 10000 < c := by simpa using d1
    have ho : raOk c v t l = false := by cases h : raOk c v t l with | false => rfl | true => have := (raOk_iff.1 h).1; omega
    rw [raWant_not ho]
    clear M ho h0 h1
    go_enter Tryz.func62, Tryz.ntmps62
    go_wp2_with fail
    go_ret
    exact ⟨rfl, rfl⟩
  | false =>
  have h1 : ¬ 10000 < c := by simpa using d1
  cases hm : raMay v t l with
  | false =>
    rw [hm] at M
    have M := hid M
    have ho : raOk c v t l = false := by unfold raOk; rw [hm, Bool.and_false]
    rw [raWant_not ho]
    clear ho h0 h1 hm
    go_enter Tryz.func62, Tryz.ntmps62
    go_wp2_with fail
    refine M.out.mono ?_
    rintro e w1 ⟨rfl, rfl⟩
    clear M
    go_wp2_with fail
    go_ret
    exact ⟨rfl, rfl⟩
  | true =>
  rw [hm] at M
  have M := hid M
  obtain ⟨hv, ht, hl⟩ := raMay_iff.1 hm
  have ho : raOk c v t l = true := raOk_iff.2 ⟨by omega, hv, ht, hl⟩
  have hin := raIn_near ho

  have N := fun w => rrin_any v t l w
  cases hn : raNear v t l with
  | true =>
    rw [hin, hn] at N
    have N := hid N
    rw [raWant_in (by omega) (by rw [hin, hn])]
    clear ho h0 h1 hm hin hn hv ht hl
    go_enter Tryz.func62, Tryz.ntmps62
    go_wp2_with fail
    refine M.out.mono ?_
    rintro e w1 ⟨rfl, rfl⟩
    clear M
    go_wp2_with fail
    refine (N.out _).mono ?_
    rintro e w2 ⟨rfl, rfl⟩
    clear N
    go_wp2_with fail
    go_ret
    exact ⟨rfl, rfl⟩
  | false =>
  rw [hin, hn] at N
  have N := hid N
  rw [raWant_out ho (by rw [hin, hn])]
  have hb := ra_load (c := c) (v := v) (by omega) hv
  obtain ⟨X, hX⟩ : ∃ X, c * v = X := ⟨_, rfl⟩
  rw [hX] at hb ⊢
  have e1 : IntKind.i64.wrap (c * v) = X := by rw [hX]; exact IntWalk.i64_in _ (by omega)
  obtain ⟨hx, hxm⟩ := hb
  have hq := raShares_tdiv hx ht.1
  have hs := raShares_spec hx ht.1
  have hle : raShares X t ≤ X := raShares_least ht.1 (by have := Int.mul_le_mul_of_nonneg_left ht.1 hx; omega)
  obtain ⟨A, hA⟩ : ∃ A, X + t = A := ⟨_, rfl⟩
  obtain ⟨B, hB⟩ : ∃ B, A - 1 = B := ⟨_, rfl⟩
  obtain ⟨S, hS⟩ : ∃ S, raShares X t = S := ⟨_, rfl⟩
  rw [hA, hB, hS] at hq
  rw [hS] at hs hle ⊢
  obtain ⟨Y, hY⟩ : ∃ Y, min 1000000 S = Y := ⟨_, rfl⟩
  rw [hY]
  have HY := hid hY; clear hY
  have e2 : IntKind.i64.wrap (X + t) = A := by rw [hA]; exact IntWalk.i64_in _ (by omega)
  have e3 : IntKind.i64.wrap (A - 1) = B := by rw [hB]; exact IntWalk.i64_in _ (by omega)
  have e4 : IntKind.i64.wrap (B.tdiv t) = S := by rw [hq]; exact IntWalk.i64_in _ (by omega)
  have n0 : ¬ t = 0 := by omega
  have n1 : (1 : Int) ≤ t := ht.1
  clear hA hB hS hq hs hle hx hxm ho h0 h1 hm hin hn hv ht hl hX
  go_enter Tryz.func62, Tryz.ntmps62
  go_wp2_with fail
  refine M.out.mono ?_
  rintro e w1 ⟨rfl, rfl⟩
  clear M
  go_wp2_with fail
  refine (N.out _).mono ?_
  rintro e w2 ⟨rfl, rfl⟩
  clear N
  go_wp2_with fail
  all_goals go_ret
  all_goals refine ⟨?_, rfl⟩
  all_goals first | (obtain rfl : Y = S := (by have := HY.out; omega); rfl) | (obtain rfl : Y = 1000000 := (by have := HY.out; omega); rfl) | (obtain rfl : Y = min S 1000000 := (by have := HY.out; omega); rfl)

end Go.Proofs.YthobbekocimcnaaGreat
end
