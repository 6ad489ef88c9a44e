/-
  Contract for package calm: one more want is put behind the others, the oldest goes for it. The condition: the object lies there, the want may be.
-/
import Derived.Test.YtnpaecbdejemnaaCaB
import Derived.Test.YtnpaecbdejemnaaHeld
import Derived.Test.YtnpaecbdejemnaaLst
import Derived.Deep.RegionHeld3
set_option linter.unusedSimpArgs false
set_option linter.unusedVariables false
namespace Go.Proofs.Ytnpaecbdejemnaa
set_option maxRecDepth 100000
open Go.RowKit

theorem push_full {c : Ca} (h : c.l.length = c.most) (w : Int) : (c.push w).l = c.l.drop 1 ++ [mill w] := by
  have h1 : 1 ≤ c.most := by unfold Ca.most; omega
  show lastL (c.l ++ [mill w]) c.most = _
  unfold lastL
  rw [List.length_append, List.length_singleton, show c.l.length + 1 - c.most = 1 by omega, List.drop_append_of_le_length (by omega)]
theorem push_room {c : Ca} (h : c.l.length < c.most) (w : Int) : (c.push w).l = c.l ++ [mill w] := by
  show lastL (c.l ++ [mill w]) c.most = _
  exact lastL_all (by rw [List.length_append, List.length_singleton]; omega)
/-- what is kept of a call that puts x behind -/
def Putted (w : World) (b : Nat) (c : Ca) (e : Ending) (w' : World) : Prop := e = .returned (.tuple #[]) ∧ CaAt w' b c ∧ Chg [b] w w'
theorem put_fin {w w2 w3 : World} {b : Nat} {c : Ca} {ws : List Int} {K : Nat} {x : Int} {l0 : List Int} (ho : (c.push x).Ok) (h61 : ws.length = 61) (hx : mill x = x) (hl : ws.take K = l0) (hK : K < 61) (h0 : l0.length = K) (hp : (c.push x).l = l0 ++ [mill x])
    (hr : w3.heap[b]? = some (.cells (caCells c.up c.down (K + 1) ws) 46)) (hc : Chg [b] w w3) :
    CaAt (w3.setCell ⟨b, 3 + K, none⟩ (.int .i64 x)) b (c.push x) ∧ Chg [b] w (w3.setCell ⟨b, 3 + K, none⟩ (.int .i64 x)) := by
  have hlen : (c.push x).l.length = K + 1 := by rw [hp, List.length_append, h0]; rfl
  refine ⟨⟨⟨ws.set K x, by rw [List.length_set, h61], ?_, ?_⟩, ho⟩, hc.set (.inl (by simp)) _⟩
  · rw [hlen, List.take_succ_eq_append_getElem (by rw [List.length_set]; omega), hp, List.getElem_set_self, List.take_set_of_le (Nat.le_refl _), hl, hx]
  · rw [hlen]
    exact row_want hr K x

set_option maxHeartbeats 1600000 in
theorem put_any {b : Nat} {c : Ca} (x : Int) (hx : mill x = x) {w : World} (H : CaAt w b c) :
    Calls Try.prog 18 #[.pointer (some ⟨b, 0, none⟩), .int .i64 x] w (Putted w b (c.push x)) := by
  have A := hid (all_any H)
  have R := hid (fun W (h : w.grownBy W none) => room_any (H.grown h))
  have hml := most_le H.ok
  have hok := hid (Ca.push_ok H.ok x)
  have hn := H.ok.n
  have HH := hid H
  have PF := hid (fun h => push_full (c := c) h x)
  have PR := hid (fun h => push_room (c := c) h x)
  obtain ⟨⟨ws, h61, htk, hrow⟩, -⟩ := H
  have H61 := hid h61; have HTK := hid htk
  have hrw := hid (fun W (h : w.grownBy W none) => at_grown hrow h (by simp))
  have HX := hid hx
  have m1 : 1 ≤ c.most := by unfold Ca.most; omega
  obtain ⟨m, hm⟩ : ∃ m, c.most = m := ⟨_, rfl⟩
  obtain ⟨n, hN⟩ : ∃ n, c.l.length = n := ⟨_, rfl⟩
  rw [hm] at R hml hn m1
  rw [hN] at A hn hrw
  have HM := hid hm; have HN := hid hN
  clear hm hN h61 htk hrow hx
  by_cases hf : n = m
  · subst hf
    have s0 : ((n : Int) == (n : Int)) = true := by simp
    obtain ⟨K, hK⟩ : ∃ K, n = K + 1 := ⟨n - 1, by omega⟩
    have HKK := hid hK
    have AC := hid (arr_all b); have A1 := hid (arr_one b)
    have hs := fun u => arr_all b u
    have hs1 := fun u => arr_one b u
    clear hK
    go_enter Try.func18, Try.ntmps18
    go_wp2_with fail
    refine A.out.mono ?_
    rintro e w1 ⟨rfl, hg1⟩
    have G1 := hid hg1; clear hg1
    go_wp2_with fail
    refine (R.out _ G1.out).mono ?_
    rintro e w2 ⟨rfl, hg2⟩
    have G2 := hid (gb_trans G1.out hg2 (.inl rfl)); clear hg2
    go_wp2_with fail
    have HS := hid (hrw.out _ (gb_drew G2.out))
    have HI4 := hid (show IntsAt w2.drew (.slice (some ⟨b, 4, none⟩) 60 60) (ws.drop 1) from .inr ⟨_, 60, by rw [List.length_drop, H61.out], by rw [List.length_drop, H61.out]; omega, by unfold maxLen; omega, fun i hi => by
      rw [List.length_drop, H61.out] at hi
      rw [iadd_at, at_cell HS.out, show 4 + i = 3 + (1 + i) by omega, ca_cellk, List.getElem_drop, List.getElem?_eq_getElem]; rfl⟩)
    have hcp := fun ty => copy_into HS.out H61.out HI4.out (by rw [List.length_drop]; have := H61.out; omega) ty
    obtain ⟨w3, hc1, hc2, hc3⟩ := hcp 3
    rw [List.length_drop, H61.out] at hc1 hc2
    have HC2 := hid hc2; have HC3 := hid hc3
    clear hc2 hc3 hcp
    go_region
    go_wp2_with fail
    refine (keptn (m := K) HC2.out (-1) (K : Int) (by rw [IntWalk.i64_in _ (by omega)]; have := HKK.out; omega) rfl).mono ?_
    rintro e wq ⟨rfl, hrow, hch⟩
    have HROW0 := hid (show wq.drew.heap[b]? = _ from hrow)
    have HC := hid (show Chg [b] w wq.drew from ((chg_grown (gb_drew G2.out) [b]).then HC3.out).then hch |>.drew)
    have HFIN := hid (fun (w3 : World) hr hc => put_fin (w := w) (w2 := w) (w3 := w3) (b := b) (c := c) (ws := ws.drop 1 ++ ws.drop (61 - 1)) (K := K) (x := x) (l0 := c.l.drop 1) hok.out (by rw [List.length_append, List.length_drop, List.length_drop, H61.out]) HX.out (by
      have hk := HKK.out
      rw [List.take_append_of_le_length (by rw [List.length_drop, H61.out]; omega), List.take_drop, show 1 + K = n by omega, ← HN.out, HTK.out]) (by have := HKK.out; omega) (by rw [List.length_drop, HN.out, HKK.out]; rfl) (PF.out (HN.out.trans HM.out.symm)) hr hc)
    have HK5 := hid (show K < (ws.drop 1 ++ ws.drop (61 - 1)).length by rw [List.length_append, List.length_drop, List.length_drop, H61.out]; have := HKK.out; omega)
    generalize ws.drop 1 ++ ws.drop (61 - 1) = ws1 at *
    clear hrow hch HC2 HC3 HI4 HS hc1 w3 HTK H61
    have hk61 : K < 61 := by have := HKK.out; omega
    obtain ⟨z, hz⟩ : ∃ z : Int, z = (K : Int) + 1 := ⟨_, rfl⟩
    have HZ := hid (show IntKind.i64.wrap ((K : Int) + 1) = z by rw [← hz]; exact IntWalk.i64_in _ (by omega))
    have HZK := hid (show z = ((K + 1 : Nat) : Int) by omega)
    have s5 : IntKind.i64.wrap (z - 1) = (K : Int) := by rw [IntWalk.i64_in _ (by omega)]; omega
    have k5 : (K : Int) < 61 := by omega
    clear hz HKK s0
    go_wp2_with fail
    refine wp_region_last (S := (fun w' => (True))) 10 10 #[false, false, false, false, false, false, false, false, false, false, true] (by kernel_rfl) (by kernel_rfl) (by kernel_rfl) (by kernel_rfl) trivial (fun hHeld => ?_)
    try dsimp only at hHeld
    refine' wpAnyH_take (i := 0) (v := _) rfl (by kernel_rfl) (by kernel_rfl) (by kernel_rfl) (fun _ _ _ h => h) (Or.inl ⟨by rfl, ?_⟩) hHeld ?_
    rotate_left
    · (intro w hSw; (try dsimp only at hSw); go_simp; try with_reducible rfl)
    try simp only [Act.put, List.setIfInBounds_toArray, List.set_cons_zero, List.set_cons_succ, List.getElem_toArray, List.getElem_cons_succ, List.getElem_cons_zero]
    refine' wpAnyH_take (i := 1) (v := _) rfl (by kernel_rfl) (by kernel_rfl) (by kernel_rfl) (fun _ _ _ h => h) (Or.inl ⟨by rfl, ?_⟩) hHeld ?_
    rotate_left
    · (intro w hSw; (try dsimp only at hSw); go_simp; try with_reducible rfl)
    try simp only [Act.put, List.setIfInBounds_toArray, List.set_cons_zero, List.set_cons_succ, List.getElem_toArray, List.getElem_cons_succ, List.getElem_cons_zero]
    refine' wpAnyH_take (i := 2) (v := _) rfl (by kernel_rfl) (by kernel_rfl) (by kernel_rfl) (fun _ _ _ h => h) (Or.inl ⟨by rfl, ?_⟩) hHeld ?_
    rotate_left
    · (intro w hSw; (try dsimp only at hSw); go_simp; try with_reducible rfl)
    try simp only [Act.put, List.setIfInBounds_toArray, List.set_cons_zero, List.set_cons_succ, List.getElem_toArray, List.getElem_cons_succ, List.getElem_cons_zero]
    refine' wpAnyH_take (i := 3) (v := _) rfl (by kernel_rfl) (by kernel_rfl) (by kernel_rfl) (fun _ _ _ h => h) (Or.inl ⟨by rfl, ?_⟩) hHeld ?_
    rotate_left
    · (intro w hSw; (try dsimp only at hSw); go_simp; try with_reducible rfl)
    try simp only [Act.put, List.setIfInBounds_toArray, List.set_cons_zero, List.set_cons_succ, List.getElem_toArray, List.getElem_cons_succ, List.getElem_cons_zero]
    refine' wpAnyH_take (i := 6) (v := _) rfl (by kernel_rfl) (by kernel_rfl) (by kernel_rfl) (fun _ _ _ h => h) (Or.inl ⟨by rfl, ?_⟩) hHeld ?_
    rotate_left
    · (intro w hSw; (try dsimp only at hSw); go_simp; try with_reducible rfl)
    try simp only [Act.put, List.setIfInBounds_toArray, List.set_cons_zero, List.set_cons_succ, List.getElem_toArray, List.getElem_cons_succ, List.getElem_cons_zero]
    refine' wpAnyH_take (i := 7) (v := _) rfl (by kernel_rfl) (by kernel_rfl) (by kernel_rfl) (fun _ _ _ h => h) (Or.inl ⟨by rfl, ?_⟩) hHeld ?_
    rotate_left
    · (intro w hSw; (try dsimp only at hSw); go_simp; try with_reducible rfl)
    try simp only [Act.put, List.setIfInBounds_toArray, List.set_cons_zero, List.set_cons_succ, List.getElem_toArray, List.getElem_cons_succ, List.getElem_cons_zero]
    refine' wpAnyH_take (i := 8) (v := _) rfl (by kernel_rfl) (by kernel_rfl) (by kernel_rfl) (fun _ _ _ h => h) (Or.inl ⟨by rfl, ?_⟩) hHeld ?_
    rotate_left
    · (intro w hSw; (try dsimp only at hSw); go_simp; try with_reducible rfl)
    try simp only [Act.put, List.setIfInBounds_toArray, List.set_cons_zero, List.set_cons_succ, List.getElem_toArray, List.getElem_cons_succ, List.getElem_cons_zero]
    refine wpAnyH_ready (rs := [4]) (by kernel_rfl) (by simp) ?_
    refine AllReadyH.cons (o := _) rfl (fun K hK => ?_) AllReadyH.nil
    try simp only [List.getElem_toArray, List.getElem_cons_succ, List.getElem_cons_zero]
    go_simp
    have hH2 := hHeld
    have hp := hH2
    refine (keptn HROW0.out 1 z HZ.out HZK.out).mono ?_
    rintro e w1004 ⟨rfl, hrow, hch⟩
    have HR2 := hid hrow; have HC2 := hid (HC.out.then hch); clear hrow hch
    have hg := True.intro
    have L4 := hid (show (True) from hp)
    clear hHeld hg hp
    go_wp2_with fail
    refine hK.out _ _ ?_ (fun hHeld => ?_)
    · exact L4.out
    clear hK K
    try dsimp only at hHeld
    try simp only [Act.put, List.setIfInBounds_toArray, List.set_cons_zero, List.set_cons_succ, List.getElem_toArray, List.getElem_cons_succ, List.getElem_cons_zero]
    refine' wpAnyH_take (i := 5) (v := _) rfl (by kernel_rfl) (by kernel_rfl) (by kernel_rfl) (fun _ _ _ h => h) (Or.inl ⟨by rfl, ?_⟩) hHeld ?_
    rotate_left
    · (intro w hSw; (try dsimp only at hSw); go_simp; try with_reducible rfl)
    try simp only [Act.put, List.setIfInBounds_toArray, List.set_cons_zero, List.set_cons_succ, List.getElem_toArray, List.getElem_cons_succ, List.getElem_cons_zero]
    refine' wpAnyH_take (i := 9) (v := _) rfl (by kernel_rfl) (by kernel_rfl) (by kernel_rfl) (fun _ _ _ h => h) (Or.inl ⟨by rfl, ?_⟩) hHeld ?_
    rotate_left
    · (intro w hSw; (try dsimp only at hSw); go_simp; try with_reducible rfl)
    try simp only [Act.put, List.setIfInBounds_toArray, List.set_cons_zero, List.set_cons_succ, List.getElem_toArray, List.getElem_cons_succ, List.getElem_cons_zero]
    refine wpAnyH_done (by kernel_rfl) ?_ _
    have hp := hHeld
    have c5 := at_cell HR2.out (3 + K); have f5 := at_free HR2.out (3 + K)
    rw [ca_cellk, List.getElem?_eq_getElem HK5.out] at c5
    clear hp
    refine atLast_step (o := _) rfl (fun K hK => ?_)
    try simp only [List.getElem_toArray, List.getElem_cons_succ, List.getElem_cons_zero]
    go_simp
    refine hK.out _ _ ?_
    clear hK K c5 f5
    try simp only [Act.put, List.setIfInBounds_toArray, List.set_cons_zero, List.set_cons_succ, List.getElem_toArray, List.getElem_cons_succ, List.getElem_cons_zero]
    go_wp2_with fail
    go_end0
    exact ⟨rfl, HFIN.out _ HR2.out HC2.out⟩
  · have s0 : ((n : Int) == (m : Int)) = false := by simp; omega
    obtain ⟨K, hK⟩ : ∃ K, n = K := ⟨n, rfl⟩
    subst hK
    have s0' : ¬ (n : Int) = (m : Int) := by omega
    have hk61 : n < 61 := by omega
    have HLT := hid (show n < m by omega)
    clear hf
    go_enter Try.func18, Try.ntmps18
    go_wp2_with fail
    refine A.out.mono ?_
    rintro e w1 ⟨rfl, hg1⟩
    have G1 := hid hg1; clear hg1
    go_wp2_with fail
    refine (R.out _ G1.out).mono ?_
    rintro e wq ⟨rfl, hg2⟩
    have G2 := hid (gb_trans G1.out hg2 (.inl rfl)); clear hg2
    have HROW := hid (hrw.out _ (gb_drew G2.out))
    have HC := hid (chg_grown (gb_drew G2.out) [b])
    have HFIN := hid (fun (w3 : World) hr hc => put_fin (w := w) (w2 := w) (w3 := w3) (b := b) (c := c) (ws := ws) (K := n) (x := x) (l0 := c.l) hok.out H61.out HX.out (by rw [← HN.out]; exact HTK.out) hk61 HN.out (PR.out (by rw [HN.out, HM.out]; exact HLT.out)) hr hc)
    have HK5 := hid (show n < ws.length by rw [H61.out]; exact hk61)
    obtain ⟨z, hz⟩ : ∃ z : Int, z = (n : Int) + 1 := ⟨_, rfl⟩
    have HZ := hid (show IntKind.i64.wrap ((n : Int) + 1) = z by rw [← hz]; exact IntWalk.i64_in _ (by omega))
    have HZK := hid (show z = ((n + 1 : Nat) : Int) by omega)
    have s5 : IntKind.i64.wrap (z - 1) = (n : Int) := by rw [IntWalk.i64_in _ (by omega)]; omega
    have k5 : (n : Int) < 61 := by omega
    clear hz HTK H61
    go_wp2_with fail
    refine wp_region_last (S := (fun w' => (True))) 10 10 #[false, false, false, false, false, false, false, false, false, false, true] (by kernel_rfl) (by kernel_rfl) (by kernel_rfl) (by kernel_rfl) trivial (fun hHeld => ?_)
    try dsimp only at hHeld
    refine' wpAnyH_take (i := 0) (v := _) rfl (by kernel_rfl) (by kernel_rfl) (by kernel_rfl) (fun _ _ _ h => h) (Or.inl ⟨by rfl, ?_⟩) hHeld ?_
    rotate_left
    · (intro w hSw; (try dsimp only at hSw); go_simp; try with_reducible rfl)
    try simp only [Act.put, List.setIfInBounds_toArray, List.set_cons_zero, List.set_cons_succ, List.getElem_toArray, List.getElem_cons_succ, List.getElem_cons_zero]
    refine' wpAnyH_take (i := 1) (v := _) rfl (by kernel_rfl) (by kernel_rfl) (by kernel_rfl) (fun _ _ _ h => h) (Or.inl ⟨by rfl, ?_⟩) hHeld ?_
    rotate_left
    · (intro w hSw; (try dsimp only at hSw); go_simp; try with_reducible rfl)
    try simp only [Act.put, List.setIfInBounds_toArray, List.set_cons_zero, List.set_cons_succ, List.getElem_toArray, List.getElem_cons_succ, List.getElem_cons_zero]
    refine' wpAnyH_take (i := 2) (v := _) rfl (by kernel_rfl) (by kernel_rfl) (by kernel_rfl) (fun _ _ _ h => h) (Or.inl ⟨by rfl, ?_⟩) hHeld ?_
    rotate_left
    · (intro w hSw; (try dsimp only at hSw); go_simp; try with_reducible rfl)
    try simp only [Act.put, List.setIfInBounds_toArray, List.set_cons_zero, List.set_cons_succ, List.getElem_toArray, List.getElem_cons_succ, List.getElem_cons_zero]
    refine' wpAnyH_take (i := 3) (v := _) rfl (by kernel_rfl) (by kernel_rfl) (by kernel_rfl) (fun _ _ _ h => h) (Or.inl ⟨by rfl, ?_⟩) hHeld ?_
    rotate_left
    · (intro w hSw; (try dsimp only at hSw); go_simp; try with_reducible rfl)
    try simp only [Act.put, List.setIfInBounds_toArray, List.set_cons_zero, List.set_cons_succ, List.getElem_toArray, List.getElem_cons_succ, List.getElem_cons_zero]
    refine' wpAnyH_take (i := 6) (v := _) rfl (by kernel_rfl) (by kernel_rfl) (by kernel_rfl) (fun _ _ _ h => h) (Or.inl ⟨by rfl, ?_⟩) hHeld ?_
    rotate_left
    · (intro w hSw; (try dsimp only at hSw); go_simp; try with_reducible rfl)
    try simp only [Act.put, List.setIfInBounds_toArray, List.set_cons_zero, List.set_cons_succ, List.getElem_toArray, List.getElem_cons_succ, List.getElem_cons_zero]
    refine' wpAnyH_take (i := 7) (v := _) rfl (by kernel_rfl) (by kernel_rfl) (by kernel_rfl) (fun _ _ _ h => h) (Or.inl ⟨by rfl, ?_⟩) hHeld ?_
    rotate_left
    · (intro w hSw; (try dsimp only at hSw); go_simp; try with_reducible rfl)
    try simp only [Act.put, List.setIfInBounds_toArray, List.set_cons_zero, List.set_cons_succ, List.getElem_toArray, List.getElem_cons_succ, List.getElem_cons_zero]
    refine' wpAnyH_take (i := 8) (v := _) rfl (by kernel_rfl) (by kernel_rfl) (by kernel_rfl) (fun _ _ _ h => h) (Or.inl ⟨by rfl, ?_⟩) hHeld ?_
    rotate_left
    · (intro w hSw; (try dsimp only at hSw); go_simp; try with_reducible rfl)
    try simp only [Act.put, List.setIfInBounds_toArray, List.set_cons_zero, List.set_cons_succ, List.getElem_toArray, List.getElem_cons_succ, List.getElem_cons_zero]
    refine wpAnyH_ready (rs := [4]) (by kernel_rfl) (by simp) ?_
    refine AllReadyH.cons (o := _) rfl (fun K hK => ?_) AllReadyH.nil
    try simp only [List.getElem_toArray, List.getElem_cons_succ, List.getElem_cons_zero]
    go_simp
    have hH2 := hHeld
    have hp := hH2
    refine (keptn HROW.out 1 z HZ.out HZK.out).mono ?_
    rintro e w1004 ⟨rfl, hrow, hch⟩
    have HR2 := hid hrow; have HC2 := hid (HC.out.then hch); clear hrow hch
    have hg := True.intro
    have L4 := hid (show (True) from hp)
    clear hHeld hg hp
    go_wp2_with fail
    refine hK.out _ _ ?_ (fun hHeld => ?_)
    · exact L4.out
    clear hK K
    try dsimp only at hHeld
    try simp only [Act.put, List.setIfInBounds_toArray, List.set_cons_zero, List.set_cons_succ, List.getElem_toArray, List.getElem_cons_succ, List.getElem_cons_zero]
    refine' wpAnyH_take (i := 5) (v := _) rfl (by kernel_rfl) (by kernel_rfl) (by kernel_rfl) (fun _ _ _ h => h) (Or.inl ⟨by rfl, ?_⟩) hHeld ?_
    rotate_left
    · (intro w hSw; (try dsimp only at hSw); go_simp; try with_reducible rfl)
    try simp only [Act.put, List.setIfInBounds_toArray, List.set_cons_zero, List.set_cons_succ, List.getElem_toArray, List.getElem_cons_succ, List.getElem_cons_zero]
    refine' wpAnyH_take (i := 9) (v := _) rfl (by kernel_rfl) (by kernel_rfl) (by kernel_rfl) (fun _ _ _ h => h) (Or.inl ⟨by rfl, ?_⟩) hHeld ?_
    rotate_left
    · (intro w hSw; (try dsimp only at hSw); go_simp; try with_reducible rfl)
    try simp only [Act.put, List.setIfInBounds_toArray, List.set_cons_zero, List.set_cons_succ, List.getElem_toArray, List.getElem_cons_succ, List.getElem_cons_zero]
    refine wpAnyH_done (by kernel_rfl) ?_ _
    have hp := hHeld
    have c5 := at_cell HR2.out (3 + n); have f5 := at_free HR2.out (3 + n)
    rw [ca_cellk, List.getElem?_eq_getElem HK5.out] at c5
    clear hp
    refine atLast_step (o := _) rfl (fun K hK => ?_)
    try simp only [List.getElem_toArray, List.getElem_cons_succ, List.getElem_cons_zero]
    go_simp
    refine hK.out _ _ ?_
    clear hK K c5 f5
    try simp only [Act.put, List.setIfInBounds_toArray, List.set_cons_zero, List.set_cons_succ, List.getElem_toArray, List.getElem_cons_succ, List.getElem_cons_zero]
    go_wp2_with fail
    go_end0
    exact ⟨rfl, HFIN.out _ HR2.out HC2.out⟩
end Go.Proofs.Ytnpaecbdejemnaa
