/-
  Contracts: slices.SortedFunc of maps.Keys; all samples of a table, in their order. The condition: the table lies there.
-/
import Derived.Test.YtjjcnojckbeekaaTbM
import Derived.Test.YtjjcnojckbeekaaTbZ
import Derived.Test.YtjjcnojckbeekaaTbS
set_option linter.unusedSimpArgs false
set_option linter.unusedVariables false
namespace Go.Proofs.Ytjjcnojckbeekaa
set_option maxRecDepth 100000
open Go.RowKit

theorem keys_any (mb : Option Nat) (w : World) : Calls Try.prog 29 #[.map mb] w fun e w' => e = .returned (.func (.func 36) #[] #[.pointer (some ⟨w.heap.size, 0, none⟩)]) ∧ w' = w.alloc (.cells #[.map mb] 46) :=
  (callsIn_wide (n := 1)).1 (keys_in Fence.wide 1 trivial rfl mb w)
theorem gb_of_below {w w' : World} (h : Below w.heap.size w w') : w.grownBy w' none := ⟨h.os, h.tape, h.output, h.size, fun k hk _ => h.block k hk⟩
theorem collect_any {L : List Sm} (Bm b nn : Nat) (D : DataW Unit) (hM : MapIs D L) (hS : Srt L) (hL : Fits L) (hlen : L.length ≤ 100000) (w : World) (hBm : Bm < w.heap.size) (hm : w.cell? ⟨Bm, 0, none⟩ = some (.map (some b))) (hown : w.ownsMap Try.prog 53 (plainElem Try.prog 2) b nn D) :
    Calls Try.prog 34 #[.func (.func 36) #[] #[.pointer (some ⟨Bm, 0, none⟩)]] w fun e w' => ∃ v ps, e = .returned v ∧ ps.Perm (L.map Sm.pl) ∧ w'.ownsRow w.heap.size 53 3 v ps.length (flatP ps) ∧ (v = .slice none 0 0 ↔ ps = []) ∧ w.grownBy w' none :=
  ((callsIn_wide (n := 3)).1 (collect_in Fence.wide 3 trivial trivial rfl (Nat.le_refl _) 36 _ trivial (enters_of Try.func36 (by kernel_rfl) rfl) _ _ L.length hlen w (keys_stops Fence.wide 1 trivial rfl (Nat.le_refl _) Bm b nn D L hM hS hL w hBm hm hown))).mono
    fun e w' ⟨v, ps, h1, h2, h3, h4, h5⟩ => ⟨v, ps, h1, h2, h3, h4, gb_of_below h5⟩
theorem sorted_any {L : List Sm} (Bm b nn : Nat) (D : DataW Unit) (hM : MapIs D L) (hS : Srt L) (hL : Fits L) (hlen : L.length ≤ 100000) (w : World) (hBm : Bm < w.heap.size) (hm : w.cell? ⟨Bm, 0, none⟩ = some (.map (some b))) (hown : w.ownsMap Try.prog 53 (plainElem Try.prog 2) b nn D) :
    Calls Try.prog 28 #[.func (.func 36) #[] #[.pointer (some ⟨Bm, 0, none⟩)], .func (.func 30) #[] #[]] w fun e w' => ∃ v, e = .returned v ∧ RdP w' v (L.map Sm.pl) ∧ w.grownBy w' none := by
  have HC := hid (collect_any Bm b nn D hM hS hL hlen w hBm hm hown)
  have HS := hid (And.intro hS hlen)
  clear hM hS hL hlen hBm hm hown
  go_enter Try.func28, Try.ntmps28
  go_wp2_with (first
    | (go_at_call 34; refine HC.out.mono ?_; rintro e w1 ⟨v, ps, rfl, hp, hrow, hnil, hg⟩; have HP := hid hp; have HROW := hid (And.intro hrow hnil); have HG := hid hg; clear hp hrow hnil hg)
    | (go_at_call 35; refine (sortP_any HS.out.1 _ v ps HP.out _ HROW.out.1 HROW.out.2 (by rw [HP.out.length_eq, List.length_map]; exact HS.out.2)).mono ?_; rintro e w2 ⟨rfl, hrd, hc⟩; have HRD := hid hrd; have HC2 := hid hc; clear hrd hc))
  go_ret
  refine ⟨v, rfl, HRD.out, ?_⟩
  have hc2 := HC2.out
  have hg := HG.out
  refine ((chg_grown hg []).trans hc2 fun x hx => .inr ?_).free (fun x hx => by cases hx)
  rcases HROW.out.1.2 with ⟨e0, _⟩ | ⟨g, cap, cur, e0, hb, _⟩
  · rw [e0] at hx; simp [Value.ownBlock] at hx
  · rw [e0] at hx; simp [Value.ownBlock] at hx; omega
theorem RdP.grown {W W' : World} {v : Value} {l : List Pc} (h : RdP W v l) (hg : W.grownBy W' none) : RdP W' v l := by
  rcases h with h | ⟨g, cap, rfl, h1, h2, h3⟩
  · exact .inl h
  · refine .inr ⟨g, cap, rfl, h1, h2, fun i hi => ?_⟩
    obtain ⟨k0, k1, k2⟩ := h3 i hi
    exact ⟨hg.cell k0 (by simp), hg.cell k1 (by simp), hg.cell k2 (by simp)⟩
theorem RdP.form {W : World} {v : Value} {l : List Pc} (h : RdP W v l) : ∃ p c, v = .slice p l.length c := by
  rcases h with ⟨rfl, rfl⟩ | ⟨g, cap, rfl, _⟩
  · exact ⟨none, 0, rfl⟩
  · exact ⟨_, cap, rfl⟩
theorem RdP.cells {W : World} {p : Option Addr} {n c : Nat} {l : List Pc} (h : RdP W (.slice p n c) l) {i : Nat} (hi : i < l.length) :
    ∃ g, p = some ⟨g, 0, none⟩ ∧ n = l.length ∧ n ≤ c ∧ W.cell? ⟨g, i * 3, none⟩ = some (.int .i64 l[i].1) ∧ W.cell? ⟨g, i * 3 + 1, none⟩ = some (.int .i64 l[i].2.1) ∧ W.cell? ⟨g, i * 3 + 2, none⟩ = some (.int .i64 l[i].2.2) := by
  rcases h with ⟨_, rfl⟩ | ⟨g, cap, e, h1, h2, h3⟩
  · simp at hi
  · cases e
    exact ⟨g, rfl, rfl, h1, h3 i hi⟩
set_option maxHeartbeats 1000000 in
theorem all_any {n m f : Int} {L : List Sm} {b mb : Nat} {w : World} (h : TbAt n m f L b mb w) (hlen : L.length ≤ 100000) :
    Calls Try.prog 17 #[.pointer (some ⟨b, 0, none⟩)] w fun x w' => ∃ v, x = .returned v ∧ OwnZ w.heap.size w' v L ∧ w.grownBy w' none := by
  have HT := hid h
  have HLEN := hid hlen
  obtain ⟨c0, c1, c2, c3⟩ := h.cells
  obtain ⟨D, k1, k2⟩ := h.map
  have hs := sorted_any w.heap.size mb L.length D k2 h.fine.srt h.fine.fits hlen (w.alloc (.cells #[.map (some mb)] 46)) (by simp) (at_cell (at_new w _) 0) (k1.alloc _)
  have HS := hid hs
  clear h hlen k1 k2 hs
  go_enter Try.func17, Try.ntmps17
  go_wp2_with (first
    | (go_at_call 29; refine (keys_any _ _).mono ?_; rintro e w1 ⟨rfl, rfl⟩)
    | (go_at_call 28; refine HS.out.mono ?_; rintro e w2 ⟨v0, rfl, hrd, hg⟩; obtain ⟨p0, cc0, rfl⟩ := hrd.form; have HRD := hid hrd; have HG := hid (gb_trans (World.grownBy_alloc w _ none) hg (.inl rfl)); clear hrd hg))
  have HT2 := hid (HT.out.grown HG.out)
  clear HS
  clear c0 c1 c2 c3
  try rw [List.length_map]
  go_loopw [3, 15] (fun v i wr => ∃ (k : Nat) (vv : Value), v = vv ∧ k ≤ L.length ∧ i = .int .i64 (k : Int) ∧ OwnZ w2.heap.size wr vv (L.take k) ∧ w2.grownBy wr none)
    (fun _ i _ => L.length - (intOf i).toNat)
  case atStart =>
    exact ⟨0, _, rfl, Nat.zero_le _, rfl, by simpa using OwnZ.nil _ _, .refl _ _⟩
  case round =>
    obtain ⟨k, v, hv, hk, rfl, hown, hgr⟩ := hrel
    have hv' := hv.symm
    clear hv
    subst hv'
    have HOWN := hid hown
    have HGR := hid hgr
    clear hown hgr
    by_cases hkn : k < L.length
    · have hkn' : (k : Int) < (L.length : Int) := by omega
      have hlt : k + 1 ≤ L.length := hkn
      obtain ⟨g, rfl, hn0, hnc, d0, d1, d2⟩ := (HRD.out.grown HGR.out).cells (i := k) (by simpa using hkn)
      rw [List.getElem_map] at d0 d1 d2
      obtain ⟨s, hs⟩ : ∃ s, s = L[k] := ⟨_, rfl⟩
      have hmem : s ∈ L := by rw [hs]; exact List.getElem_mem hkn
      rw [← hs] at d0 d1 d2
      have htake : L.take (k + 1) = L.take k ++ [s] := by rw [hs]; exact (List.take_append_getElem hkn).symm
      have HM := hid (And.intro hmem htake)
      clear hn0 hs hmem htake
      simp only [Sm.pl] at d0 d1 d2
      have HB0 := hid (show w2.grownBy (wr.alloc (.cells #[.int .i64 s.ep, .int .i64 s.met, .int .i64 s.who] 53)) none ∧ (wr.alloc (.cells #[.int .i64 s.ep, .int .i64 s.met, .int .i64 s.who] 53)).heap[wr.heap.size]? = some (.cells #[.int .i64 s.ep, .int .i64 s.met, .int .i64 s.who] 53) from ⟨gb_alloc HGR.out _, at_new _ _⟩)
      have T0 := hid (HOWN.out.grown (World.grownBy_alloc wr (.cells #[.int .i64 s.ep, .int .i64 s.met, .int .i64 s.who] 53) none))
      have NB := hid (show some wr.heap.size ≠ v.ownBlock from fun e => by have := (HOWN.out.lt _ e.symm).2; omega)
      have LEN := hid (show (L.take k).length + [s].length ≤ 1000000 by have := HLEN.out; simp only [List.length_take, List.length_cons, List.length_nil]; omega)
      have hk6 : k < 100000 := by have := HLEN.out; omega
      have HKL := hid (show (L.take k).length = k by rw [List.length_take]; omega)
      go_upto_region 7 with fail
      refine wp_region_held_drew (S := (fun w' => (w2.grownBy w' none) ∧ (w'.heap[wr.heap.size]? = some (.cells #[.int .i64 s.ep, .int .i64 s.met, .int .i64 s.who] 53)))) (by kernel_rfl) ⟨gb_drew HB0.out.1, HB0.out.2⟩ (fun hHeld => ?_)
      try dsimp only at hHeld
      refine' wpAnyH_take (i := 0) (v := _) rfl (by kernel_rfl) (by kernel_rfl) (by kernel_rfl) (fun _ _ _ h => h) (Or.inl ⟨by rfl, ?_⟩) hHeld ?_
      rotate_left
      · (intro w hSw; (try dsimp only at hSw); go_simp; try with_reducible rfl)
      try simp only [Act.put, List.setIfInBounds_toArray, List.set_cons_zero, List.set_cons_succ, List.getElem_toArray, List.getElem_cons_succ, List.getElem_cons_zero]
      refine' wpAnyH_take (i := 1) (v := _) rfl (by kernel_rfl) (by kernel_rfl) (by kernel_rfl) (fun _ _ _ h => h) (Or.inl ⟨by rfl, ?_⟩) hHeld ?_
      rotate_left
      · (intro w hSw; (try dsimp only at hSw); obtain ⟨gr, pb⟩ := hSw; have e0 := at_cell pb 0; have e1 := at_cell pb 1; have e2 := at_cell pb 2; go_simp; try with_reducible rfl)
      try simp only [Act.put, List.setIfInBounds_toArray, List.set_cons_zero, List.set_cons_succ, List.getElem_toArray, List.getElem_cons_succ, List.getElem_cons_zero]
      refine' wpAnyH_take (i := 2) (v := _) rfl (by kernel_rfl) (by kernel_rfl) (by kernel_rfl) (fun _ _ _ h => h) (Or.inl ⟨by rfl, ?_⟩) hHeld ?_
      rotate_left
      · (intro w hSw; (try dsimp only at hSw); go_simp; try with_reducible rfl)
      try simp only [Act.put, List.setIfInBounds_toArray, List.set_cons_zero, List.set_cons_succ, List.getElem_toArray, List.getElem_cons_succ, List.getElem_cons_zero]
      refine' wpAnyH_take (i := 3) (v := _) rfl (by kernel_rfl) (by kernel_rfl) (by kernel_rfl) (fun _ _ _ h => h) (Or.inl ⟨by rfl, ?_⟩) hHeld ?_
      rotate_left
      · (intro w hSw; (try dsimp only at hSw); go_simp; try with_reducible rfl)
      try simp only [Act.put, List.setIfInBounds_toArray, List.set_cons_zero, List.set_cons_succ, List.getElem_toArray, List.getElem_cons_succ, List.getElem_cons_zero]
      refine' wpAnyH_take (i := 4) (v := _) rfl (by kernel_rfl) (by kernel_rfl) (by kernel_rfl) (fun _ _ _ h => h) (Or.inl ⟨by rfl, ?_⟩) hHeld ?_
      rotate_left
      · (intro w hSw; (try dsimp only at hSw); go_simp; try with_reducible rfl)
      try simp only [Act.put, List.setIfInBounds_toArray, List.set_cons_zero, List.set_cons_succ, List.getElem_toArray, List.getElem_cons_succ, List.getElem_cons_zero]
      refine' wpAnyH_take (i := 5) (v := _) rfl (by kernel_rfl) (by kernel_rfl) (by kernel_rfl) (fun _ _ _ h => h) (Or.inl ⟨by rfl, ?_⟩) hHeld ?_
      rotate_left
      · (intro w hSw; (try dsimp only at hSw); obtain ⟨gr, pb⟩ := hSw; obtain ⟨t0, t1, t2, t3⟩ := (HT2.out.grown gr).cells; go_simp; try with_reducible rfl)
      try simp only [Act.put, List.setIfInBounds_toArray, List.set_cons_zero, List.set_cons_succ, List.getElem_toArray, List.getElem_cons_succ, List.getElem_cons_zero]
      refine' wpAnyH_take (i := 6) (v := _) rfl (by kernel_rfl) (by kernel_rfl) (by kernel_rfl) (fun _ _ _ h => h) (Or.inl ⟨by rfl, ?_⟩) hHeld ?_
      rotate_left
      · (intro w hSw; (try dsimp only at hSw); obtain ⟨gr, pb⟩ := hSw; have e0 := at_cell pb 0; have e1 := at_cell pb 1; have e2 := at_cell pb 2; go_simp; try with_reducible rfl)
      try simp only [Act.put, List.setIfInBounds_toArray, List.set_cons_zero, List.set_cons_succ, List.getElem_toArray, List.getElem_cons_succ, List.getElem_cons_zero]
      refine' wpAnyH_take (i := 7) (v := _) rfl (by kernel_rfl) (by kernel_rfl) (by kernel_rfl) (fun _ _ _ h => h) (Or.inl ⟨by rfl, ?_⟩) hHeld ?_
      rotate_left
      · (intro w hSw; (try dsimp only at hSw); (try simp only [List.getElem_toArray, List.getElem_cons_succ, List.getElem_cons_zero]); refine exec_look (m := .tmp 24) (x := .tmp 25) (v := .int .i64 s.val) ?_ ?_ ?_ ((HT2.out.grown hSw.1).hit1 HM.out.1) <;> rfl)
      try simp only [Act.put, List.setIfInBounds_toArray, List.set_cons_zero, List.set_cons_succ, List.getElem_toArray, List.getElem_cons_succ, List.getElem_cons_zero]
      refine wpAnyH_ready (rs := [8]) (by kernel_rfl) (by simp) ?_
      refine AllReadyH.cons (o := _) rfl (fun K hK => ?_) AllReadyH.nil
      try simp only [List.getElem_toArray, List.getElem_cons_succ, List.getElem_cons_zero]
      go_simp
      have hH2 := hHeld
      obtain ⟨gr, pb⟩ := hH2
      refine (sample_any s.ep s.met s.who s.val _).mono ?_
      rintro e w1008 ⟨rfl, hg⟩
      have T8 := hid (T0.out.drew.grown hg)
      have L8 := hid (show (w2.grownBy w1008 none) ∧ (w1008.heap[wr.heap.size]? = some (.cells #[.int .i64 s.ep, .int .i64 s.met, .int .i64 s.who] 53)) from ⟨gb_trans gr hg (.inl rfl), at_grown pb hg (by simp)⟩)
      clear hHeld hg gr pb
      go_wp2_with fail
      refine hK.out _ _ ?_ (fun hHeld => ?_)
      · exact L8.out
      clear hK K
      try dsimp only at hHeld
      try simp only [Act.put, List.setIfInBounds_toArray, List.set_cons_zero, List.set_cons_succ, List.getElem_toArray, List.getElem_cons_succ, List.getElem_cons_zero]
      refine wpAnyH_ready (rs := [9]) (by kernel_rfl) (by simp) ?_
      refine AllReadyH.cons (o := _) rfl (fun K hK => ?_) AllReadyH.nil
      have hH2 := hHeld
      obtain ⟨gr, pb⟩ := hH2
      have hg : w1008.grownBy (w1008.alloc (.cells #[.int .i64 s.who, .int .i64 s.met, .int .i64 s.ep, .int .i64 s.val] 29)) none := World.grownBy_alloc _ _ _
      have T9 := hid (T8.out.grown hg)
      have SM := hid (smp_new w1008 s)
      have L9 := hid (show (w2.grownBy (w1008.alloc (.cells #[.int .i64 s.who, .int .i64 s.met, .int .i64 s.ep, .int .i64 s.val] 29)) none) ∧ ((w1008.alloc (.cells #[.int .i64 s.who, .int .i64 s.met, .int .i64 s.ep, .int .i64 s.val] 29)).heap[wr.heap.size]? = some (.cells #[.int .i64 s.ep, .int .i64 s.met, .int .i64 s.who] 53)) from ⟨gb_trans gr hg (.inl rfl), at_grown pb hg (by simp)⟩)
      clear hHeld hg gr pb
      try simp only [List.getElem_toArray, List.getElem_cons_succ, List.getElem_cons_zero]
      go_simp
      refine hK.out _ _ ?_ (fun hHeld => ?_)
      · exact L9.out
      clear hK K
      try dsimp only at hHeld
      try simp only [Act.put, List.setIfInBounds_toArray, List.set_cons_zero, List.set_cons_succ, List.getElem_toArray, List.getElem_cons_succ, List.getElem_cons_zero]
      refine wpAnyH_ready (rs := [10]) (by kernel_rfl) (by simp) ?_
      refine AllReadyH.cons (o := _) rfl (fun K hK => ?_) AllReadyH.nil
      have hH2 := hHeld
      obtain ⟨gr, pb⟩ := hH2
      try simp only [List.getElem_toArray, List.getElem_cons_succ, List.getElem_cons_zero]
      rw [if_pos (by rfl)]
      refine wp_append_smp _ _ rfl w2.heap.size _ _ rfl T9.out _ [s] rfl SM.out LEN.out gr.size ?_
      intro v' w10 hown hgrow hat
      have TG := hid hown
      have TGR := hid (gb_ownZ gr T9.out (Nat.le_refl _) hgrow)
      have TPB := hid (at_grown pb hgrow NB.out)
      obtain ⟨p10, c10, rfl⟩ := hown.form
      clear hown hgrow hat
      have L10 := hid (show (w2.grownBy w10 none) ∧ (w10.heap[wr.heap.size]? = some (.cells #[.int .i64 s.ep, .int .i64 s.met, .int .i64 s.who] 53)) from ⟨TGR.out, TPB.out⟩)
      clear hHeld gr pb
      refine hK.out _ _ ?_ (fun hHeld => ?_)
      · exact L10.out
      clear hK K
      try dsimp only at hHeld
      try simp only [Act.put, List.setIfInBounds_toArray, List.set_cons_zero, List.set_cons_succ, List.getElem_toArray, List.getElem_cons_succ, List.getElem_cons_zero]
      refine' wpAnyH_take (i := 11) (v := _) rfl (by kernel_rfl) (by kernel_rfl) (by kernel_rfl) (fun _ _ _ h => h) (Or.inl ⟨by rfl, ?_⟩) hHeld ?_
      rotate_left
      · (intro w hSw; (try dsimp only at hSw); go_simp; try with_reducible rfl)
      try simp only [Act.put, List.setIfInBounds_toArray, List.set_cons_zero, List.set_cons_succ, List.getElem_toArray, List.getElem_cons_succ, List.getElem_cons_zero]
      refine wpAnyH_done (by kernel_rfl) ?_ _
      obtain ⟨gr, pb⟩ := hHeld
      clear gr pb
      go_wp2_with fail
      go_roundw
      case rel => exact ⟨k + 1, _, rfl, hlt, by go_num, by rw [HM.out.2]; have h := TG.out; simp only [List.length_append, List.length_cons, List.length_nil, Nat.zero_add, HKL.out] at h ⊢; exact h, TGR.out⟩
      case measure => simp [intOf]; omega
    · obtain rfl : k = L.length := by omega
      go_wp2_with fail
      go_ret
      exact ⟨v, rfl, by have h := HOWN.out.le HG.out.size; rw [List.take_length] at h; exact h, gb_trans HG.out HGR.out (.inl rfl)⟩
end Go.Proofs.Ytjjcnojckbeekaa
