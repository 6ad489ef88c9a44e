/-
  Contracts for package policy: Set. The condition of a call: the object lies there, slices read as numbers.
-/
import Derived.Test.YtmhpldnmapjghaaPoD
import Derived.Test.YtmhpldnmapjghaaLst
set_option linter.unusedSimpArgs false
set_option linter.unusedVariables false
namespace Go.Proofs.Ytmhpldnmapjghaa
set_option maxRecDepth 100000
open Go.RowKit

theorem pall_hit {r : Rt} {l : List Int} {k : Nat} {x : Int} (h : l[k]? = some x) (hx : inR r x = false) : l.all (inR r) = false := by
  obtain ⟨hk, rfl⟩ := List.getElem?_eq_some_iff.1 h
  cases hb : l.all (inR r) with
  | false => rfl
  | true => rw [List.all_eq_true] at hb; rw [hb _ (List.getElem_mem hk)] at hx; cases hx
theorem pall_none {r : Rt} {l : List Int} (h : ∀ (i : Nat) (x : Int), i < l.length → l[i]? = some x → inR r x = true) : l.all (inR r) = true := by
  rw [List.all_eq_true]
  intro x hx
  obtain ⟨i, hi, rfl⟩ := List.mem_iff_getElem.1 hx
  exact h i _ hi (List.getElem?_eq_getElem hi)

set_option maxHeartbeats 800000 in
theorem pindex_any (r : Rt) (v : Value) (l : List Int) (w : World) (h : IntsAt w v l) :
    Calls Try.prog 41 #[v, .func (.func 26) #[rv r] #[]] w fun e w' => (∃ i : Int, e = .returned (.int .i64 i) ∧ decide (0 ≤ i) = !(l.all (inR r))) ∧ w.grownBy w' none := by
  have HI := hid h
  obtain ⟨p, c, rfl⟩ := h.form
  obtain ⟨n, hn⟩ : ∃ n, l.length = n := ⟨_, rfl⟩
  have HN := hid hn
  have hlen := h.len
  rw [hn] at HI hlen ⊢
  unfold maxLen at hlen
  clear h hn
  go_enter Try.func41, Try.ntmps41
  go_wp2_with fail
  go_loopw [5, 8] (fun _ i wr => ∃ k : Nat, k ≤ n ∧ i = .int .i64 (k : Int) ∧ (∀ (j : Nat) (x : Int), j < k → l[j]? = some x → inR r x = true) ∧ w.grownBy wr none) (fun _ i _ => n - (intOf i).toNat)
  case atStart => exact ⟨0, Nat.zero_le _, rfl, fun j x hj => absurd hj (Nat.not_lt_zero _), .refl w none⟩
  case round =>
    obtain ⟨k, hk, rfl, ha, hgr⟩ := hrel
    have HA := hid ha; have HGR := hid hgr
    clear ha hgr
    by_cases hlt : k < n
    · have hkl : k < l.length := by rw [HN.out]; exact hlt
      obtain ⟨ab, ao, rfl, -, hcc, hcell⟩ := (HI.out.grown HGR.out).cell hkl
      have hx := List.getElem?_eq_getElem hkl
      generalize l[k] = y at *
      have HX := hid hx; clear hx
      cases hy : inR r y with
      | false =>
        have HB := hid (pbeyond_any r y wr)
        rw [hy] at HB
        have HALL := hid (pall_hit HX.out hy)
        clear hy
        go_wp2_with fail
        refine HB.out.mono ?_
        rintro e w1 ⟨rfl, hg⟩
        have G1 := hid (gb_trans HGR.out hg (.inl rfl)); clear hg
        go_wp2_with fail
        go_ret
        exact ⟨⟨_, rfl, by rw [HALL.out]; simp⟩, G1.out⟩
      | true =>
        have HB := hid (pbeyond_any r y wr)
        rw [hy] at HB
        have HY := hid hy
        clear hy
        go_wp2_with fail
        refine HB.out.mono ?_
        rintro e w1 ⟨rfl, hg⟩
        have G1 := hid (gb_trans HGR.out hg (.inl rfl)); clear hg
        go_wp2_with fail
        go_roundw
        case rel => exact ⟨k + 1, by omega, by go_num, fun j x hj hjx => by
          rcases Nat.lt_or_ge j k with h1 | h1
          · exact HA.out j x h1 hjx
          · obtain rfl : j = k := by omega
            rw [HX.out] at hjx; cases hjx; exact HY.out, G1.out⟩
        case measure => simp [intOf]; omega
    · obtain rfl : k = n := by omega
      go_wp2_with fail
      go_ret
      exact ⟨⟨_, rfl, by rw [pall_none fun i x hi => HA.out i x (by rw [← HN.out]; exact hi)]; rfl⟩, HGR.out⟩

theorem pcontains_any (r : Rt) (v : Value) (l : List Int) (w : World) (h : IntsAt w v l) :
    Calls Try.prog 30 #[v, .func (.func 26) #[rv r] #[]] w fun e w' => e = .returned (.bool (!(l.all (inR r)))) ∧ w.grownBy w' none := by
  have C1 := hid (pindex_any r v l w h)
  obtain ⟨p, c, rfl⟩ := h.form
  generalize l.length = n at *
  generalize l.all (inR r) = b at *
  clear h
  go_enter Try.func30, Try.ntmps30
  go_wp2_with fail
  refine C1.out.mono ?_
  rintro e w1 ⟨⟨i, rfl, hr⟩, hg⟩
  have G1 := hid hg; clear hg C1
  go_wp2_with fail
  go_ret
  exact ⟨rfl, G1.out⟩

theorem pset_nil (v : Value) (w : World) :
    Calls Try.prog 12 #[.pointer none, v] w fun e w' => e = .returned (.int .i64 1) ∧ w = w' := by
  have I := hid (isMade_nil)
  go_enter Try.func12, Try.ntmps12
  go_wp2_with fail
  refine (I.out _).mono ?_
  rintro e w1 ⟨rfl, rfl⟩
  go_wp2_with fail
  go_ret
  exact ⟨rfl, rfl⟩
def SettedP (w : World) (b : Nat) (p : Po) (l : List Int) (e : Ending) (w' : World) : Prop :=
  (p.mayset l = true ∧ e = .returned (.int .i64 0) ∧ PoAt w' b ⟨p.r, l⟩ ∧ Chg [b] w w') ∨ (p.mayset l = false ∧ e = .returned (.int .i64 1) ∧ w.grownBy w' none)
theorem mayset_yes {p : Po} {l : List Int} (h1 : 1 ≤ (l.length : Int) ∧ (l.length : Int) ≤ p.r.per) (h2 : l.all (inR p.r) = true) : p.mayset l = true := by
  have h2' : l.all p.in = true := h2
  have h3 : 1 ≤ l.length := by omega
  unfold Po.mayset
  rw [h2', decide_eq_true h3, decide_eq_true h1.2]
  rfl
theorem mayset_no1 {p : Po} {l : List Int} (h1 : ¬ (1 ≤ (l.length : Int) ∧ (l.length : Int) ≤ p.r.per)) : p.mayset l = false := by
  unfold Po.mayset
  by_cases h3 : 1 ≤ l.length
  · rw [decide_eq_false (show ¬ (l.length : Int) ≤ p.r.per by omega), Bool.and_false]
  · rw [decide_eq_false h3, Bool.and_false, Bool.false_and]
theorem mayset_no2 {p : Po} {l : List Int} (h2 : l.all (inR p.r) = false) : p.mayset l = false := by
  have h2' : l.all p.in = false := h2
  unfold Po.mayset
  rw [h2', Bool.false_and, Bool.false_and]
set_option maxHeartbeats 1600000 in
theorem poset_any {b : Nat} {p : Po} (v : Value) (l : List Int) {w : World} (H : PoAt w b p) (hv : IntsAt w v l) :
    Calls Try.prog 12 #[.pointer (some ⟨b, 0, none⟩), v] w (SettedP w b p l) := by
  have I := hid (isMade_any H)
  have HH := hid H
  have HV := hid hv
  have C1 := hid (fun (W : World) (h : w.grownBy W none) => pcontains_any p.r v l W (hv.grown h))
  have hper := H.ok.r.per
  have hlen := hv.len
  unfold maxLen at hlen
  obtain ⟨q, cc, rfl⟩ := hv.form
  obtain ⟨n, hn⟩ : ∃ n, l.length = n := ⟨_, rfl⟩
  have HN := hid hn
  rw [hn] at HV hlen C1 ⊢
  clear hv
  by_cases h1 : 1 ≤ (n : Int) ∧ (n : Int) ≤ p.r.per
  rotate_left
  · have hms := hid (mayset_no1 (p := p) (l := l) (by rw [hn]; exact h1))
    have W1 := hid (pin_no h1)
    clear h1 hn H
    go_enter Try.func12, Try.ntmps12
    go_wp2_with fail
    refine I.out.mono ?_
    rintro e w1 ⟨rfl, hg⟩
    have G1 := hid hg; have H1 := hid (HH.out.grown hg); clear hg
    obtain ⟨d0, d1, d2, d3, d4, d5, d6⟩ := H1.out.rcells
    go_wp2_with fail
    refine (W1.out _).mono ?_
    rintro e w2 ⟨rfl, rfl⟩
    go_wp2_with fail
    go_ret
    exact .inr ⟨hms.out, rfl, G1.out⟩
  have hn60 := hid (show n ≤ 60 by omega)
  have W1 := hid (pin_yes h1)
  cases ha : l.all (inR p.r) with
  | false =>
    have hms := hid (mayset_no2 (p := p) ha)
    rw [ha] at C1
    clear h1 hn ha H
    go_enter Try.func12, Try.ntmps12
    go_wp2_with fail
    refine I.out.mono ?_
    rintro e w1 ⟨rfl, hg⟩
    have G1 := hid hg; have H1 := hid (HH.out.grown hg); clear hg
    obtain ⟨d0, d1, d2, d3, d4, d5, d6⟩ := H1.out.rcells
    go_wp2_with fail
    refine (W1.out _).mono ?_
    rintro e w2 ⟨rfl, rfl⟩
    go_wp2_with fail
    refine (C1.out _ G1.out).mono ?_
    rintro e w3 ⟨rfl, hg⟩
    have G3 := hid (gb_trans G1.out hg (.inl rfl)); clear hg
    go_wp2_with fail
    go_ret
    exact .inr ⟨hms.out, rfl, G3.out⟩
  | true =>
    have hms := hid (mayset_yes (p := p) (l := l) (by rw [hn]; exact h1) ha)
    have hok := hid (show (Po.mk p.r l).Ok by
      have h := Po.set_ok H.ok l
      unfold Po.set at h
      rw [if_pos hms.out] at h
      exact h)
    rw [ha] at C1
    obtain ⟨⟨ws, h60, -, hrow⟩, -⟩ := H
    have H60 := hid h60
    have hrw := hid (fun W (h : w.grownBy W none) => at_grown hrow h (by simp))
    have hs := fun u => parr_all b u
    clear h1 hn ha h60 hrow
    go_enter Try.func12, Try.ntmps12
    go_wp2_with fail
    refine I.out.mono ?_
    rintro e w1 ⟨rfl, hg⟩
    have G1 := hid hg; have H1 := hid (HH.out.grown hg); clear hg
    obtain ⟨d0, d1, d2, d3, d4, d5, d6⟩ := H1.out.rcells
    go_wp2_with fail
    refine (W1.out _).mono ?_
    rintro e w2 ⟨rfl, rfl⟩
    go_wp2_with fail
    refine (C1.out _ G1.out).mono ?_
    rintro e w3 ⟨rfl, hg⟩
    have G3 := hid (gb_drew (gb_trans G1.out hg (.inl rfl))); clear hg d0 d1 d2 d3 d4 d5 d6
    go_wp2_with fail
    obtain ⟨w4, hc1, hc2, hc3⟩ := pcopy_into (hrw.out _ G3.out) H60.out (HV.out.grown G3.out) (by rw [HN.out]; exact hn60.out) 3
    rw [HN.out] at hc1 hc2
    have HC2 := hid hc2; have HC3 := hid hc3
    have c2 := at_cell hc2 7; rw [po_cell7] at c2
    have f2 := at_free hc2 7
    have HST := hid (store_i64 ⟨b, 7, none⟩ (n : Int) _ w4 c2 f2)
    clear hc2 hc3
    refine wp_region_last (S := (fun w' => (True))) 9 9 #[false, false, false, false, false, false, false, false, false, true] (by kernel_rfl) (by kernel_rfl) (by kernel_rfl) (by kernel_rfl) trivial (fun hHeld => ?_)
    try dsimp only at hHeld
    refine' wpAnyH_take (i := 0) (v := _) rfl (by kernel_rfl) (by kernel_rfl) (by kernel_rfl) (fun _ _ _ h => h) (Or.inl ⟨by rfl, ?_⟩) hHeld ?_
    rotate_left
    · (intro w hSw; (try dsimp only at hSw); go_simp; try with_reducible rfl)
    try simp only [Act.put, List.setIfInBounds_toArray, List.set_cons_zero, List.set_cons_succ, List.getElem_toArray, List.getElem_cons_succ, List.getElem_cons_zero]
    refine' wpAnyH_take (i := 1) (v := _) rfl (by kernel_rfl) (by kernel_rfl) (by kernel_rfl) (fun _ _ _ h => h) (Or.inl ⟨by rfl, ?_⟩) hHeld ?_
    rotate_left
    · (intro w hSw; (try dsimp only at hSw); go_simp; try with_reducible rfl)
    try simp only [Act.put, List.setIfInBounds_toArray, List.set_cons_zero, List.set_cons_succ, List.getElem_toArray, List.getElem_cons_succ, List.getElem_cons_zero]
    refine' wpAnyH_take (i := 2) (v := _) rfl (by kernel_rfl) (by kernel_rfl) (by kernel_rfl) (fun _ _ _ h => h) (Or.inl ⟨by rfl, ?_⟩) hHeld ?_
    rotate_left
    · (intro w hSw; (try dsimp only at hSw); go_simp; try with_reducible rfl)
    try simp only [Act.put, List.setIfInBounds_toArray, List.set_cons_zero, List.set_cons_succ, List.getElem_toArray, List.getElem_cons_succ, List.getElem_cons_zero]
    refine' wpAnyH_take (i := 3) (v := _) rfl (by kernel_rfl) (by kernel_rfl) (by kernel_rfl) (fun _ _ _ h => h) (Or.inl ⟨by rfl, ?_⟩) hHeld ?_
    rotate_left
    · (intro w hSw; (try dsimp only at hSw); go_simp; try with_reducible rfl)
    try simp only [Act.put, List.setIfInBounds_toArray, List.set_cons_zero, List.set_cons_succ, List.getElem_toArray, List.getElem_cons_succ, List.getElem_cons_zero]
    refine' wpAnyH_take (i := 4) (v := _) rfl (by kernel_rfl) (by kernel_rfl) (by kernel_rfl) (fun _ _ _ h => h) (Or.inl ⟨by rfl, ?_⟩) hHeld ?_
    rotate_left
    · (intro w hSw; (try dsimp only at hSw); go_simp; try with_reducible rfl)
    try simp only [Act.put, List.setIfInBounds_toArray, List.set_cons_zero, List.set_cons_succ, List.getElem_toArray, List.getElem_cons_succ, List.getElem_cons_zero]
    refine' wpAnyH_take (i := 5) (v := _) rfl (by kernel_rfl) (by kernel_rfl) (by kernel_rfl) (fun _ _ _ h => h) (Or.inl ⟨by rfl, ?_⟩) hHeld ?_
    rotate_left
    · (intro w hSw; (try dsimp only at hSw); go_simp; try with_reducible rfl)
    try simp only [Act.put, List.setIfInBounds_toArray, List.set_cons_zero, List.set_cons_succ, List.getElem_toArray, List.getElem_cons_succ, List.getElem_cons_zero]
    refine' wpAnyH_take (i := 6) (v := _) rfl (by kernel_rfl) (by kernel_rfl) (by kernel_rfl) (fun _ _ _ h => h) (Or.inl ⟨by rfl, ?_⟩) hHeld ?_
    rotate_left
    · (intro w hSw; (try dsimp only at hSw); go_simp; try with_reducible rfl)
    try simp only [Act.put, List.setIfInBounds_toArray, List.set_cons_zero, List.set_cons_succ, List.getElem_toArray, List.getElem_cons_succ, List.getElem_cons_zero]
    refine' wpAnyH_take (i := 7) (v := _) rfl (by kernel_rfl) (by kernel_rfl) (by kernel_rfl) (fun _ _ _ h => h) (Or.inl ⟨by rfl, ?_⟩) hHeld ?_
    rotate_left
    · (intro w hSw; (try dsimp only at hSw); go_simp; try with_reducible rfl)
    try simp only [Act.put, List.setIfInBounds_toArray, List.set_cons_zero, List.set_cons_succ, List.getElem_toArray, List.getElem_cons_succ, List.getElem_cons_zero]
    refine wpAnyH_ready (rs := [8]) (by kernel_rfl) (by simp) ?_
    refine AllReadyH.cons (o := _) rfl (fun K hK => ?_) AllReadyH.nil
    have hH2 := hHeld
    have hp := hH2
    try simp only [List.getElem_toArray, List.getElem_cons_succ, List.getElem_cons_zero]
    rw [if_pos (by rfl)]
    refine pwp_copyN _ _ rfl _ _ rfl rfl hc1 ?_
    have L8 := hid (show (True) from hp)
    clear hHeld hp
    refine hK.out _ _ ?_ (fun hHeld => ?_)
    · exact L8.out
    clear hK K
    try dsimp only at hHeld
    try simp only [Act.put, List.setIfInBounds_toArray, List.set_cons_zero, List.set_cons_succ, List.getElem_toArray, List.getElem_cons_succ, List.getElem_cons_zero]
    refine wpAnyH_done (by kernel_rfl) ?_ _
    have hp := hHeld
    clear hp
    refine atLast_step (o := _) rfl (fun K hK => ?_)
    try simp only [List.getElem_toArray, List.getElem_cons_succ, List.getElem_cons_zero]
    go_simp
    refine HST.out.mono ?_
    rintro e w5 ⟨rfl, rfl⟩
    go_wp2_with fail
    refine hK.out _ _ ?_
    clear hK K
    try simp only [Act.put, List.setIfInBounds_toArray, List.set_cons_zero, List.set_cons_succ, List.getElem_toArray, List.getElem_cons_succ, List.getElem_cons_zero]
    go_wp2_with fail
    go_ret
    exact .inl ⟨hms.out, rfl, ⟨⟨l ++ ws.drop n, by rw [List.length_append, List.length_drop, H60.out, HN.out]; have := hn60.out; omega, by simp, by show _ = some (Obj.cells (poCells p.r l.length _) _); rw [HN.out]; exact prow_kept HC2.out n⟩, hok.out⟩, ((chg_grown G3.out [b]).then HC3.out).set (.inl (by simp)) _⟩
end Go.Proofs.Ytmhpldnmapjghaa
