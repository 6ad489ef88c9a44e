/-
  Contracts for package calm: Set, New, of nil too. The condition of a call: the object lies there, slices read as numbers.
-/
import Derived.Test.YtnpaecbdejemnaaCaD
import Derived.Test.YtnpaecbdejemnaaLst
set_option linter.unusedSimpArgs false
set_option linter.unusedVariables false
namespace Go.Proofs.Ytnpaecbdejemnaa
set_option maxRecDepth 100000
open Go.RowKit

theorem all_hit {l : List Int} {k : Nat} {x : Int} (h : l[k]? = some x) (hx : okC x = false) : l.all okC = false := by
  obtain ⟨hk, rfl⟩ := List.getElem?_eq_some_iff.1 h
  cases hb : l.all okC with
  | false => rfl
  | true => rw [List.all_eq_true] at hb; rw [hb _ (List.getElem_mem hk)] at hx; cases hx
theorem all_none {l : List Int} (h : ∀ (i : Nat) (x : Int), i < l.length → l[i]? = some x → okC x = true) : l.all okC = true := by
  rw [List.all_eq_true]
  intro x hx
  obtain ⟨i, hi, rfl⟩ := List.mem_iff_getElem.1 hx
  exact h i _ hi (List.getElem?_eq_getElem hi)

set_option maxHeartbeats 800000 in
theorem index_any (v : Value) (l : List Int) (w : World) (h : IntsAt w v l) :
    Calls Try.prog 33 #[v, .func (.func 25) #[] #[]] w fun e w' => (∃ r : Int, e = .returned (.int .i64 r) ∧ decide (0 ≤ r) = !(l.all okC)) ∧ w.grownBy w' none := by
  have HI := hid h
  obtain ⟨p, c, rfl⟩ := h.form
  obtain ⟨n, hn⟩ : ∃ n, l.length = n := ⟨_, rfl⟩
  have HN := hid hn
  have hlen := h.len
  rw [hn] at HI hlen ⊢
  unfold maxLen at hlen
  clear h hn
  go_enter Try.func33, Try.ntmps33
  go_wp2_with fail
  go_loopw [5, 8] (fun _ i wr => ∃ k : Nat, k ≤ n ∧ i = .int .i64 (k : Int) ∧ (∀ (j : Nat) (x : Int), j < k → l[j]? = some x → okC x = true) ∧ w.grownBy wr none) (fun _ i _ => n - (intOf i).toNat)
  case atStart => exact ⟨0, Nat.zero_le _, rfl, fun j x hj => absurd hj (Nat.not_lt_zero _), .refl w none⟩
  case round =>
    obtain ⟨k, hk, rfl, ha, hgr⟩ := hrel
    have HA := hid ha; have HGR := hid hgr
    clear ha hgr
    by_cases hlt : k < n
    · have hkl : k < l.length := by rw [HN.out]; exact hlt
      obtain ⟨ab, ao, rfl, -, hcc, hcell⟩ := (HI.out.grown HGR.out).cell hkl
      have hx := List.getElem?_eq_getElem hkl
      generalize l[k] = y at *
      have HX := hid hx; clear hx
      cases hy : okC y with
      | false =>
        have HB := hid (beyond_any y wr)
        rw [hy] at HB
        have HALL := hid (all_hit HX.out hy)
        clear hy
        go_wp2_with fail
        refine HB.out.mono ?_
        rintro e w1 ⟨rfl, rfl⟩
        have G1 := hid HGR.out
        go_wp2_with fail
        go_ret
        exact ⟨⟨_, rfl, by rw [HALL.out]; simp⟩, G1.out⟩
      | true =>
        have HB := hid (beyond_any y wr)
        rw [hy] at HB
        have HY := hid hy
        clear hy
        go_wp2_with fail
        refine HB.out.mono ?_
        rintro e w1 ⟨rfl, rfl⟩
        have G1 := hid HGR.out
        go_wp2_with fail
        go_roundw
        case rel => exact ⟨k + 1, by omega, by go_num, fun j x hj hjx => by
          rcases Nat.lt_or_ge j k with h1 | h1
          · exact HA.out j x h1 hjx
          · obtain rfl : j = k := by omega
            rw [HX.out] at hjx; cases hjx; exact HY.out, G1.out⟩
        case measure => simp [intOf]; omega
    · obtain rfl : k = n := by omega
      go_wp2_with fail
      go_ret
      exact ⟨⟨_, rfl, by rw [all_none fun i x hi => HA.out i x (by rw [← HN.out]; exact hi)]; rfl⟩, HGR.out⟩

theorem contains_any (v : Value) (l : List Int) (w : World) (h : IntsAt w v l) :
    Calls Try.prog 24 #[v, .func (.func 25) #[] #[]] w fun e w' => e = .returned (.bool (!(l.all okC))) ∧ w.grownBy w' none := by
  have C1 := hid (index_any v l w h)
  obtain ⟨p, c, rfl⟩ := h.form
  generalize l.length = n at *
  generalize l.all okC = b at *
  clear h
  go_enter Try.func24, Try.ntmps24
  go_wp2_with fail
  refine C1.out.mono ?_
  rintro e w1 ⟨⟨r, rfl, hr⟩, hg⟩
  have G1 := hid hg; clear hg C1
  go_wp2_with fail
  go_ret
  exact ⟨rfl, G1.out⟩


theorem set_nil (v : Value) (w : World) :
    Calls Try.prog 10 #[.pointer none, v] w fun e w' => e = .returned (.int .i64 1) ∧ w = w' := by
  go_enter Try.func10, Try.ntmps10
  go_wp2_with fail
  go_ret
  exact ⟨rfl, rfl⟩
def Setted (w : World) (b : Nat) (c : Ca) (l : List Int) (e : Ending) (w' : World) : Prop :=
  (c.mayset l = true ∧ e = .returned (.int .i64 0) ∧ CaAt w' b { c with l := l } ∧ Chg [b] w w') ∨ (c.mayset l = false ∧ e = .returned (.int .i64 1) ∧ w.grownBy w' none)
theorem mayset_eq (c : Ca) (l : List Int) : c.mayset l = (decide (l.length ≤ c.most) && l.all okC) := rfl
theorem set_ok {c : Ca} (h : c.Ok) {l : List Int} (hl : c.mayset l = true) : ({ c with l := l } : Ca).Ok := by
  rw [mayset_eq, Bool.and_eq_true, decide_eq_true_eq, List.all_eq_true] at hl
  refine ⟨h.u, h.d, hl.1, fun x hx => ?_⟩
  have := hl.2 x hx
  unfold okC at this
  rw [Bool.and_eq_true, decide_eq_true_eq, decide_eq_true_eq] at this
  exact this
set_option maxHeartbeats 1600000 in
theorem set_any {b : Nat} {c : Ca} (v : Value) (l : List Int) {w : World} (H : CaAt w b c) (hv : IntsAt w v l) :
    Calls Try.prog 10 #[.pointer (some ⟨b, 0, none⟩), v] w (Setted w b c l) := by
  have R := hid (room_any H)
  have HV := hid hv
  have C1 := hid (fun (W : World) (h : w.grownBy W none) => contains_any v l W (hv.grown h))
  have hm61 := most_le H.ok
  have hlen := hv.len
  unfold maxLen at hlen
  obtain ⟨p, cc, rfl⟩ := hv.form
  obtain ⟨n, hn⟩ : ∃ n, l.length = n := ⟨_, rfl⟩
  have HN := hid hn
  rw [hn] at HV hlen C1 ⊢
  clear hv
  by_cases h1 : n ≤ c.most
  rotate_left
  · have hms := hid (show c.mayset l = false by rw [mayset_eq, hn, decide_eq_false h1]; rfl)
    have i1 : c.most < n := by omega
    have d1 : decide ((c.most : Int) < (n : Int)) = true := by simp; omega
    generalize c.most = m at *
    clear h1 hn
    go_enter Try.func10, Try.ntmps10
    go_wp2_with fail
    refine R.out.mono ?_
    rintro e w1 ⟨rfl, hg⟩
    have G1 := hid hg; clear hg
    go_wp2_with fail
    go_ret
    exact .inr ⟨hms.out, rfl, G1.out⟩
  have d1 : decide ((c.most : Int) < (n : Int)) = false := by simp; omega
  have i1 : ¬ c.most < n := by omega
  have hn61 := hid (show n ≤ 61 by omega)
  cases ha : l.all okC with
  | false =>
    have hms := hid (show c.mayset l = false by rw [mayset_eq, ha, Bool.and_false])
    rw [ha] at C1
    generalize c.most = m at *
    clear h1 hn ha
    go_enter Try.func10, Try.ntmps10
    go_wp2_with fail
    refine R.out.mono ?_
    rintro e w1 ⟨rfl, hg⟩
    have G1 := hid hg; clear hg
    go_wp2_with fail
    refine (C1.out _ G1.out).mono ?_
    rintro e w2 ⟨rfl, hg⟩
    have G2 := hid (gb_trans G1.out hg (.inl rfl)); clear hg
    go_wp2_with fail
    go_ret
    exact .inr ⟨hms.out, rfl, G2.out⟩
  | true =>
    have hms := hid (show c.mayset l = true by rw [mayset_eq, ha, hn, decide_eq_true h1]; rfl)
    have hok := hid (set_ok H.ok hms.out)
    rw [ha] at C1
    obtain ⟨⟨ws, h61, -, hrow⟩, -⟩ := H
    have H61 := hid h61
    have hrw := hid (fun W (h : w.grownBy W none) => at_grown hrow h (by simp))
    have hs := fun u => arr_all b u
    generalize c.most = m at *
    clear h1 hn ha h61 hrow
    go_enter Try.func10, Try.ntmps10
    go_wp2_with fail
    refine R.out.mono ?_
    rintro e w1 ⟨rfl, hg⟩
    have G1 := hid hg; clear hg
    go_wp2_with fail
    refine (C1.out _ G1.out).mono ?_
    rintro e w2 ⟨rfl, hg⟩
    have G2 := hid (gb_drew (gb_trans G1.out hg (.inl rfl))); clear hg
    go_wp2_with fail
    obtain ⟨w3, hc1, hc2, hc3⟩ := copy_into (hrw.out _ G2.out) H61.out (HV.out.grown G2.out) (by rw [HN.out]; exact hn61.out) 3
    rw [HN.out] at hc1 hc2
    have HC2 := hid hc2; have HC3 := hid hc3
    have c2 := at_cell hc2 2; rw [ca_cell2] at c2
    have f2 := at_free hc2 2
    have HST := hid (store_i64 ⟨b, 2, none⟩ (n : Int) _ w3 c2 f2)
    clear hc2 hc3
    refine wp_region_last (S := (fun w' => (True))) 9 9 #[false, false, false, false, false, false, false, false, false, true] (by kernel_rfl) (by kernel_rfl) (by kernel_rfl) (by kernel_rfl) trivial (fun hHeld => ?_)
    try dsimp only at hHeld
    refine' wpAnyH_take (i := 0) (v := _) rfl (by kernel_rfl) (by kernel_rfl) (by kernel_rfl) (fun _ _ _ h => h) (Or.inl ⟨by rfl, ?_⟩) hHeld ?_
    rotate_left
    · (intro w hSw; (try dsimp only at hSw); go_simp; try with_reducible rfl)
    try simp only [Act.put, List.setIfInBounds_toArray, List.set_cons_zero, List.set_cons_succ, List.getElem_toArray, List.getElem_cons_succ, List.getElem_cons_zero]
    refine' wpAnyH_take (i := 1) (v := _) rfl (by kernel_rfl) (by kernel_rfl) (by kernel_rfl) (fun _ _ _ h => h) (Or.inl ⟨by rfl, ?_⟩) hHeld ?_
    rotate_left
    · (intro w hSw; (try dsimp only at hSw); go_simp; try with_reducible rfl)
    try simp only [Act.put, List.setIfInBounds_toArray, List.set_cons_zero, List.set_cons_succ, List.getElem_toArray, List.getElem_cons_succ, List.getElem_cons_zero]
    refine' wpAnyH_take (i := 2) (v := _) rfl (by kernel_rfl) (by kernel_rfl) (by kernel_rfl) (fun _ _ _ h => h) (Or.inl ⟨by rfl, ?_⟩) hHeld ?_
    rotate_left
    · (intro w hSw; (try dsimp only at hSw); go_simp; try with_reducible rfl)
    try simp only [Act.put, List.setIfInBounds_toArray, List.set_cons_zero, List.set_cons_succ, List.getElem_toArray, List.getElem_cons_succ, List.getElem_cons_zero]
    refine' wpAnyH_take (i := 3) (v := _) rfl (by kernel_rfl) (by kernel_rfl) (by kernel_rfl) (fun _ _ _ h => h) (Or.inl ⟨by rfl, ?_⟩) hHeld ?_
    rotate_left
    · (intro w hSw; (try dsimp only at hSw); go_simp; try with_reducible rfl)
    try simp only [Act.put, List.setIfInBounds_toArray, List.set_cons_zero, List.set_cons_succ, List.getElem_toArray, List.getElem_cons_succ, List.getElem_cons_zero]
    refine' wpAnyH_take (i := 4) (v := _) rfl (by kernel_rfl) (by kernel_rfl) (by kernel_rfl) (fun _ _ _ h => h) (Or.inl ⟨by rfl, ?_⟩) hHeld ?_
    rotate_left
    · (intro w hSw; (try dsimp only at hSw); go_simp; try with_reducible rfl)
    try simp only [Act.put, List.setIfInBounds_toArray, List.set_cons_zero, List.set_cons_succ, List.getElem_toArray, List.getElem_cons_succ, List.getElem_cons_zero]
    refine' wpAnyH_take (i := 5) (v := _) rfl (by kernel_rfl) (by kernel_rfl) (by kernel_rfl) (fun _ _ _ h => h) (Or.inl ⟨by rfl, ?_⟩) hHeld ?_
    rotate_left
    · (intro w hSw; (try dsimp only at hSw); go_simp; try with_reducible rfl)
    try simp only [Act.put, List.setIfInBounds_toArray, List.set_cons_zero, List.set_cons_succ, List.getElem_toArray, List.getElem_cons_succ, List.getElem_cons_zero]
    refine' wpAnyH_take (i := 6) (v := _) rfl (by kernel_rfl) (by kernel_rfl) (by kernel_rfl) (fun _ _ _ h => h) (Or.inl ⟨by rfl, ?_⟩) hHeld ?_
    rotate_left
    · (intro w hSw; (try dsimp only at hSw); go_simp; try with_reducible rfl)
    try simp only [Act.put, List.setIfInBounds_toArray, List.set_cons_zero, List.set_cons_succ, List.getElem_toArray, List.getElem_cons_succ, List.getElem_cons_zero]
    refine' wpAnyH_take (i := 7) (v := _) rfl (by kernel_rfl) (by kernel_rfl) (by kernel_rfl) (fun _ _ _ h => h) (Or.inl ⟨by rfl, ?_⟩) hHeld ?_
    rotate_left
    · (intro w hSw; (try dsimp only at hSw); go_simp; try with_reducible rfl)
    try simp only [Act.put, List.setIfInBounds_toArray, List.set_cons_zero, List.set_cons_succ, List.getElem_toArray, List.getElem_cons_succ, List.getElem_cons_zero]
    refine wpAnyH_ready (rs := [8]) (by kernel_rfl) (by simp) ?_
    refine AllReadyH.cons (o := _) rfl (fun K hK => ?_) AllReadyH.nil
    have hH2 := hHeld
    have hp := hH2
    try simp only [List.getElem_toArray, List.getElem_cons_succ, List.getElem_cons_zero]
    rw [if_pos (by rfl)]
    refine wp_copyN _ _ rfl _ _ rfl rfl hc1 ?_
    have L8 := hid (show (True) from hp)
    clear hHeld hp
    refine hK.out _ _ ?_ (fun hHeld => ?_)
    · exact L8.out
    clear hK K
    try dsimp only at hHeld
    try simp only [Act.put, List.setIfInBounds_toArray, List.set_cons_zero, List.set_cons_succ, List.getElem_toArray, List.getElem_cons_succ, List.getElem_cons_zero]
    refine wpAnyH_done (by kernel_rfl) ?_ _
    have hp := hHeld
    clear hp
    refine atLast_step (o := _) rfl (fun K hK => ?_)
    try simp only [List.getElem_toArray, List.getElem_cons_succ, List.getElem_cons_zero]
    go_simp
    refine HST.out.mono ?_
    rintro e w4 ⟨rfl, rfl⟩
    go_wp2_with fail
    refine hK.out _ _ ?_
    clear hK K
    try simp only [Act.put, List.setIfInBounds_toArray, List.set_cons_zero, List.set_cons_succ, List.getElem_toArray, List.getElem_cons_succ, List.getElem_cons_zero]
    go_wp2_with fail
    go_ret
    exact .inl ⟨hms.out, rfl, ⟨⟨l ++ ws.drop n, by rw [List.length_append, List.length_drop, H61.out, HN.out]; have := hn61.out; omega, by simp, by rw [HN.out]; exact row_kept HC2.out n⟩, hok.out⟩, ((chg_grown G2.out [b]).then HC3.out).set (.inl (by simp)) _⟩
theorem new_nil (u d : Int) (h : ¬ (0 ≤ u ∧ u ≤ 60 ∧ 0 ≤ d ∧ d ≤ 60)) (w : World) :
    Calls Try.prog 8 #[.int .i64 u, .int .i64 d] w fun e w' => e = .returned (.pointer none) ∧ w = w' := by
  have M1 := hid (may_any u 60); have M2 := hid (may_any d 60)
  cases h1 : decide (0 ≤ u) && decide (u ≤ 60) with
  | false =>
    rw [h1] at M1
    clear h h1
    go_enter Try.func8, Try.ntmps8
    go_wp2_with fail
    refine (M1.out _).mono ?_
    rintro e w1 ⟨rfl, rfl⟩
    go_wp2_with fail
    go_ret
    exact ⟨rfl, rfl⟩
  | true =>
    have h2 : (decide (0 ≤ d) && decide (d ≤ 60)) = false := by
      cases h3 : decide (0 ≤ d) && decide (d ≤ 60) with
      | false => rfl
      | true => simp at h1 h3; exact absurd ⟨h1.1, h1.2, h3.1, h3.2⟩ h
    rw [h1] at M1; rw [h2] at M2
    clear h h1 h2
    go_enter Try.func8, Try.ntmps8
    go_wp2_with fail
    refine (M1.out _).mono ?_
    rintro e w1 ⟨rfl, rfl⟩
    go_wp2_with fail
    refine (M2.out _).mono ?_
    rintro e w1 ⟨rfl, rfl⟩
    go_wp2_with fail
    go_ret
    exact ⟨rfl, rfl⟩
def MadeC (w : World) (c : Ca) (e : Ending) (w' : World) : Prop := ∃ b, e = .returned (.pointer (some ⟨b, 0, none⟩)) ∧ CaAt w' b c ∧ w.grownBy w' none ∧ w.heap.size ≤ b
theorem new_ok (u d : Nat) (hu : u ≤ 60) (hd : d ≤ 60) (w : World) :
    Calls Try.prog 8 #[.int .i64 (u : Int), .int .i64 (d : Int)] w (MadeC w ⟨u, d, []⟩) := by
  have M1 := hid (may_any (u : Int) 60); have M2 := hid (may_any (d : Int) 60)
  have h1 : (decide (0 ≤ (u : Int)) && decide ((u : Int) ≤ 60)) = true := by simp; omega
  have h2 : (decide (0 ≤ (d : Int)) && decide ((d : Int) ≤ 60)) = true := by simp; omega
  rw [h1] at M1; rw [h2] at M2
  clear h1 h2
  have L := hid (show CaAt (w.alloc (.cells (caCells u d 0 (List.replicate 61 0)) 46)) w.heap.size ⟨u, d, []⟩ from ⟨⟨List.replicate 61 0, rfl, rfl, at_new w _⟩, ⟨hu, hd, Nat.zero_le _, fun x hx => by cases hx⟩⟩)
  go_enter Try.func8, Try.ntmps8
  go_wp2_with fail
  refine (M1.out _).mono ?_
  rintro e w1 ⟨rfl, rfl⟩
  go_wp2_with fail
  refine (M2.out _).mono ?_
  rintro e w1 ⟨rfl, rfl⟩
  go_wp2_with fail
  go_ret
  exact ⟨_, rfl, L.out, gb_alloc (.refl w none) _, Nat.le_refl _⟩
end Go.Proofs.Ytnpaecbdejemnaa
