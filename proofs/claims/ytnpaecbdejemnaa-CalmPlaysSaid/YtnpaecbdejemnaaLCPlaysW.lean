/-
  The walk of the statement CalmPlays: what comes of what was wanted is what the document says. No condition.
-/
import Derived.Test.YtnpaecbdejemnaaCaF
import Derived.Test.YtnpaecbdejemnaaUmi
import Derived.Test.YtnpaecbdejemnaaCpl
import Derived.Deep.RegionHeld3
set_option linter.unusedSimpArgs false
set_option linter.unusedVariables false
namespace Go.Proofs.Ytnpaecbdejemnaa.cplays
set_option maxRecDepth 100000
open Go.RowKit

set_option maxHeartbeats 6400000 in
theorem walk {w : World} (up down : Int) (lc : List Int) (p : Option Addr) (c : Nat) (i0 : IntsAt w (.slice p lc.length c) lc) (lw : List Int) (p1 : Option Addr) (c1 : Nat) (i1 : IntsAt w (.slice p1 lw.length c1) lw) (ls : List Int) (p2 : Option Addr) (c2 : Nat) (i2 : IntsAt w (.slice p2 ls.length c2) ls) :
    Calls Try.prog 4 #[.int .i64 up, .int .i64 down, .slice p lc.length c, .slice p1 lw.length c1, .slice p2 ls.length c2] w fun e w' => e = .returned (.bool true) ∧ w.grownBy w' none := by
  have ncl := i0.len
  unfold maxLen at ncl
  obtain ⟨nc, hnc⟩ : ∃ n, lc.length = n := ⟨_, rfl⟩
  rw [hnc] at i0 ncl ⊢
  have Hnc := hid hnc; have Inc := hid i0
  clear hnc i0
  have nl := i1.len
  unfold maxLen at nl
  obtain ⟨n, hn⟩ : ∃ n, lw.length = n := ⟨_, rfl⟩
  rw [hn] at i1 nl ⊢
  have Hn := hid hn; have In := hid i1
  clear hn i1
  have nsl := i2.len
  unfold maxLen at nsl
  obtain ⟨ns, hns⟩ : ∃ n, ls.length = n := ⟨_, rfl⟩
  rw [hns] at i2 nsl ⊢
  have Hns := hid hns; have Ins := hid i2
  clear hns i2
  by_cases hin : 0 ≤ up ∧ up ≤ 60 ∧ 0 ≤ down ∧ down ≤ 60
  rotate_left
  · have C1 := hid (new_nil up down hin)
    have C2 := hid (rnew_nil up down hin)
    clear hin
    go_enter Try.func4, Try.ntmps4
    go_wp2_with fail
    refine (C1.out _).mono ?_
    rintro e w1 ⟨rfl, rfl⟩
    go_wp2_with fail
    refine (C2.out _).mono ?_
    rintro e w1 ⟨rfl, rfl⟩
    go_wp2_with fail
    refine (told_any _).mono ?_
    rintro e w2 ⟨rfl, hg⟩
    have GT := hid (gb_trans (.refl w none) hg (.inl rfl)); clear hg
    go_wp2_with fail
    go_ret
    exact ⟨rfl, GT.out⟩
  · obtain ⟨u, hu⟩ := Int.eq_ofNat_of_zero_le hin.1
    obtain ⟨d, hd⟩ := Int.eq_ofNat_of_zero_le hin.2.2.1
    subst hu; subst hd
    have HU := hid (show u ≤ 60 by omega); have HD := hid (show d ≤ 60 by omega)
    clear hin
    by_cases h40 : 40 < n
    · have i40 : (40 : Int) < (n : Int) := by omega
      go_enter Try.func4, Try.ntmps4
      go_wp2_with fail
      refine (new_ok _ _ HU.out HD.out _).mono ?_
      rintro e w1 ⟨b1, rfl, hc, hg, hb⟩
      have hb1 := hc.lt
      have K1 := hid (And.intro hc (And.intro hg hb)); clear hc hg hb
      go_wp2_with fail
      refine (rnew_ok u d HU.out HD.out [b1] _ (by intro x hx; rw [List.mem_singleton] at hx; subst hx; exact hb1)).mono ?_
      rintro e w2 ⟨b2, rfl, hc, hg, hb⟩
      have K := hid (show Cp w b1 ⟨u, d, []⟩ b2 ⟨u, d, []⟩ w2 from ⟨gb_trans K1.out.2.1 hg (.inl rfl), K1.out.1.grown hg, hc, K1.out.2.2, Nat.le_trans K1.out.2.1.size hb, by omega⟩)
      clear hc hg hb hb1 K1
      go_wp2_with fail
      refine (told_any _).mono ?_
      rintro e w3 ⟨rfl, hg⟩
      have GT := hid (gb_trans (K.out.gr) hg (.inl rfl)); clear hg
      go_wp2_with fail
      go_ret
      exact ⟨rfl, GT.out⟩
    · have i40 : ¬ (40 : Int) < (n : Int) := by omega
      by_cases h70 : 70 < ns
      · have i70 : (70 : Int) < (ns : Int) := by omega
        go_enter Try.func4, Try.ntmps4
        go_wp2_with fail
        refine (new_ok _ _ HU.out HD.out _).mono ?_
        rintro e w1 ⟨b1, rfl, hc, hg, hb⟩
        have hb1 := hc.lt
        have K1 := hid (And.intro hc (And.intro hg hb)); clear hc hg hb
        go_wp2_with fail
        refine (rnew_ok u d HU.out HD.out [b1] _ (by intro x hx; rw [List.mem_singleton] at hx; subst hx; exact hb1)).mono ?_
        rintro e w2 ⟨b2, rfl, hc, hg, hb⟩
        have K := hid (show Cp w b1 ⟨u, d, []⟩ b2 ⟨u, d, []⟩ w2 from ⟨gb_trans K1.out.2.1 hg (.inl rfl), K1.out.1.grown hg, hc, K1.out.2.2, Nat.le_trans K1.out.2.1.size hb, by omega⟩)
        clear hc hg hb hb1 K1
        go_wp2_with fail
        refine (told_any _).mono ?_
        rintro e w3 ⟨rfl, hg⟩
        have GT := hid (gb_trans (K.out.gr) hg (.inl rfl)); clear hg
        go_wp2_with fail
        go_ret
        exact ⟨rfl, GT.out⟩
      · have i70 : ¬ (70 : Int) < (ns : Int) := by omega
        have H70 := hid (show ls.length ≤ 999999 by rw [Hns.out]; omega)
        go_enter Try.func4, Try.ntmps4
        go_wp2_with fail
        refine (new_ok _ _ HU.out HD.out _).mono ?_
        rintro e w1 ⟨b1, rfl, hc, hg, hb⟩
        have hb1 := hc.lt
        have K1 := hid (And.intro hc (And.intro hg hb)); clear hc hg hb
        go_wp2_with fail
        refine (rnew_ok u d HU.out HD.out [b1] _ (by intro x hx; rw [List.mem_singleton] at hx; subst hx; exact hb1)).mono ?_
        rintro e w2 ⟨b2, rfl, hc, hg, hb⟩
        have K := hid (show Cp w b1 ⟨u, d, []⟩ b2 ⟨u, d, []⟩ w2 from ⟨gb_trans K1.out.2.1 hg (.inl rfl), K1.out.1.grown hg, hc, K1.out.2.2, Nat.le_trans K1.out.2.1.size hb, by omega⟩)
        clear hc hg hb hb1 K1
        go_wp2_with fail
        refine (set_any _ ls K.out.k1 (Ins.out.grown K.out.gr)).mono ?_
        rintro e w3 (⟨hm, rfl, hc, hg⟩ | ⟨hm, rfl, hg⟩)
        · replace K := hid (K.out.chg1 hc hg); clear hc hg
          have HMS := hid hm; clear hm
          go_wp2_with fail
          refine (rset_any _ ls K.out.k2 (Ins.out.grown K.out.gr) H70.out).mono ?_
          rintro e w4 (⟨hm, rfl, hc, hg⟩ | ⟨hm, rfl, hg⟩)
          · replace K := hid (K.out.chg2 hc hg); clear hc hg hm
            go_wp2_with fail
            go_loopw [13, 14] (fun i j wr => ∃ k : Nat, k ≤ n ∧ i = .int .i64 (k : Int) ∧ ∃ a : Ca, Cp w b1 a b2 a wr) (fun i _ _ => n - (intOf i).toNat)
            case atStart => exact ⟨0, Nat.zero_le _, rfl, _, K.out⟩
            case round =>
              obtain ⟨k, hk, rfl, a, hK⟩ := hrel
              have TG := hid hK; clear hK
              by_cases hlt : k < n
              · have HLT := hid hlt
                have hkl : k < lw.length := by rw [Hn.out]; exact hlt
                obtain ⟨ab, ao, rfl, -, hcc, -⟩ := (In.out.grown TG.out.gr).cell hkl
                have hx0 := List.getElem?_eq_getElem hkl
                generalize lw[k] = x at *
                have CM := hid (fun (W : World) (hg : w.grownBy W none) => (In.out.grown hg).cell' hx0)
                clear hx0 hkl
                have j1 : (k : Int) < (n : Int) := by omega
                obtain ⟨c2, hc2⟩ : ∃ c2, a.push x = c2 := ⟨_, rfl⟩
                have HP := hid hc2; clear hc2
                clear hk hlt
                by_cases hc : k < nc
                · have jc : (k : Int) < (nc : Int) := by omega
                  have hkc : k < lc.length := by rw [Hnc.out]; exact hc
                  obtain ⟨cb, co, rfl, -, hcc2, -⟩ := (Inc.out.grown TG.out.gr).cell hkc
                  have hxc := List.getElem?_eq_getElem hkc
                  generalize lc[k] = N at *
                  have hqc := (Inc.out.grown TG.out.gr).cell' hxc
                  clear hxc hkc
                  obtain ⟨o, ho⟩ : ∃ o, c2.out N = o := ⟨_, rfl⟩
                  have HO := hid ho; clear ho
                  go_wp2_with fail
                  generalize wr = WR at *
                  replace TG := hid TG.out.drew
                  clear hqc
                  refine wp_region_held_drew (S := (fun w' => (w.grownBy w' none))) (by kernel_rfl) TG.out.gr (fun hHeld => ?_)
                  try dsimp only at hHeld
                  refine' wpAnyH_take (i := 0) (v := _) rfl (by kernel_rfl) (by kernel_rfl) (by kernel_rfl) (fun _ _ _ h => h) (Or.inl ⟨by rfl, ?_⟩) hHeld ?_
                  rotate_left
                  · (intro w hSw; (try dsimp only at hSw); go_simp; try with_reducible rfl)
                  try simp only [Act.put, List.setIfInBounds_toArray, List.set_cons_zero, List.set_cons_succ, List.getElem_toArray, List.getElem_cons_succ, List.getElem_cons_zero]
                  refine' wpAnyH_take (i := 1) (v := _) rfl (by kernel_rfl) (by kernel_rfl) (by kernel_rfl) (fun _ _ _ h => h) (Or.inl ⟨by rfl, ?_⟩) hHeld ?_
                  rotate_left
                  · (intro w hSw; (try dsimp only at hSw); go_simp; try with_reducible rfl)
                  try simp only [Act.put, List.setIfInBounds_toArray, List.set_cons_zero, List.set_cons_succ, List.getElem_toArray, List.getElem_cons_succ, List.getElem_cons_zero]
                  refine' wpAnyH_take (i := 2) (v := _) rfl (by kernel_rfl) (by kernel_rfl) (by kernel_rfl) (fun _ _ _ h => h) (Or.inl ⟨by rfl, ?_⟩) hHeld ?_
                  rotate_left
                  · (intro w hSw; (try dsimp only at hSw); go_simp; try with_reducible rfl)
                  try simp only [Act.put, List.setIfInBounds_toArray, List.set_cons_zero, List.set_cons_succ, List.getElem_toArray, List.getElem_cons_succ, List.getElem_cons_zero]
                  refine' wpAnyH_take (i := 3) (v := _) rfl (by kernel_rfl) (by kernel_rfl) (by kernel_rfl) (fun _ _ _ h => h) (Or.inl ⟨by rfl, ?_⟩) hHeld ?_
                  rotate_left
                  · (intro w hSw; (try dsimp only at hSw); go_simp; try with_reducible rfl)
                  try simp only [Act.put, List.setIfInBounds_toArray, List.set_cons_zero, List.set_cons_succ, List.getElem_toArray, List.getElem_cons_succ, List.getElem_cons_zero]
                  refine' wpAnyH_take (i := 4) (v := _) rfl (by kernel_rfl) (by kernel_rfl) (by kernel_rfl) (fun _ _ _ h => h) (Or.inl ⟨by rfl, ?_⟩) hHeld ?_
                  rotate_left
                  · (intro w hSw; (try dsimp only at hSw); go_simp; try with_reducible rfl)
                  try simp only [Act.put, List.setIfInBounds_toArray, List.set_cons_zero, List.set_cons_succ, List.getElem_toArray, List.getElem_cons_succ, List.getElem_cons_zero]
                  refine' wpAnyH_take (i := 5) (v := _) rfl (by kernel_rfl) (by kernel_rfl) (by kernel_rfl) (fun _ _ _ h => h) (Or.inl ⟨by rfl, ?_⟩) hHeld ?_
                  rotate_left
                  · (intro w hSw; (try dsimp only at hSw); have kg := hSw; have q9 := CM.out _ kg; go_simp; try with_reducible rfl)
                  try simp only [Act.put, List.setIfInBounds_toArray, List.set_cons_zero, List.set_cons_succ, List.getElem_toArray, List.getElem_cons_succ, List.getElem_cons_zero]
                  refine' wpAnyH_take (i := 7) (v := _) rfl (by kernel_rfl) (by kernel_rfl) (by kernel_rfl) (fun _ _ _ h => h) (Or.inl ⟨by rfl, ?_⟩) hHeld ?_
                  rotate_left
                  · (intro w hSw; (try dsimp only at hSw); go_simp; try with_reducible rfl)
                  try simp only [Act.put, List.setIfInBounds_toArray, List.set_cons_zero, List.set_cons_succ, List.getElem_toArray, List.getElem_cons_succ, List.getElem_cons_zero]
                  refine' wpAnyH_take (i := 8) (v := _) rfl (by kernel_rfl) (by kernel_rfl) (by kernel_rfl) (fun _ _ _ h => h) (Or.inl ⟨by rfl, ?_⟩) hHeld ?_
                  rotate_left
                  · (intro w hSw; (try dsimp only at hSw); go_simp; try with_reducible rfl)
                  try simp only [Act.put, List.setIfInBounds_toArray, List.set_cons_zero, List.set_cons_succ, List.getElem_toArray, List.getElem_cons_succ, List.getElem_cons_zero]
                  refine' wpAnyH_take (i := 9) (v := _) rfl (by kernel_rfl) (by kernel_rfl) (by kernel_rfl) (fun _ _ _ h => h) (Or.inl ⟨by rfl, ?_⟩) hHeld ?_
                  rotate_left
                  · (intro w hSw; (try dsimp only at hSw); go_simp; try with_reducible rfl)
                  try simp only [Act.put, List.setIfInBounds_toArray, List.set_cons_zero, List.set_cons_succ, List.getElem_toArray, List.getElem_cons_succ, List.getElem_cons_zero]
                  refine' wpAnyH_take (i := 10) (v := _) rfl (by kernel_rfl) (by kernel_rfl) (by kernel_rfl) (fun _ _ _ h => h) (Or.inl ⟨by rfl, ?_⟩) hHeld ?_
                  rotate_left
                  · (intro w hSw; (try dsimp only at hSw); go_simp; try with_reducible rfl)
                  try simp only [Act.put, List.setIfInBounds_toArray, List.set_cons_zero, List.set_cons_succ, List.getElem_toArray, List.getElem_cons_succ, List.getElem_cons_zero]
                  refine' wpAnyH_take (i := 11) (v := _) rfl (by kernel_rfl) (by kernel_rfl) (by kernel_rfl) (fun _ _ _ h => h) (Or.inl ⟨by rfl, ?_⟩) hHeld ?_
                  rotate_left
                  · (intro w hSw; (try dsimp only at hSw); go_simp; try with_reducible rfl)
                  try simp only [Act.put, List.setIfInBounds_toArray, List.set_cons_zero, List.set_cons_succ, List.getElem_toArray, List.getElem_cons_succ, List.getElem_cons_zero]
                  refine' wpAnyH_take (i := 12) (v := _) rfl (by kernel_rfl) (by kernel_rfl) (by kernel_rfl) (fun _ _ _ h => h) (Or.inl ⟨by rfl, ?_⟩) hHeld ?_
                  rotate_left
                  · (intro w hSw; (try dsimp only at hSw); have kg := hSw; have q9 := CM.out _ kg; go_simp; try with_reducible rfl)
                  try simp only [Act.put, List.setIfInBounds_toArray, List.set_cons_zero, List.set_cons_succ, List.getElem_toArray, List.getElem_cons_succ, List.getElem_cons_zero]
                  refine wpAnyH_ready (rs := [6]) (by kernel_rfl) (by simp) ?_
                  refine AllReadyH.cons (o := _) rfl (fun K hK => ?_) AllReadyH.nil
                  try simp only [List.getElem_toArray, List.getElem_cons_succ, List.getElem_cons_zero]
                  go_simp
                  have hH2 := hHeld
                  have kg := hH2
                  refine ((next_as (n := N) (x := x) TG.out.k1 HP.out HO.out)).mono ?_
                  rintro e w1006 ⟨rfl, hc, hch⟩
                  replace TG := hid (TG.out.chg1 hc hch); have kg := TG.out.gr; have hg := World.grownBy.refl w1006 none; clear hc hch
                  have L6 := hid (show (w.grownBy w1006 none) from (gb_trans kg hg (.inl rfl)))
                  clear hHeld hg kg
                  go_wp2_with fail
                  refine hK.out _ _ ?_ (fun hHeld => ?_)
                  · exact L6.out
                  clear hK K
                  try dsimp only at hHeld
                  try simp only [Act.put, List.setIfInBounds_toArray, List.set_cons_zero, List.set_cons_succ, List.getElem_toArray, List.getElem_cons_succ, List.getElem_cons_zero]
                  refine wpAnyH_ready (rs := [13]) (by kernel_rfl) (by simp) ?_
                  refine AllReadyH.cons (o := _) rfl (fun K hK => ?_) AllReadyH.nil
                  try simp only [List.getElem_toArray, List.getElem_cons_succ, List.getElem_cons_zero]
                  go_simp
                  have hH2 := hHeld
                  have kg := hH2
                  refine ((rnext_as (n := N) (x := x) TG.out.k2 HP.out HO.out)).mono ?_
                  rintro e w1013 ⟨rfl, hc, hch⟩
                  replace TG := hid (TG.out.chg2 hc hch); have kg := TG.out.gr; have hg := World.grownBy.refl w1013 none; clear hc hch; obtain ⟨pm, km, hrowm, him, -⟩ := TG.out.k2.row; have clm := at_cell hrowm 2; have HIM := hid him; clear hrowm him
                  have L13 := hid (show (w.grownBy w1013 none) from (gb_trans kg hg (.inl rfl)))
                  have Ncl := hid (show w1013.cell? ⟨b2, 2, none⟩ = some (.slice pm c2.l.length km) from clm)
                  clear hHeld hg kg
                  go_wp2_with fail
                  refine hK.out _ _ ?_ (fun hHeld => ?_)
                  · exact L13.out
                  clear hK K
                  try dsimp only at hHeld
                  try simp only [Act.put, List.setIfInBounds_toArray, List.set_cons_zero, List.set_cons_succ, List.getElem_toArray, List.getElem_cons_succ, List.getElem_cons_zero]
                  refine held_stronger (S' := fun w' => (fun w' => w'.cell? ⟨b2, 2, none⟩ = some (.slice pm c2.l.length km)) w' ∧ ((fun w' => (w.grownBy w' none))) w') (fun _ h => h.2) _ _ _ _ ?_
                  replace hHeld := And.intro Ncl.out hHeld
                  try dsimp only at hHeld
                  refine' wpAnyH_take (i := 14) (v := _) rfl (by kernel_rfl) (by kernel_rfl) (by kernel_rfl) (fun _ _ _ h => h) (Or.inl ⟨by rfl, ?_⟩) hHeld ?_
                  rotate_left
                  · (intro w hSw; (try dsimp only at hSw); go_simp; try with_reducible rfl)
                  try simp only [Act.put, List.setIfInBounds_toArray, List.set_cons_zero, List.set_cons_succ, List.getElem_toArray, List.getElem_cons_succ, List.getElem_cons_zero]
                  refine' wpAnyH_take (i := 15) (v := _) rfl (by kernel_rfl) (by kernel_rfl) (by kernel_rfl) (fun _ _ _ h => h) (Or.inl ⟨by rfl, ?_⟩) hHeld ?_
                  rotate_left
                  · (intro w hSw; (try dsimp only at hSw); go_simp; try with_reducible rfl)
                  try simp only [Act.put, List.setIfInBounds_toArray, List.set_cons_zero, List.set_cons_succ, List.getElem_toArray, List.getElem_cons_succ, List.getElem_cons_zero]
                  refine' wpAnyH_take (i := 16) (v := _) rfl (by kernel_rfl) (by kernel_rfl) (by kernel_rfl) (fun _ _ _ h => h) (Or.inl ⟨by rfl, ?_⟩) hHeld ?_
                  rotate_left
                  · (intro w hSw; (try dsimp only at hSw); go_simp; try with_reducible rfl)
                  try simp only [Act.put, List.setIfInBounds_toArray, List.set_cons_zero, List.set_cons_succ, List.getElem_toArray, List.getElem_cons_succ, List.getElem_cons_zero]
                  refine' wpAnyH_take (i := 18) (v := _) rfl (by kernel_rfl) (by kernel_rfl) (by kernel_rfl) (fun _ _ _ h => h) (Or.inl ⟨by rfl, ?_⟩) hHeld ?_
                  rotate_left
                  · (intro w hSw; (try dsimp only at hSw); go_simp; try with_reducible rfl)
                  try simp only [Act.put, List.setIfInBounds_toArray, List.set_cons_zero, List.set_cons_succ, List.getElem_toArray, List.getElem_cons_succ, List.getElem_cons_zero]
                  refine' wpAnyH_take (i := 19) (v := _) rfl (by kernel_rfl) (by kernel_rfl) (by kernel_rfl) (fun _ _ _ h => h) (Or.inl ⟨by rfl, ?_⟩) hHeld ?_
                  rotate_left
                  · (intro w hSw; (try dsimp only at hSw); go_simp; try with_reducible rfl)
                  try simp only [Act.put, List.setIfInBounds_toArray, List.set_cons_zero, List.set_cons_succ, List.getElem_toArray, List.getElem_cons_succ, List.getElem_cons_zero]
                  refine' wpAnyH_take (i := 20) (v := _) rfl (by kernel_rfl) (by kernel_rfl) (by kernel_rfl) (fun _ _ _ h => h) (Or.inl ⟨by rfl, ?_⟩) hHeld ?_
                  rotate_left
                  · (intro w hSw; (try dsimp only at hSw); go_simp; try with_reducible rfl)
                  try simp only [Act.put, List.setIfInBounds_toArray, List.set_cons_zero, List.set_cons_succ, List.getElem_toArray, List.getElem_cons_succ, List.getElem_cons_zero]
                  refine' wpAnyH_take (i := 21) (v := _) rfl (by kernel_rfl) (by kernel_rfl) (by kernel_rfl) (fun _ _ _ h => h) (Or.inl ⟨by rfl, ?_⟩) hHeld ?_
                  rotate_left
                  · (intro w hSw; (try dsimp only at hSw); go_simp; try with_reducible rfl)
                  try simp only [Act.put, List.setIfInBounds_toArray, List.set_cons_zero, List.set_cons_succ, List.getElem_toArray, List.getElem_cons_succ, List.getElem_cons_zero]
                  refine wpAnyH_ready (rs := [17]) (by kernel_rfl) (by simp) ?_
                  refine AllReadyH.cons (o := _) rfl (fun K hK => ?_) AllReadyH.nil
                  try simp only [List.getElem_toArray, List.getElem_cons_succ, List.getElem_cons_zero]
                  go_simp
                  have hH2 := hHeld
                  obtain ⟨cl, kg⟩ := hH2
                  refine ((alls_any TG.out.k1)).mono ?_
                  rintro e w1017 ⟨⟨va, rfl, hva⟩, hg⟩
                  have VA := hid hva.ints; replace HIM := hid (HIM.out.grown hg); replace TG := hid (TG.out.grown hg); clear hva
                  have L17 := hid (show (w1017.cell? ⟨b2, 2, none⟩ = some (.slice pm c2.l.length km)) ∧ (w.grownBy w1017 none) from ⟨hg.cell cl (by simp), gb_trans kg hg (.inl rfl)⟩)
                  clear hHeld hg cl kg
                  go_wp2_with fail
                  refine hK.out _ _ ?_ (fun hHeld => ?_)
                  · exact L17.out
                  clear hK K
                  try dsimp only at hHeld
                  try simp only [Act.put, List.setIfInBounds_toArray, List.set_cons_zero, List.set_cons_succ, List.getElem_toArray, List.getElem_cons_succ, List.getElem_cons_zero]
                  refine wpAnyH_ready (rs := [22]) (by kernel_rfl) (by simp) ?_
                  refine AllReadyH.cons (o := _) rfl (fun K hK => ?_) AllReadyH.nil
                  try simp only [List.getElem_toArray, List.getElem_cons_succ, List.getElem_cons_zero]
                  go_simp
                  have hH2 := hHeld
                  obtain ⟨cl, kg⟩ := hH2
                  refine ((sameInts_yes _ _ _ _ VA.out HIM.out)).mono ?_
                  rintro e w1022 ⟨rfl, hg⟩
                  replace TG := hid (TG.out.grown hg)
                  have L22 := hid (show (w1022.cell? ⟨b2, 2, none⟩ = some (.slice pm c2.l.length km)) ∧ (w.grownBy w1022 none) from ⟨hg.cell cl (by simp), gb_trans kg hg (.inl rfl)⟩)
                  clear hHeld hg cl kg
                  go_wp2_with fail
                  refine hK.out _ _ ?_ (fun hHeld => ?_)
                  · exact L22.out
                  clear hK K
                  try dsimp only at hHeld
                  try simp only [Act.put, List.setIfInBounds_toArray, List.set_cons_zero, List.set_cons_succ, List.getElem_toArray, List.getElem_cons_succ, List.getElem_cons_zero]
                  refine' wpAnyH_take (i := 23) (v := _) rfl (by kernel_rfl) (by kernel_rfl) (by kernel_rfl) (fun _ _ _ h => h) (Or.inl ⟨by rfl, ?_⟩) hHeld ?_
                  rotate_left
                  · (intro w hSw; (try dsimp only at hSw); go_simp; try with_reducible rfl)
                  try simp only [Act.put, List.setIfInBounds_toArray, List.set_cons_zero, List.set_cons_succ, List.getElem_toArray, List.getElem_cons_succ, List.getElem_cons_zero]
                  refine' wpAnyH_take (i := 24) (v := _) rfl (by kernel_rfl) (by kernel_rfl) (by kernel_rfl) (fun _ _ _ h => h) (Or.inl ⟨by rfl, ?_⟩) hHeld ?_
                  rotate_left
                  · (intro w hSw; (try dsimp only at hSw); go_simp; try with_reducible rfl)
                  try simp only [Act.put, List.setIfInBounds_toArray, List.set_cons_zero, List.set_cons_succ, List.getElem_toArray, List.getElem_cons_succ, List.getElem_cons_zero]
                  refine wpAnyH_done (by kernel_rfl) ?_ _
                  obtain ⟨cl, kg⟩ := hHeld
                  try clear kg
                  try clear cl
                  try clear clm
                  go_wp2_with fail
                  go_roundw
                  case rel => exact ⟨k + 1, by have := HLT.out; omega, by go_num, _, TG.out⟩
                  case measure => have := HLT.out; simp [intOf]; omega
                · have jc : ¬ (k : Int) < (nc : Int) := by omega
                  obtain ⟨o, ho⟩ : ∃ o, c2.out 5 = o := ⟨_, rfl⟩
                  have HO := hid ho; clear ho
                  go_wp2_with fail
                  generalize wr = WR at *
                  replace TG := hid TG.out.drew
                  refine wp_region_held_drew (S := (fun w' => (w.grownBy w' none))) (by kernel_rfl) TG.out.gr (fun hHeld => ?_)
                  try dsimp only at hHeld
                  refine' wpAnyH_take (i := 0) (v := _) rfl (by kernel_rfl) (by kernel_rfl) (by kernel_rfl) (fun _ _ _ h => h) (Or.inl ⟨by rfl, ?_⟩) hHeld ?_
                  rotate_left
                  · (intro w hSw; (try dsimp only at hSw); go_simp; try with_reducible rfl)
                  try simp only [Act.put, List.setIfInBounds_toArray, List.set_cons_zero, List.set_cons_succ, List.getElem_toArray, List.getElem_cons_succ, List.getElem_cons_zero]
                  refine' wpAnyH_take (i := 1) (v := _) rfl (by kernel_rfl) (by kernel_rfl) (by kernel_rfl) (fun _ _ _ h => h) (Or.inl ⟨by rfl, ?_⟩) hHeld ?_
                  rotate_left
                  · (intro w hSw; (try dsimp only at hSw); go_simp; try with_reducible rfl)
                  try simp only [Act.put, List.setIfInBounds_toArray, List.set_cons_zero, List.set_cons_succ, List.getElem_toArray, List.getElem_cons_succ, List.getElem_cons_zero]
                  refine' wpAnyH_take (i := 2) (v := _) rfl (by kernel_rfl) (by kernel_rfl) (by kernel_rfl) (fun _ _ _ h => h) (Or.inl ⟨by rfl, ?_⟩) hHeld ?_
                  rotate_left
                  · (intro w hSw; (try dsimp only at hSw); go_simp; try with_reducible rfl)
                  try simp only [Act.put, List.setIfInBounds_toArray, List.set_cons_zero, List.set_cons_succ, List.getElem_toArray, List.getElem_cons_succ, List.getElem_cons_zero]
                  refine' wpAnyH_take (i := 3) (v := _) rfl (by kernel_rfl) (by kernel_rfl) (by kernel_rfl) (fun _ _ _ h => h) (Or.inl ⟨by rfl, ?_⟩) hHeld ?_
                  rotate_left
                  · (intro w hSw; (try dsimp only at hSw); go_simp; try with_reducible rfl)
                  try simp only [Act.put, List.setIfInBounds_toArray, List.set_cons_zero, List.set_cons_succ, List.getElem_toArray, List.getElem_cons_succ, List.getElem_cons_zero]
                  refine' wpAnyH_take (i := 4) (v := _) rfl (by kernel_rfl) (by kernel_rfl) (by kernel_rfl) (fun _ _ _ h => h) (Or.inl ⟨by rfl, ?_⟩) hHeld ?_
                  rotate_left
                  · (intro w hSw; (try dsimp only at hSw); go_simp; try with_reducible rfl)
                  try simp only [Act.put, List.setIfInBounds_toArray, List.set_cons_zero, List.set_cons_succ, List.getElem_toArray, List.getElem_cons_succ, List.getElem_cons_zero]
                  refine' wpAnyH_take (i := 5) (v := _) rfl (by kernel_rfl) (by kernel_rfl) (by kernel_rfl) (fun _ _ _ h => h) (Or.inl ⟨by rfl, ?_⟩) hHeld ?_
                  rotate_left
                  · (intro w hSw; (try dsimp only at hSw); have kg := hSw; have q9 := CM.out _ kg; go_simp; try with_reducible rfl)
                  try simp only [Act.put, List.setIfInBounds_toArray, List.set_cons_zero, List.set_cons_succ, List.getElem_toArray, List.getElem_cons_succ, List.getElem_cons_zero]
                  refine' wpAnyH_take (i := 7) (v := _) rfl (by kernel_rfl) (by kernel_rfl) (by kernel_rfl) (fun _ _ _ h => h) (Or.inl ⟨by rfl, ?_⟩) hHeld ?_
                  rotate_left
                  · (intro w hSw; (try dsimp only at hSw); go_simp; try with_reducible rfl)
                  try simp only [Act.put, List.setIfInBounds_toArray, List.set_cons_zero, List.set_cons_succ, List.getElem_toArray, List.getElem_cons_succ, List.getElem_cons_zero]
                  refine' wpAnyH_take (i := 8) (v := _) rfl (by kernel_rfl) (by kernel_rfl) (by kernel_rfl) (fun _ _ _ h => h) (Or.inl ⟨by rfl, ?_⟩) hHeld ?_
                  rotate_left
                  · (intro w hSw; (try dsimp only at hSw); go_simp; try with_reducible rfl)
                  try simp only [Act.put, List.setIfInBounds_toArray, List.set_cons_zero, List.set_cons_succ, List.getElem_toArray, List.getElem_cons_succ, List.getElem_cons_zero]
                  refine' wpAnyH_take (i := 9) (v := _) rfl (by kernel_rfl) (by kernel_rfl) (by kernel_rfl) (fun _ _ _ h => h) (Or.inl ⟨by rfl, ?_⟩) hHeld ?_
                  rotate_left
                  · (intro w hSw; (try dsimp only at hSw); go_simp; try with_reducible rfl)
                  try simp only [Act.put, List.setIfInBounds_toArray, List.set_cons_zero, List.set_cons_succ, List.getElem_toArray, List.getElem_cons_succ, List.getElem_cons_zero]
                  refine' wpAnyH_take (i := 10) (v := _) rfl (by kernel_rfl) (by kernel_rfl) (by kernel_rfl) (fun _ _ _ h => h) (Or.inl ⟨by rfl, ?_⟩) hHeld ?_
                  rotate_left
                  · (intro w hSw; (try dsimp only at hSw); go_simp; try with_reducible rfl)
                  try simp only [Act.put, List.setIfInBounds_toArray, List.set_cons_zero, List.set_cons_succ, List.getElem_toArray, List.getElem_cons_succ, List.getElem_cons_zero]
                  refine' wpAnyH_take (i := 11) (v := _) rfl (by kernel_rfl) (by kernel_rfl) (by kernel_rfl) (fun _ _ _ h => h) (Or.inl ⟨by rfl, ?_⟩) hHeld ?_
                  rotate_left
                  · (intro w hSw; (try dsimp only at hSw); go_simp; try with_reducible rfl)
                  try simp only [Act.put, List.setIfInBounds_toArray, List.set_cons_zero, List.set_cons_succ, List.getElem_toArray, List.getElem_cons_succ, List.getElem_cons_zero]
                  refine' wpAnyH_take (i := 12) (v := _) rfl (by kernel_rfl) (by kernel_rfl) (by kernel_rfl) (fun _ _ _ h => h) (Or.inl ⟨by rfl, ?_⟩) hHeld ?_
                  rotate_left
                  · (intro w hSw; (try dsimp only at hSw); have kg := hSw; have q9 := CM.out _ kg; go_simp; try with_reducible rfl)
                  try simp only [Act.put, List.setIfInBounds_toArray, List.set_cons_zero, List.set_cons_succ, List.getElem_toArray, List.getElem_cons_succ, List.getElem_cons_zero]
                  refine wpAnyH_ready (rs := [6]) (by kernel_rfl) (by simp) ?_
                  refine AllReadyH.cons (o := _) rfl (fun K hK => ?_) AllReadyH.nil
                  try simp only [List.getElem_toArray, List.getElem_cons_succ, List.getElem_cons_zero]
                  go_simp
                  have hH2 := hHeld
                  have kg := hH2
                  refine ((next_as (n := 5) (x := x) TG.out.k1 HP.out HO.out)).mono ?_
                  rintro e w1006 ⟨rfl, hc, hch⟩
                  replace TG := hid (TG.out.chg1 hc hch); have kg := TG.out.gr; have hg := World.grownBy.refl w1006 none; clear hc hch
                  have L6 := hid (show (w.grownBy w1006 none) from (gb_trans kg hg (.inl rfl)))
                  clear hHeld hg kg
                  go_wp2_with fail
                  refine hK.out _ _ ?_ (fun hHeld => ?_)
                  · exact L6.out
                  clear hK K
                  try dsimp only at hHeld
                  try simp only [Act.put, List.setIfInBounds_toArray, List.set_cons_zero, List.set_cons_succ, List.getElem_toArray, List.getElem_cons_succ, List.getElem_cons_zero]
                  refine wpAnyH_ready (rs := [13]) (by kernel_rfl) (by simp) ?_
                  refine AllReadyH.cons (o := _) rfl (fun K hK => ?_) AllReadyH.nil
                  try simp only [List.getElem_toArray, List.getElem_cons_succ, List.getElem_cons_zero]
                  go_simp
                  have hH2 := hHeld
                  have kg := hH2
                  refine ((rnext_as (n := 5) (x := x) TG.out.k2 HP.out HO.out)).mono ?_
                  rintro e w1013 ⟨rfl, hc, hch⟩
                  replace TG := hid (TG.out.chg2 hc hch); have kg := TG.out.gr; have hg := World.grownBy.refl w1013 none; clear hc hch; obtain ⟨pm, km, hrowm, him, -⟩ := TG.out.k2.row; have clm := at_cell hrowm 2; have HIM := hid him; clear hrowm him
                  have L13 := hid (show (w.grownBy w1013 none) from (gb_trans kg hg (.inl rfl)))
                  have Ncl := hid (show w1013.cell? ⟨b2, 2, none⟩ = some (.slice pm c2.l.length km) from clm)
                  clear hHeld hg kg
                  go_wp2_with fail
                  refine hK.out _ _ ?_ (fun hHeld => ?_)
                  · exact L13.out
                  clear hK K
                  try dsimp only at hHeld
                  try simp only [Act.put, List.setIfInBounds_toArray, List.set_cons_zero, List.set_cons_succ, List.getElem_toArray, List.getElem_cons_succ, List.getElem_cons_zero]
                  refine held_stronger (S' := fun w' => (fun w' => w'.cell? ⟨b2, 2, none⟩ = some (.slice pm c2.l.length km)) w' ∧ ((fun w' => (w.grownBy w' none))) w') (fun _ h => h.2) _ _ _ _ ?_
                  replace hHeld := And.intro Ncl.out hHeld
                  try dsimp only at hHeld
                  refine' wpAnyH_take (i := 14) (v := _) rfl (by kernel_rfl) (by kernel_rfl) (by kernel_rfl) (fun _ _ _ h => h) (Or.inl ⟨by rfl, ?_⟩) hHeld ?_
                  rotate_left
                  · (intro w hSw; (try dsimp only at hSw); go_simp; try with_reducible rfl)
                  try simp only [Act.put, List.setIfInBounds_toArray, List.set_cons_zero, List.set_cons_succ, List.getElem_toArray, List.getElem_cons_succ, List.getElem_cons_zero]
                  refine' wpAnyH_take (i := 15) (v := _) rfl (by kernel_rfl) (by kernel_rfl) (by kernel_rfl) (fun _ _ _ h => h) (Or.inl ⟨by rfl, ?_⟩) hHeld ?_
                  rotate_left
                  · (intro w hSw; (try dsimp only at hSw); go_simp; try with_reducible rfl)
                  try simp only [Act.put, List.setIfInBounds_toArray, List.set_cons_zero, List.set_cons_succ, List.getElem_toArray, List.getElem_cons_succ, List.getElem_cons_zero]
                  refine' wpAnyH_take (i := 16) (v := _) rfl (by kernel_rfl) (by kernel_rfl) (by kernel_rfl) (fun _ _ _ h => h) (Or.inl ⟨by rfl, ?_⟩) hHeld ?_
                  rotate_left
                  · (intro w hSw; (try dsimp only at hSw); go_simp; try with_reducible rfl)
                  try simp only [Act.put, List.setIfInBounds_toArray, List.set_cons_zero, List.set_cons_succ, List.getElem_toArray, List.getElem_cons_succ, List.getElem_cons_zero]
                  refine' wpAnyH_take (i := 18) (v := _) rfl (by kernel_rfl) (by kernel_rfl) (by kernel_rfl) (fun _ _ _ h => h) (Or.inl ⟨by rfl, ?_⟩) hHeld ?_
                  rotate_left
                  · (intro w hSw; (try dsimp only at hSw); go_simp; try with_reducible rfl)
                  try simp only [Act.put, List.setIfInBounds_toArray, List.set_cons_zero, List.set_cons_succ, List.getElem_toArray, List.getElem_cons_succ, List.getElem_cons_zero]
                  refine' wpAnyH_take (i := 19) (v := _) rfl (by kernel_rfl) (by kernel_rfl) (by kernel_rfl) (fun _ _ _ h => h) (Or.inl ⟨by rfl, ?_⟩) hHeld ?_
                  rotate_left
                  · (intro w hSw; (try dsimp only at hSw); go_simp; try with_reducible rfl)
                  try simp only [Act.put, List.setIfInBounds_toArray, List.set_cons_zero, List.set_cons_succ, List.getElem_toArray, List.getElem_cons_succ, List.getElem_cons_zero]
                  refine' wpAnyH_take (i := 20) (v := _) rfl (by kernel_rfl) (by kernel_rfl) (by kernel_rfl) (fun _ _ _ h => h) (Or.inl ⟨by rfl, ?_⟩) hHeld ?_
                  rotate_left
                  · (intro w hSw; (try dsimp only at hSw); go_simp; try with_reducible rfl)
                  try simp only [Act.put, List.setIfInBounds_toArray, List.set_cons_zero, List.set_cons_succ, List.getElem_toArray, List.getElem_cons_succ, List.getElem_cons_zero]
                  refine' wpAnyH_take (i := 21) (v := _) rfl (by kernel_rfl) (by kernel_rfl) (by kernel_rfl) (fun _ _ _ h => h) (Or.inl ⟨by rfl, ?_⟩) hHeld ?_
                  rotate_left
                  · (intro w hSw; (try dsimp only at hSw); go_simp; try with_reducible rfl)
                  try simp only [Act.put, List.setIfInBounds_toArray, List.set_cons_zero, List.set_cons_succ, List.getElem_toArray, List.getElem_cons_succ, List.getElem_cons_zero]
                  refine wpAnyH_ready (rs := [17]) (by kernel_rfl) (by simp) ?_
                  refine AllReadyH.cons (o := _) rfl (fun K hK => ?_) AllReadyH.nil
                  try simp only [List.getElem_toArray, List.getElem_cons_succ, List.getElem_cons_zero]
                  go_simp
                  have hH2 := hHeld
                  obtain ⟨cl, kg⟩ := hH2
                  refine ((alls_any TG.out.k1)).mono ?_
                  rintro e w1017 ⟨⟨va, rfl, hva⟩, hg⟩
                  have VA := hid hva.ints; replace HIM := hid (HIM.out.grown hg); replace TG := hid (TG.out.grown hg); clear hva
                  have L17 := hid (show (w1017.cell? ⟨b2, 2, none⟩ = some (.slice pm c2.l.length km)) ∧ (w.grownBy w1017 none) from ⟨hg.cell cl (by simp), gb_trans kg hg (.inl rfl)⟩)
                  clear hHeld hg cl kg
                  go_wp2_with fail
                  refine hK.out _ _ ?_ (fun hHeld => ?_)
                  · exact L17.out
                  clear hK K
                  try dsimp only at hHeld
                  try simp only [Act.put, List.setIfInBounds_toArray, List.set_cons_zero, List.set_cons_succ, List.getElem_toArray, List.getElem_cons_succ, List.getElem_cons_zero]
                  refine wpAnyH_ready (rs := [22]) (by kernel_rfl) (by simp) ?_
                  refine AllReadyH.cons (o := _) rfl (fun K hK => ?_) AllReadyH.nil
                  try simp only [List.getElem_toArray, List.getElem_cons_succ, List.getElem_cons_zero]
                  go_simp
                  have hH2 := hHeld
                  obtain ⟨cl, kg⟩ := hH2
                  refine ((sameInts_yes _ _ _ _ VA.out HIM.out)).mono ?_
                  rintro e w1022 ⟨rfl, hg⟩
                  replace TG := hid (TG.out.grown hg)
                  have L22 := hid (show (w1022.cell? ⟨b2, 2, none⟩ = some (.slice pm c2.l.length km)) ∧ (w.grownBy w1022 none) from ⟨hg.cell cl (by simp), gb_trans kg hg (.inl rfl)⟩)
                  clear hHeld hg cl kg
                  go_wp2_with fail
                  refine hK.out _ _ ?_ (fun hHeld => ?_)
                  · exact L22.out
                  clear hK K
                  try dsimp only at hHeld
                  try simp only [Act.put, List.setIfInBounds_toArray, List.set_cons_zero, List.set_cons_succ, List.getElem_toArray, List.getElem_cons_succ, List.getElem_cons_zero]
                  refine' wpAnyH_take (i := 23) (v := _) rfl (by kernel_rfl) (by kernel_rfl) (by kernel_rfl) (fun _ _ _ h => h) (Or.inl ⟨by rfl, ?_⟩) hHeld ?_
                  rotate_left
                  · (intro w hSw; (try dsimp only at hSw); go_simp; try with_reducible rfl)
                  try simp only [Act.put, List.setIfInBounds_toArray, List.set_cons_zero, List.set_cons_succ, List.getElem_toArray, List.getElem_cons_succ, List.getElem_cons_zero]
                  refine' wpAnyH_take (i := 24) (v := _) rfl (by kernel_rfl) (by kernel_rfl) (by kernel_rfl) (fun _ _ _ h => h) (Or.inl ⟨by rfl, ?_⟩) hHeld ?_
                  rotate_left
                  · (intro w hSw; (try dsimp only at hSw); go_simp; try with_reducible rfl)
                  try simp only [Act.put, List.setIfInBounds_toArray, List.set_cons_zero, List.set_cons_succ, List.getElem_toArray, List.getElem_cons_succ, List.getElem_cons_zero]
                  refine wpAnyH_done (by kernel_rfl) ?_ _
                  obtain ⟨cl, kg⟩ := hHeld
                  try clear kg
                  try clear cl
                  try clear clm
                  go_wp2_with fail
                  go_roundw
                  case rel => exact ⟨k + 1, by have := HLT.out; omega, by go_num, _, TG.out⟩
                  case measure => have := HLT.out; simp [intOf]; omega
              · obtain rfl : k = n := by omega
                go_wp2_with fail
                refine (told_any _).mono ?_
                rintro e w5 ⟨rfl, hg⟩
                replace TG := hid (TG.out.grown hg); clear hg
                go_wp2_with fail
                go_ret
                exact ⟨rfl, TG.out.gr⟩
          · exact absurd (HMS.out.symm.trans hm) (by simp)
        · replace K := hid (K.out.grown hg); clear hg
          have HMS := hid hm; clear hm
          go_wp2_with fail
          refine (rset_any _ ls K.out.k2 (Ins.out.grown K.out.gr) H70.out).mono ?_
          rintro e w4 (⟨hm, rfl, hc, hg⟩ | ⟨hm, rfl, hg⟩)
          · exact absurd (HMS.out.symm.trans hm) (by simp)
          · replace K := hid (K.out.grown hg); clear hg hm
            go_wp2_with fail
            go_loopw [13, 14] (fun i j wr => ∃ k : Nat, k ≤ n ∧ i = .int .i64 (k : Int) ∧ ∃ a : Ca, Cp w b1 a b2 a wr) (fun i _ _ => n - (intOf i).toNat)
            case atStart => exact ⟨0, Nat.zero_le _, rfl, _, K.out⟩
            case round =>
              obtain ⟨k, hk, rfl, a, hK⟩ := hrel
              have TG := hid hK; clear hK
              by_cases hlt : k < n
              · have HLT := hid hlt
                have hkl : k < lw.length := by rw [Hn.out]; exact hlt
                obtain ⟨ab, ao, rfl, -, hcc, -⟩ := (In.out.grown TG.out.gr).cell hkl
                have hx0 := List.getElem?_eq_getElem hkl
                generalize lw[k] = x at *
                have CM := hid (fun (W : World) (hg : w.grownBy W none) => (In.out.grown hg).cell' hx0)
                clear hx0 hkl
                have j1 : (k : Int) < (n : Int) := by omega
                obtain ⟨c2, hc2⟩ : ∃ c2, a.push x = c2 := ⟨_, rfl⟩
                have HP := hid hc2; clear hc2
                clear hk hlt
                by_cases hc : k < nc
                · have jc : (k : Int) < (nc : Int) := by omega
                  have hkc : k < lc.length := by rw [Hnc.out]; exact hc
                  obtain ⟨cb, co, rfl, -, hcc2, -⟩ := (Inc.out.grown TG.out.gr).cell hkc
                  have hxc := List.getElem?_eq_getElem hkc
                  generalize lc[k] = N at *
                  have hqc := (Inc.out.grown TG.out.gr).cell' hxc
                  clear hxc hkc
                  obtain ⟨o, ho⟩ : ∃ o, c2.out N = o := ⟨_, rfl⟩
                  have HO := hid ho; clear ho
                  go_wp2_with fail
                  generalize wr = WR at *
                  replace TG := hid TG.out.drew
                  clear hqc
                  refine wp_region_held_drew (S := (fun w' => (w.grownBy w' none))) (by kernel_rfl) TG.out.gr (fun hHeld => ?_)
                  try dsimp only at hHeld
                  refine' wpAnyH_take (i := 0) (v := _) rfl (by kernel_rfl) (by kernel_rfl) (by kernel_rfl) (fun _ _ _ h => h) (Or.inl ⟨by rfl, ?_⟩) hHeld ?_
                  rotate_left
                  · (intro w hSw; (try dsimp only at hSw); go_simp; try with_reducible rfl)
                  try simp only [Act.put, List.setIfInBounds_toArray, List.set_cons_zero, List.set_cons_succ, List.getElem_toArray, List.getElem_cons_succ, List.getElem_cons_zero]
                  refine' wpAnyH_take (i := 1) (v := _) rfl (by kernel_rfl) (by kernel_rfl) (by kernel_rfl) (fun _ _ _ h => h) (Or.inl ⟨by rfl, ?_⟩) hHeld ?_
                  rotate_left
                  · (intro w hSw; (try dsimp only at hSw); go_simp; try with_reducible rfl)
                  try simp only [Act.put, List.setIfInBounds_toArray, List.set_cons_zero, List.set_cons_succ, List.getElem_toArray, List.getElem_cons_succ, List.getElem_cons_zero]
                  refine' wpAnyH_take (i := 2) (v := _) rfl (by kernel_rfl) (by kernel_rfl) (by kernel_rfl) (fun _ _ _ h => h) (Or.inl ⟨by rfl, ?_⟩) hHeld ?_
                  rotate_left
                  · (intro w hSw; (try dsimp only at hSw); go_simp; try with_reducible rfl)
                  try simp only [Act.put, List.setIfInBounds_toArray, List.set_cons_zero, List.set_cons_succ, List.getElem_toArray, List.getElem_cons_succ, List.getElem_cons_zero]
                  refine' wpAnyH_take (i := 3) (v := _) rfl (by kernel_rfl) (by kernel_rfl) (by kernel_rfl) (fun _ _ _ h => h) (Or.inl ⟨by rfl, ?_⟩) hHeld ?_
                  rotate_left
                  · (intro w hSw; (try dsimp only at hSw); go_simp; try with_reducible rfl)
                  try simp only [Act.put, List.setIfInBounds_toArray, List.set_cons_zero, List.set_cons_succ, List.getElem_toArray, List.getElem_cons_succ, List.getElem_cons_zero]
                  refine' wpAnyH_take (i := 4) (v := _) rfl (by kernel_rfl) (by kernel_rfl) (by kernel_rfl) (fun _ _ _ h => h) (Or.inl ⟨by rfl, ?_⟩) hHeld ?_
                  rotate_left
                  · (intro w hSw; (try dsimp only at hSw); go_simp; try with_reducible rfl)
                  try simp only [Act.put, List.setIfInBounds_toArray, List.set_cons_zero, List.set_cons_succ, List.getElem_toArray, List.getElem_cons_succ, List.getElem_cons_zero]
                  refine' wpAnyH_take (i := 5) (v := _) rfl (by kernel_rfl) (by kernel_rfl) (by kernel_rfl) (fun _ _ _ h => h) (Or.inl ⟨by rfl, ?_⟩) hHeld ?_
                  rotate_left
                  · (intro w hSw; (try dsimp only at hSw); have kg := hSw; have q9 := CM.out _ kg; go_simp; try with_reducible rfl)
                  try simp only [Act.put, List.setIfInBounds_toArray, List.set_cons_zero, List.set_cons_succ, List.getElem_toArray, List.getElem_cons_succ, List.getElem_cons_zero]
                  refine' wpAnyH_take (i := 7) (v := _) rfl (by kernel_rfl) (by kernel_rfl) (by kernel_rfl) (fun _ _ _ h => h) (Or.inl ⟨by rfl, ?_⟩) hHeld ?_
                  rotate_left
                  · (intro w hSw; (try dsimp only at hSw); go_simp; try with_reducible rfl)
                  try simp only [Act.put, List.setIfInBounds_toArray, List.set_cons_zero, List.set_cons_succ, List.getElem_toArray, List.getElem_cons_succ, List.getElem_cons_zero]
                  refine' wpAnyH_take (i := 8) (v := _) rfl (by kernel_rfl) (by kernel_rfl) (by kernel_rfl) (fun _ _ _ h => h) (Or.inl ⟨by rfl, ?_⟩) hHeld ?_
                  rotate_left
                  · (intro w hSw; (try dsimp only at hSw); go_simp; try with_reducible rfl)
                  try simp only [Act.put, List.setIfInBounds_toArray, List.set_cons_zero, List.set_cons_succ, List.getElem_toArray, List.getElem_cons_succ, List.getElem_cons_zero]
                  refine' wpAnyH_take (i := 9) (v := _) rfl (by kernel_rfl) (by kernel_rfl) (by kernel_rfl) (fun _ _ _ h => h) (Or.inl ⟨by rfl, ?_⟩) hHeld ?_
                  rotate_left
                  · (intro w hSw; (try dsimp only at hSw); go_simp; try with_reducible rfl)
                  try simp only [Act.put, List.setIfInBounds_toArray, List.set_cons_zero, List.set_cons_succ, List.getElem_toArray, List.getElem_cons_succ, List.getElem_cons_zero]
                  refine' wpAnyH_take (i := 10) (v := _) rfl (by kernel_rfl) (by kernel_rfl) (by kernel_rfl) (fun _ _ _ h => h) (Or.inl ⟨by rfl, ?_⟩) hHeld ?_
                  rotate_left
                  · (intro w hSw; (try dsimp only at hSw); go_simp; try with_reducible rfl)
                  try simp only [Act.put, List.setIfInBounds_toArray, List.set_cons_zero, List.set_cons_succ, List.getElem_toArray, List.getElem_cons_succ, List.getElem_cons_zero]
                  refine' wpAnyH_take (i := 11) (v := _) rfl (by kernel_rfl) (by kernel_rfl) (by kernel_rfl) (fun _ _ _ h => h) (Or.inl ⟨by rfl, ?_⟩) hHeld ?_
                  rotate_left
                  · (intro w hSw; (try dsimp only at hSw); go_simp; try with_reducible rfl)
                  try simp only [Act.put, List.setIfInBounds_toArray, List.set_cons_zero, List.set_cons_succ, List.getElem_toArray, List.getElem_cons_succ, List.getElem_cons_zero]
                  refine' wpAnyH_take (i := 12) (v := _) rfl (by kernel_rfl) (by kernel_rfl) (by kernel_rfl) (fun _ _ _ h => h) (Or.inl ⟨by rfl, ?_⟩) hHeld ?_
                  rotate_left
                  · (intro w hSw; (try dsimp only at hSw); have kg := hSw; have q9 := CM.out _ kg; go_simp; try with_reducible rfl)
                  try simp only [Act.put, List.setIfInBounds_toArray, List.set_cons_zero, List.set_cons_succ, List.getElem_toArray, List.getElem_cons_succ, List.getElem_cons_zero]
                  refine wpAnyH_ready (rs := [6]) (by kernel_rfl) (by simp) ?_
                  refine AllReadyH.cons (o := _) rfl (fun K hK => ?_) AllReadyH.nil
                  try simp only [List.getElem_toArray, List.getElem_cons_succ, List.getElem_cons_zero]
                  go_simp
                  have hH2 := hHeld
                  have kg := hH2
                  refine ((next_as (n := N) (x := x) TG.out.k1 HP.out HO.out)).mono ?_
                  rintro e w1006 ⟨rfl, hc, hch⟩
                  replace TG := hid (TG.out.chg1 hc hch); have kg := TG.out.gr; have hg := World.grownBy.refl w1006 none; clear hc hch
                  have L6 := hid (show (w.grownBy w1006 none) from (gb_trans kg hg (.inl rfl)))
                  clear hHeld hg kg
                  go_wp2_with fail
                  refine hK.out _ _ ?_ (fun hHeld => ?_)
                  · exact L6.out
                  clear hK K
                  try dsimp only at hHeld
                  try simp only [Act.put, List.setIfInBounds_toArray, List.set_cons_zero, List.set_cons_succ, List.getElem_toArray, List.getElem_cons_succ, List.getElem_cons_zero]
                  refine wpAnyH_ready (rs := [13]) (by kernel_rfl) (by simp) ?_
                  refine AllReadyH.cons (o := _) rfl (fun K hK => ?_) AllReadyH.nil
                  try simp only [List.getElem_toArray, List.getElem_cons_succ, List.getElem_cons_zero]
                  go_simp
                  have hH2 := hHeld
                  have kg := hH2
                  refine ((rnext_as (n := N) (x := x) TG.out.k2 HP.out HO.out)).mono ?_
                  rintro e w1013 ⟨rfl, hc, hch⟩
                  replace TG := hid (TG.out.chg2 hc hch); have kg := TG.out.gr; have hg := World.grownBy.refl w1013 none; clear hc hch; obtain ⟨pm, km, hrowm, him, -⟩ := TG.out.k2.row; have clm := at_cell hrowm 2; have HIM := hid him; clear hrowm him
                  have L13 := hid (show (w.grownBy w1013 none) from (gb_trans kg hg (.inl rfl)))
                  have Ncl := hid (show w1013.cell? ⟨b2, 2, none⟩ = some (.slice pm c2.l.length km) from clm)
                  clear hHeld hg kg
                  go_wp2_with fail
                  refine hK.out _ _ ?_ (fun hHeld => ?_)
                  · exact L13.out
                  clear hK K
                  try dsimp only at hHeld
                  try simp only [Act.put, List.setIfInBounds_toArray, List.set_cons_zero, List.set_cons_succ, List.getElem_toArray, List.getElem_cons_succ, List.getElem_cons_zero]
                  refine held_stronger (S' := fun w' => (fun w' => w'.cell? ⟨b2, 2, none⟩ = some (.slice pm c2.l.length km)) w' ∧ ((fun w' => (w.grownBy w' none))) w') (fun _ h => h.2) _ _ _ _ ?_
                  replace hHeld := And.intro Ncl.out hHeld
                  try dsimp only at hHeld
                  refine' wpAnyH_take (i := 14) (v := _) rfl (by kernel_rfl) (by kernel_rfl) (by kernel_rfl) (fun _ _ _ h => h) (Or.inl ⟨by rfl, ?_⟩) hHeld ?_
                  rotate_left
                  · (intro w hSw; (try dsimp only at hSw); go_simp; try with_reducible rfl)
                  try simp only [Act.put, List.setIfInBounds_toArray, List.set_cons_zero, List.set_cons_succ, List.getElem_toArray, List.getElem_cons_succ, List.getElem_cons_zero]
                  refine' wpAnyH_take (i := 15) (v := _) rfl (by kernel_rfl) (by kernel_rfl) (by kernel_rfl) (fun _ _ _ h => h) (Or.inl ⟨by rfl, ?_⟩) hHeld ?_
                  rotate_left
                  · (intro w hSw; (try dsimp only at hSw); go_simp; try with_reducible rfl)
                  try simp only [Act.put, List.setIfInBounds_toArray, List.set_cons_zero, List.set_cons_succ, List.getElem_toArray, List.getElem_cons_succ, List.getElem_cons_zero]
                  refine' wpAnyH_take (i := 16) (v := _) rfl (by kernel_rfl) (by kernel_rfl) (by kernel_rfl) (fun _ _ _ h => h) (Or.inl ⟨by rfl, ?_⟩) hHeld ?_
                  rotate_left
                  · (intro w hSw; (try dsimp only at hSw); go_simp; try with_reducible rfl)
                  try simp only [Act.put, List.setIfInBounds_toArray, List.set_cons_zero, List.set_cons_succ, List.getElem_toArray, List.getElem_cons_succ, List.getElem_cons_zero]
                  refine' wpAnyH_take (i := 18) (v := _) rfl (by kernel_rfl) (by kernel_rfl) (by kernel_rfl) (fun _ _ _ h => h) (Or.inl ⟨by rfl, ?_⟩) hHeld ?_
                  rotate_left
                  · (intro w hSw; (try dsimp only at hSw); go_simp; try with_reducible rfl)
                  try simp only [Act.put, List.setIfInBounds_toArray, List.set_cons_zero, List.set_cons_succ, List.getElem_toArray, List.getElem_cons_succ, List.getElem_cons_zero]
                  refine' wpAnyH_take (i := 19) (v := _) rfl (by kernel_rfl) (by kernel_rfl) (by kernel_rfl) (fun _ _ _ h => h) (Or.inl ⟨by rfl, ?_⟩) hHeld ?_
                  rotate_left
                  · (intro w hSw; (try dsimp only at hSw); go_simp; try with_reducible rfl)
                  try simp only [Act.put, List.setIfInBounds_toArray, List.set_cons_zero, List.set_cons_succ, List.getElem_toArray, List.getElem_cons_succ, List.getElem_cons_zero]
                  refine' wpAnyH_take (i := 20) (v := _) rfl (by kernel_rfl) (by kernel_rfl) (by kernel_rfl) (fun _ _ _ h => h) (Or.inl ⟨by rfl, ?_⟩) hHeld ?_
                  rotate_left
                  · (intro w hSw; (try dsimp only at hSw); go_simp; try with_reducible rfl)
                  try simp only [Act.put, List.setIfInBounds_toArray, List.set_cons_zero, List.set_cons_succ, List.getElem_toArray, List.getElem_cons_succ, List.getElem_cons_zero]
                  refine' wpAnyH_take (i := 21) (v := _) rfl (by kernel_rfl) (by kernel_rfl) (by kernel_rfl) (fun _ _ _ h => h) (Or.inl ⟨by rfl, ?_⟩) hHeld ?_
                  rotate_left
                  · (intro w hSw; (try dsimp only at hSw); go_simp; try with_reducible rfl)
                  try simp only [Act.put, List.setIfInBounds_toArray, List.set_cons_zero, List.set_cons_succ, List.getElem_toArray, List.getElem_cons_succ, List.getElem_cons_zero]
                  refine wpAnyH_ready (rs := [17]) (by kernel_rfl) (by simp) ?_
                  refine AllReadyH.cons (o := _) rfl (fun K hK => ?_) AllReadyH.nil
                  try simp only [List.getElem_toArray, List.getElem_cons_succ, List.getElem_cons_zero]
                  go_simp
                  have hH2 := hHeld
                  obtain ⟨cl, kg⟩ := hH2
                  refine ((alls_any TG.out.k1)).mono ?_
                  rintro e w1017 ⟨⟨va, rfl, hva⟩, hg⟩
                  have VA := hid hva.ints; replace HIM := hid (HIM.out.grown hg); replace TG := hid (TG.out.grown hg); clear hva
                  have L17 := hid (show (w1017.cell? ⟨b2, 2, none⟩ = some (.slice pm c2.l.length km)) ∧ (w.grownBy w1017 none) from ⟨hg.cell cl (by simp), gb_trans kg hg (.inl rfl)⟩)
                  clear hHeld hg cl kg
                  go_wp2_with fail
                  refine hK.out _ _ ?_ (fun hHeld => ?_)
                  · exact L17.out
                  clear hK K
                  try dsimp only at hHeld
                  try simp only [Act.put, List.setIfInBounds_toArray, List.set_cons_zero, List.set_cons_succ, List.getElem_toArray, List.getElem_cons_succ, List.getElem_cons_zero]
                  refine wpAnyH_ready (rs := [22]) (by kernel_rfl) (by simp) ?_
                  refine AllReadyH.cons (o := _) rfl (fun K hK => ?_) AllReadyH.nil
                  try simp only [List.getElem_toArray, List.getElem_cons_succ, List.getElem_cons_zero]
                  go_simp
                  have hH2 := hHeld
                  obtain ⟨cl, kg⟩ := hH2
                  refine ((sameInts_yes _ _ _ _ VA.out HIM.out)).mono ?_
                  rintro e w1022 ⟨rfl, hg⟩
                  replace TG := hid (TG.out.grown hg)
                  have L22 := hid (show (w1022.cell? ⟨b2, 2, none⟩ = some (.slice pm c2.l.length km)) ∧ (w.grownBy w1022 none) from ⟨hg.cell cl (by simp), gb_trans kg hg (.inl rfl)⟩)
                  clear hHeld hg cl kg
                  go_wp2_with fail
                  refine hK.out _ _ ?_ (fun hHeld => ?_)
                  · exact L22.out
                  clear hK K
                  try dsimp only at hHeld
                  try simp only [Act.put, List.setIfInBounds_toArray, List.set_cons_zero, List.set_cons_succ, List.getElem_toArray, List.getElem_cons_succ, List.getElem_cons_zero]
                  refine' wpAnyH_take (i := 23) (v := _) rfl (by kernel_rfl) (by kernel_rfl) (by kernel_rfl) (fun _ _ _ h => h) (Or.inl ⟨by rfl, ?_⟩) hHeld ?_
                  rotate_left
                  · (intro w hSw; (try dsimp only at hSw); go_simp; try with_reducible rfl)
                  try simp only [Act.put, List.setIfInBounds_toArray, List.set_cons_zero, List.set_cons_succ, List.getElem_toArray, List.getElem_cons_succ, List.getElem_cons_zero]
                  refine' wpAnyH_take (i := 24) (v := _) rfl (by kernel_rfl) (by kernel_rfl) (by kernel_rfl) (fun _ _ _ h => h) (Or.inl ⟨by rfl, ?_⟩) hHeld ?_
                  rotate_left
                  · (intro w hSw; (try dsimp only at hSw); go_simp; try with_reducible rfl)
                  try simp only [Act.put, List.setIfInBounds_toArray, List.set_cons_zero, List.set_cons_succ, List.getElem_toArray, List.getElem_cons_succ, List.getElem_cons_zero]
                  refine wpAnyH_done (by kernel_rfl) ?_ _
                  obtain ⟨cl, kg⟩ := hHeld
                  try clear kg
                  try clear cl
                  try clear clm
                  go_wp2_with fail
                  go_roundw
                  case rel => exact ⟨k + 1, by have := HLT.out; omega, by go_num, _, TG.out⟩
                  case measure => have := HLT.out; simp [intOf]; omega
                · have jc : ¬ (k : Int) < (nc : Int) := by omega
                  obtain ⟨o, ho⟩ : ∃ o, c2.out 5 = o := ⟨_, rfl⟩
                  have HO := hid ho; clear ho
                  go_wp2_with fail
                  generalize wr = WR at *
                  replace TG := hid TG.out.drew
                  refine wp_region_held_drew (S := (fun w' => (w.grownBy w' none))) (by kernel_rfl) TG.out.gr (fun hHeld => ?_)
                  try dsimp only at hHeld
                  refine' wpAnyH_take (i := 0) (v := _) rfl (by kernel_rfl) (by kernel_rfl) (by kernel_rfl) (fun _ _ _ h => h) (Or.inl ⟨by rfl, ?_⟩) hHeld ?_
                  rotate_left
                  · (intro w hSw; (try dsimp only at hSw); go_simp; try with_reducible rfl)
                  try simp only [Act.put, List.setIfInBounds_toArray, List.set_cons_zero, List.set_cons_succ, List.getElem_toArray, List.getElem_cons_succ, List.getElem_cons_zero]
                  refine' wpAnyH_take (i := 1) (v := _) rfl (by kernel_rfl) (by kernel_rfl) (by kernel_rfl) (fun _ _ _ h => h) (Or.inl ⟨by rfl, ?_⟩) hHeld ?_
                  rotate_left
                  · (intro w hSw; (try dsimp only at hSw); go_simp; try with_reducible rfl)
                  try simp only [Act.put, List.setIfInBounds_toArray, List.set_cons_zero, List.set_cons_succ, List.getElem_toArray, List.getElem_cons_succ, List.getElem_cons_zero]
                  refine' wpAnyH_take (i := 2) (v := _) rfl (by kernel_rfl) (by kernel_rfl) (by kernel_rfl) (fun _ _ _ h => h) (Or.inl ⟨by rfl, ?_⟩) hHeld ?_
                  rotate_left
                  · (intro w hSw; (try dsimp only at hSw); go_simp; try with_reducible rfl)
                  try simp only [Act.put, List.setIfInBounds_toArray, List.set_cons_zero, List.set_cons_succ, List.getElem_toArray, List.getElem_cons_succ, List.getElem_cons_zero]
                  refine' wpAnyH_take (i := 3) (v := _) rfl (by kernel_rfl) (by kernel_rfl) (by kernel_rfl) (fun _ _ _ h => h) (Or.inl ⟨by rfl, ?_⟩) hHeld ?_
                  rotate_left
                  · (intro w hSw; (try dsimp only at hSw); go_simp; try with_reducible rfl)
                  try simp only [Act.put, List.setIfInBounds_toArray, List.set_cons_zero, List.set_cons_succ, List.getElem_toArray, List.getElem_cons_succ, List.getElem_cons_zero]
                  refine' wpAnyH_take (i := 4) (v := _) rfl (by kernel_rfl) (by kernel_rfl) (by kernel_rfl) (fun _ _ _ h => h) (Or.inl ⟨by rfl, ?_⟩) hHeld ?_
                  rotate_left
                  · (intro w hSw; (try dsimp only at hSw); go_simp; try with_reducible rfl)
                  try simp only [Act.put, List.setIfInBounds_toArray, List.set_cons_zero, List.set_cons_succ, List.getElem_toArray, List.getElem_cons_succ, List.getElem_cons_zero]
                  refine' wpAnyH_take (i := 5) (v := _) rfl (by kernel_rfl) (by kernel_rfl) (by kernel_rfl) (fun _ _ _ h => h) (Or.inl ⟨by rfl, ?_⟩) hHeld ?_
                  rotate_left
                  · (intro w hSw; (try dsimp only at hSw); have kg := hSw; have q9 := CM.out _ kg; go_simp; try with_reducible rfl)
                  try simp only [Act.put, List.setIfInBounds_toArray, List.set_cons_zero, List.set_cons_succ, List.getElem_toArray, List.getElem_cons_succ, List.getElem_cons_zero]
                  refine' wpAnyH_take (i := 7) (v := _) rfl (by kernel_rfl) (by kernel_rfl) (by kernel_rfl) (fun _ _ _ h => h) (Or.inl ⟨by rfl, ?_⟩) hHeld ?_
                  rotate_left
                  · (intro w hSw; (try dsimp only at hSw); go_simp; try with_reducible rfl)
                  try simp only [Act.put, List.setIfInBounds_toArray, List.set_cons_zero, List.set_cons_succ, List.getElem_toArray, List.getElem_cons_succ, List.getElem_cons_zero]
                  refine' wpAnyH_take (i := 8) (v := _) rfl (by kernel_rfl) (by kernel_rfl) (by kernel_rfl) (fun _ _ _ h => h) (Or.inl ⟨by rfl, ?_⟩) hHeld ?_
                  rotate_left
                  · (intro w hSw; (try dsimp only at hSw); go_simp; try with_reducible rfl)
                  try simp only [Act.put, List.setIfInBounds_toArray, List.set_cons_zero, List.set_cons_succ, List.getElem_toArray, List.getElem_cons_succ, List.getElem_cons_zero]
                  refine' wpAnyH_take (i := 9) (v := _) rfl (by kernel_rfl) (by kernel_rfl) (by kernel_rfl) (fun _ _ _ h => h) (Or.inl ⟨by rfl, ?_⟩) hHeld ?_
                  rotate_left
                  · (intro w hSw; (try dsimp only at hSw); go_simp; try with_reducible rfl)
                  try simp only [Act.put, List.setIfInBounds_toArray, List.set_cons_zero, List.set_cons_succ, List.getElem_toArray, List.getElem_cons_succ, List.getElem_cons_zero]
                  refine' wpAnyH_take (i := 10) (v := _) rfl (by kernel_rfl) (by kernel_rfl) (by kernel_rfl) (fun _ _ _ h => h) (Or.inl ⟨by rfl, ?_⟩) hHeld ?_
                  rotate_left
                  · (intro w hSw; (try dsimp only at hSw); go_simp; try with_reducible rfl)
                  try simp only [Act.put, List.setIfInBounds_toArray, List.set_cons_zero, List.set_cons_succ, List.getElem_toArray, List.getElem_cons_succ, List.getElem_cons_zero]
                  refine' wpAnyH_take (i := 11) (v := _) rfl (by kernel_rfl) (by kernel_rfl) (by kernel_rfl) (fun _ _ _ h => h) (Or.inl ⟨by rfl, ?_⟩) hHeld ?_
                  rotate_left
                  · (intro w hSw; (try dsimp only at hSw); go_simp; try with_reducible rfl)
                  try simp only [Act.put, List.setIfInBounds_toArray, List.set_cons_zero, List.set_cons_succ, List.getElem_toArray, List.getElem_cons_succ, List.getElem_cons_zero]
                  refine' wpAnyH_take (i := 12) (v := _) rfl (by kernel_rfl) (by kernel_rfl) (by kernel_rfl) (fun _ _ _ h => h) (Or.inl ⟨by rfl, ?_⟩) hHeld ?_
                  rotate_left
                  · (intro w hSw; (try dsimp only at hSw); have kg := hSw; have q9 := CM.out _ kg; go_simp; try with_reducible rfl)
                  try simp only [Act.put, List.setIfInBounds_toArray, List.set_cons_zero, List.set_cons_succ, List.getElem_toArray, List.getElem_cons_succ, List.getElem_cons_zero]
                  refine wpAnyH_ready (rs := [6]) (by kernel_rfl) (by simp) ?_
                  refine AllReadyH.cons (o := _) rfl (fun K hK => ?_) AllReadyH.nil
                  try simp only [List.getElem_toArray, List.getElem_cons_succ, List.getElem_cons_zero]
                  go_simp
                  have hH2 := hHeld
                  have kg := hH2
                  refine ((next_as (n := 5) (x := x) TG.out.k1 HP.out HO.out)).mono ?_
                  rintro e w1006 ⟨rfl, hc, hch⟩
                  replace TG := hid (TG.out.chg1 hc hch); have kg := TG.out.gr; have hg := World.grownBy.refl w1006 none; clear hc hch
                  have L6 := hid (show (w.grownBy w1006 none) from (gb_trans kg hg (.inl rfl)))
                  clear hHeld hg kg
                  go_wp2_with fail
                  refine hK.out _ _ ?_ (fun hHeld => ?_)
                  · exact L6.out
                  clear hK K
                  try dsimp only at hHeld
                  try simp only [Act.put, List.setIfInBounds_toArray, List.set_cons_zero, List.set_cons_succ, List.getElem_toArray, List.getElem_cons_succ, List.getElem_cons_zero]
                  refine wpAnyH_ready (rs := [13]) (by kernel_rfl) (by simp) ?_
                  refine AllReadyH.cons (o := _) rfl (fun K hK => ?_) AllReadyH.nil
                  try simp only [List.getElem_toArray, List.getElem_cons_succ, List.getElem_cons_zero]
                  go_simp
                  have hH2 := hHeld
                  have kg := hH2
                  refine ((rnext_as (n := 5) (x := x) TG.out.k2 HP.out HO.out)).mono ?_
                  rintro e w1013 ⟨rfl, hc, hch⟩
                  replace TG := hid (TG.out.chg2 hc hch); have kg := TG.out.gr; have hg := World.grownBy.refl w1013 none; clear hc hch; obtain ⟨pm, km, hrowm, him, -⟩ := TG.out.k2.row; have clm := at_cell hrowm 2; have HIM := hid him; clear hrowm him
                  have L13 := hid (show (w.grownBy w1013 none) from (gb_trans kg hg (.inl rfl)))
                  have Ncl := hid (show w1013.cell? ⟨b2, 2, none⟩ = some (.slice pm c2.l.length km) from clm)
                  clear hHeld hg kg
                  go_wp2_with fail
                  refine hK.out _ _ ?_ (fun hHeld => ?_)
                  · exact L13.out
                  clear hK K
                  try dsimp only at hHeld
                  try simp only [Act.put, List.setIfInBounds_toArray, List.set_cons_zero, List.set_cons_succ, List.getElem_toArray, List.getElem_cons_succ, List.getElem_cons_zero]
                  refine held_stronger (S' := fun w' => (fun w' => w'.cell? ⟨b2, 2, none⟩ = some (.slice pm c2.l.length km)) w' ∧ ((fun w' => (w.grownBy w' none))) w') (fun _ h => h.2) _ _ _ _ ?_
                  replace hHeld := And.intro Ncl.out hHeld
                  try dsimp only at hHeld
                  refine' wpAnyH_take (i := 14) (v := _) rfl (by kernel_rfl) (by kernel_rfl) (by kernel_rfl) (fun _ _ _ h => h) (Or.inl ⟨by rfl, ?_⟩) hHeld ?_
                  rotate_left
                  · (intro w hSw; (try dsimp only at hSw); go_simp; try with_reducible rfl)
                  try simp only [Act.put, List.setIfInBounds_toArray, List.set_cons_zero, List.set_cons_succ, List.getElem_toArray, List.getElem_cons_succ, List.getElem_cons_zero]
                  refine' wpAnyH_take (i := 15) (v := _) rfl (by kernel_rfl) (by kernel_rfl) (by kernel_rfl) (fun _ _ _ h => h) (Or.inl ⟨by rfl, ?_⟩) hHeld ?_
                  rotate_left
                  · (intro w hSw; (try dsimp only at hSw); go_simp; try with_reducible rfl)
                  try simp only [Act.put, List.setIfInBounds_toArray, List.set_cons_zero, List.set_cons_succ, List.getElem_toArray, List.getElem_cons_succ, List.getElem_cons_zero]
                  refine' wpAnyH_take (i := 16) (v := _) rfl (by kernel_rfl) (by kernel_rfl) (by kernel_rfl) (fun _ _ _ h => h) (Or.inl ⟨by rfl, ?_⟩) hHeld ?_
                  rotate_left
                  · (intro w hSw; (try dsimp only at hSw); go_simp; try with_reducible rfl)
                  try simp only [Act.put, List.setIfInBounds_toArray, List.set_cons_zero, List.set_cons_succ, List.getElem_toArray, List.getElem_cons_succ, List.getElem_cons_zero]
                  refine' wpAnyH_take (i := 18) (v := _) rfl (by kernel_rfl) (by kernel_rfl) (by kernel_rfl) (fun _ _ _ h => h) (Or.inl ⟨by rfl, ?_⟩) hHeld ?_
                  rotate_left
                  · (intro w hSw; (try dsimp only at hSw); go_simp; try with_reducible rfl)
                  try simp only [Act.put, List.setIfInBounds_toArray, List.set_cons_zero, List.set_cons_succ, List.getElem_toArray, List.getElem_cons_succ, List.getElem_cons_zero]
                  refine' wpAnyH_take (i := 19) (v := _) rfl (by kernel_rfl) (by kernel_rfl) (by kernel_rfl) (fun _ _ _ h => h) (Or.inl ⟨by rfl, ?_⟩) hHeld ?_
                  rotate_left
                  · (intro w hSw; (try dsimp only at hSw); go_simp; try with_reducible rfl)
                  try simp only [Act.put, List.setIfInBounds_toArray, List.set_cons_zero, List.set_cons_succ, List.getElem_toArray, List.getElem_cons_succ, List.getElem_cons_zero]
                  refine' wpAnyH_take (i := 20) (v := _) rfl (by kernel_rfl) (by kernel_rfl) (by kernel_rfl) (fun _ _ _ h => h) (Or.inl ⟨by rfl, ?_⟩) hHeld ?_
                  rotate_left
                  · (intro w hSw; (try dsimp only at hSw); go_simp; try with_reducible rfl)
                  try simp only [Act.put, List.setIfInBounds_toArray, List.set_cons_zero, List.set_cons_succ, List.getElem_toArray, List.getElem_cons_succ, List.getElem_cons_zero]
                  refine' wpAnyH_take (i := 21) (v := _) rfl (by kernel_rfl) (by kernel_rfl) (by kernel_rfl) (fun _ _ _ h => h) (Or.inl ⟨by rfl, ?_⟩) hHeld ?_
                  rotate_left
                  · (intro w hSw; (try dsimp only at hSw); go_simp; try with_reducible rfl)
                  try simp only [Act.put, List.setIfInBounds_toArray, List.set_cons_zero, List.set_cons_succ, List.getElem_toArray, List.getElem_cons_succ, List.getElem_cons_zero]
                  refine wpAnyH_ready (rs := [17]) (by kernel_rfl) (by simp) ?_
                  refine AllReadyH.cons (o := _) rfl (fun K hK => ?_) AllReadyH.nil
                  try simp only [List.getElem_toArray, List.getElem_cons_succ, List.getElem_cons_zero]
                  go_simp
                  have hH2 := hHeld
                  obtain ⟨cl, kg⟩ := hH2
                  refine ((alls_any TG.out.k1)).mono ?_
                  rintro e w1017 ⟨⟨va, rfl, hva⟩, hg⟩
                  have VA := hid hva.ints; replace HIM := hid (HIM.out.grown hg); replace TG := hid (TG.out.grown hg); clear hva
                  have L17 := hid (show (w1017.cell? ⟨b2, 2, none⟩ = some (.slice pm c2.l.length km)) ∧ (w.grownBy w1017 none) from ⟨hg.cell cl (by simp), gb_trans kg hg (.inl rfl)⟩)
                  clear hHeld hg cl kg
                  go_wp2_with fail
                  refine hK.out _ _ ?_ (fun hHeld => ?_)
                  · exact L17.out
                  clear hK K
                  try dsimp only at hHeld
                  try simp only [Act.put, List.setIfInBounds_toArray, List.set_cons_zero, List.set_cons_succ, List.getElem_toArray, List.getElem_cons_succ, List.getElem_cons_zero]
                  refine wpAnyH_ready (rs := [22]) (by kernel_rfl) (by simp) ?_
                  refine AllReadyH.cons (o := _) rfl (fun K hK => ?_) AllReadyH.nil
                  try simp only [List.getElem_toArray, List.getElem_cons_succ, List.getElem_cons_zero]
                  go_simp
                  have hH2 := hHeld
                  obtain ⟨cl, kg⟩ := hH2
                  refine ((sameInts_yes _ _ _ _ VA.out HIM.out)).mono ?_
                  rintro e w1022 ⟨rfl, hg⟩
                  replace TG := hid (TG.out.grown hg)
                  have L22 := hid (show (w1022.cell? ⟨b2, 2, none⟩ = some (.slice pm c2.l.length km)) ∧ (w.grownBy w1022 none) from ⟨hg.cell cl (by simp), gb_trans kg hg (.inl rfl)⟩)
                  clear hHeld hg cl kg
                  go_wp2_with fail
                  refine hK.out _ _ ?_ (fun hHeld => ?_)
                  · exact L22.out
                  clear hK K
                  try dsimp only at hHeld
                  try simp only [Act.put, List.setIfInBounds_toArray, List.set_cons_zero, List.set_cons_succ, List.getElem_toArray, List.getElem_cons_succ, List.getElem_cons_zero]
                  refine' wpAnyH_take (i := 23) (v := _) rfl (by kernel_rfl) (by kernel_rfl) (by kernel_rfl) (fun _ _ _ h => h) (Or.inl ⟨by rfl, ?_⟩) hHeld ?_
                  rotate_left
                  · (intro w hSw; (try dsimp only at hSw); go_simp; try with_reducible rfl)
                  try simp only [Act.put, List.setIfInBounds_toArray, List.set_cons_zero, List.set_cons_succ, List.getElem_toArray, List.getElem_cons_succ, List.getElem_cons_zero]
                  refine' wpAnyH_take (i := 24) (v := _) rfl (by kernel_rfl) (by kernel_rfl) (by kernel_rfl) (fun _ _ _ h => h) (Or.inl ⟨by rfl, ?_⟩) hHeld ?_
                  rotate_left
                  · (intro w hSw; (try dsimp only at hSw); go_simp; try with_reducible rfl)
                  try simp only [Act.put, List.setIfInBounds_toArray, List.set_cons_zero, List.set_cons_succ, List.getElem_toArray, List.getElem_cons_succ, List.getElem_cons_zero]
                  refine wpAnyH_done (by kernel_rfl) ?_ _
                  obtain ⟨cl, kg⟩ := hHeld
                  try clear kg
                  try clear cl
                  try clear clm
                  go_wp2_with fail
                  go_roundw
                  case rel => exact ⟨k + 1, by have := HLT.out; omega, by go_num, _, TG.out⟩
                  case measure => have := HLT.out; simp [intOf]; omega
              · obtain rfl : k = n := by omega
                go_wp2_with fail
                refine (told_any _).mono ?_
                rintro e w5 ⟨rfl, hg⟩
                replace TG := hid (TG.out.grown hg); clear hg
                go_wp2_with fail
                go_ret
                exact ⟨rfl, TG.out.gr⟩
end Go.Proofs.Ytnpaecbdejemnaa.cplays
