/-
  The walk of the statement RatioMost: the greatest of several is that of one of them, and no less than any. No condition.
-/
import Derived.Test.YtfobddicokogpaaRaV
import Derived.Test.YtfobddicokogpaaRaW
import Derived.Test.YtfobddicokogpaaBg2
import Derived.Test.YtfobddicokogpaaHeld
import Derived.Test.YtfobddicokogpaaCfMayR
import Derived.Test.YtfobddicokogpaaCfDef
import Derived.BigQuiet
import Derived.Deep.QuietTactic
set_option linter.unusedSimpArgs false
set_option linter.unusedVariables false
namespace Go.Proofs.Ytfobddicokogpaa.rmost
set_option maxRecDepth 100000
open Go.RowKit

theorem refmay_dflt (w : World) : Calls Try.prog 16 #[cf dflt] w fun e w' => e = .returned (.bool true) ∧ w.grownBy w' none := by
  have h := refmay_any dflt w
  rwa [show ((st22 dflt).getD ⟨#[]⟩).toList.isEmpty = true by decide +kernel] at h

set_option maxHeartbeats 6400000 in
theorem walk {w : World} (c : Int) (la : List Int) (pa : Option Addr) (ca : Nat) (ia : IntsAt w (.slice pa la.length ca) la) (lb : List Int) (pb : Option Addr) (cb : Nat) (ib : IntsAt w (.slice pb lb.length cb) lb) (tol : Int) :
    Calls Try.prog 6 #[.int .i64 c, .slice pa la.length ca, .slice pb lb.length cb, .int .i64 tol] w fun e w' => e = .returned (.bool true) ∧ w.grownBy w' none := by
  obtain ⟨n, n0, n1, mn⟩ := umod_int c 10001 (by omega)
  have mn : (IntKind.u64.wrap c).tmod 10001 = n := mn
  have cn : IntKind.i64.wrap n = n := IntWalk.i64_in _ (by omega)
  obtain ⟨l, l0, l1, ml⟩ := umod_int tol 1001 (by omega)
  have ml : (IntKind.u64.wrap tol).tmod 1001 = l := ml
  have cl : IntKind.i64.wrap l = l := IntWalk.i64_in _ (by omega)
  have HB := hid (show (0 ≤ n ∧ n ≤ 10000) ∧ (0 ≤ l ∧ l ≤ 1000) by omega)
  have lla := ia.len; have llb := ib.len
  unfold maxLen at lla llb
  obtain ⟨na, hna⟩ : ∃ n, la.length = n := ⟨_, rfl⟩
  obtain ⟨nb, hnb⟩ : ∃ n, lb.length = n := ⟨_, rfl⟩
  rw [hna] at ia lla ⊢
  rw [hnb] at ib llb ⊢
  have NA := hid hna; have NB := hid hnb; have IA := hid ia; have IB := hid ib
  obtain ⟨m, hm⟩ : ∃ m : Nat, m = min (min na nb) 4 := ⟨_, rfl⟩
  have HMM := hid (show m ≤ na ∧ m ≤ nb ∧ m ≤ 4 ∧ (m = na ∨ (m < na ∧ m = nb) ∨ (m < na ∧ m < nb ∧ m = 4)) by omega)
  clear hna hnb n0 n1 l0 l1 ia ib hm
  go_enter Try.func6, Try.ntmps6
  go_wp2_with fail
  go_loopw [11, 12, 13] (fun u v i wr => ∃ k : Nat, k ≤ m ∧ i = .int .i64 (k : Int) ∧ Bag2 w u (mvL la k) v (mtL lb k) [] wr) (fun _ _ i _ => m - (intOf i).toNat)
  case atStart => exact ⟨0, Nat.zero_le _, rfl, Bag2.start w⟩
  case round =>
    obtain ⟨k, hk, rfl, hbag⟩ := hrel
    have TG := hid hbag
    have F1 := hbag.o1.form; have F2 := hbag.o2.form
    obtain ⟨pu, cu, rfl⟩ := F1
    obtain ⟨pv, cv, rfl⟩ := F2
    clear hbag
    by_cases hlt : k < m
    · have HLT := hid hlt; have HK := hid (show k ≤ 4 by have := HMM.out; omega)
      have ka : k < la.length := by rw [NA.out]; have := HMM.out; omega
      have kb : k < lb.length := by rw [NB.out]; have := HMM.out; omega
      have LV := hid (mvL_len (Nat.le_of_lt ka)); have LT := hid (mtL_len (Nat.le_of_lt kb))
      have hx := List.getElem?_eq_getElem ka; have hy := List.getElem?_eq_getElem kb
      obtain ⟨ab, ao, rfl, -, hca, -⟩ := IA.out.cell ka
      obtain ⟨bb, bo, rfl, -, hcb, -⟩ := IB.out.cell kb
      generalize la[k] = x at hx
      generalize lb[k] = y at hy
      have CV := hid (fun (W : World) (h : w.grownBy W none) => (IA.out.grown h).cell' hx)
      have CT := hid (fun (W : World) (h : w.grownBy W none) => (IB.out.grown h).cell' hy)
      have sv := mvL_next hx; have st := mtL_next hy
      have bv := mv_in x; have bt := mt_in y
      obtain ⟨vx, hvx⟩ : ∃ z, mv x = z := ⟨_, rfl⟩
      obtain ⟨ty, hty⟩ : ∃ z, mt y = z := ⟨_, rfl⟩
      obtain ⟨t0, ht0⟩ : ∃ z, (IntKind.u64.wrap y).tmod 2000 = z := ⟨_, rfl⟩
      have e1 : (IntKind.u64.wrap x).tmod 5000 = vx := hvx
      have e0 : 1 + t0 = ty := by rw [← ht0]; exact hty
      rw [hvx] at sv bv
      rw [hty] at st bt
      have e2 : IntKind.i64.wrap vx = vx := IntWalk.i64_in _ (by omega)
      have e3 : IntKind.i64.wrap t0 = t0 := IntWalk.i64_in _ (by omega)
      have e4 : IntKind.i64.wrap (1 + t0) = ty := by rw [e0]; exact IntWalk.i64_in _ (by omega)
      have SV := hid sv; have ST := hid st
      have i1 : (k : Int) < (na : Int) := by have := HMM.out; omega
      have i2 : (k : Int) < (nb : Int) := by have := HMM.out; omega
      have i3 : k < 4 := by have := HMM.out; omega
      have i4 : k < na := by omega
      have i5 : k < nb := by omega
      rw [LV.out, LT.out] at TG ⊢
      clear sv st bv bt hvx hty e0 hx hy ka kb hlt
      go_wp2_with fail
      replace TG := hid TG.out.drew
      refine wp_region_held_drew (S := (fun w' => (w.grownBy w' none))) (by kernel_rfl) TG.out.gr (fun hHeld => ?_)
      try dsimp only at hHeld
      refine' wpAnyH_take (i := 0) (v := _) rfl (by kernel_rfl) (by kernel_rfl) (by kernel_rfl) (fun _ _ _ h => h) (Or.inl ⟨by rfl, ?_⟩) hHeld ?_
      rotate_left
      · (intro w hSw; (try dsimp only at hSw); go_simp; try with_reducible rfl)
      try simp only [Act.put, List.setIfInBounds_toArray, List.set_cons_zero, List.set_cons_succ, List.getElem_toArray, List.getElem_cons_succ, List.getElem_cons_zero]
      refine' wpAnyH_take (i := 1) (v := _) rfl (by kernel_rfl) (by kernel_rfl) (by kernel_rfl) (fun _ _ _ h => h) (Or.inl ⟨by rfl, ?_⟩) hHeld ?_
      rotate_left
      · (intro w hSw; (try dsimp only at hSw); go_simp; try with_reducible rfl)
      try simp only [Act.put, List.setIfInBounds_toArray, List.set_cons_zero, List.set_cons_succ, List.getElem_toArray, List.getElem_cons_succ, List.getElem_cons_zero]
      refine' wpAnyH_take (i := 2) (v := _) rfl (by kernel_rfl) (by kernel_rfl) (by kernel_rfl) (fun _ _ _ h => h) (Or.inl ⟨by rfl, ?_⟩) hHeld ?_
      rotate_left
      · (intro w hSw; (try dsimp only at hSw); go_simp; try with_reducible rfl)
      try simp only [Act.put, List.setIfInBounds_toArray, List.set_cons_zero, List.set_cons_succ, List.getElem_toArray, List.getElem_cons_succ, List.getElem_cons_zero]
      refine' wpAnyH_take (i := 3) (v := _) rfl (by kernel_rfl) (by kernel_rfl) (by kernel_rfl) (fun _ _ _ h => h) (Or.inl ⟨by rfl, ?_⟩) hHeld ?_
      rotate_left
      · (intro w hSw; (try dsimp only at hSw); go_simp; try with_reducible rfl)
      try simp only [Act.put, List.setIfInBounds_toArray, List.set_cons_zero, List.set_cons_succ, List.getElem_toArray, List.getElem_cons_succ, List.getElem_cons_zero]
      refine' wpAnyH_take (i := 4) (v := _) rfl (by kernel_rfl) (by kernel_rfl) (by kernel_rfl) (fun _ _ _ h => h) (Or.inl ⟨by rfl, ?_⟩) hHeld ?_
      rotate_left
      · (intro w hSw; (try dsimp only at hSw); have kg := hSw; have q9 := CV.out _ kg; go_simp; try with_reducible rfl)
      try simp only [Act.put, List.setIfInBounds_toArray, List.set_cons_zero, List.set_cons_succ, List.getElem_toArray, List.getElem_cons_succ, List.getElem_cons_zero]
      refine' wpAnyH_take (i := 5) (v := _) rfl (by kernel_rfl) (by kernel_rfl) (by kernel_rfl) (fun _ _ _ h => h) (Or.inl ⟨by rfl, ?_⟩) hHeld ?_
      rotate_left
      · (intro w hSw; (try dsimp only at hSw); go_simp; try with_reducible rfl)
      try simp only [Act.put, List.setIfInBounds_toArray, List.set_cons_zero, List.set_cons_succ, List.getElem_toArray, List.getElem_cons_succ, List.getElem_cons_zero]
      refine' wpAnyH_take (i := 6) (v := _) rfl (by kernel_rfl) (by kernel_rfl) (by kernel_rfl) (fun _ _ _ h => h) (Or.inl ⟨by rfl, ?_⟩) hHeld ?_
      rotate_left
      · (intro w hSw; (try dsimp only at hSw); go_simp; try with_reducible rfl)
      try simp only [Act.put, List.setIfInBounds_toArray, List.set_cons_zero, List.set_cons_succ, List.getElem_toArray, List.getElem_cons_succ, List.getElem_cons_zero]
      refine' wpAnyH_take (i := 7) (v := _) rfl (by kernel_rfl) (by kernel_rfl) (by kernel_rfl) (fun _ _ _ h => h) (Or.inl ⟨by rfl, ?_⟩) hHeld ?_
      rotate_left
      · (intro w hSw; (try dsimp only at hSw); go_simp; try with_reducible rfl)
      try simp only [Act.put, List.setIfInBounds_toArray, List.set_cons_zero, List.set_cons_succ, List.getElem_toArray, List.getElem_cons_succ, List.getElem_cons_zero]
      refine' wpAnyH_take (i := 10) (v := _) rfl (by kernel_rfl) (by kernel_rfl) (by kernel_rfl) (fun _ _ _ h => h) (Or.inl ⟨by rfl, ?_⟩) hHeld ?_
      rotate_left
      · (intro w hSw; (try dsimp only at hSw); go_simp; try with_reducible rfl)
      try simp only [Act.put, List.setIfInBounds_toArray, List.set_cons_zero, List.set_cons_succ, List.getElem_toArray, List.getElem_cons_succ, List.getElem_cons_zero]
      refine' wpAnyH_take (i := 11) (v := _) rfl (by kernel_rfl) (by kernel_rfl) (by kernel_rfl) (fun _ _ _ h => h) (Or.inl ⟨by rfl, ?_⟩) hHeld ?_
      rotate_left
      · (intro w hSw; (try dsimp only at hSw); go_simp; try with_reducible rfl)
      try simp only [Act.put, List.setIfInBounds_toArray, List.set_cons_zero, List.set_cons_succ, List.getElem_toArray, List.getElem_cons_succ, List.getElem_cons_zero]
      refine' wpAnyH_take (i := 12) (v := _) rfl (by kernel_rfl) (by kernel_rfl) (by kernel_rfl) (fun _ _ _ h => h) (Or.inl ⟨by rfl, ?_⟩) hHeld ?_
      rotate_left
      · (intro w hSw; (try dsimp only at hSw); go_simp; try with_reducible rfl)
      try simp only [Act.put, List.setIfInBounds_toArray, List.set_cons_zero, List.set_cons_succ, List.getElem_toArray, List.getElem_cons_succ, List.getElem_cons_zero]
      refine' wpAnyH_take (i := 13) (v := _) rfl (by kernel_rfl) (by kernel_rfl) (by kernel_rfl) (fun _ _ _ h => h) (Or.inl ⟨by rfl, ?_⟩) hHeld ?_
      rotate_left
      · (intro w hSw; (try dsimp only at hSw); go_simp; try with_reducible rfl)
      try simp only [Act.put, List.setIfInBounds_toArray, List.set_cons_zero, List.set_cons_succ, List.getElem_toArray, List.getElem_cons_succ, List.getElem_cons_zero]
      refine' wpAnyH_take (i := 14) (v := _) rfl (by kernel_rfl) (by kernel_rfl) (by kernel_rfl) (fun _ _ _ h => h) (Or.inl ⟨by rfl, ?_⟩) hHeld ?_
      rotate_left
      · (intro w hSw; (try dsimp only at hSw); have kg := hSw; have q9 := CT.out _ kg; go_simp; try with_reducible rfl)
      try simp only [Act.put, List.setIfInBounds_toArray, List.set_cons_zero, List.set_cons_succ, List.getElem_toArray, List.getElem_cons_succ, List.getElem_cons_zero]
      refine' wpAnyH_take (i := 15) (v := _) rfl (by kernel_rfl) (by kernel_rfl) (by kernel_rfl) (fun _ _ _ h => h) (Or.inl ⟨by rfl, ?_⟩) hHeld ?_
      rotate_left
      · (intro w hSw; (try dsimp only at hSw); go_simp; try with_reducible rfl)
      try simp only [Act.put, List.setIfInBounds_toArray, List.set_cons_zero, List.set_cons_succ, List.getElem_toArray, List.getElem_cons_succ, List.getElem_cons_zero]
      refine' wpAnyH_take (i := 16) (v := _) rfl (by kernel_rfl) (by kernel_rfl) (by kernel_rfl) (fun _ _ _ h => h) (Or.inl ⟨by rfl, ?_⟩) hHeld ?_
      rotate_left
      · (intro w hSw; (try dsimp only at hSw); go_simp; try with_reducible rfl)
      try simp only [Act.put, List.setIfInBounds_toArray, List.set_cons_zero, List.set_cons_succ, List.getElem_toArray, List.getElem_cons_succ, List.getElem_cons_zero]
      refine' wpAnyH_take (i := 17) (v := _) rfl (by kernel_rfl) (by kernel_rfl) (by kernel_rfl) (fun _ _ _ h => h) (Or.inl ⟨by rfl, ?_⟩) hHeld ?_
      rotate_left
      · (intro w hSw; (try dsimp only at hSw); go_simp; try with_reducible rfl)
      try simp only [Act.put, List.setIfInBounds_toArray, List.set_cons_zero, List.set_cons_succ, List.getElem_toArray, List.getElem_cons_succ, List.getElem_cons_zero]
      refine' wpAnyH_take (i := 18) (v := _) rfl (by kernel_rfl) (by kernel_rfl) (by kernel_rfl) (fun _ _ _ h => h) (Or.inl ⟨by rfl, ?_⟩) hHeld ?_
      rotate_left
      · (intro w hSw; (try dsimp only at hSw); go_simp; try with_reducible rfl)
      try simp only [Act.put, List.setIfInBounds_toArray, List.set_cons_zero, List.set_cons_succ, List.getElem_toArray, List.getElem_cons_succ, List.getElem_cons_zero]
      refine wpAnyH_ready (rs := [8, 19]) (by kernel_rfl) (by simp) ?_
      refine AllReadyH.cons (o := _) rfl (fun K hK => ?_) (AllReadyH.cons (o := _) rfl (fun K hK => ?_) AllReadyH.nil)
      · have hH2 := hHeld
        have kg := hH2
        have hg : wr.drew.grownBy (wr.drew.alloc (.cells #[.int .i64 vx] 2)) none := World.grownBy_alloc _ _ _
        replace TG := hid (TG.out.one vx)
        try rw [World.size_alloc] at TG
        have L8 := hid (show (w.grownBy (wr.drew.alloc (.cells #[.int .i64 vx] 2)) none) from (gb_trans kg hg (.inl rfl)))
        clear hHeld hg kg
        try simp only [List.getElem_toArray, List.getElem_cons_succ, List.getElem_cons_zero]
        go_simp
        refine hK.out _ _ ?_ (fun hHeld => ?_)
        · exact L8.out
        clear hK K
        try dsimp only at hHeld
        try simp only [Act.put, List.setIfInBounds_toArray, List.set_cons_zero, List.set_cons_succ, List.getElem_toArray, List.getElem_cons_succ, List.getElem_cons_zero]
        refine wpAnyH_ready (rs := [9, 19]) (by kernel_rfl) (by simp) ?_
        refine AllReadyH.cons (o := _) rfl (fun K hK => ?_) (AllReadyH.cons (o := _) rfl (fun K hK => ?_) AllReadyH.nil)
        · have hH2 := hHeld
          have kg := hH2
          try simp only [List.getElem_toArray, List.getElem_cons_succ, List.getElem_cons_zero]
          rw [if_pos (by rfl)]
          first | refine wp_append_ints _ _ rfl w.heap.size _ _ rfl TG.out.o1 _ _ rfl TG.out.hd (by rw [LV.out]; show k + 1 ≤ 1000000; have := HK.out; omega) TG.out.gr.size ?_ | refine wp_append_ints _ _ rfl w.heap.size _ _ rfl TG.out.o1 _ _ rfl TG.out.tl.hd (by rw [LV.out]; show k + 1 ≤ 1000000; have := HK.out; omega) TG.out.gr.size ?_
          intro v1 w71 hown hgrow hat
          replace TG := hid (TG.out.app hown hgrow hat)
          clear hown hgrow hat
          have L9 := hid (show (w.grownBy w71 none) from TG.out.gr)
          clear hHeld kg
          refine hK.out _ _ ?_ (fun hHeld => ?_)
          · exact L9.out
          clear hK K
          try dsimp only at hHeld
          try simp only [Act.put, List.setIfInBounds_toArray, List.set_cons_zero, List.set_cons_succ, List.getElem_toArray, List.getElem_cons_succ, List.getElem_cons_zero]
          refine wpAnyH_ready (rs := [19]) (by kernel_rfl) (by simp) ?_
          refine AllReadyH.cons (o := _) rfl (fun K hK => ?_) AllReadyH.nil
          have hH2 := hHeld
          have kg := hH2
          have hg : w71.grownBy (w71.alloc (.cells #[.int .i64 ty] 2)) none := World.grownBy_alloc _ _ _
          replace TG := hid (TG.out.one ty)
          try rw [World.size_alloc] at TG
          have L19 := hid (show (w.grownBy (w71.alloc (.cells #[.int .i64 ty] 2)) none) from (gb_trans kg hg (.inl rfl)))
          clear hHeld hg kg
          try simp only [List.getElem_toArray, List.getElem_cons_succ, List.getElem_cons_zero]
          go_simp
          refine hK.out _ _ ?_ (fun hHeld => ?_)
          · exact L19.out
          clear hK K
          try dsimp only at hHeld
          try simp only [Act.put, List.setIfInBounds_toArray, List.set_cons_zero, List.set_cons_succ, List.getElem_toArray, List.getElem_cons_succ, List.getElem_cons_zero]
          refine wpAnyH_ready (rs := [20]) (by kernel_rfl) (by simp) ?_
          refine AllReadyH.cons (o := _) rfl (fun K hK => ?_) AllReadyH.nil
          have hH2 := hHeld
          have kg := hH2
          try simp only [List.getElem_toArray, List.getElem_cons_succ, List.getElem_cons_zero]
          rw [if_pos (by rfl)]
          first | refine wp_append_ints _ _ rfl w.heap.size _ _ rfl TG.out.o2 _ _ rfl TG.out.hd (by rw [LT.out]; show k + 1 ≤ 1000000; have := HK.out; omega) TG.out.gr.size ?_ | refine wp_append_ints _ _ rfl w.heap.size _ _ rfl TG.out.o2 _ _ rfl TG.out.tl.hd (by rw [LT.out]; show k + 1 ≤ 1000000; have := HK.out; omega) TG.out.gr.size ?_
          intro v2 w72 hown hgrow hat
          replace TG := hid (TG.out.app2 hown hgrow hat)
          clear hown hgrow hat
          have L20 := hid (show (w.grownBy w72 none) from TG.out.gr)
          clear hHeld kg
          refine hK.out _ _ ?_ (fun hHeld => ?_)
          · exact L20.out
          clear hK K
          try dsimp only at hHeld
          try simp only [Act.put, List.setIfInBounds_toArray, List.set_cons_zero, List.set_cons_succ, List.getElem_toArray, List.getElem_cons_succ, List.getElem_cons_zero]
          refine' wpAnyH_take (i := 21) (v := _) rfl (by kernel_rfl) (by kernel_rfl) (by kernel_rfl) (fun _ _ _ h => h) (Or.inl ⟨by rfl, ?_⟩) hHeld ?_
          rotate_left
          · (intro w hSw; (try dsimp only at hSw); go_simp; try with_reducible rfl)
          try simp only [Act.put, List.setIfInBounds_toArray, List.set_cons_zero, List.set_cons_succ, List.getElem_toArray, List.getElem_cons_succ, List.getElem_cons_zero]
          refine' wpAnyH_take (i := 22) (v := _) rfl (by kernel_rfl) (by kernel_rfl) (by kernel_rfl) (fun _ _ _ h => h) (Or.inl ⟨by rfl, ?_⟩) hHeld ?_
          rotate_left
          · (intro w hSw; (try dsimp only at hSw); go_simp; try with_reducible rfl)
          try simp only [Act.put, List.setIfInBounds_toArray, List.set_cons_zero, List.set_cons_succ, List.getElem_toArray, List.getElem_cons_succ, List.getElem_cons_zero]
          refine wpAnyH_done (by kernel_rfl) ?_ _
          have kg := hHeld
          clear kg
          go_wp2_with fail
          go_roundw
          case rel => exact ⟨k + 1, by have := HLT.out; omega, by go_num, by have h := TG.out.none; rwa [← SV.out, ← ST.out] at h⟩
          case measure => have := HLT.out; simp [intOf]; omega
        · have hH2 := hHeld
          have kg := hH2
          have hg : (wr.drew.alloc (.cells #[.int .i64 vx] 2)).grownBy ((wr.drew.alloc (.cells #[.int .i64 vx] 2)).alloc (.cells #[.int .i64 ty] 2)) none := World.grownBy_alloc _ _ _
          replace TG := hid (TG.out.one ty)
          try rw [World.size_alloc] at TG
          have L19 := hid (show (w.grownBy ((wr.drew.alloc (.cells #[.int .i64 vx] 2)).alloc (.cells #[.int .i64 ty] 2)) none) from (gb_trans kg hg (.inl rfl)))
          clear hHeld hg kg
          try simp only [List.getElem_toArray, List.getElem_cons_succ, List.getElem_cons_zero]
          go_simp
          refine hK.out _ _ ?_ (fun hHeld => ?_)
          · exact L19.out
          clear hK K
          try dsimp only at hHeld
          try simp only [Act.put, List.setIfInBounds_toArray, List.set_cons_zero, List.set_cons_succ, List.getElem_toArray, List.getElem_cons_succ, List.getElem_cons_zero]
          refine wpAnyH_ready (rs := [9]) (by kernel_rfl) (by simp) ?_
          refine AllReadyH.cons (o := _) rfl (fun K hK => ?_) AllReadyH.nil
          have hH2 := hHeld
          have kg := hH2
          try simp only [List.getElem_toArray, List.getElem_cons_succ, List.getElem_cons_zero]
          rw [if_pos (by rfl)]
          first | refine wp_append_ints _ _ rfl w.heap.size _ _ rfl TG.out.o1 _ _ rfl TG.out.hd (by rw [LV.out]; show k + 1 ≤ 1000000; have := HK.out; omega) TG.out.gr.size ?_ | refine wp_append_ints _ _ rfl w.heap.size _ _ rfl TG.out.o1 _ _ rfl TG.out.tl.hd (by rw [LV.out]; show k + 1 ≤ 1000000; have := HK.out; omega) TG.out.gr.size ?_
          intro v1 w71 hown hgrow hat
          replace TG := hid (TG.out.app hown hgrow hat)
          clear hown hgrow hat
          have L9 := hid (show (w.grownBy w71 none) from TG.out.gr)
          clear hHeld kg
          refine hK.out _ _ ?_ (fun hHeld => ?_)
          · exact L9.out
          clear hK K
          try dsimp only at hHeld
          try simp only [Act.put, List.setIfInBounds_toArray, List.set_cons_zero, List.set_cons_succ, List.getElem_toArray, List.getElem_cons_succ, List.getElem_cons_zero]
          refine wpAnyH_ready (rs := [20]) (by kernel_rfl) (by simp) ?_
          refine AllReadyH.cons (o := _) rfl (fun K hK => ?_) AllReadyH.nil
          have hH2 := hHeld
          have kg := hH2
          try simp only [List.getElem_toArray, List.getElem_cons_succ, List.getElem_cons_zero]
          rw [if_pos (by rfl)]
          first | refine wp_append_ints _ _ rfl w.heap.size _ _ rfl TG.out.o2 _ _ rfl TG.out.hd (by rw [LT.out]; show k + 1 ≤ 1000000; have := HK.out; omega) TG.out.gr.size ?_ | refine wp_append_ints _ _ rfl w.heap.size _ _ rfl TG.out.o2 _ _ rfl TG.out.tl.hd (by rw [LT.out]; show k + 1 ≤ 1000000; have := HK.out; omega) TG.out.gr.size ?_
          intro v2 w72 hown hgrow hat
          replace TG := hid (TG.out.app2 hown hgrow hat)
          clear hown hgrow hat
          have L20 := hid (show (w.grownBy w72 none) from TG.out.gr)
          clear hHeld kg
          refine hK.out _ _ ?_ (fun hHeld => ?_)
          · exact L20.out
          clear hK K
          try dsimp only at hHeld
          try simp only [Act.put, List.setIfInBounds_toArray, List.set_cons_zero, List.set_cons_succ, List.getElem_toArray, List.getElem_cons_succ, List.getElem_cons_zero]
          refine' wpAnyH_take (i := 21) (v := _) rfl (by kernel_rfl) (by kernel_rfl) (by kernel_rfl) (fun _ _ _ h => h) (Or.inl ⟨by rfl, ?_⟩) hHeld ?_
          rotate_left
          · (intro w hSw; (try dsimp only at hSw); go_simp; try with_reducible rfl)
          try simp only [Act.put, List.setIfInBounds_toArray, List.set_cons_zero, List.set_cons_succ, List.getElem_toArray, List.getElem_cons_succ, List.getElem_cons_zero]
          refine' wpAnyH_take (i := 22) (v := _) rfl (by kernel_rfl) (by kernel_rfl) (by kernel_rfl) (fun _ _ _ h => h) (Or.inl ⟨by rfl, ?_⟩) hHeld ?_
          rotate_left
          · (intro w hSw; (try dsimp only at hSw); go_simp; try with_reducible rfl)
          try simp only [Act.put, List.setIfInBounds_toArray, List.set_cons_zero, List.set_cons_succ, List.getElem_toArray, List.getElem_cons_succ, List.getElem_cons_zero]
          refine wpAnyH_done (by kernel_rfl) ?_ _
          have kg := hHeld
          clear kg
          go_wp2_with fail
          go_roundw
          case rel => exact ⟨k + 1, by have := HLT.out; omega, by go_num, by have h := TG.out.none; rwa [← SV.out, ← ST.out] at h⟩
          case measure => have := HLT.out; simp [intOf]; omega
      · have hH2 := hHeld
        have kg := hH2
        have hg : wr.drew.grownBy (wr.drew.alloc (.cells #[.int .i64 ty] 2)) none := World.grownBy_alloc _ _ _
        replace TG := hid (TG.out.one ty)
        try rw [World.size_alloc] at TG
        have L19 := hid (show (w.grownBy (wr.drew.alloc (.cells #[.int .i64 ty] 2)) none) from (gb_trans kg hg (.inl rfl)))
        clear hHeld hg kg
        try simp only [List.getElem_toArray, List.getElem_cons_succ, List.getElem_cons_zero]
        go_simp
        refine hK.out _ _ ?_ (fun hHeld => ?_)
        · exact L19.out
        clear hK K
        try dsimp only at hHeld
        try simp only [Act.put, List.setIfInBounds_toArray, List.set_cons_zero, List.set_cons_succ, List.getElem_toArray, List.getElem_cons_succ, List.getElem_cons_zero]
        refine wpAnyH_ready (rs := [8]) (by kernel_rfl) (by simp) ?_
        refine AllReadyH.cons (o := _) rfl (fun K hK => ?_) AllReadyH.nil
        have hH2 := hHeld
        have kg := hH2
        have hg : (wr.drew.alloc (.cells #[.int .i64 ty] 2)).grownBy ((wr.drew.alloc (.cells #[.int .i64 ty] 2)).alloc (.cells #[.int .i64 vx] 2)) none := World.grownBy_alloc _ _ _
        replace TG := hid (TG.out.one vx)
        try rw [World.size_alloc] at TG
        have L8 := hid (show (w.grownBy ((wr.drew.alloc (.cells #[.int .i64 ty] 2)).alloc (.cells #[.int .i64 vx] 2)) none) from (gb_trans kg hg (.inl rfl)))
        clear hHeld hg kg
        try simp only [List.getElem_toArray, List.getElem_cons_succ, List.getElem_cons_zero]
        go_simp
        refine hK.out _ _ ?_ (fun hHeld => ?_)
        · exact L8.out
        clear hK K
        try dsimp only at hHeld
        try simp only [Act.put, List.setIfInBounds_toArray, List.set_cons_zero, List.set_cons_succ, List.getElem_toArray, List.getElem_cons_succ, List.getElem_cons_zero]
        refine wpAnyH_ready (rs := [9]) (by kernel_rfl) (by simp) ?_
        refine AllReadyH.cons (o := _) rfl (fun K hK => ?_) AllReadyH.nil
        have hH2 := hHeld
        have kg := hH2
        try simp only [List.getElem_toArray, List.getElem_cons_succ, List.getElem_cons_zero]
        rw [if_pos (by rfl)]
        first | refine wp_append_ints _ _ rfl w.heap.size _ _ rfl TG.out.o1 _ _ rfl TG.out.hd (by rw [LV.out]; show k + 1 ≤ 1000000; have := HK.out; omega) TG.out.gr.size ?_ | refine wp_append_ints _ _ rfl w.heap.size _ _ rfl TG.out.o1 _ _ rfl TG.out.tl.hd (by rw [LV.out]; show k + 1 ≤ 1000000; have := HK.out; omega) TG.out.gr.size ?_
        intro v1 w71 hown hgrow hat
        replace TG := hid (TG.out.app hown hgrow hat)
        clear hown hgrow hat
        have L9 := hid (show (w.grownBy w71 none) from TG.out.gr)
        clear hHeld kg
        refine hK.out _ _ ?_ (fun hHeld => ?_)
        · exact L9.out
        clear hK K
        try dsimp only at hHeld
        try simp only [Act.put, List.setIfInBounds_toArray, List.set_cons_zero, List.set_cons_succ, List.getElem_toArray, List.getElem_cons_succ, List.getElem_cons_zero]
        refine wpAnyH_ready (rs := [20]) (by kernel_rfl) (by simp) ?_
        refine AllReadyH.cons (o := _) rfl (fun K hK => ?_) AllReadyH.nil
        have hH2 := hHeld
        have kg := hH2
        try simp only [List.getElem_toArray, List.getElem_cons_succ, List.getElem_cons_zero]
        rw [if_pos (by rfl)]
        first | refine wp_append_ints _ _ rfl w.heap.size _ _ rfl TG.out.o2 _ _ rfl TG.out.hd (by rw [LT.out]; show k + 1 ≤ 1000000; have := HK.out; omega) TG.out.gr.size ?_ | refine wp_append_ints _ _ rfl w.heap.size _ _ rfl TG.out.o2 _ _ rfl TG.out.tl.hd (by rw [LT.out]; show k + 1 ≤ 1000000; have := HK.out; omega) TG.out.gr.size ?_
        intro v2 w72 hown hgrow hat
        replace TG := hid (TG.out.app2 hown hgrow hat)
        clear hown hgrow hat
        have L20 := hid (show (w.grownBy w72 none) from TG.out.gr)
        clear hHeld kg
        refine hK.out _ _ ?_ (fun hHeld => ?_)
        · exact L20.out
        clear hK K
        try dsimp only at hHeld
        try simp only [Act.put, List.setIfInBounds_toArray, List.set_cons_zero, List.set_cons_succ, List.getElem_toArray, List.getElem_cons_succ, List.getElem_cons_zero]
        refine' wpAnyH_take (i := 21) (v := _) rfl (by kernel_rfl) (by kernel_rfl) (by kernel_rfl) (fun _ _ _ h => h) (Or.inl ⟨by rfl, ?_⟩) hHeld ?_
        rotate_left
        · (intro w hSw; (try dsimp only at hSw); go_simp; try with_reducible rfl)
        try simp only [Act.put, List.setIfInBounds_toArray, List.set_cons_zero, List.set_cons_succ, List.getElem_toArray, List.getElem_cons_succ, List.getElem_cons_zero]
        refine' wpAnyH_take (i := 22) (v := _) rfl (by kernel_rfl) (by kernel_rfl) (by kernel_rfl) (fun _ _ _ h => h) (Or.inl ⟨by rfl, ?_⟩) hHeld ?_
        rotate_left
        · (intro w hSw; (try dsimp only at hSw); go_simp; try with_reducible rfl)
        try simp only [Act.put, List.setIfInBounds_toArray, List.set_cons_zero, List.set_cons_succ, List.getElem_toArray, List.getElem_cons_succ, List.getElem_cons_zero]
        refine wpAnyH_done (by kernel_rfl) ?_ _
        have kg := hHeld
        clear kg
        go_wp2_with fail
        go_roundw
        case rel => exact ⟨k + 1, by have := HLT.out; omega, by go_num, by have h := TG.out.none; rwa [← SV.out, ← ST.out] at h⟩
        case measure => have := HLT.out; simp [intOf]; omega
    · have hkm : m = k := by omega
      subst hkm
      clear hlt hk
      rcases HMM.out.2.2.2 with h1 | h1 | h1
      · have i1 : ¬ (m : Int) < (na : Int) := by omega
        have i1' : ¬ m < na := by omega
        clear h1
        have hml := mvL_len (l := la) (k := m) (by rw [NA.out]; have := HMM.out; omega)
        have htl := mtL_len (l := lb) (k := m) (by rw [NB.out]; have := HMM.out; omega)
        have hall := raAll_of n l HB.out.1 HB.out.2 (mvL la m) (mtL lb m) (mvL_ok la m) (mtL_ok lb m)
        generalize mvL la m = V at *
        generalize mtL lb m = T at *
        rw [hml, htl] at TG ⊢
        have HVL := hid hml; have HTL := hid htl; have HALL := hid hall
        clear hml htl hall
        rcases Nat.eq_zero_or_pos m with h0 | h0
        · subst h0
          have hm0 := hid (raMost_len (c := n) (l := l) (vs := V) (ts := T) (.inl HVL.out))
          have d9 : ((0 : Int) == 0) = true := rfl
          go_wp2_with fail
          refine (most_as TG.out.o1.ints TG.out.o2.ints hm0.out).mono ?_
          rintro e w1 ⟨rfl, hg⟩
          have G1 := hid (gb_trans TG.out.gr hg (.inl rfl)); clear hg TG
          go_wp2_with fail
          refine (told_any _).mono ?_
          rintro e w2 ⟨rfl, hg⟩
          have G2 := hid (gb_trans G1.out hg (.inl rfl)); clear hg
          go_wp2_with fail
          go_ret
          exact ⟨rfl, G2.out⟩
        have d9 : ((m : Int) == 0) = false := by simp; omega
        obtain ⟨j0, x0, y0, hj1, hj2, hj3⟩ := raTop_is n l V T (HVL.out.trans HTL.out.symm) (by intro e; have := HVL.out; rw [e] at this; simp at this; omega)
        have HGE := hid (raTop_ge n l V T)
        have hms := hid (raMost_ok (c := n) (l := l) (vs := V) (ts := T) (by rw [HVL.out]; omega) (HVL.out.trans HTL.out.symm) HALL.out)
        have hjm : j0 < m := by rw [← HVL.out]; exact (List.getElem?_eq_some_iff.1 hj1).1
        generalize raTop n l V T = z at *
        have HJ := hid (And.intro hj1 (And.intro hj2 (And.intro hj3 hjm)))
        clear hj1 hj2 hj3 hjm h0
        go_wp2_with fail
        refine (most_as TG.out.o1.ints TG.out.o2.ints hms.out).mono ?_
        rintro e w1 ⟨rfl, hg⟩
        have IV := hid (TG.out.o1.ints.grown hg); have IT := hid (TG.out.o2.ints.grown hg); have G1 := hid (gb_trans TG.out.gr hg (.inl rfl)); clear hg TG
        go_wp2_with fail
        go_loopw [16, 17, 18] (fun s i _ wr => ∃ (k : Nat) (b : Bool), k ≤ m ∧ i = .int .i64 (k : Int) ∧ s = .bool b ∧ (j0 < k → b = true) ∧ w1.grownBy wr none) (fun _ i _ _ => m - (intOf i).toNat)
        case atStart => exact ⟨0, false, Nat.zero_le _, rfl, rfl, fun h => absurd h (Nat.not_lt_zero _), .refl _ _⟩
        case round =>
          obtain ⟨k, b, hk, rfl, rfl, hbt, hgr⟩ := hrel
          have HGR := hid hgr; have HBT := hid hbt; have HK := hid hk
          clear hgr hbt
          by_cases hlt : k < m
          · have HLT := hid hlt
            have m4 : m ≤ 4 := by have := HMM.out; omega
            have hkv : k < V.length := by rw [HVL.out]; exact hlt
            have hkt : k < T.length := by rw [HTL.out]; exact hlt
            obtain ⟨ab, ao, rfl, -, hcv, hcellv⟩ := (IV.out.grown HGR.out).cell hkv
            obtain ⟨bb, bo, rfl, -, hct, hcellt⟩ := (IT.out.grown HGR.out).cell hkt
            have hx := List.getElem?_eq_getElem hkv
            have hy := List.getElem?_eq_getElem hkt
            generalize V[k] = x at *
            generalize T[k] = y at *
            have hle := HGE.out k x y hx hy
            have HX := hid (And.intro hx hy)
            have ilt : (k : Int) < (m : Int) := by omega
            have HW := hid (fun (e : k = j0) => show raWant n x y l = z from by subst e; have h1 := HJ.out.1; have h2 := HJ.out.2.1; rw [hx] at h1; rw [hy] at h2; cases h1; cases h2; exact HJ.out.2.2.1)
            clear hx hy hk
            have W0 := hid (fun w => rwant_any n x y l w)
            generalize raWant n x y l = u at *
            have d1 : decide (z < u) = false := by simp; omega
            clear hle
            go_wp2_with fail
            go_quiet ((go_at_call 14; exact Calls.quiet_of_same (still_of (W0.out _))))
            cases b with
            | true =>
              go_wp2_with fail
              go_roundw
              case rel => exact ⟨k + 1, true, by have := HLT.out; omega, by go_num, rfl, fun _ => rfl, gb_trans HGR.out ⟨rfl, rfl, rfl, Nat.le_refl _, fun _ _ _ => rfl⟩ (.inl rfl)⟩
              case measure => have := HLT.out; simp [intOf]; omega
            | false =>
              by_cases hu : u = z
              · have d2 : (u == z) = true := by simpa using hu
                clear hu
                go_wp2_with fail
                go_roundw
                case rel => exact ⟨k + 1, true, by have := HLT.out; omega, by go_num, rfl, fun _ => rfl, gb_trans HGR.out ⟨rfl, rfl, rfl, Nat.le_refl _, fun _ _ _ => rfl⟩ (.inl rfl)⟩
                case measure => have := HLT.out; simp [intOf]; omega
              · have d2 : (u == z) = false := by simpa using hu
                have HB2 := hid (show ¬ j0 < k + 1 from fun h => by
                  rcases Nat.lt_or_ge j0 k with h1 | h1
                  · cases HBT.out h1
                  · exact hu (HW.out (by omega)))
                clear hu
                go_wp2_with fail
                go_roundw
                case rel => exact ⟨k + 1, false, by have := HLT.out; omega, by go_num, rfl, fun h => absurd h HB2.out, gb_trans HGR.out ⟨rfl, rfl, rfl, Nat.le_refl _, fun _ _ _ => rfl⟩ (.inl rfl)⟩
                case measure => have := HLT.out; simp [intOf]; omega
          · have hkm : k = m := by omega
            subst hkm
            obtain rfl : b = true := HBT.out HJ.out.2.2.2
            clear hk
            go_wp2_with fail
            refine (told_any _).mono ?_
            rintro e w2 ⟨rfl, hg⟩
            have G2 := hid (gb_trans (gb_trans G1.out HGR.out (.inl rfl)) hg (.inl rfl)); clear hg
            go_wp2_with fail
            refine (refdefault_any _).mono ?_
            rintro e w3 ⟨rfl, hg⟩
            have G3 := hid (gb_trans G2.out hg (.inl rfl)); clear hg
            go_wp2_with fail
            refine (refmay_dflt _).mono ?_
            rintro e w4 ⟨rfl, hg⟩
            have G4 := hid (gb_trans G3.out hg (.inl rfl)); clear hg
            go_wp2_with fail
            go_ret
            exact ⟨rfl, G4.out⟩
      · have i1 : m < na := by omega
        have i2 : ¬ m < nb := by omega
        clear h1
        have hml := mvL_len (l := la) (k := m) (by rw [NA.out]; have := HMM.out; omega)
        have htl := mtL_len (l := lb) (k := m) (by rw [NB.out]; have := HMM.out; omega)
        have hall := raAll_of n l HB.out.1 HB.out.2 (mvL la m) (mtL lb m) (mvL_ok la m) (mtL_ok lb m)
        generalize mvL la m = V at *
        generalize mtL lb m = T at *
        rw [hml, htl] at TG ⊢
        have HVL := hid hml; have HTL := hid htl; have HALL := hid hall
        clear hml htl hall
        rcases Nat.eq_zero_or_pos m with h0 | h0
        · subst h0
          have hm0 := hid (raMost_len (c := n) (l := l) (vs := V) (ts := T) (.inl HVL.out))
          have d9 : ((0 : Int) == 0) = true := rfl
          go_wp2_with fail
          refine (most_as TG.out.o1.ints TG.out.o2.ints hm0.out).mono ?_
          rintro e w1 ⟨rfl, hg⟩
          have G1 := hid (gb_trans TG.out.gr hg (.inl rfl)); clear hg TG
          go_wp2_with fail
          refine (told_any _).mono ?_
          rintro e w2 ⟨rfl, hg⟩
          have G2 := hid (gb_trans G1.out hg (.inl rfl)); clear hg
          go_wp2_with fail
          go_ret
          exact ⟨rfl, G2.out⟩
        have d9 : ((m : Int) == 0) = false := by simp; omega
        obtain ⟨j0, x0, y0, hj1, hj2, hj3⟩ := raTop_is n l V T (HVL.out.trans HTL.out.symm) (by intro e; have := HVL.out; rw [e] at this; simp at this; omega)
        have HGE := hid (raTop_ge n l V T)
        have hms := hid (raMost_ok (c := n) (l := l) (vs := V) (ts := T) (by rw [HVL.out]; omega) (HVL.out.trans HTL.out.symm) HALL.out)
        have hjm : j0 < m := by rw [← HVL.out]; exact (List.getElem?_eq_some_iff.1 hj1).1
        generalize raTop n l V T = z at *
        have HJ := hid (And.intro hj1 (And.intro hj2 (And.intro hj3 hjm)))
        clear hj1 hj2 hj3 hjm h0
        go_wp2_with fail
        refine (most_as TG.out.o1.ints TG.out.o2.ints hms.out).mono ?_
        rintro e w1 ⟨rfl, hg⟩
        have IV := hid (TG.out.o1.ints.grown hg); have IT := hid (TG.out.o2.ints.grown hg); have G1 := hid (gb_trans TG.out.gr hg (.inl rfl)); clear hg TG
        go_wp2_with fail
        go_loopw [16, 17, 18] (fun s i _ wr => ∃ (k : Nat) (b : Bool), k ≤ m ∧ i = .int .i64 (k : Int) ∧ s = .bool b ∧ (j0 < k → b = true) ∧ w1.grownBy wr none) (fun _ i _ _ => m - (intOf i).toNat)
        case atStart => exact ⟨0, false, Nat.zero_le _, rfl, rfl, fun h => absurd h (Nat.not_lt_zero _), .refl _ _⟩
        case round =>
          obtain ⟨k, b, hk, rfl, rfl, hbt, hgr⟩ := hrel
          have HGR := hid hgr; have HBT := hid hbt; have HK := hid hk
          clear hgr hbt
          by_cases hlt : k < m
          · have HLT := hid hlt
            have m4 : m ≤ 4 := by have := HMM.out; omega
            have hkv : k < V.length := by rw [HVL.out]; exact hlt
            have hkt : k < T.length := by rw [HTL.out]; exact hlt
            obtain ⟨ab, ao, rfl, -, hcv, hcellv⟩ := (IV.out.grown HGR.out).cell hkv
            obtain ⟨bb, bo, rfl, -, hct, hcellt⟩ := (IT.out.grown HGR.out).cell hkt
            have hx := List.getElem?_eq_getElem hkv
            have hy := List.getElem?_eq_getElem hkt
            generalize V[k] = x at *
            generalize T[k] = y at *
            have hle := HGE.out k x y hx hy
            have HX := hid (And.intro hx hy)
            have ilt : (k : Int) < (m : Int) := by omega
            have HW := hid (fun (e : k = j0) => show raWant n x y l = z from by subst e; have h1 := HJ.out.1; have h2 := HJ.out.2.1; rw [hx] at h1; rw [hy] at h2; cases h1; cases h2; exact HJ.out.2.2.1)
            clear hx hy hk
            have W0 := hid (fun w => rwant_any n x y l w)
            generalize raWant n x y l = u at *
            have d1 : decide (z < u) = false := by simp; omega
            clear hle
            go_wp2_with fail
            go_quiet ((go_at_call 14; exact Calls.quiet_of_same (still_of (W0.out _))))
            cases b with
            | true =>
              go_wp2_with fail
              go_roundw
              case rel => exact ⟨k + 1, true, by have := HLT.out; omega, by go_num, rfl, fun _ => rfl, gb_trans HGR.out ⟨rfl, rfl, rfl, Nat.le_refl _, fun _ _ _ => rfl⟩ (.inl rfl)⟩
              case measure => have := HLT.out; simp [intOf]; omega
            | false =>
              by_cases hu : u = z
              · have d2 : (u == z) = true := by simpa using hu
                clear hu
                go_wp2_with fail
                go_roundw
                case rel => exact ⟨k + 1, true, by have := HLT.out; omega, by go_num, rfl, fun _ => rfl, gb_trans HGR.out ⟨rfl, rfl, rfl, Nat.le_refl _, fun _ _ _ => rfl⟩ (.inl rfl)⟩
                case measure => have := HLT.out; simp [intOf]; omega
              · have d2 : (u == z) = false := by simpa using hu
                have HB2 := hid (show ¬ j0 < k + 1 from fun h => by
                  rcases Nat.lt_or_ge j0 k with h1 | h1
                  · cases HBT.out h1
                  · exact hu (HW.out (by omega)))
                clear hu
                go_wp2_with fail
                go_roundw
                case rel => exact ⟨k + 1, false, by have := HLT.out; omega, by go_num, rfl, fun h => absurd h HB2.out, gb_trans HGR.out ⟨rfl, rfl, rfl, Nat.le_refl _, fun _ _ _ => rfl⟩ (.inl rfl)⟩
                case measure => have := HLT.out; simp [intOf]; omega
          · have hkm : k = m := by omega
            subst hkm
            obtain rfl : b = true := HBT.out HJ.out.2.2.2
            clear hk
            go_wp2_with fail
            refine (told_any _).mono ?_
            rintro e w2 ⟨rfl, hg⟩
            have G2 := hid (gb_trans (gb_trans G1.out HGR.out (.inl rfl)) hg (.inl rfl)); clear hg
            go_wp2_with fail
            refine (refdefault_any _).mono ?_
            rintro e w3 ⟨rfl, hg⟩
            have G3 := hid (gb_trans G2.out hg (.inl rfl)); clear hg
            go_wp2_with fail
            refine (refmay_dflt _).mono ?_
            rintro e w4 ⟨rfl, hg⟩
            have G4 := hid (gb_trans G3.out hg (.inl rfl)); clear hg
            go_wp2_with fail
            go_ret
            exact ⟨rfl, G4.out⟩
      · have i1 : m < na := by omega
        have i2 : m < nb := by omega
        have i3 : ¬ m < 4 := by omega
        clear h1
        have hml := mvL_len (l := la) (k := m) (by rw [NA.out]; have := HMM.out; omega)
        have htl := mtL_len (l := lb) (k := m) (by rw [NB.out]; have := HMM.out; omega)
        have hall := raAll_of n l HB.out.1 HB.out.2 (mvL la m) (mtL lb m) (mvL_ok la m) (mtL_ok lb m)
        generalize mvL la m = V at *
        generalize mtL lb m = T at *
        rw [hml, htl] at TG ⊢
        have HVL := hid hml; have HTL := hid htl; have HALL := hid hall
        clear hml htl hall
        rcases Nat.eq_zero_or_pos m with h0 | h0
        · exact absurd (show m < 4 by omega) i3
        have d9 : ((m : Int) == 0) = false := by simp; omega
        obtain ⟨j0, x0, y0, hj1, hj2, hj3⟩ := raTop_is n l V T (HVL.out.trans HTL.out.symm) (by intro e; have := HVL.out; rw [e] at this; simp at this; omega)
        have HGE := hid (raTop_ge n l V T)
        have hms := hid (raMost_ok (c := n) (l := l) (vs := V) (ts := T) (by rw [HVL.out]; omega) (HVL.out.trans HTL.out.symm) HALL.out)
        have hjm : j0 < m := by rw [← HVL.out]; exact (List.getElem?_eq_some_iff.1 hj1).1
        generalize raTop n l V T = z at *
        have HJ := hid (And.intro hj1 (And.intro hj2 (And.intro hj3 hjm)))
        clear hj1 hj2 hj3 hjm h0
        go_wp2_with fail
        refine (most_as TG.out.o1.ints TG.out.o2.ints hms.out).mono ?_
        rintro e w1 ⟨rfl, hg⟩
        have IV := hid (TG.out.o1.ints.grown hg); have IT := hid (TG.out.o2.ints.grown hg); have G1 := hid (gb_trans TG.out.gr hg (.inl rfl)); clear hg TG
        go_wp2_with fail
        go_loopw [16, 17, 18] (fun s i _ wr => ∃ (k : Nat) (b : Bool), k ≤ m ∧ i = .int .i64 (k : Int) ∧ s = .bool b ∧ (j0 < k → b = true) ∧ w1.grownBy wr none) (fun _ i _ _ => m - (intOf i).toNat)
        case atStart => exact ⟨0, false, Nat.zero_le _, rfl, rfl, fun h => absurd h (Nat.not_lt_zero _), .refl _ _⟩
        case round =>
          obtain ⟨k, b, hk, rfl, rfl, hbt, hgr⟩ := hrel
          have HGR := hid hgr; have HBT := hid hbt; have HK := hid hk
          clear hgr hbt
          by_cases hlt : k < m
          · have HLT := hid hlt
            have m4 : m ≤ 4 := by have := HMM.out; omega
            have hkv : k < V.length := by rw [HVL.out]; exact hlt
            have hkt : k < T.length := by rw [HTL.out]; exact hlt
            obtain ⟨ab, ao, rfl, -, hcv, hcellv⟩ := (IV.out.grown HGR.out).cell hkv
            obtain ⟨bb, bo, rfl, -, hct, hcellt⟩ := (IT.out.grown HGR.out).cell hkt
            have hx := List.getElem?_eq_getElem hkv
            have hy := List.getElem?_eq_getElem hkt
            generalize V[k] = x at *
            generalize T[k] = y at *
            have hle := HGE.out k x y hx hy
            have HX := hid (And.intro hx hy)
            have ilt : (k : Int) < (m : Int) := by omega
            have HW := hid (fun (e : k = j0) => show raWant n x y l = z from by subst e; have h1 := HJ.out.1; have h2 := HJ.out.2.1; rw [hx] at h1; rw [hy] at h2; cases h1; cases h2; exact HJ.out.2.2.1)
            clear hx hy hk
            have W0 := hid (fun w => rwant_any n x y l w)
            generalize raWant n x y l = u at *
            have d1 : decide (z < u) = false := by simp; omega
            clear hle
            go_wp2_with fail
            go_quiet ((go_at_call 14; exact Calls.quiet_of_same (still_of (W0.out _))))
            cases b with
            | true =>
              go_wp2_with fail
              go_roundw
              case rel => exact ⟨k + 1, true, by have := HLT.out; omega, by go_num, rfl, fun _ => rfl, gb_trans HGR.out ⟨rfl, rfl, rfl, Nat.le_refl _, fun _ _ _ => rfl⟩ (.inl rfl)⟩
              case measure => have := HLT.out; simp [intOf]; omega
            | false =>
              by_cases hu : u = z
              · have d2 : (u == z) = true := by simpa using hu
                clear hu
                go_wp2_with fail
                go_roundw
                case rel => exact ⟨k + 1, true, by have := HLT.out; omega, by go_num, rfl, fun _ => rfl, gb_trans HGR.out ⟨rfl, rfl, rfl, Nat.le_refl _, fun _ _ _ => rfl⟩ (.inl rfl)⟩
                case measure => have := HLT.out; simp [intOf]; omega
              · have d2 : (u == z) = false := by simpa using hu
                have HB2 := hid (show ¬ j0 < k + 1 from fun h => by
                  rcases Nat.lt_or_ge j0 k with h1 | h1
                  · cases HBT.out h1
                  · exact hu (HW.out (by omega)))
                clear hu
                go_wp2_with fail
                go_roundw
                case rel => exact ⟨k + 1, false, by have := HLT.out; omega, by go_num, rfl, fun h => absurd h HB2.out, gb_trans HGR.out ⟨rfl, rfl, rfl, Nat.le_refl _, fun _ _ _ => rfl⟩ (.inl rfl)⟩
                case measure => have := HLT.out; simp [intOf]; omega
          · have hkm : k = m := by omega
            subst hkm
            obtain rfl : b = true := HBT.out HJ.out.2.2.2
            clear hk
            go_wp2_with fail
            refine (told_any _).mono ?_
            rintro e w2 ⟨rfl, hg⟩
            have G2 := hid (gb_trans (gb_trans G1.out HGR.out (.inl rfl)) hg (.inl rfl)); clear hg
            go_wp2_with fail
            refine (refdefault_any _).mono ?_
            rintro e w3 ⟨rfl, hg⟩
            have G3 := hid (gb_trans G2.out hg (.inl rfl)); clear hg
            go_wp2_with fail
            refine (refmay_dflt _).mono ?_
            rintro e w4 ⟨rfl, hg⟩
            have G4 := hid (gb_trans G3.out hg (.inl rfl)); clear hg
            go_wp2_with fail
            go_ret
            exact ⟨rfl, G4.out⟩
end Go.Proofs.Ytfobddicokogpaa.rmost
