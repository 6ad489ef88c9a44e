/-
  The walk of the statement LawBounds: whatever the values, the count stays between the least and the most. No condition.
-/
import Derived.Test.YthobbekocimcnaaZ9
import Derived.Test.YthobbekocimcnaaZ2
import Derived.BigQuiet
import Derived.Deep.QuietTactic
import Derived.Deep.RegionHeld3
set_option linter.unusedSimpArgs false
set_option linter.unusedVariables false
namespace Go.Proofs.Ythobbekocimcnaa.lbounds
set_option maxRecDepth 100000
open Go.RowKit

set_option maxHeartbeats 6400000 in
theorem walk {w : World} (l : List Int) (p : Option Addr) (cap : Nat) (i0 : IntsAt w (.slice p l.length cap) l) (x : Int) (lw : List Int) (p2 : Option Addr) (c2 : Nat) (i2 : IntsAt w (.slice p2 lw.length c2) lw) :
    Calls Try.prog 3 #[.slice p l.length cap, .int .i64 x, .slice p2 lw.length c2] w fun e w' => e = .returned (.bool true) ∧ w.grownBy w' none := by
  have nl := i2.len
  unfold maxLen at nl
  obtain ⟨n, hn⟩ : ∃ n, lw.length = n := ⟨_, rfl⟩
  rw [hn] at i2 nl ⊢
  have Hn := hid hn; have In := hid i2
  clear hn i2
  obtain ⟨mm, hmm⟩ : ∃ m : Nat, m = min n 30 := ⟨_, rfl⟩
  have HMM := hid (show mm ≤ n ∧ mm ≤ 30 ∧ (mm = n ∨ (mm < n ∧ mm = 30)) by omega)
  clear hmm
  go_enter Try.func3, Try.ntmps3
  go_wp2_with fail
  refine (fit_any l p cap _ i0).mono ?_
  rintro e w1 ⟨c, rfl, hF, hg⟩
  have HF := hid hF; have C0 := hid (cfx_new c hg); clear hg hF
  obtain ⟨m, u, d, hm, hu, hd, hm1, hm2, hu3, hd4, hok, -⟩ := fine_law HF.out
  have HM := hid hm; have HU := hid hu; have HD := hid hd; have HM12 := hid (And.intro hm1 hm2); have HUD := hid (And.intro hu3 hd4); have HOK := hid hok
  clear hm hu hd hm1 hm2 hu3 hd4 hok
  obtain ⟨d0, D, hd0, hD, hDu, hD0, hx⟩ := draw_in HF.out
  obtain ⟨z, f, hz, hzu, hzi, hf, f0, f1⟩ := hx x
  clear hx
  have hbx := C0.out.box
  have c9 := at_cell hbx 12; have c10 := at_cell hbx 13
  clear hbx
  go_wp2_with (refine wpList_store_new (w := w1) (cs := c.cells) rfl (by kernel_rfl) (by kernel_rfl) (by kernel_rfl) rfl rfl rfl rfl rfl ?_)
  go_quiet (fail)
  refine exit_gen (fun wx => Cfx w w1.heap.size c wx) (C0.out.grown ⟨rfl, rfl, rfl, Nat.le_refl _, fun _ _ _ => rfl⟩) (fun wx hKx => ?_)
  have C := hid hKx
  clear hKx C0 c9 c10 hd0 hD hDu hD0 hz hzu hzi hf
  generalize w1.heap.size = xb at *
  have NP1 := hid (lnew_fine HF.out HM.out HU.out HD.out HM12.out.1 HM12.out.2 HUD.out.1 HUD.out.2 f0 f1 (HOK.out _ f0 f1))
  have HLF := hid (lof_new c m u d f)
  obtain ⟨s0, hs0⟩ : ∃ s, laOf c m u d f = s := ⟨_, rfl⟩
  rw [hs0] at NP1 HLF
  clear hs0 HOK HU HD HUD f0 f1
  go_wp2_with (refine wpList_conf C.out.box rfl rfl rfl rfl ?_)
  refine (NP1.out _).mono ?_
  rintro e w2 ⟨B1, rfl, hl, hg, hb⟩
  have K := hid (Lk1.start C.out hl hg hb); clear hl hg hb C NP1
  go_wp2_with fail
  go_loopw [10] (fun i wr => ∃ k : Nat, k ≤ mm ∧ i = .int .i64 (k : Int) ∧ ∃ s : La, Lk1 w xb c B1 s wr ∧ Lof c m s) (fun i _ => mm - (intOf i).toNat)
  case atStart => exact ⟨0, Nat.zero_le _, rfl, _, K.out, HLF.out⟩
  case round =>
    obtain ⟨k, hk, rfl, s, hK, hlf⟩ := hrel
    have K := hid hK; have LF := hid hlf; clear hK hlf
    by_cases hlt : k < mm
    · have HLT := hid hlt
      have hkl : k < lw.length := by rw [Hn.out]; have := HMM.out; omega
      obtain ⟨ab, ao, rfl, -, hcc, -⟩ := (In.out.grown K.out.k.gr).cell hkl
      have hx0 := List.getElem?_eq_getElem hkl
      generalize lw[k] = q at *
      have CV := hid (fun (W : World) (hg : w.grownBy W none) => (In.out.grown hg).cell' hx0)
      clear hx0 hkl
      obtain ⟨x, x0, x1, mx⟩ := umod_int q 9000 (by omega)
      have mx : (IntKind.u64.wrap q).tmod 9000 = x := mx
      have cx : IntKind.i64.wrap x = x := IntWalk.i64_in _ (by omega)
      obtain ⟨y, y0, y1, my⟩ := umod_int q 7000 (by omega)
      have my : (IntKind.u64.wrap q).tmod 7000 = y := my
      have cy : IntKind.i64.wrap y = y := IntWalk.i64_in _ (by omega)
      have HXY := hid (two_in (m := m) (x := x) (y := y) (by omega) (by omega))
      have j1 : k < n := by have := HMM.out; omega
      have j2 : k < 30 := by have := HMM.out; omega
      have j1' : (k : Int) < (n : Int) := by omega
      clear hlt hk x0 x1 y0 y1
      have m2 : m ≤ 2 := HM12.out.2
      have m2' : (m : Int) ≤ 2 := by omega
      go_wp2_with fail
      refine (lcount_any K.out.k.at1).mono ?_
      rintro e w3 ⟨rfl, rfl⟩
      have NB := hid (show ∀ y, y ∈ B1.F → y ≠ wr.heap.size from fun y hy => Nat.ne_of_lt (K.out.k.at1.lts y hy))
      go_wp2_with fail
      refine wp_region_held_drew (S := (fun w' => (Lk1 w xb c B1 s w'))) (by kernel_rfl) K.out.drew (fun hHeld => ?_)
      try dsimp only at hHeld
      refine' wpAnyH_take (i := 0) (v := _) rfl (by kernel_rfl) (by kernel_rfl) (by kernel_rfl) (fun _ _ _ h => h) (Or.inl ⟨by rfl, ?_⟩) hHeld ?_
      rotate_left
      · (intro w hSw; (try dsimp only at hSw); go_simp; try with_reducible rfl)
      try simp only [Act.put, List.setIfInBounds_toArray, List.set_cons_zero, List.set_cons_succ, List.getElem_toArray, List.getElem_cons_succ, List.getElem_cons_zero]
      refine' wpAnyH_take (i := 1) (v := _) rfl (by kernel_rfl) (by kernel_rfl) (by kernel_rfl) (fun _ _ _ h => h) (Or.inl ⟨by rfl, ?_⟩) hHeld ?_
      rotate_left
      · (intro w hSw; (try dsimp only at hSw); go_simp; try with_reducible rfl)
      try simp only [Act.put, List.setIfInBounds_toArray, List.set_cons_zero, List.set_cons_succ, List.getElem_toArray, List.getElem_cons_succ, List.getElem_cons_zero]
      refine' wpAnyH_take (i := 2) (v := _) rfl (by kernel_rfl) (by kernel_rfl) (by kernel_rfl) (fun _ _ _ h => h) (Or.inl ⟨by rfl, ?_⟩) hHeld ?_
      rotate_left
      · (intro w hSw; (try dsimp only at hSw); go_simp; try with_reducible rfl)
      try simp only [Act.put, List.setIfInBounds_toArray, List.set_cons_zero, List.set_cons_succ, List.getElem_toArray, List.getElem_cons_succ, List.getElem_cons_zero]
      refine' wpAnyH_take (i := 3) (v := _) rfl (by kernel_rfl) (by kernel_rfl) (by kernel_rfl) (fun _ _ _ h => h) (Or.inl ⟨by rfl, ?_⟩) hHeld ?_
      rotate_left
      · (intro w hSw; (try dsimp only at hSw); have kk := hSw; have q9 := CV.out _ kk.k.gr; go_simp; try with_reducible rfl)
      try simp only [Act.put, List.setIfInBounds_toArray, List.set_cons_zero, List.set_cons_succ, List.getElem_toArray, List.getElem_cons_succ, List.getElem_cons_zero]
      refine' wpAnyH_take (i := 4) (v := _) rfl (by kernel_rfl) (by kernel_rfl) (by kernel_rfl) (fun _ _ _ h => h) (Or.inl ⟨by rfl, ?_⟩) hHeld ?_
      rotate_left
      · (intro w hSw; (try dsimp only at hSw); go_simp; try with_reducible rfl)
      try simp only [Act.put, List.setIfInBounds_toArray, List.set_cons_zero, List.set_cons_succ, List.getElem_toArray, List.getElem_cons_succ, List.getElem_cons_zero]
      refine' wpAnyH_take (i := 5) (v := _) rfl (by kernel_rfl) (by kernel_rfl) (by kernel_rfl) (fun _ _ _ h => h) (Or.inl ⟨by rfl, ?_⟩) hHeld ?_
      rotate_left
      · (intro w hSw; (try dsimp only at hSw); go_simp; try with_reducible rfl)
      try simp only [Act.put, List.setIfInBounds_toArray, List.set_cons_zero, List.set_cons_succ, List.getElem_toArray, List.getElem_cons_succ, List.getElem_cons_zero]
      refine' wpAnyH_take (i := 6) (v := _) rfl (by kernel_rfl) (by kernel_rfl) (by kernel_rfl) (fun _ _ _ h => h) (Or.inl ⟨by rfl, ?_⟩) hHeld ?_
      rotate_left
      · (intro w hSw; (try dsimp only at hSw); go_simp; try with_reducible rfl)
      try simp only [Act.put, List.setIfInBounds_toArray, List.set_cons_zero, List.set_cons_succ, List.getElem_toArray, List.getElem_cons_succ, List.getElem_cons_zero]
      refine' wpAnyH_take (i := 7) (v := _) rfl (by kernel_rfl) (by kernel_rfl) (by kernel_rfl) (fun _ _ _ h => h) (Or.inl ⟨by rfl, ?_⟩) hHeld ?_
      rotate_left
      · (intro w hSw; (try dsimp only at hSw); go_simp; try with_reducible rfl)
      try simp only [Act.put, List.setIfInBounds_toArray, List.set_cons_zero, List.set_cons_succ, List.getElem_toArray, List.getElem_cons_succ, List.getElem_cons_zero]
      refine' wpAnyH_take (i := 8) (v := _) rfl (by kernel_rfl) (by kernel_rfl) (by kernel_rfl) (fun _ _ _ h => h) (Or.inl ⟨by rfl, ?_⟩) hHeld ?_
      rotate_left
      · (intro w hSw; (try dsimp only at hSw); go_simp; try with_reducible rfl)
      try simp only [Act.put, List.setIfInBounds_toArray, List.set_cons_zero, List.set_cons_succ, List.getElem_toArray, List.getElem_cons_succ, List.getElem_cons_zero]
      refine' wpAnyH_take (i := 9) (v := _) rfl (by kernel_rfl) (by kernel_rfl) (by kernel_rfl) (fun _ _ _ h => h) (Or.inl ⟨by rfl, ?_⟩) hHeld ?_
      rotate_left
      · (intro w hSw; (try dsimp only at hSw); go_simp; try with_reducible rfl)
      try simp only [Act.put, List.setIfInBounds_toArray, List.set_cons_zero, List.set_cons_succ, List.getElem_toArray, List.getElem_cons_succ, List.getElem_cons_zero]
      refine' wpAnyH_take (i := 10) (v := _) rfl (by kernel_rfl) (by kernel_rfl) (by kernel_rfl) (fun _ _ _ h => h) (Or.inl ⟨by rfl, ?_⟩) hHeld ?_
      rotate_left
      · (intro w hSw; (try dsimp only at hSw); have kk := hSw; have q9 := CV.out _ kk.k.gr; go_simp; try with_reducible rfl)
      try simp only [Act.put, List.setIfInBounds_toArray, List.set_cons_zero, List.set_cons_succ, List.getElem_toArray, List.getElem_cons_succ, List.getElem_cons_zero]
      refine' wpAnyH_take (i := 11) (v := _) rfl (by kernel_rfl) (by kernel_rfl) (by kernel_rfl) (fun _ _ _ h => h) (Or.inl ⟨by rfl, ?_⟩) hHeld ?_
      rotate_left
      · (intro w hSw; (try dsimp only at hSw); go_simp; try with_reducible rfl)
      try simp only [Act.put, List.setIfInBounds_toArray, List.set_cons_zero, List.set_cons_succ, List.getElem_toArray, List.getElem_cons_succ, List.getElem_cons_zero]
      refine' wpAnyH_take (i := 12) (v := _) rfl (by kernel_rfl) (by kernel_rfl) (by kernel_rfl) (fun _ _ _ h => h) (Or.inl ⟨by rfl, ?_⟩) hHeld ?_
      rotate_left
      · (intro w hSw; (try dsimp only at hSw); go_simp; try with_reducible rfl)
      try simp only [Act.put, List.setIfInBounds_toArray, List.set_cons_zero, List.set_cons_succ, List.getElem_toArray, List.getElem_cons_succ, List.getElem_cons_zero]
      refine' wpAnyH_take (i := 13) (v := _) rfl (by kernel_rfl) (by kernel_rfl) (by kernel_rfl) (fun _ _ _ h => h) (Or.inl ⟨by rfl, ?_⟩) hHeld ?_
      rotate_left
      · (intro w hSw; (try dsimp only at hSw); go_simp; try with_reducible rfl)
      try simp only [Act.put, List.setIfInBounds_toArray, List.set_cons_zero, List.set_cons_succ, List.getElem_toArray, List.getElem_cons_succ, List.getElem_cons_zero]
      refine' wpAnyH_take (i := 15) (v := _) rfl (by kernel_rfl) (by kernel_rfl) (by kernel_rfl) (fun _ _ _ h => h) (Or.inl ⟨by rfl, ?_⟩) hHeld ?_
      rotate_left
      · (intro w hSw; (try dsimp only at hSw); go_simp; try with_reducible rfl)
      try simp only [Act.put, List.setIfInBounds_toArray, List.set_cons_zero, List.set_cons_succ, List.getElem_toArray, List.getElem_cons_succ, List.getElem_cons_zero]
      refine' wpAnyH_take (i := 16) (v := _) rfl (by kernel_rfl) (by kernel_rfl) (by kernel_rfl) (fun _ _ _ h => h) (Or.inl ⟨by rfl, ?_⟩) hHeld ?_
      rotate_left
      · (intro w hSw; (try dsimp only at hSw); have kk := hSw; have k2 : w.cell? ⟨xb, 2, none⟩ = some (.int .i64 (m : Int)) := (at_cell kk.box 2).trans (congrArg (fun z => some (Value.int .i64 z)) HM.out); go_simp; try with_reducible rfl)
      try simp only [Act.put, List.setIfInBounds_toArray, List.set_cons_zero, List.set_cons_succ, List.getElem_toArray, List.getElem_cons_succ, List.getElem_cons_zero]
      refine wpAnyH_ready (rs := [14]) (by kernel_rfl) (by simp) ?_
      refine AllReadyH.cons (o := _) rfl (fun K hK => ?_) AllReadyH.nil
      have hH2 := hHeld
      have kk := hH2
      have hg : wr.drew.grownBy (wr.drew.alloc (.cells #[.int .i64 x, .int .i64 y] 2)) none := World.grownBy_alloc _ _ _
      have L14 := hid (show (Lk1 w xb c B1 s ((wr.drew.alloc (.cells #[.int .i64 x, .int .i64 y] 2)))) from (kk.grown hg))
      have Niv2 := hid (show IntsAt ((wr.drew.alloc (.cells #[.int .i64 x, .int .i64 y] 2))) (.slice (some ⟨wr.heap.size, 0, none⟩) 2 2) [x, y] from lit_new _ [x, y] _ rfl 2 rfl (le_max _ (by decide)))
      clear hHeld hg kk
      try simp only [List.getElem_toArray, List.getElem_cons_succ, List.getElem_cons_zero]
      go_simp
      refine hK.out _ _ ?_ (fun hHeld => ?_)
      · exact L14.out
      clear hK K
      try dsimp only at hHeld
      try simp only [Act.put, List.setIfInBounds_toArray, List.set_cons_zero, List.set_cons_succ, List.getElem_toArray, List.getElem_cons_succ, List.getElem_cons_zero]
      refine held_stronger (S' := fun w' => (fun w' => IntsAt w' (.slice (some ⟨wr.heap.size, 0, none⟩) 2 2) [x, y]) w' ∧ ((fun w' => (Lk1 w xb c B1 s w'))) w') (fun _ h => h.2) _ _ _ _ ?_
      replace hHeld := And.intro Niv2.out hHeld
      try dsimp only at hHeld
      refine' wpAnyH_take (i := 17) (v := _) rfl (by kernel_rfl) (by kernel_rfl) (by kernel_rfl) (fun _ _ _ h => h) (Or.inl ⟨by rfl, ?_⟩) hHeld ?_
      rotate_left
      · (intro w hSw; (try dsimp only at hSw); go_simp; try with_reducible rfl)
      try simp only [Act.put, List.setIfInBounds_toArray, List.set_cons_zero, List.set_cons_succ, List.getElem_toArray, List.getElem_cons_succ, List.getElem_cons_zero]
      refine' wpAnyH_take (i := 18) (v := _) rfl (by kernel_rfl) (by kernel_rfl) (by kernel_rfl) (fun _ _ _ h => h) (Or.inl ⟨by rfl, ?_⟩) hHeld ?_
      rotate_left
      · (intro w hSw; (try dsimp only at hSw); go_simp; try with_reducible rfl)
      try simp only [Act.put, List.setIfInBounds_toArray, List.set_cons_zero, List.set_cons_succ, List.getElem_toArray, List.getElem_cons_succ, List.getElem_cons_zero]
      refine wpAnyH_done (by kernel_rfl) ?_ _
      obtain ⟨iv2, kk⟩ := hHeld
      refine exit_gen (fun wx => (Lk1 w xb c B1 s wx) ∧ IntsAt wx (.slice (some ⟨wr.heap.size, 0, none⟩) 2 2) [x, y]) ⟨kk, iv2⟩ (fun WV hKx => ?_)
      have K := hid hKx.1; have IV2 := hid hKx.2; clear hKx kk iv2
      generalize wr.heap.size = vb at *
      have HVL := hid (two_len (m := m) (x := x) (y := y) m2)
      have IV := hid (ints_slice0 IV2.out m2)
      obtain ⟨vs, hvs⟩ : ∃ l, [x, y].take m = l := ⟨_, rfl⟩
      rw [hvs] at HVL IV HXY
      clear hvs IV2
      have HTL := hid (show s.tg.length = m by rw [LF.out.tg]; exact tgOf_len c (by omega))
      obtain ⟨hmay, hwant⟩ := La.take K.out.k.at1.ok (HVL.out.trans HTL.out.symm) HXY.out
      have hful := topK_full (c := s.n) (l := s.tol) HVL.out HTL.out
      rw [← hwant] at hful
      have HMAY := hid hmay; have HFUL := hid hful; clear hmay hwant hful
      have sb := La.n_in K.out.k.at1.ok
      have HSB := hid sb
      clear sb
      have h0 := topK_zero s.n s.tol vs s.tg
      have HZ := hid h0
      clear h0
      go_wp2_with fail
      go_loopw [13, 14] (fun x' j wr' => ∃ jj : Nat, jj ≤ m ∧ j = .int .i64 (jj : Int) ∧ x' = .int .i64 (topK s.n s.tol vs s.tg jj) ∧ Lk1 w xb c B1 s wr' ∧ IntsAt wr' (.slice (some ⟨vb, 0, none⟩) m 2) vs) (fun _ j _ => m - (intOf j).toNat)
      case atStart => exact ⟨0, Nat.zero_le _, rfl, by rw [HZ.out], K.out, IV.out⟩
      case round =>
        obtain ⟨jj, hj, rfl, rfl, hK2, hI2⟩ := hrel
        replace K := hid hK2; replace IV := hid hI2; clear hK2 hI2
        have cm : wr.cell? ⟨xb, 2, none⟩ = some (.int .i64 (m : Int)) := (at_cell K.out.box 2).trans (congrArg (fun z => some (Value.int .i64 z)) HM.out)
        by_cases hjt : jj < m
        · have HJT := hid hjt
          have hjv : jj < vs.length := by rw [HVL.out]; exact hjt
          have hjg : jj < (tgOf c m).length := by rw [tgOf_len c (by omega)]; exact hjt
          have hx := List.getElem?_eq_getElem hjv
          have hy := List.getElem?_eq_getElem hjg
          generalize vs[jj] = X at hx
          generalize (tgOf c m)[jj] = Y at hy
          have qx := IV.out.cell' hx
          rw [Nat.zero_add] at qx
          have qy := tg_cell K.out.box (by omega) hy
          have qt := at_cell K.out.box 11
          have hs := topK_next (c := s.n) (l := s.tol) (ts := s.tg) hx (show s.tg[jj]? = some Y by rw [LF.out.tg]; exact hy)
          have W0 := hid (fun w => rwant_any s.n X Y c.tol w)
          rw [LF.out.tol] at hs
          rw [LF.out.tol]
          have HS := hid hs
          clear hs hx hy hjv hjg
          generalize raWant s.n X Y c.tol = z at *
          generalize topK s.n c.tol vs s.tg jj = r at *
          have j4 : jj < 4 := by omega
          have i1 : (jj : Int) < (m : Int) := by omega
          have i2 : (jj : Int) < 4 := by omega
          have i3 : (jj : Int) < 2 := by omega
          have i4 : jj < 2 := by omega
          clear hj
          go_wp2_with fail
          go_quiet ((go_at_call 10; exact Calls.quiet_of_same (still_of (W0.out _))))
          go_wp2_with fail
          go_roundw
          case rel => exact ⟨jj + 1, by have := HJT.out; omega, by go_num, by rw [HS.out], K.out.grown ⟨rfl, rfl, rfl, Nat.le_refl _, fun _ _ _ => rfl⟩, IV.out.grown ⟨rfl, rfl, rfl, Nat.le_refl _, fun _ _ _ => rfl⟩⟩
          case measure => have := HJT.out; simp [intOf]; omega
        · obtain rfl : jj = m := by omega
          clear hj hjt
          rw [HFUL.out]
          obtain ⟨va, hva⟩ : ∃ v, s.come vs = v := ⟨_, rfl⟩
          obtain ⟨vb2, hvb⟩ : ∃ v, s.want vs = v := ⟨_, rfl⟩
          obtain ⟨t, ht⟩ : ∃ v, s.next vs = v := ⟨_, rfl⟩
          have hcm := LF.out.come K.out.k.at1.ok vs
          rw [hva] at hcm
          obtain ⟨b0, b1⟩ := hcm
          have HTN := hid (show t.n = va by rw [← ht]; exact hva)
          have HTF := hid (show Lof c jj t by rw [← ht]; exact LF.out.next K.out.k.at1.ok vs)
          have HVA := hid hva; have HVB := hid hvb; have HT := hid ht
          clear hva ht
          rw [hvb]
          clear hvb
          go_wp2_with fail
          refine (lnext_as K.out.k.at1 IV.out HMAY.out HVA.out HVB.out HT.out).mono ?_
          rintro e w4 ⟨rfl, hl, hc⟩
          replace K := hid (K.out.chg hl hc); clear hl hc cm
          have c12 := at_cell K.out.box 12
          have c13 := at_cell K.out.box 13
          have sa : (va == va) = true := by simp
          have sb : (vb2 == vb2) = true := by simp
          have d0 : decide (va < c.min) = false := by simp; omega
          have d1 : decide (c.max < va) = false := by simp; omega
          go_wp2_with fail
          refine (lcount_as K.out.k.at1 HTN.out).mono ?_
          rintro e w6 ⟨rfl, rfl⟩
          go_wp2_with fail
          go_roundw
          case rel => exact ⟨k + 1, by have := HLT.out; omega, by go_num, _, K.out, HTF.out⟩
          case measure => have := HLT.out; simp [intOf]; omega
    · obtain rfl : k = mm := by omega
      clear hlt
      rcases HMM.out.2.2 with e | ⟨e1, e2⟩
      · have j1 : ¬ k < n := by omega
        clear e
        clear hk
        go_wp2_with fail
        refine (ltold_any _).mono ?_
        rintro e w5 ⟨rfl, hg⟩
        replace K := hid (K.out.grown hg); clear hg
        go_wp2_with fail
        go_ret
        exact ⟨rfl, K.out.k.gr⟩
      · have j1 : k < n := by omega
        have j2 : ¬ k < 30 := by omega
        clear e1 e2
        clear hk
        go_wp2_with fail
        refine (ltold_any _).mono ?_
        rintro e w5 ⟨rfl, hg⟩
        replace K := hid (K.out.grown hg); clear hg
        go_wp2_with fail
        go_ret
        exact ⟨rfl, K.out.k.gr⟩
end Go.Proofs.Ythobbekocimcnaa.lbounds
