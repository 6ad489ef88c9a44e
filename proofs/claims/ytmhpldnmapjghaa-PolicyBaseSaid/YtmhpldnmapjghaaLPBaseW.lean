/-
  The walk of the statement PolicyBase: the base is the count of just so many epochs ago as the period has. No condition.
-/
import Derived.Test.YtmhpldnmapjghaaPoG
import Derived.BigQuiet
import Derived.Deep.QuietTactic
import Derived.Test.YtmhpldnmapjghaaHeld
import Derived.Deep.RegionHeld3
set_option linter.unusedSimpArgs false
set_option linter.unusedVariables false
namespace Go.Proofs.Ytmhpldnmapjghaa.pbase
set_option maxRecDepth 100000
open Go.RowKit

structure Pb (w : World) (B x : Nat) (c : Conf) (b : Nat) (p : Po) (v : Value) (A : List Int) (W : World) : Prop where
  k : Pc1 w x c b p W
  o : OwnN B W v A
  wB : w.heap.size ≤ B
  xB : x < B
  bB : b < B
  BW : B ≤ W.heap.size
section
variable {w W W' : World} {B x : Nat} {c : Conf} {b : Nat} {p p' : Po} {v v' : Value} {A A' : List Int}
theorem Pb.grown (h : Pb w B x c b p v A W) (hg : W.grownBy W' none) : Pb w B x c b p v A W' := ⟨h.k.grown hg, h.o.grown hg, h.wB, h.xB, h.bB, Nat.le_trans h.BW hg.size⟩
theorem Pb.drew (h : Pb w B x c b p v A W) : Pb w B x c b p v A W.drew := ⟨h.k.drew, h.o.drew, h.wB, h.xB, h.bB, h.BW⟩
theorem Pb.own (h : Pb w B x c b p v A W) {g : Nat} (e : v.ownBlock = some g) : B ≤ g := (h.o.at g (by simp [ownL, e])).1
theorem Pb.chg (h : Pb w B x c b p v A W) (hc : PoAt W' b p') (hg : Chg [b] W W') : Pb w B x c b p' v A W' :=
  ⟨h.k.chg hc hg, h.o.chg hg (fun g hm e => by
    rw [List.mem_singleton] at e; subst e
    have := (h.o.at _ hm).1
    have := h.bB
    omega), h.wB, h.xB, h.bB, Nat.le_trans h.BW hg.size⟩
theorem Pb.app (h : Pb w B x c b p v A W) (ho : OwnN B W' v' A') (hg : W.grownBy W' v.ownBlock) : Pb w B x c b p v' A' W' := by
  have hx := h.xB; have hb := h.bB; have hw := h.wB
  cases hv : v.ownBlock with
  | none =>
    rw [hv] at hg
    exact ⟨h.k.grown hg, ho, hw, hx, hb, Nat.le_trans h.BW hg.size⟩
  | some g =>
    have hB := h.own hv
    rw [hv] at hg
    have hc := chg_row hg
    exact ⟨⟨gb_trans h.k.gr hg (.inr (.inr ⟨g, rfl, by omega⟩)), hc.at h.k.box (by simp; omega), h.k.at1.chg hc (by simp; omega), h.k.lo, h.k.nx⟩, ho, hw, hx, hb, Nat.le_trans h.BW hg.size⟩
end
theorem last_put (A : List Int) (f : Int) (P : Nat) (h : 1 ≤ P) : lastL (lastL A P ++ [f]) P = lastL (A ++ [f]) P := by
  obtain ⟨K, rfl⟩ : ∃ K, P = K + 1 := ⟨P - 1, by omega⟩
  rw [lastL_snoc, lastL_snoc, lastL_lastL _ (Nat.le_succ K)]
set_option maxHeartbeats 6400000 in
theorem walk {w : World} (l : List Int) (p : Option Addr) (cap : Nat) (i0 : IntsAt w (.slice p l.length cap) l) (lk : List Int) (p1 : Option Addr) (c1 : Nat) (i1 : IntsAt w (.slice p1 lk.length c1) lk) :
    Calls Try.prog 7 #[.slice p l.length cap, .slice p1 lk.length c1] w fun e w' => e = .returned (.bool true) ∧ w.grownBy w' none := by
  have nl := i1.len
  unfold maxLen at nl
  obtain ⟨n, hn⟩ : ∃ n, lk.length = n := ⟨_, rfl⟩
  rw [hn] at i1 nl ⊢
  have Hn := hid hn; have In := hid i1
  clear hn i1
  obtain ⟨m, hm⟩ : ∃ m : Nat, m = min n 20 := ⟨_, rfl⟩
  have HM := hid (show m ≤ n ∧ m ≤ 20 ∧ (m = n ∨ (m < n ∧ m = 20)) by omega)
  clear hm
  go_enter Try.func7, Try.ntmps7
  go_wp2_with fail
  refine (fit_any l p cap _ i0).mono ?_
  rintro e w1 ⟨c, rfl, hF, hg⟩
  have HF := hid hF; have C0 := hid (cfx_new c hg); clear hg hF
  have HOK := hid (fine_ok HF.out)
  have fm := HF.out.min; have fx := HF.out.max; have fp := HF.out.period
  obtain ⟨P, hP⟩ : ∃ P : Nat, c.period = (P : Int) := ⟨c.period.toNat, by omega⟩
  have HP := hid (show c.period = (P : Int) ∧ 1 ≤ P ∧ P ≤ 4 from ⟨hP, by omega, by omega⟩)
  have NP1 := hid (pnew_ok c c.min (fine_may HF.out) (in_of (Int.le_refl _) fx.1))
  clear fm fx fp hP
  have hbx := C0.out.box
  have c9 := at_cell hbx 12
  clear hbx
  go_wp2_with (first | refine wpList_store_new (w := w1) (cs := c.cells) rfl (by kernel_rfl) (by kernel_rfl) (by kernel_rfl) rfl rfl rfl rfl rfl ?_ | refine wpList_conf C0.out.box rfl rfl rfl rfl ?_)
  refine (NP1.out _).mono ?_
  rintro e w2 ⟨b, rfl, hp, hg, hb⟩
  have K := hid (Pc1.start C0.out hp hg hb)
  have HX := hid (show w1.heap.size < b by have := at_lt C0.out.box; omega)
  clear hp hg hb c9 C0
  generalize w1.heap.size = xb at *
  have hbx := K.out.box
  have c9 := at_cell hbx 12
  clear hbx
  go_wp2_with fail
  clear c9
  have TG := hid (show Pb w w2.heap.size xb c b ⟨rt c, lastL [c.min] P⟩ (.slice (some ⟨w2.heap.size, 0, none⟩) 1 1) [c.min] (w2.alloc (.cells #[.int .i64 c.min] 3)) from
    ⟨by rw [lastL_all (by simp; exact HP.out.2.1)]; exact K.out.grown (World.grownBy_alloc _ _ _), own_nums [c.min] (at_new w2 _) (le_max _ (by simp)) (Nat.le_refl _), K.out.gr.size, Nat.lt_trans HX.out K.out.at1.lt, K.out.at1.lt, by rw [size_la]; omega⟩)
  generalize w2.heap.size = B at *
  go_loopw [7, 8] (fun v i wr => ∃ k : Nat, k ≤ m ∧ i = .int .i64 (k : Int) ∧ ∃ A : List Int, Pb w B xb c b ⟨rt c, lastL A P⟩ v A wr ∧ A.length = k + 1) (fun _ i _ => m - (intOf i).toNat)
  case atStart => exact ⟨0, Nat.zero_le _, rfl, _, TG.out, rfl⟩
  case round =>
    clear TG K
    skip
    obtain ⟨k, hk, rfl, A, hK, hA⟩ := hrel
    have TG := hid hK; have HA := hid hA; clear hK hA
    by_cases hlt : k < m
    · have HLT := hid hlt
      have hkl : k < lk.length := by rw [Hn.out]; have := HM.out; omega
      obtain ⟨ab, ao, rfl, -, hcc, -⟩ := (In.out.grown TG.out.k.gr).cell hkl
      have hx0 := List.getElem?_eq_getElem hkl
      generalize lk[k] = q at *
      have CM := hid (fun (W : World) (hg : w.grownBy W none) => (In.out.grown hg).cell' hx0)
      clear hx0
      have j1 : k < n := by have := HM.out; omega
      have j2 : k < 20 := by have := HM.out; omega
      have j1' : (k : Int) < (n : Int) := by omega
      clear hlt hk
      obtain ⟨d0, D, hd0, hD, hDu, hD0, hx⟩ := draw_in HF.out
      have hDn : ¬ D = 0 := by omega
      obtain ⟨z, f, hz, hzu, hzi, hf, f0, f1⟩ := hx q
      clear hx
      have INF := hid (show (⟨rt c, lastL A P⟩ : Po).in f = true from in_of (r := rt c) f0 f1)
      have EA := hid (show ((⟨rt c, lastL A P⟩ : Po).put f).2 = ⟨rt c, lastL (A ++ [f]) P⟩ by
        rw [Po.put_yes INF.out]
        show Po.mk (rt c) (lastL (lastL A P ++ [f]) c.period.toNat) = _
        rw [HP.out.1, Int.toNat_natCast, last_put A f P HP.out.2.1])
      clear f0 f1
      go_wp2_with fail
      have q9 := CM.out _ TG.out.k.gr
      have hbx := TG.out.k.box
      have c9 := at_cell hbx 12; have c10 := at_cell hbx 13
      clear hbx
      go_quiet (fail)
      refine exit_gen (fun wx => Pb w B xb c b ⟨rt c, lastL A P⟩ _ A wx) (TG.out.grown ⟨rfl, rfl, rfl, Nat.le_refl _, fun _ _ _ => rfl⟩) (fun wx hKx => ?_)
      replace TG := hid hKx
      clear hKx q9 c9 c10 hd0 hD hDu hD0 hDn hz hzu hzi hf
      go_wp2_with fail
      refine (pput_as TG.out.k.at1 INF.out EA.out).mono ?_
      rintro e w4 ⟨rfl, hc', hg⟩
      replace TG := hid (TG.out.chg hc' hg); clear hc' hg
      have TG1 := hid (TG.out.grown (World.grownBy_alloc w4 (.cells #[.int .i64 f] 3) none))
      have CY := hid (at_cell (at_new w4 (.cells #[.int .i64 f] 3)) 0)
      go_wp2_with (refine append_num rfl _ _ rfl B _ A rfl TG1.out.o _ f rfl CY.out (by have h1 := HA.out; have h2 := HM.out; have h3 := HLT.out; omega) TG1.out.BW ?_; intro v2 WA hown hgrow hat; replace TG := hid (TG1.out.app hown hgrow); clear hown hgrow hat TG1 CY)
      have HA2 := hid (show (A ++ [f]).length = k + 1 + 1 by rw [List.length_append, HA.out]; rfl)
      generalize A ++ [f] = A2 at *
      obtain ⟨J, hJ⟩ : ∃ J : Nat, J = k + 1 + 1 - P := ⟨_, rfl⟩
      have hJl : J < A2.length := by rw [HA2.out]; have := HP.out.2.1; omega
      obtain ⟨y, hy⟩ : ∃ y, A2[J] = y := ⟨_, rfl⟩
      have hJx : A2[J]? = some y := by rw [List.getElem?_eq_getElem hJl, hy]
      have HJ := hid hJx
      have HZ := hid (show (⟨rt c, lastL A2 P⟩ : Po).base = y by
        show (lastL A2 P).headD 0 = y
        unfold lastL
        rw [HA2.out, ← hJ, List.headD_eq_head?_getD, List.head?_drop, hJx]; rfl)
      obtain ⟨M, hM⟩ : ∃ M : Nat, M = min P (k + 1 + 1) := ⟨_, rfl⟩
      have HM2 := hid (show (lastL A2 P).length = M by rw [lastL_len, HA2.out, hM])
      obtain ⟨pv, cv, rfl⟩ := TG.out.o.form
      obtain ⟨vb, vo, rfl, -, hcv, -⟩ := TG.out.o.ints.cell hJl
      rw [HA2.out] at hJl hcv TG ⊢
      obtain ⟨N, hN⟩ : ∃ N : Nat, k + 1 + 1 = N := ⟨_, rfl⟩
      have HN := hid hN
      rw [hN] at hJl hJ hM hcv TG HA2 ⊢
      have hp := HP.out
      have hk20 := HM.out; have hlt := HLT.out
      obtain ⟨t, ht⟩ : ∃ t, (N : Int) - c.period = t := ⟨_, rfl⟩
      have s9 : IntKind.i64.wrap ((N : Int) - c.period) = t := by rw [ht]; exact IntWalk.i64_in _ (by omega)
      have e9 : max t 0 = (J : Int) := by omega
      have e10 : min (N : Int) c.period = (M : Int) := by omega
      have sy : (y == y) = true := by simp
      have sM : ((M : Int) == (M : Int)) = true := by simp
      have iJ : (J : Int) < (N : Int) := by omega
      clear ht hN hJ hM hp hk20 hlt hy hJx j1 j2 j1' EA INF CM
      go_wp2_with fail
      replace TG := hid TG.out.drew
      refine wp_region_held_drew (S := (fun w' => (Pb w B xb c b ⟨rt c, lastL A2 P⟩ (.slice (some ⟨vb, vo, none⟩) N cv) A2 w'))) (by kernel_rfl) TG.out (fun hHeld => ?_)
      try dsimp only at hHeld
      refine' wpAnyH_take (i := 0) (v := _) rfl (by kernel_rfl) (by kernel_rfl) (by kernel_rfl) (fun _ _ _ h => h) (Or.inl ⟨by rfl, ?_⟩) hHeld ?_
      rotate_left
      · (intro w hSw; (try dsimp only at hSw); go_simp; try with_reducible rfl)
      try simp only [Act.put, List.setIfInBounds_toArray, List.set_cons_zero, List.set_cons_succ, List.getElem_toArray, List.getElem_cons_succ, List.getElem_cons_zero]
      refine' wpAnyH_take (i := 2) (v := _) rfl (by kernel_rfl) (by kernel_rfl) (by kernel_rfl) (fun _ _ _ h => h) (Or.inl ⟨by rfl, ?_⟩) hHeld ?_
      rotate_left
      · (intro w hSw; (try dsimp only at hSw); go_simp; try with_reducible rfl)
      try simp only [Act.put, List.setIfInBounds_toArray, List.set_cons_zero, List.set_cons_succ, List.getElem_toArray, List.getElem_cons_succ, List.getElem_cons_zero]
      refine' wpAnyH_take (i := 3) (v := _) rfl (by kernel_rfl) (by kernel_rfl) (by kernel_rfl) (fun _ _ _ h => h) (Or.inl ⟨by rfl, ?_⟩) hHeld ?_
      rotate_left
      · (intro w hSw; (try dsimp only at hSw); go_simp; try with_reducible rfl)
      try simp only [Act.put, List.setIfInBounds_toArray, List.set_cons_zero, List.set_cons_succ, List.getElem_toArray, List.getElem_cons_succ, List.getElem_cons_zero]
      refine' wpAnyH_take (i := 4) (v := _) rfl (by kernel_rfl) (by kernel_rfl) (by kernel_rfl) (fun _ _ _ h => h) (Or.inl ⟨by rfl, ?_⟩) hHeld ?_
      rotate_left
      · (intro w hSw; (try dsimp only at hSw); go_simp; try with_reducible rfl)
      try simp only [Act.put, List.setIfInBounds_toArray, List.set_cons_zero, List.set_cons_succ, List.getElem_toArray, List.getElem_cons_succ, List.getElem_cons_zero]
      refine' wpAnyH_take (i := 5) (v := _) rfl (by kernel_rfl) (by kernel_rfl) (by kernel_rfl) (fun _ _ _ h => h) (Or.inl ⟨by rfl, ?_⟩) hHeld ?_
      rotate_left
      · (intro w hSw; (try dsimp only at hSw); go_simp; try with_reducible rfl)
      try simp only [Act.put, List.setIfInBounds_toArray, List.set_cons_zero, List.set_cons_succ, List.getElem_toArray, List.getElem_cons_succ, List.getElem_cons_zero]
      refine' wpAnyH_take (i := 6) (v := _) rfl (by kernel_rfl) (by kernel_rfl) (by kernel_rfl) (fun _ _ _ h => h) (Or.inl ⟨by rfl, ?_⟩) hHeld ?_
      rotate_left
      · (intro w hSw; (try dsimp only at hSw); have K := hSw; have q9 := at_cell K.k.box 20; go_simp; try with_reducible rfl)
      try simp only [Act.put, List.setIfInBounds_toArray, List.set_cons_zero, List.set_cons_succ, List.getElem_toArray, List.getElem_cons_succ, List.getElem_cons_zero]
      refine' wpAnyH_take (i := 7) (v := _) rfl (by kernel_rfl) (by kernel_rfl) (by kernel_rfl) (fun _ _ _ h => h) (Or.inl ⟨by rfl, ?_⟩) hHeld ?_
      rotate_left
      · (intro w hSw; (try dsimp only at hSw); go_simp; try with_reducible rfl)
      try simp only [Act.put, List.setIfInBounds_toArray, List.set_cons_zero, List.set_cons_succ, List.getElem_toArray, List.getElem_cons_succ, List.getElem_cons_zero]
      refine' wpAnyH_take (i := 8) (v := _) rfl (by kernel_rfl) (by kernel_rfl) (by kernel_rfl) (fun _ _ _ h => h) (Or.inl ⟨by rfl, ?_⟩) hHeld ?_
      rotate_left
      · (intro w hSw; (try dsimp only at hSw); go_simp; try with_reducible rfl)
      try simp only [Act.put, List.setIfInBounds_toArray, List.set_cons_zero, List.set_cons_succ, List.getElem_toArray, List.getElem_cons_succ, List.getElem_cons_zero]
      refine' wpAnyH_take (i := 9) (v := _) rfl (by kernel_rfl) (by kernel_rfl) (by kernel_rfl) (fun _ _ _ h => h) (Or.inl ⟨by rfl, ?_⟩) hHeld ?_
      rotate_left
      · (intro w hSw; (try dsimp only at hSw); go_simp; try with_reducible rfl)
      try simp only [Act.put, List.setIfInBounds_toArray, List.set_cons_zero, List.set_cons_succ, List.getElem_toArray, List.getElem_cons_succ, List.getElem_cons_zero]
      refine' wpAnyH_take (i := 10) (v := _) rfl (by kernel_rfl) (by kernel_rfl) (by kernel_rfl) (fun _ _ _ h => h) (Or.inl ⟨by rfl, ?_⟩) hHeld ?_
      rotate_left
      · (intro w hSw; (try dsimp only at hSw); have K := hSw; have q9 := K.o.ints.cell' HJ.out; go_simp; try with_reducible rfl)
      try simp only [Act.put, List.setIfInBounds_toArray, List.set_cons_zero, List.set_cons_succ, List.getElem_toArray, List.getElem_cons_succ, List.getElem_cons_zero]
      refine wpAnyH_ready (rs := [1]) (by kernel_rfl) (by simp) ?_
      refine AllReadyH.cons (o := _) rfl (fun K hK => ?_) AllReadyH.nil
      try simp only [List.getElem_toArray, List.getElem_cons_succ, List.getElem_cons_zero]
      go_simp
      have hH2 := hHeld
      have K := hH2
      refine ((pbase_as K.k.at1 HZ.out)).mono ?_
      rintro e w1001 ⟨rfl, hg⟩
      have L1 := hid (show (Pb w B xb c b ⟨rt c, lastL A2 P⟩ (.slice (some ⟨vb, vo, none⟩) N cv) A2 w1001) from (K.grown hg))
      clear hHeld hg K
      go_wp2_with fail
      refine hK.out _ _ ?_ (fun hHeld => ?_)
      · exact L1.out
      clear hK K
      try dsimp only at hHeld
      try simp only [Act.put, List.setIfInBounds_toArray, List.set_cons_zero, List.set_cons_succ, List.getElem_toArray, List.getElem_cons_succ, List.getElem_cons_zero]
      refine' wpAnyH_take (i := 11) (v := _) rfl (by kernel_rfl) (by kernel_rfl) (by kernel_rfl) (fun _ _ _ h => h) (Or.inl ⟨by rfl, ?_⟩) hHeld ?_
      rotate_left
      · (intro w hSw; (try dsimp only at hSw); go_simp; try with_reducible rfl)
      try simp only [Act.put, List.setIfInBounds_toArray, List.set_cons_zero, List.set_cons_succ, List.getElem_toArray, List.getElem_cons_succ, List.getElem_cons_zero]
      refine' wpAnyH_take (i := 12) (v := _) rfl (by kernel_rfl) (by kernel_rfl) (by kernel_rfl) (fun _ _ _ h => h) (Or.inl ⟨by rfl, ?_⟩) hHeld ?_
      rotate_left
      · (intro w hSw; (try dsimp only at hSw); go_simp; try with_reducible rfl)
      try simp only [Act.put, List.setIfInBounds_toArray, List.set_cons_zero, List.set_cons_succ, List.getElem_toArray, List.getElem_cons_succ, List.getElem_cons_zero]
      refine' wpAnyH_take (i := 13) (v := _) rfl (by kernel_rfl) (by kernel_rfl) (by kernel_rfl) (fun _ _ _ h => h) (Or.inl ⟨by rfl, ?_⟩) hHeld ?_
      rotate_left
      · (intro w hSw; (try dsimp only at hSw); go_simp; try with_reducible rfl)
      try simp only [Act.put, List.setIfInBounds_toArray, List.set_cons_zero, List.set_cons_succ, List.getElem_toArray, List.getElem_cons_succ, List.getElem_cons_zero]
      refine' wpAnyH_take (i := 16) (v := _) rfl (by kernel_rfl) (by kernel_rfl) (by kernel_rfl) (fun _ _ _ h => h) (Or.inl ⟨by rfl, ?_⟩) hHeld ?_
      rotate_left
      · (intro w hSw; (try dsimp only at hSw); go_simp; try with_reducible rfl)
      try simp only [Act.put, List.setIfInBounds_toArray, List.set_cons_zero, List.set_cons_succ, List.getElem_toArray, List.getElem_cons_succ, List.getElem_cons_zero]
      refine' wpAnyH_take (i := 17) (v := _) rfl (by kernel_rfl) (by kernel_rfl) (by kernel_rfl) (fun _ _ _ h => h) (Or.inl ⟨by rfl, ?_⟩) hHeld ?_
      rotate_left
      · (intro w hSw; (try dsimp only at hSw); go_simp; try with_reducible rfl)
      try simp only [Act.put, List.setIfInBounds_toArray, List.set_cons_zero, List.set_cons_succ, List.getElem_toArray, List.getElem_cons_succ, List.getElem_cons_zero]
      refine' wpAnyH_take (i := 18) (v := _) rfl (by kernel_rfl) (by kernel_rfl) (by kernel_rfl) (fun _ _ _ h => h) (Or.inl ⟨by rfl, ?_⟩) hHeld ?_
      rotate_left
      · (intro w hSw; (try dsimp only at hSw); go_simp; try with_reducible rfl)
      try simp only [Act.put, List.setIfInBounds_toArray, List.set_cons_zero, List.set_cons_succ, List.getElem_toArray, List.getElem_cons_succ, List.getElem_cons_zero]
      refine' wpAnyH_take (i := 19) (v := _) rfl (by kernel_rfl) (by kernel_rfl) (by kernel_rfl) (fun _ _ _ h => h) (Or.inl ⟨by rfl, ?_⟩) hHeld ?_
      rotate_left
      · (intro w hSw; (try dsimp only at hSw); have K := hSw; have q9 := at_cell K.k.box 20; go_simp; try with_reducible rfl)
      try simp only [Act.put, List.setIfInBounds_toArray, List.set_cons_zero, List.set_cons_succ, List.getElem_toArray, List.getElem_cons_succ, List.getElem_cons_zero]
      refine' wpAnyH_take (i := 20) (v := _) rfl (by kernel_rfl) (by kernel_rfl) (by kernel_rfl) (fun _ _ _ h => h) (Or.inl ⟨by rfl, ?_⟩) hHeld ?_
      rotate_left
      · (intro w hSw; (try dsimp only at hSw); go_simp; try with_reducible rfl)
      try simp only [Act.put, List.setIfInBounds_toArray, List.set_cons_zero, List.set_cons_succ, List.getElem_toArray, List.getElem_cons_succ, List.getElem_cons_zero]
      refine wpAnyH_ready (rs := [14]) (by kernel_rfl) (by simp) ?_
      refine AllReadyH.cons (o := _) rfl (fun K hK => ?_) AllReadyH.nil
      try simp only [List.getElem_toArray, List.getElem_cons_succ, List.getElem_cons_zero]
      go_simp
      have hH2 := hHeld
      have K := hH2
      refine ((palls_len K.k.at1 M HM2.out)).mono ?_
      rintro e w1014 ⟨⟨q0, m0, rfl⟩, hg⟩
      have L14 := hid (show (Pb w B xb c b ⟨rt c, lastL A2 P⟩ (.slice (some ⟨vb, vo, none⟩) N cv) A2 w1014) from (K.grown hg))
      clear hHeld hg K
      go_wp2_with fail
      refine hK.out _ _ ?_ (fun hHeld => ?_)
      · exact L14.out
      clear hK K
      try dsimp only at hHeld
      try simp only [Act.put, List.setIfInBounds_toArray, List.set_cons_zero, List.set_cons_succ, List.getElem_toArray, List.getElem_cons_succ, List.getElem_cons_zero]
      refine' wpAnyH_take (i := 15) (v := _) rfl (by kernel_rfl) (by kernel_rfl) (by kernel_rfl) (fun _ _ _ h => h) (Or.inl ⟨by rfl, ?_⟩) hHeld ?_
      rotate_left
      · (intro w hSw; (try dsimp only at hSw); go_simp; try with_reducible rfl)
      try simp only [Act.put, List.setIfInBounds_toArray, List.set_cons_zero, List.set_cons_succ, List.getElem_toArray, List.getElem_cons_succ, List.getElem_cons_zero]
      refine' wpAnyH_take (i := 21) (v := _) rfl (by kernel_rfl) (by kernel_rfl) (by kernel_rfl) (fun _ _ _ h => h) (Or.inl ⟨by rfl, ?_⟩) hHeld ?_
      rotate_left
      · (intro w hSw; (try dsimp only at hSw); go_simp; try with_reducible rfl)
      try simp only [Act.put, List.setIfInBounds_toArray, List.set_cons_zero, List.set_cons_succ, List.getElem_toArray, List.getElem_cons_succ, List.getElem_cons_zero]
      refine' wpAnyH_take (i := 22) (v := _) rfl (by kernel_rfl) (by kernel_rfl) (by kernel_rfl) (fun _ _ _ h => h) (Or.inl ⟨by rfl, ?_⟩) hHeld ?_
      rotate_left
      · (intro w hSw; (try dsimp only at hSw); go_simp; try with_reducible rfl)
      try simp only [Act.put, List.setIfInBounds_toArray, List.set_cons_zero, List.set_cons_succ, List.getElem_toArray, List.getElem_cons_succ, List.getElem_cons_zero]
      refine wpAnyH_done (by kernel_rfl) ?_ _
      have K := hHeld
      have TG := hid K; clear K
      go_wp2_with fail
      go_roundw
      case rel => exact ⟨k + 1, by have := HLT.out; omega, by go_num, A2, TG.out, HA2.out.trans HN.out.symm⟩
      case measure => have := HLT.out; simp [intOf]; omega
    · obtain rfl : k = m := by omega
      clear hlt
      rcases HM.out.2.2 with e | ⟨e1, e2⟩
      · have j1 : ¬ k < n := by omega
        clear e
        clear hk
        go_wp2_with fail
        refine (told_any _).mono ?_
        rintro e w5 ⟨rfl, hg⟩
        replace TG := hid (TG.out.grown hg); clear hg
        go_wp2_with fail
        go_ret
        exact ⟨rfl, TG.out.k.gr⟩
      · have j1 : k < n := by omega
        have j2 : ¬ k < 20 := by omega
        clear e1 e2
        clear hk
        go_wp2_with fail
        refine (told_any _).mono ?_
        rintro e w5 ⟨rfl, hg⟩
        replace TG := hid (TG.out.grown hg); clear hg
        go_wp2_with fail
        go_ret
        exact ⟨rfl, TG.out.k.gr⟩
end Go.Proofs.Ytmhpldnmapjghaa.pbase
