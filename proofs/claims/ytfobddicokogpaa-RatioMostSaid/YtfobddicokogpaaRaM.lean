/-
  Contracts: Most, of the program and of the document: the greatest of what several want. The condition: slices that read as numbers.
-/
import Derived.Test.YtfobddicokogpaaRaA
import Derived.Test.YtfobddicokogpaaKf
import Derived.StillTailTactics
set_option linter.unusedSimpArgs false
set_option linter.unusedVariables false
namespace Go.Proofs.Ytfobddicokogpaa
set_option maxRecDepth 100000
open Go.RowKit

set_option maxHeartbeats 1600000 in
theorem rmost_any (c l : Int) (v u : Value) (vs ts : List Int) (w : World) (h : IntsAt w v vs) (h2 : IntsAt w u ts) :
    Calls Try.prog 10 #[.int .i64 c, v, u, .int .i64 l] w fun e w' => e = .returned (.tuple #[.int .i64 (raMost c vs ts l).1, .bool (raMost c vs ts l).2]) ∧ w.grownBy w' none := by
  have IV := hid h; have IT := hid h2
  obtain ⟨pv, cv, rfl⟩ := h.form
  obtain ⟨pt, ct, rfl⟩ := h2.form
  have lv := h.len; have lt := h2.len
  unfold maxLen at lv lt
  obtain ⟨n, hn⟩ : ∃ n, vs.length = n := ⟨_, rfl⟩
  obtain ⟨m, hm⟩ : ∃ n, ts.length = n := ⟨_, rfl⟩
  rw [hn] at IV lv ⊢
  rw [hm] at IT lt ⊢
  clear h h2
  by_cases h0 : n = 0
  · rw [raMost_len (.inl (hn.trans h0))]
    have d0 : ((n : Int) == 0) = true := by subst h0; rfl
    clear hn hm h0 IV IT
    go_enter Try.func10, Try.ntmps10
    go_wp2_with fail
    go_ret2
    exact ⟨rfl, .refl w none⟩
  have d0 : ((n : Int) == 0) = false := by simp; omega
  by_cases h1 : n = m
  rotate_left
  · rw [raMost_len (.inr (by rw [hn, hm]; exact h1))]
    have d1 : ((n : Int) == (m : Int)) = false := by simp; omega
    clear hn hm h0 h1 IV IT
    go_enter Try.func10, Try.ntmps10
    go_wp2_with fail
    go_ret2
    exact ⟨rfl, .refl w none⟩
  subst h1
  have d1 : ((n : Int) == (n : Int)) = true := by simp
  have HNV := hid hn; have HNT := hid hm
  have HM0 := hid (fun (ha : raAll c l vs ts = false) => raMost_bad ha)
  have HM1 := hid (fun (ha : raAll c l vs ts = true) => raMost_ok (c := c) (l := l) (show vs.length ≠ 0 by omega) (by omega) ha)
  obtain ⟨R, hR⟩ : ∃ R, raMost c vs ts l = R := ⟨_, rfl⟩
  rw [hR] at HM0 HM1 ⊢
  clear hn hm hR h0
  have HC := hid (at_new w (.cells #[.int .i64 0] 45))
  have HG := hid (World.grownBy_alloc w (.cells #[.int .i64 0] 45) none)
  go_enter Try.func10, Try.ntmps10
  go_wp2_with fail
  go_loopw [11, 12, 13, 14, 27] (fun _ _ _ _ i wr => ∃ k : Nat, k ≤ n ∧ i = .int .i64 (k : Int) ∧ wr.heap[w.heap.size]? = some (.cells #[.int .i64 (topK c l vs ts k)] 45) ∧ allK c l vs ts k = true ∧ w.grownBy wr none) (fun _ _ _ _ i _ => n - (intOf i).toNat)
  case atStart => exact ⟨0, Nat.zero_le _, rfl, by rw [topK_zero]; exact HC.out, allK_zero .., HG.out⟩
  case round =>
    obtain ⟨k, hk, rfl, hb, ha, hgr⟩ := hrel
    have HBL := hid hb; have HGR := hid hgr; have HA := hid ha
    have c0 := at_cell hb 0
    have f0 := at_free hb 0
    clear hb hgr HC HG ha
    by_cases hlt : k < n
    · have hkv : k < vs.length := by rw [HNV.out]; exact hlt
      have hkt : k < ts.length := by rw [HNT.out]; exact hlt
      obtain ⟨ab, ao, rfl, -, hcv, hcellv⟩ := (IV.out.grown HGR.out).cell hkv
      obtain ⟨bb, bo, rfl, -, hct, hcellt⟩ := (IT.out.grown HGR.out).cell hkt
      have hx := List.getElem?_eq_getElem hkv
      have hy := List.getElem?_eq_getElem hkt
      generalize vs[k] = x at *
      generalize ts[k] = y at *
      have hs := topK_next (c := c) (l := l) hx hy
      have hs2 := allK_next (c := c) (l := l) hx hy
      rw [HA.out, Bool.true_and] at hs2
      have b1 := topK_bound c l vs ts k
      have b2 := raWant_bound c x y l
      have W0 := hid (fun w => wanted_any c x y l w)
      clear hx hy
      cases ho : raOk c x y l with
      | false =>
        rw [ho] at W0 hs2
        have HR := hid (HM0.out (raAll_cut c l vs ts (k + 1) (HNV.out.trans HNT.out.symm) hs2))
        clear hs hs2 b1 b2 HBL ho
        generalize raWant c x y l = z at *
        go_wp2_with fail
        refine (W0.out _).mono ?_
        rintro e w2 ⟨rfl, rfl⟩
        clear W0
        go_wp2_with fail
        go_ret2
        obtain rfl := HR.out
        exact ⟨rfl, HGR.out⟩
      | true =>
        rw [ho] at W0 hs2
        have HS := hid hs; have HS2 := hid hs2
        clear hs hs2 ho
        generalize raWant c x y l = z at *
        generalize topK c l vs ts k = r at *
        obtain ⟨d, hd⟩ : ∃ d, z - r = d := ⟨_, rfl⟩
        have e1 : IntKind.i64.wrap (z - r) = d := by rw [hd]; exact IntWalk.i64_in _ (by omega)
        have HD := hid hd
        have L0 := hid (load_i64 _ _ _ c0)
        have A0 := hid (fun (x' : Int) (hx : x' = max 0 d) => addn_i64 _ _ x' (max r z) _ c0 f0 (by rw [hx, show r + max 0 d = max r z by omega]; exact IntWalk.i64_in _ (by omega)))
        have ht := hid (at_set HBL.out 0 (.int .i64 (max r z)))
        have hg2 := hid (gb_new HGR.out (p := ⟨w.heap.size, 0, none⟩) (Nat.le_refl _) (.int .i64 (max r z)))
        clear HBL HGR hd c0 f0
        go_wp2_with fail
        refine (W0.out _).mono ?_
        rintro e w2 ⟨rfl, rfl⟩
        clear W0
        go_wp2_with fail
        refine L0.out.mono ?_
        rintro e w2 ⟨rfl, rfl⟩
        clear L0
        go_wp2_with fail
        all_goals (refine (A0.out _ (by omega)).mono ?_; rintro e w2 ⟨rfl, hw⟩; subst hw; clear A0; go_wp2_with fail; go_roundw)
        all_goals first | (case rel => exact ⟨k + 1, by omega, by go_num, by rw [HS.out]; exact ht.out, HS2.out, hg2.out⟩) | (case measure => simp [intOf]; omega)
    · obtain rfl : k = n := by omega
      have hA : raAll c l vs ts = true := by rw [← allK_full HNV.out HNT.out]; exact HA.out
      have HR := hid (HM1.out hA)
      rw [topK_full HNV.out HNT.out] at c0
      have L0 := hid (load_i64 _ _ _ c0)
      have b1 := raTop_bound c l vs ts
      generalize raTop c l vs ts = z at *
      have e1 : IntKind.i64.wrap z = z := IntWalk.i64_in _ (by omega)
      clear HBL c0 f0 hA
      go_wp2_with fail
      refine L0.out.mono ?_
      rintro e w2 ⟨rfl, rfl⟩
      clear L0
      go_wp2_with fail
      go_ret2
      obtain rfl := HR.out
      exact ⟨rfl, HGR.out⟩
end Go.Proofs.Ytfobddicokogpaa
