/-
  Contract: the document's Most: the greatest of what several want. The condition: slices that read as numbers.
-/
import Derived.Test.YtfobddicokogpaaRaA
import Derived.Test.YtfobddicokogpaaKf
import Derived.BigQuiet
import Derived.Deep.QuietTactic
set_option linter.unusedSimpArgs false
set_option linter.unusedVariables false
namespace Go.Proofs.Ytfobddicokogpaa
set_option maxRecDepth 100000
open Go.RowKit

set_option maxHeartbeats 1600000 in
theorem rrmost_any (c l : Int) (v u : Value) (vs ts : List Int) (w : World) (h : IntsAt w v vs) (h2 : IntsAt w u ts) :
    Calls Try.prog 11 #[.int .i64 c, v, u, .int .i64 l] w fun e w' => e = .returned (.tuple #[.int .i64 (raMost c vs ts l).1, .bool (raMost c vs ts l).2]) ∧ w.grownBy w' none := by
  have IV := hid h; have IT := hid h2
  obtain ⟨pv, cv, rfl⟩ := h.form
  obtain ⟨pt, ct, rfl⟩ := h2.form
  have lv := h.len; have lt := h2.len
  unfold maxLen at lv lt
  obtain ⟨n, hn⟩ : ∃ n, vs.length = n := ⟨_, rfl⟩
  obtain ⟨m, hm⟩ : ∃ n, ts.length = n := ⟨_, rfl⟩
  rw [hn] at IV lv ⊢
  rw [hm] at IT lt ⊢
  clear h h2
  have hc := raAll_cnt (c := c) (l := l) (vs := vs) (ts := ts)
  by_cases h0 : n = 0
  · rw [raMost_len (.inl (hn.trans h0))]
    have d0 : ((n : Int) == 0) = true := by subst h0; rfl
    clear hn hm h0 IV IT hc
    go_enter Try.func11, Try.ntmps11
    go_wp2_with fail
    go_ret2
    exact ⟨rfl, .refl w none⟩
  have d0 : ((n : Int) == 0) = false := by simp; omega
  by_cases h1 : n = m
  rotate_left
  · rw [raMost_len (.inr (by rw [hn, hm]; exact h1))]
    have d1 : ((n : Int) == (m : Int)) = false := by simp; omega
    have d1' : ¬ (n : Int) = (m : Int) := by omega
    clear hn hm h0 IV IT hc
    go_enter Try.func11, Try.ntmps11
    go_wp2_with fail
    go_ret2
    exact ⟨rfl, .refl w none⟩
  subst h1
  have d1 : ((n : Int) == (n : Int)) = true := by simp
  have hc := hc (by omega) (by omega)
  by_cases h2 : c < 0
  · rw [raMost_bad (hc (by unfold raCnt; rw [decide_eq_false (by omega)]; rfl))]
    have d2 : decide (c < 0) = true := by simpa using h2
    clear hn hm h0 IV IT hc
    go_enter Try.func11, Try.ntmps11
    go_wp2_with fail
    go_ret2
    exact ⟨rfl, .refl w none⟩
  have d2 : decide (c < 0) = false := by simpa using h2
  by_cases h3 : 10000 < c
  · rw [raMost_bad (hc (by unfold raCnt; rw [decide_eq_false (show ¬ c ≤ 10000 by omega), Bool.and_false]))]
    have d3 : decide (10000 < c) = true := by simpa using h3
    clear hn hm h0 IV IT hc
    go_enter Try.func11, Try.ntmps11
    go_wp2_with fail
    go_ret2
    exact ⟨rfl, .refl w none⟩
  have d3 : decide (10000 < c) = false := by simpa using h3
  have hcnt : raCnt c = true := raCnt_iff.2 ⟨by omega, by omega⟩
  have HNV := hid hn; have HNT := hid hm
  have HM0 := hid (fun (ha : raAll c l vs ts = false) => raMost_bad ha)
  have HM1 := hid (fun (ha : raAll c l vs ts = true) => raMost_ok (c := c) (l := l) (show vs.length ≠ 0 by omega) (by omega) ha)
  obtain ⟨R, hR⟩ : ∃ R, raMost c vs ts l = R := ⟨_, rfl⟩
  rw [hR] at HM0 HM1 ⊢
  have HCN := hid hcnt
  clear hn hm hR h0 hc h2 h3 hcnt
  go_enter Try.func11, Try.ntmps11
  go_wp2_with fail
  go_loopw [10, 11] (fun s i wr => ∃ k : Nat, k ≤ n ∧ i = .int .i64 (k : Int) ∧ s = .int .i64 (topK c l vs ts k) ∧ allK c l vs ts k = true ∧ w.grownBy wr none) (fun _ i _ => n - (intOf i).toNat)
  case atStart => exact ⟨0, Nat.zero_le _, rfl, by rw [topK_zero], allK_zero .., .refl _ _⟩
  case round =>
    obtain ⟨k, hk, rfl, rfl, ha, hgr⟩ := hrel
    have HGR := hid hgr; have HA := hid ha
    clear hgr ha
    by_cases hlt : k < n
    · have hkv : k < vs.length := by rw [HNV.out]; exact hlt
      have hkt : k < ts.length := by rw [HNT.out]; exact hlt
      obtain ⟨ab, ao, rfl, -, hcv, hcellv⟩ := (IV.out.grown HGR.out).cell hkv
      obtain ⟨bb, bo, rfl, -, hct, hcellt⟩ := (IT.out.grown HGR.out).cell hkt
      have hx := List.getElem?_eq_getElem hkv
      have hy := List.getElem?_eq_getElem hkt
      generalize vs[k] = x at *
      generalize ts[k] = y at *
      have hs := topK_next (c := c) (l := l) hx hy
      have hs2 := allK_next (c := c) (l := l) hx hy
      rw [HA.out, Bool.true_and] at hs2
      have b1 := topK_bound c l vs ts k
      have b2 := raWant_bound c x y l
      have M0 := hid (fun w => rrmay_any x y l w)
      have W0 := hid (fun w => rrwant_any c x y l w)
      have ilt : (k : Int) < (n : Int) := by omega
      have HX := hid hx; have HY := hid hy
      clear hx hy
      cases ho : raMay x y l with
      | false =>
        rw [ho] at M0
        have HR := hid (HM0.out (raAll_cut c l vs ts (k + 1) (HNV.out.trans HNT.out.symm) (by rw [hs2]; unfold raOk; rw [ho, Bool.and_false])))
        clear hs hs2 b1 b2 ho W0
        generalize topK c l vs ts k = r at *
        go_wp2_with fail
        go_quiet ((go_at_call 21; exact Calls.quiet_of_same (still_of (M0.out _))))
        go_wp2_with fail
        go_ret2
        obtain rfl := HR.out
        exact ⟨rfl, gb_trans HGR.out ⟨rfl, rfl, rfl, Nat.le_refl _, fun _ _ _ => rfl⟩ (.inl rfl)⟩
      | true =>
        rw [ho] at M0
        have HS := hid hs; have HS2 := hid (hs2.trans (raWant_cnt HCN.out ho))
        clear hs hs2 ho
        generalize raWant c x y l = z at *
        generalize topK c l vs ts k = r at *
        go_wp2_with fail
        go_quiet ((go_at_call 21; exact Calls.quiet_of_same (still_of (M0.out _))))
        refine exit_gen (fun wx => w.grownBy wx none) (gb_trans HGR.out ⟨rfl, rfl, rfl, Nat.le_refl _, fun _ _ _ => rfl⟩ (.inl rfl)) (fun wx hgx => ?_)
        clear hcellv hcellt HGR
        have HGR := hid hgx; clear hgx
        have hcellv := (IV.out.grown HGR.out).cell' HX.out
        have hcellt := (IT.out.grown HGR.out).cell' HY.out
        go_wp2_with fail
        go_quiet ((go_at_call 15; exact Calls.quiet_of_same (still_of (W0.out _))))
        go_wp2_with fail
        all_goals go_roundw
        all_goals first | (case rel => exact ⟨k + 1, by omega, by go_num, by rw [HS.out, show max r z = if r < z then z else r by split <;> omega], HS2.out, gb_trans HGR.out ⟨rfl, rfl, rfl, Nat.le_refl _, fun _ _ _ => rfl⟩ (.inl rfl)⟩) | (case measure => simp [intOf]; omega)
    · obtain rfl : k = n := by omega
      have hA : raAll c l vs ts = true := by rw [← allK_full HNV.out HNT.out]; exact HA.out
      have HR := hid (HM1.out hA)
      rw [topK_full HNV.out HNT.out]
      generalize raTop c l vs ts = z at *
      clear hA
      go_wp2_with fail
      go_ret2
      obtain rfl := HR.out
      exact ⟨rfl, HGR.out⟩
end Go.Proofs.Ytfobddicokogpaa
