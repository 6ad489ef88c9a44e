/-
  Contracts for package ratio, and for the document's own: which numbers may be, the band, shares, what is wanted. No condition, but for numbers that may be.
  Contracts: Most, of the program and of the document: the greatest of what several want. The condition: slices that read as numbers.
  Contract: the document's last of a slice; slices of numbers beside blocks that change. No condition, but for short slices.
  The program's Law: its object, its targets, its Calm and its Policy, each in a block of its own. Contracts: Count, put, Hold, of nil too. The condition of a call: the object lies there.
  Contracts for the document's Policy: New, Limit, Set, what is kept of one. The condition of a call: the object lies there, a slice reads as numbers.
-/
import Derived.Test.YtecggbndlbkhdaaGreatY11
import Derived.Test.YtecggbndlbkhdaaGreatY13
import Derived.Test.YtecggbndlbkhdaaGreatY3
import Derived.StillTailTactics
import Derived.Test.YtecggbndlbkhdaaGreatY1
import Derived.WalkSpells
import Derived.WalkLawsBesides
import Derived.Test.YtecggbndlbkhdaaGreatY6
import Derived.Test.YtecggbndlbkhdaaGreatY17
import Derived.Test.YtecggbndlbkhdaaGreatY18
import Derived.Test.YtecggbndlbkhdaaGreatY4
import Derived.Deep.MidRow
section
set_option linter.unusedSimpArgs false
set_option linter.unusedVariables false
namespace Go.Proofs.YtecggbndlbkhdaaGreat
set_option maxRecDepth 100000
open Go.RowKit

theorem ramay_any (v t l : Int) (w : World) :
    Calls Tryz.prog 398 #[.int .i64 v, .int .i64 t, .int .i64 l] w fun e w' => e = .returned (.bool (raMay v t l)) ∧ w = w' := by
  unfold raMay
  cases d0 : decide (0 ≤ v) with
  | false =>
    simp only [Bool.false_and, Bool.and_false, Bool.true_and]
    go_enter Tryz.func398, Tryz.ntmps398
    go_wp2_with fail
    go_ret
    exact ⟨rfl, rfl⟩
  | true =>
    cases d1 : decide (v ≤ 1099511627776) with
    | false =>
      simp only [Bool.false_and, Bool.and_false, Bool.true_and]
      go_enter Tryz.func398, Tryz.ntmps398
      go_wp2_with fail
      go_ret
      exact ⟨rfl, rfl⟩
    | true =>
      cases d2 : decide (1 ≤ t) with
      | false =>
        simp only [Bool.false_and, Bool.and_false, Bool.true_and]
        go_enter Tryz.func398, Tryz.ntmps398
        go_wp2_with fail
        go_ret
        exact ⟨rfl, rfl⟩
      | true =>
        cases d3 : decide (t ≤ 1099511627776) with
        | false =>
          simp only [Bool.false_and, Bool.and_false, Bool.true_and]
          go_enter Tryz.func398, Tryz.ntmps398
          go_wp2_with fail
          go_ret
          exact ⟨rfl, rfl⟩
        | true =>
          cases d4 : decide (0 ≤ l) with
          | false =>
            simp only [Bool.false_and, Bool.and_false, Bool.true_and]
            go_enter Tryz.func398, Tryz.ntmps398
            go_wp2_with fail
            go_ret
            exact ⟨rfl, rfl⟩
          | true =>
            cases d5 : decide (l ≤ 1000) with
            | false =>
              simp only [Bool.false_and, Bool.and_false, Bool.true_and]
              go_enter Tryz.func398, Tryz.ntmps398
              go_wp2_with fail
              go_ret
              exact ⟨rfl, rfl⟩
            | true =>
              simp only [Bool.true_and, Bool.and_true]
              go_enter Tryz.func398, Tryz.ntmps398
              go_wp2_with fail
              go_ret
              exact ⟨rfl, rfl⟩

set_option maxHeartbeats 800000 in
theorem near_any (v t l : Int) (w : World) (hv : 0 ≤ v ∧ v ≤ 1099511627776) (ht : 1 ≤ t ∧ t ≤ 1099511627776) (hl : 0 ≤ l ∧ l ≤ 1000) :
    Calls Tryz.prog 399 #[.int .i64 v, .int .i64 t, .int .i64 l] w fun e w' => e = .returned (.bool (raNear v t l)) ∧ w = w' := by
  obtain ⟨A, hA⟩ : ∃ A, v * 1000 = A := ⟨_, rfl⟩
  obtain ⟨B, hB⟩ : ∃ B, 1000 - l = B := ⟨_, rfl⟩
  obtain ⟨D, hD⟩ : ∃ D, 1000 + l = D := ⟨_, rfl⟩
  have b1 := ra_low ht hl
  have b2 := ra_high ht hl
  unfold raNear
  rw [hA, hB, hD]
  rw [hB] at b1
  rw [hD] at b2
  obtain ⟨C, hC⟩ : ∃ C, t * B = C := ⟨_, rfl⟩
  obtain ⟨E, hE⟩ : ∃ E, t * D = E := ⟨_, rfl⟩
  rw [hC] at b1 ⊢
  rw [hE] at b2 ⊢
  have e1 : IntKind.i64.wrap (v * 1000) = A := by rw [hA]; exact IntWalk.i64_in _ (by omega)
  have e2 : IntKind.i64.wrap (1000 - l) = B := by rw [hB]; exact IntWalk.i64_in _ (by omega)
  have e3 : IntKind.i64.wrap (1000 + l) = D := by rw [hD]; exact IntWalk.i64_in _ (by omega)
  have e4 : IntKind.i64.wrap (t * B) = C := by rw [hC]; exact IntWalk.i64_in _ (by omega)
  have e5 : IntKind.i64.wrap (t * D) = E := by rw [hE]; exact IntWalk.i64_in _ (by omega)
  clear hA hB hD hC hE b1 b2
  clear hv ht hl
  cases d0 : decide (C ≤ A) with
  | false =>
    simp only [Bool.false_and]
    go_enter Tryz.func399, Tryz.ntmps399
    go_wp2_with fail
    go_ret
    exact ⟨rfl, rfl⟩
  | true =>
    cases d1 : decide (A ≤ E) with
    | false =>
      simp only [Bool.and_false]
      go_enter Tryz.func399, Tryz.ntmps399
      go_wp2_with fail
      go_ret
      exact ⟨rfl, rfl⟩
    | true =>
      simp only [Bool.and_true]
      go_enter Tryz.func399, Tryz.ntmps399
      go_wp2_with fail
      go_ret
      exact ⟨rfl, rfl⟩

theorem shares_any (x t : Int) (w : World) (hx : 0 ≤ x ∧ x ≤ 10995116277760000) (ht : 1 ≤ t ∧ t ≤ 1099511627776) :
    Calls Tryz.prog 400 #[.int .i64 x, .int .i64 t] w fun e w' => e = .returned (.int .i64 (raShares x t)) ∧ w = w' := by
  have hq := raShares_tdiv hx.1 ht.1
  have hs := raShares_spec hx.1 ht.1
  have hle : raShares x t ≤ x := raShares_least ht.1 (by have := Int.mul_le_mul_of_nonneg_left ht.1 hx.1; omega)
  obtain ⟨A, hA⟩ : ∃ A, x + t = A := ⟨_, rfl⟩
  obtain ⟨B, hB⟩ : ∃ B, A - 1 = B := ⟨_, rfl⟩
  obtain ⟨S, hS⟩ : ∃ S, raShares x t = S := ⟨_, rfl⟩
  rw [hA, hB, hS] at hq
  rw [hS] at hs hle ⊢
  have e1 : IntKind.i64.wrap (x + t) = A := by rw [hA]; exact IntWalk.i64_in _ (by omega)
  have e2 : IntKind.i64.wrap (A - 1) = B := by rw [hB]; exact IntWalk.i64_in _ (by omega)
  have e3 : IntKind.i64.wrap (B.tdiv t) = S := by rw [hq]; exact IntWalk.i64_in _ (by omega)
  have n0 : ¬ t = 0 := by omega
  have n1 : (1 : Int) ≤ t := ht.1
  clear hA hB hS hq hs hle hx ht
  go_enter Tryz.func400, Tryz.ntmps400
  go_wp2_with fail
  go_ret
  exact ⟨rfl, rfl⟩

set_option maxHeartbeats 800000 in
theorem wanted_any (c v t l : Int) (w : World) :
    Calls Tryz.prog 363 #[.int .i64 c, .int .i64 v, .int .i64 t, .int .i64 l] w fun e w' => e = .returned (.tuple #[.int .i64 (raWant c v t l), .bool (raOk c v t l)]) ∧ w = w' := by
  have M := ramay_any v t l w
  cases d0 : decide (c < 0) with
  | true =>
    have h0 : c < 0 := by simpa using d0
    have ho : raOk c v t l = false := by cases h : raOk c v t l with | false => rfl | true => have := (raOk_iff.1 h).1; omega
    rw [raWant_not ho, ho]
    clear M ho h0
    go_enter Tryz.func363, Tryz.ntmps363
    go_wp2_with fail
    go_ret2
    exact ⟨rfl, rfl⟩
  | false =>
  have h0 : ¬ c < 0 := by simpa using d0
  cases d1 : decide (10000 < c) with
  | true =>
    have h1 : 10000 < c := by simpa using d1
    have ho : raOk c v t l = false := by cases h : raOk c v t l with | false => rfl | true => have := (raOk_iff.1 h).1; omega
    rw [raWant_not ho, ho]
    clear M ho h0 h1
    go_enter Tryz.func363, Tryz.ntmps363
    go_wp2_with fail
    go_ret2
    exact ⟨rfl, rfl⟩
  | false =>
  have h1 : ¬ 10000 < c := by simpa using d1
  cases hm : raMay v t l with
  | false =>
    rw [hm] at M
    have M := hid M
    have ho : raOk c v t l = false := by unfold raOk; rw [hm, Bool.and_false]
    rw [raWant_not ho, ho]
    clear ho h0 h1 hm
    go_enter Tryz.func363, Tryz.ntmps363
    go_wp2_with fail
    refine M.out.mono ?_
    rintro e w1 ⟨rfl, rfl⟩
    clear M
    go_wp2_with fail
    go_ret2
    exact ⟨rfl, rfl⟩
  | true =>
  rw [hm] at M
  have M := hid M
  obtain ⟨hv, ht, hl⟩ := raMay_iff.1 hm
  have ho : raOk c v t l = true := raOk_iff.2 ⟨by omega, hv, ht, hl⟩
  have hin := raIn_near ho
  rw [ho]
  have N := fun w => near_any v t l w hv ht hl
  cases hn : raNear v t l with
  | true =>
    rw [hn] at N
    have N := hid N
    rw [raWant_in (by omega) (by rw [hin, hn])]
    clear ho h0 h1 hm hin hn hv ht hl
    go_enter Tryz.func363, Tryz.ntmps363
    go_wp2_with fail
    refine M.out.mono ?_
    rintro e w1 ⟨rfl, rfl⟩
    clear M
    go_wp2_with fail
    refine (N.out _).mono ?_
    rintro e w2 ⟨rfl, rfl⟩
    clear N
    go_wp2_with fail
    go_ret2
    exact ⟨rfl, rfl⟩
  | false =>
  rw [hn] at N
  have N := hid N
  rw [raWant_out ho (by rw [hin, hn])]
  have hb := ra_load (c := c) (v := v) (by omega) hv
  obtain ⟨X, hX⟩ : ∃ X, c * v = X := ⟨_, rfl⟩
  rw [hX] at hb ⊢
  have e1 : IntKind.i64.wrap (c * v) = X := by rw [hX]; exact IntWalk.i64_in _ (by omega)
  have S := hid (fun w => shares_any X t w hb ht)
  obtain ⟨Z, hZ⟩ : ∃ Z, raShares X t = Z := ⟨_, rfl⟩
  rw [hZ] at S ⊢
  obtain ⟨Y, hY⟩ : ∃ Y, min 1000000 Z = Y := ⟨_, rfl⟩
  rw [hY]
  have HY := hid hY; clear hY
  clear ho h0 h1 hm hin hn hv ht hl hX hb hZ
  go_enter Tryz.func363, Tryz.ntmps363
  go_wp2_with fail
  refine M.out.mono ?_
  rintro e w1 ⟨rfl, rfl⟩
  clear M
  go_wp2_with fail
  refine (N.out _).mono ?_
  rintro e w2 ⟨rfl, rfl⟩
  clear N
  go_wp2_with fail
  refine (S.out _).mono ?_
  rintro e w3 ⟨rfl, rfl⟩
  clear S
  go_wp2_with fail
  all_goals go_ret2
  all_goals refine ⟨?_, rfl⟩
  all_goals first | (obtain rfl : Y = Z := (by have := HY.out; omega); rfl) | (obtain rfl : Y = 1000000 := (by have := HY.out; omega); rfl) | (obtain rfl : Y = min 1000000 Z := (by have := HY.out; omega); rfl)

end Go.Proofs.YtecggbndlbkhdaaGreat
end
section
set_option linter.unusedSimpArgs false
set_option linter.unusedVariables false
namespace Go.Proofs.YtecggbndlbkhdaaGreat
set_option maxRecDepth 100000
open Go.RowKit

set_option maxHeartbeats 1600000 in
theorem rmost_any (c l : Int) (v u : Value) (vs ts : List Int) (w : World) (h : IntsAt w v vs) (h2 : IntsAt w u ts) :
    Calls Tryz.prog 313 #[.int .i64 c, v, u, .int .i64 l] w fun e w' => e = .returned (.tuple #[.int .i64 (raMost c vs ts l).1, .bool (raMost c vs ts l).2]) ∧ w.grownBy w' none := by
  have IV := hid h; have IT := hid h2
  obtain ⟨pv, cv, rfl⟩ := h.form
  obtain ⟨pt, ct, rfl⟩ := h2.form
  have lv := h.len; have lt := h2.len
  unfold maxLen at lv lt
  obtain ⟨n, hn⟩ : ∃ n, vs.length = n := ⟨_, rfl⟩
  obtain ⟨m, hm⟩ : ∃ n, ts.length = n := ⟨_, rfl⟩
  rw [hn] at IV lv ⊢
  rw [hm] at IT lt ⊢
  clear h h2
  by_cases h0 : n = 0
  · rw [raMost_len (.inl (hn.trans h0))]
    have d0 : ((n : Int) == 0) = true := by subst h0; rfl
    clear hn hm h0 IV IT
    go_enter Tryz.func313, Tryz.ntmps313
    go_wp2_with fail
    go_ret2
    exact ⟨rfl, .refl w none⟩
  have d0 : ((n : Int) == 0) = false := by simp; omega
  by_cases h1 : n = m
  rotate_left
  · rw [raMost_len (.inr (by rw [hn, hm]; exact h1))]
    have d1 : ((n : Int) == (m : Int)) = false := by simp; omega
    clear hn hm h0 h1 IV IT
    go_enter Tryz.func313, Tryz.ntmps313
    go_wp2_with fail
    go_ret2
    exact ⟨rfl, .refl w none⟩
  subst h1
  have d1 : ((n : Int) == (n : Int)) = true := by simp
  have HNV := hid hn; have HNT := hid hm
  have HM0 := hid (fun (ha : raAll c l vs ts = false) => raMost_bad ha)
  have HM1 := hid (fun (ha : raAll c l vs ts = true) => raMost_ok (c := c) (l := l) (show vs.length ≠ 0 by omega) (by omega) ha)
  obtain ⟨R, hR⟩ : ∃ R, raMost c vs ts l = R := ⟨_, rfl⟩
  rw [hR] at HM0 HM1 ⊢
  clear hn hm hR h0
  have HC := hid (at_new w (.cells #[.int .i64 0] 130))
  have HG := hid (World.grownBy_alloc w (.cells #[.int .i64 0] 130) none)
  go_enter Tryz.func313, Tryz.ntmps313
  go_wp2_with fail
  go_loopw [11, 12, 13, 14, 27] (fun _ _ _ _ i wr => ∃ k : Nat, k ≤ n ∧ i = .int .i64 (k : Int) ∧ wr.heap[w.heap.size]? = some (.cells #[.int .i64 (topK c l vs ts k)] 130) ∧ allK c l vs ts k = true ∧ w.grownBy wr none) (fun _ _ _ _ i _ => n - (intOf i).toNat)
  case atStart => exact ⟨0, Nat.zero_le _, rfl, by rw [topK_zero]; exact HC.out, allK_zero .., HG.out⟩
  case round =>
    obtain ⟨k, hk, rfl, hb, ha, hgr⟩ := hrel
    have HBL := hid hb; have HGR := hid hgr; have HA := hid ha
    have c0 := at_cell hb 0
    have f0 := at_free hb 0
    clear hb hgr HC HG ha
    by_cases hlt : k < n
    · have hkv : k < vs.length := by rw [HNV.out]; exact hlt
      have hkt : k < ts.length := by rw [HNT.out]; exact hlt
      obtain ⟨ab, ao, rfl, -, hcv, hcellv⟩ := (IV.out.grown HGR.out).cell hkv
      obtain ⟨bb, bo, rfl, -, hct, hcellt⟩ := (IT.out.grown HGR.out).cell hkt
      have hx := List.getElem?_eq_getElem hkv
      have hy := List.getElem?_eq_getElem hkt
      generalize vs[k] = x at *
      generalize ts[k] = y at *
      have hs := topK_next (c := c) (l := l) hx hy
      have hs2 := allK_next (c := c) (l := l) hx hy
      rw [HA.out, Bool.true_and] at hs2
      have b1 := topK_bound c l vs ts k
      have b2 := raWant_bound c x y l
      have W0 := hid (fun w => wanted_any c x y l w)
      clear hx hy
      cases ho : raOk c x y l with
      | false =>
        rw [ho] at W0 hs2
        have HR := hid (HM0.out (raAll_cut c l vs ts (k + 1) (HNV.out.trans HNT.out.symm) hs2))
        clear hs hs2 b1 b2 HBL ho
        generalize raWant c x y l = z at *
        go_wp2_with fail
        refine (W0.out _).mono ?_
        rintro e w2 ⟨rfl, rfl⟩
        clear W0
        go_wp2_with fail
        go_ret2
        obtain rfl := HR.out
        exact ⟨rfl, HGR.out⟩
      | true =>
        rw [ho] at W0 hs2
        have HS := hid hs; have HS2 := hid hs2
        clear hs hs2 ho
        generalize raWant c x y l = z at *
        generalize topK c l vs ts k = r at *
        obtain ⟨d, hd⟩ : ∃ d, z - r = d := ⟨_, rfl⟩
        have e1 : IntKind.i64.wrap (z - r) = d := by rw [hd]; exact IntWalk.i64_in _ (by omega)
        have HD := hid hd
        have L0 := hid (load_i64 _ _ _ c0)
        have A0 := hid (fun (x' : Int) (hx : x' = max 0 d) => addn_i64 _ _ x' (max r z) _ c0 f0 (by rw [hx, show r + max 0 d = max r z by omega]; exact IntWalk.i64_in _ (by omega)))
        have ht := hid (at_set HBL.out 0 (.int .i64 (max r z)))
        have hg2 := hid (gb_new HGR.out (p := ⟨w.heap.size, 0, none⟩) (Nat.le_refl _) (.int .i64 (max r z)))
        clear HBL HGR hd c0 f0
        go_wp2_with fail
        refine (W0.out _).mono ?_
        rintro e w2 ⟨rfl, rfl⟩
        clear W0
        go_wp2_with fail
        refine L0.out.mono ?_
        rintro e w2 ⟨rfl, rfl⟩
        clear L0
        go_wp2_with fail
        all_goals (refine (A0.out _ (by omega)).mono ?_; rintro e w2 ⟨rfl, hw⟩; subst hw; clear A0; go_wp2_with fail; go_roundw)
        all_goals first | (case rel => exact ⟨k + 1, by omega, by go_num, by rw [HS.out]; exact ht.out, HS2.out, hg2.out⟩) | (case measure => simp [intOf]; omega)
    · obtain rfl : k = n := by omega
      have hA : raAll c l vs ts = true := by rw [← allK_full HNV.out HNT.out]; exact HA.out
      have HR := hid (HM1.out hA)
      rw [topK_full HNV.out HNT.out] at c0
      have L0 := hid (load_i64 _ _ _ c0)
      have b1 := raTop_bound c l vs ts
      generalize raTop c l vs ts = z at *
      have e1 : IntKind.i64.wrap z = z := IntWalk.i64_in _ (by omega)
      clear HBL c0 f0 hA
      go_wp2_with fail
      refine L0.out.mono ?_
      rintro e w2 ⟨rfl, rfl⟩
      clear L0
      go_wp2_with fail
      go_ret2
      obtain rfl := HR.out
      exact ⟨rfl, HGR.out⟩
end Go.Proofs.YtecggbndlbkhdaaGreat
end
section
set_option linter.unusedSimpArgs false
set_option linter.unusedVariables false
namespace Go.Proofs.YtecggbndlbkhdaaGreat
set_option maxRecDepth 100000
open Go.RowKit

theorem ints_chg {w w' : World} {G : List Nat} {v : Value} {l : List Int} (h : IntsAt w v l) (hc : Chg G w w') (hb : ∀ a n c, v = .slice (some a) n c → a.block ∉ G) : IntsAt w' v l := by
  rcases h with h | ⟨a, cap, rfl, h1, h2, h3⟩
  · exact .inl h
  · refine .inr ⟨a, cap, rfl, h1, h2, fun i hi => hc.cell (h3 i hi) ?_⟩
    have e1 : (a.add i).block = a.block := by unfold Addr.add; split <;> rfl
    rw [e1]; exact hb a _ _ rfl
end Go.Proofs.YtecggbndlbkhdaaGreat
end
section
set_option linter.unusedSimpArgs false
set_option linter.unusedVariables false
namespace Go.Proofs.YtecggbndlbkhdaaGreat
set_option maxRecDepth 100000
open Go.RowKit

/-- the blocks of a Law: its own, its Calm's, its Policy's, its targets' -/
structure LBl where
  b : Nat
  c : Nat
  p : Nat
  t : Nat
@[reducible] def LBl.F (B : LBl) : List Nat := [B.b, B.c, B.p, B.t]
structure LBl.Ne (B : LBl) : Prop where
  bc : B.b ≠ B.c
  bp : B.b ≠ B.p
  bt : B.b ≠ B.t
  cp : B.c ≠ B.p
  ct : B.c ≠ B.t
  pt : B.p ≠ B.t
@[reducible] def laCells (B : LBl) (ao k m : Nat) (tol n : Int) : Array Value := #[.slice (some ⟨B.t, ao, none⟩) m k, .int .i64 tol, .pointer (some ⟨B.c, 0, none⟩), .pointer (some ⟨B.p, 0, none⟩), .int .i64 n]
structure LaAt (w : World) (B : LBl) (s : La) : Prop where
  row : ∃ ao k, w.heap[B.b]? = some (.cells (laCells B ao k s.tg.length s.tol s.n) 238) ∧ IntsAt w (.slice (some ⟨B.t, ao, none⟩) s.tg.length k) s.tg
  ca : CaAt w B.c s.ca
  po : PoAt w B.p s.po
  lt : B.t < w.heap.size
  ne : B.Ne
  ok : s.Ok
/-- with another count, and put to the policy -/
def La.set (s : La) (x : Int) : La := { s with po := (s.po.put x).2, n := x }
theorem La.hold_set (s : La) : s.hold = s.set s.n := rfl
theorem La.next_set (s : La) (vs : List Int) : s.next vs = ({ s with ca := s.ca.push (s.want vs) } : La).set (s.come vs) := rfl
theorem La.set_ok {s : La} (h : s.Ok) {x : Int} (hx : s.po.in x = true) : (s.set x).Ok := by
  refine ⟨h.tg, h.ne, h.tol, h.ca, Po.put_ok h.po _, ?_⟩
  have e : (s.set x).po.r = s.po.r := by
    show (s.po.put x).2.r = s.po.r
    rw [Po.put_yes hx]
  rw [e]; exact Po.in_iff.1 hx
section
variable {w w' w1 : World} {F : List Nat} {B : LBl} {s : La}
theorem LaAt.chg (H : LaAt w B s) (hc : Chg F w w') (hb : ∀ x ∈ B.F, x ∉ F) : LaAt w' B s := by
  obtain ⟨⟨ao, k, h1, h2⟩, h3, h4, h5, h6, h7⟩ := H
  exact ⟨⟨ao, k, hc.at h1 (hb _ (by simp)), ints_chg h2 hc (fun a n c e => by cases e; exact hb B.t (by simp))⟩, h3.chg hc (hb _ (by simp)), h4.chg hc (hb _ (by simp)), Nat.lt_of_lt_of_le h5 hc.size, h6, h7⟩
theorem LaAt.grown (H : LaAt w B s) (hg : w.grownBy w' none) : LaAt w' B s := H.chg (chg_grown hg []) (by simp)
theorem LaAt.drew (H : LaAt w B s) : LaAt w.drew B s := ⟨H.row, H.ca.drew, H.po.drew, H.lt, H.ne, H.ok⟩
theorem LaAt.lts (H : LaAt w B s) : ∀ x ∈ B.F, x < w.heap.size := by
  obtain ⟨ao, k, h1, h2⟩ := H.row
  intro x hx
  simp only [List.mem_cons, List.mem_singleton, List.not_mem_nil, or_false] at hx
  rcases hx with rfl | rfl | rfl | rfl
  · exact at_lt h1
  · exact H.ca.lt
  · exact H.po.lt
  · exact H.lt
theorem LaAt.cells (H : LaAt w B s) : w.cell? ⟨B.b, 1, none⟩ = some (.int .i64 s.tol) ∧ w.cell? ⟨B.b, 2, none⟩ = some (.pointer (some ⟨B.c, 0, none⟩)) ∧ w.cell? ⟨B.b, 3, none⟩ = some (.pointer (some ⟨B.p, 0, none⟩)) ∧ w.cell? ⟨B.b, 4, none⟩ = some (.int .i64 s.n) ∧ ∀ k, w.frozen? ⟨B.b, k, none⟩ = false := by
  obtain ⟨ao, k, h1, -⟩ := H.row
  exact ⟨at_cell h1 1, at_cell h1 2, at_cell h1 3, at_cell h1 4, fun k => at_free h1 k⟩
/-- another Calm in its block -/
theorem LaAt.calm {c : Ca} (H : LaAt w B s) (h : CaAt w' B.c c) (hc : Chg [B.c] w w') : LaAt w' B { s with ca := c } := by
  obtain ⟨⟨ao, k, h1, h2⟩, h3, h4, h5, h6, h7⟩ := H
  exact ⟨⟨ao, k, hc.at h1 (by simp [h6.bc]), ints_chg h2 hc (fun a n c e => by cases e; simp [h6.ct.symm])⟩, h, h4.chg hc (by simp [h6.cp.symm]), Nat.lt_of_lt_of_le h5 hc.size, h6, ⟨h7.tg, h7.ne, h7.tol, h.ok, h7.po, h7.n⟩⟩
/-- another Policy, and the count stored -/
theorem LaAt.put {p : Po} {x : Int} (H : LaAt w B s) (hp : PoAt w1 B.p p) (hc : Chg [B.p] w w1) (ho : ({ s with po := p, n := x } : La).Ok) :
    LaAt (w1.setCell ⟨B.b, 4, none⟩ (.int .i64 x)) B { s with po := p, n := x } ∧ Chg B.F w (w1.setCell ⟨B.b, 4, none⟩ (.int .i64 x)) := by
  obtain ⟨⟨ao, k, h1, h2⟩, h3, h4, h5, h6, h7⟩ := H
  have hr := hc.at h1 (by simp [h6.bp])
  have hc2 : Chg [B.b] w1 (w1.setCell ⟨B.b, 4, none⟩ (.int .i64 x)) := (chg_refl w1 [B.b]).set (.inl (by simp)) _
  refine ⟨⟨⟨ao, k, ?_, ints_chg (ints_chg h2 hc (fun a n c e => by cases e; simp [h6.pt.symm])) hc2 (fun a n c e => by cases e; simp [h6.bt.symm])⟩, (h3.chg hc (by simp [h6.cp])).chg hc2 (by simp [h6.bc.symm]), hp.chg hc2 (by simp [h6.bp.symm]), Nat.lt_of_lt_of_le h5 (Nat.le_trans hc.size hc2.size), h6, ho⟩,
    (hc.more (by simp)).then (hc2.more (by simp))⟩
  rw [at_set hr]; rfl
end
theorem lcount_any {w : World} {B : LBl} {s : La} (H : LaAt w B s) :
    Calls Tryz.prog 97 #[.pointer (some ⟨B.b, 0, none⟩)] w fun e w' => e = .returned (.int .i64 s.n) ∧ w = w' := by
  obtain ⟨-, -, -, c4, -⟩ := H.cells
  have b := La.n_in H.ok
  have e1 : IntKind.i64.wrap s.n = s.n := IntWalk.i64_in _ (by omega)
  have L0 := hid (load_i64 _ _ _ c4)
  generalize s.n = x at *
  clear b H
  go_enter Tryz.func97, Tryz.ntmps97
  go_wp2_with fail
  refine L0.out.mono ?_
  rintro e w2 ⟨rfl, rfl⟩
  go_wp2_with fail
  go_ret
  exact ⟨rfl, rfl⟩
/-- put -/
theorem lput_any {w : World} {B : LBl} {s : La} {x : Int} (hx : s.po.in x = true) (H : LaAt w B s) :
    Calls Tryz.prog 312 #[.pointer (some ⟨B.b, 0, none⟩), .int .i64 x] w fun e w' => e = .returned (.int .i64 x) ∧ LaAt w' B (s.set x) ∧ Chg B.F w w' := by
  obtain ⟨-, -, c3, -, -⟩ := H.cells
  have HH := hid H
  have P := hid (pput_yes x hx H.po)
  have HOK := hid (La.set_ok H.ok hx)
  have hb := Po.in_iff.1 hx
  have b1 := H.po.ok.r.mn; have b2 := H.po.ok.r.mx
  have e1 : IntKind.i64.wrap x = x := IntWalk.i64_in _ (by omega)
  have hn := H.ne.bp
  have RW := hid (show ∀ W, Chg [B.p] w W → W.cell? ⟨B.b, 4, none⟩ = some (.int .i64 s.n) ∧ W.frozen? ⟨B.b, 4, none⟩ = false from fun W hc => by
    obtain ⟨ao, k, h1, -⟩ := H.row
    have h2 := hc.at h1 (by simp [hn])
    exact And.intro (at_cell h2 4) (at_free h2 4))
  clear H hx hb b1 b2 hn
  go_enter Tryz.func312, Tryz.ntmps312
  go_wp2_with fail
  refine P.out.mono ?_
  rintro e w1 ⟨rfl, hp, hc⟩
  have HP := hid hp; have HC := hid hc; clear hp hc c3
  obtain ⟨c4, f4⟩ := RW.out _ HC.out
  have S0 := hid (store_i64 _ x _ _ c4 f4)
  clear c4 f4
  go_wp2_with fail
  refine S0.out.mono ?_
  rintro e w2 ⟨rfl, rfl⟩
  go_wp2_with fail
  go_ret
  obtain ⟨h1, h2⟩ := HH.out.put HP.out HC.out HOK.out
  exact ⟨rfl, h1, h2⟩
theorem lhold_any {w : World} {B : LBl} {s : La} (H : LaAt w B s) :
    Calls Tryz.prog 244 #[.pointer (some ⟨B.b, 0, none⟩)] w fun e w' => e = .returned (.int .i64 s.n) ∧ LaAt w' B s.hold ∧ Chg B.F w w' := by
  have C := hid (lcount_any H)
  have P := hid (lput_any (Po.in_iff.2 H.ok.n) H)
  rw [← La.hold_set] at P
  clear H
  go_enter Tryz.func244, Tryz.ntmps244
  go_wp2_with fail
  refine C.out.mono ?_
  rintro e w1 ⟨rfl, rfl⟩
  go_wp2_with fail
  refine P.out.mono ?_
  rintro e w2 ⟨rfl, hl, hc⟩
  have HL := hid hl; have HC := hid hc; clear hl hc
  go_wp2_with fail
  go_ret
  exact ⟨rfl, HL.out, HC.out⟩
end Go.Proofs.YtecggbndlbkhdaaGreat
end
section
set_option linter.unusedSimpArgs false
set_option linter.unusedVariables false
namespace Go.Proofs.YtecggbndlbkhdaaGreat
set_option maxRecDepth 100000
open Go.RowKit

/-- the cells of the document's Policy -/
@[reducible] def prCells (c : Conf) (s : Value) : Array Value := #[.int .i64 c.n, .int .i64 c.f, .int .i64 c.m, .int .i64 c.quorum, .int .i64 c.fresh, .int .i64 c.grace, .int .i64 c.window, .int .i64 c.t0, .int .i64 c.t1, .int .i64 c.t2, .int .i64 c.t3, .int .i64 c.tol, .int .i64 c.min, .int .i64 c.max, .int .i64 c.calmup, .int .i64 c.calmdown, .int .i64 c.podsup, .int .i64 c.pctup, .int .i64 c.podsdown, .int .i64 c.pctdown, .int .i64 c.period, .int .i64 c.far, .int .i64 c.strikes, .int .i64 c.probe, .int .i64 c.sectors, .int .u64 c.seed, s]
/-- the document's, its list in a block that is none of F -/
structure PrAt (w : World) (F : List Nat) (b : Nat) (c : Conf) (p : Po) : Prop where
  row : ∃ (q : Option Addr) (k : Nat), w.heap[b]? = some (.cells (prCells c (.slice q p.l.length k)) 294) ∧ IntsAt w (.slice q p.l.length k) p.l ∧ (∀ a, q = some a → a.block ∉ F)
  inF : b ∈ F
  lt : ∀ x ∈ F, x < w.heap.size
  ok : p.Ok
  rc : p.r = rt c
section
variable {w w' : World} {F G : List Nat} {b : Nat} {c : Conf} {p p' : Po}
theorem PrAt.chg (H : PrAt w F b c p) (hc : Chg G w w') (hG : ∀ x ∈ G, x ∈ F) (hb : b ∉ G) : PrAt w' F b c p := by
  obtain ⟨⟨q, k, h1, h2, h3⟩, h4, h5, h6, h7⟩ := H
  exact ⟨⟨q, k, hc.at h1 hb, ints_chg h2 hc (fun a n c e hm => by cases e; exact h3 a rfl (hG _ hm)), h3⟩, h4, fun x hx => Nat.lt_of_lt_of_le (h5 x hx) hc.size, h6, h7⟩
theorem PrAt.grown (H : PrAt w F b c p) (hg : w.grownBy w' none) : PrAt w' F b c p := H.chg (chg_grown hg []) (by simp) (by simp)
theorem PrAt.drew (H : PrAt w F b c p) : PrAt w.drew F b c p := ⟨H.row, H.inF, H.lt, H.ok, H.rc⟩
theorem PrAt.cells (H : PrAt w F b c p) : w.cell? ⟨b, 12, none⟩ = some (.int .i64 c.min) ∧ w.cell? ⟨b, 13, none⟩ = some (.int .i64 c.max) ∧ w.cell? ⟨b, 20, none⟩ = some (.int .i64 c.period) ∧ ∀ k, w.frozen? ⟨b, k, none⟩ = false := by
  obtain ⟨⟨q, k, h1, -, -⟩, -⟩ := H
  exact ⟨at_cell h1 12, at_cell h1 13, at_cell h1 20, fun k => at_free h1 k⟩
theorem PrAt.put (H : PrAt w F b c p) {q : Option Addr} {k : Nat} {l : List Int} (hl : IntsAt w (.slice q l.length k) l) (hp : ∀ a, q = some a → a.block ∉ F) (ho : (Po.mk p.r l).Ok) :
    PrAt (w.setCell ⟨b, 26, none⟩ (.slice q l.length k)) F b c ⟨p.r, l⟩ ∧ Chg [b] w (w.setCell ⟨b, 26, none⟩ (.slice q l.length k)) := by
  have hc : Chg [b] w (w.setCell ⟨b, 26, none⟩ (.slice q l.length k)) := (chg_refl w [b]).set (.inl (by simp)) _
  obtain ⟨⟨q', m, h1, -, -⟩, h4, h5, h6, h7⟩ := H
  refine ⟨⟨⟨q, k, ?_, ints_chg hl hc (fun a n c e hm => by cases e; rw [List.mem_singleton] at hm; exact hp a rfl (hm ▸ h4)), hp⟩, h4, fun x hx => Nat.lt_of_lt_of_le (h5 x hx) hc.size, ho, h7⟩, hc⟩
  rw [at_set h1]; rfl
end
theorem exec_mid27 {w : World} {o : Oper} {b of : Nat} {ty : TypeId} {x : Operand} {cs : List Value} {d : TypeDesc} {ρ : Operand → Value} (hc : w.rangeAt b of cs) (hu : Tryz.prog.underlying ty = some d) (hd : d.isRow = true) (hi : (Tryz.prog.info? ty).map (·.size) = some cs.length)
    (ho : o.op = .load ty x) (hx : ρ x = .pointer (some ⟨b, of, none⟩)) : (execOp ρ o).run Tryz.prog w = .ok (.value (.agg cs.toArray)) w := by
  simp only [execOp, ho, hx, Sem.run_bind, Instr.loadAt, Instr.sureAddr, Sem.run_pure, Result.andThen_ok, run_loadVar_mid w b of ty cs d hc hu hd hi]
end Go.Proofs.YtecggbndlbkhdaaGreat
end
