/-
  Contracts for slices.Equal at []int64 and package order's Same; and for the document's SameList and Rank. The condition: slices that read as numbers, of a modest length.
-/
import Derived.Test.YtkobipkmcpbloaaOrd
import Derived.LoopTactic
set_option linter.unusedSimpArgs false
set_option linter.unusedVariables false
namespace Go.Proofs.Ytkobipkmcpbloaa
set_option maxRecDepth 100000
open Go.RowKit

theorem gb_drewM (w : World) (n : Nat) : w.grownBy (w.drewN n) none := ⟨rfl, rfl, rfl, Nat.le_refl _, fun _ _ _ => rfl⟩
set_option maxHeartbeats 1600000 in
theorem equalI_any (v v' : Value) (l l' : List Int) (w : World) (h : IntsAt w v l) (h' : IntsAt w v' l') (h1 : l.length ≤ 1000000) (h1' : l'.length ≤ 1000000) (res : Bool) (hr : decide (l = l') = res) :
    Calls Try.prog 18 #[v, v'] w fun e w' => e = .returned (.bool res) ∧ w.grownBy w' none := by
  have HI := hid h; have HJ := hid h'
  have HR := hid hr; clear hr
  obtain ⟨p, c, rfl⟩ := h.form
  obtain ⟨p', c', rfl⟩ := h'.form
  by_cases hlen : l.length = l'.length
  · obtain ⟨n, hn⟩ : ∃ n, l.length = n := ⟨_, rfl⟩
    have hn' : l'.length = n := by omega
    rw [hn] at HI h1 ⊢
    rw [hn'] at HJ ⊢
    have HN := hid hn; have HN' := hid hn'
    clear h h' hn hn' hlen h1'
    go_enter Try.func18, Try.ntmps18
    go_wp2_with fail
    go_loopw [5, 13] (fun _ i wr => ∃ k : Nat, k ≤ n ∧ i = .int .i64 (k : Int) ∧ (∀ j, j < k → l[j]? = l'[j]?) ∧ w.grownBy wr none) (fun _ i _ => n - (intOf i).toNat)
    case atStart => exact ⟨0, Nat.zero_le _, rfl, fun j h => absurd h (Nat.not_lt_zero j), .refl w none⟩
    case round =>
      obtain ⟨k, hk, rfl, hall, hgr⟩ := hrel
      have HA := hid hall; have HG := hid hgr; clear hall hgr
      by_cases hlt : k < n
      · have k1 : k < l.length := by rw [HN.out]; exact hlt
        have k2 : k < l'.length := by rw [HN'.out]; exact hlt
        obtain ⟨ab, ao, rfl, -, hcc, hcell⟩ := (HI.out.grown HG.out).cell k1
        obtain ⟨bb, bo, rfl, -, hcc', hcell'⟩ := (HJ.out.grown HG.out).cell k2
        have e1 := List.getElem?_eq_getElem k1
        have e2 := List.getElem?_eq_getElem k2
        generalize l[k] = x at *
        generalize l'[k] = y at *
        have E1 := hid e1; have E2 := hid e2; clear e1 e2
        by_cases hxy : x = y
        · have d0 : (x != y) = false := by simpa using hxy
          have ha2 : ∀ j, j < k + 1 → l[j]? = l'[j]? := fun j hj => by
            by_cases e : j = k
            · subst e; rw [E1.out, E2.out, hxy]
            · exact HA.out j (by omega)
          have HA2 := hid ha2
          clear ha2 hxy E1 E2
          go_wp2_with fail
          go_quiet (fail)
          go_wp2_with fail
          go_roundw
          case rel => exact ⟨k + 1, by omega, by go_num, HA2.out, gb_trans HG.out (gb_drewM _ _) (.inl rfl)⟩
          case measure => simp [intOf]; omega
        · have d0 : (x != y) = true := by simpa using hxy
          have hd : decide (l = l') = false := decide_eq_false fun e => by
            subst e
            have := E1.out.symm.trans E2.out
            exact hxy (Option.some.inj this)
          have hr := HR.out
          rw [hd] at hr
          subst hr
          clear hd HR hxy E1 E2 HA
          go_wp2_with fail
          go_quiet (fail)
          go_wp2_with fail
          go_ret
          exact ⟨rfl, gb_trans HG.out (gb_drewM _ _) (.inl rfl)⟩
      · obtain rfl : k = n := by omega
        have hd : decide (l = l') = true := decide_eq_true (List.ext_getElem? fun j => by
          by_cases hj : j < k
          · exact HA.out j hj
          · rw [List.getElem?_eq_none (by rw [HN.out]; omega), List.getElem?_eq_none (by rw [HN'.out]; omega)])
        have hr := HR.out
        rw [hd] at hr
        subst hr
        clear hd HR HA
        go_wp2_with fail
        go_ret
        exact ⟨rfl, HG.out⟩
  · have hd : decide (l = l') = false := decide_eq_false fun e => hlen (by rw [e])
    have hr := HR.out
    rw [hd] at hr
    subst hr
    clear hd HR h h'
    have d0 : ((l.length : Int) != (l'.length : Int)) = true := by simp; omega
    generalize l.length = n at *
    generalize l'.length = n' at *
    clear hlen HI HJ
    go_enter Try.func18, Try.ntmps18
    go_wp2_with fail
    go_ret
    exact ⟨rfl, .refl w none⟩
set_option maxHeartbeats 1600000 in
theorem samelist_any (v v' : Value) (l l' : List Int) (w : World) (h : IntsAt w v l) (h' : IntsAt w v' l') (h1 : l.length ≤ 1000000) (h1' : l'.length ≤ 1000000) (res : Bool) (hr : decide (l = l') = res) :
    Calls Try.prog 13 #[v, v'] w fun e w' => e = .returned (.bool res) ∧ w.grownBy w' none := by
  have HI := hid h; have HJ := hid h'
  have HR := hid hr; clear hr
  obtain ⟨p, c, rfl⟩ := h.form
  obtain ⟨p', c', rfl⟩ := h'.form
  by_cases hlen : l.length = l'.length
  · obtain ⟨n, hn⟩ : ∃ n, l.length = n := ⟨_, rfl⟩
    have hn' : l'.length = n := by omega
    rw [hn] at HI h1 ⊢
    rw [hn'] at HJ ⊢
    have HN := hid hn; have HN' := hid hn'
    clear h h' hn hn' hlen h1'
    go_enter Try.func13, Try.ntmps13
    go_wp2_with fail
    go_loopw [5] (fun i wr => ∃ k : Nat, k ≤ n ∧ i = .int .i64 (k : Int) ∧ (∀ j, j < k → l[j]? = l'[j]?) ∧ w.grownBy wr none) (fun i _ => n - (intOf i).toNat)
    case atStart => exact ⟨0, Nat.zero_le _, rfl, fun j h => absurd h (Nat.not_lt_zero j), .refl w none⟩
    case round =>
      obtain ⟨k, hk, rfl, hall, hgr⟩ := hrel
      have HA := hid hall; have HG := hid hgr; clear hall hgr
      by_cases hlt : k < n
      · have k1 : k < l.length := by rw [HN.out]; exact hlt
        have k2 : k < l'.length := by rw [HN'.out]; exact hlt
        obtain ⟨ab, ao, rfl, -, hcc, hcell⟩ := (HI.out.grown HG.out).cell k1
        obtain ⟨bb, bo, rfl, -, hcc', hcell'⟩ := (HJ.out.grown HG.out).cell k2
        have e1 := List.getElem?_eq_getElem k1
        have e2 := List.getElem?_eq_getElem k2
        generalize l[k] = x at *
        generalize l'[k] = y at *
        have E1 := hid e1; have E2 := hid e2; clear e1 e2
        by_cases hxy : x = y
        · have d0 : (x != y) = false := by simpa using hxy
          have ha2 : ∀ j, j < k + 1 → l[j]? = l'[j]? := fun j hj => by
            by_cases e : j = k
            · subst e; rw [E1.out, E2.out, hxy]
            · exact HA.out j (by omega)
          have HA2 := hid ha2
          clear ha2 hxy E1 E2
          go_wp2_with fail
          go_quiet (fail)
          go_wp2_with fail
          go_roundw
          case rel => exact ⟨k + 1, by omega, by go_num, HA2.out, gb_trans HG.out (gb_drewM _ _) (.inl rfl)⟩
          case measure => simp [intOf]; omega
        · have d0 : (x != y) = true := by simpa using hxy
          have hd : decide (l = l') = false := decide_eq_false fun e => by
            subst e
            have := E1.out.symm.trans E2.out
            exact hxy (Option.some.inj this)
          have hr := HR.out
          rw [hd] at hr
          subst hr
          clear hd HR hxy E1 E2 HA
          go_wp2_with fail
          go_quiet (fail)
          go_wp2_with fail
          go_ret
          exact ⟨rfl, gb_trans HG.out (gb_drewM _ _) (.inl rfl)⟩
      · obtain rfl : k = n := by omega
        have hd : decide (l = l') = true := decide_eq_true (List.ext_getElem? fun j => by
          by_cases hj : j < k
          · exact HA.out j hj
          · rw [List.getElem?_eq_none (by rw [HN.out]; omega), List.getElem?_eq_none (by rw [HN'.out]; omega)])
        have hr := HR.out
        rw [hd] at hr
        subst hr
        clear hd HR HA
        go_wp2_with fail
        go_ret
        exact ⟨rfl, HG.out⟩
  · have hd : decide (l = l') = false := decide_eq_false fun e => hlen (by rw [e])
    have hr := HR.out
    rw [hd] at hr
    subst hr
    clear hd HR h h'
    have d0 : ((l.length : Int) != (l'.length : Int)) = true := by simp; omega
    generalize l.length = n at *
    generalize l'.length = n' at *
    clear hlen HI HJ
    go_enter Try.func13, Try.ntmps13
    go_wp2_with fail
    go_ret
    exact ⟨rfl, .refl w none⟩

/-- Same -/
theorem osame_any (v v' : Value) (l l' : List Int) (w : World) (h : IntsAt w v l) (h' : IntsAt w v' l') (h1 : l.length ≤ 1000000) (h1' : l'.length ≤ 1000000) :
    Calls Try.prog 10 #[v, v'] w fun e w' => e = .returned (.bool (decide (ms l = ms l'))) ∧ w.grownBy w' none := by
  have C1 := hid (rise_one (w0 := w) (at_new w (.cells #[v] 22)) (h.alloc _) h1)
  have C2 := hid (fun w1 (hg : w.grownBy w1 none) => rise_one (w0 := w) (at_new w1 (.cells #[v'] 22)) ((h'.grown hg).alloc _) h1')
  obtain ⟨p, c, rfl⟩ := h.form
  obtain ⟨p', c', rfl⟩ := h'.form
  have L1 := hid (show (ms l).length ≤ 1000000 by rw [ms_len]; exact h1)
  have L2 := hid (show (ms l').length ≤ 1000000 by rw [ms_len]; exact h1')
  clear h h' h1 h1'
  generalize ms l = m at *
  generalize ms l' = m' at *
  generalize l.length = n at *
  generalize l'.length = n' at *
  obtain ⟨res, hr⟩ : ∃ res, decide (m = m') = res := ⟨_, rfl⟩
  rw [hr]
  have HR := hid hr; clear hr
  go_enter Try.func10, Try.ntmps10
  go_wp2_with fail
  refine C1.out.mono ?_
  intro e w1 hG
  obtain ⟨u, rfl, h2, h3⟩ := hG.alloc
  have H2 := hid h2; have H3 := hid h3
  obtain ⟨pu, cu, rfl⟩ := h2.form
  clear h2 h3 hG C1
  go_wp2_with fail
  refine (C2.out _ H3.out).mono ?_
  intro e w2 hG
  obtain ⟨u2, rfl, h4, h5⟩ := hG.alloc
  have H4 := hid h4; have H5 := hid h5
  obtain ⟨pu2, cu2, rfl⟩ := h4.form
  clear h4 h5 hG C2
  go_wp2_with fail
  refine (equalI_any _ _ m m' _ (H2.out.ints.grown H5.out) H4.out.ints L1.out L2.out res HR.out).mono ?_
  rintro e w3 ⟨rfl, hg⟩
  have H6 := hid hg; clear hg
  go_wp2_with fail
  go_ret
  exact ⟨rfl, gb_trans (gb_trans H3.out H5.out (.inl rfl)) H6.out (.inl rfl)⟩

set_option maxHeartbeats 1600000 in
/-- the document's Rank -/
theorem rrank_any (v : Value) (l : List Int) (x : Int) (w : World) (h : IntsAt w v l) (h1 : l.length ≤ 1000000) :
    Calls Try.prog 16 #[v, .int .i64 x] w fun e w' => e = .returned (.int .i64 (rk l x : Int)) ∧ w.grownBy w' none := by
  have HI := hid h
  obtain ⟨p, c, rfl⟩ := h.form
  obtain ⟨n, hn⟩ : ∃ n, l.length = n := ⟨_, rfl⟩
  have HN := hid hn
  rw [hn] at HI h1 ⊢
  obtain ⟨R, hR⟩ : ∃ R, rk l x = R := ⟨_, rfl⟩
  rw [hR]
  have HR := hid hR
  clear h hn hR
  go_enter Try.func16, Try.ntmps16
  go_wp2_with fail
  go_loopw [5, 6] (fun s i wr => ∃ k : Nat, k ≤ n ∧ i = .int .i64 (k : Int) ∧ s = .int .i64 (rk (l.take k) x : Int) ∧ w.grownBy wr none) (fun _ i _ => n - (intOf i).toNat)
  case atStart => exact ⟨0, Nat.zero_le _, rfl, rfl, .refl w none⟩
  case round =>
    obtain ⟨k, hk, rfl, rfl, hgr⟩ := hrel
    have HGR := hid hgr
    have hrk := rk_le (l.take k) x
    rw [List.length_take] at hrk
    clear hgr
    by_cases hlt : k < n
    · have hkl : k < l.length := by rw [HN.out]; exact hlt
      obtain ⟨ab, ao, rfl, -, hcc, hcell⟩ := (HI.out.grown HGR.out).cell hkl
      have hs : rk (l.take (k + 1)) x = rk (l.take k) x + if l[k] < x then 1 else 0 := by
        rw [List.take_succ_eq_append_getElem hkl, rk_append, rk_one]
      generalize l[k] = y at *
      have HS := hid hs; clear hs
      have R0 : (0 : Int) ≤ (rk (l.take k) x : Int) := by omega
      have R1 : (rk (l.take k) x : Int) < 1000000000000000000 := by omega
      generalize (rk (l.take k) x) = r at *
      clear hrk
      by_cases hy : y < x
      · have d0 : decide (y < x) = true := by simpa using hy
        have hs2 : rk (l.take (k + 1)) x = r + 1 := by rw [HS.out, if_pos hy]
        have HS2 := hid hs2; clear hs2 HS hy
        go_wp2_with fail
        go_roundw
        case rel => exact ⟨k + 1, by omega, by go_num, by rw [HS2.out]; push_cast; rfl, HGR.out⟩
        case measure => simp [intOf]; omega
      · have d0 : decide (y < x) = false := by simpa using hy
        have hs2 : rk (l.take (k + 1)) x = r := by rw [HS.out, if_neg hy, Nat.add_zero]
        have HS2 := hid hs2; clear hs2 HS hy
        go_wp2_with fail
        go_roundw
        case rel => exact ⟨k + 1, by omega, by go_num, by rw [HS2.out], HGR.out⟩
        case measure => simp [intOf]; omega
    · obtain rfl : k = n := by omega
      have ht : l.take k = l := List.take_of_length_le (by rw [HN.out]; exact Nat.le_refl _)
      rw [ht, HR.out]
      clear ht hrk
      go_wp2_with fail
      go_ret
      exact ⟨rfl, HGR.out⟩
end Go.Proofs.Ytkobipkmcpbloaa
