/-
  Contract for package state: a message is taken. The condition: the state lies there, the message may be.
  Contracts for package state: a row's values; what each metric is believed to be. The condition: rows of samples that read.
  Contract for package state: what each metric is believed to be. The condition: the state lies there, rows of samples that read.
-/
import Derived.Test.YtecggbndlbkhdaaGreatJ0
import Derived.Test.YtecggbndlbkhdaaGreatNSuG2
import Derived.Test.YtecggbndlbkhdaaGreatY24
import Derived.Test.YtecggbndlbkhdaaGreatY28
import Derived.Test.YtecggbndlbkhdaaGreatY22
import Derived.Test.YtecggbndlbkhdaaGreatY20
import Derived.Test.YtecggbndlbkhdaaGreatY4
import Derived.Deep.RegionHeld3
section
set_option linter.unusedSimpArgs false
set_option linter.unusedVariables false
namespace Go.Proofs.YtecggbndlbkhdaaGreat
set_option maxRecDepth 100000
open Go.RowKit

theorem sunow_at {w : World} {X : SBl} {b : Nat} {c : Conf} {s : Ste} (e : X.b = b) (h : StAt w X c s) : Calls Tryz.prog 32 #[.pointer (some ⟨b, 0, none⟩)] w fun e w' => e = .returned (.int .i64 s.now) ∧ w.grownBy w' none := by
  subst e; exact grow_of (sunow_any h)
/-- the state, by the pointer to it, since the world w: which blocks of that world it may have changed -/
def SuK (w : World) (A : List Nat) (b : Nat) (c : Conf) (s : Ste) (W : World) : Prop := ∃ X : SBl, X.b = b ∧ StAt W X c s ∧ Chg A w W ∧ ∀ x ∈ X.all, x ∈ A ∨ w.heap.size ≤ x
section
variable {w W W' : World} {A : List Nat} {b : Nat} {c : Conf} {s : Ste}
theorem SuK.grown (h : SuK w A b c s W) (hg : W.grownBy W' none) : SuK w A b c s W' := by
  obtain ⟨X, e, h1, h2, h3⟩ := h; exact ⟨X, e, h1.grown hg, h2.grown hg, h3⟩
theorem SuK.drew (h : SuK w A b c s W) : SuK w A b c s W.drew := by
  obtain ⟨X, e, h1, h2, h3⟩ := h; exact ⟨X, e, h1.drew, h2.drew, h3⟩
theorem SuK.alloc (h : SuK w A b c s W) (o : Obj) : SuK w A b c s (W.alloc o) := h.grown (World.grownBy_alloc W o none)
theorem StAt.suk {X : SBl} (h : StAt w X c s) : SuK w X.all X.b c s w := ⟨X, rfl, h, chg_refl w _, fun _ h => .inl h⟩
/-- one step more -/
theorem SuK.then {X : SBl} {s' : Ste} (hC : Chg A w W) (hX : ∀ x ∈ X.all, x ∈ A ∨ w.heap.size ≤ x) (h : SuK W X.all b c s' W') : SuK w A b c s' W' := by
  obtain ⟨Y, e, h1, h2, h3⟩ := h
  exact ⟨Y, e, h1, hC.trans h2 hX, fun x hx => (h3 x hx).elim (fun h => hX x h) (fun h => .inr (Nat.le_trans hC.size h))⟩
end
end Go.Proofs.YtecggbndlbkhdaaGreat
end
section
set_option linter.unusedSimpArgs false
set_option linter.unusedVariables false
namespace Go.Proofs.YtecggbndlbkhdaaGreat
set_option maxRecDepth 100000
open Go.RowKit

set_option maxHeartbeats 1600000 in
theorem said_any (v : Value) (r : List Sm) (w : World) (hv : SAt w v r) (hl : r.length ≤ 1000) :
    Calls Tryz.prog 311 #[v] w fun e w' => ∃ u, e = .returned u ∧ IntsAt w' u (r.map Sm.val) ∧ w.grownBy w' none := by
  have HI := hid hv
  obtain ⟨p, c, rfl⟩ := hv.form
  obtain ⟨n, hn⟩ : ∃ n, r.length = n := ⟨_, rfl⟩
  have HN := hid hn
  rw [hn] at HI hl ⊢
  clear hv hn
  have hlen : (r.map Sm.val).length = n := by rw [List.length_map]; exact HN.out
  obtain ⟨vs, hvs⟩ : ∃ vs, r.map Sm.val = vs := ⟨_, rfl⟩
  rw [hvs] at hlen ⊢
  have HLEN := hid hlen
  have HVS := hid (show ∀ (k : Nat) (x : Sm), r[k]? = some x → vs[k]? = some x.val by
    intro k x hx; rw [← hvs, List.getElem?_map, hx]; rfl)
  have hmk := mk_i64s n hl
  clear hlen hvs
  have B0 := hid (at_new w (.cells (Array.replicate n (iv 0)) 2))
  have G1 := hid (gb_alloc (.refl w none) (.cells (Array.replicate n (iv 0)) 2))
  have HLE := hid (Nat.le_refl w.heap.size)
  go_enter Tryz.func311, Tryz.ntmps311
  go_wp2_with fail
  generalize w.alloc (.cells (Array.replicate n (iv 0)) 2) = w2 at *
  generalize hmb : w.heap.size = mb at *
  replace HLE := hid (show w.heap.size ≤ mb from Nat.le_of_eq hmb)
  rw [rep_iv, ← HLEN.out, ← fillI_zero] at B0
  clear hmb
  go_loopw [11] (fun i wr => ∃ (k : Nat), k ≤ n ∧ i = .int .i64 (k : Int) ∧ wr.heap[mb]? = some (.cells ((fillI vs k).map iv).toArray 2) ∧ w.grownBy wr none)
    (fun i _ => n - (intOf i).toNat)
  case atStart => exact ⟨0, Nat.zero_le _, rfl, B0.out, G1.out⟩
  case round =>
    obtain ⟨k, hk, rfl, hbl, hgr⟩ := hrel
    have HBL := hid hbl
    have HGR := hid hgr
    by_cases hlt : k < n
    · have hkl : k < r.length := by rw [HN.out]; exact hlt
      obtain ⟨ab, ao, rfl, -, hcc, e0, e1, e2, e3⟩ := (HI.out.grown HGR.out).cells hkl
      have hx := List.getElem?_eq_getElem hkl
      generalize r[k] = x at *
      obtain ⟨z0, z1, z2, z3⟩ := x
      dsimp only at e0 e1 e2 e3
      have hy := HVS.out k _ hx
      dsimp only at hy
      have HB := hid (at_alloc HBL.out (.cells #[.int .i64 z0, .int .i64 z1, .int .i64 z2, .int .i64 z3] 91))
      have ck := blk_at HB.out (fillI_at (vs := vs) (k := k) (by rw [HLEN.out]; exact hlt))
      have fk := at_free HB.out k
      have NB := hid (blk_set HB.out (fillI_set hy))
      have NG := hid (gb_new (gb_alloc HGR.out (.cells #[.int .i64 z0, .int .i64 z1, .int .i64 z2, .int .i64 z3] 91)) (p := ⟨mb, k, none⟩) HLE.out (.int .i64 z3))
      clear hx hy HB HBL HGR hkl
      go_wp2_with fail
      go_roundw
      case rel => exact ⟨k + 1, by omega, by go_num, NB.out, NG.out⟩
      case measure => simp [intOf]; omega
    · obtain rfl : k = n := by omega
      rw [← HLEN.out, fillI_all] at HBL
      have HM := hid (blk_ints HBL.out (by rw [HLEN.out]; unfold maxLen; omega))
      rw [HLEN.out] at HM
      clear HBL
      go_wp2_with fail
      go_ret
      exact ⟨_, rfl, HM.out, HGR.out⟩
end Go.Proofs.YtecggbndlbkhdaaGreat
end
section
set_option linter.unusedSimpArgs false
set_option linter.unusedVariables false
namespace Go.Proofs.YtecggbndlbkhdaaGreat
set_option maxRecDepth 100000
open Go.RowKit

/-- has a row a quorum? -/
def fullR (q : Int) (r : List Sm) : Bool := decide (q ≤ (r.length : Int)) && decide (0 < (r.length : Int))
/-- a row's mean -/
noncomputable def meanR (f : Int) (r : List Sm) : Int := (meanL (midL (r.map Sm.val) f)).1
noncomputable def belR (q f : Int) (L : List (List Sm)) : List Int × Bool := if L.all (fullR q) = true then (L.map (meanR f), true) else ([], false)
theorem belR_no {q f : Int} {L : List (List Sm)} {k : Nat} {r : List Sm} (h : L[k]? = some r) (hr : fullR q r = false) : belR q f L = ([], false) := by
  unfold belR
  rw [if_neg]
  intro ha
  rw [List.all_eq_true] at ha
  rw [ha r (List.mem_of_getElem? h)] at hr
  cases hr
theorem all_take {q : Int} {L : List (List Sm)} {k : Nat} {r : List Sm} (h : L[k]? = some r) (ha : (L.take k).all (fullR q) = true) (hr : fullR q r = true) : (L.take (k + 1)).all (fullR q) = true := by
  rw [List.take_add_one, h]
  simp [ha, hr]
theorem map_take {f : Int} {L : List (List Sm)} {k : Nat} {r : List Sm} (h : L[k]? = some r) : (L.take (k + 1)).map (meanR f) = (L.take k).map (meanR f) ++ [meanR f r] := by
  rw [List.take_add_one, h]
  simp
set_option maxHeartbeats 3200000 in
theorem believe_any {w : World} {X : SBl} {c : Conf} {s : Ste} (hK : StAt w X c s) (v : Value) (ls : List (Value × List Sm)) (hv : RowsS w v ls) (hL : ls.length ≤ 1000) (hrow : ∀ x ∈ ls, x.2.length ≤ 1000) (hf : -9223372036854775808 ≤ c.f ∧ c.f ≤ 9223372036854775807) :
    Calls Tryz.prog 243 #[.pointer (some ⟨X.b, 0, none⟩), v] w fun e w' => ∃ u, e = .returned (.tuple #[u, .bool (belR c.quorum c.f (ls.map Prod.snd)).2]) ∧ OwnI w.heap.size w' u (belR c.quorum c.f (ls.map Prod.snd)).1 ∧ w.grownBy w' none := by
  have HK := hid hK; have HF := hid hf; have HV := hid hv; have HROW := hid hrow
  obtain ⟨p, cap, rfl⟩ := hv.form
  obtain ⟨N, hN⟩ : ∃ N, ls.length = N := ⟨_, rfl⟩
  have HN := hid hN
  rw [hN] at HV hL ⊢
  obtain ⟨L, hLs⟩ : ∃ L, ls.map Prod.snd = L := ⟨_, rfl⟩
  have HAT := hid (show ∀ (k : Nat) (x : Value × List Sm), ls[k]? = some x → L[k]? = some x.2 from fun k x hx => by rw [← hLs, List.getElem?_map, hx]; rfl)
  have HLN := hid (show L.length = N by rw [← hLs, List.length_map]; exact hN)
  rw [hLs]
  clear hK hf hv hrow hN hLs
  go_enter Tryz.func243, Tryz.ntmps243
  go_wp2_with fail
  go_loopw [6, 13] (fun v0 i wr => ∃ (k : Nat) (vv : Value), v0 = vv ∧ k ≤ N ∧ i = .int .i64 (k : Int) ∧ OwnI w.heap.size wr vv ((L.take k).map (meanR c.f)) ∧ (L.take k).all (fullR c.quorum) = true ∧ w.grownBy wr none) (fun _ i _ => N - (intOf i).toNat)
  case atStart => exact ⟨0, _, rfl, Nat.zero_le _, rfl, OwnI.nil _ _, rfl, .refl _ _⟩
  case round =>
    obtain ⟨k, vv, hvv, hk, rfl, hown, hall, hgr⟩ := hrel
    have hv' := hvv.symm
    clear hvv
    subst hv'
    have HGR := hid hgr; have HOWN := hid hown; have HALL := hid hall
    clear hgr hown hall
    by_cases hlt : k < N
    · have hkN : k + 1 ≤ N := hlt
      have hkl : k < ls.length := by rw [HN.out]; exact hlt
      obtain ⟨ab, ao, rfl, hnc, hc0, hS⟩ := (HV.out.grown HGR.out).at (i := k) hkl
      have hx := List.getElem?_eq_getElem hkl
      have HRL := hid (HROW.out _ (List.getElem_mem hkl))
      have HLK := hid (HAT.out k _ hx)
      generalize ls[k] = x at *
      obtain ⟨vk, rk⟩ := x
      dsimp only at hc0 hS HLK HRL
      obtain ⟨pk, ck, hvk⟩ := hS.form
      subst hvk
      have HR0 := hid hS
      obtain ⟨f0, f1, f2, f3, f4, f5⟩ := (HK.out.grown HGR.out).conf
      have Q := hid (quorum_any (rk.length : Int) c.quorum)
      have QD := hid (show (decide (c.quorum ≤ (rk.length : Int)) && decide (0 < (rk.length : Int))) = fullR c.quorum rk from rfl)
      have HVL := hid (show ((L.take k).map (meanR c.f)).length + 1 ≤ 1000000 by rw [List.length_map, List.length_take]; omega)
      have HAL := hid (map_take (f := c.f) HLK.out)
      rw [QD.out] at Q
      have hlk : k < L.length := by rw [HLN.out]; exact hlt
      clear hS hx hnc hkl
      cases hq : fullR c.quorum rk with
      | false =>
        rw [hq] at Q
        have HB := hid (belR_no (f := c.f) HLK.out hq)
        clear hq QD HR0
        go_wp2_with fail
        refine (Q.out _).mono ?_
        rintro e wq ⟨rfl, hg⟩
        have GQ := hid (gb_trans HGR.out hg (.inl rfl)); clear hg
        go_wp2_with fail
        go_ret2
        rw [HB.out]
        exact ⟨_, rfl, OwnI.nil _ _, GQ.out⟩
      | true =>
        rw [hq] at Q
        have HAF := hid (all_take HLK.out HALL.out hq)
        clear hq QD
        go_wp2_with fail
        refine (Q.out _).mono ?_
        rintro e wq ⟨rfl, hg⟩
        have HGQ := hid (gb_trans HGR.out hg (.inl rfl))
        have HOQ := hid (HOWN.out.grown hg (by simp))
        have HRQ := hid (HR0.out.grown hg)
        have HR := hid (show ∀ u, wq.grownBy u none → SAt u (.slice pk rk.length ck) rk from fun u hu => HRQ.out.grown hu)
        have HKQ := hid (HK.out.grown HGQ.out)
        clear hg f0 f1 f2 f3 f4 f5 hc0 Q
        generalize (L.take k).map (meanR c.f) = vals at *
        go_wp2_with fail
        refine wp_region_held_drew (S := (fun w' => (w.grownBy w' none) ∧ (OwnI w.heap.size w' vv vals) ∧ (wq.grownBy w' none))) (by kernel_rfl) ⟨gb_drew HGQ.out, HOQ.out.drew, gb_drew (.refl wq none)⟩ (fun hHeld => ?_)
        try dsimp only at hHeld
        refine jU 0 hHeld ?_
        try simp only [jX, jD, jE, jF]
        refine jU 2 hHeld ?_
        try simp only [jX, jD, jE, jF]
        refine jU 3 hHeld ?_
        try simp only [jX, jD, jE, jF]
        refine jU 4 hHeld ?_
        try simp only [jX, jD, jE, jF]
        refine jU 5 hHeld ?_
        try simp only [jX, jD, jE, jF]
        refine' jT 6 rfl (by rfl) ?_ hHeld ?_
        rotate_left
        · (intro w hSw; (try dsimp only at hSw); obtain ⟨G, OV, GQ⟩ := hSw; obtain ⟨f0, f1, f2, f3, f4, f5⟩ := (HKQ.out.grown GQ).conf; go_simp; try with_reducible rfl)
        try simp only [jX, jD, jE, jF]
        refine jR [1] ?_
        refine jG rfl (fun K hK => ?_) AllReadyH.nil
        try simp only [jD, jE, jF]
        go_simp
        have hH2 := hHeld
        obtain ⟨G, OV, GQ⟩ := hH2
        refine ((said_any _ _ _ (HR.out _ GQ) HRL.out)).mono ?_
        rintro e w1001 ⟨u, rfl, hi, hg⟩
        have L1 := hid (show (w.grownBy w1001 none) ∧ (OwnI w.heap.size w1001 vv vals) ∧ (wq.grownBy w1001 none) from ⟨gb_trans G hg (.inl rfl), OV.grown hg (by simp), gb_trans GQ hg (.inl rfl)⟩)
        have NIU := hid (show IntsAt w1001 u (rk.map Sm.val) from hi)
        clear hHeld hg G OV GQ
        go_wp2_with fail
        refine hK.out _ _ ?_ (fun hHeld => ?_)
        · exact L1.out
        clear hK K
        try dsimp only at hHeld
        try simp only [jX, jD, jE, jF]
        refine held_stronger (S' := fun w' => (fun w' => IntsAt w' u (rk.map Sm.val)) w' ∧ ((fun w' => (w.grownBy w' none) ∧ (OwnI w.heap.size w' vv vals) ∧ (wq.grownBy w' none))) w') (fun _ h => h.2) _ _ _ _ ?_
        replace hHeld := And.intro NIU.out hHeld
        try dsimp only at hHeld
        refine jR [7] ?_
        refine jG rfl (fun K hK => ?_) AllReadyH.nil
        try simp only [jD, jE, jF]
        go_simp
        have hH2 := hHeld
        obtain ⟨IU, G, OV, GQ⟩ := hH2
        refine ((mean_any _ _ c.f _ IU HF.out)).mono ?_
        rintro e w1007 ⟨rfl, hg⟩
        have L7 := hid (show (IntsAt w1007 u (rk.map Sm.val)) ∧ (w.grownBy w1007 none) ∧ (OwnI w.heap.size w1007 vv vals) ∧ (wq.grownBy w1007 none) from ⟨IU.grown hg, gb_trans G hg (.inl rfl), OV.grown hg (by simp), gb_trans GQ hg (.inl rfl)⟩)
        clear hHeld hg IU G OV GQ
        go_wp2_with fail
        refine hK.out _ _ ?_ (fun hHeld => ?_)
        · exact L7.out
        clear hK K
        try dsimp only at hHeld
        try simp only [jX, jD, jE, jF]
        refine jU 8 hHeld ?_
        try simp only [jX, jD, jE, jF]
        refine jU 9 hHeld ?_
        try simp only [jX, jD, jE, jF]
        refine jU 10 hHeld ?_
        try simp only [jX, jD, jE, jF]
        refine jU 11 hHeld ?_
        try simp only [jX, jD, jE, jF]
        refine jU 12 hHeld ?_
        try simp only [jX, jD, jE, jF]
        refine wpAnyH_done (by kernel_rfl) ?_ _
        obtain ⟨IU, G, OV, GQ⟩ := hHeld
        have GF := hid G; have OF := hid OV
        clear IU G OV GQ
        have GA := hid (gb_alloc GF.out (.cells #[.int .i64 (meanL (midL (rk.map Sm.val) c.f)).1] 2))
        have OA := hid (OF.out.grown (World.grownBy_alloc w1007 (.cells #[.int .i64 (meanL (midL (rk.map Sm.val) c.f)).1] 2) none) (by simp))
        have CA := hid (at_cell (at_new w1007 (.cells #[.int .i64 (meanL (midL (rk.map Sm.val) c.f)).1] 2)) 0)
        have GS := hid (gb_size GA.out)
        generalize hmk : (meanL (midL (rk.map Sm.val) c.f)).1 = mk at *
        have HMK := hid (show meanR c.f rk = mk from hmk)
        clear hmk
        clear GF OF
        go_wp2_with (refine append_int rfl _ _ rfl w.heap.size _ vals rfl OA.out _ mk rfl CA.out HVL.out GS.out ?_; intro v9 w9 hown hgrow hat; have O3 := hid hown; have G3 := hid (gb_ownI GA.out OA.out (Nat.le_refl _) hgrow); obtain ⟨p9, c9, rfl⟩ := hown.form; clear hown hgrow hat)
        go_roundw
        case rel => exact ⟨k + 1, _, rfl, hkN, by go_num, by rw [HAL.out, HMK.out]; simpa using O3.out, HAF.out, G3.out⟩
        case measure => first | (simp [intOf]; done) | (simp [intOf]; omega)
    · obtain rfl : k = N := by omega
      have HB := hid (show belR c.quorum c.f L = (L.map (meanR c.f), true) by
        have h := HALL.out
        rw [← HLN.out, List.take_length] at h
        unfold belR; rw [if_pos h])
      have hown := HOWN.out
      rw [← HLN.out, List.take_length] at hown
      have HOF := hid hown
      obtain ⟨p3, c3, rfl⟩ := hown.form
      clear hown
      go_wp2_with fail
      go_ret2
      rw [HB.out]
      exact ⟨_, rfl, HOF.out, HGR.out⟩
end Go.Proofs.YtecggbndlbkhdaaGreat
end
