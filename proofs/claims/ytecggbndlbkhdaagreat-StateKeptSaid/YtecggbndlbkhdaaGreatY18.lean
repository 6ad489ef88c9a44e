/-
  Contracts for package policy: New, Put, Base, All, Limit, Bounds, of nil too. The condition of a call: the object lies there, slices read as numbers.
  Contracts for package policy: Set. The condition of a call: the object lies there, slices read as numbers.
  What a derived key's words are sums of, in the document's own answer. The condition: strings of a modest length.
  A contract for the document's own derived keys: four calls and two blocks that may come in any order. The condition: a label of a modest length.
  Contracts for package score: how one stands; one more is counted; an epoch's end for one. The condition: the score lies there.
-/
import Derived.Test.YtecggbndlbkhdaaGreatJ0
import Derived.Test.YtecggbndlbkhdaaGreatY9
import Derived.Test.YtecggbndlbkhdaaGreatY13
import Derived.Test.YtecggbndlbkhdaaGreatY7
import Derived.Test.YtecggbndlbkhdaaGreatY5
import Derived.Test.YtecggbndlbkhdaaGreatY6
section
set_option linter.unusedSimpArgs false
set_option linter.unusedVariables false
namespace Go.Proofs.YtecggbndlbkhdaaGreat
set_option maxRecDepth 100000
open Go.RowKit

theorem PoAt.rcells {w : World} {b : Nat} {p : Po} (H : PoAt w b p) : w.cell? ⟨b, 0, none⟩ = some (.int .i64 p.r.pu) ∧ w.cell? ⟨b, 1, none⟩ = some (.int .i64 p.r.cu) ∧ w.cell? ⟨b, 2, none⟩ = some (.int .i64 p.r.pd) ∧ w.cell? ⟨b, 3, none⟩ = some (.int .i64 p.r.cd) ∧ w.cell? ⟨b, 4, none⟩ = some (.int .i64 p.r.per) ∧ w.cell? ⟨b, 5, none⟩ = some (.int .i64 p.r.mn) ∧ w.cell? ⟨b, 6, none⟩ = some (.int .i64 p.r.mx) := by
  obtain ⟨⟨ws, h1, h2, h3⟩, ho⟩ := H
  exact ⟨by rw [at_cell h3]; simp [poCells, iv], by rw [at_cell h3]; simp [poCells, iv], by rw [at_cell h3]; simp [poCells, iv], by rw [at_cell h3]; simp [poCells, iv], by rw [at_cell h3]; simp [poCells, iv], by rw [at_cell h3]; simp [poCells, iv], by rw [at_cell h3]; simp [poCells, iv]⟩
theorem in_inR (p : Po) (x : Int) : p.in x = inR p.r x := rfl
/-- New: none -/
theorem ponew_no (c : Conf) (first : Int) (h : ¬ ((rt c).may = true ∧ inR (rt c) first = true)) (w : World) :
    Calls Tryz.prog 128 #[cf c, .int .i64 first] w fun e w' => e = .returned (.pointer none) ∧ w.grownBy w' none := by
  have K := hid (boxc_new w c)
  have R := hid (rules_any c)
  cases hm : (rt c).may with
  | false =>
    rw [hm, if_neg (by simp)] at R
    clear h hm
    go_enter Tryz.func128, Tryz.ntmps128
    go_wp2_with (refine wpList_conf K.out.box rfl rfl rfl rfl ?_)
    refine (R.out _).mono ?_
    rintro e w1 ⟨rfl, hg⟩
    have G1 := hid (gb_trans K.out.g hg (.inl rfl)); clear hg
    go_wp2_with fail
    go_ret
    exact ⟨rfl, gb_alloc G1.out _⟩
  | true =>
    have hi : inR (rt c) first = false := by
      cases hb : inR (rt c) first with
      | false => rfl
      | true => exact absurd ⟨hm, hb⟩ h
    rw [hm, if_pos rfl] at R
    have B := hid (pbeyond_any (rt c) first)
    rw [hi] at B
    clear h hm hi
    go_enter Tryz.func128, Tryz.ntmps128
    go_wp2_with (refine wpList_conf K.out.box rfl rfl rfl rfl ?_)
    refine (R.out _).mono ?_
    rintro e w1 ⟨rfl, hg⟩
    have G1 := hid (gb_trans K.out.g hg (.inl rfl)); clear hg
    go_wp2_with fail
    refine (B.out _).mono ?_
    rintro e w2 ⟨rfl, hg⟩
    have G2 := hid (gb_trans (gb_alloc G1.out _) hg (.inl rfl)); clear hg
    go_wp2_with fail
    go_ret
    exact ⟨rfl, G2.out⟩
def PoMade (w : World) (p : Po) (e : Ending) (w' : World) : Prop := ∃ b, e = .returned (.pointer (some ⟨b, 0, none⟩)) ∧ PoAt w' b p ∧ w.grownBy w' none ∧ w.heap.size ≤ b
theorem ponew_ok (c : Conf) (first : Int) (hm : (rt c).may = true) (hi : inR (rt c) first = true) (w : World) :
    Calls Tryz.prog 128 #[cf c, .int .i64 first] w (PoMade w ⟨rt c, [first]⟩) := by
  have K := hid (boxc_new w c)
  have R := hid (rules_any c)
  rw [hm, if_pos rfl] at R
  have B := hid (pbeyond_any (rt c) first)
  rw [hi] at B
  have hr := Rt.may_iff.1 hm
  have hf : (rt c).mn ≤ first ∧ first ≤ (rt c).mx := by
    unfold inR at hi
    simpa using hi
  have hok := hid (Po.new_ok hr hf.1 hf.2)
  have hper := hr.per
  obtain ⟨m, hpm⟩ : ∃ m : Nat, (rt c).per = (m : Int) := ⟨(rt c).per.toNat, by omega⟩
  have KP := hid (fun (W : World) (b : Nat) (hT : PoTop W b ⟨rt c, []⟩) => keep_any (p := ⟨rt c, []⟩) first m hpm (by omega) (by omega) (Nat.zero_le _) hT)
  have hk := hid (show (Po.keep ⟨rt c, []⟩ first) = ⟨rt c, [first]⟩ by
    have h1 : (Po.keep ⟨rt c, []⟩ first).l = [first] := keep_room hpm (by show 0 < m; omega) first
    show Po.mk _ (Po.keep ⟨rt c, []⟩ first).l = _
    rw [h1])
  have TOP := hid (fun (W : World) => (show PoTop (W.alloc (.cells (poCells (rt c) 0 (List.replicate 60 0)) 352)) W.heap.size ⟨rt c, []⟩ from ⟨List.replicate 60 0, rfl, rfl, at_new W _⟩))
  clear hm hi hf hper hpm hr
  go_enter Tryz.func128, Tryz.ntmps128
  go_wp2_with (refine wpList_conf K.out.box rfl rfl rfl rfl ?_)
  refine (R.out _).mono ?_
  rintro e w1 ⟨rfl, hg⟩
  have G1 := hid (gb_trans K.out.g hg (.inl rfl)); clear hg
  go_wp2_with fail
  refine (B.out _).mono ?_
  rintro e w2 ⟨rfl, hg⟩
  have hrow := hid (at_grown (at_new w1 (.cells (rtCells (rt c)) 347)) hg (by simp))
  have G2 := hid (gb_trans (gb_alloc G1.out _) hg (.inl rfl)); clear hg
  go_wp2_with (first | refine wpList_row hrow.out Tryz.underlying347 rfl (by kernel_rfl) rfl rfl rfl rfl ?_ | refine wpList_buildTo (ty := 352) (cs := poCells (rt c) 0 (List.replicate 60 0)) rfl rfl rfl (by kernel_rfl) ?_)
  refine (KP.out _ _ (TOP.out w2)).mono ?_
  rintro e w3 ⟨rfl, ht, hc⟩
  rw [hk.out] at ht
  have HT := hid ht; have HC := hid hc; clear ht hc
  go_wp2_with fail
  go_ret
  refine ⟨_, rfl, ⟨HT.out, hok.out⟩, ((chg_grown (gb_alloc G2.out _) []).trans HC.out (fun y hy => by rw [List.mem_singleton] at hy; subst hy; exact .inr G2.out.size)).free (fun y hy => by cases hy), G2.out.size⟩

theorem pput_yes {b : Nat} {p : Po} (x : Int) (hx : p.in x = true) {w : World} (H : PoAt w b p) :
    Calls Tryz.prog 362 #[.pointer (some ⟨b, 0, none⟩), .int .i64 x] w fun e w' => e = .returned (.int .i64 0) ∧ PoAt w' b (p.put x).2 ∧ Chg [b] w w' := by
  have I := hid (isMade_any H)
  have HH := hid H
  have B := hid (pbeyond_any p.r x)
  rw [← in_inR, hx] at B
  have hok := hid (Po.put_ok H.ok x)
  have hper := H.ok.r.per; have hn := H.ok.n
  obtain ⟨m, hpm⟩ : ∃ m : Nat, p.r.per = (m : Int) := ⟨p.r.per.toNat, by omega⟩
  have KP := hid (fun (W : World) (hT : PoTop W b p) => keep_any x m hpm (by omega) (by omega) (by omega) hT)
  have hk := hid (show p.keep x = (p.put x).2 by rw [Po.put_yes hx]; rfl)
  clear hx H hpm hper hn
  go_enter Tryz.func362, Tryz.ntmps362
  go_wp2_with fail
  refine I.out.mono ?_
  rintro e w1 ⟨rfl, hg⟩
  have G1 := hid hg; have H1 := hid (HH.out.grown hg); clear hg
  obtain ⟨d0, d1, d2, d3, d4, d5, d6⟩ := H1.out.rcells
  go_wp2_with fail
  refine (B.out _).mono ?_
  rintro e w2 ⟨rfl, hg⟩
  have G2 := hid (gb_trans G1.out hg (.inl rfl)); have H2 := hid (H1.out.grown hg); clear hg d0 d1 d2 d3 d4 d5 d6
  go_wp2_with fail
  refine (KP.out _ H2.out.top).mono ?_
  rintro e w3 ⟨rfl, ht, hc⟩
  rw [hk.out] at ht
  have HT := hid ht; have HC := hid hc; clear ht hc
  go_wp2_with fail
  go_ret
  exact ⟨rfl, ⟨HT.out, hok.out⟩, (chg_grown G2.out [b]).then HC.out⟩
/-- Base -/
theorem head_at (l : List Int) (h : 0 < l.length) : l[0] = l.headD 0 := by
  cases l with
  | nil => simp at h
  | cons a t => rfl
theorem pbase_any {b : Nat} {p : Po} {w : World} (H : PoAt w b p) :
    Calls Tryz.prog 365 #[.pointer (some ⟨b, 0, none⟩)] w fun e w' => e = .returned (.int .i64 p.base) ∧ w.grownBy w' none := by
  have I := hid (isMade_any H)
  have A := hid (fun W (h : w.grownBy W none) => pall_any (H.grown h))
  have n1 := H.ok.n1
  have hc := hid (fun W (h : w.grownBy W none) => (H.grown h).ints.cell n1)
  have hb : p.l[0]'n1 = p.base := by
    exact head_at p.l n1
  rw [hb] at hc
  generalize p.base = z at *
  have n1i : (1 : Int) ≤ (p.l.length : Int) := by omega
  clear hb
  generalize p.l.length = n at *
  clear H
  go_enter Tryz.func365, Tryz.ntmps365
  go_wp2_with fail
  refine I.out.mono ?_
  rintro e w1 ⟨rfl, hg⟩
  have G1 := hid hg; clear hg
  go_wp2_with fail
  refine (A.out _ G1.out).mono ?_
  rintro e w2 ⟨rfl, hg⟩
  have G2 := hid (gb_trans G1.out hg (.inl rfl)); clear hg
  obtain ⟨ab, ao, he, -, -, hcell⟩ := hc.out _ G2.out
  cases he
  go_wp2_with fail
  go_ret
  exact ⟨rfl, G2.out⟩
/-- All -/
theorem pclone_any (a : Addr) (n c : Nat) (l : List Int) (w : World) (h : IntsAt w (.slice (some a) n c) l) (hn : l.length ≤ 999999) :
    Calls Tryz.prog 193 #[.slice (some a) n c] w fun e w' => (∃ v, e = .returned v ∧ OwnN w.heap.size w' v l) ∧ w.grownBy w' none := by
  have HI := hid h
  have hnil := Lib.run_eql_slice_nil w 22 3 (some a) n c 0 0 Tryz.underlying22
  have HE := hid (OwnN.empty w)
  have HB := hid (HI.out.alloc (.cells #[] 3))
  have HL := hid hn
  clear h hn
  go_enter Tryz.func193, Tryz.ntmps193
  go_wp2_with (refine append_nums rfl _ _ rfl w.heap.size _ [] rfl HE.out _ l rfl HB.out (by have := HL.out; simp; omega) (gb_size (gb_alloc (.refl w none) _)) ?_; intro v' w' hown hgrow hat)
  go_ret
  exact ⟨⟨_, rfl, by simpa using hown⟩, gb_ownN (gb_alloc (.refl w none) _) HE.out (Nat.le_refl _) hgrow⟩
theorem palls_any {b : Nat} {p : Po} {w : World} (H : PoAt w b p) :
    Calls Tryz.prog 96 #[.pointer (some ⟨b, 0, none⟩)] w fun e w' => (∃ v, e = .returned v ∧ OwnN w.heap.size w' v p.l) ∧ w.grownBy w' none := by
  have I := hid (isMade_any H)
  have A := hid (fun W (h : w.grownBy W none) => pall_any (H.grown h))
  have hn := H.ok.n60
  have C1 := hid (fun (W : World) (h : w.grownBy W none) => pclone_any _ _ _ p.l W (H.grown h).ints (by omega))
  generalize p.l = l at *
  clear H
  go_enter Tryz.func96, Tryz.ntmps96
  go_wp2_with fail
  refine I.out.mono ?_
  rintro e w1 ⟨rfl, hg⟩
  have G1 := hid hg; clear hg
  go_wp2_with fail
  refine (A.out _ G1.out).mono ?_
  rintro e w2 ⟨rfl, hg⟩
  have G2 := hid (gb_trans G1.out hg (.inl rfl)); clear hg
  go_wp2_with fail
  refine (C1.out _ G2.out).mono ?_
  rintro e w3 ⟨⟨v, rfl, hv⟩, hg⟩
  have V := hid (hv.le G2.out.size); have G3 := hid (gb_trans G2.out hg (.inl rfl))
  clear hv hg
  go_wp2_with fail
  go_ret
  exact ⟨⟨_, rfl, V.out⟩, G3.out⟩
set_option maxHeartbeats 1600000 in
theorem plim_any {b : Nat} {p : Po} (x : Int) {w : World} (H : PoAt w b p) :
    Calls Tryz.prog 314 #[.pointer (some ⟨b, 0, none⟩), .int .i64 x] w fun e w' => e = .returned (.int .i64 (p.lim x)) ∧ w.grownBy w' none := by
  have I := hid (isMade_any H)
  have HH := hid H
  have HOK := hid H.ok
  have HB := hid (show 0 ≤ p.base ∧ p.base ≤ 10000 by
    have h1 := Po.base_in H.ok; have h2 := H.ok.r.mn; have h3 := H.ok.r.mx
    omega)
  have HL := hid (show p.lim x = min (max (min (max x (p.r.lo p.base)) (p.r.hi p.base)) p.r.mn) p.r.mx from rfl)
  clear H
  go_enter Tryz.func314, Tryz.ntmps314
  go_wp2_with fail
  refine I.out.mono ?_
  rintro e w1 ⟨rfl, hg⟩
  have G := hg; have H := HH.out.grown hg; clear hg
  go_wp2_with fail
  refine wp_region_held_drew (S := (fun w' => (PoAt w' b p) ∧ (w.grownBy w' none))) (by kernel_rfl) ⟨H.drew, gb_drew G⟩ (fun hHeld => ?_)
  try dsimp only at hHeld
  clear H G
  refine jU 0 hHeld ?_
  try simp only [jX, jD, jE, jF]
  refine jU 1 hHeld ?_
  try simp only [jX, jD, jE, jF]
  refine jU 2 hHeld ?_
  try simp only [jX, jD, jE, jF]
  refine' jT 3 rfl (by rfl) ?_ hHeld ?_
  rotate_left
  · (intro w hSw; (try dsimp only at hSw); obtain ⟨H, G⟩ := hSw; obtain ⟨d0, d1, d2, d3, d4, d5, d6⟩ := H.rcells; obtain ⟨-, -, -, -, fz⟩ := H.cells; go_simp; try with_reducible rfl)
  try simp only [jX, jD, jE, jF]
  refine jU 4 hHeld ?_
  try simp only [jX, jD, jE, jF]
  refine jR [5] ?_
  refine jG rfl (fun K hK => ?_) AllReadyH.nil
  try simp only [jD, jE, jF]
  go_simp
  have hH2 := hHeld
  obtain ⟨H, G⟩ := hH2
  refine (pbase_any H).mono ?_
  rintro e w1005 ⟨rfl, hg⟩
  have L5 := hid (show (PoAt w1005 b p) ∧ (w.grownBy w1005 none) from ⟨H.grown hg, gb_trans G hg (.inl rfl)⟩)
  clear hHeld hg H G
  go_wp2_with fail
  refine hK.out _ _ ?_ (fun hHeld => ?_)
  · exact L5.out
  clear hK K
  try dsimp only at hHeld
  try simp only [jX, jD, jE, jF]
  refine jR [6] ?_
  refine jG rfl (fun K hK => ?_) AllReadyH.nil
  try simp only [jD, jE, jF]
  go_simp
  have hH2 := hHeld
  obtain ⟨H, G⟩ := hH2
  refine (pbounds_any p.r p.base HOK.out.r HB.out.1 HB.out.2 _).mono ?_
  rintro e w1006 ⟨rfl, hg⟩
  have L6 := hid (show (PoAt w1006 b p) ∧ (w.grownBy w1006 none) from ⟨H.grown hg, gb_trans G hg (.inl rfl)⟩)
  clear hHeld hg H G
  go_wp2_with fail
  refine hK.out _ _ ?_ (fun hHeld => ?_)
  · exact L6.out
  clear hK K
  try dsimp only at hHeld
  try simp only [jX, jD, jE, jF]
  refine jU 7 hHeld ?_
  try simp only [jX, jD, jE, jF]
  refine jU 8 hHeld ?_
  try simp only [jX, jD, jE, jF]
  refine jU 9 hHeld ?_
  try simp only [jX, jD, jE, jF]
  refine jU 10 hHeld ?_
  try simp only [jX, jD, jE, jF]
  refine jU 11 hHeld ?_
  try simp only [jX, jD, jE, jF]
  refine wpAnyH_done (by kernel_rfl) ?_ _
  obtain ⟨H, G⟩ := hHeld
  have H3 := hid H; have G3 := hid G; clear H G
  go_wp2_with fail
  generalize p.r.lo p.base = lo at *
  generalize p.r.hi p.base = hi at *
  obtain ⟨-, d5, d6, -, fz⟩ := H3.out.cells
  have C1 := hid (clamp_any x lo hi)
  obtain ⟨z, hz⟩ : ∃ z, min (max x lo) hi = z := ⟨_, rfl⟩
  rw [hz] at HL C1
  have C2 := hid (clamp_any z p.r.mn p.r.mx)
  rw [← HL.out] at C2
  obtain ⟨y, hy⟩ : ∃ y, p.lim x = y := ⟨_, rfl⟩
  rw [hy] at C2
  have HY := hid hy
  clear hz HL hy
  generalize p.r.mn = mn at *
  generalize p.r.mx = mx at *
  go_quiet ((go_at_call 366; first | with_reducible exact Calls.quiet_of_same (still_of (C1.out _)) | with_reducible exact Calls.quiet_of_same (still_of (C2.out _))))
  go_wp2_with fail
  go_ret
  exact ⟨congrArg (fun z => Ending.returned (.int .i64 z)) HY.out.symm, gb_trans G3.out ⟨rfl, rfl, rfl, Nat.le_refl _, fun _ _ _ => rfl⟩ (.inl rfl)⟩
end Go.Proofs.YtecggbndlbkhdaaGreat
end
section
set_option linter.unusedSimpArgs false
set_option linter.unusedVariables false
namespace Go.Proofs.YtecggbndlbkhdaaGreat
set_option maxRecDepth 100000
open Go.RowKit

theorem pall_hit {r : Rt} {l : List Int} {k : Nat} {x : Int} (h : l[k]? = some x) (hx : inR r x = false) : l.all (inR r) = false := by
  obtain ⟨hk, rfl⟩ := List.getElem?_eq_some_iff.1 h
  cases hb : l.all (inR r) with
  | false => rfl
  | true => rw [List.all_eq_true] at hb; rw [hb _ (List.getElem_mem hk)] at hx; cases hx
theorem pall_none {r : Rt} {l : List Int} (h : ∀ (i : Nat) (x : Int), i < l.length → l[i]? = some x → inR r x = true) : l.all (inR r) = true := by
  rw [List.all_eq_true]
  intro x hx
  obtain ⟨i, hi, rfl⟩ := List.mem_iff_getElem.1 hx
  exact h i _ hi (List.getElem?_eq_getElem hi)

set_option maxHeartbeats 800000 in
theorem pindex_any (r : Rt) (v : Value) (l : List Int) (w : World) (h : IntsAt w v l) :
    Calls Tryz.prog 375 #[v, .func (.func 221) #[rv r] #[]] w fun e w' => (∃ i : Int, e = .returned (.int .i64 i) ∧ decide (0 ≤ i) = !(l.all (inR r))) ∧ w.grownBy w' none := by
  have HI := hid h
  obtain ⟨p, c, rfl⟩ := h.form
  obtain ⟨n, hn⟩ : ∃ n, l.length = n := ⟨_, rfl⟩
  have HN := hid hn
  have hlen := h.len
  rw [hn] at HI hlen ⊢
  unfold maxLen at hlen
  clear h hn
  go_enter Tryz.func375, Tryz.ntmps375
  go_wp2_with fail
  go_loopw [5, 8] (fun _ i wr => ∃ k : Nat, k ≤ n ∧ i = .int .i64 (k : Int) ∧ (∀ (j : Nat) (x : Int), j < k → l[j]? = some x → inR r x = true) ∧ w.grownBy wr none) (fun _ i _ => n - (intOf i).toNat)
  case atStart => exact ⟨0, Nat.zero_le _, rfl, fun j x hj => absurd hj (Nat.not_lt_zero _), .refl w none⟩
  case round =>
    obtain ⟨k, hk, rfl, ha, hgr⟩ := hrel
    have HA := hid ha; have HGR := hid hgr
    clear ha hgr
    by_cases hlt : k < n
    · have hkl : k < l.length := by rw [HN.out]; exact hlt
      obtain ⟨ab, ao, rfl, -, hcc, hcell⟩ := (HI.out.grown HGR.out).cell hkl
      have hx := List.getElem?_eq_getElem hkl
      generalize l[k] = y at *
      have HX := hid hx; clear hx
      cases hy : inR r y with
      | false =>
        have HB := hid (pbeyond_any r y wr)
        rw [hy] at HB
        have HALL := hid (pall_hit HX.out hy)
        clear hy
        go_wp2_with fail
        refine HB.out.mono ?_
        rintro e w1 ⟨rfl, hg⟩
        have G1 := hid (gb_trans HGR.out hg (.inl rfl)); clear hg
        go_wp2_with fail
        go_ret
        exact ⟨⟨_, rfl, by rw [HALL.out]; simp⟩, G1.out⟩
      | true =>
        have HB := hid (pbeyond_any r y wr)
        rw [hy] at HB
        have HY := hid hy
        clear hy
        go_wp2_with fail
        refine HB.out.mono ?_
        rintro e w1 ⟨rfl, hg⟩
        have G1 := hid (gb_trans HGR.out hg (.inl rfl)); clear hg
        go_wp2_with fail
        go_roundw
        case rel => exact ⟨k + 1, by omega, by go_num, fun j x hj hjx => by
          rcases Nat.lt_or_ge j k with h1 | h1
          · exact HA.out j x h1 hjx
          · obtain rfl : j = k := by omega
            rw [HX.out] at hjx; cases hjx; exact HY.out, G1.out⟩
        case measure => simp [intOf]; omega
    · obtain rfl : k = n := by omega
      go_wp2_with fail
      go_ret
      exact ⟨⟨_, rfl, by rw [pall_none fun i x hi => HA.out i x (by rw [← HN.out]; exact hi)]; rfl⟩, HGR.out⟩

theorem pcontains_any (r : Rt) (v : Value) (l : List Int) (w : World) (h : IntsAt w v l) :
    Calls Tryz.prog 335 #[v, .func (.func 221) #[rv r] #[]] w fun e w' => e = .returned (.bool (!(l.all (inR r)))) ∧ w.grownBy w' none := by
  have C1 := hid (pindex_any r v l w h)
  obtain ⟨p, c, rfl⟩ := h.form
  generalize l.length = n at *
  generalize l.all (inR r) = b at *
  clear h
  go_enter Tryz.func335, Tryz.ntmps335
  go_wp2_with fail
  refine C1.out.mono ?_
  rintro e w1 ⟨⟨i, rfl, hr⟩, hg⟩
  have G1 := hid hg; clear hg C1
  go_wp2_with fail
  go_ret
  exact ⟨rfl, G1.out⟩

def SettedP (w : World) (b : Nat) (p : Po) (l : List Int) (e : Ending) (w' : World) : Prop :=
  (p.mayset l = true ∧ e = .returned (.int .i64 0) ∧ PoAt w' b ⟨p.r, l⟩ ∧ Chg [b] w w') ∨ (p.mayset l = false ∧ e = .returned (.int .i64 1) ∧ w.grownBy w' none)
theorem mayset_yes {p : Po} {l : List Int} (h1 : 1 ≤ (l.length : Int) ∧ (l.length : Int) ≤ p.r.per) (h2 : l.all (inR p.r) = true) : p.mayset l = true := by
  have h2' : l.all p.in = true := h2
  have h3 : 1 ≤ l.length := by omega
  unfold Po.mayset
  rw [h2', decide_eq_true h3, decide_eq_true h1.2]
  rfl
theorem mayset_no1 {p : Po} {l : List Int} (h1 : ¬ (1 ≤ (l.length : Int) ∧ (l.length : Int) ≤ p.r.per)) : p.mayset l = false := by
  unfold Po.mayset
  by_cases h3 : 1 ≤ l.length
  · rw [decide_eq_false (show ¬ (l.length : Int) ≤ p.r.per by omega), Bool.and_false]
  · rw [decide_eq_false h3, Bool.and_false, Bool.false_and]
theorem mayset_no2 {p : Po} {l : List Int} (h2 : l.all (inR p.r) = false) : p.mayset l = false := by
  have h2' : l.all p.in = false := h2
  unfold Po.mayset
  rw [h2', Bool.false_and, Bool.false_and]
set_option maxHeartbeats 1600000 in
theorem poset_any {b : Nat} {p : Po} (v : Value) (l : List Int) {w : World} (H : PoAt w b p) (hv : IntsAt w v l) :
    Calls Tryz.prog 270 #[.pointer (some ⟨b, 0, none⟩), v] w (SettedP w b p l) := by
  have I := hid (isMade_any H)
  have HH := hid H
  have HV := hid hv
  have C1 := hid (fun (W : World) (h : w.grownBy W none) => pcontains_any p.r v l W (hv.grown h))
  have hper := H.ok.r.per
  have hlen := hv.len
  unfold maxLen at hlen
  obtain ⟨q, cc, rfl⟩ := hv.form
  obtain ⟨n, hn⟩ : ∃ n, l.length = n := ⟨_, rfl⟩
  have HN := hid hn
  rw [hn] at HV hlen C1 ⊢
  clear hv
  by_cases h1 : 1 ≤ (n : Int) ∧ (n : Int) ≤ p.r.per
  rotate_left
  · have hms := hid (mayset_no1 (p := p) (l := l) (by rw [hn]; exact h1))
    have W1 := hid (pin_no h1)
    clear h1 hn H
    go_enter Tryz.func270, Tryz.ntmps270
    go_wp2_with fail
    refine I.out.mono ?_
    rintro e w1 ⟨rfl, hg⟩
    have G1 := hid hg; have H1 := hid (HH.out.grown hg); clear hg
    obtain ⟨d0, d1, d2, d3, d4, d5, d6⟩ := H1.out.rcells
    go_wp2_with fail
    refine (W1.out _).mono ?_
    rintro e w2 ⟨rfl, rfl⟩
    go_wp2_with fail
    go_ret
    exact .inr ⟨hms.out, rfl, G1.out⟩
  have hn60 := hid (show n ≤ 60 by omega)
  have W1 := hid (pin_yes h1)
  cases ha : l.all (inR p.r) with
  | false =>
    have hms := hid (mayset_no2 (p := p) ha)
    rw [ha] at C1
    clear h1 hn ha H
    go_enter Tryz.func270, Tryz.ntmps270
    go_wp2_with fail
    refine I.out.mono ?_
    rintro e w1 ⟨rfl, hg⟩
    have G1 := hid hg; have H1 := hid (HH.out.grown hg); clear hg
    obtain ⟨d0, d1, d2, d3, d4, d5, d6⟩ := H1.out.rcells
    go_wp2_with fail
    refine (W1.out _).mono ?_
    rintro e w2 ⟨rfl, rfl⟩
    go_wp2_with fail
    refine (C1.out _ G1.out).mono ?_
    rintro e w3 ⟨rfl, hg⟩
    have G3 := hid (gb_trans G1.out hg (.inl rfl)); clear hg
    go_wp2_with fail
    go_ret
    exact .inr ⟨hms.out, rfl, G3.out⟩
  | true =>
    have hms := hid (mayset_yes (p := p) (l := l) (by rw [hn]; exact h1) ha)
    have hok := hid (show (Po.mk p.r l).Ok by
      have h := Po.set_ok H.ok l
      unfold Po.set at h
      rw [if_pos hms.out] at h
      exact h)
    rw [ha] at C1
    obtain ⟨⟨ws, h60, -, hrow⟩, -⟩ := H
    have H60 := hid h60
    have hrw := hid (fun W (h : w.grownBy W none) => at_grown hrow h (by simp))
    have hs := fun u => parr_all b u
    clear h1 hn ha h60 hrow
    go_enter Tryz.func270, Tryz.ntmps270
    go_wp2_with fail
    refine I.out.mono ?_
    rintro e w1 ⟨rfl, hg⟩
    have G1 := hid hg; have H1 := hid (HH.out.grown hg); clear hg
    obtain ⟨d0, d1, d2, d3, d4, d5, d6⟩ := H1.out.rcells
    go_wp2_with fail
    refine (W1.out _).mono ?_
    rintro e w2 ⟨rfl, rfl⟩
    go_wp2_with fail
    refine (C1.out _ G1.out).mono ?_
    rintro e w3 ⟨rfl, hg⟩
    have G3 := hid (gb_drew (gb_trans G1.out hg (.inl rfl))); clear hg d0 d1 d2 d3 d4 d5 d6
    go_wp2_with fail
    obtain ⟨w4, hc1, hc2, hc3⟩ := pcopy_into (hrw.out _ G3.out) H60.out (HV.out.grown G3.out) (by rw [HN.out]; exact hn60.out) 3
    rw [HN.out] at hc1 hc2
    have HC2 := hid hc2; have HC3 := hid hc3
    have c2 := at_cell hc2 7; rw [po_cell7] at c2
    have f2 := at_free hc2 7
    have HST := hid (store_i64 ⟨b, 7, none⟩ (n : Int) _ w4 c2 f2)
    clear hc2 hc3
    refine wp_region_last (S := (fun w' => (True))) 9 9 #[false, false, false, false, false, false, false, false, false, true] (by kernel_rfl) (by kernel_rfl) (by kernel_rfl) (by kernel_rfl) trivial (fun hHeld => ?_)
    try dsimp only at hHeld
    refine jU 0 hHeld ?_
    try simp only [jX, jD, jE, jF]
    refine jU 1 hHeld ?_
    try simp only [jX, jD, jE, jF]
    refine jU 2 hHeld ?_
    try simp only [jX, jD, jE, jF]
    refine jU 3 hHeld ?_
    try simp only [jX, jD, jE, jF]
    refine jU 4 hHeld ?_
    try simp only [jX, jD, jE, jF]
    refine jU 5 hHeld ?_
    try simp only [jX, jD, jE, jF]
    refine jU 6 hHeld ?_
    try simp only [jX, jD, jE, jF]
    refine jU 7 hHeld ?_
    try simp only [jX, jD, jE, jF]
    refine jR [8] ?_
    refine jG rfl (fun K hK => ?_) AllReadyH.nil
    have hH2 := hHeld
    have hp := hH2
    try simp only [jD, jE, jF]
    rw [if_pos (by rfl)]
    refine pwp_copyN _ _ rfl _ _ rfl rfl hc1 ?_
    have L8 := hid (show (True) from hp)
    clear hHeld hp
    refine hK.out _ _ ?_ (fun hHeld => ?_)
    · exact L8.out
    clear hK K
    try dsimp only at hHeld
    try simp only [jX, jD, jE, jF]
    refine wpAnyH_done (by kernel_rfl) ?_ _
    have hp := hHeld
    clear hp
    refine atLast_step (o := _) rfl (fun K hK => ?_)
    try simp only [jD, jE, jF]
    go_simp
    refine HST.out.mono ?_
    rintro e w5 ⟨rfl, rfl⟩
    go_wp2_with fail
    refine hK.out _ _ ?_
    clear hK K
    try simp only [jX, jD, jE, jF]
    go_wp2_with fail
    go_ret
    exact .inl ⟨hms.out, rfl, ⟨⟨l ++ ws.drop n, by rw [List.length_append, List.length_drop, H60.out, HN.out]; have := hn60.out; omega, by simp, by show _ = some (Obj.cells (poCells p.r l.length _) _); rw [HN.out]; exact prow_kept HC2.out n⟩, hok.out⟩, ((chg_grown G3.out [b]).then HC3.out).set (.inl (by simp)) _⟩
end Go.Proofs.YtecggbndlbkhdaaGreat
end
section
set_option linter.unusedSimpArgs false
namespace Go.Proofs.YtecggbndlbkhdaaGreat
set_option maxRecDepth 100000
open Go.RowKit

end Go.Proofs.YtecggbndlbkhdaaGreat
end
section
set_option linter.unusedSimpArgs false
set_option linter.unusedVariables false
namespace Go.Proofs.YtecggbndlbkhdaaGreat
set_option maxRecDepth 100000
open Go.RowKit

/-- a block that the call made, and what lies in it -/
def Blk (w : World) (g : Nat) (o : Obj) (w' : World) : Prop := w.heap.size + 1 < g ∧ w'.heap[g]? = some o
theorem Blk.grown {w : World} {g : Nat} {o : Obj} {w1 w2 : World} (h : Blk w g o w1) (hg : w1.grownBy w2 none) : Blk w g o w2 := ⟨h.1, at_grown h.2 hg (by simp)⟩
theorem Blk.set0 {w : World} {g : Nat} {o : Obj} {w1 : World} (h : Blk w g o w1) (v : Value) : Blk w g o (w1.setCell ⟨w.heap.size + 1, 0, none⟩ v) := ⟨h.1, at_set_other h.2 (by have := h.1; simp; omega) v⟩
theorem Blk.set1 {w : World} {g : Nat} {o : Obj} {w1 : World} (h : Blk w g o w1) (v : Value) : Blk w g o (w1.setCell ⟨w.heap.size + 1, 1, none⟩ v) := ⟨h.1, at_set_other h.2 (by have := h.1; simp; omega) v⟩
theorem Box.size {w : World} {k0 k1 : BitVec 64} {t t' : TypeId} {w1 : World} (h : Box w k0 k1 t t' w1) : w.heap.size + 1 < w1.heap.size := by obtain ⟨x, y, h⟩ := h.ans; exact at_lt h

end Go.Proofs.YtecggbndlbkhdaaGreat
end
section
set_option linter.unusedSimpArgs false
set_option linter.unusedVariables false
namespace Go.Proofs.YtecggbndlbkhdaaGreat
set_option maxRecDepth 100000
open Go.RowKit

def standV (h : Hd) : Value := .agg #[.int .i64 (standH h).1, .int .i64 (standH h).2.1, .bool (standH h).2.2]
theorem standing_any {s : Sc} {b hb : Nat} {w : World} (h : ScAt s b hb w) (k : Nat) (h0 : Hd) (hk : s.H[k]? = some h0) :
    Calls Tryz.prog 207 #[.pointer (some ⟨hb, k * 2, none⟩)] w fun e w' => e = .returned (standV h0) ∧ w.grownBy w' none := by
  obtain ⟨p0, p1⟩ := (h.alloc (.cells #[.int .i64 0, .int .i64 0, .bool false] 93)).part hk
  have hc := h.ok.cnt h0 (List.mem_of_getElem? hk)
  obtain ⟨o, c⟩ := h0
  dsimp only at *
  have HL := hid (load_i64 _ _ _ p1)
  have e1 : IntKind.i64.wrap c = c := IntWalk.i64_in _ (by omega)
  clear h hk p1
  unfold standV standH
  cases o with
  | true =>
    go_enter Tryz.func207, Tryz.ntmps207
    go_wp2_with fail
    refine HL.out.mono ?_
    rintro e w1 ⟨rfl, rfl⟩
    go_wp2_with fail
    refine bodyPost_ret (v := .agg #[.int .i64 0, .int .i64 c, .bool true]) ?_ rfl ⟨by simp, by first | exact .refl w none | exact gb_alloc (.refl w none) _⟩
    simp [results, Tryz.results207, go_sem]
  | false =>
    go_enter Tryz.func207, Tryz.ntmps207
    go_wp2_with fail
    refine HL.out.mono ?_
    rintro e w1 ⟨rfl, rfl⟩
    go_wp2_with fail
    refine bodyPost_ret (v := .agg #[.int .i64 c, .int .i64 0, .bool false]) ?_ rfl ⟨by simp, by first | exact .refl w none | exact gb_alloc (.refl w none) _⟩
    simp [results, Tryz.results207, go_sem]
theorem res_box {w1 : World} {b : Nat} {x y : Int} {o : Bool} (h : w1.heap[b]? = some (.cells #[.int .i64 0, .int .i64 0, .bool false] 93)) :
    (((w1.setCell ⟨b, 0, none⟩ (.int .i64 x)).setCell ⟨b, 1, none⟩ (.int .i64 y)).setCell ⟨b, 2, none⟩ (.bool o)).heap[b]? = some (.cells #[.int .i64 x, .int .i64 y, .bool o] 93) := by
  have := at_set (at_set (at_set h 0 (.int .i64 x)) 1 (.int .i64 y)) 2 (.bool o)
  rw [this]; rfl
theorem sget_in {s : Sc} {b hb : Nat} {w : World} (h : ScAt s b hb w) (k : Nat) (h0 : Hd) (hk : s.H[k]? = some h0) :
    Calls Tryz.prog 191 #[.pointer (some ⟨b, 0, none⟩), .int .i64 (k : Int)] w fun e w' => e = .returned (.tuple #[standV h0, .int .i64 0]) ∧ w.grownBy w' none := by
  have HF := hid (sfind_in (h.alloc (.cells #[.int .i64 0, .int .i64 0, .bool false] 93)) k (List.getElem?_eq_some_iff.1 hk).1)
  have HS := hid (standing_any (h.alloc (.cells #[.int .i64 0, .int .i64 0, .bool false] 93)) k h0 hk)
  have HB := hid (at_new w (.cells #[.int .i64 0, .int .i64 0, .bool false] 93))
  clear h hk
  unfold standV at *
  generalize (standH h0).1 = x at *
  generalize (standH h0).2.1 = y at *
  generalize (standH h0).2.2 = o at *
  go_enter Tryz.func191, Tryz.ntmps191
  go_wp2_with fail
  refine HF.out.mono ?_
  rintro e w1 ⟨rfl, rfl⟩
  go_wp2_with fail
  refine HS.out.mono ?_
  rintro e w1 ⟨rfl, hg⟩
  have hb1 := at_grown HB.out hg (by simp)
  have HB1 := hid hb1
  have c0 := at_cell hb1 0
  have c1 := at_cell hb1 1
  have c2 := at_cell hb1 2
  have f0 := at_free hb1 0
  have f1 := at_free hb1 1
  have f2 := at_free hb1 2
  have G := hid (gb_new (gb_new (gb_new (gb_trans (World.grownBy_alloc w (.cells #[.int .i64 0, .int .i64 0, .bool false] 93) none) hg (.inl rfl)) (p := ⟨w.heap.size, 0, none⟩) (Nat.le_refl _) (.int .i64 x)) (p := ⟨w.heap.size, 1, none⟩) (Nat.le_refl _) (.int .i64 y)) (p := ⟨w.heap.size, 2, none⟩) (Nat.le_refl _) (.bool o))
  have R := hid (res_box (x := x) (y := y) (o := o) hb1)
  clear hg HF HS HB hb1 HB1
  go_wp2_with fail
  generalize ((w1.setCell ⟨w.heap.size, 0, none⟩ (.int .i64 x)).setCell ⟨w.heap.size, 1, none⟩ (.int .i64 y)).setCell ⟨w.heap.size, 2, none⟩ (.bool o) = wx at *
  have r0 : wx.cell? ⟨w.heap.size, 0, none⟩ = some (.int .i64 x) := at_cell R.out 0
  have r1 : wx.cell? ⟨w.heap.size, 1, none⟩ = some (.int .i64 y) := at_cell R.out 1
  have r2 : wx.cell? ⟨w.heap.size, 2, none⟩ = some (.bool o) := at_cell R.out 2
  exact bodyPost_ret (v := .tuple #[.agg #[.int .i64 x, .int .i64 y, .bool o], .int .i64 0]) (by simp [results, Tryz.results191, go_sem, r0, r1, r2]) rfl ⟨rfl, G.out⟩
/-- the part k stands as c, all else is as it was -/
def Puts (s : Sc) (b hb k : Nat) (w : World) (p : Hd × Bool) (e : Ending) (w' : World) : Prop := e = .returned (.bool p.2) ∧ ScAt (s.put k p.1) b hb w' ∧ Chg [hb] w w'
theorem more_any {s : Sc} {b hb : Nat} {w : World} (h : ScAt s b hb w) (k : Nat) (h0 : Hd) (hk : s.H[k]? = some h0) (hh : h0.2 < 1000) (lim : Int) (hl : 1 ≤ lim ∧ lim ≤ 100) :
    Calls Tryz.prog 319 #[.pointer (some ⟨hb, k * 2, none⟩), .int .i64 lim] w (Puts s b hb k w (moreH lim h0)) := by
  obtain ⟨p0, p1⟩ := h.part hk
  have hc := h.ok.cnt h0 (List.mem_of_getElem? hk)
  have A := hid (addn_i64 _ _ 1 (h0.2 + 1) _ p1 (h.free _) (IntWalk.i64_in _ (by omega)))
  by_cases hlt : h0.2 + 1 < lim
  · have he : moreH lim h0 = ((h0.1, h0.2 + 1), false) := by unfold moreH; rw [if_pos hlt]
    rw [he]
    have K1 := hid (h.cnt hk (c := h0.2 + 1) (by omega))
    obtain ⟨z, hz⟩ : ∃ z, z = h0.2 + 1 := ⟨_, rfl⟩
    rw [← hz] at A K1 hlt ⊢
    clear h he hk p0 p1 hz
    go_enter Tryz.func319, Tryz.ntmps319
    go_wp2_with fail
    refine A.out.mono ?_
    rintro e w1 ⟨rfl, hw⟩
    rw [← hw] at K1
    clear hw A
    go_wp2_with fail
    go_ret
    exact ⟨rfl, K1.out.1, K1.out.2⟩
  · have he : moreH lim h0 = ((!h0.1, 0), true) := by unfold moreH; rw [if_neg hlt]
    rw [he]
    have K1 := h.cnt hk (c := h0.2 + 1) (by omega)
    have hk1 := Sc.put_at hk (h0.1, h0.2 + 1)
    have P1 := K1.1.part hk1
    have F1 := K1.1.free (k * 2)
    have K2 := K1.1.out hk1 (!h0.1)
    have hk2 := Sc.put_at hk1 (!h0.1, h0.2 + 1)
    have A2 := hid (store_i64 _ 0 _ _ (K2.1.part hk2).2 (K2.1.free _))
    have K3 := K2.1.cnt hk2 (c := 0) (by omega)
    have KK := hid (And.intro K3.1 (K1.2.then (K2.2.then K3.2)))
    rw [Sc.put_put, Sc.put_put] at KK
    dsimp only at P1 K2 A2 KK
    obtain ⟨p10, p11⟩ := P1
    obtain ⟨z, hz⟩ : ∃ z, z = h0.2 + 1 := ⟨_, rfl⟩
    rw [← hz] at A A2 KK hlt p10 F1
    obtain ⟨W1, hW1⟩ : ∃ W1, W1 = w.setCell ⟨hb, k * 2 + 1, none⟩ (.int .i64 z) := ⟨_, rfl⟩
    rw [← hW1] at A A2 KK p10 F1
    clear h he hk p0 p1 hz hk1 hk2 K1 K2 K3 p11 hW1 hc
    go_enter Tryz.func319, Tryz.ntmps319
    go_wp2_with fail
    refine A.out.mono ?_
    rintro e w1 ⟨rfl, rfl⟩
    clear A
    go_wp2_with fail
    refine A2.out.mono ?_
    rintro e w2 ⟨rfl, rfl⟩
    clear A2
    go_wp2_with fail
    go_ret
    exact ⟨rfl, KK.out.1, KK.out.2⟩
set_option maxHeartbeats 800000 in
theorem end_any {s : Sc} {b hb : Nat} {w : World} (h : ScAt s b hb w) (k : Nat) (h0 : Hd) (hk : s.H[k]? = some h0) (hh : h0.2 < 1000) (m : Int) :
    Calls Tryz.prog 247 #[.pointer (some ⟨b, 0, none⟩), .pointer (some ⟨hb, k * 2, none⟩), .int .i64 m] w (Puts s b hb k w (endH s.st s.pr h0 m)) := by
  obtain ⟨p0, p1⟩ := h.part hk
  obtain ⟨c0, c1, c2, c3⟩ := h.cells
  have hc := h.ok.cnt h0 (List.mem_of_getElem? hk)
  have hput : s.put k h0 = s := by
    obtain ⟨hl, e⟩ := List.getElem?_eq_some_iff.1 hk
    unfold Sc.put; rw [← e, List.set_getElem_self]
  obtain ⟨o, c⟩ := h0
  have M1 := hid (more_any h k (o, c) hk hh s.pr h.ok.pr)
  have M2 := hid (more_any h k (o, c) hk hh s.st h.ok.st)
  cases o with
  | true =>
    have he : endH s.st s.pr (true, c) m = ((moreH s.pr (true, c)).1, false) := by unfold endH; rw [if_pos rfl]
    rw [he]
    generalize moreH s.pr (true, c) = r at *
    clear h he hk p1 c1 c3 c0 M2 hput hc
    generalize s.pr = pr at *
    go_enter Tryz.func247, Tryz.ntmps247
    go_wp2_with fail
    refine M1.out.mono ?_
    rintro e w1 ⟨rfl, ha, hg⟩
    have K := hid (And.intro ha hg)
    clear ha hg M1
    go_wp2_with fail
    go_ret
    exact ⟨rfl, K.out.1, K.out.2⟩
  | false =>
    by_cases h2 : m = 2
    · subst h2
      have he : endH s.st s.pr (false, c) 2 = moreH s.st (false, c) := by unfold endH; rw [if_neg (by simp), if_pos rfl]
      rw [he]
      generalize moreH s.st (false, c) = r at *
      clear h he hk p1 c2 c3 c0 M1 hput hc
      generalize s.st = st at *
      go_enter Tryz.func247, Tryz.ntmps247
      go_wp2_with fail
      refine M2.out.mono ?_
      rintro e w1 ⟨rfl, ha, hg⟩
      have K := hid (And.intro ha hg)
      clear ha hg M2
      go_wp2_with fail
      go_ret
      exact ⟨rfl, K.out.1, K.out.2⟩
    · have d2 : (m == 2) = false := by simpa using h2
      by_cases h1 : m = 1
      · subst h1
        clear M1 M2
        have L := hid (load_i64 _ _ _ p1)
        by_cases hp : 0 < c
        · have he : endH s.st s.pr (false, c) 1 = ((false, c - 1), false) := by unfold endH; rw [if_neg (by simp), if_neg (by decide), if_pos ⟨rfl, hp⟩]
          rw [he]
          have A := hid (addn_i64 _ _ (-1) (c - 1) _ p1 (h.free _) (IntWalk.i64_in _ (by dsimp only at hc ⊢; omega)))
          have K := hid (h.cnt hk (c := c - 1) (by dsimp only at hc; omega))
          dsimp only at *
          obtain ⟨z, hz⟩ : ∃ z, z = c - 1 := ⟨_, rfl⟩
          rw [← hz] at A K ⊢
          clear h he hk c0 c1 c2 c3 hput hc hz p1
          go_enter Tryz.func247, Tryz.ntmps247
          go_wp2_with fail
          refine L.out.mono ?_
          rintro e w1 ⟨rfl, rfl⟩
          clear L
          go_wp2_with fail
          refine A.out.mono ?_
          rintro e w1 ⟨rfl, hw⟩
          rw [← hw] at K
          clear A hw
          go_wp2_with fail
          go_ret
          exact ⟨rfl, K.out.1, K.out.2⟩
        · have he : endH s.st s.pr (false, c) 1 = ((false, c), false) := by unfold endH; rw [if_neg (by simp), if_neg (by decide), if_neg (fun x => hp x.2)]
          rw [he]
          have K := hid h
          clear h he hk c0 c1 c2 c3 hc p1
          have HP := hid hput
          clear hput
          dsimp only at *
          go_enter Tryz.func247, Tryz.ntmps247
          go_wp2_with fail
          refine L.out.mono ?_
          rintro e w1 ⟨rfl, rfl⟩
          clear L
          go_wp2_with fail
          go_ret
          exact ⟨rfl, by rw [HP.out]; exact K.out, chg_refl _ _⟩
      · have he : endH s.st s.pr (false, c) m = ((false, c), false) := by unfold endH; rw [if_neg (by simp), if_neg h2, if_neg (fun x => h1 x.1)]
        rw [he]
        have d1 : (m == 1) = false := by simpa using h1
        have K := hid h
        clear h he hk c0 c1 c2 c3 hc p1 M1 M2 h1 h2
        have HP := hid hput
        clear hput
        go_enter Tryz.func247, Tryz.ntmps247
        go_wp2_with fail
        go_ret
        exact ⟨rfl, by rw [HP.out]; exact K.out, chg_refl _ _⟩
end Go.Proofs.YtecggbndlbkhdaaGreat
end
