/-
  Contracts for package policy: New, Put, Base, All, Limit, Bounds, of nil too. The condition of a call: the object lies there, slices read as numbers.
-/
import Derived.Test.YtmhpldnmapjghaaPoC
set_option linter.unusedSimpArgs false
set_option linter.unusedVariables false
namespace Go.Proofs.Ytmhpldnmapjghaa
set_option maxRecDepth 100000
open Go.RowKit

theorem PoAt.rcells {w : World} {b : Nat} {p : Po} (H : PoAt w b p) : w.cell? ⟨b, 0, none⟩ = some (.int .i64 p.r.pu) ∧ w.cell? ⟨b, 1, none⟩ = some (.int .i64 p.r.cu) ∧ w.cell? ⟨b, 2, none⟩ = some (.int .i64 p.r.pd) ∧ w.cell? ⟨b, 3, none⟩ = some (.int .i64 p.r.cd) ∧ w.cell? ⟨b, 4, none⟩ = some (.int .i64 p.r.per) ∧ w.cell? ⟨b, 5, none⟩ = some (.int .i64 p.r.mn) ∧ w.cell? ⟨b, 6, none⟩ = some (.int .i64 p.r.mx) := by
  obtain ⟨⟨ws, h1, h2, h3⟩, ho⟩ := H
  exact ⟨by rw [at_cell h3]; simp [poCells, iv], by rw [at_cell h3]; simp [poCells, iv], by rw [at_cell h3]; simp [poCells, iv], by rw [at_cell h3]; simp [poCells, iv], by rw [at_cell h3]; simp [poCells, iv], by rw [at_cell h3]; simp [poCells, iv], by rw [at_cell h3]; simp [poCells, iv]⟩
theorem in_inR (p : Po) (x : Int) : p.in x = inR p.r x := rfl
/-- New: none -/
theorem ponew_no (c : Conf) (first : Int) (h : ¬ ((rt c).may = true ∧ inR (rt c) first = true)) (w : World) :
    Calls Try.prog 10 #[cf c, .int .i64 first] w fun e w' => e = .returned (.pointer none) ∧ w.grownBy w' none := by
  have K := hid (boxc_new w c)
  have R := hid (rules_any c)
  cases hm : (rt c).may with
  | false =>
    rw [hm, if_neg (by simp)] at R
    clear h hm
    go_enter Try.func10, Try.ntmps10
    go_wp2_with (refine wpList_conf K.out.box rfl rfl rfl rfl ?_)
    refine (R.out _).mono ?_
    rintro e w1 ⟨rfl, hg⟩
    have G1 := hid (gb_trans K.out.g hg (.inl rfl)); clear hg
    go_wp2_with fail
    go_ret
    exact ⟨rfl, gb_alloc G1.out _⟩
  | true =>
    have hi : inR (rt c) first = false := by
      cases hb : inR (rt c) first with
      | false => rfl
      | true => exact absurd ⟨hm, hb⟩ h
    rw [hm, if_pos rfl] at R
    have B := hid (pbeyond_any (rt c) first)
    rw [hi] at B
    clear h hm hi
    go_enter Try.func10, Try.ntmps10
    go_wp2_with (refine wpList_conf K.out.box rfl rfl rfl rfl ?_)
    refine (R.out _).mono ?_
    rintro e w1 ⟨rfl, hg⟩
    have G1 := hid (gb_trans K.out.g hg (.inl rfl)); clear hg
    go_wp2_with fail
    refine (B.out _).mono ?_
    rintro e w2 ⟨rfl, hg⟩
    have G2 := hid (gb_trans (gb_alloc G1.out _) hg (.inl rfl)); clear hg
    go_wp2_with fail
    go_ret
    exact ⟨rfl, G2.out⟩
def PoMade (w : World) (p : Po) (e : Ending) (w' : World) : Prop := ∃ b, e = .returned (.pointer (some ⟨b, 0, none⟩)) ∧ PoAt w' b p ∧ w.grownBy w' none ∧ w.heap.size ≤ b
theorem ponew_ok (c : Conf) (first : Int) (hm : (rt c).may = true) (hi : inR (rt c) first = true) (w : World) :
    Calls Try.prog 10 #[cf c, .int .i64 first] w (PoMade w ⟨rt c, [first]⟩) := by
  have K := hid (boxc_new w c)
  have R := hid (rules_any c)
  rw [hm, if_pos rfl] at R
  have B := hid (pbeyond_any (rt c) first)
  rw [hi] at B
  have hr := Rt.may_iff.1 hm
  have hf : (rt c).mn ≤ first ∧ first ≤ (rt c).mx := by
    unfold inR at hi
    simpa using hi
  have hok := hid (Po.new_ok hr hf.1 hf.2)
  have hper := hr.per
  obtain ⟨m, hpm⟩ : ∃ m : Nat, (rt c).per = (m : Int) := ⟨(rt c).per.toNat, by omega⟩
  have KP := hid (fun (W : World) (b : Nat) (hT : PoTop W b ⟨rt c, []⟩) => keep_any (p := ⟨rt c, []⟩) first m hpm (by omega) (by omega) (Nat.zero_le _) hT)
  have hk := hid (show (Po.keep ⟨rt c, []⟩ first) = ⟨rt c, [first]⟩ by
    have h1 : (Po.keep ⟨rt c, []⟩ first).l = [first] := keep_room hpm (by show 0 < m; omega) first
    show Po.mk _ (Po.keep ⟨rt c, []⟩ first).l = _
    rw [h1])
  have TOP := hid (fun (W : World) => (show PoTop (W.alloc (.cells (poCells (rt c) 0 (List.replicate 60 0)) 62)) W.heap.size ⟨rt c, []⟩ from ⟨List.replicate 60 0, rfl, rfl, at_new W _⟩))
  clear hm hi hf hper hpm hr
  go_enter Try.func10, Try.ntmps10
  go_wp2_with (refine wpList_conf K.out.box rfl rfl rfl rfl ?_)
  refine (R.out _).mono ?_
  rintro e w1 ⟨rfl, hg⟩
  have G1 := hid (gb_trans K.out.g hg (.inl rfl)); clear hg
  go_wp2_with fail
  refine (B.out _).mono ?_
  rintro e w2 ⟨rfl, hg⟩
  have hrow := hid (at_grown (at_new w1 (.cells (rtCells (rt c)) 51)) hg (by simp))
  have G2 := hid (gb_trans (gb_alloc G1.out _) hg (.inl rfl)); clear hg
  go_wp2_with (first | refine wpList_row hrow.out Try.underlying51 rfl (by kernel_rfl) rfl rfl rfl rfl ?_ | refine wpList_buildTo (ty := 62) (cs := poCells (rt c) 0 (List.replicate 60 0)) rfl rfl rfl (by kernel_rfl) ?_)
  refine (KP.out _ _ (TOP.out w2)).mono ?_
  rintro e w3 ⟨rfl, ht, hc⟩
  rw [hk.out] at ht
  have HT := hid ht; have HC := hid hc; clear ht hc
  go_wp2_with fail
  go_ret
  refine ⟨_, rfl, ⟨HT.out, hok.out⟩, ((chg_grown (gb_alloc G2.out _) []).trans HC.out (fun y hy => by rw [List.mem_singleton] at hy; subst hy; exact .inr G2.out.size)).free (fun y hy => by cases hy), G2.out.size⟩

/-- Put -/
theorem pput_nil (x : Int) (w : World) :
    Calls Try.prog 11 #[.pointer none, .int .i64 x] w fun e w' => e = .returned (.int .i64 1) ∧ w = w' := by
  have I := hid (isMade_nil)
  go_enter Try.func11, Try.ntmps11
  go_wp2_with fail
  refine (I.out _).mono ?_
  rintro e w1 ⟨rfl, rfl⟩
  go_wp2_with fail
  go_ret
  exact ⟨rfl, rfl⟩
theorem pput_no {b : Nat} {p : Po} (x : Int) (hx : p.in x = false) {w : World} (H : PoAt w b p) :
    Calls Try.prog 11 #[.pointer (some ⟨b, 0, none⟩), .int .i64 x] w fun e w' => e = .returned (.int .i64 1) ∧ w.grownBy w' none := by
  have I := hid (isMade_any H)
  have HH := hid H
  have B := hid (pbeyond_any p.r x)
  rw [← in_inR, hx] at B
  clear hx H
  go_enter Try.func11, Try.ntmps11
  go_wp2_with fail
  refine I.out.mono ?_
  rintro e w1 ⟨rfl, hg⟩
  have G1 := hid hg; have H1 := hid (HH.out.grown hg); clear hg
  obtain ⟨d0, d1, d2, d3, d4, d5, d6⟩ := H1.out.rcells
  go_wp2_with fail
  refine (B.out _).mono ?_
  rintro e w2 ⟨rfl, hg⟩
  have G2 := hid (gb_trans G1.out hg (.inl rfl)); clear hg
  go_wp2_with fail
  go_ret
  exact ⟨rfl, G2.out⟩
theorem pput_yes {b : Nat} {p : Po} (x : Int) (hx : p.in x = true) {w : World} (H : PoAt w b p) :
    Calls Try.prog 11 #[.pointer (some ⟨b, 0, none⟩), .int .i64 x] w fun e w' => e = .returned (.int .i64 0) ∧ PoAt w' b (p.put x).2 ∧ Chg [b] w w' := by
  have I := hid (isMade_any H)
  have HH := hid H
  have B := hid (pbeyond_any p.r x)
  rw [← in_inR, hx] at B
  have hok := hid (Po.put_ok H.ok x)
  have hper := H.ok.r.per; have hn := H.ok.n
  obtain ⟨m, hpm⟩ : ∃ m : Nat, p.r.per = (m : Int) := ⟨p.r.per.toNat, by omega⟩
  have KP := hid (fun (W : World) (hT : PoTop W b p) => keep_any x m hpm (by omega) (by omega) (by omega) hT)
  have hk := hid (show p.keep x = (p.put x).2 by rw [Po.put_yes hx]; rfl)
  clear hx H hpm hper hn
  go_enter Try.func11, Try.ntmps11
  go_wp2_with fail
  refine I.out.mono ?_
  rintro e w1 ⟨rfl, hg⟩
  have G1 := hid hg; have H1 := hid (HH.out.grown hg); clear hg
  obtain ⟨d0, d1, d2, d3, d4, d5, d6⟩ := H1.out.rcells
  go_wp2_with fail
  refine (B.out _).mono ?_
  rintro e w2 ⟨rfl, hg⟩
  have G2 := hid (gb_trans G1.out hg (.inl rfl)); have H2 := hid (H1.out.grown hg); clear hg d0 d1 d2 d3 d4 d5 d6
  go_wp2_with fail
  refine (KP.out _ H2.out.top).mono ?_
  rintro e w3 ⟨rfl, ht, hc⟩
  rw [hk.out] at ht
  have HT := hid ht; have HC := hid hc; clear ht hc
  go_wp2_with fail
  go_ret
  exact ⟨rfl, ⟨HT.out, hok.out⟩, (chg_grown G2.out [b]).then HC.out⟩
/-- Base -/
theorem head_at (l : List Int) (h : 0 < l.length) : l[0] = l.headD 0 := by
  cases l with
  | nil => simp at h
  | cons a t => rfl
theorem pbase_any {b : Nat} {p : Po} {w : World} (H : PoAt w b p) :
    Calls Try.prog 15 #[.pointer (some ⟨b, 0, none⟩)] w fun e w' => e = .returned (.int .i64 p.base) ∧ w.grownBy w' none := by
  have I := hid (isMade_any H)
  have A := hid (fun W (h : w.grownBy W none) => pall_any (H.grown h))
  have n1 := H.ok.n1
  have hc := hid (fun W (h : w.grownBy W none) => (H.grown h).ints.cell n1)
  have hb : p.l[0]'n1 = p.base := by
    exact head_at p.l n1
  rw [hb] at hc
  generalize p.base = z at *
  have n1i : (1 : Int) ≤ (p.l.length : Int) := by omega
  clear hb
  generalize p.l.length = n at *
  clear H
  go_enter Try.func15, Try.ntmps15
  go_wp2_with fail
  refine I.out.mono ?_
  rintro e w1 ⟨rfl, hg⟩
  have G1 := hid hg; clear hg
  go_wp2_with fail
  refine (A.out _ G1.out).mono ?_
  rintro e w2 ⟨rfl, hg⟩
  have G2 := hid (gb_trans G1.out hg (.inl rfl)); clear hg
  obtain ⟨ab, ao, he, -, -, hcell⟩ := hc.out _ G2.out
  cases he
  go_wp2_with fail
  go_ret
  exact ⟨rfl, G2.out⟩
theorem pbase_nil (w : World) :
    Calls Try.prog 15 #[.pointer none] w fun e w' => e = .returned (.int .i64 0) ∧ w = w' := by
  have I := hid (isMade_nil)
  go_enter Try.func15, Try.ntmps15
  go_wp2_with fail
  refine (I.out _).mono ?_
  rintro e w1 ⟨rfl, rfl⟩
  go_wp2_with fail
  go_ret
  exact ⟨rfl, rfl⟩
/-- All -/
theorem pclone_any (a : Addr) (n c : Nat) (l : List Int) (w : World) (h : IntsAt w (.slice (some a) n c) l) (hn : l.length ≤ 999999) :
    Calls Try.prog 32 #[.slice (some a) n c] w fun e w' => (∃ v, e = .returned v ∧ OwnN w.heap.size w' v l) ∧ w.grownBy w' none := by
  have HI := hid h
  have hnil := Lib.run_eql_slice_nil w 22 3 (some a) n c 0 0 Try.underlying22
  have HE := hid (OwnN.empty w)
  have HB := hid (HI.out.alloc (.cells #[] 3))
  have HL := hid hn
  clear h hn
  go_enter Try.func32, Try.ntmps32
  go_wp2_with (refine append_nums rfl _ _ rfl w.heap.size _ [] rfl HE.out _ l rfl HB.out (by have := HL.out; simp; omega) (gb_size (gb_alloc (.refl w none) _)) ?_; intro v' w' hown hgrow hat)
  go_ret
  exact ⟨⟨_, rfl, by simpa using hown⟩, gb_ownN (gb_alloc (.refl w none) _) HE.out (Nat.le_refl _) hgrow⟩
theorem palls_any {b : Nat} {p : Po} {w : World} (H : PoAt w b p) :
    Calls Try.prog 13 #[.pointer (some ⟨b, 0, none⟩)] w fun e w' => (∃ v, e = .returned v ∧ OwnN w.heap.size w' v p.l) ∧ w.grownBy w' none := by
  have I := hid (isMade_any H)
  have A := hid (fun W (h : w.grownBy W none) => pall_any (H.grown h))
  have hn := H.ok.n60
  have C1 := hid (fun (W : World) (h : w.grownBy W none) => pclone_any _ _ _ p.l W (H.grown h).ints (by omega))
  generalize p.l = l at *
  clear H
  go_enter Try.func13, Try.ntmps13
  go_wp2_with fail
  refine I.out.mono ?_
  rintro e w1 ⟨rfl, hg⟩
  have G1 := hid hg; clear hg
  go_wp2_with fail
  refine (A.out _ G1.out).mono ?_
  rintro e w2 ⟨rfl, hg⟩
  have G2 := hid (gb_trans G1.out hg (.inl rfl)); clear hg
  go_wp2_with fail
  refine (C1.out _ G2.out).mono ?_
  rintro e w3 ⟨⟨v, rfl, hv⟩, hg⟩
  have V := hid (hv.le G2.out.size); have G3 := hid (gb_trans G2.out hg (.inl rfl))
  clear hv hg
  go_wp2_with fail
  go_ret
  exact ⟨⟨_, rfl, V.out⟩, G3.out⟩
theorem palls_nil (w : World) :
    Calls Try.prog 13 #[.pointer none] w fun e w' => e = .returned (.slice none 0 0) ∧ w = w' := by
  have I := hid (isMade_nil)
  go_enter Try.func13, Try.ntmps13
  go_wp2_with fail
  refine (I.out _).mono ?_
  rintro e w1 ⟨rfl, rfl⟩
  go_wp2_with fail
  go_ret
  exact ⟨rfl, rfl⟩
/-- Limit -/
theorem plim_nil (x : Int) (w : World) :
    Calls Try.prog 14 #[.pointer none, .int .i64 x] w fun e w' => e = .returned (.int .i64 0) ∧ w = w' := by
  have I := hid (isMade_nil)
  go_enter Try.func14, Try.ntmps14
  go_wp2_with fail
  refine (I.out _).mono ?_
  rintro e w1 ⟨rfl, rfl⟩
  go_wp2_with fail
  go_ret
  exact ⟨rfl, rfl⟩
set_option maxHeartbeats 1600000 in
theorem plim_any {b : Nat} {p : Po} (x : Int) {w : World} (H : PoAt w b p) :
    Calls Try.prog 14 #[.pointer (some ⟨b, 0, none⟩), .int .i64 x] w fun e w' => e = .returned (.int .i64 (p.lim x)) ∧ w.grownBy w' none := by
  have I := hid (isMade_any H)
  have HH := hid H
  have HOK := hid H.ok
  have HB := hid (show 0 ≤ p.base ∧ p.base ≤ 10000 by
    have h1 := Po.base_in H.ok; have h2 := H.ok.r.mn; have h3 := H.ok.r.mx
    omega)
  have HL := hid (show p.lim x = min (max (min (max x (p.r.lo p.base)) (p.r.hi p.base)) p.r.mn) p.r.mx from rfl)
  clear H
  go_enter Try.func14, Try.ntmps14
  go_wp2_with fail
  refine I.out.mono ?_
  rintro e w1 ⟨rfl, hg⟩
  have G := hg; have H := HH.out.grown hg; clear hg
  go_wp2_with fail
  refine wp_region_held_drew (S := (fun w' => (PoAt w' b p) ∧ (w.grownBy w' none))) (by kernel_rfl) ⟨H.drew, gb_drew G⟩ (fun hHeld => ?_)
  try dsimp only at hHeld
  clear H G
  refine' wpAnyH_take (i := 0) (v := _) rfl (by kernel_rfl) (by kernel_rfl) (by kernel_rfl) (fun _ _ _ h => h) (Or.inl ⟨by rfl, ?_⟩) hHeld ?_
  rotate_left
  · (intro w hSw; (try dsimp only at hSw); go_simp; try with_reducible rfl)
  try simp only [Act.put, List.setIfInBounds_toArray, List.set_cons_zero, List.set_cons_succ, List.getElem_toArray, List.getElem_cons_succ, List.getElem_cons_zero]
  refine' wpAnyH_take (i := 1) (v := _) rfl (by kernel_rfl) (by kernel_rfl) (by kernel_rfl) (fun _ _ _ h => h) (Or.inl ⟨by rfl, ?_⟩) hHeld ?_
  rotate_left
  · (intro w hSw; (try dsimp only at hSw); go_simp; try with_reducible rfl)
  try simp only [Act.put, List.setIfInBounds_toArray, List.set_cons_zero, List.set_cons_succ, List.getElem_toArray, List.getElem_cons_succ, List.getElem_cons_zero]
  refine' wpAnyH_take (i := 2) (v := _) rfl (by kernel_rfl) (by kernel_rfl) (by kernel_rfl) (fun _ _ _ h => h) (Or.inl ⟨by rfl, ?_⟩) hHeld ?_
  rotate_left
  · (intro w hSw; (try dsimp only at hSw); go_simp; try with_reducible rfl)
  try simp only [Act.put, List.setIfInBounds_toArray, List.set_cons_zero, List.set_cons_succ, List.getElem_toArray, List.getElem_cons_succ, List.getElem_cons_zero]
  refine' wpAnyH_take (i := 3) (v := _) rfl (by kernel_rfl) (by kernel_rfl) (by kernel_rfl) (fun _ _ _ h => h) (Or.inl ⟨by rfl, ?_⟩) hHeld ?_
  rotate_left
  · (intro w hSw; (try dsimp only at hSw); obtain ⟨H, G⟩ := hSw; obtain ⟨d0, d1, d2, d3, d4, d5, d6⟩ := H.rcells; obtain ⟨-, -, -, -, fz⟩ := H.cells; go_simp; try with_reducible rfl)
  try simp only [Act.put, List.setIfInBounds_toArray, List.set_cons_zero, List.set_cons_succ, List.getElem_toArray, List.getElem_cons_succ, List.getElem_cons_zero]
  refine' wpAnyH_take (i := 4) (v := _) rfl (by kernel_rfl) (by kernel_rfl) (by kernel_rfl) (fun _ _ _ h => h) (Or.inl ⟨by rfl, ?_⟩) hHeld ?_
  rotate_left
  · (intro w hSw; (try dsimp only at hSw); go_simp; try with_reducible rfl)
  try simp only [Act.put, List.setIfInBounds_toArray, List.set_cons_zero, List.set_cons_succ, List.getElem_toArray, List.getElem_cons_succ, List.getElem_cons_zero]
  refine wpAnyH_ready (rs := [5]) (by kernel_rfl) (by simp) ?_
  refine AllReadyH.cons (o := _) rfl (fun K hK => ?_) AllReadyH.nil
  try simp only [List.getElem_toArray, List.getElem_cons_succ, List.getElem_cons_zero]
  go_simp
  have hH2 := hHeld
  obtain ⟨H, G⟩ := hH2
  refine (pbase_any H).mono ?_
  rintro e w1005 ⟨rfl, hg⟩
  have L5 := hid (show (PoAt w1005 b p) ∧ (w.grownBy w1005 none) from ⟨H.grown hg, gb_trans G hg (.inl rfl)⟩)
  clear hHeld hg H G
  go_wp2_with fail
  refine hK.out _ _ ?_ (fun hHeld => ?_)
  · exact L5.out
  clear hK K
  try dsimp only at hHeld
  try simp only [Act.put, List.setIfInBounds_toArray, List.set_cons_zero, List.set_cons_succ, List.getElem_toArray, List.getElem_cons_succ, List.getElem_cons_zero]
  refine wpAnyH_ready (rs := [6]) (by kernel_rfl) (by simp) ?_
  refine AllReadyH.cons (o := _) rfl (fun K hK => ?_) AllReadyH.nil
  try simp only [List.getElem_toArray, List.getElem_cons_succ, List.getElem_cons_zero]
  go_simp
  have hH2 := hHeld
  obtain ⟨H, G⟩ := hH2
  refine (pbounds_any p.r p.base HOK.out.r HB.out.1 HB.out.2 _).mono ?_
  rintro e w1006 ⟨rfl, hg⟩
  have L6 := hid (show (PoAt w1006 b p) ∧ (w.grownBy w1006 none) from ⟨H.grown hg, gb_trans G hg (.inl rfl)⟩)
  clear hHeld hg H G
  go_wp2_with fail
  refine hK.out _ _ ?_ (fun hHeld => ?_)
  · exact L6.out
  clear hK K
  try dsimp only at hHeld
  try simp only [Act.put, List.setIfInBounds_toArray, List.set_cons_zero, List.set_cons_succ, List.getElem_toArray, List.getElem_cons_succ, List.getElem_cons_zero]
  refine' wpAnyH_take (i := 7) (v := _) rfl (by kernel_rfl) (by kernel_rfl) (by kernel_rfl) (fun _ _ _ h => h) (Or.inl ⟨by rfl, ?_⟩) hHeld ?_
  rotate_left
  · (intro w hSw; (try dsimp only at hSw); go_simp; try with_reducible rfl)
  try simp only [Act.put, List.setIfInBounds_toArray, List.set_cons_zero, List.set_cons_succ, List.getElem_toArray, List.getElem_cons_succ, List.getElem_cons_zero]
  refine' wpAnyH_take (i := 8) (v := _) rfl (by kernel_rfl) (by kernel_rfl) (by kernel_rfl) (fun _ _ _ h => h) (Or.inl ⟨by rfl, ?_⟩) hHeld ?_
  rotate_left
  · (intro w hSw; (try dsimp only at hSw); go_simp; try with_reducible rfl)
  try simp only [Act.put, List.setIfInBounds_toArray, List.set_cons_zero, List.set_cons_succ, List.getElem_toArray, List.getElem_cons_succ, List.getElem_cons_zero]
  refine' wpAnyH_take (i := 9) (v := _) rfl (by kernel_rfl) (by kernel_rfl) (by kernel_rfl) (fun _ _ _ h => h) (Or.inl ⟨by rfl, ?_⟩) hHeld ?_
  rotate_left
  · (intro w hSw; (try dsimp only at hSw); go_simp; try with_reducible rfl)
  try simp only [Act.put, List.setIfInBounds_toArray, List.set_cons_zero, List.set_cons_succ, List.getElem_toArray, List.getElem_cons_succ, List.getElem_cons_zero]
  refine' wpAnyH_take (i := 10) (v := _) rfl (by kernel_rfl) (by kernel_rfl) (by kernel_rfl) (fun _ _ _ h => h) (Or.inl ⟨by rfl, ?_⟩) hHeld ?_
  rotate_left
  · (intro w hSw; (try dsimp only at hSw); go_simp; try with_reducible rfl)
  try simp only [Act.put, List.setIfInBounds_toArray, List.set_cons_zero, List.set_cons_succ, List.getElem_toArray, List.getElem_cons_succ, List.getElem_cons_zero]
  refine' wpAnyH_take (i := 11) (v := _) rfl (by kernel_rfl) (by kernel_rfl) (by kernel_rfl) (fun _ _ _ h => h) (Or.inl ⟨by rfl, ?_⟩) hHeld ?_
  rotate_left
  · (intro w hSw; (try dsimp only at hSw); go_simp; try with_reducible rfl)
  try simp only [Act.put, List.setIfInBounds_toArray, List.set_cons_zero, List.set_cons_succ, List.getElem_toArray, List.getElem_cons_succ, List.getElem_cons_zero]
  refine wpAnyH_done (by kernel_rfl) ?_ _
  obtain ⟨H, G⟩ := hHeld
  have H3 := hid H; have G3 := hid G; clear H G
  go_wp2_with fail
  generalize p.r.lo p.base = lo at *
  generalize p.r.hi p.base = hi at *
  obtain ⟨-, d5, d6, -, fz⟩ := H3.out.cells
  have C1 := hid (clamp_any x lo hi)
  obtain ⟨z, hz⟩ : ∃ z, min (max x lo) hi = z := ⟨_, rfl⟩
  rw [hz] at HL C1
  have C2 := hid (clamp_any z p.r.mn p.r.mx)
  rw [← HL.out] at C2
  obtain ⟨y, hy⟩ : ∃ y, p.lim x = y := ⟨_, rfl⟩
  rw [hy] at C2
  have HY := hid hy
  clear hz HL hy
  generalize p.r.mn = mn at *
  generalize p.r.mx = mx at *
  go_quiet ((go_at_call 35; first | with_reducible exact Calls.quiet_of_same (still_of (C1.out _)) | with_reducible exact Calls.quiet_of_same (still_of (C2.out _))))
  go_wp2_with fail
  go_ret
  exact ⟨congrArg (fun z => Ending.returned (.int .i64 z)) HY.out.symm, gb_trans G3.out ⟨rfl, rfl, rfl, Nat.le_refl _, fun _ _ _ => rfl⟩ (.inl rfl)⟩
/-- Bounds -/
theorem pb_any (c : Conf) (b : Int) (w : World) :
    Calls Try.prog 18 #[cf c, .int .i64 b] w fun e w' => e = .returned (.tuple #[.int .i64 ((rt c).bounds b).1, .int .i64 ((rt c).bounds b).2]) ∧ w.grownBy w' none := by
  have K := hid (boxc_new w c)
  have R := hid (rules_any c)
  cases hm : (rt c).may with
  | false =>
    rw [hm, if_neg (by simp)] at R
    have hz : (rt c).bounds b = (0, 0) := if_neg (by rw [hm]; simp)
    rw [hz]
    clear hm hz
    go_enter Try.func18, Try.ntmps18
    go_wp2_with (refine wpList_conf K.out.box rfl rfl rfl rfl ?_)
    refine (R.out _).mono ?_
    rintro e w1 ⟨rfl, hg⟩
    have G1 := hid (gb_trans K.out.g hg (.inl rfl)); clear hg
    go_wp2_with fail
    go_ret2
    exact ⟨rfl, gb_alloc G1.out _⟩
  | true =>
    rw [hm, if_pos rfl] at R
    by_cases hb : 0 ≤ b ∧ b ≤ 10000
    rotate_left
    · have hz : (rt c).bounds b = (0, 0) := if_neg (by omega)
      rw [hz]
      have W1 := hid (pin_no hb)
      clear hm hz hb
      go_enter Try.func18, Try.ntmps18
      go_wp2_with (refine wpList_conf K.out.box rfl rfl rfl rfl ?_)
      refine (R.out _).mono ?_
      rintro e w1 ⟨rfl, hg⟩
      have G1 := hid (gb_trans K.out.g hg (.inl rfl)); clear hg
      go_wp2_with fail
      refine (W1.out _).mono ?_
      rintro e w2 ⟨rfl, rfl⟩
      go_wp2_with fail
      go_ret2
      exact ⟨rfl, gb_alloc G1.out _⟩
    have hz : (rt c).bounds b = ((rt c).lo b, (rt c).hi b) := if_pos ⟨hm, hb⟩
    rw [hz]
    have W1 := hid (pin_yes hb)
    have PB := hid (pbounds_any (rt c) b (Rt.may_iff.1 hm) hb.1 hb.2)
    generalize (rt c).lo b = L at *
    generalize (rt c).hi b = M at *
    clear hm hz hb
    go_enter Try.func18, Try.ntmps18
    go_wp2_with (refine wpList_conf K.out.box rfl rfl rfl rfl ?_)
    refine (R.out _).mono ?_
    rintro e w1 ⟨rfl, hg⟩
    have G1 := hid (gb_trans K.out.g hg (.inl rfl)); clear hg
    go_wp2_with fail
    refine (W1.out _).mono ?_
    rintro e w2 ⟨rfl, rfl⟩
    have hrow := hid (at_new w1 (.cells (rtCells (rt c)) 51))
    go_wp2_with (refine wpList_row hrow.out Try.underlying51 rfl (by kernel_rfl) rfl rfl rfl rfl ?_)
    refine (PB.out _).mono ?_
    rintro e w3 ⟨rfl, hg⟩
    have G3 := hid (gb_trans (gb_alloc G1.out _) hg (.inl rfl)); clear hg
    go_wp2_with fail
    go_ret2
    exact ⟨rfl, G3.out⟩
end Go.Proofs.Ytmhpldnmapjghaa
