/-
  The law's told: the few that it asks of the program are so. No condition.
-/
import Derived.Test.YtecggbndlbkhdaaGreatY44
import Derived.Test.YtecggbndlbkhdaaGreatY36
import Derived.Test.YtecggbndlbkhdaaGreatY6
set_option linter.unusedSimpArgs false
set_option linter.unusedVariables false
namespace Go.Proofs.YtecggbndlbkhdaaGreat
set_option maxRecDepth 100000
open Go.RowKit

theorem hold_same (w : World) : (Op.equalIn 10000 57 (dcV ⟨0, 1, 0, true, 0, 0, 0, 0⟩) (.agg #[.int .i64 0, .int .i64 1, .int .i64 0, .bool true, .int .i64 0, .int .i64 0, .int .i64 0, .int .i64 0])).run Tryz.prog w = .ok true w := by
  have h4 := four_same 0 0 0 0 w
  rw [run_equalIn_agg w 9999 57 (Dc.cells ⟨0, 1, 0, true, 0, 0, 0, 0⟩) #[.int .i64 0, .int .i64 1, .int .i64 0, .bool true, .int .i64 0, .int .i64 0, .int .i64 0, .int .i64 0] (by kernel_rfl) (by kernel_rfl)]
  simp [go_sem, h4]
set_option maxHeartbeats 6400000 in
theorem told19_any (w : World) : Calls Tryz.prog 18 #[] w fun e w' => e = .returned (.bool true) ∧ w.grownBy w' none := by
  obtain ⟨s0, lf, hA⟩ := suall_dflt
  have HA := hid hA
  have hz := hA.of.zero
  have hn4 : s0.p.n = 4 := by have := hA.of.n; have e : dflt.n = 4 := rfl; omega
  have h1 : s0.l.n = 1 := hA.one
  obtain ⟨c1, c2, c3, c4, c5, c6⟩ := close_none hA hA.of.base.ok hz.2.1 (by rw [hz.1]; decide)
  rw [hz.1, h1] at c1
  rw [hz.1, h1, hz.2.2] at c5
  have c5 : s0.closed.ds = [⟨0, 1, 0, true, 0, 0, 0, 0⟩] := c5
  rw [h1] at c3
  rw [hz.1] at c4
  have hH := closed_quiet hA.cnt hz.2.1
  rw [hn4] at hH
  obtain ⟨s1, hs1⟩ : ∃ s1, s0.closed = s1 := ⟨_, rfl⟩
  rw [hs1] at c1 c2 c3 c4 c5 c6 hH
  have NW := hid (fun u => sunew_ok hA.of u)
  have BY := hid (fun (u : World) (X : SBl) (hu : StAt u X dflt s0) => subytes_any hA.of hA.of.base.ok hu)
  have D3 := hid (fun (u : World) (X : SBl) (hu : StAt u X dflt s0) => by have := sudo_close hA.of hA.of.base.ok hu; rw [c1] at this; exact this)
  have D9 := hid (fun (u : World) (X : SBl) (hu : StAt u X dflt s1) => sudo_nine hu)
  have FB := hid (fun (u : World) (v : Value) (hv : BytesAt u v s0.bytes) (hl : s0.bytes.length ≤ 1000000) => sufrom_own hA.of hA.of.base.ok hA.ln hA.lb hA.mn hA.mx hv hl)
  have FN := hid (fun (u : World) => sufrom_none hA.of hA.ln (.inl ⟨rfl, rfl⟩ : BytesAt u (.slice none 0 0) []))
  have FZ := hid (fun (u : World) (v : Value) (B : List UInt8) (hv : BytesAt u v B) => sufrom_nil zeroC_no hv)
  have NT := hid (fun (u : World) (X : SBl) (hu : StAt u X dflt s0) => by have := sunow_any hu; rw [hz.1] at this; exact this)
  have NS := hid (fun (u : World) (X : SBl) (hu : StAt u X dflt s1) => by have := sunow_any hu; rw [c4] at this; exact this)
  have CS := hid (fun (u : World) (X : SBl) (hu : StAt u X dflt s1) => by have := sucount_any hu; rw [c3] at this; exact this)
  have hne : (s1.bytes == s0.bytes) = false := by
    cases hb : (s1.bytes == s0.bytes) with
    | false => rfl
    | true =>
      have e := Ste.Ok.same hA.of.base c6 hA.of.base.ok (by simpa using hb)
      rw [e, hz.1] at c4
      exact absurd c4 (by decide)
  have SS := hid (fun (u : World) (X Y : SBl) (hu : StAt u X dflt s1) (hv : StAt u Y dflt s0) => by have := susame_any hA.of c6 hA.of.base.ok hu hv; rw [hne] at this; exact this)
  have DS := hid (fun (u : World) (X : SBl) (hu : StAt u X dflt s1) => by have := sudecs_any hu c6.dl; rw [c5] at this; exact this)
  have O0 := hid (fun (u : World) (X : SBl) (hu : StAt u X dflt s1) => by have := suout_any hu 0; rw [hH] at this; exact this)
  have O4 := hid (fun (u : World) (X : SBl) (hu : StAt u X dflt s1) => by have := suout_any hu 4; rw [hH] at this; exact this)
  have ST := hid (fun (u : World) (X : SBl) (hu : StAt u X dflt s1) => by have := sustandings_any hu; rw [hH] at this; unfold AllS at this; exact this)
  have hlen : s0.bytes.length ≤ 1000000 := by
    rw [← pn_bytes hA.of hA.of.base.ok, pn_len]
    have e := nums_eq s0
    have h2 := hA.of.base.ok.lok.ca.n
    have h3 := hA.of.base.ok.lok.ca.u
    have h4 := hA.of.base.ok.lok.ca.d
    have h5 := hA.of.base.ok.lok.po.n
    have h6 := hA.of.base.ok.lok.po.r.per
    have h7 : s0.l.ca.most ≤ 100 := by unfold Ca.most; omega
    rw [e, hz.2.1, hz.2.2]
    simp only [List.length_cons, List.length_append, coN_len, List.flatMap_nil, List.length_nil]
    omega
  have HLN := hid hlen
  obtain ⟨B0, hB0⟩ : ∃ B0, s0.bytes = B0 := ⟨_, rfl⟩
  rw [hB0] at BY FB HLN
  clear hz hn4 h1 c1 c2 c3 c4 c5 c6 hH hs1 hne hlen hB0 hA
  go_enter Tryz.func18, Tryz.ntmps18
  go_wp2_with fail
  refine (default_any _).mono ?_
  rintro e w1 ⟨rfl, hg⟩
  have G1 := hid hg; clear hg
  go_wp2_with fail
  refine (NW.out _).mono ?_
  rintro e w2 ⟨X, rfl, hM⟩
  have M2 := hid hM
  have LO := hid (show ∀ x ∈ X.all, w.heap.size ≤ x from fun x hx => Nat.le_trans G1.out.size (hM.lo x hx))
  have G2 := hid (gb_trans G1.out hM.gr (.inl rfl)); clear hM G1
  go_wp2_with fail
  refine (BY.out _ _ M2.out.st).mono ?_
  rintro e w3 ⟨v, rfl, ho, hg⟩
  have K3 := hid (M2.out.st.grown hg)
  have G3 := hid (gb_trans G2.out hg (.inl rfl))
  have LX := hid (M2.out.st.lt)
  have BV := hid ho.bytes
  have VB := hid (show ∀ a n c, v = .slice (some a) n c → w2.heap.size ≤ a.block ∧ a.block < w3.heap.size from fun a n c e => by
    obtain ⟨_, h | ⟨g, cap, cur, e2, hb, hh, _⟩⟩ := ho
    · rw [h.1] at e; cases e
    · rw [e2] at e; cases e; exact ⟨hb, at_lt hh⟩)
  obtain ⟨p, k, rfl⟩ := ho.form
  obtain ⟨n, hn⟩ : ∃ n, B0.length = n := ⟨_, rfl⟩
  rw [hn] at BV VB ⊢
  clear ho hg hn G2 M2
  go_wp2_with fail
  refine (D3.out _ _ K3.out).mono ?_
  rintro e w4 ⟨rfl, Y, eb, hY, hC, hall⟩
  have K4 := hid hY; have EB := hid eb
  have V4 := hid (BV.out.chg hC fun a n c e hm => by have h1 := (VB.out a n c e).1; have h2 := LX.out _ hm; omega)
  have G4 := hid (((chg_grown G3.out []).trans hC fun x hx => .inr (LO.out x hx)).free (by simp))
  have LY := hid (show ∀ x ∈ Y.all, w.heap.size ≤ x from fun x hx => (hall x hx).elim (LO.out x) (Nat.le_trans G3.out.size))
  have VY := hid (show ∀ a n' c, (Value.slice p n k) = .slice (some a) n' c → a.block ∉ Y.all from fun a n' c e hm => by
    have h1 := VB.out a n' c e
    rcases hall _ hm with h | h
    · have h2 := LX.out _ h; omega
    · omega)
  clear hY hC hall eb K3 D3 G3 BV VB LX LO
  go_wp2_with (refine wpList_store_new (cs := Dc.cells ⟨0, 1, 0, true, 0, 0, 0, 0⟩) rfl (by kernel_rfl) (by kernel_rfl) (by kernel_rfl) rfl rfl rfl rfl rfl ?_)
  have R5 := hid (at_new w4 (dcObj ⟨0, 1, 0, true, 0, 0, 0, 0⟩))
  have K5 := hid (K4.out.alloc (dcObj ⟨0, 1, 0, true, 0, 0, 0, 0⟩))
  have V5 := hid (V4.out.alloc (dcObj ⟨0, 1, 0, true, 0, 0, 0, 0⟩))
  have G5 := hid (gb_alloc G4.out (dcObj ⟨0, 1, 0, true, 0, 0, 0, 0⟩))
  have N5 := hid (show w4.heap.size ∉ Y.all from fun hm => Nat.lt_irrefl _ (K4.out.lt _ hm))
  rw [← EB.out]
  generalize w4.alloc (dcObj ⟨0, 1, 0, true, 0, 0, 0, 0⟩) = w5 at *
  generalize w4.heap.size = db at *
  clear K4 V4 G4
  go_wp2_with fail
  refine (D9.out _ _ K5.out).mono ?_
  rintro e w6 ⟨rfl, Z, ez, hZ, hC, hall⟩
  have K6 := hid hZ; have EZ := hid ez
  have R6 := hid (hC.at R5.out N5.out)
  have V6 := hid (V5.out.chg hC VY.out)
  have G6 := hid (((chg_grown G5.out []).trans hC fun x hx => .inr (LY.out x hx)).free (by simp))
  clear hZ ez hC hall K5 R5 V5 G5 D9 LY VY N5
  rw [← EZ.out]
  go_wp2_with (refine wpList_store_new (cs := Dc.cells zD) rfl (by kernel_rfl) (by kernel_rfl) (by kernel_rfl) rfl rfl rfl rfl rfl ?_)
  have R7 := hid (at_grown R6.out (World.grownBy_alloc w6 (dcObj zD) none) (by simp))
  have K7 := hid (K6.out.alloc (dcObj zD))
  have V7 := hid (V6.out.alloc (dcObj zD))
  have G7 := hid (gb_alloc G6.out (dcObj zD))
  generalize w6.alloc (dcObj zD) = w7 at *
  generalize w6.heap.size = zb at *
  clear K6 R6 V6 G6
  refine (default_any _).mono ?_
  rintro e w8 ⟨rfl, hg⟩
  have K8 := hid (K7.out.grown hg); have R8 := hid (at_grown R7.out hg (by simp)); have V8 := hid (V7.out.grown hg (by simp)); have G8 := hid (gb_trans G7.out hg (.inl rfl))
  clear hg K7 R7 V7 G7
  go_wp2_with fail
  refine (FB.out _ _ V8.out HLN.out).mono ?_
  rintro e w9 ⟨T, rfl, hM⟩
  have T9 := hid hM.st; have K9 := hid (K8.out.grown hM.gr); have R9 := hid (at_grown R8.out hM.gr (by simp)); have V9 := hid (V8.out.grown hM.gr (by simp)); have G9 := hid (gb_trans G8.out hM.gr (.inl rfl))
  clear hM K8 R8 V8 G8 FB
  go_wp2_with fail
  refine (default_any _).mono ?_
  rintro e w10 ⟨rfl, hg⟩
  have TA := hid (T9.out.grown hg); have KA := hid (K9.out.grown hg); have RA := hid (at_grown R9.out hg (by simp)); have VA := hid (V9.out.grown hg (by simp)); have GA := hid (gb_trans G9.out hg (.inl rfl))
  clear hg T9 K9 R9 V9 G9
  go_wp2_with fail
  refine (FN.out _).mono ?_
  rintro e w11 ⟨rfl, hg⟩
  have TB := hid (TA.out.grown hg); have KB := hid (KA.out.grown hg); have RB := hid (at_grown RA.out hg (by simp)); have VB := hid (VA.out.grown hg (by simp)); have GB := hid (gb_trans GA.out hg (.inl rfl))
  clear hg TA KA RA VA GA FN
  go_wp2_with fail
  refine (FZ.out _ _ _ VB.out).mono ?_
  rintro e w12 ⟨rfl, hg⟩
  have TC := hid (TB.out.grown hg); have KC := hid (KB.out.grown hg); have RC := hid (at_grown RB.out hg (by simp)); have GC := hid (gb_trans GB.out hg (.inl rfl))
  clear hg TB KB RB VB GB FZ
  have HS := fun u => hold_same u
  have e0 := at_cell RC.out 0; have e1 := at_cell RC.out 1; have e2 := at_cell RC.out 2; have e3 := at_cell RC.out 3; have e4 := at_cell RC.out 4; have e5 := at_cell RC.out 5; have e6 := at_cell RC.out 6; have e7 := at_cell RC.out 7
  go_wp2_with fail
  refine (NT.out _ _ TC.out).mono ?_
  rintro e w13 ⟨rfl, rfl⟩
  go_wp2_with fail
  refine (NS.out _ _ KC.out).mono ?_
  rintro e w14 ⟨rfl, rfl⟩
  go_wp2_with fail
  refine (CS.out _ _ KC.out).mono ?_
  rintro e w15 ⟨rfl, rfl⟩
  go_wp2_with fail
  refine (SS.out _ _ _ KC.out TC.out).mono ?_
  rintro e w16 ⟨rfl, hg⟩
  have KD := hid (KC.out.grown hg); have GD := hid (gb_trans GC.out hg (.inl rfl))
  clear hg KC TC RC GC SS NS NT CS
  go_wp2_with fail
  refine (DS.out _ _ KD.out).mono ?_
  rintro e w17 ⟨vd, rfl, ho, hg⟩
  obtain ⟨p17, k17, rfl⟩ := ho.form
  have KE := hid (KD.out.grown hg); have GE := hid (gb_trans GD.out hg (.inl rfl))
  clear ho hg KD GD DS
  go_wp2_with fail
  refine (O0.out _ _ KE.out).mono ?_
  rintro e w18 ⟨rfl, hg⟩
  have KF := hid (KE.out.grown hg); have GF := hid (gb_trans GE.out hg (.inl rfl))
  clear hg KE GE O0
  go_wp2_with fail
  refine (O4.out _ _ KF.out).mono ?_
  rintro e w19 ⟨rfl, hg⟩
  have KG := hid (KF.out.grown hg); have GG := hid (gb_trans GF.out hg (.inl rfl))
  clear hg KF GF O4
  go_wp2_with fail
  refine (ST.out _ _ KG.out).mono ?_
  rintro e w20 ⟨zb, rfl, -, -, hg⟩
  have GH := hid (gb_trans GG.out hg (.inl rfl))
  clear hg KG GG ST
  go_wp2_with fail
  refine (sunow_nil _).mono ?_
  rintro e w21 ⟨rfl, rfl⟩
  go_wp2_with fail
  refine (suout_nil 0 _).mono ?_
  rintro e w22 ⟨rfl, hg⟩
  have GI := hid (gb_trans GH.out hg (.inl rfl))
  clear hg GH
  go_wp2_with fail
  refine (subytes_nil _).mono ?_
  rintro e w23 ⟨rfl, rfl⟩
  go_wp2_with fail
  refine (sunew_nil zeroC_no _).mono ?_
  rintro e w24 ⟨rfl, hg⟩
  have GJ := hid (gb_trans GI.out hg (.inl rfl))
  clear hg GI
  go_wp2_with fail
  go_ret
  exact ⟨rfl, GJ.out⟩
end Go.Proofs.YtecggbndlbkhdaaGreat
