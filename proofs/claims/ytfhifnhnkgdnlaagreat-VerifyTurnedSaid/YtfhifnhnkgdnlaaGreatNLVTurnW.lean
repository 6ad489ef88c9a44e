/-
  The walk of VerifyTurned: whatever the configuration, the value, the place and the turn. No condition.
-/
import Derived.Test.YtfhifnhnkgdnlaaGreatJ0
import Derived.Test.YtfhifnhnkgdnlaaGreatY10
import Derived.Test.YtfhifnhnkgdnlaaGreatNGl
import Derived.Deep.CutRange
import Derived.Deep.RegionHeld3
set_option linter.unusedSimpArgs false
set_option linter.unusedVariables false
namespace Go.Proofs.YtfhifnhnkgdnlaaGreat.vturn
set_option maxRecDepth 100000
open Go.RowKit

theorem u8_of {n : Int} (h : (Lit.int .u8 n).wf = true) : ∃ t : UInt8, n = (t.toNat : Int) := by
  simp only [Lit.wf, Bool.and_eq_true, decide_eq_true_eq] at h
  have h2 : (0 : Int) ≤ n ∧ n ≤ 255 := h
  exact ⟨UInt8.ofNat n.toNat, by simp [UInt8.toNat_ofNat]; omega⟩
theorem told_of {c : Conf} (h : Fine c) {v : Int} (v0 : 0 ≤ v) (v1 : v ≤ 1099511627776) (kn : Nat) (hk : kn < 48) (turn : UInt8) (l : List UInt8) (hl : l = sealOf (ofOf (sdOf c) 0 0).a (ofOf (sdOf c) 0 0).b (frst 0 0 v)) :
    (turn = 0 → ((gOf c).check (l.set kn (byteAt l kn ^^^ turn)) 0 nobody).2 = 0) ∧ (32 ≤ kn → turn ≠ 0 → ((gOf c).check (l.set kn (byteAt l kn ^^^ turn)) 0 nobody).2 = 5) := by
  have hn := h.n; have hff := h.f; have hf := h.fresh; have hm := h.m
  have hlen : l.length = 48 := by rw [hl]; exact sealOf_length _ _ _
  have hb : l[kn]? = some (byteAt l kn) := by rw [List.getElem?_eq_getElem (by omega), byteAt_eq (by omega)]
  have hM := frst_may (who := 0) (e := 0) (v := v) (by decide) (by decide) (by decide) (by decide) v0 v1
  refine ⟨fun e => ?_, fun h32 ht => ?_⟩
  · subst e
    have hs : l.set kn (byteAt l kn ^^^ 0) = l := by
      apply List.ext_getElem?
      intro j
      rw [List.getElem?_set]
      by_cases e : kn = j
      · subst e; rw [if_pos rfl, if_pos (by omega), hb]; simp
      · rw [if_neg e]
    rw [hs, hl]
    have hh := first_of (sdOf c) c.n.toNat c.grace.toNat c.window.toNat c.m.toNat c.fresh.toNat (by omega) 0 0 v 0 nobody (by decide) (by omega) (by decide) (by decide) (by decide) v0 v1
    rw [if_neg (by simp [nobody]), if_pos (by omega)] at hh
    exact congrArg Prod.snd hh
  · have hx : l[kn]? ≠ some (byteAt l kn ^^^ turn) := by
      rw [hb]; intro e; exact xor8_ne _ turn ht (Option.some.inj e).symm
    generalize byteAt l kn ^^^ turn = y at hx ⊢
    subst hl
    rw [check_turned (gOf c) (frst 0 0 v) 0 nobody (ofOf (sdOf c) 0 0) (gOf_key c _ rfl (Int.le_refl 0)) hM h32 hk hx (decide_eq_true ⟨Int.le_refl 0, by show (0 : Int) < ((c.n.toNat : Nat) : Int); omega⟩) rfl (gOf_may c _ _ (show (1 : Int) ≠ 2 by decide) rfl)]
set_option maxHeartbeats 6400000 in
theorem walk (l : List Int) (p : Option Addr) (cap : Nat) (value at_ : Int) (turn : UInt8) {w : World} (hl : IntsAt w (.slice p l.length cap) l) :
    Calls Tryz.prog 6 #[.slice p l.length cap, .int .i64 value, .int .i64 at_, .int .u8 (turn.toNat : Int)] w fun e w' => e = .returned (.bool true) ∧ w.grownBy w' none := by
  have HF := hid (fit_any l p cap w hl); clear hl
  obtain ⟨va, v0, v1, eva⟩ := umod_int value 1099511627776 (by omega)
  obtain ⟨ki, k0, k1, eki⟩ := umod_int at_ 48 (by omega)
  replace eva : (IntKind.u64.wrap value).tmod 1099511627776 = va := eva
  replace eki : (IntKind.u64.wrap at_).tmod 48 = ki := eki
  replace v1 : va < 1099511627776 := v1
  replace k1 : ki < 48 := k1
  obtain ⟨kn, rfl⟩ := Int.eq_ofNat_of_zero_le k0
  have k48 : kn < 48 := by omega
  have sva : IntKind.i64.wrap va = va := IntWalk.i64_in _ (by omega)
  have ski : IntKind.i64.wrap (kn : Int) = (kn : Int) := IntWalk.i64_in _ (by omega)
  have HV := hid (And.intro v0 v1)
  have HK := hid k48
  clear v0 v1 k0 k1 k48
  go_enter Tryz.func6, Tryz.ntmps6
  go_wp2_with fail
  refine HF.out.mono ?_
  rintro e w1 ⟨c, rfl, hfine, hg⟩
  have G1 := hid hg; have FN := hid hfine; clear hg HF hfine
  go_upto_region 2 with (refine wpList_store_new (w := w1) (cs := c.cells) rfl (by kernel_rfl) (by kernel_rfl) (by kernel_rfl) rfl rfl rfl rfl rfl ?_)
  have C1 := hid (cfx_new c G1.out)
  have hlow : w.heap.size ≤ w1.heap.size := gb_size G1.out
  clear G1
  refine wp_gen (fun wx => Cfx w w1.heap.size c wx) C1.out ?_
  clear C1
  generalize w1.heap.size = x at hlow ⊢
  have HLOW := hid hlow; clear hlow
  intro w2 h2
  have C2 := hid h2; clear h2
  go_wp2_with fail
  refine wp_region_held_drew (S := (fun w' => (Cfx w x c w'))) (by kernel_rfl) C2.out.drew (fun hHeld => ?_)
  try dsimp only at hHeld
  refine' jT 0 rfl (by rfl) ?_ hHeld ?_
  rotate_left
  · (intro w hSw; (try dsimp only at hSw); (try simp only [jD, jE, jF]); refine exec_row (x := .tmp 9) hSw.box Tryz.underlying27 rfl (by kernel_rfl) ?_ ?_ <;> rfl)
  try simp only [Act.put, jA, jB, jC, jD, jE, jF]
  refine' jT 2 rfl (by rfl) ?_ hHeld ?_
  rotate_left
  · (intro w hSw; (try dsimp only at hSw); (try simp only [jD, jE, jF]); refine exec_row (x := .tmp 9) hSw.box Tryz.underlying27 rfl (by kernel_rfl) ?_ ?_ <;> rfl)
  try simp only [Act.put, jA, jB, jC, jD, jE, jF]
  refine' jT 4 rfl (by rfl) ?_ hHeld ?_
  rotate_left
  · (intro w hSw; (try dsimp only at hSw); go_simp; try with_reducible rfl)
  try simp only [Act.put, jA, jB, jC, jD, jE, jF]
  refine' jT 5 rfl (by rfl) ?_ hHeld ?_
  rotate_left
  · (intro w hSw; (try dsimp only at hSw); have bb := hSw; have c25 : w.cell? ⟨x, 25, none⟩ = some (Value.int IntKind.u64 c.seed) := at_cell bb.box 25; go_simp; try with_reducible rfl)
  try simp only [Act.put, jA, jB, jC, jD, jE, jF]
  refine jR [1] ?_
  refine jG rfl (fun K hK => ?_) AllReadyH.nil
  try simp only [jD, jE, jF]
  go_simp
  have hH2 := hHeld
  have bb := hH2
  refine (gnew_fine FN.out _).mono ?_
  rintro e w1001 ⟨F, B, rfl, hk, hg, hlo⟩
  have HLO := hid (show ∀ y ∈ F, w.heap.size ≤ y from fun y hy => Nat.le_trans (gb_size bb.g) (hlo y hy))
  have HXF := hid (show x ∉ F from fun h => by have := hlo _ h; have := at_lt bb.box; omega); clear hlo
  have L1 := hid (show (Cfx w x c w1001) from bb.grown hg)
  have Nkg := hid (show GtAt w1001 F B (gOf c) from hk)
  clear hHeld hg bb
  go_wp2_with fail
  refine hK.out _ _ ?_ (fun hHeld => ?_)
  · exact L1.out
  clear hK K
  try dsimp only at hHeld
  try simp only [Act.put, jA, jB, jC, jD, jE, jF]
  refine held_stronger (S' := fun w' => (fun w' => GtAt w' F B (gOf c)) w' ∧ ((fun w' => (Cfx w x c w'))) w') (fun _ h => h.2) _ _ _ _ ?_
  replace hHeld := And.intro Nkg.out hHeld
  try dsimp only at hHeld
  refine jR [3] ?_
  refine jG rfl (fun K hK => ?_) AllReadyH.nil
  try simp only [jD, jE, jF]
  go_simp
  have hH2 := hHeld
  obtain ⟨kg, bb⟩ := hH2
  refine (gnewr_fine FN.out _).mono ?_
  rintro e w1003 ⟨F2, B2, rfl, hk, hg, hlo⟩
  clear hlo
  have L3 := hid (show (GtAt w1003 F B (gOf c)) ∧ (Cfx w x c w1003) from ⟨kg.grown hg, bb.grown hg⟩)
  have Nkr := hid (show GrAt w1003 F2 B2 c 0 (gOf c) from hk)
  clear hHeld hg kg bb
  go_wp2_with fail
  refine hK.out _ _ ?_ (fun hHeld => ?_)
  · exact L3.out
  clear hK K
  try dsimp only at hHeld
  try simp only [Act.put, jA, jB, jC, jD, jE, jF]
  refine held_stronger (S' := fun w' => (fun w' => GrAt w' F2 B2 c 0 (gOf c)) w' ∧ ((fun w' => (GtAt w' F B (gOf c)) ∧ (Cfx w x c w'))) w') (fun _ h => h.2) _ _ _ _ ?_
  replace hHeld := And.intro Nkr.out hHeld
  try dsimp only at hHeld
  refine jR [6] ?_
  refine jG rfl (fun K hK => ?_) AllReadyH.nil
  try simp only [jD, jE, jF]
  go_simp
  have hH2 := hHeld
  obtain ⟨kr, kg, bb⟩ := hH2
  refine (snew_fine FN.out 0 (by omega) (by omega) _).mono ?_
  rintro e w1006 ⟨b, rfl, hs, hg, hbz⟩
  have HBZ := hid (show w.heap.size ≤ b from Nat.le_trans (gb_size bb.g) hbz)
  have HBF := hid (show b ∉ F from fun h => by have := kg.lt _ h; omega)
  have HB2 := hid (show b ∉ F2 from fun h => by have := kr.lt _ h; omega); clear hbz
  have L6 := hid (show (GrAt w1006 F2 B2 c 0 (gOf c)) ∧ (GtAt w1006 F B (gOf c)) ∧ (Cfx w x c w1006) from ⟨kr.grown hg, kg.grown hg, bb.grown hg⟩)
  have Nso := hid (show SlAt 145 w1006 b (.new (sdOf c) 0) from hs)
  clear hHeld hg kr kg bb
  go_wp2_with fail
  refine hK.out _ _ ?_ (fun hHeld => ?_)
  · exact L6.out
  clear hK K
  try dsimp only at hHeld
  try simp only [Act.put, jA, jB, jC, jD, jE, jF]
  refine held_stronger (S' := fun w' => (fun w' => SlAt 145 w' b (.new (sdOf c) 0)) w' ∧ ((fun w' => (GrAt w' F2 B2 c 0 (gOf c)) ∧ (GtAt w' F B (gOf c)) ∧ (Cfx w x c w'))) w') (fun _ h => h.2) _ _ _ _ ?_
  replace hHeld := And.intro Nso.out hHeld
  try dsimp only at hHeld
  refine' jT 7 rfl (by rfl) ?_ hHeld ?_
  rotate_left
  · (intro w hSw; (try dsimp only at hSw); go_simp; try with_reducible rfl)
  try simp only [Act.put, jA, jB, jC, jD, jE, jF]
  refine' jT 8 rfl (by rfl) ?_ hHeld ?_
  rotate_left
  · (intro w hSw; (try dsimp only at hSw); go_simp; try with_reducible rfl)
  try simp only [Act.put, jA, jB, jC, jD, jE, jF]
  refine' jT 9 rfl (by rfl) ?_ hHeld ?_
  rotate_left
  · (intro w hSw; (try dsimp only at hSw); go_simp; try with_reducible rfl)
  try simp only [Act.put, jA, jB, jC, jD, jE, jF]
  refine wpAnyH_done (by kernel_rfl) ?_ _
  obtain ⟨so, kr, kg, bb⟩ := hHeld
  refine exit_gen (fun wx => Kv w F B (gOf c) b (.new (sdOf c) 0) [(x, confObj c)] [] wx ∧ GrAt wx F2 B2 c 0 (gOf c) ∧ b ∉ F2) ⟨kv_conf (w := w) (w1 := w) kg so HLO.out HBZ.out HBF.out HXF.out bb.g bb.box, kr, HB2.out⟩ ?_
  clear kg so kr bb HLO HBZ HBF HXF HB2 C2
  intro w3 h3
  have K3 := hid h3; clear h3
  go_wp2_with fail
  refine (first_samp (by decide) (by decide) (by decide) (by decide) HV.out.1 (by have := HV.out.2; omega) K3.out.1.ob).mono ?_
  rintro e4 w4 ⟨v, rfl, ho, hs, hc⟩
  have hsl : (sealOf (ofOf (sdOf c) 0 0).a (ofOf (sdOf c) 0 0).b (frst 0 0 va)).length = 48 := sealOf_length _ _ _
  obtain ⟨gc, cc, rfl, lc1, lc2, lc3, lc4⟩ := ho.full (by rw [hsl]; decide)
  have K4 := hid (kt_start K3.out.1 K3.out.2.1 K3.out.2.2 ho hc); clear ho hs hc K3 lc2 lc3 lc4
  have TO := hid (told_of FN.out HV.out.1 (by have := HV.out.2; omega) kn HK.out turn _ rfl)
  generalize sealOf (ofOf (sdOf c) 0 0).a (ofOf (sdOf c) 0 0).b (frst 0 0 va) = ls at *
  obtain ⟨cur, hcur⟩ := K4.out.yl.obj
  obtain ⟨xb, hxb⟩ : ∃ x, byteAt ls kn = x := ⟨_, rfl⟩
  have cK : w4.cell? ⟨gc, kn, none⟩ = some (.int .u8 (xb.toNat : Int)) := byte_cell K4.out.yl.bytes kn (by have := HK.out; omega) xb hxb
  have fK : w4.frozen? ⟨gc, kn, none⟩ = false := at_free hcur kn
  have hxor : bits .xor .u8 (xb.toNat : Int) (turn.toNat : Int) = ((xb ^^^ turn).toNat : Int) := v8_xor xb turn
  rw [hxb] at TO
  clear hxb hcur
  obtain ⟨yb, hyb⟩ : ∃ y, xb ^^^ turn = y := ⟨_, rfl⟩
  rw [hyb] at TO hxor
  clear hyb
  have K5 := hid (K4.out.byte (i := kn) (x := yb) rfl (by have := HK.out; omega))
  rw [hsl] at lc1 ⊢
  rw [hsl] at K5 K4
  have L2 : (ls.set kn yb).length = 48 := by rw [List.length_set, hsl]
  generalize ls.set kn yb = l2 at *
  obtain ⟨M, hM⟩ : ∃ M, ((gOf c).check l2 0 nobody).1 = M := ⟨_, rfl⟩
  obtain ⟨fc, hfc⟩ : ∃ f, ((gOf c).check l2 0 nobody).2 = f := ⟨_, rfl⟩
  have CK := hid (show (gOf c).check l2 0 nobody = (M, fc) from Prod.ext hM hfc)
  rw [hfc] at TO
  clear hM hfc
  have HC48 := hid (show (48 : Int) ≤ (cc : Int) by omega)
  have hkc : (kn : Int) < 48 := by have := HK.out; omega
  have hk0 : (0 : Int) ≤ (kn : Int) := by omega
  clear hsl lc1
  have dk1 : decide ((kn : Int) < 48) = true := by simpa using hkc
  have dk0 : decide ((0 : Int) ≤ (kn : Int)) = true := by simp
  have L2H := hid L2; clear L2
  clear K4
  go_upto_region 10 with fail
  refine wp_gen (fun wx => Kt w F B F2 B2 c 0 (gOf c) [] (.slice (some ⟨gc, 0, none⟩) 48 cc) l2 wx) K5.out ?_
  clear K5 cK fK hxor
  intro w5 h5
  have K5 := hid h5; clear h5
  go_wp2_with fail
  refine (tv_check rfl _ _ 0 _ _ CK.out (by decide) _ K5.out.gt K5.out.yl.bytes).mono ?_
  rintro e6 w6 ⟨rfl, hg⟩
  have K6 := hid ((K5.out.grown hg).alloc (msgObj M)); clear hg K5
  go_upto_region 11 with fail
  refine wp_gen (fun wx => Kt w F B F2 B2 c 0 (gOf c) [(w6.heap.size, msgObj M)] (.slice (some ⟨gc, 0, none⟩) 48 cc) l2 wx) K6.out ?_
  clear K6
  generalize w6.heap.size = qb
  intro w7 h7
  have K7 := hid h7; clear h7
  have cv := conv_bytes K7.out.yl.bytes
  go_wp2_with fail
  refine (rv_check (⟨l2.toArray⟩ : ByteArray) l2 (by simp) (by show l2.toArray.size ≤ 100000; have := L2H.out; simp; omega) 0 (by decide) (by decide) _ _ CK.out _ K7.out.gr (by decide)).mono ?_
  rintro e8 w8 ⟨rfl, hg⟩
  have K8 := hid ((K7.out.grown hg).alloc (msgObj M)); clear hg K7 cv
  go_upto_region 12 with fail
  refine wp_gen (fun wx => Kt w F B F2 B2 c 0 (gOf c) [(w8.heap.size, msgObj M), (qb, msgObj M)] (.slice (some ⟨gc, 0, none⟩) 48 cc) l2 wx) K8.out ?_
  clear K8
  generalize w8.heap.size = pb
  intro w9 h9
  have K9 := hid h9; clear h9
  have he : ∀ u, (Op.equalIn 10000 39 (mg M) (mg M)).run Tryz.prog u = .ok true u := fun u => (msg_equal M M u).trans (by rw [msgEq_self])
  have dff : (fc == fc) = true := by simp
  have T0 := hid TO.out.1; have T5 := hid TO.out.2; clear TO CK
  by_cases ht : turn = 0
  · subst ht
    have f0 := T0.out rfl
    subst f0
    have z0 : (((0 : UInt8).toNat : Int) == 0) = true := by decide
    have z1 : (((0 : UInt8).toNat : Int) != 0) = false := by decide
    have z2 : ((0 : UInt8).toNat : Int) = 0 := by decide
    clear hkc hk0 dk0 dk1 T0 T5
    by_cases h32 : kn < 32
    · have d32 : decide ((kn : Int) < 32) = true := by simp; omega
      go_wp2_with fail
      refine (vtold_any _).mono ?_
      rintro e10 w10 ⟨rfl, hg⟩
      have K10 := hid (K9.out.grown hg); clear hg K9
      go_wp2_with (first | refine wpList_row_w K10.out.b0 Tryz.underlying39 rfl (by kernel_rfl) rfl rfl rfl rfl ?_ | refine wpList_row_w K10.out.b1 Tryz.underlying39 rfl (by kernel_rfl) rfl rfl rfl rfl ?_)
      go_ret
      exact ⟨rfl, K10.out.g⟩
    · have d32 : decide ((kn : Int) < 32) = false := by simp; omega
      go_wp2_with fail
      refine (vtold_any _).mono ?_
      rintro e10 w10 ⟨rfl, hg⟩
      have K10 := hid (K9.out.grown hg); clear hg K9
      go_wp2_with (first | refine wpList_row_w K10.out.b0 Tryz.underlying39 rfl (by kernel_rfl) rfl rfl rfl rfl ?_ | refine wpList_row_w K10.out.b1 Tryz.underlying39 rfl (by kernel_rfl) rfl rfl rfl rfl ?_)
      go_ret
      exact ⟨rfl, K10.out.g⟩
  · have tn : (turn.toNat : Int) ≠ 0 := by intro e; exact ht (UInt8.toNat_inj.1 (by simpa using e))
    generalize (turn.toNat : Int) = tt at *
    have z0 : (tt == 0) = false := by simpa using tn
    have z1 : (tt != 0) = true := by simpa using tn
    clear hkc hk0 dk0 dk1
    by_cases h32 : kn < 32
    · have d32 : decide ((kn : Int) < 32) = true := by simp; omega
      go_wp2_with fail
      refine (vtold_any _).mono ?_
      rintro e10 w10 ⟨rfl, hg⟩
      have K10 := hid (K9.out.grown hg); clear hg K9
      go_wp2_with (first | refine wpList_row_w K10.out.b0 Tryz.underlying39 rfl (by kernel_rfl) rfl rfl rfl rfl ?_ | refine wpList_row_w K10.out.b1 Tryz.underlying39 rfl (by kernel_rfl) rfl rfl rfl rfl ?_)
      go_ret
      exact ⟨rfl, K10.out.g⟩
    · have d32 : decide ((kn : Int) < 32) = false := by simp; omega
      have f5 := T5.out (by omega) ht
      subst f5
      go_wp2_with fail
      refine (vtold_any _).mono ?_
      rintro e10 w10 ⟨rfl, hg⟩
      have K10 := hid (K9.out.grown hg); clear hg K9
      go_wp2_with (first | refine wpList_row_w K10.out.b0 Tryz.underlying39 rfl (by kernel_rfl) rfl rfl rfl rfl ?_ | refine wpList_row_w K10.out.b1 Tryz.underlying39 rfl (by kernel_rfl) rfl rfl rfl rfl ?_)
      go_ret
      exact ⟨rfl, K10.out.g⟩
end Go.Proofs.YtfhifnhnkgdnlaaGreat.vturn
