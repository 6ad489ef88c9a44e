/-
  The walk of VerifyOnce: whatever the configuration, the value, how many epochs and rotations later. No condition.
-/
import Derived.Test.YtfhifnhnkgdnlaaGreatZ12
import Derived.Test.YtfhifnhnkgdnlaaGreatMVq
import Derived.LoopTactic
import Derived.Deep.CutRange
import Derived.Deep.RegionHeld3
set_option linter.unusedSimpArgs false
set_option linter.unusedVariables false
namespace Go.Proofs.YtfhifnhnkgdnlaaGreat.vonce
set_option maxRecDepth 100000
open Go.RowKit

theorem pair_of {α β : Type} {p : α × β} {a : α} (h : p.1 = a) : p = (a, p.2) := by subst h; rfl
theorem again_taken {G : Gt} {sd : BitVec 64} {n grace win met fresh : Nat} {v e : Int} (H : Onc G sd n grace win met fresh 0 e) (n1 : 1 ≤ n) (v0 : 0 ≤ v) (v1 : v ≤ 1099511627776) : G.take (frst 0 0 v) 0 = (6, G) := by
  have hM := frst_may (who := 0) (e := 0) (v := v) (by decide) (by decide) (by decide) (by decide) v0 v1
  have hin : G.in 0 = true := decide_eq_true ⟨by decide, by rw [H.hn]; omega⟩
  have hg : G.r.gen 0 = 0 := by rw [H.gen]; rfl
  have hmay : G.may (frst 0 0 v) 0 = true := decide_eq_true ⟨fun h => absurd (show (1 : Int) = 2 from h) (by decide), Int.le_refl _, .inl (by show (0 : Int) = G.r.gen 0; rw [hg])⟩
  have hrep : (G.rep (frst 0 0 v)).may 1 = false := by
    unfold Gt.rep
    rw [if_pos (by show (0 : Int) = G.r.gen 0; rw [hg])]
    exact (H.now0 rfl).1
  unfold Gt.take
  rw [if_neg (by rw [hM]; decide), if_neg (by show ¬ (G.in 0 = false); rw [hin]; decide), if_neg (by rw [hmay]; decide), if_pos hrep]
theorem rot_any {sd : BitVec 64} {k : Nat} {e : Int} (k9 : k ≤ 3) (e0 : 0 ≤ e) (e1 : e ≤ 4) {s : Sl} (hs : s = ⟨sd, 0, (k : Int), if k = 0 then 1 else 0⟩) {w : World} {b : Nat} (H : SlAt 145 w b s) :
    Calls Tryz.prog 32 #[.pointer (some ⟨b, 0, none⟩), .int .i64 e] w (LeavesS w b (sealOf (ofOf sd 0 (k : Int)).a (ofOf sd 0 (k : Int)).b (rota k e (if k = 0 then 2 else 1))) 0 ⟨sd, 0, ((k + 1 : Nat) : Int), if k + 1 = 0 then 1 else 0⟩) := by
  subst hs
  have hM : mayOf ((⟨sd, 0, (k : Int), if k = 0 then 1 else 0⟩ : Sl).msg ((⟨sd, 0, (k : Int), if k = 0 then 1 else 0⟩ : Sl).rota e)) = true := by
    refine may_rotate ⟨by show (0 : Int) ≤ 0; decide, by show (0 : Int) ≤ 15; decide, by show 0 ≤ (k : Int) + 1; omega, by show (k : Int) + 1 ≤ 60000; omega, ?_, ?_, e0, by show e ≤ 1099511627776; omega⟩
    · show 1 ≤ (if k = 0 then (1 : Int) else 0) + 1; split <;> omega
    · show (if k = 0 then (1 : Int) else 0) + 1 ≤ _; split <;> omega
  have h := srotate_yes e hM w H
  have e1 : ((⟨sd, 0, (k : Int), if k = 0 then 1 else 0⟩ : Sl).msg ((⟨sd, 0, (k : Int), if k = 0 then 1 else 0⟩ : Sl).rota e)) = rota k e (if k = 0 then 2 else 1) := by
    show (⟨2, 0, (k : Int) + 1, (if k = 0 then (1 : Int) else 0) + 1, e, 0, 0⟩ : Mg) = ⟨2, 0, (k : Int) + 1, if k = 0 then 2 else 1, e, 0, 0⟩
    by_cases h0 : k = 0
    · rw [if_pos h0, if_pos h0]; rfl
    · rw [if_neg h0, if_neg h0]; rfl
  rw [e1] at h
  exact h
set_option maxHeartbeats 12800000 in
theorem walk (l : List Int) (p : Option Addr) (cap : Nat) (value later turns : Int) {w : World} (hl : IntsAt w (.slice p l.length cap) l) :
    Calls Tryz.prog 4 #[.slice p l.length cap, .int .i64 value, .int .i64 later, .int .i64 turns] w fun e w' => e = .returned (.bool true) ∧ w.grownBy w' none := by
  have HF := hid (fit_any l p cap w hl); clear hl
  go_enter Tryz.func4, Tryz.ntmps4
  go_wp2_with fail
  refine HF.out.mono ?_
  rintro e w1 ⟨c, rfl, hfine, hg⟩
  have G1 := hid hg; have FN := hid hfine; clear hg HF hfine
  go_upto_region 2 with (refine wpList_store_new (w := w1) (cs := c.cells) rfl (by kernel_rfl) (by kernel_rfl) (by kernel_rfl) rfl rfl rfl rfl rfl ?_)
  have C1 := hid (cfx_new c G1.out)
  have hlow : w.heap.size ≤ w1.heap.size := gb_size G1.out
  clear G1
  refine wp_gen (fun wx => Cfx w w1.heap.size c wx) C1.out ?_
  clear C1
  generalize w1.heap.size = x at hlow ⊢
  have HLOW := hid hlow; clear hlow
  intro w2 h2
  have C2 := hid h2; clear h2
  go_wp2_with fail
  refine wp_region_held_drew (S := (fun w' => (Cfx w x c w'))) (by kernel_rfl) C2.out.drew (fun hHeld => ?_)
  try dsimp only at hHeld
  refine' wpAnyH_take (i := 0) (v := _) rfl (by kernel_rfl) (by kernel_rfl) (by kernel_rfl) (fun _ _ _ h => h) (Or.inl ⟨by rfl, ?_⟩) hHeld ?_
  rotate_left
  · (intro w hSw; (try dsimp only at hSw); (try simp only [List.getElem_toArray, List.getElem_cons_succ, List.getElem_cons_zero]); refine exec_row (x := .tmp 9) hSw.box Tryz.underlying27 rfl (by kernel_rfl) ?_ ?_ <;> rfl)
  try simp only [Act.put, List.setIfInBounds_toArray, List.set_cons_zero, List.set_cons_succ, List.getElem_toArray, List.getElem_cons_succ, List.getElem_cons_zero]
  refine' wpAnyH_take (i := 2) (v := _) rfl (by kernel_rfl) (by kernel_rfl) (by kernel_rfl) (fun _ _ _ h => h) (Or.inl ⟨by rfl, ?_⟩) hHeld ?_
  rotate_left
  · (intro w hSw; (try dsimp only at hSw); go_simp; try with_reducible rfl)
  try simp only [Act.put, List.setIfInBounds_toArray, List.set_cons_zero, List.set_cons_succ, List.getElem_toArray, List.getElem_cons_succ, List.getElem_cons_zero]
  refine' wpAnyH_take (i := 3) (v := _) rfl (by kernel_rfl) (by kernel_rfl) (by kernel_rfl) (fun _ _ _ h => h) (Or.inl ⟨by rfl, ?_⟩) hHeld ?_
  rotate_left
  · (intro w hSw; (try dsimp only at hSw); have bb := hSw; have c25 : w.cell? ⟨x, 25, none⟩ = some (Value.int IntKind.u64 c.seed) := at_cell bb.box 25; go_simp; try with_reducible rfl)
  try simp only [Act.put, List.setIfInBounds_toArray, List.set_cons_zero, List.set_cons_succ, List.getElem_toArray, List.getElem_cons_succ, List.getElem_cons_zero]
  refine wpAnyH_ready (rs := [1]) (by kernel_rfl) (by simp) ?_
  refine AllReadyH.cons (o := _) rfl (fun K hK => ?_) AllReadyH.nil
  try simp only [List.getElem_toArray, List.getElem_cons_succ, List.getElem_cons_zero]
  go_simp
  have hH2 := hHeld
  have bb := hH2
  refine (gnew_fine FN.out _).mono ?_
  rintro e w1001 ⟨F, B, rfl, hk, hg, hlo⟩
  have HLO := hid (show ∀ y ∈ F, w.heap.size ≤ y from fun y hy => Nat.le_trans (gb_size bb.g) (hlo y hy))
  have HXF := hid (show x ∉ F from fun h => by have := hlo _ h; have := at_lt bb.box; omega); clear hlo
  have L1 := hid (show (Cfx w x c w1001) from bb.grown hg)
  have Nkg := hid (show GtAt w1001 F B (gOf c) from hk)
  clear hHeld hg bb
  go_wp2_with fail
  refine hK.out _ _ ?_ (fun hHeld => ?_)
  · exact L1.out
  clear hK K
  try dsimp only at hHeld
  try simp only [Act.put, List.setIfInBounds_toArray, List.set_cons_zero, List.set_cons_succ, List.getElem_toArray, List.getElem_cons_succ, List.getElem_cons_zero]
  refine held_stronger (S' := fun w' => (fun w' => GtAt w' F B (gOf c)) w' ∧ ((fun w' => (Cfx w x c w'))) w') (fun _ h => h.2) _ _ _ _ ?_
  replace hHeld := And.intro Nkg.out hHeld
  try dsimp only at hHeld
  refine wpAnyH_ready (rs := [4]) (by kernel_rfl) (by simp) ?_
  refine AllReadyH.cons (o := _) rfl (fun K hK => ?_) AllReadyH.nil
  try simp only [List.getElem_toArray, List.getElem_cons_succ, List.getElem_cons_zero]
  go_simp
  have hH2 := hHeld
  obtain ⟨kg, bb⟩ := hH2
  refine (snew_fine FN.out (0) (by omega) (by omega) _).mono ?_
  rintro e w1004 ⟨b, rfl, hs, hg, hbz⟩
  have HBZ := hid (show w.heap.size ≤ b from Nat.le_trans (gb_size bb.g) hbz)
  have HBF := hid (show b ∉ F from fun h => by have := kg.lt _ h; omega); clear hbz
  have L4 := hid (show (GtAt w1004 F B (gOf c)) ∧ (Cfx w x c w1004) from ⟨kg.grown hg, bb.grown hg⟩)
  have Nso := hid (show SlAt 145 w1004 b (.new (sdOf c) (0)) from hs)
  clear hHeld hg kg bb
  go_wp2_with fail
  refine hK.out _ _ ?_ (fun hHeld => ?_)
  · exact L4.out
  clear hK K
  try dsimp only at hHeld
  try simp only [Act.put, List.setIfInBounds_toArray, List.set_cons_zero, List.set_cons_succ, List.getElem_toArray, List.getElem_cons_succ, List.getElem_cons_zero]
  refine held_stronger (S' := fun w' => (fun w' => SlAt 145 w' b (.new (sdOf c) (0))) w' ∧ ((fun w' => (GtAt w' F B (gOf c)) ∧ (Cfx w x c w'))) w') (fun _ h => h.2) _ _ _ _ ?_
  replace hHeld := And.intro Nso.out hHeld
  try dsimp only at hHeld
  refine' wpAnyH_take (i := 5) (v := _) rfl (by kernel_rfl) (by kernel_rfl) (by kernel_rfl) (fun _ _ _ h => h) (Or.inl ⟨by rfl, ?_⟩) hHeld ?_
  rotate_left
  · (intro w hSw; (try dsimp only at hSw); go_simp; try with_reducible rfl)
  try simp only [Act.put, List.setIfInBounds_toArray, List.set_cons_zero, List.set_cons_succ, List.getElem_toArray, List.getElem_cons_succ, List.getElem_cons_zero]
  refine' wpAnyH_take (i := 6) (v := _) rfl (by kernel_rfl) (by kernel_rfl) (by kernel_rfl) (fun _ _ _ h => h) (Or.inl ⟨by rfl, ?_⟩) hHeld ?_
  rotate_left
  · (intro w hSw; (try dsimp only at hSw); go_simp; try with_reducible rfl)
  try simp only [Act.put, List.setIfInBounds_toArray, List.set_cons_zero, List.set_cons_succ, List.getElem_toArray, List.getElem_cons_succ, List.getElem_cons_zero]
  refine wpAnyH_done (by kernel_rfl) ?_ _
  obtain ⟨so, kg, bb⟩ := hHeld
  refine exit_gen (fun wx => Kv w F B (gOf c) b (.new (sdOf c) (0)) [(x, confObj c)] [] wx) (kv_conf (w := w) (w1 := w) kg so HLO.out HBZ.out HBF.out HXF.out bb.g bb.box) ?_
  clear kg so bb HLO HBZ HBF HXF C2
  intro w3 h3
  have K3 := hid h3; clear h3
  have hnf := FN.out.n
  have hff := FN.out.f
  have hn1 : 1 ≤ c.n := by omega
  clear hnf hff
  have hfr := FN.out.fresh
  have hgr := FN.out.grace
  have hmm := FN.out.m
  have hww := FN.out.window
  obtain ⟨va, v0, v1, eva⟩ := umod_int value 1099511627776 (by omega)
  obtain ⟨ep, p0, p1, eep⟩ := umod_int later 5 (by omega)
  obtain ⟨tu, t1, etu⟩ := umod_small turns 4 (by omega)
  replace eva : (IntKind.u64.wrap value).tmod 1099511627776 = va := eva
  replace eep : (IntKind.u64.wrap later).tmod 5 = ep := eep
  replace etu : (IntKind.u64.wrap turns).tmod 4 = (tu : Int) := etu
  replace v1 : va < 1099511627776 := v1
  replace p1 : ep < 5 := p1
  have sva : IntKind.i64.wrap va = va := IntWalk.i64_in _ (by omega)
  have sep : IntKind.i64.wrap ep = ep := IntWalk.i64_in _ (by omega)
  have ON := onc_new (sd := sdOf c) (n := c.n.toNat) (grace := c.grace.toNat) (win := c.window.toNat) (met := c.m.toNat) (fresh := c.fresh.toNat) (by omega) (by omega) (by omega) v0 (by omega) ep
  have T1 : (gOf c).take (frst 0 0 va) 0 = (0, ((gOf c).take (frst 0 0 va) 0).2) := Prod.ext ON.1 rfl
  have C1 := first_of (sdOf c) c.n.toNat c.grace.toNat c.window.toNat c.m.toNat c.fresh.toNat (by omega) 0 0 va 0 nobody (by decide) (by omega) (by decide) (by decide) (by decide) v0 (by omega)
  rw [if_neg (by simp [nobody]), if_pos (by omega)] at C1
  replace C1 : (gOf c).check (sealOf (ofOf (sdOf c) 0 0).a (ofOf (sdOf c) 0 0).b (frst 0 0 va)) 0 nobody = (frst 0 0 va, 0) := C1
  have ON0 : Onc ((gOf c).take (frst 0 0 va) 0).2 (sdOf c) c.n.toNat c.grace.toNat c.window.toNat c.m.toNat c.fresh.toNat 0 ep := ON.2
  clear ON
  have SA := hid (fun u b (h : SlAt 145 u b (.new (sdOf c) 0)) => first_samp (sd := sdOf c) (who := 0) (e := 0) (v := va) (by decide) (by decide) (by decide) (by decide) v0 (by omega) h)
  have AG := hid (fun (G : Gt) (k : Nat) (H : Onc G (sdOf c) c.n.toNat c.grace.toNat c.window.toNat c.m.toNat c.fresh.toNat k ep) => first_again (sdOf c) _ _ _ _ _ va ep k H (by omega) (by omega) v0 (by omega))
  have RO := hid (fun (G : Gt) (k : Nat) (H : Onc G (sdOf c) c.n.toNat c.grace.toNat c.window.toNat c.m.toNat c.fresh.toNat k ep) (k9 : k ≤ 3) => onc_rot H (by omega) k9 p0 (by omega) (by omega) (by omega) (if k = 0 then 2 else 1) rfl)
  have T2 := hid (again_taken ON0 (by omega) v0 (by omega))
  have HE : ∀ u, (Op.equalIn 10000 39 (mg (frst 0 0 va)) (mg (frst 0 0 va))).run Tryz.prog u = .ok true u := fun u => (msg_equal (frst 0 0 va) (frst 0 0 va) u).trans (by rw [msgEq_self])
  have HT1 := hid T1; have HC1 := hid C1; have HON := hid ON0; clear T1 C1 ON0
  generalize ((gOf c).take (frst 0 0 va) 0).2 = g1 at *
  generalize sealOf (ofOf (sdOf c) 0 0).a (ofOf (sdOf c) 0 0).b (frst 0 0 va) = ls at *
  generalize frst 0 0 va = fm at *
  obtain ⟨bg, hbg⟩ : ∃ bg, B.g = bg := ⟨_, rfl⟩
  rw [hbg]
  have EB := hid hbg; clear hbg
  generalize gOf c = g0 at *
  go_wp2_with fail
  refine (SA.out _ _ K3.out.ob).mono ?_
  rintro e4 w4 ⟨v, rfl, ho, hs, hc⟩
  have K4 := hid (K3.out.sealed ho hs hc).tail; clear ho hs hc K3 SA
  go_wp2_with fail
  refine (tv_check EB.out _ _ 0 _ _ HC1.out (by omega) _ K4.out.gt K4.out.y0).mono ?_
  rintro e5 u5 ⟨rfl, hg⟩
  have K5 := hid ((K4.out.grown hg).alloc (msgObj fm)); clear hg K4
  go_upto_region 7 with fail
  refine wp_gen (fun wx => Kv w F B g0 b ⟨sdOf c, 0, 0, 1⟩ [(u5.heap.size, msgObj fm)] [(v, ls)] wx) K5.out ?_
  clear K5
  generalize u5.heap.size = t5
  intro x5 h5
  have K5 := hid h5; clear h5
  go_wp2_with fail
  refine (tv_check EB.out _ _ 0 _ _ HC1.out (by omega) _ K5.out.gt K5.out.y0).mono ?_
  rintro e6 u6 ⟨rfl, hg⟩
  have K6 := hid ((K5.out.grown hg).alloc (msgObj fm)); clear hg K5
  go_upto_region 8 with fail
  refine wp_gen (fun wx => Kv w F B g0 b ⟨sdOf c, 0, 0, 1⟩ [(u6.heap.size, msgObj fm), (t5, msgObj fm)] [(v, ls)] wx) K6.out ?_
  clear K6
  generalize u6.heap.size = t6
  intro x6 h6
  have K6 := hid h6; clear h6
  have M5 := hid K6.out.b1; have M6 := hid K6.out.b0
  go_wp2_with (first | refine wpList_row_w M5.out Tryz.underlying39 rfl (by kernel_rfl) rfl rfl rfl rfl ?_ | refine wpList_row_w M6.out Tryz.underlying39 rfl (by kernel_rfl) rfl rfl rfl rfl ?_)
  refine (tv_take EB.out _ _ _ HT1.out _ K6.out).mono ?_
  rintro e7 w7 ⟨rfl, F1, B1, eb, hk⟩
  have K7 := hid hk; have EB1 := hid eb; clear hk eb K6 M5 M6 EB HT1 HC1
  have M7 := hid K7.out.b1
  go_wp2_with (refine wpList_row_w M7.out Tryz.underlying39 rfl (by kernel_rfl) rfl rfl rfl rfl ?_)
  refine (tv_take EB1.out _ _ _ T2.out _ K7.out).mono ?_
  rintro e8 w8 ⟨rfl, F2, B2, eb, hk⟩
  have K8 := hid hk.tail.tail; have EB2 := hid eb; clear hk eb K7 M7 EB1 T2 HE
  have T9 : (tu : Int) ≤ 3 := by omega
  have q0 : (0 : Int) ≤ (tu : Int) := by omega
  go_wp2_with fail
  go_loopw [19] (fun i wr => ∃ (k : Nat) (F : List Nat) (B : GBl) (G : Gt) (s : Sl), k ≤ tu ∧ i = .int .u64 (k : Int) ∧ s = ⟨sdOf c, 0, (k : Int), if k = 0 then 1 else 0⟩ ∧ Onc G (sdOf c) c.n.toNat c.grace.toNat c.window.toNat c.m.toNat c.fresh.toNat k ep ∧ B.g = bg ∧ Kv w F B G b s [] [(v, ls)] wr) (fun i _ => tu - (intOf i).toNat)
  case atStart => exact ⟨0, F2, B2, g1, _, Nat.zero_le _, rfl, rfl, HON.out, EB2.out, K8.out⟩
  case round =>
    obtain ⟨k, F3, B3, G3, s3, hk, rfl, hs3, hon, hb3, hkv⟩ := hrel
    have HK := hid hkv; have HO := hid hon; have HB := hid hb3; have HS := hid hs3; clear hkv hon hb3 hs3 K8 EB2 HON
    have kk0 : (0 : Int) ≤ (k : Int) := by omega
    by_cases hlt : k < tu
    · have d1 : (k : Int) < (tu : Int) := by omega
      have k9 : k ≤ 3 := by omega
      have sk : IntKind.u64.wrap ((k : Int) + 1) = (k : Int) + 1 := by show ((k : Int) + 1) % 18446744073709551616 = _; omega
      obtain ⟨r1, r2, r3⟩ := RO.out G3 k HO.out k9
      have R1 := hid r1; have R2 := hid (pair_of r2); have R3 := hid r3; clear r1 r2 r3
      have RA := hid (fun u b (h : SlAt 145 u b s3) => rot_any k9 p0 (by omega) HS.out h)
      generalize (G3.take (rota k ep (if k = 0 then 2 else 1)) ep).2 = g4 at *
      generalize rota k ep (if k = 0 then 2 else 1) = rm at *
      generalize sealOf (ofOf (sdOf c) 0 (k : Int)).a (ofOf (sdOf c) 0 (k : Int)).b rm = lr at *
      go_wp2_with fail
      refine (RA.out _ _ HK.out.ob).mono ?_
      rintro e9 w9 ⟨rv, rfl, ho, hs, hc⟩
      have K9 := hid (HK.out.sealed ho hs hc); clear ho hs hc HK RA
      go_wp2_with fail
      refine (tv_check HB.out _ _ ep _ _ R1.out (by omega) _ K9.out.gt K9.out.y0).mono ?_
      rintro e10 w10 ⟨rfl, hg⟩
      have K10 := hid ((K9.out.grown hg).alloc (msgObj rm)); clear hg K9
      go_upto_region 16 with fail
      refine wp_gen (fun wx => Kv w F3 B3 G3 b ⟨sdOf c, 0, ((k + 1 : Nat) : Int), if k + 1 = 0 then 1 else 0⟩ [(w10.heap.size, msgObj rm)] [(rv, lr), (v, ls)] wx) K10.out ?_
      clear K10
      generalize w10.heap.size = tr
      intro w11 h11
      have K11 := hid h11; clear h11
      have M11 := hid K11.out.b0
      go_wp2_with (refine wpList_row_w M11.out Tryz.underlying39 rfl (by kernel_rfl) rfl rfl rfl rfl ?_)
      refine (tv_take HB.out _ _ _ R2.out _ K11.out).mono ?_
      rintro e12 w12 ⟨rfl, F4, B4, eb, hk4⟩
      have K12 := hid hk4.tail.tailY; have EB4 := hid eb; clear hk4 eb K11 M11 HB R1 R2
      go_wp2_with fail
      go_roundw
      case rel => exact ⟨k + 1, F4, B4, g4, _, hlt, rfl, rfl, R3.out, EB4.out, K12.out⟩
      case measure => simp [intOf]; omega
    · have hkt : k = tu := by omega
      subst hkt
      have AG2 := AG.out G3 k HO.out
      by_cases h2 : k < 2
      · rw [if_pos h2] at AG2
        have AC := hid AG2; clear AG2
        by_cases h0 : k = 0
        · subst h0
          go_wp2_with fail
          refine (tv_check HB.out _ _ ep _ _ AC.out (by omega) _ HK.out.gt HK.out.y0).mono ?_
          rintro e20 w20 ⟨rfl, hg⟩
          have K20 := hid ((HK.out.grown hg).alloc (msgObj zeroM)).tail; clear hg HK AC
          go_upto_region 19 with fail
          refine wp_gen (fun wx => Kv w F3 B3 G3 b s3 [] [(v, ls)] wx) K20.out ?_
          clear K20
          intro w21 h21
          have K21 := hid h21; clear h21
          go_wp2_with fail
          refine (vtold_any _).mono ?_
          rintro e22 w22 ⟨rfl, hg⟩
          have G22 := hid (K21.out.grown hg).g; clear hg K21
          go_wp2_with fail
          go_ret
          exact ⟨rfl, G22.out⟩
        · have k1 : k = 1 := by omega
          subst k1
          go_wp2_with fail
          refine (tv_check HB.out _ _ ep _ _ AC.out (by omega) _ HK.out.gt HK.out.y0).mono ?_
          rintro e20 w20 ⟨rfl, hg⟩
          have K20 := hid ((HK.out.grown hg).alloc (msgObj zeroM)).tail; clear hg HK AC
          go_upto_region 19 with fail
          refine wp_gen (fun wx => Kv w F3 B3 G3 b s3 [] [(v, ls)] wx) K20.out ?_
          clear K20
          intro w21 h21
          have K21 := hid h21; clear h21
          go_wp2_with fail
          refine (vtold_any _).mono ?_
          rintro e22 w22 ⟨rfl, hg⟩
          have G22 := hid (K21.out.grown hg).g; clear hg K21
          go_wp2_with fail
          go_ret
          exact ⟨rfl, G22.out⟩
      · rw [if_neg h2] at AG2
        have AC := hid AG2; clear AG2
        have z1 : (0 : Int) < (k : Int) := by omega
        have z2 : ¬ (k : Int) < 2 := by omega
        have z3 : decide ((k : Int) < 2) = false := by simp; omega
        have z4 : decide ((0 : Int) < (k : Int)) = true := by simp; omega
        go_wp2_with fail
        refine (tv_check HB.out _ _ ep _ _ AC.out (by omega) _ HK.out.gt HK.out.y0).mono ?_
        rintro e20 w20 ⟨rfl, hg⟩
        have K20 := hid ((HK.out.grown hg).alloc (msgObj zeroM)).tail; clear hg HK AC
        go_upto_region 19 with fail
        refine wp_gen (fun wx => Kv w F3 B3 G3 b s3 [] [(v, ls)] wx) K20.out ?_
        clear K20
        intro w21 h21
        have K21 := hid h21; clear h21
        go_wp2_with fail
        refine (vtold_any _).mono ?_
        rintro e22 w22 ⟨rfl, hg⟩
        have G22 := hid (K21.out.grown hg).g; clear hg K21
        go_wp2_with fail
        go_ret
        exact ⟨rfl, G22.out⟩
end Go.Proofs.YtfhifnhnkgdnlaaGreat.vonce
