/-
  The walk of VerifyOut: whatever the configuration and the collector. No condition.
-/
import Derived.Test.YtfhifnhnkgdnlaaGreatZ12
import Derived.Deep.CutRange
import Derived.Deep.RegionHeld3
set_option linter.unusedSimpArgs false
set_option linter.unusedVariables false
namespace Go.Proofs.YtfhifnhnkgdnlaaGreat.vout
set_option maxRecDepth 100000
open Go.RowKit

@[reducible] def oc (c : Conf) (N : Int) : Conf := ⟨N, 1, c.m, 3, c.fresh, c.grace, c.window, c.t0, c.t1, c.t2, c.t3, c.tol, c.min, c.max, c.calmup, c.calmdown, c.podsup, c.pctup, c.podsdown, c.pctdown, c.period, c.far, c.strikes, c.probe, c.sectors, c.seed⟩
theorem oc_none {c : Conf} (h : Fine c) {N : Int} (n0 : 4 ≤ N) (n1 : N ≤ 10) : st22 (oc c N) = none := by
  have p1 : cwithin (oc c N).n 1 16 = true := cwithin_in (by show 1 ≤ N ∧ N ≤ 16; omega)
  have p2 : cwithin (oc c N).f 0 (wrap64 ((wrap64 ((oc c N).n - 1)).tdiv 3)) = true := by
    show cwithin 1 0 (wrap64 ((wrap64 (N - 1)).tdiv 3)) = true
    rw [third (n := N) (by omega) (by omega)]; simp; omega
  have p4 : cwithin (oc c N).quorum (wrap64 (wrap64 (2 * (oc c N).f) + 1)) (oc c N).n = true := by
    show cwithin 3 (wrap64 (wrap64 (2 * 1) + 1)) N = true
    rw [lo_is (f := 1) (by decide)]; exact cwithin_in (by omega)
  exact (ok22 (ok21 (ok20 (ok19 (ok18 (ok17 (ok16 (ok15 (ok14 (ok13 (ok12 (ok11 (ok10 (ok9 (ok8 (ok7 (ok6 (ok5 (ok4 (ok3 (ok2 (ok1 (c := oc c N) p1) p2) (by have := part3 h; exact this)) p4) (by have := part5 h; exact this)) (by have := part6 h; exact this)) (by have := part7 h; exact this)) (by have := part8 h; exact this)) (by have := part9 h; exact this)) (by have := part10 h; exact this)) (by have := part11 h; exact this)) (by have := part12 h; exact this)) (by have := part13 h; exact this)) (by have := part14 h; exact this)) (by have := part15 h; exact this)) (by have := part16 h; exact this)) (by have := part17 h; exact this)) (by have := part18 h; exact this)) (by have := part19 h; exact this)) (by have := part20 h; exact this)) (by have := part21 h; exact this)) (by have := part22 h; exact this))
theorem gnew_out {c : Conf} (h : Fine c) {N : Int} (n0 : 4 ≤ N) (n1 : N ≤ 10) (w : World) : Calls Tryz.prog 10 #[cf (oc c N)] w (MadeG w (.new (sdOf c) N.toNat c.grace.toNat c.window.toNat c.m.toNat c.fresh.toNat)) := by
  have hg := h.grace; have hw := h.window; have hm := h.m; have hr := h.fresh
  exact gnew_ok (oc c N) (sdOf c) N.toNat c.grace.toNat c.window.toNat c.m.toNat c.fresh.toNat (oc_none h n0 n1) (by show N = _; omega) (by show c.grace = _; omega) (by show c.window = _; omega) (by show c.m = _; omega) (by show c.fresh = _; omega) (seed_q h.seed)
    (by omega) (by omega) (by omega) (by omega) (by omega) (by omega) (by omega) (by omega) (by omega) (by omega) w
theorem chk {c : Conf} (h : Fine c) {N : Int} (n0 : 4 ≤ N) (n1 : N ≤ 10) {k : Int} (k0 : 0 ≤ k) (k1 : k < N) (o : Int → Bool) :
    (Gt.new (sdOf c) N.toNat c.grace.toNat c.window.toNat c.m.toNat c.fresh.toNat).check (sealOf (ofOf (sdOf c) k 0).a (ofOf (sdOf c) k 0).b (frst k 0 1)) 0 o = if o k = true then (zeroM, 3) else (frst k 0 1, 0) := by
  have hm := h.m; have hr := h.fresh
  rw [first_of (sdOf c) N.toNat c.grace.toNat c.window.toNat c.m.toNat c.fresh.toNat (by omega) k 0 1 0 o k0 (by omega) (by omega) (by decide) (by decide) (by decide) (by decide)]
  split
  · rfl
  · rw [if_pos (by omega)]
set_option maxHeartbeats 6400000 in
theorem rest (c : Conf) (FN : Fine c) (N : Int) (n0 : 4 ≤ N) (n1 : N ≤ 10) : True := trivial
set_option maxHeartbeats 6400000 in
theorem walk (l : List Int) (p : Option Addr) (cap : Nat) (who : Int) {w : World} (hl : IntsAt w (.slice p l.length cap) l) :
    Calls Tryz.prog 8 #[.slice p l.length cap, .int .i64 who] w fun e w' => e = .returned (.bool true) ∧ w.grownBy w' none := by
  have HF := hid (fit_any l p cap w hl); clear hl
  go_enter Tryz.func8, Tryz.ntmps8
  go_wp2_with fail
  refine HF.out.mono ?_
  rintro e w1 ⟨c, rfl, hfine, hg⟩
  have G1 := hid hg; have FN := hid hfine; clear hg HF hfine
  go_upto_region 2 with (refine wpList_store_new (w := w1) (cs := c.cells) rfl (by kernel_rfl) (by kernel_rfl) (by kernel_rfl) rfl rfl rfl rfl rfl ?_)
  have C1 := hid (cfx_new c G1.out)
  have hlow : w.heap.size ≤ w1.heap.size := gb_size G1.out
  clear G1
  refine wp_gen (fun wx => Cfx w w1.heap.size c wx) C1.out ?_
  clear C1
  generalize w1.heap.size = x at hlow ⊢
  have HLOW := hid hlow; clear hlow
  intro w2 h2
  have C2 := hid h2; clear h2
  have c0 : w2.cell? ⟨x, 0, none⟩ = some (.int .i64 c.n) := at_cell C2.out.box 0
  have c1 : w2.cell? ⟨x, 1, none⟩ = some (.int .i64 c.f) := at_cell C2.out.box 1
  have c3 : w2.cell? ⟨x, 3, none⟩ = some (.int .i64 c.quorum) := at_cell C2.out.box 3
  have f0 : w2.frozen? ⟨x, 0, none⟩ = false := at_free C2.out.box 0
  have f1 : w2.frozen? ⟨x, 1, none⟩ = false := at_free C2.out.box 1
  have f3 : w2.frozen? ⟨x, 3, none⟩ = false := at_free C2.out.box 3
  have hnf := FN.out.n
  have hff := FN.out.f
  have hn10 : c.n ≤ 10 := by omega
  have hn1 : 1 ≤ c.n := by omega
  clear hnf hff
  obtain ⟨n, hnn⟩ : ∃ n, c.n = n := ⟨_, rfl⟩
  rw [hnn] at c0 hn10 hn1
  have HXN : ∀ N : Int, Hid (Cfx w x (oc c N) (((w2.setCell ⟨x, 1, none⟩ (.int .i64 1)).setCell ⟨x, 0, none⟩ (.int .i64 N)).setCell ⟨x, 3, none⟩ (.int .i64 3))) := fun N => hid ⟨by have := at_set (at_set (at_set C2.out.box 1 (.int .i64 1)) 0 (.int .i64 N)) 3 (.int .i64 3); exact this, gb_new (gb_new (gb_new C2.out.g HLOW.out _) HLOW.out _) HLOW.out _⟩
  clear hnn
  obtain ⟨N, hN⟩ : ∃ N : Int, max n 4 = N := ⟨_, rfl⟩
  have n0 : 4 ≤ N := by omega
  have hn10' : N ≤ 10 := by omega
  clear hn10 hn1
  have K0 := HXN N
  clear HXN
  go_upto_region 3 with fail
  refine wp_gen (fun wx => Cfx w x (oc c N) wx) K0.out ?_
  clear K0 c0 c1 c3 f0 f1 f3 C2 hN
  intro w3 h3
  have C3 := hid h3; clear h3
  obtain ⟨k, k0, k1, ek⟩ := umod_int who (N).toNat (by omega)
  rw [Int.toNat_of_nonneg (by omega)] at k1 ek
  have sN : IntKind.u64.wrap N = N := by show N % 18446744073709551616 = N; omega
  have sk : IntKind.i64.wrap k = k := IntWalk.i64_in _ (by omega)
  have c0' : w3.cell? ⟨x, 0, none⟩ = some (.int .i64 N) := at_cell C3.out.box 0
  have TO := hid (fun o => chk FN.out n0 hn10' k0 k1 o)
  have SA := hid (fun u b (h : SlAt 145 u b (.new (sdOf c) k)) => first_samp (sd := sdOf c) (who := k) (e := 0) (v := 1) k0 (by omega) (by decide) (by decide) (by decide) (by decide) h)
  have GN := hid (fun u => gnew_out FN.out n0 hn10' u)
  have SN := hid (fun u => snew_fine FN.out k k0 (by omega) u)
  generalize sealOf (ofOf (sdOf c) k 0).a (ofOf (sdOf c) k 0).b (frst k 0 1) = ls at TO SA
  generalize (Gt.new (sdOf c) (N).toNat c.grace.toNat c.window.toNat c.m.toNat c.fresh.toNat) = gg at TO GN
  generalize Sl.new (sdOf c) k = s0 at SA SN
  generalize (⟨sdOf c, k, 0, 1⟩ : Sl) = s1 at SA
  go_wp2_with (refine wpList_conf C3.out.box rfl rfl rfl rfl ?_)
  refine (GN.out _).mono ?_
  rintro e4 w4 ⟨F, B, rfl, hk, hg, hlo⟩
  have K4 := hid hk; have HLO := hid (show ∀ y ∈ F, w.heap.size ≤ y from fun y hy => Nat.le_trans (gb_size C3.out.g) (hlo y hy)); have HXF := hid (show x ∉ F from fun h => by have := hlo _ h; have := at_lt C3.out.box; omega); have C4 := hid (C3.out.grown hg); clear hk hg hlo C3 c0' GN
  have c0' : w4.cell? ⟨x, 0, none⟩ = some (.int .i64 N) := at_cell C4.out.box 0
  have c25 : w4.cell? ⟨x, 25, none⟩ = some (.int .u64 c.seed) := at_cell C4.out.box 25
  go_wp2_with fail
  refine (SN.out _).mono ?_
  rintro e5 w5 ⟨b, rfl, hs, hg, hbz⟩
  have K5 := hid (kv_conf (w := w) (w1 := w) (K4.out.grown hg) hs HLO.out (Nat.le_trans (gb_size C4.out.g) hbz) (fun h => by have := K4.out.lt _ h; omega) HXF.out (gb_trans C4.out.g hg (.inl rfl)) (at_grown C4.out.box hg (by simp))); clear hs hg hbz K4 HLO HXF C4 c0' c25 SN
  go_wp2_with fail
  refine (SA.out _ _ K5.out.ob).mono ?_
  rintro e6 w6 ⟨v, rfl, ho, hs, hc⟩
  have K6 := hid (K5.out.sealed ho hs hc).tail; clear ho hs hc K5 SA
  by_cases hk2 : k = 2
  · have dk : (k == 2) = true := by simpa using hk2
    have T1 := hid (TO.out (fun x => x == 2))
    have T2 := hid (TO.out nobody)
    have T1' : gg.check ls 0 (fun x => x == 2) = (zeroM, 3) := T1.out.trans (if_pos (by simpa using hk2))
    have T2' : gg.check ls 0 nobody = (frst k 0 1, 0) := T2.out.trans (if_neg (by simp [nobody]))
    have U1 := hid T1'; have U2 := hid T2'; clear T1 T2 T1' T2' TO
    have dk' : (k != 2) = false := by simp [hk2]
    clear hk2
    go_wp2_with fail
    refine (tv_checkO rfl _ _ 0 _ _ U1.out (by decide) _ K6.out.gt K6.out.y0).mono ?_
    rintro e7 w7 ⟨rfl, hg⟩
    have K7 := hid ((K6.out.grown hg).alloc (msgObj (zeroM))).tail; clear hg K6 U1
    go_upto_region 10 with fail
    refine wp_gen (fun wx => Kv w F B gg b s1 [] [(v, ls)] wx) K7.out ?_
    clear K7
    intro w8 h8
    have K8 := hid h8; clear h8
    go_wp2_with fail
    refine (tv_check rfl _ _ 0 _ _ U2.out (by decide) _ K8.out.gt K8.out.y0).mono ?_
    rintro e9 w9 ⟨rfl, hg⟩
    have K9 := hid ((K8.out.grown hg).alloc (msgObj (frst k 0 1))).tail; clear hg K8 U2
    go_upto_region 11 with fail
    refine wp_gen (fun wx => Kv w F B gg b s1 [] [(v, ls)] wx) K9.out ?_
    clear K9
    intro w10 h10
    have K10 := hid h10; clear h10
    go_wp2_with fail
    refine (vtold_any _).mono ?_
    rintro e11 w11 ⟨rfl, hg⟩
    have G11 := hid (K10.out.grown hg).g; clear hg K10
    go_wp2_with fail
    go_ret
    exact ⟨rfl, G11.out⟩
  · have dk : (k == 2) = false := by simpa using hk2
    have T1 := hid (TO.out (fun x => x == 2))
    have T2 := hid (TO.out nobody)
    have T1' : gg.check ls 0 (fun x => x == 2) = (frst k 0 1, 0) := T1.out.trans (if_neg (by simpa using hk2))
    have T2' : gg.check ls 0 nobody = (frst k 0 1, 0) := T2.out.trans (if_neg (by simp [nobody]))
    have U1 := hid T1'; have U2 := hid T2'; clear T1 T2 T1' T2' TO
    have dk' : (k != 2) = true := by simp [hk2]
    clear hk2
    go_wp2_with fail
    refine (tv_checkO rfl _ _ 0 _ _ U1.out (by decide) _ K6.out.gt K6.out.y0).mono ?_
    rintro e7 w7 ⟨rfl, hg⟩
    have K7 := hid ((K6.out.grown hg).alloc (msgObj (frst k 0 1))).tail; clear hg K6 U1
    go_upto_region 10 with fail
    refine wp_gen (fun wx => Kv w F B gg b s1 [] [(v, ls)] wx) K7.out ?_
    clear K7
    intro w8 h8
    have K8 := hid h8; clear h8
    go_wp2_with fail
    refine (tv_check rfl _ _ 0 _ _ U2.out (by decide) _ K8.out.gt K8.out.y0).mono ?_
    rintro e9 w9 ⟨rfl, hg⟩
    have K9 := hid ((K8.out.grown hg).alloc (msgObj (frst k 0 1))).tail; clear hg K8 U2
    go_upto_region 11 with fail
    refine wp_gen (fun wx => Kv w F B gg b s1 [] [(v, ls)] wx) K9.out ?_
    clear K9
    intro w10 h10
    have K10 := hid h10; clear h10
    go_wp2_with fail
    refine (vtold_any _).mono ?_
    rintro e11 w11 ⟨rfl, hg⟩
    have G11 := hid (K10.out.grown hg).g; clear hg K10
    go_wp2_with fail
    go_ret
    exact ⟨rfl, G11.out⟩
end Go.Proofs.YtfhifnhnkgdnlaaGreat.vout
