/-
  What is read of any bytes: it is told again within bounds. No condition.
  Contract for package state: whether a decision can come of no epoch. The condition: the state lies there.
  Contracts for package state: whether a decision can come of no epoch, whether one of a row can; what no part asks by itself. The condition: the state lies there.
-/
import Derived.Test.YtecggbndlbkhdaaGreatJ0
import Derived.Test.YtecggbndlbkhdaaGreatY42
import Derived.Test.YtecggbndlbkhdaaGreatY31
import Derived.Test.YtecggbndlbkhdaaGreatY19
import Derived.Test.YtecggbndlbkhdaaGreatY34
import Derived.Deep.RegionHeld3
section
set_option linter.unusedSimpArgs false
set_option linter.unusedVariables false
namespace Go.Proofs.YtecggbndlbkhdaaGreat
set_option maxRecDepth 100000
open Go.RowKit

theorem Ste.setSa_rest (c : Conf) (s : Ste) (B : List UInt8) (k : Nat) : (s.setSa c B k).p = s.p ∧ (s.setSa c B k).g = s.g ∧ (s.setSa c B k).s = s.s ∧ (s.setSa c B k).l = s.l ∧ (s.setSa c B k).ds = s.ds := by
  induction k with
  | zero => exact ⟨rfl, rfl, rfl, rfl, rfl⟩
  | succ k ih => exact ih
theorem Ste.setDe_rest (s : Ste) (B : List UInt8) (k : Nat) : (s.setDe B k).p = s.p ∧ (s.setDe B k).g = s.g ∧ (s.setDe B k).s = s.s ∧ (s.setDe B k).l = s.l ∧ (s.setDe B k).t = s.t ∧ (s.setDe B k).now = s.now := by
  induction k with
  | zero => exact ⟨rfl, rfl, rfl, rfl, rfl, rfl⟩
  | succ k ih => exact ih
/-- samples of one epoch on, each at a place of its own -/
def TbOk (c : Conf) (now : Int) (L : List Sm) : Prop := Srt L ∧ ∀ x ∈ L, (0 ≤ x.who ∧ x.who < c.n ∧ 0 ≤ x.met ∧ x.met < c.m ∧ 0 ≤ x.val ∧ x.val ≤ 1099511627776) ∧ (now ≤ x.ep ∧ x.ep - now < c.fresh)
theorem putT_ok {c : Conf} {now : Int} {L : List Sm} (h : TbOk c now L) (x : Sm) : TbOk c now (putT c.n c.m c.fresh L x now) := by
  unfold putT
  split
  · next hm =>
    have hT := mayT_none hm
    exact ⟨h.1.ins hT.2.2, fun y hy => by
      rcases mem_ins.1 hy with rfl | hy
      · exact ⟨hT.1, hT.2.1⟩
      · exact h.2 y hy⟩
  · exact h
theorem setSa_ok {c : Conf} {s : Ste} (h : TbOk c s.now s.t) (B : List UInt8) (k : Nat) : TbOk c s.now (s.setSa c B k).t := by
  induction k with
  | zero => exact h
  | succ k ih =>
    have := putT_ok ih (smR (B.drop (32 * k)))
    show TbOk c s.now (putT c.n c.m c.fresh (s.setSa c B k).t (smR (B.drop (32 * k))) (s.setSa c B k).now)
    rw [Ste.setSa_now]
    exact this
/-- a decision that may be -/
def okDc (c : Conf) (d : Dc) : Bool := (decide (0 ≤ d.ep) && decide (d.ep ≤ 1099511627776)) && ((decide (c.min ≤ d.rep) && decide (d.rep ≤ c.max)) && ((decide (0 ≤ d.want) && decide (d.want ≤ 1000000)) && [d.v0, d.v1, d.v2, d.v3].all okN))
/-- what no part asks by itself -/
def Ste.mayB (c : Conf) (s : Ste) : Bool := (decide (0 ≤ s.now) && decide (s.now ≤ 1099511627776)) && (decide (s.l.n = s.l.po.l.getLastD 0) && s.ds.all (okDc c))
/-- all that is read is told again within these bounds -/
structure Ste.Fit (c : Conf) (n : Nat) (E : Ste) : Prop where
  pn : E.p.n = n
  gn : n ≤ E.g.r.n
  sn : n ≤ E.s.H.length
  ca : E.l.ca.l.length ≤ 100
  po : E.l.po.l.length ≤ 100
  ne : E.l.po.l ≠ []
  t : E.t.length ≤ 512
  ds : E.ds.length ≤ 64
theorem setAll_fit {c : Conf} {s0 : Ste} (hO : SuOf c s0) {lf : Int → Option La} (B : List UInt8) {W : World} {X : SBl} (hK : StAt W X c (s0.setAll c s0.p.n lf B)) : Ste.Fit c s0.p.n (s0.setAll c s0.p.n lf B) := by
  have hb := hO.base
  have ht := hO.tie
  have hz := hO.zero
  have hok := hK.law.ok
  have hca := hok.ca
  have h1 := hca.n; have h2 := hca.u; have h3 := hca.d
  have hpo := hok.po
  have h4 := hpo.n; have h5 := hpo.r.per
  have hne := hpo.ne
  have hm : (s0.setAll c s0.p.n lf B).l.ca.most ≤ 100 := by unfold Ca.most; omega
  refine ⟨?_, ?_, ?_, by omega, by omega, hne, ?_, ?_⟩
  · unfold Ste.setAll
    rw [(Ste.setDe_rest _ _ _).1, (Ste.setSa_rest _ _ _ _).1]
    show (Ste.setCos _ _ _).p.n = _
    rw [(Ste.setCos_rest _ _ _).2.2.2.2]
  · unfold Ste.setAll
    rw [(Ste.setDe_rest _ _ _).2.1, (Ste.setSa_rest _ _ _ _).2.1]
    show _ ≤ (Ste.setCos _ _ _).g.r.n
    rw [Ste.setCos_n]
    show s0.p.n ≤ s0.g.r.n
    rw [ht.gn]
    exact Nat.le_refl _
  · unfold Ste.setAll
    rw [(Ste.setDe_rest _ _ _).2.2.1, (Ste.setSa_rest _ _ _ _).2.2.1]
    show _ ≤ (Ste.setCos _ _ _).s.H.length
    rw [Ste.setCos_h]
    show s0.p.n ≤ s0.s.H.length
    rw [hb.ok.sl]
    exact Nat.le_refl _
  · unfold Ste.setAll
    rw [(Ste.setDe_rest _ _ _).2.2.2.2.1]
    have hq : TbOk c ((({ s0 with now := nx B } : Ste).setCos (B.drop 8) s0.p.n).setLa lf ((B.drop 8).drop (72 * s0.p.n))).now ((({ s0 with now := nx B } : Ste).setCos (B.drop 8) s0.p.n).setLa lf ((B.drop 8).drop (72 * s0.p.n))).t := by
      have e : ((({ s0 with now := nx B } : Ste).setCos (B.drop 8) s0.p.n).setLa lf ((B.drop 8).drop (72 * s0.p.n))).t = [] := by
        show (Ste.setCos _ _ _).t = []
        rw [(Ste.setCos_rest _ _ _).2.1]
        exact hz.2.1
      rw [e]
      exact ⟨Srt.nil, fun x hx => by cases hx⟩
    have hk := setSa_ok hq (((pastL (pastL ((B.drop 8).drop (72 * s0.p.n)))).drop 8).drop 8) (itN ((pastL (pastL ((B.drop 8).drop (72 * s0.p.n)))).drop 8) 4)
    refine srt_len (now := ((({ s0 with now := nx B } : Ste).setCos (B.drop 8) s0.p.n).setLa lf ((B.drop 8).drop (72 * s0.p.n))).now) hk.1 fun x hx => ?_
    have g1 := hk.2 x hx
    have g2 := hb.ok.pb
    have g3 := hb.fr
    have g4 := hO.n; have g5 := hO.m; have g6 := hO.fr
    omega
  · refine Ste.setDe_len _ _ ?_ _
    rw [(Ste.setSa_rest _ _ _ _).2.2.2.2]
    show (Ste.setCos _ _ _).ds.length ≤ 64
    rw [(Ste.setCos_rest _ _ _).2.2.1]
    show s0.ds.length ≤ 64
    rw [hz.2.2]
    exact Nat.zero_le _
/-- a state that may be, may be so too -/
theorem Ste.Ok.mayB {c : Conf} {s0 s : Ste} (hmn : s0.l.po.r.mn = c.min) (hmx : s0.l.po.r.mx = c.max) (h : Ste.Ok s0 s) : s.mayB c = true := by
  unfold Ste.mayB okDc okN
  simp only [Bool.and_eq_true, decide_eq_true_iff, List.all_eq_true, List.mem_cons, List.not_mem_nil, or_false]
  refine ⟨⟨h.n0, h.n1⟩, ?_, fun d hd => ?_⟩
  · have := h.ll
    rw [List.getLastD_eq_getLast?, this]; rfl
  · have g := h.d d hd
    have g2 := g.rep
    rw [hmn, hmx] at g2
    refine ⟨g.ep, g2, g.want, fun v hv => ?_⟩
    rcases hv with rfl | rfl | rfl | rfl
    · exact g.v0
    · exact g.v1
    · exact g.v2
    · exact g.v3
end Go.Proofs.YtecggbndlbkhdaaGreat
end
section
set_option linter.unusedSimpArgs false
set_option linter.unusedVariables false
namespace Go.Proofs.YtecggbndlbkhdaaGreat
set_option maxRecDepth 100000
open Go.RowKit

theorem darr_h (b o : Nat) (u : World) : (Instr.sliceAt 24 (.pointer (some ⟨b, o, none⟩)) none none none).run Tryz.prog u = .ok (.slice (some ⟨b, o, none⟩) 4 4) u := by
  rw [run_sliceAt_array_all (P := Tryz.prog) u 24 ⟨b, o, none⟩ (by kernel_rfl), tarr_elem, tsize_i64, tarr_len]
  simp [slicedAt, Result.andThen, Addr.add]
set_option maxHeartbeats 3200000 in
theorem iswrong_any {w : World} {X : SBl} {c : Conf} {s : Ste} (h : StAt w X c s) (d : Dc) :
    Calls Tryz.prog 182 #[.pointer (some ⟨X.b, 0, none⟩), dcV d] w fun e w' => e = .returned (.bool (!okDc c d)) ∧ w.grownBy w' none := by
  have K0 := at_new w (dcObj d)
  have f0 := at_cell K0 0; have f1 := at_cell K0 1; have f2 := at_cell K0 2
  obtain ⟨-, -, -, -, c12, c13⟩ := (h.alloc (dcObj d)).conf
  have HG := hid (gb_alloc (.refl w none) (dcObj d))
  have IT := hid (show IntsAt (w.alloc (dcObj d)) (.slice (some ⟨w.heap.size, 4, none⟩) 4 4) [d.v0, d.v1, d.v2, d.v3] from .inr ⟨⟨w.heap.size, 4, none⟩, 4, rfl, by simp, by simp [maxLen], fun i hi => by
    have h4 : i < 4 := hi
    rw [iadd_at, at_cell K0]
    rcases i with _ | _ | _ | _ | i <;> first | rfl | omega⟩)
  unfold okDc
  have H1 := hid (fun u => within64 d.ep 0 1099511627776 u)
  have H2 := hid (fun u => withinI d.rep c.min c.max u)
  have H3 := hid (fun u => withinI d.want 0 1000000 u)

  have H4 := hid (fun (u : World) (hu : IntsAt u (.slice (some ⟨w.heap.size, 4, none⟩) 4 4) [d.v0, d.v1, d.v2, d.v3]) => ncontains_any (.slice (some ⟨w.heap.size, 4, none⟩) 4 4) [d.v0, d.v1, d.v2, d.v3] u hu)
  obtain ⟨vl, hvl⟩ : ∃ vl, [d.v0, d.v1, d.v2, d.v3] = vl := ⟨_, rfl⟩
  rw [hvl] at IT H4 ⊢
  clear hvl
  have hs := fun u => darr_h w.heap.size 4 u
  generalize (decide (0 ≤ d.ep) && decide (d.ep ≤ 1099511627776)) = b1 at *
  generalize (decide (c.min ≤ d.rep) && decide (d.rep ≤ c.max)) = b2 at *
  generalize (decide (0 ≤ d.want) && decide (d.want ≤ 1000000)) = b3 at *
  generalize vl.all okN = b4 at *
  clear h K0
  go_enter Tryz.func182, Tryz.ntmps182
  go_wp2_with fail
  cases b1
  · go_quiet (first | (go_at_call 180; exact Calls.quiet_of_same (still_of (H1.out _))))
    go_wp2_with fail
    go_ret
    exact ⟨rfl, gb_trans HG.out ⟨rfl, rfl, rfl, Nat.le_refl _, fun _ _ _ => rfl⟩ (.inl rfl)⟩
  · cases b2
    · go_quiet (first | (go_at_call 180; exact Calls.quiet_of_same (still_of (H1.out _))) | (go_at_call 273; exact Calls.quiet_of_same (still_of (H2.out _))))
      go_wp2_with fail
      go_ret
      exact ⟨rfl, gb_trans HG.out ⟨rfl, rfl, rfl, Nat.le_refl _, fun _ _ _ => rfl⟩ (.inl rfl)⟩
    · cases b3
      · go_quiet (first | (go_at_call 180; exact Calls.quiet_of_same (still_of (H1.out _))) | (go_at_call 273; with_reducible first | exact Calls.quiet_of_same (still_of (H2.out _)) | exact Calls.quiet_of_same (still_of (H3.out _))))
        go_wp2_with fail
        go_ret
        exact ⟨rfl, gb_trans HG.out ⟨rfl, rfl, rfl, Nat.le_refl _, fun _ _ _ => rfl⟩ (.inl rfl)⟩
      · go_quiet (first | (go_at_call 180; exact Calls.quiet_of_same (still_of (H1.out _))) | (go_at_call 273; with_reducible first | exact Calls.quiet_of_same (still_of (H2.out _)) | exact Calls.quiet_of_same (still_of (H3.out _))) | (go_at_call 274; exact Calls.quiet_of_same (still_of (H4.out _ IT.out))))
        go_wp2_with fail
        go_ret
        exact ⟨rfl, gb_trans HG.out ⟨rfl, rfl, rfl, Nat.le_refl _, fun _ _ _ => rfl⟩ (.inl rfl)⟩
end Go.Proofs.YtecggbndlbkhdaaGreat
end
section
set_option linter.unusedSimpArgs false
set_option linter.unusedVariables false
namespace Go.Proofs.YtecggbndlbkhdaaGreat
set_option maxRecDepth 100000
open Go.RowKit

theorem dall_hit {c : Conf} {l : List Dc} {k : Nat} {x : Dc} (h : l[k]? = some x) (hx : okDc c x = false) : l.all (okDc c) = false := by
  obtain ⟨hk, rfl⟩ := List.getElem?_eq_some_iff.1 h
  cases hb : l.all (okDc c) with
  | false => rfl
  | true => rw [List.all_eq_true] at hb; rw [hb _ (List.getElem_mem hk)] at hx; cases hx
theorem dall_none {c : Conf} {l : List Dc} (h : ∀ (i : Nat) (x : Dc), i < l.length → l[i]? = some x → okDc c x = true) : l.all (okDc c) = true := by
  rw [List.all_eq_true]
  intro x hx
  obtain ⟨i, hi, rfl⟩ := List.mem_iff_getElem.1 hx
  exact h i _ hi (List.getElem?_eq_getElem hi)
@[reducible] def wrF (b : Nat) : Value := .func (.func 182) #[.pointer (some ⟨b, 0, none⟩)] #[]
set_option maxHeartbeats 1600000 in
theorem dindex_any {X : SBl} {c : Conf} {s : Ste} {w : World} (hK : StAt w X c s) :
    Calls Tryz.prog 272 #[X.d, wrF X.b] w fun e w' => (∃ r : Int, e = .returned (.int .i64 r) ∧ decide (0 ≤ r) = !(s.ds.all (okDc c))) ∧ w.grownBy w' none := by
  have HK := hid hK
  obtain ⟨p, cp, hd⟩ := hK.decs.form
  rw [hd]
  have HD := hid hd
  obtain ⟨n, hn⟩ : ∃ n, s.ds.length = n := ⟨_, rfl⟩
  have HN := hid hn
  have hlen := hK.decs.reads.len
  rw [hn] at hlen HD ⊢
  unfold maxLen at hlen
  clear hK hn hd
  go_enter Tryz.func272, Tryz.ntmps272
  go_wp2_with fail
  go_loopw [5, 8] (fun _ i wr => ∃ k : Nat, k ≤ n ∧ i = .int .i64 (k : Int) ∧ (∀ (j : Nat) (x : Dc), j < k → s.ds[j]? = some x → okDc c x = true) ∧ w.grownBy wr none) (fun _ i _ => n - (intOf i).toNat)
  case atStart => exact ⟨0, Nat.zero_le _, rfl, fun j x hj => absurd hj (Nat.not_lt_zero _), .refl w none⟩
  case round =>
    obtain ⟨k, hk, rfl, ha, hgr⟩ := hrel
    have HA := hid ha; have HGR := hid hgr
    clear ha hgr
    by_cases hlt : k < n
    · have hkl : k < s.ds.length := by rw [HN.out]; exact hlt
      have hDS := (HK.out.grown HGR.out).decs.reads
      rw [HD.out] at hDS
      obtain ⟨ab, ao, rfl, -, hcc, e0, e1, e2, e3, e4, e5, e6, e7⟩ := hDS.cells hkl
      clear hDS
      have hx := List.getElem?_eq_getElem hkl
      generalize s.ds[k] = y at *
      have HX := hid hx; clear hx
      have HB := hid (iswrong_any (HK.out.grown HGR.out) y)
      cases hy : okDc c y with
      | false =>
        rw [hy] at HB
        have HALL := hid (dall_hit HX.out hy)
        clear hy
        go_wp2_with fail
        refine HB.out.mono ?_
        rintro e w1 ⟨rfl, hg⟩
        have G1 := hid (gb_trans HGR.out hg (.inl rfl)); clear hg
        go_wp2_with fail
        go_ret
        exact ⟨⟨_, rfl, by rw [HALL.out]; simp⟩, G1.out⟩
      | true =>
        rw [hy] at HB
        have HY := hid hy
        clear hy
        go_wp2_with fail
        refine HB.out.mono ?_
        rintro e w1 ⟨rfl, hg⟩
        have G1 := hid (gb_trans HGR.out hg (.inl rfl)); clear hg
        go_wp2_with fail
        go_roundw
        case rel => exact ⟨k + 1, by omega, by go_num, fun j x hj hjx => by
          rcases Nat.lt_or_ge j k with h1 | h1
          · exact HA.out j x h1 hjx
          · obtain rfl : j = k := by omega
            rw [HX.out] at hjx; cases hjx; exact HY.out, G1.out⟩
        case measure => simp [intOf]; omega
    · obtain rfl : k = n := by omega
      go_wp2_with fail
      go_ret
      exact ⟨⟨_, rfl, by rw [dall_none fun i x hi => HA.out i x (by rw [← HN.out]; exact hi)]; rfl⟩, HGR.out⟩
theorem dcontains_any {X : SBl} {c : Conf} {s : Ste} {w : World} (hK : StAt w X c s) :
    Calls Tryz.prog 181 #[X.d, wrF X.b] w fun e w' => e = .returned (.bool (!(s.ds.all (okDc c)))) ∧ w.grownBy w' none := by
  have C1 := hid (dindex_any hK)
  obtain ⟨p, cp, hd⟩ := hK.decs.form
  rw [hd] at C1 ⊢
  generalize s.ds.length = n at *
  generalize s.ds.all (okDc c) = b at *
  clear hK hd
  go_enter Tryz.func181, Tryz.ntmps181
  go_wp2_with fail
  refine C1.out.mono ?_
  rintro e w1 ⟨⟨r, rfl, hr⟩, hg⟩
  have HG := hid hg
  clear C1 hg
  go_wp2_with fail
  go_ret
  exact ⟨rfl, HG.out⟩
set_option maxHeartbeats 3200000 in
theorem mayb_any {w : World} {X : SBl} {c : Conf} {s : Ste} (h : StAt w X c s) (hp : s.l.po.l.length ≤ 100) :
    Calls Tryz.prog 89 #[.pointer (some ⟨X.b, 0, none⟩)] w fun e w' => e = .returned (.bool (s.mayB c)) ∧ w.grownBy w' none := by
  have hne := h.law.ok.po.ne
  obtain ⟨-, -, -, -, c4, -⟩ := h.cells
  have K0 := hid h
  have P0 := hid (lpolicy_any h.law)
  have P1 := hid (palls_any h.law.po)
  have W1 := hid (fun u => within64 s.now 0 1099511627776 u)
  unfold Ste.mayB
  generalize (decide (0 ≤ s.now) && decide (s.now ≤ 1099511627776)) = b1 at *
  obtain ⟨l, hl⟩ : ∃ l, s.l.po.l = l := ⟨_, rfl⟩
  rw [hl] at P1 hne hp ⊢
  obtain ⟨m, hm⟩ : ∃ m, l.length = m + 1 := ⟨l.length - 1, by have := List.length_pos_iff.2 hne; omega⟩
  have hx : l[m]? = some (l.getLastD 0) := by
    rw [List.getLastD_eq_getLast?, List.getLast?_eq_getElem?, hm, Nat.add_sub_cancel, List.getElem?_eq_getElem (by omega)]; rfl
  generalize l.getLastD 0 = x at *
  have HX := hid hx; have HM := hid hm
  have hm1 : IntKind.i64.wrap (((m + 1 : Nat) : Int) - 1) = (m : Int) := by rw [IntWalk.i64_in _ (by omega)]; omega
  have hm2 : IntKind.i64.wrap ((m : Int) + 1 - 1) = (m : Int) := by rw [IntWalk.i64_in _ (by omega)]; omega
  have hmb : m ≤ 100 := by omega
  have hm4 : (m : Int) < (m : Int) + 1 := by omega
  have hm3 : IntKind.i64.wrap (m : Int) = (m : Int) := IntWalk.i64_in _ (by omega)
  obtain ⟨z, hz⟩ : ∃ z, s.l.n = z := ⟨_, rfl⟩
  have HZ := hid hz
  rw [hz]
  obtain ⟨b2, hb2⟩ : ∃ b2, decide (z = x) = b2 := ⟨_, rfl⟩
  have HB2 := hid (show (z == x) = b2 by rw [← hb2]; by_cases e : z = x <;> simp [e])
  have DD := hid (fun (u : World) (hu : StAt u X c s) => dcontains_any hu)
  have LC := hid (fun (u : World) (hu : StAt u X c s) => (show Calls Tryz.prog 97 #[.pointer (some ⟨X.l.b, 0, none⟩)] u fun e w' => e = .returned (.int .i64 z) ∧ u = w' by have := lcount_any hu.law; rw [HZ.out] at this; exact this))
  generalize s.ds.all (okDc c) = b3 at *
  rw [hb2]
  clear h hne hl hm hx hp hz hb2
  go_enter Tryz.func89, Tryz.ntmps89
  go_wp2_with fail
  refine P0.out.mono ?_
  rintro e V1 ⟨rfl, rfl⟩
  clear P0
  go_wp2_with fail
  refine P1.out.mono ?_
  rintro e V2 ⟨⟨v, rfl, ho⟩, hg⟩
  clear P1
  have G0 := hid hg
  replace K0 := hid (K0.out.grown hg)
  have hi := ho.ints
  obtain ⟨p, cc, rfl⟩ := ho.form
  rw [HM.out] at hi ⊢
  obtain ⟨ab, ao, rfl, -, hcc, -⟩ := hi.cell (i := m) (by rw [HM.out]; omega)
  have hcell := hi.cell' HX.out
  have I0 := hid hi
  have M0 := hid (fun n => sunow_any (K0.out.grown (gbn (.refl V2 none) n)))
  have c4 := K0.out.cells.2.2.2.2.1
  have L0 := hid (fun n => LC.out _ (K0.out.grown (gbn (.refl V2 none) n)))
  clear ho hg hi
  cases b1
  · go_wp2_with fail
    go_quiet (first | (go_at_call 32; exact Calls.quiet_of_same (still_of (M0.out _))) | (go_at_call 180; exact Calls.quiet_of_same (still_of (W1.out _))))
    go_wp2_with fail
    go_ret
    exact ⟨rfl, gb_trans G0.out ⟨rfl, rfl, rfl, Nat.le_refl _, fun _ _ _ => rfl⟩ (.inl rfl)⟩
  · cases b2
    · have d2 := HB2.out
      go_wp2_with fail
      go_quiet (first | (go_at_call 32; exact Calls.quiet_of_same (still_of (M0.out _))) | (go_at_call 180; exact Calls.quiet_of_same (still_of (W1.out _))) | (go_at_call 97; exact Calls.quiet_of_same (still_of (L0.out _))))
      go_wp2_with fail
      go_ret
      exact ⟨rfl, gb_trans G0.out ⟨rfl, rfl, rfl, Nat.le_refl _, fun _ _ _ => rfl⟩ (.inl rfl)⟩
    · have d2 := HB2.out
      clear hcell c4 M0 L0
      go_wp2_with fail
      refine wp_region_held_drew (S := (fun w' => (w.grownBy w' none) ∧ (StAt w' X c s) ∧ (IntsAt w' (.slice (some ⟨ab, ao, none⟩) (m + 1) cc) l))) (by kernel_rfl) ⟨gb_drew G0.out, K0.out.drew, I0.out⟩ (fun hHeld => ?_)
      try dsimp only at hHeld
      refine jU 0 hHeld ?_
      try simp only [jX, jD, jE, jF]
      refine jR [1] ?_
      refine jG rfl (fun K hK => ?_) AllReadyH.nil
      try simp only [jD, jE, jF]
      go_simp
      have hH2 := hHeld
      obtain ⟨G, K, I⟩ := hH2
      refine ((grow_of (sunow_any K))).mono ?_
      rintro e w1001 ⟨rfl, hg⟩
      have L1 := hid (show (w.grownBy w1001 none) ∧ (StAt w1001 X c s) ∧ (IntsAt w1001 (.slice (some ⟨ab, ao, none⟩) (m + 1) cc) l) from ⟨gb_trans G hg (.inl rfl), K.grown hg, I.grown hg⟩)
      clear hHeld hg G K I
      go_wp2_with fail
      refine hK.out _ _ ?_ (fun hHeld => ?_)
      · exact L1.out
      clear hK K
      try dsimp only at hHeld
      try simp only [jX, jD, jE, jF]
      refine jR [2] ?_
      refine jG rfl (fun K hK => ?_) AllReadyH.nil
      try simp only [jD, jE, jF]
      go_simp
      have hH2 := hHeld
      obtain ⟨G, K, I⟩ := hH2
      refine ((grow_of (W1.out w1001))).mono ?_
      rintro e w1002 ⟨rfl, hg⟩
      have L2 := hid (show (w.grownBy w1002 none) ∧ (StAt w1002 X c s) ∧ (IntsAt w1002 (.slice (some ⟨ab, ao, none⟩) (m + 1) cc) l) from ⟨gb_trans G hg (.inl rfl), K.grown hg, I.grown hg⟩)
      clear hHeld hg G K I
      go_wp2_with fail
      refine hK.out _ _ ?_ (fun hHeld => ?_)
      · exact L2.out
      clear hK K
      try dsimp only at hHeld
      try simp only [jX, jD, jE, jF]
      refine jU 3 hHeld ?_
      try simp only [jX, jD, jE, jF]
      refine jU 4 hHeld ?_
      try simp only [jX, jD, jE, jF]
      refine jU 5 hHeld ?_
      try simp only [jX, jD, jE, jF]
      refine jU 6 hHeld ?_
      try simp only [jX, jD, jE, jF]
      refine' jT 7 rfl (by rfl) ?_ hHeld ?_
      rotate_left
      · (intro w hSw; (try dsimp only at hSw); obtain ⟨G, K, I⟩ := hSw; have k0 := K.cells.2.2.2.2.1; go_simp; try with_reducible rfl)
      try simp only [jX, jD, jE, jF]
      refine jU 9 hHeld ?_
      try simp only [jX, jD, jE, jF]
      refine jU 10 hHeld ?_
      try simp only [jX, jD, jE, jF]
      refine jU 11 hHeld ?_
      try simp only [jX, jD, jE, jF]
      refine jU 12 hHeld ?_
      try simp only [jX, jD, jE, jF]
      refine jU 13 hHeld ?_
      try simp only [jX, jD, jE, jF]
      refine' jT 14 rfl (by rfl) ?_ hHeld ?_
      rotate_left
      · (intro w hSw; (try dsimp only at hSw); obtain ⟨G, K, I⟩ := hSw; have k0 := I.cell' HX.out; go_simp; try with_reducible rfl)
      try simp only [jX, jD, jE, jF]
      refine jR [8] ?_
      refine jG rfl (fun K hK => ?_) AllReadyH.nil
      try simp only [jD, jE, jF]
      go_simp
      have hH2 := hHeld
      obtain ⟨G, K, I⟩ := hH2
      refine ((grow_of (LC.out _ K))).mono ?_
      rintro e w1008 ⟨rfl, hg⟩
      have L8 := hid (show (w.grownBy w1008 none) ∧ (StAt w1008 X c s) ∧ (IntsAt w1008 (.slice (some ⟨ab, ao, none⟩) (m + 1) cc) l) from ⟨gb_trans G hg (.inl rfl), K.grown hg, I.grown hg⟩)
      clear hHeld hg G K I
      go_wp2_with fail
      refine hK.out _ _ ?_ (fun hHeld => ?_)
      · exact L8.out
      clear hK K
      try dsimp only at hHeld
      try simp only [jX, jD, jE, jF]
      refine jU 15 hHeld ?_
      try simp only [jX, jD, jE, jF]
      refine jU 16 hHeld ?_
      try simp only [jX, jD, jE, jF]
      refine jU 17 hHeld ?_
      try simp only [jX, jD, jE, jF]
      refine jU 18 hHeld ?_
      try simp only [jX, jD, jE, jF]
      refine jU 19 hHeld ?_
      try simp only [jX, jD, jE, jF]
      refine jU 20 hHeld ?_
      try simp only [jX, jD, jE, jF]
      refine' jT 21 rfl (by rfl) ?_ hHeld ?_
      rotate_left
      · (intro w hSw; (try dsimp only at hSw); obtain ⟨G, K, I⟩ := hSw; have k0 := K.cells.2.2.2.2.2; go_simp; try with_reducible rfl)
      try simp only [jX, jD, jE, jF]
      refine jU 22 hHeld ?_
      try simp only [jX, jD, jE, jF]
      refine jU 23 hHeld ?_
      try simp only [jX, jD, jE, jF]
      refine jR [24] ?_
      refine jG rfl (fun K hK => ?_) AllReadyH.nil
      try simp only [jD, jE, jF]
      go_simp
      have hH2 := hHeld
      obtain ⟨G, K, I⟩ := hH2
      refine ((DD.out _ K)).mono ?_
      rintro e w1024 ⟨rfl, hg⟩
      have L24 := hid (show (w.grownBy w1024 none) ∧ (StAt w1024 X c s) ∧ (IntsAt w1024 (.slice (some ⟨ab, ao, none⟩) (m + 1) cc) l) from ⟨gb_trans G hg (.inl rfl), K.grown hg, I.grown hg⟩)
      clear hHeld hg G K I
      go_wp2_with fail
      refine hK.out _ _ ?_ (fun hHeld => ?_)
      · exact L24.out
      clear hK K
      try dsimp only at hHeld
      try simp only [jX, jD, jE, jF]
      refine jU 25 hHeld ?_
      try simp only [jX, jD, jE, jF]
      refine jU 26 hHeld ?_
      try simp only [jX, jD, jE, jF]
      refine jU 27 hHeld ?_
      try simp only [jX, jD, jE, jF]
      refine wpAnyH_done (by kernel_rfl) ?_ _
      obtain ⟨G, K, I⟩ := hHeld
      clear K I
      have G0 := hid G
      clear G
      go_wp2_with fail
      go_ret
      exact ⟨rfl, G0.out⟩
end Go.Proofs.YtecggbndlbkhdaaGreat
end
