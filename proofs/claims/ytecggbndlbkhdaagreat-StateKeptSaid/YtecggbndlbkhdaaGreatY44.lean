/-
  Contract for package state: From: what it makes of any bytes; of a state's own bytes it makes that state. The condition: the bytes read, and are not too many.
  Contracts for package state: all decisions; whether two know the same. The condition: the states lie there, of one configuration.
  A made configuration, with any Far and any number of sectors that may be: its state that nothing was done to, with what makes its parts. No condition.
-/
import Derived.Test.YtecggbndlbkhdaaGreatJ0
import Derived.Test.YtecggbndlbkhdaaGreatY43
import Derived.Test.YtecggbndlbkhdaaGreatY37
import Derived.Test.YtecggbndlbkhdaaGreatY16
import Derived.Test.YtecggbndlbkhdaaGreatY41
import Derived.Deep.RegionHeld3
import Derived.Test.YtecggbndlbkhdaaGreatY26
import Derived.Test.YtecggbndlbkhdaaGreatY36
section
set_option linter.unusedSimpArgs false
set_option linter.unusedVariables false
namespace Go.Proofs.YtecggbndlbkhdaaGreat
set_option maxRecDepth 100000
open Go.RowKit

theorem sufrom_nil {c : Conf} (h : ((st22 c).getD ⟨#[]⟩).toList.isEmpty = false) {v : Value} {B : List UInt8} {w : World} (hB : BytesAt w v B) :
    Calls Tryz.prog 30 #[cf c, v] w fun e w' => e = .returned (.tuple #[.pointer none, .int .i64 1]) ∧ w.grownBy w' none := by
  have K := hid (boxc_new w c)
  have NW := hid (fun u => sunew_nil h u)
  obtain ⟨p, cp, rfl⟩ := hB.form
  generalize B.length = n at *
  clear h hB
  go_enter Tryz.func30, Tryz.ntmps30
  go_wp2_with (refine wpList_conf K.out.box rfl rfl rfl rfl ?_)
  refine (NW.out _).mono ?_
  rintro e w1 ⟨rfl, hg⟩
  have G1 := hid (gb_trans K.out.g hg (.inl rfl)); clear hg NW
  go_wp2_with fail
  go_ret2
  exact ⟨rfl, G1.out⟩
/-- what From tells: the state that is read, if it tells these bytes, and may be -/
structure FromR (w : World) (c : Conf) (E : Ste) (B : List UInt8) (e : Ending) (w' : World) : Prop where
  yes : (pn E.nums == B && E.mayB c) = true → ∃ X : SBl, e = .returned (.tuple #[.pointer (some ⟨X.b, 0, none⟩), .int .i64 0]) ∧ Made19 w c E X w'
  no : (pn E.nums == B && E.mayB c) = false → e = .returned (.tuple #[.pointer none, .int .i64 2]) ∧ w.grownBy w' none
theorem fromr_no {w w' : World} {c : Conf} {E : Ste} {B : List UInt8} {e : Ending} (h : (pn E.nums == B && E.mayB c) = false) (he : e = .returned (.tuple #[.pointer none, .int .i64 2])) (hg : w.grownBy w' none) : FromR w c E B e w' := by
  exact ⟨fun h' => (by rw [h] at h'; cases h'), fun _ => ⟨he, hg⟩⟩
theorem fromr_yes {w w' : World} {c : Conf} {E : Ste} {B : List UInt8} {e : Ending} (h : (pn E.nums == B && E.mayB c) = true) (X : SBl) (he : e = .returned (.tuple #[.pointer (some ⟨X.b, 0, none⟩), .int .i64 0])) (hM : Made19 w c E X w') : FromR w c E B e w' := by
  exact ⟨fun _ => ⟨X, he, hM⟩, fun h' => by rw [h] at h'; cases h'⟩
set_option maxHeartbeats 3200000 in
theorem sufrom_any {w : World} {c : Conf} {s0 : Ste} (hO : SuOf c s0) {lf : Int → Option La} (hl : LawN c lf) {v : Value} {B : List UInt8} (hB : BytesAt w v B) (hlen : B.length ≤ 1000000) :
    Calls Tryz.prog 30 #[cf c, v] w (FromR w c (s0.setAll c s0.p.n lf B) B) := by
  have K := hid (boxc_new w c)
  have NW := hid (fun u => sunew_ok hO u)
  have HB := hid hB; have HL := hid hlen; have HLF := hid hl; have HO := hid hO
  obtain ⟨p, cp, rfl⟩ := hB.form
  obtain ⟨n, hn⟩ : ∃ n, B.length = n := ⟨_, rfl⟩
  have HN := hid hn
  rw [hn] at HB ⊢
  obtain ⟨E, hE⟩ : ∃ E, s0.setAll c s0.p.n lf B = E := ⟨_, rfl⟩
  rw [hE]
  have HE := hid hE
  clear hO hl hB hlen hn hE
  go_enter Tryz.func30, Tryz.ntmps30
  go_wp2_with (refine wpList_conf K.out.box rfl rfl rfl rfl ?_)
  refine (NW.out _).mono ?_
  rintro e w1 ⟨X, rfl, hM⟩
  have M1 := hid hM
  clear hM NW
  go_upto_region 4 with fail
  have G1 := hid (gb_trans K.out.g M1.out.gr (.inl rfl))
  have GC := hid (show GcK w w1.heap.size X c s0 B (w1.alloc (.cells #[.slice p n cp] 166)) from ⟨M1.out.st.alloc _, ⟨gb_alloc G1.out _, G1.out.size, _, at_new w1 _, HB.out⟩⟩)
  have OW := hid (show Own19 w w1.heap.size X from fun x hx => ⟨Nat.le_trans K.out.g.size (M1.out.lo x hx), Nat.ne_of_lt (M1.out.st.lt x hx)⟩)
  have GT := hid (suget_any GC.out OW.out HL.out HLF.out HO.out.n HO.out.tie.gn HO.out.base.ok.sl HO.out.zero.2.1 HO.out.zero.2.2 HO.out.base.ok.pb.1)
  rw [HE.out] at GT
  go_wp2_with fail
  refine GT.out.mono ?_
  rintro e w2 ⟨rfl, Y, eb, hT, hn⟩
  have KY := hid hT.1; have GY := hid hT.2.gr; have NY := hid hn; have EB := hid eb
  clear hT hn eb GT GC OW M1
  have F1 := hid (by have := setAll_fit HO.out (lf := lf) B (W := w2) (X := Y) (c := c) (by rw [HE.out]; exact KY.out); rw [HE.out] at this; exact this)
  have BY := hid (subytes_walk KY.out HO.out.n F1.out.pn HO.out.base.ok.pb.1 F1.out.gn F1.out.sn F1.out.ca F1.out.po F1.out.t F1.out.ds)
  rw [← EB.out]
  go_wp2_with fail
  refine BY.out.mono ?_
  rintro e w3 ⟨v3, rfl, ho, hg⟩
  have QB := hid (bequal_any _ _ _ _ w3 ho.bytes (HB.out.grown (gb_trans GY.out hg (.inl rfl)) (by simp)))
  have K3 := hid (KY.out.grown hg)
  have G3 := hid (gb_trans GY.out hg (.inl rfl))
  have MB := hid (mayb_any K3.out F1.out.po)
  obtain ⟨p3, k3, rfl⟩ := ho.form
  obtain ⟨b1, hb1⟩ : ∃ b1, (pn E.nums == B) = b1 := ⟨_, rfl⟩
  rw [hb1] at QB
  have HQ := hid hb1
  obtain ⟨b2, hb2⟩ : ∃ b2, E.mayB c = b2 := ⟨_, rfl⟩
  rw [hb2] at MB
  have HM := hid hb2
  generalize (pn E.nums).length = n3 at *
  clear hb1 hb2
  clear ho hg BY
  go_wp2_with fail
  refine QB.out.mono ?_
  rintro e w4 ⟨rfl, rfl⟩
  clear QB
  cases b1
  · go_wp2_with fail
    go_ret2
    exact fromr_no (by rw [HQ.out]; rfl) rfl G3.out
  · go_wp2_with fail
    refine MB.out.mono ?_
    rintro e w5 ⟨rfl, hg⟩
    have K5 := hid (K3.out.grown hg)
    have G5 := hid (gb_trans G3.out hg (.inl rfl))
    clear hg MB
    cases b2
    · go_wp2_with fail
      go_ret2
      exact fromr_no (by rw [HQ.out, HM.out]; rfl) rfl G5.out
    · go_wp2_with fail
      go_ret2
      exact fromr_yes (by rw [HQ.out, HM.out]; rfl) Y rfl ⟨K5.out, G5.out, fun x hx => (NY.out x hx).1⟩
/-- a state comes back from its bytes -/
theorem sufrom_own {w : World} {c : Conf} {s0 s : Ste} (hO : SuOf c s0) (h : Ste.Ok s0 s) {lf : Int → Option La} (hl : LawN c lf) (hlb : LawB s0 lf) (hmn : s0.l.po.r.mn = c.min) (hmx : s0.l.po.r.mx = c.max) {v : Value} (hB : BytesAt w v s.bytes) (hlen : s.bytes.length ≤ 1000000) :
    Calls Tryz.prog 30 #[cf c, v] w fun e w' => ∃ X : SBl, e = .returned (.tuple #[.pointer (some ⟨X.b, 0, none⟩), .int .i64 0]) ∧ Made19 w c s X w' := by
  refine (sufrom_any hO hl hB hlen).mono ?_
  intro e w' hf
  have e0 := setAll_own hO h hlb
  rw [e0] at hf
  exact hf.yes (by rw [pn_bytes hO h, h.mayB hmn hmx]; simp)
/-- of no bytes none is made -/
theorem sufrom_none {w : World} {c : Conf} {s0 : Ste} (hO : SuOf c s0) {lf : Int → Option La} (hl : LawN c lf) {v : Value} (hB : BytesAt w v []) :
    Calls Tryz.prog 30 #[cf c, v] w fun e w' => e = .returned (.tuple #[.pointer none, .int .i64 2]) ∧ w.grownBy w' none := by
  refine (sufrom_any hO hl hB (by simp)).mono ?_
  intro e w' hf
  have e0 : (pn (s0.setAll c s0.p.n lf []).nums == []) = false := by
    rw [nums_eq]
    rfl
  exact hf.no (by rw [e0]; rfl)
end Go.Proofs.YtecggbndlbkhdaaGreat
end
section
set_option linter.unusedSimpArgs false
set_option linter.unusedVariables false
namespace Go.Proofs.YtecggbndlbkhdaaGreat
set_option maxRecDepth 100000
open Go.RowKit

theorem dclone_any (v : Value) (l : List Dc) (w : World) (h : DAt w v l) (hl : l.length ≤ 64) :
    Calls Tryz.prog 111 #[v] w fun e w' => ∃ v', e = .returned v' ∧ OwnD w.heap.size w' v' l ∧ w.grownBy w' none := by
  rcases h with ⟨rfl, rfl⟩ | ⟨b, o, cap, rfl, h1, h2, h3⟩
  · have hnil := Lib.run_eql_slice_nil w 48 57 none 0 0 0 0 Tryz.underlying48
    go_enter Tryz.func111, Tryz.ntmps111
    go_wp2_with fail
    go_ret
    exact ⟨_, rfl, OwnD.nil _ _, .refl w none⟩
  · have HI := hid (show DAt w (.slice (some ⟨b, o, none⟩) l.length cap) l from .inr ⟨b, o, cap, rfl, h1, h2, h3⟩)
    have hnil := Lib.run_eql_slice_nil w 48 57 (some ⟨b, o, none⟩) l.length cap 0 0 Tryz.underlying48
    have HE := hid (OwnD.empty w)
    have HB := hid (HI.out.alloc (.cells #[] 57))
    have HL := hid hl
    clear h1 h2 h3 hl
    go_enter Tryz.func111, Tryz.ntmps111
    go_wp2_with (refine append_dc rfl _ _ rfl w.heap.size _ [] rfl HE.out _ l rfl HB.out (by have := HL.out; simp; omega) (gb_size (gb_alloc (.refl w none) _)) ?_; intro v' w' hown hgrow hat; have HO := hid hown; have HG := hid (gb_ownD (gb_alloc (.refl w none) _) HE.out (Nat.le_refl _) hgrow); clear hown hgrow hat)
    go_ret
    have hown := HO.out
    rw [List.nil_append] at hown
    exact ⟨_, rfl, hown, HG.out⟩
theorem sudecs_any {w : World} {X : SBl} {c : Conf} {s : Ste} (h : StAt w X c s) (hl : s.ds.length ≤ 64) :
    Calls Tryz.prog 37 #[.pointer (some ⟨X.b, 0, none⟩)] w fun e w' => ∃ v, e = .returned v ∧ OwnD w.heap.size w' v s.ds ∧ w.grownBy w' none := by
  obtain ⟨-, -, -, -, -, c5⟩ := h.cells
  have M0 := hid (sumade_any h)
  have D0 := hid (dclone_any X.d s.ds w h.decs.reads hl)
  obtain ⟨p, k, hd⟩ := h.decs.form
  rw [hd] at c5 D0
  generalize s.ds.length = n at *
  clear h hl hd
  go_enter Tryz.func37, Tryz.ntmps37
  go_wp2_with fail
  refine M0.out.mono ?_
  rintro e w2 ⟨rfl, rfl⟩
  clear M0
  go_wp2_with fail
  refine D0.out.mono ?_
  rintro e w3 ⟨v, rfl, ho, hg⟩
  have HO := hid ho; have HG := hid hg
  clear ho hg D0
  go_wp2_with fail
  go_ret
  exact ⟨_, rfl, HO.out, HG.out⟩
theorem four_same (a b c d : Int) (w : World) : (Op.equalIn 9999 24 (.agg #[.int .i64 a, .int .i64 b, .int .i64 c, .int .i64 d]) (.agg #[.int .i64 a, .int .i64 b, .int .i64 c, .int .i64 d])).run Tryz.prog w = .ok true w := by
  obtain ⟨i, hi⟩ := Option.isSome_iff_exists.1 (show (Tryz.prog.info? 2).isSome = true by kernel_rfl)
  have hp : (part 2 #[Value.int .i64 a, .int .i64 b, .int .i64 c, .int .i64 d] 0).run Tryz.prog w = .ok (.int .i64 a) w ∧ (part 2 #[Value.int .i64 a, .int .i64 b, .int .i64 c, .int .i64 d] 1).run Tryz.prog w = .ok (.int .i64 b) w ∧ (part 2 #[Value.int .i64 a, .int .i64 b, .int .i64 c, .int .i64 d] 2).run Tryz.prog w = .ok (.int .i64 c) w ∧ (part 2 #[Value.int .i64 a, .int .i64 b, .int .i64 c, .int .i64 d] 3).run Tryz.prog w = .ok (.int .i64 d) w := by
    simp [part, isAgg, run_underlying Tryz.underlying2]
  have he : ∀ x : Int, (Op.equalIn 9998 2 (.int .i64 x) (.int .i64 x)).run Tryz.prog w = .ok true w := fun x => by
    rw [run_equalIn_int w 9997 2 .i64 .i64 _ _ Tryz.underlying2]; simp
  rw [run_equalIn_array w 9998 _ _ Tryz.underlying24 hi, show Tryz.prog.cellsOf 2 = 1 by kernel_rfl]
  simp only [show List.range 4 = [0, 1, 2, 3] from rfl, Op.eqItems, Sem.run_bind, Nat.zero_mul, Nat.one_mul, Nat.mul_one, hp.1, hp.2.1, hp.2.2.1, hp.2.2.2, he, Result.andThen_ok, Bool.not_true, Bool.false_eq_true, if_false]
  simp
set_option maxHeartbeats 3200000 in
theorem conf_same (c : Conf) (w : World) : (Op.equalIn 10000 27 (cf c) (cf c)).run Tryz.prog w = .ok true w := by
  have h4 := four_same c.t0 c.t1 c.t2 c.t3 w
  rw [run_equalIn_agg w 9999 27 c.cells c.cells (by kernel_rfl) (by kernel_rfl)]
  simp [go_sem, h4]
theorem subytes_form {w : World} {X : SBl} {c : Conf} {s0 s : Ste} {bs : List UInt8} (hO : SuOf c s0) (hk : Ste.Ok s0 s) (h : StAt w X c s) (e : s.bytes = bs) :
    Calls Tryz.prog 31 #[.pointer (some ⟨X.b, 0, none⟩)] w fun e w' => ∃ p k, e = .returned (.slice p bs.length k) ∧ OwnB 0 w' (.slice p bs.length k) bs ∧ w.grownBy w' none := by
  subst e
  refine (subytes_any hO hk h).mono ?_
  rintro e w' ⟨v, h1, h2, h3⟩
  obtain ⟨p, k, rfl⟩ := h2.form
  exact ⟨p, k, h1, h2.le (Nat.zero_le _), h3⟩
set_option maxHeartbeats 3200000 in
theorem susame_any {w : World} {X Y : SBl} {c : Conf} {s0 s t : Ste} (hO : SuOf c s0) (hk : Ste.Ok s0 s) (hk' : Ste.Ok s0 t) (h : StAt w X c s) (h' : StAt w Y c t) :
    Calls Tryz.prog 27 #[.pointer (some ⟨X.b, 0, none⟩), .pointer (some ⟨Y.b, 0, none⟩)] w fun e w' => e = .returned (.bool (s.bytes == t.bytes)) ∧ w.grownBy w' none := by
  have KK := hid h; have LL := hid h'
  have hcs := fun u => conf_same c u
  obtain ⟨bs, hbs⟩ : ∃ bs, s.bytes = bs := ⟨_, rfl⟩
  obtain ⟨bt, hbt⟩ : ∃ bt, t.bytes = bt := ⟨_, rfl⟩
  rw [hbs, hbt]
  have BA := hid (fun (u : World) (hu : StAt u X c s) => subytes_form hO hk hu hbs)
  have BB := hid (fun (u : World) (hu : StAt u Y c t) => subytes_form hO hk' hu hbt)
  obtain ⟨n1, hn1⟩ : ∃ n1, bs.length = n1 := ⟨_, rfl⟩
  obtain ⟨n2, hn2⟩ : ∃ n2, bt.length = n2 := ⟨_, rfl⟩
  rw [hn1] at BA
  rw [hn2] at BB
  clear h h' hk hk' hO hbs hbt hn1 hn2
  go_enter Tryz.func27, Tryz.ntmps27
  go_wp2_with fail
  refine wp_region_held_drew (S := (fun w' => (w.grownBy w' none) ∧ (StAt w' X c s) ∧ (StAt w' Y c t))) (by kernel_rfl) ⟨gb_drew (.refl w none), KK.out.drew, LL.out.drew⟩ (fun hHeld => ?_)
  try dsimp only at hHeld
  refine jU 0 hHeld ?_
  try simp only [jX, jD, jE, jF]
  refine jR [1] ?_
  refine jG rfl (fun K hK => ?_) AllReadyH.nil
  try simp only [jD, jE, jF]
  go_simp
  have hH2 := hHeld
  obtain ⟨G, K, L⟩ := hH2
  refine ((grow_of (sumade_any K))).mono ?_
  rintro e w1001 ⟨rfl, hg⟩
  have L1 := hid (show (w.grownBy w1001 none) ∧ (StAt w1001 X c s) ∧ (StAt w1001 Y c t) from ⟨gb_trans G hg (.inl rfl), K.grown hg, L.grown hg⟩)
  clear hHeld hg G K L
  go_wp2_with fail
  refine hK.out _ _ ?_ (fun hHeld => ?_)
  · exact L1.out
  clear hK K
  try dsimp only at hHeld
  try simp only [jX, jD, jE, jF]
  refine jU 2 hHeld ?_
  try simp only [jX, jD, jE, jF]
  refine jU 3 hHeld ?_
  try simp only [jX, jD, jE, jF]
  refine jR [4] ?_
  refine jG rfl (fun K hK => ?_) AllReadyH.nil
  try simp only [jD, jE, jF]
  go_simp
  have hH2 := hHeld
  obtain ⟨G, K, L⟩ := hH2
  refine ((grow_of (sumade_any L))).mono ?_
  rintro e w1004 ⟨rfl, hg⟩
  have L4 := hid (show (w.grownBy w1004 none) ∧ (StAt w1004 X c s) ∧ (StAt w1004 Y c t) from ⟨gb_trans G hg (.inl rfl), K.grown hg, L.grown hg⟩)
  clear hHeld hg G K L
  go_wp2_with fail
  refine hK.out _ _ ?_ (fun hHeld => ?_)
  · exact L4.out
  clear hK K
  try dsimp only at hHeld
  try simp only [jX, jD, jE, jF]
  refine jU 5 hHeld ?_
  try simp only [jX, jD, jE, jF]
  refine jU 6 hHeld ?_
  try simp only [jX, jD, jE, jF]
  refine jU 7 hHeld ?_
  try simp only [jX, jD, jE, jF]
  refine jU 8 hHeld ?_
  try simp only [jX, jD, jE, jF]
  refine jU 9 hHeld ?_
  try simp only [jX, jD, jE, jF]
  refine' jT 10 rfl (by rfl) ?_ hHeld ?_
  rotate_left
  · (intro w hSw; (try dsimp only at hSw); (try simp only [jD, jE, jF]); refine exec_mid27 (x := .tmp 14) (su_mid (by obtain ⟨G, K, L⟩ := hSw; exact K.row)) Tryz.underlying27 rfl (by kernel_rfl) ?_ ?_ <;> rfl)
  try simp only [jX, jD, jE, jF]
  refine jU 11 hHeld ?_
  try simp only [jX, jD, jE, jF]
  refine jU 12 hHeld ?_
  try simp only [jX, jD, jE, jF]
  refine jU 13 hHeld ?_
  try simp only [jX, jD, jE, jF]
  refine' jT 14 rfl (by rfl) ?_ hHeld ?_
  rotate_left
  · (intro w hSw; (try dsimp only at hSw); (try simp only [jD, jE, jF]); refine exec_mid27 (x := .tmp 18) (su_mid (by obtain ⟨G, K, L⟩ := hSw; exact L.row)) Tryz.underlying27 rfl (by kernel_rfl) ?_ ?_ <;> rfl)
  try simp only [jX, jD, jE, jF]
  refine jU 15 hHeld ?_
  try simp only [jX, jD, jE, jF]
  refine jU 16 hHeld ?_
  try simp only [jX, jD, jE, jF]
  refine jU 17 hHeld ?_
  try simp only [jX, jD, jE, jF]
  refine jU 18 hHeld ?_
  try simp only [jX, jD, jE, jF]
  refine jU 20 hHeld ?_
  try simp only [jX, jD, jE, jF]
  refine jR [19] ?_
  refine jG rfl (fun K hK => ?_) AllReadyH.nil
  try simp only [jD, jE, jF]
  go_simp
  have hH2 := hHeld
  obtain ⟨G, K, L⟩ := hH2
  refine ((BA.out _ K)).mono ?_
  rintro e w1019 ⟨p1, k1, rfl, ho1, hg⟩
  have L19 := hid (show (w.grownBy w1019 none) ∧ (StAt w1019 X c s) ∧ (StAt w1019 Y c t) from ⟨gb_trans G hg (.inl rfl), K.grown hg, L.grown hg⟩)
  have NO1 := hid (show OwnB 0 w1019 (.slice p1 n1 k1) bs from ho1)
  clear hHeld hg G K L
  go_wp2_with fail
  refine hK.out _ _ ?_ (fun hHeld => ?_)
  · exact L19.out
  clear hK K
  try dsimp only at hHeld
  try simp only [jX, jD, jE, jF]
  refine held_stronger (S' := fun w' => (fun w' => OwnB 0 w' (.slice p1 n1 k1) bs) w' ∧ ((fun w' => (w.grownBy w' none) ∧ (StAt w' X c s) ∧ (StAt w' Y c t))) w') (fun _ h => h.2) _ _ _ _ ?_
  replace hHeld := And.intro NO1.out hHeld
  try dsimp only at hHeld
  refine jR [21] ?_
  refine jG rfl (fun K hK => ?_) AllReadyH.nil
  try simp only [jD, jE, jF]
  go_simp
  have hH2 := hHeld
  obtain ⟨O1, G, K, L⟩ := hH2
  refine ((BB.out _ L)).mono ?_
  rintro e w1021 ⟨p2, k2, rfl, ho2, hg⟩
  have L21 := hid (show (OwnB 0 w1021 (.slice p1 n1 k1) bs) ∧ (w.grownBy w1021 none) ∧ (StAt w1021 X c s) ∧ (StAt w1021 Y c t) from ⟨O1.grown hg (by simp), gb_trans G hg (.inl rfl), K.grown hg, L.grown hg⟩)
  have NO2 := hid (show OwnB 0 w1021 (.slice p2 n2 k2) bt from ho2)
  clear hHeld hg O1 G K L
  go_wp2_with fail
  refine hK.out _ _ ?_ (fun hHeld => ?_)
  · exact L21.out
  clear hK K
  try dsimp only at hHeld
  try simp only [jX, jD, jE, jF]
  refine held_stronger (S' := fun w' => (fun w' => OwnB 0 w' (.slice p2 n2 k2) bt) w' ∧ ((fun w' => (OwnB 0 w' (.slice p1 n1 k1) bs) ∧ (w.grownBy w' none) ∧ (StAt w' X c s) ∧ (StAt w' Y c t))) w') (fun _ h => h.2) _ _ _ _ ?_
  replace hHeld := And.intro NO2.out hHeld
  try dsimp only at hHeld
  refine jR [22] ?_
  refine jG rfl (fun K hK => ?_) AllReadyH.nil
  try simp only [jD, jE, jF]
  go_simp
  have hH2 := hHeld
  obtain ⟨O2, O1, G, K, L⟩ := hH2
  refine ((grow_of (bequal_any _ _ _ _ _ O1.bytes O2.bytes))).mono ?_
  rintro e w1022 ⟨rfl, hg⟩
  have L22 := hid (show (OwnB 0 w1022 (.slice p2 n2 k2) bt) ∧ (OwnB 0 w1022 (.slice p1 n1 k1) bs) ∧ (w.grownBy w1022 none) ∧ (StAt w1022 X c s) ∧ (StAt w1022 Y c t) from ⟨O2.grown hg (by simp), O1.grown hg (by simp), gb_trans G hg (.inl rfl), K.grown hg, L.grown hg⟩)
  clear hHeld hg O2 O1 G K L
  go_wp2_with fail
  refine hK.out _ _ ?_ (fun hHeld => ?_)
  · exact L22.out
  clear hK K
  try dsimp only at hHeld
  try simp only [jX, jD, jE, jF]
  refine jU 23 hHeld ?_
  try simp only [jX, jD, jE, jF]
  refine jU 24 hHeld ?_
  try simp only [jX, jD, jE, jF]
  refine wpAnyH_done (by kernel_rfl) ?_ _
  obtain ⟨O2, O1, G, K, L⟩ := hHeld
  have G0 := hid G
  clear G K L O1 O2
  go_wp2_with fail
  go_ret
  exact ⟨rfl, G0.out⟩
end Go.Proofs.YtecggbndlbkhdaaGreat
end
section
set_option linter.unusedSimpArgs false
set_option linter.unusedVariables false
namespace Go.Proofs.YtecggbndlbkhdaaGreat
set_option maxRecDepth 100000
open Go.RowKit

/-- all of a configuration that a state of it asks for: the state that nothing was done to, what law.New makes -/
structure SuAll (c : Conf) (s0 : Ste) (lf : Int → Option La) : Prop where
  of : SuOf c s0
  ln : LawN c lf
  lb : LawB s0 lf
  mn : s0.l.po.r.mn = c.min
  mx : s0.l.po.r.mx = c.max
  one : s0.l.n = c.min
  fine : 1 ≤ c.n ∧ c.n ≤ 10 ∧ 1 ≤ c.m ∧ c.m ≤ 2 ∧ 1 ≤ c.min ∧ c.min ≤ 5 ∧ c.max ≤ 104
  cnt : s0.s.H = List.replicate s0.p.n (false, 0)
@[reducible] def Conf.wide (c : Conf) (far sec : Int) : Conf := { c with far := far, sectors := sec }
theorem wide_none {c : Conf} (h : Fine c) {far sec : Int} (hf : 0 ≤ far ∧ far ≤ 1099511627776) (hs : 64 ≤ sec ∧ sec ≤ 4096) : st22 (c.wide far sec) = none := by
  have p1 := part1 h
  have p2 := part2 h
  have p3 := part3 h
  have p4 := part4 h
  have p5 := part5 h
  have p6 := part6 h
  have p7 := part7 h
  have p8 := part8 h
  have p9 := part9 h
  have p10 := part10 h
  have p11 := part11 h
  have p12 := part12 h
  have p13 := part13 h
  have p14 := part14 h
  have p15 := part15 h
  have p16 := part16 h
  have p17 := part17 h
  have p18 := part18 h
  have p20 := part20 h
  have p21 := part21 h
  exact ok22 (ok21 (ok20 (ok19 (ok18 (ok17 (ok16 (ok15 (ok14 (ok13 (ok12 (ok11 (ok10 (ok9 (ok8 (ok7 (ok6 (ok5 (ok4 (ok3 (ok2 (ok1 (c := c.wide far sec) p1) p2) p3) p4) p5) p6) p7) p8) p9) p10) p11) p12) p13) p14) p15) p16) p17) p18) (cwithin_in hf)) p20) p21) (cwithin_in hs)
theorem suall_wide {c : Conf} (h : Fine c) {far sec : Int} (hf : 0 ≤ far ∧ far ≤ 1099511627776) (hs : 64 ≤ sec ∧ sec ≤ 4096) : ∃ s0 lf, SuAll (c.wide far sec) s0 lf := by
  obtain ⟨m, u, d, hm, hu, hd, hm1, hm2, hu3, hd4, hok, -⟩ := fine_law h
  have hmin := h.min
  have hmax := h.max
  have hn := h.n; have hff := h.f; have hg := h.grace; have hw := h.window; have hmm := h.m; have hr := h.fresh; have hq := h.quorum; have hst := h.strikes; have hpr := h.probe
  have hN := wide_none h hf hs
  have hfm := fine_may h
  have hN2 : ((st22 (c.wide far sec)).getD ⟨#[]⟩).toList.isEmpty = true := by rw [hN]; decide +kernel
  have hbase := ste_base (far := far) h (hok c.min (by omega) (by omega))
  have htie := ste_tie (far := far) (u := u) (d := d) h hm (by omega)
  refine ⟨steOf c far m u d, fun x => if inR (rt c) x = true then some (laOf c m u d x) else none, ⟨hN, hbase, htie, ⟨rfl, rfl, rfl⟩, fun w => ?_, fun w => ?_, ?_, ?_, ?_, rfl, rfl, rfl, rfl, ?_⟩, ⟨fun x L e w => ?_, fun x e w => ?_⟩, fun x h1 h2 => ?_, rfl, rfl, rfl, ?_, rfl⟩
  · exact gnew_ok (c.wide far sec) (sdOf c) c.n.toNat c.grace.toNat c.window.toNat c.m.toNat c.fresh.toNat hN (by show c.n = _; omega) (by show c.grace = _; omega) (by show c.window = _; omega) (by show c.m = _; omega) (by show c.fresh = _; omega) (seed_q h.seed)
      (by omega) (by omega) (by omega) (by omega) (by omega) (by omega) (by omega) (by omega) (by omega) (by omega) w
  · exact lnew_ok (c.wide far sec) c.min m u d hN2 hm hu hd hm1 (by omega) (by omega) (by omega) hfm (in_of (r := rt c) (by show c.min ≤ c.min; omega) (by show c.min ≤ c.max; omega)) (hok c.min (by omega) (by omega)) w
  · unfold MayNew; show 1 ≤ c.n ∧ c.n ≤ 16 ∧ 1 ≤ c.m ∧ c.m ≤ 4 ∧ 1 ≤ c.fresh ∧ c.fresh ≤ 8; omega
  · refine ⟨c.n.toNat, by show c.n = _; omega, ?_, rfl⟩
    unfold MaySc; show 1 ≤ ((c.n.toNat : Nat) : Int) ∧ ((c.n.toNat : Nat) : Int) ≤ 16 ∧ 1 ≤ c.strikes ∧ c.strikes ≤ 100 ∧ 1 ≤ c.probe ∧ c.probe ≤ 100 ∧ 0 ≤ far ∧ far ≤ 1099511627776; omega
  · show c.n = ((c.n.toNat : Nat) : Int); omega
  · show 0 ≤ c.f ∧ 2 * c.f + 1 ≤ c.quorum ∧ c.quorum ≤ c.n; omega
  · split at e
    · next hi =>
      cases e
      have hi' := in_le hi
      exact lnew_ok (c.wide far sec) x m u d hN2 hm hu hd hm1 (by omega) (by omega) (by omega) hfm hi (hok x hi'.1 hi'.2) w
    · cases e
  · split at e
    · cases e
    · next hi => exact lnew_no (c.wide far sec) x hN2 (fun hh => hi hh.2) w
  · refine ⟨laOf c m u d x, if_pos (in_of h1 h2), rfl⟩
  · show 1 ≤ c.n ∧ c.n ≤ 10 ∧ 1 ≤ c.m ∧ c.m ≤ 2 ∧ 1 ≤ c.min ∧ c.min ≤ 5 ∧ c.max ≤ 104; omega
theorem suall_fine {c : Conf} (h : Fine c) : ∃ s0 lf, SuAll c s0 lf := by
  have h1 := h.far; have h2 := h.sectors
  exact suall_wide (far := c.far) (sec := c.sectors) h (by omega) (by omega)
theorem suall_dflt : ∃ s0 lf, SuAll dflt s0 lf := suall_fine fine_dflt
section
variable {s0 s : Ste} {c : Conf} {lf : Int → Option La}
/-- without samples nothing is decided -/
theorem holds_none (hq : 1 ≤ s.p.q) (hm : 1 ≤ s.p.m) (ht : s.t = []) : s.holds = true := by
  unfold Ste.holds
  have e : ((List.range s.p.m.toNat).all s.full) = false := by
    cases hb : (List.range s.p.m.toNat).all s.full with
    | false => rfl
    | true =>
      rw [List.all_eq_true] at hb
      have h0 := hb 0 (List.mem_range.2 (by omega))
      unfold Ste.full at h0
      have hr : s.row 0 = [] := by unfold Ste.row; rw [ht]; rfl
      rw [hr] at h0
      simp only [Bool.and_eq_true, decide_eq_true_iff] at h0
      have := h0.2
      simp at this
      omega
  rw [e]; rfl
/-- an epoch without samples: what is decided, what is left -/
theorem close_none (hA : SuAll c s0 lf) (hk : Ste.Ok s0 s) (ht : s.t = []) (hn : s.now < 1099511627776) : s.close = ((⟨s.now, s.l.n, 0, true, 0, 0, 0, 0⟩, 0), s.closed) ∧ s.closed.t = [] ∧ s.closed.l.n = s.l.n ∧ s.closed.now = s.now + 1 ∧ s.closed.ds = keep64 (s.ds ++ [⟨s.now, s.l.n, 0, true, 0, 0, 0, 0⟩]) ∧ Ste.Ok s0 s.closed := by
  have hp := hk.p
  have hm1 := hA.fine.2.2.1
  have hm := hA.of.m
  have hq := hA.of.q
  have hf := hA.of.f2
  have hh : s.holds = true := holds_none (by rw [hp, ← hq]; omega) (by rw [hp, ← hm]; omega) ht
  have hd : s.dec = ⟨s.now, s.l.n, 0, true, 0, 0, 0, 0⟩ := by unfold Ste.dec; rw [if_pos hh]
  refine ⟨?_, ?_, ?_, rfl, ?_, ?_⟩
  · unfold Ste.close; rw [if_neg (by omega), hd]
  · show dropT s.t s.now = []; rw [ht]; rfl
  · show (if s.holds = true then s.l.hold else _).n = _; rw [if_pos hh]; rfl
  · show keep64 (s.ds ++ [s.dec]) = _; rw [hd]
  · have := Ste.Ok.close hA.of.tie hk
    unfold Ste.close at this
    rw [if_neg (by omega)] at this
    exact this
/-- the epoch is closed; a record that is none -/
theorem sudo_close {w : World} {X : SBl} (hO : SuOf c s0) (hk : Ste.Ok s0 s) (hK : StAt w X c s) :
    Calls Tryz.prog 24 #[.pointer (some ⟨X.b, 0, none⟩), rcV 3 zeroM] w fun e w' => e = .returned (.tuple #[dcV s.close.1.1, .int .i64 s.close.1.2]) ∧ SuK w X.all X.b c s.close.2 w' :=
  do_close hK (isClose_iff.2 ⟨rfl, rfl⟩) fun u hu => suend_any hO hk hu
theorem sudo_nine {w : World} {X : SBl} (hK : StAt w X c s) :
    Calls Tryz.prog 24 #[.pointer (some ⟨X.b, 0, none⟩), rcV 9 zeroM] w fun e w' => e = .returned (.tuple #[dcV zD, .int .i64 1]) ∧ SuK w X.all X.b c s w' :=
  do_not hK rfl rfl
end
theorem runTo_quiet {st pr : Int} {mk : List Int} (hm : ∀ k, mk.getD k 0 = 0) (n : Nat) : ∀ k, k ≤ n → runTo st pr mk (List.replicate n ((false, 0) : Hd)) k = (List.replicate n (false, 0), [])
  | 0, _ => rfl
  | k + 1, hk => by
    have hg : (List.replicate n ((false, 0) : Hd)).getD k (true, 0) = (false, 0) := by
      rw [List.getD_eq_getElem?_getD, List.getElem?_replicate, if_pos (by omega)]; rfl
    have he : endH st pr (false, 0) 0 = ((false, 0), false) := by
      unfold endH
      rw [if_neg (by decide), if_neg (by decide), if_neg (by decide)]
    unfold runTo
    rw [runTo_quiet hm n k (by omega)]
    dsimp only
    rw [hg, hm k, he]
    dsimp only
    rw [List.set_replicate_self]
    rfl
theorem marks_none (s : Sc) (q : Int) (L : List (List Sm)) (h : ∀ r ∈ L, r = []) : marksL s q L = List.replicate s.H.length 0 := by
  have e : ∀ mk : List Int, markM s q mk [] = mk := fun mk => by
    unfold markM midS heardL
    rw [if_neg]
    simp
  unfold marksL marksF
  generalize List.replicate s.H.length (0 : Int) = mk
  induction L with
  | nil => rfl
  | cons x r ih =>
    obtain rfl := h x (List.mem_cons_self ..)
    rw [List.foldl_cons, e]
    exact ih fun y hy => h y (List.mem_cons_of_mem _ hy)
theorem closed_quiet {s : Ste} {n : Nat} (hH : s.s.H = List.replicate n (false, 0)) (ht : s.t = []) : s.closed.s.H = List.replicate n (false, 0) := by
  show (runTo s.s.st s.s.pr (marksL s.s s.p.q s.rows) s.s.H s.s.H.length).1 = _
  rw [marks_none s.s s.p.q s.rows fun r hr => by
    obtain ⟨k, _, rfl⟩ := List.mem_map.1 hr
    unfold Ste.row
    rw [ht]; rfl]
  rw [hH, runTo_quiet (fun k => by
    rw [List.getD_eq_getElem?_getD, List.getElem?_replicate]; split <;> rfl) n _ (by rw [List.length_replicate]; exact Nat.le_refl _)]
theorem zeroC_no : ((st22 zeroC).getD ⟨#[]⟩).toList.isEmpty = false := by decide +kernel
end Go.Proofs.YtecggbndlbkhdaaGreat
end
