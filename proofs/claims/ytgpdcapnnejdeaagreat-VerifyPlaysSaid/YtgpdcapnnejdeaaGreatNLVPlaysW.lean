/-
  The walk of VerifyPlays: whatever the configuration and the steps. No condition.
-/
import Derived.Test.YtgpdcapnnejdeaaGreatJ0
import Derived.Test.YtgpdcapnnejdeaaGreatY22
import Derived.Test.YtgpdcapnnejdeaaGreatY24
import Derived.Test.YtgpdcapnnejdeaaGreatY15
import Derived.StillTailTactics
import Derived.LoopTactic
import Derived.Deep.CutRange
import Derived.Deep.RegionHeld3
set_option linter.unusedSimpArgs false
set_option linter.unusedVariables false
namespace Go.Proofs.YtgpdcapnnejdeaaGreat.vplays
set_option maxRecDepth 100000
open Go.RowKit

set_option maxHeartbeats 64000000 in
theorem walk (l : List Int) (p : Option Addr) (cap : Nat) (n : Nat) (f : Nat → Opv) (po : Option Addr) (co : Nat) {w : World} (hl : IntsAt w (.slice p l.length cap) l) (ho : OpvAt w (.slice po n co) n f) :
    Calls Tryz.prog 3 #[.slice p l.length cap, .slice po n co] w fun e w' => e = .returned (.bool true) ∧ w.grownBy w' none := by
  have HF := hid (fit_any l p cap w hl); clear hl
  have OPS := hid ho; clear ho
  go_enter Tryz.func3, Tryz.ntmps3
  go_wp2_with fail
  refine HF.out.mono ?_
  rintro e w1 ⟨c, rfl, hfine, hg⟩
  have G1 := hid hg; have FN := hid hfine; clear hg HF hfine
  go_upto_region 2 with (refine wpList_store_new (w := w1) (cs := c.cells) rfl (by kernel_rfl) (by kernel_rfl) (by kernel_rfl) rfl rfl rfl rfl rfl ?_)
  have C1 := hid (cfx_new c G1.out)
  have hlow : w.heap.size ≤ w1.heap.size := gb_size G1.out
  clear G1
  refine wp_gen (fun wx => Cfx w w1.heap.size c wx) C1.out ?_
  clear C1
  generalize w1.heap.size = x at hlow ⊢
  have HLOW := hid hlow; clear hlow
  intro w2 h2
  have C2 := hid h2; clear h2
  go_wp2_with fail
  refine wp_region_held_drew (S := (fun w' => (Cfx w x c w'))) (by kernel_rfl) C2.out.drew (fun hHeld => ?_)
  try dsimp only at hHeld
  refine' jT 0 rfl (by rfl) ?_ hHeld ?_
  rotate_left
  · (intro w hSw; (try dsimp only at hSw); (try simp only [jD, jE, jF]); refine exec_row (x := .tmp 5) hSw.box Tryz.underlying27 rfl (by kernel_rfl) ?_ ?_ <;> rfl)
  try simp only [jX, jD, jE, jF]
  refine' jT 2 rfl (by rfl) ?_ hHeld ?_
  rotate_left
  · (intro w hSw; (try dsimp only at hSw); (try simp only [jD, jE, jF]); refine exec_row (x := .tmp 5) hSw.box Tryz.underlying27 rfl (by kernel_rfl) ?_ ?_ <;> rfl)
  try simp only [jX, jD, jE, jF]
  refine jR [1] ?_
  refine jG rfl (fun K hK => ?_) AllReadyH.nil
  try simp only [jD, jE, jF]
  go_simp
  have hH2 := hHeld
  have bb := hH2
  refine (gnew_fine FN.out _).mono ?_
  rintro e w1001 ⟨F, B, rfl, hk, hg, hlo⟩
  have HLO := hid (show ∀ y ∈ F, w.heap.size ≤ y from fun y hy => Nat.le_trans (gb_size bb.g) (hlo y hy))
  have HXF := hid (show x ∉ F from fun h => by have := hlo _ h; have := at_lt bb.box; omega); clear hlo
  have L1 := hid (show (Cfx w x c w1001) from (bb.grown hg))
  have Nkg := hid (show GtAt w1001 F B (gOf c) from hk)
  clear hHeld hg bb
  go_wp2_with fail
  refine hK.out _ _ ?_ (fun hHeld => ?_)
  · exact L1.out
  clear hK K
  try dsimp only at hHeld
  try simp only [jX, jD, jE, jF]
  refine held_stronger (S' := fun w' => (fun w' => GtAt w' F B (gOf c)) w' ∧ ((fun w' => (Cfx w x c w'))) w') (fun _ h => h.2) _ _ _ _ ?_
  replace hHeld := And.intro Nkg.out hHeld
  try dsimp only at hHeld
  refine jR [3] ?_
  refine jG rfl (fun K hK => ?_) AllReadyH.nil
  try simp only [jD, jE, jF]
  go_simp
  have hH2 := hHeld
  obtain ⟨kg, bb⟩ := hH2
  refine (gnewr_fine FN.out _).mono ?_
  rintro e w1003 ⟨F2, B2, rfl, hk, hg, hlo⟩
  have HL2 := hid (show ∀ y ∈ F2, w.heap.size ≤ y from fun y hy => Nat.le_trans (gb_size bb.g) (hlo y hy))
  have HX2 := hid (show x ∉ F2 from fun h => by have := hlo _ h; have := at_lt bb.box; omega)
  have HDJ := hid (show Dj F F2 from fun y hy h => by have := hlo _ h; have := kg.lt _ hy; omega); clear hlo
  have L3 := hid (show (GtAt w1003 F B (gOf c)) ∧ (Cfx w x c w1003) from ⟨kg.grown hg, bb.grown hg⟩)
  have Nkr := hid (show GrAt w1003 F2 B2 c 0 (gOf c) from hk)
  clear hHeld hg kg bb
  go_wp2_with fail
  refine hK.out _ _ ?_ (fun hHeld => ?_)
  · exact L3.out
  clear hK K
  try dsimp only at hHeld
  try simp only [jX, jD, jE, jF]
  refine held_stronger (S' := fun w' => (fun w' => GrAt w' F2 B2 c 0 (gOf c)) w' ∧ ((fun w' => (GtAt w' F B (gOf c)) ∧ (Cfx w x c w'))) w') (fun _ h => h.2) _ _ _ _ ?_
  replace hHeld := And.intro Nkr.out hHeld
  try dsimp only at hHeld
  refine jU 4 hHeld ?_
  try simp only [jX, jD, jE, jF]
  refine jU 5 hHeld ?_
  try simp only [jX, jD, jE, jF]
  refine wpAnyH_done (by kernel_rfl) ?_ _
  obtain ⟨kr, kg, bb⟩ := hHeld
  refine exit_gen (fun wx => Ply w x F B (gOf c) F2 B2 c 0 (gOf c) (.slice none 0 0) [] (fun _ => Sl.new 0 0) (.slice none 0 0) [] wx) ⟨kg, kr, bb.box, OwnS.nil _, (fun i hi => absurd hi (Nat.not_lt_zero i)), OwnT.nil _, List.nodup_nil, HDJ.out, (fun y hy => by simp [ownL, Value.ownBlock] at hy; subst hy; exact ⟨HXF.out, HX2.out⟩), (fun y hy => by simp [ownL, Value.ownBlock] at hy; rcases hy with h | h; exact HLO.out y h; exact HL2.out y h), bb.g⟩ ?_
  clear kg kr bb HLO HXF HL2 HX2 HDJ C2
  intro w3 h3
  have K3 := hid h3; clear h3
  by_cases hn : 40 < n
  · have dn : decide (40 < (n : Int)) = true := by simp; omega
    clear hn
    go_wp2_with fail
    refine (vtold_any _).mono ?_
    rintro e9 w9 ⟨rfl, hg⟩
    have G9 := hid (K3.out.grown hg).g; clear hg K3
    go_wp2_with fail
    go_ret
    exact ⟨rfl, G9.out⟩
  · have dn : decide (40 < (n : Int)) = false := by simp; omega
    have HN := hid hn; clear hn
    go_wp2_with fail
    go_loopw [8, 9] (fun s i wr => ∃ (k : Nat) (vs : Value) (ls : List Nat) (sl : Nat → Sl), (k : Int) ≤ c.n ∧ s = vs ∧ i = .int .i64 (k : Int) ∧ ls.length = k ∧ (∀ j < k, sl j = Sl.new (sdOf c) (j : Int)) ∧ Ply w x F B (gOf c) F2 B2 c 0 (gOf c) vs ls sl (.slice none 0 0) [] wr) (fun s i _ => c.n.toNat - (intOf i).toNat)
    case atStart => exact ⟨0, _, [], _, (by have := FN.out.n; have := FN.out.f; omega), rfl, rfl, rfl, (fun j hj => absurd hj (Nat.not_lt_zero j)), K3.out⟩
    case round =>
      obtain ⟨k, vs, ls, sl, hk, rfl, rfl, eL, eS, hP⟩ := hrel
      have K4 := hid hP; clear hP K3
      have EL := hid eL; have ES := hid eS; clear eL eS
      have c0 : wr.cell? ⟨x, 0, none⟩ = some (.int .i64 c.n) := at_cell K4.out.box 0
      have c25 : wr.cell? ⟨x, 25, none⟩ = some (.int .u64 c.seed) := at_cell K4.out.box 25
      by_cases hlt : (k : Int) < c.n
      · have dl : decide ((k : Int) < c.n) = true := by simpa using hlt
        have hnn := FN.out.n
        have hff := FN.out.f
        have hk15 : (k : Int) ≤ 15 := by omega
        have s1 : IntKind.i64.wrap ((k : Int) + 1) = (k : Int) + 1 := IntWalk.i64_in _ (by omega)
        clear hnn hff
        have CS := hid (show ∀ u, Calls Tryz.prog 13 #[.int .u64 c.seed, .int .i64 (k : Int)] u (MadeT u (.new (sdOf c) (k : Int))) from fun u => by rw [seed_q FN.out.seed]; exact rsnew_ok (sdOf c) (k : Int) (by omega) hk15 u)
        go_wp2_with fail
        refine (CS.out _).mono ?_
        rintro e w5 ⟨nb, rfl, hs, hg, hz⟩
        have HS := hid hs; have HG5 := hid hg; have HZ := hid hz; clear hs hg hz CS c0 c25
        have hl2 : ls.length + 1 ≤ 1000000 := by have := EL.out; omega
        go_wp2_with (at_builtin; refine appl_seal rfl _ _ rfl _ ls rfl ((K4.out.grown (gb_trans HG5.out (World.grownBy_alloc w5 _ none) (.inl rfl))).slr) w5.heap.size nb rfl (at_cell (at_new w5 _) 0) hl2 ?_; intro v' w6 hown hgrow hat; have KJ := hid (K4.out.join (gb_trans HG5.out (World.grownBy_alloc w5 _ none) (.inl rfl)) (HS.out.grown (World.grownBy_alloc w5 _ none)) HZ.out hown hgrow hat); clear hown hgrow hat)
        go_roundw
        case rel => exact ⟨k + 1, v', ls ++ [nb], (fun j => if j = ls.length then Sl.new (sdOf c) (k : Int) else sl j), by omega, rfl, rfl, by have := EL.out; simp [this], fun j hj => by dsimp only; rw [EL.out]; by_cases e : j = k; subst e; rw [if_pos rfl]; rw [if_neg e]; exact ES.out j (by omega), KJ.out⟩
        case measure => simp [intOf]; omega
      · have dl : decide ((k : Int) < c.n) = false := by simpa using hlt
        have hkn : (k : Int) = c.n := by omega
        have EN := hid (show (ls.length : Int) = c.n by rw [EL.out]; exact hkn)
        have hnn := FN.out.n
        have SN := hid (show ∀ j < ls.length, sl j = Sl.new (sdOf c) (j : Int) by rw [EL.out]; exact ES.out)
        clear EL ES hkn hk hlt hnn
        obtain ⟨vs, hvs⟩ : ∃ vs, u8 = vs := ⟨_, rfl⟩
        subst hvs
        have hn40 := HN.out
        go_wp2_with fail
        clear c0 c25
        go_loopw [10, 11, 12] (fun t nw i wr => ∃ (k : Nat) (F1 : List Nat) (B1 : GBl) (G1 : Gt) (F3 : List Nat) (B3 : RBl) (KN : Nat) (sl1 : Nat → Sl) (vt : Value) (st : List ByteArray) (now : Int), k ≤ n ∧ t = vt ∧ nw = .int .i64 now ∧ i = .int .i64 (k : Int) ∧ 0 ≤ now ∧ now ≤ (k : Int) ∧ KN ≤ k ∧ st.length = k ∧ (∀ y ∈ st, y.size ≤ 60) ∧ B1.g = B.g ∧ B3.g = B2.g ∧ Ply w x F1 B1 G1 F3 B3 c KN G1 u8 ls sl1 vt st wr) (fun _ _ i _ => n - (intOf i).toNat)
        case atStart => exact ⟨0, F, B, gOf c, F2, B2, 0, sl, _, [], 0, Nat.zero_le _, rfl, rfl, rfl, Int.le_refl _, Int.le_refl _, Nat.le_refl _, rfl, (fun _ h => by cases h), rfl, rfl, K4.out⟩
        case round =>
          obtain ⟨k, F1, B1, G1, F3, B3, KN, sl1, vt, st, now, hk, rfl, rfl, rfl, n0, n1, hKN, eST, hST, eB, eB2, hP⟩ := hrel
          have K5 := hid hP; clear hP K4
          have NOW := hid (And.intro n0 (And.intro n1 hKN)); have EST := hid eST; have HST := hid hST; have EB := hid eB; have EB2 := hid eB2; clear n0 n1 hKN eST hST eB eB2
          by_cases hlt : (k : Int) < (n : Int)
          · have dl : decide ((k : Int) < (n : Int)) = true := by simpa using hlt
            go_upto_region 15 with fail
            have hkn : k < n := by omega
            have hk40 := hn40
            have hnow := NOW.out
            obtain ⟨gs, css, -, hvs, -, -, -, -⟩ := K5.out.slr.full (by have := EN.out; have := FN.out.n; have := FN.out.f; omega)
            subst hvs
            obtain ⟨ab, ao, rfl, hab, hc13, hby, hwf⟩ := (OPS.out.grown K5.out.g).cells hkn
            have WFO := hid hwf
            have HBY0 := hid hby
            generalize f k = o at *
            have RNG := hid (show wr.rangeAt ab (ao + k * 13) o.list from fun j v hj => by
              have hlt : j < 13 := (List.getElem?_eq_some_iff.1 hj).1
              rw [Nat.add_assoc, hc13 j hlt]; exact hj)
            unfold Opv.list at RNG
            have P0 := hid (Plb.start K5.out o)
            have HBY := hid (HBY0.out.grown (World.grownBy_alloc wr o.obj none) (by simp))
            obtain ⟨psv, csv, hsv⟩ := HBY0.out.form
            clear hc13 hab hby hwf HBY0
            obtain ⟨M, hM⟩ : ∃ M, ls.length = M := ⟨_, rfl⟩
            rw [hM] at K5 P0 ⊢
            have HM := hid hM
            have hnn := FN.out.n
            have hff := FN.out.f
            have hcn : c.n = (M : Int) := by rw [← hM]; exact EN.out.symm
            have hM1 : 1 ≤ M ∧ M ≤ 16 := by omega
            have x0 : (wr.alloc o.obj).cell? ⟨x, 0, none⟩ = some (.int .i64 (M : Int)) := by rw [← hcn]; exact at_cell P0.out.p.box 0
            have hMz : ¬ (M : Int) = 0 := by omega
            have hMw : IntKind.u64.wrap (M : Int) = (M : Int) := IntWalk.u64_in _ (by omega)
            obtain ⟨i, hi, hwi⟩ := umod_small o.who M (by omega)
            have hwi2 : IntKind.i64.wrap (i : Int) = (i : Int) := IntWalk.i64_in _ (by omega)
            obtain ⟨kk, hk0, hk9, hkk⟩ := umod_int o.k 10 (by omega)
            have hkk : (IntKind.u64.wrap o.k).tmod 10 = kk := hkk
            have HI := hid hi
            have HM1 := hid hM1
            clear hnn hff hM hM1 hi
            unfold Opv.obj at x0 P0 HBY
            rw [hsv] at x0 P0 HBY RNG
            have HSV := hid hsv
            clear hsv
            go_upto_block 4 with (first | refine wpList_mid RNG.out Tryz.underlying42 rfl (by kernel_rfl) rfl rfl rfl rfl ?_ | refine wpList_store_new (w := wr) (cs := #[.int .i64 o.k, .int .i64 o.who, .int .i64 o.a, .int .i64 o.b, .int .i64 o.v, .int .i64 o.m.kind, .int .i64 o.m.who, .int .i64 o.m.gen, .int .i64 o.m.seq, .int .i64 o.m.epoch, .int .i64 o.m.value, .int .i64 o.m.metric, .slice psv o.s.length csv]) rfl (by kernel_rfl) (by kernel_rfl) (by kernel_rfl) rfl rfl rfl rfl rfl ?_)
            clear RNG
            refine wp_gen (fun wx => Plb w x F1 B1 G1 F3 B3 c KN G1 (.slice (some ⟨gs, 0, none⟩) M css) ls sl1 u10 st wr.heap.size o wx ∧ BytesAt wx (.slice psv o.s.length csv) o.s) ⟨P0.out, HBY.out⟩ ?_
            clear P0 HBY K5 x0 hkk hwi hwi2 hMz hMw hcn
            generalize wr.heap.size = xo
            rintro w4 ⟨hp4, hby4⟩
            have K5 := hid hp4
            have HBY := hid hby4
            clear hp4 hby4
            go_cut [11, 15, 17, 18] from 89 to 205 (fun nv bv y17 y18 wx => ∃ (now' : Int) (s : ByteArray) (sl2 : Nat → Sl), nv = .int .i64 now' ∧ bv = .string s ∧ s.size ≤ 60 ∧ 0 ≤ now' ∧ now' ≤ (k : Int) + 1 ∧ Plb w x F1 B1 G1 F3 B3 c KN G1 (.slice (some ⟨gs, 0, none⟩) M css) ls sl2 u10 st xo o wx)
            case rest =>
              as_aux_lemma =>
                obtain ⟨now', s, sl2, rfl, rfl, hs60, hn0, hn1, hP⟩ := hcut
                have K6 := hid hP
                have NOW2 := hid (show 0 ≤ now' ∧ now' ≤ (k : Int) + 1 from ⟨hn0, hn1⟩)
                have S60 := hid hs60
                clear hP hs60 hn0 hn1 K5 HBY hnow
                obtain ⟨pt, ct, hvt⟩ := K6.out.p.snt.form
                have est := EST.out
                rw [est] at hvt
                subst hvt
                obtain ⟨l0, hl0⟩ : ∃ l0, s.data.toList = l0 := ⟨_, rfl⟩
                have HL0 := hid hl0
                have K7 := hid (K6.out.grown (World.grownBy_alloc _ (.cells #[.string s] 9) none))
                have hst1 : st.length + 1 ≤ 1000000 := by rw [est]; omega
                have HK40 := hid (show k < 40 by omega)
                go_upto_region 39 with (at_builtin; refine appl_str rfl _ _ rfl _ st rfl K7.out.p.snt _ s rfl (at_cell (at_new _ _) 0) hst1 ?_; intro v' w6 hown hgrow hat; have K8 := hid (K7.out.send hown hgrow hat); clear hown hgrow hat K6 K7)
                obtain ⟨c9, w9, hcv, hv9, hg9⟩ := conv_string s (by have := S60.out; omega) w6
                rw [HL0.out] at hv9
                have HV := hid hv9
                have K9 := hid (K8.out.grown hg9)
                clear hv9 hg9
                obtain ⟨Mq, hMq⟩ : ∃ M, (G1.check l0 now' nobody).1 = M := ⟨_, rfl⟩
                obtain ⟨eq, heq⟩ : ∃ e, (G1.check l0 now' nobody).2 = e := ⟨_, rfl⟩
                have CK := hid (show G1.check l0 now' nobody = (Mq, eq) from Prod.ext hMq heq)
                clear hMq heq
                have CP := hid (tv_check EB.out _ _ now' _ _ CK.out (by have := NOW2.out; omega) w9 K9.out.p.gt HV.out)
                go_wp2_with fail
                refine CP.out.mono ?_
                rintro e10 w10 ⟨rfl, hg⟩
                have K10 := hid ((K9.out.grown hg).grown (World.grownBy_alloc w10 (msgObj Mq) none))
                have BP := hid (at_new w10 (msgObj Mq))
                clear hg CP K9 K8 hcv HV
                go_upto_region 40 with fail
                have CQ := hid (rv_check s l0 HL0.out (by have := S60.out; omega) now' (by have := NOW2.out; omega) (by have := NOW2.out; have := HK40.out; omega) _ _ CK.out _ K10.out.p.gr (by have := NOW.out; have := HK40.out; omega))
                rw [EB2.out] at CQ
                go_wp2_with fail
                refine CQ.out.mono ?_
                rintro e11 w11 ⟨rfl, hg⟩
                have NQ0 : w11.heap.size ∉ F1 := fun hm => Nat.lt_irrefl _ ((K10.out.grown hg).p.gt.lt _ hm)
                have K11 := hid ((K10.out.grown hg).grown (World.grownBy_alloc w11 (msgObj Mq) none))
                have BP1 := hid (at_alloc (at_grown BP.out hg (by simp)) (msgObj Mq))
                have BQ := hid (at_new w11 (msgObj Mq))
                clear hg CQ K10 BP
                have he : ∀ u, (Op.equalIn 10000 39 (mg Mq) (mg Mq)).run Tryz.prog u = .ok true u := fun u => (msg_equal Mq Mq u).trans (by rw [msgEq_self])
                have dff : (eq == eq) = true := by simp
                have dfn : (eq != eq) = false := by simp
                obtain ⟨r0, r1, r2, r3, r4, r12⟩ := K11.out.cells
                obtain ⟨bm, hbm⟩ : ∃ bm, o.b.tmod 4 = bm := ⟨_, rfl⟩
                go_upto_region 43 with (first | refine wpList_row_w BP1.out Tryz.underlying39 rfl (by kernel_rfl) rfl rfl rfl rfl ?_ | refine wpList_row_w BQ.out Tryz.underlying39 rfl (by kernel_rfl) rfl rfl rfl rfl ?_)
                have NQ1 := hid NQ0
                clear NQ0
                generalize w11.alloc (msgObj Mq) = w12 at *
                generalize w11.heap.size = xq at *
                generalize w10.heap.size = xp at *
                have hbm4 : -4 < bm ∧ bm < 4 := by
                  have h1 := Int.tmod_lt_of_pos o.b (show (0 : Int) < 4 by decide)
                  have h2 := Int.lt_tmod_of_pos o.b (show (0 : Int) < 4 by decide)
                  omega
                have wbm : IntKind.i64.wrap bm = bm := IntWalk.i64_in _ (by omega)
                clear hbm4 r0 r1 r2 r4 r12
                go_cut [239] from 232 to 239 (fun y wx => y = .bool (eq == 0 && bm != 1) ∧ wx = w12)
                case first =>
                  as_aux_lemma =>
                    by_cases h0 : eq = 0
                    · subst h0
                      by_cases hb1 : bm = 1
                      · as_aux_lemma =>
                          have d1 : (bm != 1) = false := by simpa using hb1
                          clear hb1
                          go_wp2_with fail
                          go_meet
                          exact ⟨by rw [d1]; rfl, rfl⟩
                      · as_aux_lemma =>
                          have d1 : (bm != 1) = true := by simpa using hb1
                          clear hb1
                          go_wp2_with fail
                          go_meet
                          exact ⟨by rw [d1]; rfl, rfl⟩
                    · as_aux_lemma =>
                        have d0 : (eq == 0) = false := by simpa using h0
                        clear h0
                        go_wp2_with fail
                        go_meet
                        exact ⟨by rw [d0]; rfl, rfl⟩
                case rest =>
                  as_aux_lemma =>
                    obtain ⟨rfl, hw12⟩ := hcut
                    subst hw12
                    obtain ⟨w12, hw12⟩ : ∃ w12, w12 = wc := ⟨_, rfl⟩
                    subst hw12
                    obtain ⟨bb, hbb⟩ : ∃ bb, (eq == 0 && bm != 1) = bb := ⟨_, rfl⟩
                    rw [hbb]
                    have HBB := hid hbb
                    clear hbb
                    go_upto_if 239 with fail
                    go_cut [] from 240 to 272 (fun wx => ∃ (F4 : List Nat) (B4 : GBl) (G4 : Gt) (F5 : List Nat) (B5 : RBl) (KN4 : Nat), B4.g = B.g ∧ B5.g = B2.g ∧ KN4 ≤ k + 1 ∧ Plb w x F4 B4 G4 F5 B5 c KN4 G4 (.slice (some ⟨gs, 0, none⟩) M css) ls sl2 v' (st ++ [s]) xo o wx)
                    case rest =>
                      as_aux_lemma =>
                        obtain ⟨F4, B4, G4, F5, B5, KN4, e4, e5, hKN4, hP4⟩ := hcut
                        have K14 := hid hP4
                        have E45 := hid (And.intro e4 (And.intro e5 hKN4))
                        have hcnM : c.n = (M : Int) := by rw [← EN.out, HM.out]
                        have HCN := hid hcnM
                        clear hP4 e4 e5 hKN4 hcnM K11 BP1 BQ NQ1 CK dff dfn he r3 hbm wbm
                        obtain ⟨wo, rfl⟩ : ∃ wo : World, wo = wr := ⟨_, rfl⟩
                        go_wp2_with fail
                        go_loopw [23] (fun i wz => ∃ j : Nat, j ≤ M ∧ i = .int .i64 (j : Int) ∧ Plb w x F4 B4 G4 F5 B5 c KN4 G4 (.slice (some ⟨gs, 0, none⟩) M css) ls sl2 v' (st ++ [s]) xo o wz) (fun i _ => M - (intOf i).toNat)
                        case atStart => exact ⟨0, Nat.zero_le _, rfl, K14.out⟩
                        case round =>
                          obtain ⟨j, hj, rfl, hP5⟩ := hrel
                          have K15 := hid hP5
                          clear hP5 K14
                          have x0 : wr.cell? ⟨x, 0, none⟩ = some (.int .i64 (M : Int)) := by rw [← HCN.out]; exact at_cell K15.out.p.box 0
                          by_cases hlt : j < M
                          · as_aux_lemma =>
                              have HE := ends_of K15.out.p.gt K15.out.p.gr (by have := E45.out; have := HK40.out; omega) HCN.out hlt
                              rw [E45.out.1, E45.out.2.1] at HE
                              have hjM : (j : Int) < (M : Int) := by omega
                              have hM16 : M ≤ 16 := HM1.out.2
                              generalize B4.A j = q1 at HE
                              generalize B4.O j = q2 at HE
                              generalize B4.rb = q3 at HE
                              generalize B4.hb = q4 at HE
                              generalize B5.r = q5 at HE
                              generalize B5.gn = q6 at HE
                              generalize B5.sn = q7 at HE
                              generalize B5.rp = q8 at HE
                              generalize B5.ps = q9 at HE
                              generalize B5.A j = q10 at HE
                              generalize B5.O j = q11 at HE
                              generalize G4.r.gen j = y1 at HE
                              generalize G4.r.since j = y2 at HE
                              generalize (G4.now j).top = y3 at HE
                              generalize q (G4.now j).bits = y4 at HE
                              generalize (G4.old j).top = y5 at HE
                              generalize q (G4.old j).bits = y6 at HE
                              generalize B5.cr = q12 at HE
                              generalize B5.cp = q13 at HE
                              have E := hid HE
                              obtain ⟨-, -, -, -, -, -, -, -, -, -, -, t26, t27, t28, r2, r3, cg, cs, ca, co, ta, tz, lr, lp⟩ := HE
                              have b1 : (y1 != y1) = false := by simp
                              have b2 : (y2 != y2) = false := by simp
                              have b3 : (y3 != y3) = false := by simp
                              have b4 : (y4 != y4) = false := by simp
                              have b5 : (y5 != y5) = false := by simp
                              have b6 : (y6 != y6) = false := by simp
                              go_upto_region 51 with fail
                              simp only [List.append_eq, List.cons_append, List.nil_append]
                              refine wp_region_quiet_lit (by kernel_rfl) (lexB_of _ (by kernel_rfl) rfl (by kernel_rfl)) ?_
                              repeat (go_big_quiet_step (first | (go_at_call 22; exact Calls.quiet_of_same (still_of (E.out.ring _))) | (go_at_call 23; exact Calls.quiet_of (E.out.now _)) | (go_at_call 24; exact Calls.quiet_of (E.out.old _)) | (go_at_call 25; exact Calls.quiet_of_same (still_of (E.out.gen _))) | (go_at_call 26; exact Calls.quiet_of_same (still_of (E.out.since _))) | (go_at_call 27; first | with_reducible exact Calls.quiet_of_same (still_of (E.out.topA _)) | with_reducible exact Calls.quiet_of_same (still_of (E.out.topO _))) | (go_at_call 28; first | with_reducible exact Calls.quiet_of_same (still_of (E.out.bitA _)) | with_reducible exact Calls.quiet_of_same (still_of (E.out.bitO _))) | (go_at_call 29; first | with_reducible exact Calls.quiet_of_same (still_of (E.out.bitR _)) | with_reducible exact Calls.quiet_of_same (still_of (E.out.bitQ _)))))
                              refine wpQuiet_nil ?_
                              intro _ hw'
                              obtain ⟨nq, hw9⟩ := hw'
                              subst hw9
                              go_wp2_with fail
                              go_roundw
                              case rel => exact ⟨j + 1, by omega, by go_num, K15.out.grown (gb_drewQ _ _)⟩
                              case measure => simp [intOf]; omega
                          · as_aux_lemma =>
                              have hjM : ¬ (j : Int) < (M : Int) := by omega
                              go_wp2_with fail
                              go_roundw
                              case rel =>
                                try rw [HM.out]
                                try rw [HCN.out]
                                (repeat apply Exists.intro)
                                refine ⟨?_, rfl⟩
                                exact ⟨k + 1, F4, B4, G4, F5, B5, KN4, sl2, v', st ++ [s], now', by omega, rfl, rfl, by go_num, NOW2.out.1, by have := NOW2.out.2; omega, E45.out.2.2, by rw [List.length_append]; have := EST.out; simp; omega, fun y hy => by
                                  rcases List.mem_append.1 hy with h | h
                                  · exact HST.out y h
                                  · rw [List.mem_singleton.1 h]; exact S60.out, E45.out.1, E45.out.2.1, K15.out.p⟩
                              case measure => simp [intOf]; omega
                    case first =>
                      as_aux_lemma =>
                        by_cases h0 : eq = 0
                        · subst h0
                          by_cases hb1 : bm = 1
                          · as_aux_lemma =>
                              obtain rfl : bb = false := by rw [← HBB.out]; simp [hb1]
                              clear hb1
                              go_wp2_with fail
                              go_quiet (fail)
                              go_wp2_with fail
                              go_meet
                              exact ⟨F1, B1, G1, F3, B3, KN, EB.out, EB2.out, by have := NOW.out; omega, K11.out.grown (gb_drewQ _ _)⟩
                          · as_aux_lemma =>
                              obtain rfl : bb = true := by rw [← HBB.out]; simp [hb1]
                              clear hb1
                              obtain ⟨GT, hGT⟩ : ∃ GT, (G1.take Mq now').2 = GT := ⟨_, rfl⟩
                              have TK := hid (show G1.take Mq now' = (0, GT) from Prod.ext (take_zero CK.out NOW2.out.1 (by have := NOW2.out; have := HK40.out; omega)) hGT)
                              have TP := hid (tp_of (F := F1) EB.out TK.out)
                              have TR := hid (tr_of (F := F3) (c := c) (KN := KN) EB2.out TK.out (by have := NOW.out; have := HK40.out; omega))
                              clear hGT TK CK
                              go_wp2_with (refine wpList_row_w BP1.out Tryz.underlying39 rfl (by kernel_rfl) rfl rfl rfl rfl ?_)
                              refine (TP.out _ K11.out.p.gt).mono ?_
                              rintro e12 w13 ⟨rfl, F4, B4, hk4, e41, e42, hc4, hF4⟩
                              have BQ2 := hid (hc4.at BQ.out NQ1.out)
                              have K12 := hid (K11.out.tookP1 hk4 hc4 hF4)
                              have E41 := hid (e41.trans EB.out)
                              clear hk4 e41 e42 hc4 hF4 TP BP1 BQ r3
                              go_wp2_with (refine wpList_row_w BQ2.out Tryz.underlying39 rfl (by kernel_rfl) rfl rfl rfl rfl ?_)
                              refine (TR.out _ K12.out.p.gr).mono ?_
                              rintro e13 w14 ⟨rfl, F5, B5, hk5, e51, hc5, hF5⟩
                              have K13 := hid (K12.out.tookR1 hk5 hc5 hF5)
                              have E51 := hid (e51.trans EB2.out)
                              clear hk5 e51 hc5 hF5 TR BQ2 K12
                              go_wp2_with fail
                              go_meet
                              exact ⟨F4, B4, GT, F5, B5, KN + 1, E41.out, E51.out, by have := NOW.out; omega, K13.out⟩
                        · have d0 : (eq == 0) = false := by simpa using h0
                          have d0' : (eq != 0) = true := by simpa using h0
                          obtain rfl : bb = false := by rw [← HBB.out, d0]; rfl
                          clear h0
                          by_cases hb2 : bm = 2
                          · as_aux_lemma =>
                              subst hb2
                              obtain ⟨⟨kt, GT⟩, hTK⟩ : ∃ R, G1.take o.m now' = R := ⟨_, rfl⟩
                              have TP := hid (tp_of (F := F1) EB.out hTK)
                              have TR := hid (tr_of (F := F3) (c := c) (KN := KN) EB2.out hTK (by have := NOW.out; have := HK40.out; omega))
                              have dkk : (kt != kt) = false := by simp
                              have KD := hid K11.out.drew
                              have HBX := hid (show w12.drew.heap[xo]? = some (.cells #[.int .i64 o.k, .int .i64 o.who, .int .i64 o.a, .int .i64 o.b, .int .i64 o.v, .int .i64 o.m.kind, .int .i64 o.m.who, .int .i64 o.m.gen, .int .i64 o.m.seq, .int .i64 o.m.epoch, .int .i64 o.m.value, .int .i64 o.m.metric, o.sv] 42) from KD.out.b)
                              clear hTK r3 BP1 BQ NQ1 CK
                              go_wp2_with fail
                              refine wp_region_held_drew (S := (fun w' => (w'.heap[xo]? = some (.cells #[.int .i64 o.k, .int .i64 o.who, .int .i64 o.a, .int .i64 o.b, .int .i64 o.v, .int .i64 o.m.kind, .int .i64 o.m.who, .int .i64 o.m.gen, .int .i64 o.m.seq, .int .i64 o.m.epoch, .int .i64 o.m.value, .int .i64 o.m.metric, o.sv] 42)))) (by kernel_rfl) HBX.out (fun hHeld => ?_)
                              try dsimp only at hHeld
                              refine jU 0 hHeld ?_
                              try simp only [jX, jD, jE, jF]
                              refine jU 1 hHeld ?_
                              try simp only [jX, jD, jE, jF]
                              refine jU 2 hHeld ?_
                              try simp only [jX, jD, jE, jF]
                              refine jU 3 hHeld ?_
                              try simp only [jX, jD, jE, jF]
                              refine' jT 4 rfl (by rfl) ?_ hHeld ?_
                              rotate_left
                              · (intro w hSw; (try dsimp only at hSw); have bx := hSw; have q3 := at_cell bx 3; go_simp; try with_reducible rfl)
                              try simp only [jX, jD, jE, jF]
                              refine jU 5 hHeld ?_
                              try simp only [jX, jD, jE, jF]
                              refine jU 6 hHeld ?_
                              try simp only [jX, jD, jE, jF]
                              refine jU 7 hHeld ?_
                              try simp only [jX, jD, jE, jF]
                              refine jU 8 hHeld ?_
                              try simp only [jX, jD, jE, jF]
                              refine jU 9 hHeld ?_
                              try simp only [jX, jD, jE, jF]
                              refine jU 10 hHeld ?_
                              try simp only [jX, jD, jE, jF]
                              refine' jT 11 rfl (by rfl) ?_ hHeld ?_
                              rotate_left
                              · (intro w hSw; (try dsimp only at hSw); (try simp only [jD, jE, jF]); refine exec_mid (x := .tmp 262) (msg_mid hSw) Tryz.underlying39 rfl (by kernel_rfl) ?_ ?_ <;> rfl)
                              try simp only [jX, jD, jE, jF]
                              refine jU 12 hHeld ?_
                              try simp only [jX, jD, jE, jF]
                              refine jU 14 hHeld ?_
                              try simp only [jX, jD, jE, jF]
                              refine jU 15 hHeld ?_
                              try simp only [jX, jD, jE, jF]
                              refine' jT 16 rfl (by rfl) ?_ hHeld ?_
                              rotate_left
                              · (intro w hSw; (try dsimp only at hSw); (try simp only [jD, jE, jF]); refine exec_mid (x := .tmp 267) (msg_mid hSw) Tryz.underlying39 rfl (by kernel_rfl) ?_ ?_ <;> rfl)
                              try simp only [jX, jD, jE, jF]
                              refine jU 17 hHeld ?_
                              try simp only [jX, jD, jE, jF]
                              refine jR [13] ?_
                              refine jG rfl (fun K hK => ?_) AllReadyH.nil
                              try simp only [jD, jE, jF]
                              go_simp
                              have hH2 := hHeld
                              have bx := hH2
                              refine (TP.out _ KD.out.p.gt).mono ?_
                              rintro e w1013 ⟨rfl, F4, B4, hk4, e41, e42, hg, hF4⟩
                              have HNB := hid KD.out.n1
                              have K12 := hid (KD.out.tookP1 hk4 hg hF4)
                              have E41 := hid (e41.trans EB.out)
                              clear hk4 e41 e42 hF4
                              have L13 := hid (show (w1013.heap[xo]? = some (.cells #[.int .i64 o.k, .int .i64 o.who, .int .i64 o.a, .int .i64 o.b, .int .i64 o.v, .int .i64 o.m.kind, .int .i64 o.m.who, .int .i64 o.m.gen, .int .i64 o.m.seq, .int .i64 o.m.epoch, .int .i64 o.m.value, .int .i64 o.m.metric, o.sv] 42)) from (hg.at bx HNB.out))
                              clear hHeld hg bx
                              go_wp2_with fail
                              refine hK.out _ _ ?_ (fun hHeld => ?_)
                              · exact L13.out
                              clear hK K
                              try dsimp only at hHeld
                              try simp only [jX, jD, jE, jF]
                              refine jR [18] ?_
                              refine jG rfl (fun K hK => ?_) AllReadyH.nil
                              try simp only [jD, jE, jF]
                              go_simp
                              have hH2 := hHeld
                              have bx := hH2
                              refine (TR.out _ K12.out.p.gr).mono ?_
                              rintro e w1018 ⟨rfl, F5, B5, hk5, e51, hg, hF5⟩
                              replace HNB := hid K12.out.n2
                              have K13 := hid (K12.out.tookR1 hk5 hg hF5)
                              have E51 := hid (e51.trans EB2.out)
                              clear hk5 e51 hF5
                              have L18 := hid (show (w1018.heap[xo]? = some (.cells #[.int .i64 o.k, .int .i64 o.who, .int .i64 o.a, .int .i64 o.b, .int .i64 o.v, .int .i64 o.m.kind, .int .i64 o.m.who, .int .i64 o.m.gen, .int .i64 o.m.seq, .int .i64 o.m.epoch, .int .i64 o.m.value, .int .i64 o.m.metric, o.sv] 42)) from (hg.at bx HNB.out))
                              clear hHeld hg bx
                              go_wp2_with fail
                              refine hK.out _ _ ?_ (fun hHeld => ?_)
                              · exact L18.out
                              clear hK K
                              try dsimp only at hHeld
                              try simp only [jX, jD, jE, jF]
                              refine jU 19 hHeld ?_
                              try simp only [jX, jD, jE, jF]
                              refine jU 20 hHeld ?_
                              try simp only [jX, jD, jE, jF]
                              refine wpAnyH_done (by kernel_rfl) ?_ _
                              have bx := hHeld
                              clear bx
                              go_wp2_with fail
                              go_meet
                              exact ⟨F4, B4, GT, F5, B5, KN + 1, E41.out, E51.out, by have := NOW.out; omega, K13.out⟩
                          · as_aux_lemma =>
                              have d2 : (bm == 2) = false := by simpa using hb2
                              clear hb2
                              go_wp2_with fail
                              go_quiet (fail)
                              go_wp2_with fail
                              go_meet
                              exact ⟨F1, B1, G1, F3, B3, KN, EB.out, EB2.out, by have := NOW.out; omega, K11.out.grown (gb_drewQ _ _)⟩
            case first =>
              as_aux_lemma =>
                obtain ⟨q0, q1, q2, q3, q4, q12⟩ := K5.out.cells
                have hiM : i < ls.length := by rw [HM.out]; exact HI.out
                have hsl := K5.out.p.slr.at hiM
                have HSL := hid (K5.out.p.sls i hiM)
                have hiM' : (i : Int) < (M : Int) := by have := HI.out; omega
                by_cases h4 : kk < 4
                · as_aux_lemma =>
                    obtain ⟨a3, a30, a33, ea⟩ := umod_int o.a 3 (by omega)
                    have ea : (IntKind.u64.wrap o.a).tmod 3 = a3 := ea
                    obtain ⟨b5, b50, b55, eb⟩ := umod_int o.b 5 (by omega)
                    have eb : (IntKind.u64.wrap o.b).tmod 5 = b5 := eb
                    obtain ⟨v4, v40, v44, ev⟩ := umod_int o.v 10000 (by omega)
                    have ev : (IntKind.u64.wrap o.v).tmod 10000 = v4 := ev
                    have wa : IntKind.i64.wrap a3 = a3 := IntWalk.i64_in _ (by omega)
                    have wb : IntKind.i64.wrap b5 = b5 := IntWalk.i64_in _ (by omega)
                    have wv : IntKind.i64.wrap v4 = v4 := IntWalk.i64_in _ (by omega)
                    obtain ⟨e1, he1⟩ : ∃ e1, e1 = now + b5 := ⟨_, rfl⟩
                    have s1 : IntKind.i64.wrap (now + b5) = e1 := by rw [he1]; exact IntWalk.i64_in _ (by omega)
                    obtain ⟨e2, he2⟩ : ∃ e2, e2 = e1 - 1 := ⟨_, rfl⟩
                    have s2 : IntKind.i64.wrap (e1 - 1) = e2 := by rw [he2]; exact IntWalk.i64_in _ (by omega)
                    have CS := hid (rssample_any a3 e2 v4 w4.drew (K5.out.drew.p.sls i hiM))
                    have SZ := hid (sealB_le (sl1 i).k.a (sl1 i).k.b ((sl1 i).msg ((sl1 i).samp a3 e2 v4)))
                    change Hid (((sl1 i).out ((sl1 i).samp a3 e2 v4)).length ≤ 48) at SZ
                    have SE := hid (show ∀ (s' : Sl) (w1 : World), SlAt 108 w1 ls[i] s' → Chg [ls[i]] w4.drew w1 → Plb w x F1 B1 G1 F3 B3 c KN G1 (.slice (some ⟨gs, 0, none⟩) M css) ls (fun j => if j = i then s' else sl1 j) u10 st xo o w1 from fun s' w1 hs hc => K5.out.drew.sealed hiM hs hc)
                    have HNB := hid (show xo ∉ [ls[i]] by simpa using obj_ne K5.out.b (K5.out.p.sls i hiM).top (by decide))
                    have HNC := hid (show gs ∉ [ls[i]] by obtain ⟨cs9, e9⟩ := K5.out.p.slr.obj (g := gs) (by simp [ownL, Value.ownBlock]); simpa using obj_ne e9 (K5.out.p.sls i hiM).top (by decide))
                    have HBX := hid K5.out.b
                    unfold Opv.obj at HBX
                    rw [HSV.out] at HBX
                    generalize (sl1 i).out ((sl1 i).samp a3 e2 v4) = out at *
                    generalize (sl1 i).code ((sl1 i).samp a3 e2 v4) = co1 at *
                    generalize ls[i] = sbk at *
                    clear he1 he2 a30 a33 b50 b55 v40 v44 HSL
                    go_upto_region 23 with fail
                    refine wp_region_held_drew (S := (fun w' => (w'.heap[xo]? = some (.cells #[.int .i64 o.k, .int .i64 o.who, .int .i64 o.a, .int .i64 o.b, .int .i64 o.v, .int .i64 o.m.kind, .int .i64 o.m.who, .int .i64 o.m.gen, .int .i64 o.m.seq, .int .i64 o.m.epoch, .int .i64 o.m.value, .int .i64 o.m.metric, .slice psv o.s.length csv] 42)) ∧ (w'.cell? ⟨gs, i, none⟩ = some (.pointer (some ⟨sbk, 0, none⟩))))) (by kernel_rfl) ⟨HBX.out, hsl⟩ (fun hHeld => ?_)
                    try dsimp only at hHeld
                    refine jU 0 hHeld ?_
                    try simp only [jX, jD, jE, jF]
                    refine jU 1 hHeld ?_
                    try simp only [jX, jD, jE, jF]
                    refine jU 2 hHeld ?_
                    try simp only [jX, jD, jE, jF]
                    refine' jT 3 rfl (by rfl) ?_ hHeld ?_
                    rotate_left
                    · (intro w hSw; (try dsimp only at hSw); obtain ⟨bx, cg⟩ := hSw; have q2 := at_cell bx 2; have q3 := at_cell bx 3; have q4 := at_cell bx 4; go_simp; try with_reducible rfl)
                    try simp only [jX, jD, jE, jF]
                    refine jU 4 hHeld ?_
                    try simp only [jX, jD, jE, jF]
                    refine' jT 5 rfl (by rfl) ?_ hHeld ?_
                    rotate_left
                    · (intro w hSw; (try dsimp only at hSw); obtain ⟨bx, cg⟩ := hSw; have q2 := at_cell bx 2; have q3 := at_cell bx 3; have q4 := at_cell bx 4; go_simp; try with_reducible rfl)
                    try simp only [jX, jD, jE, jF]
                    refine jU 6 hHeld ?_
                    try simp only [jX, jD, jE, jF]
                    refine jU 7 hHeld ?_
                    try simp only [jX, jD, jE, jF]
                    refine jU 8 hHeld ?_
                    try simp only [jX, jD, jE, jF]
                    refine jU 9 hHeld ?_
                    try simp only [jX, jD, jE, jF]
                    refine jU 10 hHeld ?_
                    try simp only [jX, jD, jE, jF]
                    refine' jT 11 rfl (by rfl) ?_ hHeld ?_
                    rotate_left
                    · (intro w hSw; (try dsimp only at hSw); obtain ⟨bx, cg⟩ := hSw; have q2 := at_cell bx 2; have q3 := at_cell bx 3; have q4 := at_cell bx 4; go_simp; try with_reducible rfl)
                    try simp only [jX, jD, jE, jF]
                    refine jU 12 hHeld ?_
                    try simp only [jX, jD, jE, jF]
                    refine jU 13 hHeld ?_
                    try simp only [jX, jD, jE, jF]
                    refine jU 14 hHeld ?_
                    try simp only [jX, jD, jE, jF]
                    refine jU 15 hHeld ?_
                    try simp only [jX, jD, jE, jF]
                    refine jU 16 hHeld ?_
                    try simp only [jX, jD, jE, jF]
                    refine jU 17 hHeld ?_
                    try simp only [jX, jD, jE, jF]
                    refine' jT 18 rfl (by rfl) ?_ hHeld ?_
                    rotate_left
                    · (intro w hSw; (try dsimp only at hSw); obtain ⟨bx, cg⟩ := hSw; have q2 := at_cell bx 2; have q3 := at_cell bx 3; have q4 := at_cell bx 4; go_simp; try with_reducible rfl)
                    try simp only [jX, jD, jE, jF]
                    refine jU 19 hHeld ?_
                    try simp only [jX, jD, jE, jF]
                    refine jU 20 hHeld ?_
                    try simp only [jX, jD, jE, jF]
                    refine jU 21 hHeld ?_
                    try simp only [jX, jD, jE, jF]
                    refine jR [22] ?_
                    refine jG rfl (fun K hK => ?_) AllReadyH.nil
                    try simp only [jD, jE, jF]
                    go_simp
                    have hH2 := hHeld
                    obtain ⟨bx, cg⟩ := hH2
                    refine (CS.out).mono ?_
                    rintro e w1022 ⟨rfl, hs, hg⟩
                    have P5 := hid (SE.out _ _ hs hg)
                    clear hs
                    have L22 := hid (show (w1022.heap[xo]? = some (.cells #[.int .i64 o.k, .int .i64 o.who, .int .i64 o.a, .int .i64 o.b, .int .i64 o.v, .int .i64 o.m.kind, .int .i64 o.m.who, .int .i64 o.m.gen, .int .i64 o.m.seq, .int .i64 o.m.epoch, .int .i64 o.m.value, .int .i64 o.m.metric, .slice psv o.s.length csv] 42)) ∧ (w1022.cell? ⟨gs, i, none⟩ = some (.pointer (some ⟨sbk, 0, none⟩))) from ⟨hg.at bx HNB.out, hg.cell cg HNC.out⟩)
                    clear hHeld hg bx cg
                    go_wp2_with fail
                    refine hK.out _ _ ?_ (fun hHeld => ?_)
                    · exact L22.out
                    clear hK K
                    try dsimp only at hHeld
                    try simp only [jX, jD, jE, jF]
                    refine jU 23 hHeld ?_
                    try simp only [jX, jD, jE, jF]
                    refine jU 24 hHeld ?_
                    try simp only [jX, jD, jE, jF]
                    refine jU 25 hHeld ?_
                    try simp only [jX, jD, jE, jF]
                    refine jU 26 hHeld ?_
                    try simp only [jX, jD, jE, jF]
                    refine wpAnyH_done (by kernel_rfl) ?_ _
                    obtain ⟨bx, cg⟩ := hHeld
                    clear bx cg CS SE
                    go_wp2_with fail
                    go_meet
                    exact ⟨now, _, _, rfl, rfl, Nat.le_trans (Nat.le_of_eq (by show out.toArray.size = out.length; simp)) (Nat.le_trans SZ.out (by omega)), by have := NOW.out; omega, by have := NOW.out; omega, P5.out⟩
                · have d4 : ¬ kk < 4 := h4
                  by_cases h44 : kk = 4
                  · as_aux_lemma =>
                      subst h44
                      have CS := hid (rsrotate_any now w4 (K5.out.p.sls i hiM))
                      have SZ := hid (sealB_le (sl1 i).k.a (sl1 i).k.b ((sl1 i).msg ((sl1 i).rota now)))
                      change Hid (((sl1 i).out ((sl1 i).rota now)).length ≤ 48) at SZ
                      have SE := hid (show ∀ (s' : Sl) (w1 : World), SlAt 108 w1 ls[i] s' → Chg [ls[i]] w4 w1 → Plb w x F1 B1 G1 F3 B3 c KN G1 (.slice (some ⟨gs, 0, none⟩) M css) ls (fun j => if j = i then s' else sl1 j) u10 st xo o w1 from fun s' w1 hs hc => K5.out.sealed hiM hs hc)
                      generalize (sl1 i).out ((sl1 i).rota now) = out at *
                      generalize (sl1 i).code ((sl1 i).rota now) = co1 at *
                      generalize ls[i] = sbk at *
                      clear HSL
                      go_wp2_with fail
                      refine CS.out.mono ?_
                      rintro e w5 ⟨rfl, hs, hc⟩
                      have P5 := hid (SE.out _ _ hs hc)
                      clear hs hc CS SE q0 q1 q2 q3 q4 q12 hsl
                      go_wp2_with fail
                      go_meet
                      exact ⟨now, _, _, rfl, rfl, Nat.le_trans (Nat.le_of_eq (by show out.toArray.size = out.length; simp)) (Nat.le_trans SZ.out (by omega)), by have := NOW.out; omega, by have := NOW.out; omega, P5.out⟩
                  · have d44 : (kk == 4) = false := by simpa using h44
                    clear hsl HSL hiM hiM'
                    obtain ⟨pt, ct, hvt⟩ := K5.out.p.snt.form
                    have est := EST.out
                    rw [est] at hvt
                    subst hvt
                    by_cases h7 : kk < 7 ∧ 0 < k
                    · obtain ⟨h7a, h7b⟩ := h7
                      have h7c : (0 : Int) < (k : Int) := by omega
                      obtain ⟨gt, ct', cts, hgt, hct, -, -, -⟩ := K5.out.p.snt.full (by omega)
                      rw [est] at hgt hct
                      cases hgt
                      obtain ⟨j, hj, hja⟩ := umod_small o.a k h7b
                      have hkw : IntKind.u64.wrap (k : Int) = (k : Int) := IntWalk.u64_in _ (by omega)
                      have hkz : ¬ (k : Int) = 0 := by omega
                      have hjk : (j : Int) < (k : Int) := by omega
                      have hjs : j < st.length := by omega
                      have hst := K5.out.p.snt.at hjs
                      have HS0 := hid (HST.out _ (List.getElem_mem hjs))
                      generalize st[j] = s0 at *
                      clear hj hjs hct
                      by_cases h6 : kk = 6 ∧ 0 < s0.size
                      · as_aux_lemma =>
                          obtain ⟨h6a, h6b⟩ := h6
                          subst h6a
                          have h6i : (0 : Int) < (s0.size : Int) := by omega
                          obtain ⟨l0, hl0⟩ : ∃ l0, s0.data.toList = l0 := ⟨_, rfl⟩
                          have hl0n : l0.length = s0.size := by rw [← hl0]; simp
                          have hs100 : s0.size ≤ 100000 := by have := HS0.out; omega
                          obtain ⟨jb, hjb, ejb⟩ := umod_small o.b s0.size h6b
                          have hsw : IntKind.u64.wrap (s0.size : Int) = (s0.size : Int) := IntWalk.u64_in _ (by omega)
                          have hsz : ¬ (s0.size : Int) = 0 := by omega
                          have hjs : (jb : Int) < (s0.size : Int) := by omega
                          obtain ⟨v2, v20, v21, e255⟩ := umod_int o.v 255 (by omega)
                          have e255 : (IntKind.u64.wrap o.v).tmod 255 = v2 := e255
                          obtain ⟨n1, hn1⟩ : ∃ n1, n1 = 1 + v2 := ⟨_, rfl⟩
                          have w1v : IntKind.u64.wrap (1 + v2) = n1 := by rw [hn1]; exact IntWalk.u64_in _ (by omega)
                          obtain ⟨tb, htb⟩ : ∃ tb : UInt8, n1 = (tb.toNat : Int) := ⟨UInt8.ofNat n1.toNat, by simp [UInt8.toNat_ofNat]; omega⟩
                          have w8v : IntKind.u8.wrap n1 = (tb.toNat : Int) := by rw [← htb]; simp [IntKind.wrap, IntKind.bits, IntKind.signed]; omega
                          obtain ⟨xb, hxb⟩ : ∃ xb, l0[jb]? = some xb := ⟨_, List.getElem?_eq_getElem (by omega)⟩
                          have hxor := v8_xor xb tb
                          clear hn1 v20 v21 htb q0 q1 h6b
                          go_upto_region 29 with fail
                          obtain ⟨c9, w9, hcv, hcc, hcm, hg9, hlt9, cs9, f9, hb9, hf9, hx9⟩ := conv_str2 s0 l0 hl0 hs100 w4
                          have K9 := hid (K5.out.grown hg9)
                          obtain ⟨z0, z1, z2, z3, z4, z12⟩ := K9.out.cells
                          have cK : w9.cell? ⟨w4.heap.size, jb, none⟩ = some (.int .u8 (xb.toNat : Int)) := by rw [at_cell hb9]; exact hx9 jb xb hxb
                          have fK := hf9 jb (by omega)
                          have HB9 := hid hb9
                          have HX9 := hid hx9
                          have HNEW := hid (show xo ≠ w4.heap.size from fun e => by have := at_lt K5.out.b; omega)
                          have HG9 := hid hg9
                          clear hb9 hx9 hf9 hlt9 q2 q3 q4 q12 hst
                          have HGS := hid (fun (v : Value) => gb_new HG9.out (p := ⟨w4.heap.size, jb, none⟩) (Nat.le_refl _) v)
                          have HXB := hid hxb
                          generalize w4.heap.size = yb at *
                          go_wp2_with fail
                          go_region
                          have hb10 := at_set HB9.out jb (Value.int .u8 ((xb.toNat ^^^ tb.toNat : Nat) : Int))
                          have hjs9 : jb < cs9.size := (Array.getElem?_eq_some_iff.1 (HX9.out jb xb HXB.out)).1
                          have hby := bytes_blk (w := (w9.setCell ⟨yb, jb, none⟩ (Value.int .u8 ((xb.toNat ^^^ tb.toNat : Nat) : Int))).drew) (l := l0.set jb (xb ^^^ tb)) hb10 (by rw [List.length_set, hl0n]) hcc hcm (fun j y hy => by
                            by_cases e : jb = j
                            · subst e
                              rw [List.getElem?_set_self (by omega)] at hy
                              cases hy
                              rw [Array.getElem?_setIfInBounds, if_pos rfl, if_pos hjs9, UInt8.toNat_xor]
                            · rw [Array.getElem?_setIfInBounds, if_neg e]
                              rw [List.getElem?_set_ne e] at hy
                              exact HX9.out j y hy)
                          have HK := K5.out.grown (gb_drew (HGS.out (Value.int .u8 ((xb.toNat ^^^ tb.toNat : Nat) : Int))))
                          have HSZ := hid (show (⟨(l0.set jb (xb ^^^ tb)).toArray⟩ : ByteArray).size ≤ 60 by show (l0.set jb (xb ^^^ tb)).toArray.size ≤ 60; rw [List.size_toArray, List.length_set, hl0n]; exact HS0.out)
                          obtain ⟨w10, hw10⟩ : ∃ w10, w10 = (w9.setCell ⟨yb, jb, none⟩ (Value.int .u8 ((xb.toNat ^^^ tb.toNat : Nat) : Int))).drew := ⟨_, rfl⟩
                          rw [← hw10] at hby HK ⊢
                          have cv := conv_bytes hby
                          have K10 := hid HK
                          generalize l0.set jb (xb ^^^ tb) = l1 at *
                          clear hw10 hb10 hby HK HGS K9 z0 z1 z2 z3 z4 z12 hcv cK fK HB9 HX9 HXB
                          go_wp2_with fail
                          go_meet
                          exact ⟨now, ⟨l1.toArray⟩, _, rfl, rfl, HSZ.out, by have := NOW.out; omega, by have := NOW.out; omega, K10.out⟩
                      · have h56 : kk = 5 ∨ (kk = 6 ∧ s0.size = 0) := by omega
                        rcases h56 with h5 | ⟨h5, h5s⟩
                        · as_aux_lemma =>
                            subst h5
                            clear h6
                            go_wp2_with fail
                            go_meet
                            exact ⟨now, _, _, rfl, rfl, HS0.out, by have := NOW.out; omega, by have := NOW.out; omega, K5.out⟩
                        · as_aux_lemma =>
                            subst h5
                            clear h6
                            have h5i : ¬ (0 : Int) < (s0.size : Int) := by omega
                            go_wp2_with fail
                            go_meet
                            exact ⟨now, _, _, rfl, rfl, HS0.out, by have := NOW.out; omega, by have := NOW.out; omega, K5.out⟩
                    · by_cases h77 : kk = 7
                      · as_aux_lemma =>
                          subst h77
                          obtain ⟨nw, hnw⟩ : ∃ nw, nw = now + 1 := ⟨_, rfl⟩
                          have snw : IntKind.i64.wrap (now + 1) = nw := by rw [hnw]; exact IntWalk.i64_in _ (by omega)
                          have HNW := hid hnw
                          clear h7 hnw
                          go_wp2_with fail
                          go_meet
                          exact ⟨nw, ⟨#[]⟩, _, rfl, rfl, by decide, by have := NOW.out; have := HNW.out; omega, by have := NOW.out; have := HNW.out; omega, K5.out⟩
                      · have d77 : (kk == 7) = false := by simpa using h77
                        by_cases h88 : kk = 8
                        · as_aux_lemma =>
                            subst h88
                            obtain ⟨y5, y6, y7, y8, y9, y10, y11⟩ := K5.out.msg
                            obtain ⟨w16, w160, w161, e16⟩ := umod_int o.m.who 16 (by omega)
                            have e16 : (IntKind.u64.wrap o.m.who).tmod 16 = w16 := e16
                            have u16w : IntKind.i64.wrap w16 = w16 := IntWalk.i64_in _ (by omega)
                            have x25 : w4.cell? ⟨x, 25, none⟩ = some (.int .u64 c.seed) := at_cell K5.out.p.box 25
                            rw [seed_q FN.out.seed] at x25
                            have EOF := hid (fun u => refof_any (sdOf c) w16 o.m.gen u)
                            have ESL := hid (fun u => rseal_all (ofOf (sdOf c) w16 o.m.gen).a (ofOf (sdOf c) w16 o.m.gen).b ⟨o.m.kind, w16, o.m.gen, o.m.seq, o.m.epoch, o.m.value, o.m.metric⟩ u)
                            have SZ := hid (sealB_le (ofOf (sdOf c) w16 o.m.gen).a (ofOf (sdOf c) w16 o.m.gen).b ⟨o.m.kind, w16, o.m.gen, o.m.seq, o.m.epoch, o.m.value, o.m.metric⟩)
                            generalize sealB (ofOf (sdOf c) w16 o.m.gen).a (ofOf (sdOf c) w16 o.m.gen).b ⟨o.m.kind, w16, o.m.gen, o.m.seq, o.m.epoch, o.m.value, o.m.metric⟩ = out at *
                            generalize (ofOf (sdOf c) w16 o.m.gen).a = ka at *
                            generalize (ofOf (sdOf c) w16 o.m.gen).b = kb at *
                            clear w160 w161 h7 q0 q1 q2 q3 q4 q12
                            go_upto_region 37 with fail
                            have TG := hid (Plb.drew <| K5.out.grown (World.grownBy_alloc w4 (.cells #[.int .i64 o.m.kind, .int .i64 w16, .int .i64 o.m.gen, .int .i64 o.m.seq, .int .i64 o.m.epoch, .int .i64 o.m.value, .int .i64 o.m.metric] 39) none))
                            have BM := hid (at_new w4 (.cells #[.int .i64 o.m.kind, .int .i64 w16, .int .i64 o.m.gen, .int .i64 o.m.seq, .int .i64 o.m.epoch, .int .i64 o.m.value, .int .i64 o.m.metric] 39))
                            have X25 := hid ((World.grownBy_alloc w4 (.cells #[.int .i64 o.m.kind, .int .i64 w16, .int .i64 o.m.gen, .int .i64 o.m.seq, .int .i64 o.m.epoch, .int .i64 o.m.value, .int .i64 o.m.metric] 39) none).cell x25 (by simp))
                            clear y5 y6 y7 y8 y9 y10 y11 x25
                            generalize w4.alloc (.cells #[.int .i64 o.m.kind, .int .i64 w16, .int .i64 o.m.gen, .int .i64 o.m.seq, .int .i64 o.m.epoch, .int .i64 o.m.value, .int .i64 o.m.metric] 39) = w5 at *
                            generalize w4.heap.size = xm at *
                            refine wp_region_held_drew (S := (fun w' => (w'.cell? ⟨x, 25, none⟩ = some (.int .u64 (q (sdOf c)))) ∧ (w'.heap[xm]? = some (.cells #[.int .i64 o.m.kind, .int .i64 w16, .int .i64 o.m.gen, .int .i64 o.m.seq, .int .i64 o.m.epoch, .int .i64 o.m.value, .int .i64 o.m.metric] 39)))) (by kernel_rfl) ⟨X25.out, BM.out⟩ (fun hHeld => ?_)
                            try dsimp only at hHeld
                            refine jU 0 hHeld ?_
                            try simp only [jX, jD, jE, jF]
                            refine jU 1 hHeld ?_
                            try simp only [jX, jD, jE, jF]
                            refine jU 2 hHeld ?_
                            try simp only [jX, jD, jE, jF]
                            refine' jT 3 rfl (by rfl) ?_ hHeld ?_
                            rotate_left
                            · (intro w hSw; (try dsimp only at hSw); obtain ⟨x25, bm⟩ := hSw; have m1 := at_cell bm 1; go_simp; try with_reducible rfl)
                            try simp only [jX, jD, jE, jF]
                            refine jU 4 hHeld ?_
                            try simp only [jX, jD, jE, jF]
                            refine' jT 5 rfl (by rfl) ?_ hHeld ?_
                            rotate_left
                            · (intro w hSw; (try dsimp only at hSw); obtain ⟨x25, bm⟩ := hSw; have m2 := at_cell bm 2; go_simp; try with_reducible rfl)
                            try simp only [jX, jD, jE, jF]
                            refine' jT 7 rfl (by rfl) ?_ hHeld ?_
                            rotate_left
                            · (intro w hSw; (try dsimp only at hSw); (try simp only [jD, jE, jF]); refine exec_row (x := .tmp 18) hSw.2 Tryz.underlying39 rfl (by kernel_rfl) ?_ ?_ <;> rfl)
                            try simp only [jX, jD, jE, jF]
                            refine jR [6] ?_
                            refine jG rfl (fun K hK => ?_) AllReadyH.nil
                            try simp only [jD, jE, jF]
                            go_simp
                            have hH2 := hHeld
                            obtain ⟨x25, bm⟩ := hH2
                            refine (EOF.out _).mono ?_
                            rintro e w1006 ⟨rfl, hg⟩
                            replace TG := hid (TG.out.grown hg)
                            have L6 := hid (show (w1006.cell? ⟨x, 25, none⟩ = some (.int .u64 (q (sdOf c)))) ∧ (w1006.heap[xm]? = some (.cells #[.int .i64 o.m.kind, .int .i64 w16, .int .i64 o.m.gen, .int .i64 o.m.seq, .int .i64 o.m.epoch, .int .i64 o.m.value, .int .i64 o.m.metric] 39)) from ⟨hg.cell x25 (by simp), at_grown bm hg (by simp)⟩)
                            clear hHeld hg x25 bm
                            go_wp2_with fail
                            refine hK.out _ _ ?_ (fun hHeld => ?_)
                            · exact L6.out
                            clear hK K
                            try dsimp only at hHeld
                            try simp only [jX, jD, jE, jF]
                            refine jR [8] ?_
                            refine jG rfl (fun K hK => ?_) AllReadyH.nil
                            try simp only [jD, jE, jF]
                            go_simp
                            have hH2 := hHeld
                            obtain ⟨x25, bm⟩ := hH2
                            refine (ESL.out _).mono ?_
                            rintro e w1008 ⟨rfl, hg⟩
                            replace TG := hid (TG.out.grown hg)
                            have L8 := hid (show (w1008.cell? ⟨x, 25, none⟩ = some (.int .u64 (q (sdOf c)))) ∧ (w1008.heap[xm]? = some (.cells #[.int .i64 o.m.kind, .int .i64 w16, .int .i64 o.m.gen, .int .i64 o.m.seq, .int .i64 o.m.epoch, .int .i64 o.m.value, .int .i64 o.m.metric] 39)) from ⟨hg.cell x25 (by simp), at_grown bm hg (by simp)⟩)
                            clear hHeld hg x25 bm
                            go_wp2_with fail
                            refine hK.out _ _ ?_ (fun hHeld => ?_)
                            · exact L8.out
                            clear hK K
                            try dsimp only at hHeld
                            try simp only [jX, jD, jE, jF]
                            refine jU 9 hHeld ?_
                            try simp only [jX, jD, jE, jF]
                            refine jU 10 hHeld ?_
                            try simp only [jX, jD, jE, jF]
                            refine jU 11 hHeld ?_
                            try simp only [jX, jD, jE, jF]
                            refine jU 12 hHeld ?_
                            try simp only [jX, jD, jE, jF]
                            refine wpAnyH_done (by kernel_rfl) ?_ _
                            obtain ⟨x25, bm⟩ := hHeld
                            clear x25 bm
                            go_wp2_with fail
                            go_meet
                            exact ⟨now, ⟨out.toArray⟩, _, rfl, rfl, Nat.le_trans (Nat.le_of_eq (by show out.toArray.size = out.length; simp)) (Nat.le_trans SZ.out (by omega)), by have := NOW.out; omega, by have := NOW.out; omega, TG.out⟩
                        · have d88 : (kk == 8) = false := by simpa using h88
                          have hdef : (¬ kk < 7) ∨ (kk < 7 ∧ ¬ (0 : Int) < (k : Int)) := by omega
                          rw [HSV.out] at q12
                          by_cases hlong : 60 < o.s.length
                          · as_aux_lemma =>
                              have hl60 : (60 : Int) < (o.s.length : Int) := by omega
                              clear hlong h7
                              rcases hdef with h70 | ⟨h70, h71⟩
                              all_goals
                                as_aux_lemma =>
                                  go_wp2_with fail
                                  refine (vtold_any _).mono ?_
                                  rintro e9 w9 ⟨rfl, hg⟩
                                  have G9 := hid (K5.out.p.grown hg).g
                                  clear hg K5
                                  go_wp2_with fail
                                  go_ret
                                  exact ⟨rfl, G9.out⟩
                          · as_aux_lemma =>
                              have hl60 : ¬ (60 : Int) < (o.s.length : Int) := by omega
                              have SZ := hid (show o.s.length ≤ 60 by omega)
                              have cv := conv_bytes HBY.out
                              clear hlong h7
                              rcases hdef with h70 | ⟨h70, h71⟩
                              all_goals
                                as_aux_lemma =>
                                  go_wp2_with fail
                                  go_meet
                                  exact ⟨now, ⟨o.s.toArray⟩, _, rfl, rfl, Nat.le_trans (Nat.le_of_eq (by show o.s.toArray.size = o.s.length; simp)) SZ.out, by have := NOW.out; omega, by have := NOW.out; omega, K5.out⟩
          · have dl : decide ((k : Int) < (n : Int)) = false := by simpa using hlt
            go_wp2_with fail
            refine (vtold_any _).mono ?_
            rintro e9 w9 ⟨rfl, hg⟩
            have G9 := hid (K5.out.grown hg).g; clear hg K5
            go_wp2_with fail
            go_ret
            exact ⟨rfl, G9.out⟩
end Go.Proofs.YtgpdcapnnejdeaaGreat.vplays
