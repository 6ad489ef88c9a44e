/-
  Contract: the law's own examples: the program tells what the document says of a few envelopes that come to a gate. No condition.
-/
import Derived.Test.YtgpdcapnnejdeaaGreatY19
import Derived.Test.YtgpdcapnnejdeaaGreatNCfFit
import Derived.Test.YtgpdcapnnejdeaaGreatY2
import Derived.Deep.CutRange
set_option linter.unusedSimpArgs false
set_option linter.unusedVariables false
namespace Go.Proofs.YtgpdcapnnejdeaaGreat
set_option maxRecDepth 100000
open Go.RowKit

section
variable {P : Program} {ops : Array Oper} {rest : List Oper} {o : Oper} {a : Act} {w : World} {Q : Exit → Act → World → Prop} {ty : TypeId} {dst : Option Tmp} {cs : Array Value}
theorem wpList_buildTo_w {parts : Array (Nat × Operand)} (hw : Region.wanted o (yielded ops a.tmps) = true) (ho : o.op = .build ty parts) (hdst : o.dst = dst)
  (hb : P.built ty (parts.map fun (i, x) => (i, a.eval x)).toList = some cs)
  (k : wpList P ops Q rest (a.put dst (.agg cs)) w) : wpList P ops Q (o :: rest) a w := by
 subst hdst
 refine wpList_step fun K hK => ?_
 simp only [hw, if_true]
 unfold Oper.wp
 have e : (execOp a.eval o).run P w = .ok (.value (.agg cs)) w := by
  have e0 := run_build (P := P) w ty (parts.map fun (i, x) => (i, a.eval x)) cs hb
  simp only [execOp, ho, Sem.run_bind, e0, Sem.run_pure, Result.andThen_ok]
 rw [e, Oper.upon_value]
 exact hK _ _ k
end
def tg0 : Gt := .new 1#64 4 2 32 1 2
def tq0 : Sl := .new 1 2
def tq1 : Sl := ⟨1, 2, 0, 1⟩
def tq2 : Sl := ⟨1, 2, 1, 0⟩
def tvS : Mg := ⟨1, 2, 0, 1, 1, 9, 0⟩
def tvR : Mg := ⟨2, 2, 1, 2, 1, 0, 0⟩
def tvK : Two64 := ofOf 1 2 0
def tg1 : Gt := (tg0.take tvS 0).2
def tg2 : Gt := (tg1.take tvR 0).2
def nobody (_ : Int) : Bool := false
theorem tv_samp {w : World} {b : Nat} (H : SlAt 145 w b tq0) : Calls Tryz.prog 31 #[.pointer (some ⟨b, 0, none⟩), .int .i64 0, .int .i64 1, .int .i64 9] w (LeavesS w b (sealOf tvK.a tvK.b tvS) 0 tq1) := by
 have h := ssample_yes 0 1 9 (by decide +kernel) w H
 rw [show tq0.msg (tq0.samp 0 1 9) = tvS from rfl, show tq0.k = tvK from rfl, show (⟨tq0.seed, tq0.who, tq0.gen, tq0.seq + 1⟩ : Sl) = tq1 from rfl] at h
 exact h
theorem tv_rot {w : World} {b : Nat} (H : SlAt 145 w b tq1) : Calls Tryz.prog 32 #[.pointer (some ⟨b, 0, none⟩), .int .i64 1] w (LeavesS w b (sealOf tvK.a tvK.b tvR) 0 tq2) := by
 have h := srotate_yes 1 (by decide +kernel) w H
 rw [show tq1.msg (tq1.rota 1) = tvR from rfl, show tq1.k = tvK from rfl, show (⟨tq1.seed, tq1.who, tq1.gen + 1, 0⟩ : Sl) = tq2 from rfl] at h
 exact h
theorem tv_key0 : tg0.key tvS = tvK := by
 show ofOf tg0.r.seed ((tvS.who.toNat : Nat) : Int) (sealedOf tvS) = ofOf 1 2 0
 rw [show tg0.r.seed = 1 by decide +kernel, show ((tvS.who.toNat : Nat) : Int) = 2 by decide +kernel, show sealedOf tvS = 0 by decide +kernel]
theorem tv_key1 : tg1.key tvS = tvK := by
 show ofOf tg1.r.seed ((tvS.who.toNat : Nat) : Int) (sealedOf tvS) = ofOf 1 2 0
 rw [show tg1.r.seed = 1 by decide +kernel, show ((tvS.who.toNat : Nat) : Int) = 2 by decide +kernel, show sealedOf tvS = 0 by decide +kernel]
theorem tv_key2 : tg1.key tvR = tvK := by
 show ofOf tg1.r.seed ((tvR.who.toNat : Nat) : Int) (sealedOf tvR) = ofOf 1 2 0
 rw [show tg1.r.seed = 1 by decide +kernel, show ((tvR.who.toNat : Nat) : Int) = 2 by decide +kernel, show sealedOf tvR = 0 by decide +kernel]
theorem tv_c1 : tg0.check (sealOf tvK.a tvK.b tvS) 0 nobody = (tvS, 0) := by
 rw [check_own tg0 tvS 0 nobody tvK tv_key0 (by decide +kernel), if_neg (by decide +kernel), if_neg (by decide +kernel), if_neg (by decide +kernel), if_neg (by decide +kernel), if_neg (by decide +kernel)]
theorem tv_c2 : tg0.check (sealOf tvK.a tvK.b tvS) 2 nobody = (zeroM, 7) := by
 rw [check_own tg0 tvS 2 nobody tvK tv_key0 (by decide +kernel), if_neg (by decide +kernel), if_neg (by decide +kernel), if_neg (by decide +kernel), if_pos (by decide +kernel)]
theorem tv_c3 : tg0.check (sealOf tvK.a tvK.b tvS) 0 (fun x => x == 2) = (zeroM, 3) := by
 rw [check_own tg0 tvS 0 (fun x => x == 2) tvK tv_key0 (by decide +kernel), if_pos (by decide +kernel)]
theorem tv_c4 : tg1.check (sealOf tvK.a tvK.b tvS) 0 nobody = (zeroM, 6) := by
 rw [check_own tg1 tvS 0 nobody tvK tv_key1 (by decide +kernel), if_neg (by decide +kernel), if_neg (by decide +kernel), if_pos (by decide +kernel)]
theorem tv_c5 : tg1.check [] 0 nobody = (zeroM, 2) := check_bad _ _ _ _ (by decide)
theorem tv_c6 (x : UInt8) (hx : (sealOf tvK.a tvK.b tvS)[40]? ≠ some x) : tg1.check ((sealOf tvK.a tvK.b tvS).set 40 x) 0 nobody = (zeroM, 5) :=
 check_turned tg1 tvS 0 nobody tvK tv_key1 (by decide +kernel) (by decide) (by decide) hx (by decide +kernel) rfl (by decide +kernel)
theorem tv_c7 : tg1.check (sealOf tvK.a tvK.b tvR) 0 nobody = (tvR, 0) := by
 rw [check_own tg1 tvR 0 nobody tvK tv_key2 (by decide +kernel), if_neg (by decide +kernel), if_neg (by decide +kernel), if_neg (by decide +kernel), if_neg (by decide +kernel), if_neg (by decide +kernel)]
theorem tv_t1 : (tg0.take tvS 0).1 = 0 := by decide +kernel
theorem tv_t2 : (tg1.take tvR 0).1 = 0 := by decide +kernel
theorem tv_end : tg2.r.gen 2 = 1 ∧ (tg2.now 2).top = 0 ∧ (tg2.old 2).top = 2 ∧ tg2.r.n = 4 := by decide +kernel
theorem tv_check {F : List Nat} {B : GBl} {G : Gt} {bg : Nat} (hB : B.g = bg) (v : Value) (l : List UInt8) (now : Int) (m : Mg) (c : Int) (h : G.check l now nobody = (m, c)) (hn : -9223372036854775808 ≤ now) (w : World) (K : GtAt w F B G) (hl : BytesAt w v l) :
  Calls Tryz.prog 18 #[.pointer (some ⟨bg, 0, none⟩), v, .int .i64 now, .nilFunc] w fun e w' => e = .returned (.tuple #[mg m, .int .i64 c]) ∧ w.grownBy w' none := by
 subst hB
 have := gcheck_any v .nilFunc l nobody now w K hl hn (fun x u => isout_nil x u)
 rw [h] at this
 exact this
theorem tv_checkO {F : List Nat} {B : GBl} {G : Gt} {bg : Nat} (hB : B.g = bg) (v : Value) (l : List UInt8) (now : Int) (m : Mg) (c : Int) (h : G.check l now (fun x => x == 2) = (m, c)) (hn : -9223372036854775808 ≤ now) (w : World) (K : GtAt w F B G) (hl : BytesAt w v l) :
  Calls Tryz.prog 18 #[.pointer (some ⟨bg, 0, none⟩), v, .int .i64 now, (.func (.func 38) #[] #[])] w fun e w' => e = .returned (.tuple #[mg m, .int .i64 c]) ∧ w.grownBy w' none := by
 subst hB
 have := gcheck_any v (.func (.func 38) #[] #[]) l (fun x => x == 2) now w K hl hn (fun x u => isout_two x u)
 rw [h] at this
 exact this
theorem tv_take {w0 : World} {F : List Nat} {B : GBl} {G G' : Gt} {b bg : Nat} {s : Sl} {bs : List (Nat × Obj)} {ys : List (Value × List UInt8)} (hB : B.g = bg) (m : Mg) (now c : Int) (h : G.take m now = (c, G')) (w : World) (K : Kv w0 F B G b s bs ys w) :
  Calls Tryz.prog 20 #[.pointer (some ⟨bg, 0, none⟩), mg m, .int .i64 now] w fun e w' => e = .returned (.int .i64 c) ∧ ∃ F' B', B'.g = bg ∧ Kv w0 F' B' G' b s bs ys w' := by
 subst hB
 refine (gtake_any m now w K.gt).mono fun e w' hl => ?_
 rw [h] at hl
 obtain ⟨he, F', B', e1, e2, K'⟩ := K.took hl
 exact ⟨he, F', B', e1, K'⟩
theorem tv_ring {F : List Nat} {B : GBl} {G : Gt} {bg : Nat} (hB : B.g = bg) (w : World) (K : GtAt w F B G) :
  Calls Tryz.prog 22 #[.pointer (some ⟨bg, 0, none⟩)] w fun e w' => e = .returned (.pointer (some ⟨B.rb, 0, none⟩)) ∧ w = w' := hB ▸ gring_any w K
theorem tv_replay {F : List Nat} {B : GBl} {G : Gt} {bg : Nat} (hB : B.g = bg) (i : Nat) (hi : i < G.r.n) (w : World) (K : GtAt w F B G) :
  Calls Tryz.prog 23 #[.pointer (some ⟨bg, 0, none⟩), .int .i64 (i : Int)] w fun e w' => e = .returned (.pointer (some ⟨B.A i, 0, none⟩)) ∧ w.grownBy w' none := hB ▸ greplay_in i w K hi
theorem tv_old {F : List Nat} {B : GBl} {G : Gt} {bg : Nat} (hB : B.g = bg) (i : Nat) (hi : i < G.r.n) (w : World) (K : GtAt w F B G) :
  Calls Tryz.prog 24 #[.pointer (some ⟨bg, 0, none⟩), .int .i64 (i : Int)] w fun e w' => e = .returned (.pointer (some ⟨B.O i, 0, none⟩)) ∧ w.grownBy w' none := hB ▸ gold_in i w K hi
theorem tv_replay9 {F : List Nat} {B : GBl} {G : Gt} {bg : Nat} (hB : B.g = bg) (h4 : G.r.n = 4) (w : World) (K : GtAt w F B G) :
  Calls Tryz.prog 23 #[.pointer (some ⟨bg, 0, none⟩), .int .i64 9] w fun e w' => e = .returned (.pointer none) ∧ w = w' := hB ▸ greplay_out 9 w K (by rw [h4]; decide)
theorem tv_new (w : World) : Calls Tryz.prog 10 #[cf dflt] w (MadeG w tg0) :=
 gnew_ok dflt 1#64 4 2 32 1 2 (by decide +kernel) rfl rfl rfl rfl rfl rfl (by decide) (by decide) (by decide) (by decide) (by decide) (by decide) (by decide) (by decide) (by decide) (by decide) w
theorem tv_zero (w : World) : Calls Tryz.prog 10 #[cf zeroC] w fun e w' => e = .returned (.pointer none) ∧ w.grownBy w' none := gnew_nil zeroC (by decide +kernel) w
set_option maxHeartbeats 6400000 in
theorem vtold_any (w : World) : Calls Tryz.prog 12 #[] w fun e w' => e = .returned (.bool true) ∧ w.grownBy w' none := by
 have TC1 := hid tv_c1; have TC2 := hid tv_c2; have TC3 := hid tv_c3; have TC4 := hid tv_c4; have TC5 := hid tv_c5; have TC6 := hid tv_c6; have TC7 := hid tv_c7
 have TT1 := hid (show tg0.take tvS 0 = (0, tg1) from Prod.ext tv_t1 rfl); have TT2 := hid (show tg1.take tvR 0 = (0, tg2) from Prod.ext tv_t2 rfl)
 have TE := hid tv_end
 have TN := hid tv_new; have TZ := hid tv_zero
 have TS := hid (fun w b => @tv_samp w b); have TR := hid (fun w b => @tv_rot w b)
 have TQ := hid (fun u => snew_ok 1#64 2 (by decide) (by decide) u)
 have V1 := hid (show tvS.value = 9 from rfl); have V2 := hid (show tvR.gen = 1 from rfl)
 rw [show Sl.new 1#64 2 = tq0 from rfl] at TQ
 have HL := hid (sealOf_length tvK.a tvK.b tvS)
 generalize tg0 = g0 at *
 generalize tg1 = g1 at *
 generalize tg2 = g2 at *
 generalize tvS = mS at *
 generalize tvR = mR at *
 generalize sealOf tvK.a tvK.b mS = lS at *
 generalize sealOf tvK.a tvK.b mR = lR at *
 generalize tq0 = q0 at *
 generalize tq1 = q1 at *
 generalize tq2 = q2 at *
 go_enter Tryz.func12, Tryz.ntmps12
 go_wp2_with fail
 refine (default_any _).mono ?_
 rintro e w1 ⟨rfl, hg⟩
 have G1 := hid hg; clear hg
 go_wp2_with fail
 refine (TN.out _).mono ?_
 rintro e w2 ⟨F, B, rfl, hk, hg, hlo⟩
 have HK := hid hk; have G2 := hid (gb_trans G1.out hg (.inl rfl)); have HLO := hid (show ∀ x ∈ F, w.heap.size ≤ x from fun x hx => Nat.le_trans (gb_size G1.out) (hlo x hx)); clear hk hg hlo G1 TN
 obtain ⟨bg, hbg⟩ : ∃ bg, B.g = bg := ⟨_, rfl⟩
 rw [hbg]
 go_wp2_with fail
 refine (TQ.out _).mono ?_
 rintro e w3 ⟨b, rfl, hs, hg, hb⟩
 have K0 := hid (kv_start HK.out HLO.out G2.out hs hg hb); have EB0 := hid hbg; clear hs hg hb HK HLO G2 TQ hbg
 go_wp2_with fail
 refine (TS.out _ _ K0.out.ob).mono ?_
 rintro e w4 ⟨v, rfl, ho, hs, hc⟩
 have K1 := hid (K0.out.sealed ho hs hc); clear ho hs hc K0 TS
 go_wp2_with fail
 refine (tv_check EB0.out _ _ 0 _ _ TC1.out (by decide) _ K1.out.gt K1.out.y0).mono ?_
 rintro e u1 ⟨rfl, hg⟩
 have k := (K1.out.grown hg).alloc (msgObj mS)
 have KK := hid k; clear k hg K1
 go_upto_region 7 with fail
 refine wp_gen (fun wx => Kv w F B g0 b q1 [(u1.heap.size, msgObj mS)] [(v, lS)] wx) KK.out ?_
 clear KK
 generalize u1.heap.size = t1
 intro v1 h
 have K101 := hid h; clear h
 go_wp2_with fail
 refine (tv_check EB0.out _ _ 2 _ _ TC2.out (by decide) _ K101.out.gt K101.out.y0).mono ?_
 rintro e u2 ⟨rfl, hg⟩
 have k := (K101.out.grown hg).alloc (msgObj zeroM)
 have KK := hid k; clear k hg K101
 go_upto_region 8 with fail
 refine wp_gen (fun wx => Kv w F B g0 b q1 [(u2.heap.size, msgObj zeroM), (t1, msgObj mS)] [(v, lS)] wx) KK.out ?_
 clear KK
 generalize u2.heap.size = t2
 intro v2 h
 have K102 := hid h; clear h
 have K102d := hid K102.out.tail; clear K102
 go_wp2_with fail
 refine (tv_checkO EB0.out _ _ 0 _ _ TC3.out (by decide) _ K102d.out.gt K102d.out.y0).mono ?_
 rintro e u3 ⟨rfl, hg⟩
 have k := (K102d.out.grown hg).alloc (msgObj zeroM)
 have KK := hid k; clear k hg K102d
 go_upto_region 9 with fail
 refine wp_gen (fun wx => Kv w F B g0 b q1 [(u3.heap.size, msgObj zeroM), (t1, msgObj mS)] [(v, lS)] wx) KK.out ?_
 clear KK
 generalize u3.heap.size = t3
 intro v3 h
 have K103 := hid h; clear h
 have K103d := hid K103.out.tail; clear K103
 clear TC1 TC2 TC3
 have MM := hid K103d.out.b0
 go_wp2_with (refine wpList_row MM.out Tryz.underlying39 rfl (by kernel_rfl) rfl rfl rfl rfl ?_)
 clear MM
 refine (tv_take EB0.out _ _ _ TT1.out _ K103d.out).mono ?_
 rintro e u4 ⟨rfl, F1, B1, eb, hk⟩
 have K204 := hid hk; have EB4 := hid eb; clear hk eb K103d EB0
 go_wp2_with fail
 refine (tv_check EB4.out _ _ 0 _ _ TC4.out (by decide) _ K204.out.gt K204.out.y0).mono ?_
 rintro e u5 ⟨rfl, hg⟩
 have k := (K204.out.grown hg).alloc (msgObj zeroM)
 have KK := hid k; clear k hg K204
 go_upto_region 11 with fail
 refine wp_gen (fun wx => Kv w F1 B1 g1 b q1 [(u5.heap.size, msgObj zeroM), (t1, msgObj mS)] [(v, lS)] wx) KK.out ?_
 clear KK
 generalize u5.heap.size = t5
 intro v5 h
 have K105 := hid h; clear h
 have K105d := hid K105.out.tail; clear K105
 have Z := hid (show BytesAt v5 (.slice none 0 0) [] from (OwnB.nil 0 _).bytes)
 go_wp2_with fail
 refine (tv_check EB4.out _ _ 0 _ _ TC5.out (by decide) _ K105d.out.gt Z.out).mono ?_
 rintro e u6 ⟨rfl, hg⟩
 have k := (K105d.out.grown hg).alloc (msgObj zeroM)
 have KK := hid k; clear k hg K105d
 go_upto_region 12 with fail
 refine wp_gen (fun wx => Kv w F1 B1 g1 b q1 [(u6.heap.size, msgObj zeroM), (t1, msgObj mS)] [(v, lS)] wx) KK.out ?_
 clear KK
 generalize u6.heap.size = t6
 intro v6 h
 have K106 := hid h; clear h
 have K106d := hid K106.out.tail; clear K106
 clear Z TC4 TC5 TT1
 have YB := hid K106d.out.y0
 have hsl := HL.out
 have WP := K106d.out.b0
 go_upto_region 15 with (at_builtin; refine append_bytes rfl _ _ rfl v6.heap.size (.slice (some ⟨v6.heap.size, 0, none⟩) 0 0) [] rfl (OwnB.empty v6) _ lS rfl (YB.out.alloc _) (by rw [hsl]; decide) (by simp) ?_; intro cv w20 hown hgrow hat; simp only [List.nil_append] at hown; obtain ⟨gc, cc, rfl, lc1, lc2, lc3, lc4⟩ := hown.full (by rw [hsl]; decide); rw [hsl])
 have hg20 : v6.grownBy w20 none := gb_trans (gb_alloc (.refl v6 none) _) hgrow (.inr (.inr ⟨_, rfl, by simp⟩))
 have K20 := hid (Kv.onlyY (K106d.out.made hown hg20)); clear hown hgrow hat hg20 YB WP K106d
 have hOw : OwnB 0 w20 (.slice (some ⟨gc, 0, none⟩) lS.length cc) lS := K20.out.yl (.slice (some ⟨gc, 0, none⟩) lS.length cc, lS) (by simp)
 clear lc2 lc3 lc4
 rw [hsl] at lc1
 have HCC := hid lc1; clear lc1
 obtain ⟨x40, hx40⟩ : ∃ x, byteAt lS 40 = x := ⟨_, rfl⟩
 have hne40 : lS[40]? ≠ some (x40 ^^^ 1) := by rw [List.getElem?_eq_getElem (by rw [hsl]; decide), ← byteAt_eq (by rw [hsl]; decide : 40 < lS.length), hx40]; intro e; exact xor8_ne x40 1 (by decide) (Option.some.inj e).symm
 obtain ⟨cur, hcur⟩ := hOw.obj
 have hbne := hid (obj_ne K20.out.b0 hcur (by decide))
 have c40 : w20.cell? ⟨gc, 40, none⟩ = some (.int .u8 (x40.toNat : Int)) := byte_cell K20.out.y0 40 (by rw [hsl]; decide) x40 hx40
 have f40 : w20.frozen? ⟨gc, 40, none⟩ = false := at_free hcur 40
 have hxor : bits .xor .u8 (x40.toNat : Int) 1 = ((x40 ^^^ 1).toNat : Int) := v8_xor x40 1
 obtain ⟨y40, hy40⟩ : ∃ y, x40 ^^^ 1 = y := ⟨_, rfl⟩
 rw [hy40] at hne40 hxor
 have K21 := hid (K20.out.byte (i := 40) (x := y40) rfl (by rw [hsl]; decide) (by simpa using hbne.out))
 have TC6' := hid (TC6.out y40 hne40)
 clear hOw hcur hbne hx40 hy40 hne40 TC6
 have hlen40 : (lS.set 40 y40).length = 48 := by rw [List.length_set, hsl]
 have LL40 := hid hlen40; clear hlen40
 have YT := hid (show BytesAt (w20.setCell ⟨gc, 40, none⟩ (.int .u8 (y40.toNat : Int))) (.slice (some ⟨gc, 0, none⟩) 48 cc) (lS.set 40 y40) from hsl ▸ K21.out.y0)
 rw [hsl] at K21
 generalize lS.set 40 y40 = l40 at *
 have HCX := hid (show (48 : Int) ≤ (cc : Int) by have := HCC.out; omega)
 clear K20 hsl
 go_upto_region 16 with fail
 refine wp_gen (fun wx => Kv w F1 B1 g1 b q1 [(t1, msgObj mS)] [(.slice (some ⟨gc, 0, none⟩) 48 cc, l40)] wx) K21.out ?_
 clear K21 YT c40 f40 hxor
 intro w21 h21
 have K21 := hid h21; clear h21
 go_wp2_with fail
 refine (tv_check EB4.out _ _ 0 _ _ TC6'.out (by decide) _ K21.out.gt K21.out.y0).mono ?_
 rintro e u7 ⟨rfl, hg⟩
 have k := (K21.out.grown hg).alloc (msgObj zeroM)
 have KK := hid k; clear k hg K21
 go_upto_region 17 with fail
 refine wp_gen (fun wx => Kv w F1 B1 g1 b q1 [(u7.heap.size, msgObj zeroM), (t1, msgObj mS)] [(.slice (some ⟨gc, 0, none⟩) 48 cc, l40)] wx) KK.out ?_
 clear KK
 generalize u7.heap.size = t7
 intro v7 h
 have K107 := hid h; clear h
 have K107d := hid K107.out.tail; clear K107
 clear TC6' LL40 HCC
 go_wp2_with fail
 refine (TR.out _ _ K107d.out.ob).mono ?_
 rintro e w30 ⟨rv, rfl, ho, hs, hc⟩
 have K30 := hid (K107d.out.noY.sealed ho hs hc); clear ho hs hc K107d TR
 go_wp2_with fail
 refine (tv_check EB4.out _ _ 0 _ _ TC7.out (by decide) _ K30.out.gt K30.out.y0).mono ?_
 rintro e u8 ⟨rfl, hg⟩
 have k := (K30.out.grown hg).alloc (msgObj mR)
 have KK := hid k; clear k hg K30
 go_upto_region 19 with fail
 refine wp_gen (fun wx => Kv w F1 B1 g1 b q2 [(u8.heap.size, msgObj mR), (t1, msgObj mS)] [(rv, lR)] wx) KK.out ?_
 clear KK
 generalize u8.heap.size = t8
 intro v8 h
 have K108 := hid h; clear h
 have MM := hid K108.out.b0
 go_wp2_with (refine wpList_row MM.out Tryz.underlying39 rfl (by kernel_rfl) rfl rfl rfl rfl ?_)
 clear MM
 refine (tv_take EB4.out _ _ _ TT2.out _ K108.out).mono ?_
 rintro e u9 ⟨rfl, F2, B2, eb, hk⟩
 have K209 := hid hk; have EB9 := hid eb; clear hk eb K108 EB4
 obtain ⟨e1, e2, e3, e4⟩ := TE.out
 have CG := rgen_in 2 _ K209.out.gt.ring (by rw [e4]; decide)
 rw [e1] at CG
 have HCG := hid CG; clear CG
 have KX := K209
 obtain ⟨a0, a1, a2, a3, a4, a5, a6⟩ := msg_cells K209.out.b1
 obtain ⟨c0, c1, c2, c3, c4, c5, c6⟩ := msg_cells K209.out.b0
 rw [V1.out] at a5
 rw [V2.out] at c2
 have E2 := hid e2; have E3 := hid e3; have E4 := hid e4; clear e1 e2 e3 e4
 go_wp2_with fail
 refine (tv_ring EB9.out _ K209.out.gt).mono ?_
 rintro e w40 ⟨rfl, hw⟩
 subst hw
 go_wp2_with fail
 refine HCG.out.mono ?_
 rintro e w41 ⟨rfl, hw⟩
 subst hw
 go_wp2_with fail
 refine (tv_replay EB9.out 2 (by rw [E4.out]; decide) _ K209.out.gt).mono ?_
 rintro e w42 ⟨rfl, hg⟩
 have K42 := hid (K209.out.grown hg); clear hg HCG KX a0 a1 a2 a3 a4 a5 a6 c0 c1 c2 c3 c4 c5 c6 K209
 go_wp2_with fail
 refine (ptop_any _ (K42.out.gt.now 2 (by rw [E4.out]; decide))).mono ?_
 rintro e w43 ⟨rfl, hw⟩
 subst hw
 rw [E2.out]
 go_wp2_with fail
 refine (tv_old EB9.out 2 (by rw [E4.out]; decide) _ K42.out.gt).mono ?_
 rintro e w44 ⟨rfl, hg⟩
 have K44 := hid (K42.out.grown hg); clear hg K42
 go_wp2_with fail
 refine (ptop_any _ (K44.out.gt.old 2 (by rw [E4.out]; decide))).mono ?_
 rintro e w45 ⟨rfl, hw⟩
 subst hw
 rw [E3.out]
 go_wp2_with fail
 refine (tv_replay9 EB9.out E4.out _ K44.out.gt).mono ?_
 rintro e w46 ⟨rfl, hw⟩
 subst hw
 go_wp2_with (refine wpList_buildTo_w (ty := 27) (cs := zeroC.cells) rfl rfl rfl (by kernel_rfl) ?_)
 refine (TZ.out _).mono ?_
 rintro e w47 ⟨rfl, hg⟩
 have K47 := hid (K44.out.grown hg); clear hg K44
 have G47 := hid K47.out.g; clear K47
 go_wp2_with fail
 go_ret
 exact ⟨rfl, G47.out⟩
end Go.Proofs.YtgpdcapnnejdeaaGreat
