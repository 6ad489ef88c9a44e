/-
  The walk of VerifyKeys: whatever the configuration, the message's parts and whose key it is sealed by. No condition but the one that the law itself asks of tags.
-/
import Derived.Test.YtfhifnhnkgdnlaaGreatZ12
import Derived.Deep.CutRange
import Derived.Deep.RegionHeld3
set_option linter.unusedSimpArgs false
set_option linter.unusedVariables false
namespace Go.Proofs.YtfhifnhnkgdnlaaGreat.vkeys
set_option maxRecDepth 100000
open Go.RowKit

/-- a gate that nobody changes, blocks, bytes -/
structure Ks (w0 : World) (F : List Nat) (B : GBl) (G : Gt) (bs : List (Nat × Obj)) (ys : List (Value × List UInt8)) (w : World) : Prop where
  gt : GtAt w F B G
  kp : Kp w0 bs ys w
section
variable {w0 w w1 : World} {F : List Nat} {B : GBl} {G : Gt} {bs : List (Nat × Obj)} {ys : List (Value × List UInt8)} {v : Value} {l : List UInt8}
theorem Ks.grown (h : Ks w0 F B G bs ys w) (hg : w.grownBy w1 none) : Ks w0 F B G bs ys w1 := ⟨h.gt.grown hg, h.kp.grown hg⟩
theorem Ks.drew (h : Ks w0 F B G bs ys w) : Ks w0 F B G bs ys w.drew := ⟨h.gt.drew, h.kp.drew⟩
theorem Ks.alloc (h : Ks w0 F B G bs ys w) (o : Obj) : Ks w0 F B G ((w.heap.size, o) :: bs) ys (w.alloc o) := ⟨h.gt.grown (World.grownBy_alloc w o none), h.kp.alloc o⟩
theorem Ks.addY (h : Ks w0 F B G bs ys w) (k : BytesAt w v l) : Ks w0 F B G bs ((v, l) :: ys) w := ⟨h.gt, h.kp.addY k⟩
end
def same (k1 k2 : Two64) (x : List UInt8) : Bool := sumOf k1.a k1.b x == sumOf k2.a k2.b x && sumOf k1.b (inv k1.a) x == sumOf k2.b (inv k2.a) x
theorem chk (sd : BitVec 64) (n grace win met fresh : Nat) (hm : 1 ≤ met) (who e v : Int) (w0 : 0 ≤ who) (w1 : who < (n : Int)) (w2 : who ≤ 15) (e0 : 0 ≤ e) (e1 : e ≤ 1099511627776) (ef : e < (fresh : Int)) (v0 : 0 ≤ v) (v1 : v ≤ 1099511627776) (k : Two64) :
    (Gt.new sd n grace win met fresh).check (sealOf k.a k.b (frst who e v)) 0 nobody = if same k (ofOf sd who 0) (putOf (frst who e v)) = true then (frst who e v, 0) else (zeroM, 5) := by
  have hM := frst_may w0 w2 e0 e1 v0 v1
  have hk : (Gt.new sd n grace win met fresh).key (frst who e v) = ofOf sd who 0 := by
    show ofOf sd ((who.toNat : Nat) : Int) 0 = _
    rw [Int.toNat_of_nonneg w0]
  obtain ⟨s1, s2, s3, s4, s5⟩ := sp_seal hM k.a k.b
  by_cases hs : same k (ofOf sd who 0) (putOf (frst who e v)) = true
  · have hh := first_of sd n grace win met fresh hm who e v 0 nobody w0 w1 w2 e0 e1 v0 v1
    rw [if_neg (by simp [nobody]), if_pos (by omega)] at hh
    rw [if_pos hs, ← hh]
    obtain ⟨t1, t2, t3, t4, t5⟩ := sp_seal hM (ofOf sd who 0).a (ofOf sd who 0).b
    unfold same at hs
    simp only [Bool.and_eq_true, beq_iff_eq] at hs
    unfold Gt.check Gt.checkC Gt.checkM
    rw [s1, s2, s3, s4, s5, t1, t2, t3, t4, t5, hs.1, hs.2]
  · rw [if_neg hs]
    have hin : (Gt.new sd n grace win met fresh).in who = true := decide_eq_true ⟨w0, w1⟩
    have hmay : (Gt.new sd n grace win met fresh).may (frst who e v) 0 = true := decide_eq_true ⟨fun h => absurd (show (1 : Int) = 2 from h) (by decide), Int.le_refl _, .inl rfl⟩
    have hne : ¬ (sumOf k.a k.b (putOf (frst who e v)) = sumOf (ofOf sd who 0).a (ofOf sd who 0).b (putOf (frst who e v)) ∧ sumOf k.b (inv k.a) (putOf (frst who e v)) = sumOf (ofOf sd who 0).b (inv (ofOf sd who 0).a) (putOf (frst who e v))) := fun ⟨a, b⟩ => hs (by unfold same; rw [a, b]; simp)
    have hc : (Gt.new sd n grace win met fresh).checkM (sealOf k.a k.b (frst who e v)) 0 nobody (frst who e v) = 5 := by
      unfold Gt.checkM
      rw [hk, s2, s3, s4, if_neg (by show ¬ ((Gt.new sd n grace win met fresh).in who = false ∨ false = true); rw [hin]; simp), if_neg (by rw [hmay]; simp), if_pos hne]
    unfold Gt.check Gt.checkC
    rw [s1, s5, if_pos rfl, hc]
    rfl
set_option maxHeartbeats 6400000 in
theorem walk (l : List Int) (p : Option Addr) (cap : Nat) (who byn gen epoch value : Int) {w : World} (hl : IntsAt w (.slice p l.length cap) l) :
    Calls Tryz.prog 5 #[.slice p l.length cap, .int .i64 who, .int .i64 byn, .int .i64 gen, .int .i64 epoch, .int .i64 value] w fun e w' => e = .returned (.bool true) ∧ w.grownBy w' none := by
  have HF := hid (fit_any l p cap w hl); clear hl
  go_enter Tryz.func5, Tryz.ntmps5
  go_wp2_with fail
  refine HF.out.mono ?_
  rintro e w1 ⟨c, rfl, hfine, hg⟩
  have G1 := hid hg; have FN := hid hfine; clear hg HF hfine
  go_upto_region 2 with (refine wpList_store_new (w := w1) (cs := c.cells) rfl (by kernel_rfl) (by kernel_rfl) (by kernel_rfl) rfl rfl rfl rfl rfl ?_)
  have C1 := hid (cfx_new c G1.out)
  have hlow : w.heap.size ≤ w1.heap.size := gb_size G1.out
  clear G1
  refine wp_gen (fun wx => Cfx w w1.heap.size c wx) C1.out ?_
  clear C1
  generalize w1.heap.size = x at hlow ⊢
  have HLOW := hid hlow; clear hlow
  intro w2 h2
  have C2 := hid h2; clear h2
  go_wp2_with (refine wpList_conf C2.out.box rfl rfl rfl rfl ?_)
  refine (gnew_fine FN.out _).mono ?_
  rintro e3 w3 ⟨F, B, rfl, hk, hg, hlo⟩
  have K3 := hid (show Ks w F B (gOf c) [(x, confObj c)] [] w3 from ⟨hk, ⟨gb_trans C2.out.g hg (.inl rfl), (fun y hy => by rcases List.mem_singleton.1 hy with rfl; exact at_grown C2.out.box hg (by simp)), (fun _ h => by cases h)⟩⟩); clear hk hg hlo C2
  have hnf := FN.out.n
  have hff := FN.out.f
  have hn10 : c.n ≤ 10 := by omega
  have hn1 : 1 ≤ c.n := by omega
  have hfr := FN.out.fresh
  clear hnf hff
  obtain ⟨wo, wo0, wo1, ewo⟩ := umod_int who c.n.toNat (by omega)
  rw [Int.toNat_of_nonneg (by omega)] at wo1 ewo
  obtain ⟨bb, b0, b1, ebb⟩ := umod_int byn 16 (by omega)
  obtain ⟨gn, g0, g1, egn⟩ := umod_int gen 3 (by omega)
  obtain ⟨ep, p0, p1, eep⟩ := umod_int epoch c.fresh.toNat (by omega)
  rw [Int.toNat_of_nonneg (by omega)] at p1 eep
  obtain ⟨va, v0, v1, eva⟩ := umod_int value 1099511627776 (by omega)
  replace ebb : (IntKind.u64.wrap byn).tmod 16 = bb := ebb
  replace egn : (IntKind.u64.wrap gen).tmod 3 = gn := egn
  replace eva : (IntKind.u64.wrap value).tmod 1099511627776 = va := eva
  replace b1 : bb < 16 := b1
  replace g1 : gn < 3 := g1
  replace v1 : va < 1099511627776 := v1
  have swo : IntKind.i64.wrap wo = wo := IntWalk.i64_in _ (by omega)
  have sbb : IntKind.i64.wrap bb = bb := IntWalk.i64_in _ (by omega)
  have sgn : IntKind.i64.wrap gn = gn := IntWalk.i64_in _ (by omega)
  have sep : IntKind.i64.wrap ep = ep := IntWalk.i64_in _ (by omega)
  have sva : IntKind.i64.wrap va = va := IntWalk.i64_in _ (by omega)
  have sN : IntKind.u64.wrap c.n = c.n := by show c.n % 18446744073709551616 = c.n; omega
  have sF : IntKind.u64.wrap c.fresh = c.fresh := by show c.fresh % 18446744073709551616 = c.fresh; omega
  have hM := hid (frst_may (who := wo) (e := ep) (v := va) wo0 (by omega) p0 (by omega) v0 (by omega))
  have TO := hid (show ∀ k : Two64, (gOf c).check (sealOf k.a k.b (frst wo ep va)) 0 nobody = if same k (ofOf (sdOf c) wo 0) (putOf (frst wo ep va)) = true then (frst wo ep va, 0) else (zeroM, 5) from fun k => chk (sdOf c) c.n.toNat c.grace.toNat c.window.toNat c.m.toNat c.fresh.toNat (by have := FN.out.m; omega) wo ep va wo0 (by omega) (by omega) p0 (by omega) (by omega) v0 (by omega) k)
  have SD := hid (show c.cells[25]? = some (.int .u64 (q (sdOf c))) from by rw [← seed_q FN.out.seed]; rfl)
  have EO1 := hid (fun u => of_any (sdOf c) bb gn u)
  have EO2 := hid (fun u => of_any (sdOf c) wo 0 u)
  have HSM := hid (fun (h1 : bb = wo) (h2 : gn = 0) => show same (ofOf (sdOf c) bb gn) (ofOf (sdOf c) wo 0) (putOf (frst wo ep va)) = true by rw [h1, h2]; unfold same; simp)
  replace TO := hid (TO.out (ofOf (sdOf c) bb gn))
  have SE := hid (fun u => seal_all (ofOf (sdOf c) bb gn).a (ofOf (sdOf c) bb gn).b (frst wo ep va) u)
  rw [show putC (frst wo ep va) = 0 from if_pos hM.out, show sealB (ofOf (sdOf c) bb gn).a (ofOf (sdOf c) bb gn).b (frst wo ep va) = sealOf (ofOf (sdOf c) bb gn).a (ofOf (sdOf c) bb gn).b (frst wo ep va) from if_pos hM.out] at SE
  have PU := hid (fun u => put_all (frst wo ep va) u)
  rw [show putC (frst wo ep va) = 0 from if_pos hM.out, show putB (frst wo ep va) = putOf (frst wo ep va) from if_pos hM.out] at PU
  have HE := hid (fun u => (msg_equal (frst wo ep va) (frst wo ep va) u).trans (by rw [msgEq_self]))
  generalize sealOf (ofOf (sdOf c) bb gn).a (ofOf (sdOf c) bb gn).b (frst wo ep va) = ls at *
  have TG1 := hid (fun v u h => tag_any (ofOf (sdOf c) bb gn).a (ofOf (sdOf c) bb gn).b v (putOf (frst wo ep va)) u h)
  have TG2 := hid (fun v u h => tag_any (ofOf (sdOf c) wo 0).a (ofOf (sdOf c) wo 0).b v (putOf (frst wo ep va)) u h)
  have SA := hid (fun u => same_any (sumOf (ofOf (sdOf c) bb gn).a (ofOf (sdOf c) bb gn).b (putOf (frst wo ep va))) (sumOf (ofOf (sdOf c) bb gn).b (inv (ofOf (sdOf c) bb gn).a) (putOf (frst wo ep va))) (sumOf (ofOf (sdOf c) wo 0).a (ofOf (sdOf c) wo 0).b (putOf (frst wo ep va))) (sumOf (ofOf (sdOf c) wo 0).b (inv (ofOf (sdOf c) wo 0).a) (putOf (frst wo ep va))) u)
  replace SA := hid (show ∀ u, Calls Tryz.prog 36 #[pair _ _, pair _ _] u fun e w' => e = .returned (.bool (same (ofOf (sdOf c) bb gn) (ofOf (sdOf c) wo 0) (putOf (frst wo ep va)))) ∧ u.grownBy w' none from SA.out)
  generalize same (ofOf (sdOf c) bb gn) (ofOf (sdOf c) wo 0) (putOf (frst wo ep va)) = sb at *
  generalize sumOf (ofOf (sdOf c) bb gn).a (ofOf (sdOf c) bb gn).b (putOf (frst wo ep va)) = ta at *
  generalize sumOf (ofOf (sdOf c) bb gn).b (inv (ofOf (sdOf c) bb gn).a) (putOf (frst wo ep va)) = tb at *
  generalize sumOf (ofOf (sdOf c) wo 0).a (ofOf (sdOf c) wo 0).b (putOf (frst wo ep va)) = tc at *
  generalize sumOf (ofOf (sdOf c) wo 0).b (inv (ofOf (sdOf c) wo 0).a) (putOf (frst wo ep va)) = td at *
  generalize putOf (frst wo ep va) = px at *
  generalize ofOf (sdOf c) bb gn = k1 at *
  generalize ofOf (sdOf c) wo 0 = k2 at *
  generalize k1.a = ka at *
  generalize k1.b = kb at *
  generalize k2.a = kc at *
  generalize k2.b = kd at *
  generalize hgg : sdOf c = sd at *
  have c0 : w3.cell? ⟨x, 0, none⟩ = some (.int .i64 c.n) := at_cell K3.out.kp.b0 0
  have c4 : w3.cell? ⟨x, 4, none⟩ = some (.int .i64 c.fresh) := at_cell K3.out.kp.b0 4
  go_upto_region 7 with (refine wpList_buildTo (ty := 39) (cs := (frst wo ep va).cells) rfl rfl rfl (by kernel_rfl) ?_)
  have K4 := hid (K3.out.alloc (msgObj (frst wo ep va)))
  refine wp_gen (fun wx => Ks w F B (gOf c) [(w3.heap.size, msgObj (frst wo ep va)), (x, confObj c)] [] wx) K4.out ?_
  clear K4 c0 c4 K3
  generalize w3.heap.size = mb
  intro w4 h4
  have K4 := hid h4; clear h4
  refine wp_region_held_drew (S := (fun w' => (Ks w F B (gOf c) [(mb, msgObj (frst wo ep va)), (x, confObj c)] [] w'))) (by kernel_rfl) K4.out.drew (fun hHeld => ?_)
  try dsimp only at hHeld
  refine' wpAnyH_take (i := 0) (v := _) rfl (by kernel_rfl) (by kernel_rfl) (by kernel_rfl) (fun _ _ _ h => h) (Or.inl ⟨by rfl, ?_⟩) hHeld ?_
  rotate_left
  · (intro w hSw; (try dsimp only at hSw); go_simp; try with_reducible rfl)
  try simp only [Act.put, List.setIfInBounds_toArray, List.set_cons_zero, List.set_cons_succ, List.getElem_toArray, List.getElem_cons_succ, List.getElem_cons_zero]
  refine' wpAnyH_take (i := 1) (v := _) rfl (by kernel_rfl) (by kernel_rfl) (by kernel_rfl) (fun _ _ _ h => h) (Or.inl ⟨by rfl, ?_⟩) hHeld ?_
  rotate_left
  · (intro w hSw; (try dsimp only at hSw); have kk := hSw; have c25 : w.cell? ⟨x, 25, none⟩ = some (Value.int IntKind.u64 (q sd)) := (at_cell kk.kp.b1 25).trans SD.out; go_simp; try with_reducible rfl)
  try simp only [Act.put, List.setIfInBounds_toArray, List.set_cons_zero, List.set_cons_succ, List.getElem_toArray, List.getElem_cons_succ, List.getElem_cons_zero]
  refine' wpAnyH_take (i := 2) (v := _) rfl (by kernel_rfl) (by kernel_rfl) (by kernel_rfl) (fun _ _ _ h => h) (Or.inl ⟨by rfl, ?_⟩) hHeld ?_
  rotate_left
  · (intro w hSw; (try dsimp only at hSw); go_simp; try with_reducible rfl)
  try simp only [Act.put, List.setIfInBounds_toArray, List.set_cons_zero, List.set_cons_succ, List.getElem_toArray, List.getElem_cons_succ, List.getElem_cons_zero]
  refine' wpAnyH_take (i := 3) (v := _) rfl (by kernel_rfl) (by kernel_rfl) (by kernel_rfl) (fun _ _ _ h => h) (Or.inl ⟨by rfl, ?_⟩) hHeld ?_
  rotate_left
  · (intro w hSw; (try dsimp only at hSw); go_simp; try with_reducible rfl)
  try simp only [Act.put, List.setIfInBounds_toArray, List.set_cons_zero, List.set_cons_succ, List.getElem_toArray, List.getElem_cons_succ, List.getElem_cons_zero]
  refine' wpAnyH_take (i := 5) (v := _) rfl (by kernel_rfl) (by kernel_rfl) (by kernel_rfl) (fun _ _ _ h => h) (Or.inl ⟨by rfl, ?_⟩) hHeld ?_
  rotate_left
  · (intro w hSw; (try dsimp only at hSw); (try simp only [List.getElem_toArray, List.getElem_cons_succ, List.getElem_cons_zero]); refine exec_row (x := .tmp 18) hSw.kp.b0 Tryz.underlying39 rfl (by kernel_rfl) ?_ ?_ <;> rfl)
  try simp only [Act.put, List.setIfInBounds_toArray, List.set_cons_zero, List.set_cons_succ, List.getElem_toArray, List.getElem_cons_succ, List.getElem_cons_zero]
  refine wpAnyH_ready (rs := [4]) (by kernel_rfl) (by simp) ?_
  refine AllReadyH.cons (o := _) rfl (fun K hK => ?_) AllReadyH.nil
  try simp only [List.getElem_toArray, List.getElem_cons_succ, List.getElem_cons_zero]
  go_simp
  have hH2 := hHeld
  have kk := hH2
  refine (EO1.out _).mono ?_
  rintro e w1004 ⟨rfl, hg⟩
  have L4 := hid (show (Ks w F B (gOf c) [(mb, msgObj (frst wo ep va)), (x, confObj c)] [] w1004) from kk.grown hg)
  clear hHeld hg kk
  go_wp2_with fail
  refine hK.out _ _ ?_ (fun hHeld => ?_)
  · exact L4.out
  clear hK K
  try dsimp only at hHeld
  try simp only [Act.put, List.setIfInBounds_toArray, List.set_cons_zero, List.set_cons_succ, List.getElem_toArray, List.getElem_cons_succ, List.getElem_cons_zero]
  refine wpAnyH_ready (rs := [6]) (by kernel_rfl) (by simp) ?_
  refine AllReadyH.cons (o := _) rfl (fun K hK => ?_) AllReadyH.nil
  try simp only [List.getElem_toArray, List.getElem_cons_succ, List.getElem_cons_zero]
  go_simp
  have hH2 := hHeld
  have kk := hH2
  refine (SE.out _).mono ?_
  rintro e w1006 ⟨v, rfl, ho, hg⟩
  have L6 := hid (show (Ks w F B (gOf c) [(mb, msgObj (frst wo ep va)), (x, confObj c)] [] w1006) from kk.grown hg)
  have Nov := hid (show BytesAt w1006 v ls from ho.bytes)
  clear hHeld hg kk
  go_wp2_with fail
  refine hK.out _ _ ?_ (fun hHeld => ?_)
  · exact L6.out
  clear hK K
  try dsimp only at hHeld
  try simp only [Act.put, List.setIfInBounds_toArray, List.set_cons_zero, List.set_cons_succ, List.getElem_toArray, List.getElem_cons_succ, List.getElem_cons_zero]
  refine held_stronger (S' := fun w' => (fun w' => BytesAt w' v ls) w' ∧ ((fun w' => (Ks w F B (gOf c) [(mb, msgObj (frst wo ep va)), (x, confObj c)] [] w'))) w') (fun _ h => h.2) _ _ _ _ ?_
  replace hHeld := And.intro Nov.out hHeld
  try dsimp only at hHeld
  refine' wpAnyH_take (i := 7) (v := _) rfl (by kernel_rfl) (by kernel_rfl) (by kernel_rfl) (fun _ _ _ h => h) (Or.inl ⟨by rfl, ?_⟩) hHeld ?_
  rotate_left
  · (intro w hSw; (try dsimp only at hSw); go_simp; try with_reducible rfl)
  try simp only [Act.put, List.setIfInBounds_toArray, List.set_cons_zero, List.set_cons_succ, List.getElem_toArray, List.getElem_cons_succ, List.getElem_cons_zero]
  refine' wpAnyH_take (i := 8) (v := _) rfl (by kernel_rfl) (by kernel_rfl) (by kernel_rfl) (fun _ _ _ h => h) (Or.inl ⟨by rfl, ?_⟩) hHeld ?_
  rotate_left
  · (intro w hSw; (try dsimp only at hSw); go_simp; try with_reducible rfl)
  try simp only [Act.put, List.setIfInBounds_toArray, List.set_cons_zero, List.set_cons_succ, List.getElem_toArray, List.getElem_cons_succ, List.getElem_cons_zero]
  refine' wpAnyH_take (i := 9) (v := _) rfl (by kernel_rfl) (by kernel_rfl) (by kernel_rfl) (fun _ _ _ h => h) (Or.inl ⟨by rfl, ?_⟩) hHeld ?_
  rotate_left
  · (intro w hSw; (try dsimp only at hSw); go_simp; try with_reducible rfl)
  try simp only [Act.put, List.setIfInBounds_toArray, List.set_cons_zero, List.set_cons_succ, List.getElem_toArray, List.getElem_cons_succ, List.getElem_cons_zero]
  refine' wpAnyH_take (i := 10) (v := _) rfl (by kernel_rfl) (by kernel_rfl) (by kernel_rfl) (fun _ _ _ h => h) (Or.inl ⟨by rfl, ?_⟩) hHeld ?_
  rotate_left
  · (intro w hSw; (try dsimp only at hSw); go_simp; try with_reducible rfl)
  try simp only [Act.put, List.setIfInBounds_toArray, List.set_cons_zero, List.set_cons_succ, List.getElem_toArray, List.getElem_cons_succ, List.getElem_cons_zero]
  refine' wpAnyH_take (i := 11) (v := _) rfl (by kernel_rfl) (by kernel_rfl) (by kernel_rfl) (fun _ _ _ h => h) (Or.inl ⟨by rfl, ?_⟩) hHeld ?_
  rotate_left
  · (intro w hSw; (try dsimp only at hSw); go_simp; try with_reducible rfl)
  try simp only [Act.put, List.setIfInBounds_toArray, List.set_cons_zero, List.set_cons_succ, List.getElem_toArray, List.getElem_cons_succ, List.getElem_cons_zero]
  refine wpAnyH_done (by kernel_rfl) ?_ _
  obtain ⟨ov, kk⟩ := hHeld
  refine exit_gen (fun wx => Ks w F B (gOf c) [(mb, msgObj (frst wo ep va)), (x, confObj c)] [(v, ls)] wx) (kk.addY ov) ?_
  clear kk ov
  intro w5 h5
  have K5 := hid h5; clear h5 K4
  go_wp2_with (refine wpList_row K5.out.kp.b0 Tryz.underlying39 rfl (by kernel_rfl) rfl rfl rfl rfl ?_)
  refine (PU.out _).mono ?_
  rintro e6 w6 ⟨pv, rfl, ho, hg⟩
  have K6 := hid ((K5.out.grown hg).addY ho.bytes); clear ho hg K5 PU SE
  go_wp2_with fail
  refine wp_region_held_drew (S := (fun w' => (Ks w F B (gOf c) [(mb, msgObj (frst wo ep va)), (x, confObj c)] [(pv, px), (v, ls)] w'))) (by kernel_rfl) K6.out.drew (fun hHeld => ?_)
  try dsimp only at hHeld
  refine' wpAnyH_take (i := 0) (v := _) rfl (by kernel_rfl) (by kernel_rfl) (by kernel_rfl) (fun _ _ _ h => h) (Or.inl ⟨by rfl, ?_⟩) hHeld ?_
  rotate_left
  · (intro w hSw; (try dsimp only at hSw); go_simp; try with_reducible rfl)
  try simp only [Act.put, List.setIfInBounds_toArray, List.set_cons_zero, List.set_cons_succ, List.getElem_toArray, List.getElem_cons_succ, List.getElem_cons_zero]
  refine' wpAnyH_take (i := 1) (v := _) rfl (by kernel_rfl) (by kernel_rfl) (by kernel_rfl) (fun _ _ _ h => h) (Or.inl ⟨by rfl, ?_⟩) hHeld ?_
  rotate_left
  · (intro w hSw; (try dsimp only at hSw); have kk := hSw; have c25 : w.cell? ⟨x, 25, none⟩ = some (Value.int IntKind.u64 (q sd)) := (at_cell kk.kp.b1 25).trans SD.out; go_simp; try with_reducible rfl)
  try simp only [Act.put, List.setIfInBounds_toArray, List.set_cons_zero, List.set_cons_succ, List.getElem_toArray, List.getElem_cons_succ, List.getElem_cons_zero]
  refine' wpAnyH_take (i := 2) (v := _) rfl (by kernel_rfl) (by kernel_rfl) (by kernel_rfl) (fun _ _ _ h => h) (Or.inl ⟨by rfl, ?_⟩) hHeld ?_
  rotate_left
  · (intro w hSw; (try dsimp only at hSw); go_simp; try with_reducible rfl)
  try simp only [Act.put, List.setIfInBounds_toArray, List.set_cons_zero, List.set_cons_succ, List.getElem_toArray, List.getElem_cons_succ, List.getElem_cons_zero]
  refine' wpAnyH_take (i := 3) (v := _) rfl (by kernel_rfl) (by kernel_rfl) (by kernel_rfl) (fun _ _ _ h => h) (Or.inl ⟨by rfl, ?_⟩) hHeld ?_
  rotate_left
  · (intro w hSw; (try dsimp only at hSw); go_simp; try with_reducible rfl)
  try simp only [Act.put, List.setIfInBounds_toArray, List.set_cons_zero, List.set_cons_succ, List.getElem_toArray, List.getElem_cons_succ, List.getElem_cons_zero]
  refine' wpAnyH_take (i := 5) (v := _) rfl (by kernel_rfl) (by kernel_rfl) (by kernel_rfl) (fun _ _ _ h => h) (Or.inl ⟨by rfl, ?_⟩) hHeld ?_
  rotate_left
  · (intro w hSw; (try dsimp only at hSw); go_simp; try with_reducible rfl)
  try simp only [Act.put, List.setIfInBounds_toArray, List.set_cons_zero, List.set_cons_succ, List.getElem_toArray, List.getElem_cons_succ, List.getElem_cons_zero]
  refine' wpAnyH_take (i := 7) (v := _) rfl (by kernel_rfl) (by kernel_rfl) (by kernel_rfl) (fun _ _ _ h => h) (Or.inl ⟨by rfl, ?_⟩) hHeld ?_
  rotate_left
  · (intro w hSw; (try dsimp only at hSw); go_simp; try with_reducible rfl)
  try simp only [Act.put, List.setIfInBounds_toArray, List.set_cons_zero, List.set_cons_succ, List.getElem_toArray, List.getElem_cons_succ, List.getElem_cons_zero]
  refine' wpAnyH_take (i := 8) (v := _) rfl (by kernel_rfl) (by kernel_rfl) (by kernel_rfl) (fun _ _ _ h => h) (Or.inl ⟨by rfl, ?_⟩) hHeld ?_
  rotate_left
  · (intro w hSw; (try dsimp only at hSw); have kk := hSw; have c25 : w.cell? ⟨x, 25, none⟩ = some (Value.int IntKind.u64 (q sd)) := (at_cell kk.kp.b1 25).trans SD.out; go_simp; try with_reducible rfl)
  try simp only [Act.put, List.setIfInBounds_toArray, List.set_cons_zero, List.set_cons_succ, List.getElem_toArray, List.getElem_cons_succ, List.getElem_cons_zero]
  refine' wpAnyH_take (i := 9) (v := _) rfl (by kernel_rfl) (by kernel_rfl) (by kernel_rfl) (fun _ _ _ h => h) (Or.inl ⟨by rfl, ?_⟩) hHeld ?_
  rotate_left
  · (intro w hSw; (try dsimp only at hSw); go_simp; try with_reducible rfl)
  try simp only [Act.put, List.setIfInBounds_toArray, List.set_cons_zero, List.set_cons_succ, List.getElem_toArray, List.getElem_cons_succ, List.getElem_cons_zero]
  refine' wpAnyH_take (i := 11) (v := _) rfl (by kernel_rfl) (by kernel_rfl) (by kernel_rfl) (fun _ _ _ h => h) (Or.inl ⟨by rfl, ?_⟩) hHeld ?_
  rotate_left
  · (intro w hSw; (try dsimp only at hSw); go_simp; try with_reducible rfl)
  try simp only [Act.put, List.setIfInBounds_toArray, List.set_cons_zero, List.set_cons_succ, List.getElem_toArray, List.getElem_cons_succ, List.getElem_cons_zero]
  refine wpAnyH_ready (rs := [4]) (by kernel_rfl) (by simp) ?_
  refine AllReadyH.cons (o := _) rfl (fun K hK => ?_) AllReadyH.nil
  try simp only [List.getElem_toArray, List.getElem_cons_succ, List.getElem_cons_zero]
  go_simp
  have hH2 := hHeld
  have kk := hH2
  refine (EO1.out _).mono ?_
  rintro e w1004 ⟨rfl, hg⟩
  have L4 := hid (show (Ks w F B (gOf c) [(mb, msgObj (frst wo ep va)), (x, confObj c)] [(pv, px), (v, ls)] w1004) from kk.grown hg)
  clear hHeld hg kk
  go_wp2_with fail
  refine hK.out _ _ ?_ (fun hHeld => ?_)
  · exact L4.out
  clear hK K
  try dsimp only at hHeld
  try simp only [Act.put, List.setIfInBounds_toArray, List.set_cons_zero, List.set_cons_succ, List.getElem_toArray, List.getElem_cons_succ, List.getElem_cons_zero]
  refine wpAnyH_ready (rs := [6]) (by kernel_rfl) (by simp) ?_
  refine AllReadyH.cons (o := _) rfl (fun K hK => ?_) AllReadyH.nil
  try simp only [List.getElem_toArray, List.getElem_cons_succ, List.getElem_cons_zero]
  go_simp
  have hH2 := hHeld
  have kk := hH2
  refine (TG1.out _ _ kk.kp.y0).mono ?_
  rintro e w1006 ⟨rfl, hg⟩
  have L6 := hid (show (Ks w F B (gOf c) [(mb, msgObj (frst wo ep va)), (x, confObj c)] [(pv, px), (v, ls)] w1006) from kk.grown hg)
  clear hHeld hg kk
  go_wp2_with fail
  refine hK.out _ _ ?_ (fun hHeld => ?_)
  · exact L6.out
  clear hK K
  try dsimp only at hHeld
  try simp only [Act.put, List.setIfInBounds_toArray, List.set_cons_zero, List.set_cons_succ, List.getElem_toArray, List.getElem_cons_succ, List.getElem_cons_zero]
  refine wpAnyH_ready (rs := [10]) (by kernel_rfl) (by simp) ?_
  refine AllReadyH.cons (o := _) rfl (fun K hK => ?_) AllReadyH.nil
  try simp only [List.getElem_toArray, List.getElem_cons_succ, List.getElem_cons_zero]
  go_simp
  have hH2 := hHeld
  have kk := hH2
  refine (EO2.out _).mono ?_
  rintro e w1010 ⟨rfl, hg⟩
  have L10 := hid (show (Ks w F B (gOf c) [(mb, msgObj (frst wo ep va)), (x, confObj c)] [(pv, px), (v, ls)] w1010) from kk.grown hg)
  clear hHeld hg kk
  go_wp2_with fail
  refine hK.out _ _ ?_ (fun hHeld => ?_)
  · exact L10.out
  clear hK K
  try dsimp only at hHeld
  try simp only [Act.put, List.setIfInBounds_toArray, List.set_cons_zero, List.set_cons_succ, List.getElem_toArray, List.getElem_cons_succ, List.getElem_cons_zero]
  refine wpAnyH_ready (rs := [12]) (by kernel_rfl) (by simp) ?_
  refine AllReadyH.cons (o := _) rfl (fun K hK => ?_) AllReadyH.nil
  try simp only [List.getElem_toArray, List.getElem_cons_succ, List.getElem_cons_zero]
  go_simp
  have hH2 := hHeld
  have kk := hH2
  refine (TG2.out _ _ kk.kp.y0).mono ?_
  rintro e w1012 ⟨rfl, hg⟩
  have L12 := hid (show (Ks w F B (gOf c) [(mb, msgObj (frst wo ep va)), (x, confObj c)] [(pv, px), (v, ls)] w1012) from kk.grown hg)
  clear hHeld hg kk
  go_wp2_with fail
  refine hK.out _ _ ?_ (fun hHeld => ?_)
  · exact L12.out
  clear hK K
  try dsimp only at hHeld
  try simp only [Act.put, List.setIfInBounds_toArray, List.set_cons_zero, List.set_cons_succ, List.getElem_toArray, List.getElem_cons_succ, List.getElem_cons_zero]
  refine wpAnyH_ready (rs := [13]) (by kernel_rfl) (by simp) ?_
  refine AllReadyH.cons (o := _) rfl (fun K hK => ?_) AllReadyH.nil
  try simp only [List.getElem_toArray, List.getElem_cons_succ, List.getElem_cons_zero]
  go_simp
  have hH2 := hHeld
  have kk := hH2
  refine (SA.out _).mono ?_
  rintro e w1013 ⟨rfl, hg⟩
  have L13 := hid (show (Ks w F B (gOf c) [(mb, msgObj (frst wo ep va)), (x, confObj c)] [(pv, px), (v, ls)] w1013) from kk.grown hg)
  clear hHeld hg kk
  go_wp2_with fail
  refine hK.out _ _ ?_ (fun hHeld => ?_)
  · exact L13.out
  clear hK K
  try dsimp only at hHeld
  try simp only [Act.put, List.setIfInBounds_toArray, List.set_cons_zero, List.set_cons_succ, List.getElem_toArray, List.getElem_cons_succ, List.getElem_cons_zero]
  refine' wpAnyH_take (i := 14) (v := _) rfl (by kernel_rfl) (by kernel_rfl) (by kernel_rfl) (fun _ _ _ h => h) (Or.inl ⟨by rfl, ?_⟩) hHeld ?_
  rotate_left
  · (intro w hSw; (try dsimp only at hSw); go_simp; try with_reducible rfl)
  try simp only [Act.put, List.setIfInBounds_toArray, List.set_cons_zero, List.set_cons_succ, List.getElem_toArray, List.getElem_cons_succ, List.getElem_cons_zero]
  refine wpAnyH_done (by kernel_rfl) ?_ _
  have kk := hHeld
  refine exit_gen (fun wx => Ks w F B (gOf c) [(mb, msgObj (frst wo ep va)), (x, confObj c)] [(pv, px), (v, ls)] wx) kk ?_
  clear kk
  intro w7 h7
  have K7 := hid h7; clear h7 K6 EO1 EO2 TG1 TG2 SA
  have dsb : sb = true ∨ sb = false := by cases sb <;> simp
  rcases dsb with hsb | hsb
  · subst hsb
    clear HSM
    go_wp2_with fail
    refine (tv_check rfl _ _ 0 _ _ (show (gOf c).check ls 0 nobody = (frst wo ep va, 0) from TO.out.trans (by simp)) (by decide) _ K7.out.gt K7.out.kp.y1).mono ?_
    rintro e8 w8 ⟨rfl, hg⟩
    have K8 := hid ((K7.out.grown hg).alloc (msgObj (frst wo ep va))); clear hg K7 TO
    go_upto_region 13 with fail
    refine wp_gen (fun wx => Ks w F B (gOf c) [(w8.heap.size, msgObj (frst wo ep va)), (mb, msgObj (frst wo ep va)), (x, confObj c)] [(pv, px), (v, ls)] wx) K8.out ?_
    clear K8
    generalize w8.heap.size = qb
    intro w9 h9
    have K9 := hid h9; clear h9
    by_cases hbw : bb = wo
    · have d1 : (bb == wo) = true := by simpa using hbw
      by_cases hg0 : gn = 0
      · have d2 : (gn == 0) = true := by simpa using hg0
        clear hbw hg0
        have he : ∀ u, (Op.equalIn 10000 39 (mg (frst wo ep va)) (mg (frst wo ep va))).run Tryz.prog u = .ok true u := HE.out
        go_wp2_with fail
        refine (vtold_any _).mono ?_
        rintro e10 w10 ⟨rfl, hg⟩
        have K10 := hid (K9.out.grown hg); clear hg K9
        go_wp2_with (first | refine wpList_row_w K10.out.kp.b0 Tryz.underlying39 rfl (by kernel_rfl) rfl rfl rfl rfl ?_ | refine wpList_row_w K10.out.kp.b1 Tryz.underlying39 rfl (by kernel_rfl) rfl rfl rfl rfl ?_)
        go_ret
        exact ⟨rfl, K10.out.kp.g⟩
      · have d2 : (gn == 0) = false := by simpa using hg0
        clear hbw hg0
        go_wp2_with fail
        refine (vtold_any _).mono ?_
        rintro e10 w10 ⟨rfl, hg⟩
        have K10 := hid (K9.out.grown hg); clear hg K9
        go_wp2_with fail
        go_ret
        exact ⟨rfl, K10.out.kp.g⟩
    · have d1 : (bb == wo) = false := by simpa using hbw
      clear hbw
      go_wp2_with fail
      refine (vtold_any _).mono ?_
      rintro e10 w10 ⟨rfl, hg⟩
      have K10 := hid (K9.out.grown hg); clear hg K9
      go_wp2_with fail
      go_ret
      exact ⟨rfl, K10.out.kp.g⟩
  · subst hsb
    go_wp2_with fail
    refine (tv_check rfl _ _ 0 _ _ (show (gOf c).check ls 0 nobody = (zeroM, 5) from TO.out.trans (by simp)) (by decide) _ K7.out.gt K7.out.kp.y1).mono ?_
    rintro e8 w8 ⟨rfl, hg⟩
    have K8 := hid ((K7.out.grown hg).alloc (msgObj (zeroM))); clear hg K7 TO
    go_upto_region 13 with fail
    refine wp_gen (fun wx => Ks w F B (gOf c) [(w8.heap.size, msgObj (zeroM)), (mb, msgObj (frst wo ep va)), (x, confObj c)] [(pv, px), (v, ls)] wx) K8.out ?_
    clear K8
    generalize w8.heap.size = qb
    intro w9 h9
    have K9 := hid h9; clear h9
    by_cases hbw : bb = wo
    · have d1 : (bb == wo) = true := by simpa using hbw
      by_cases hg0 : gn = 0
      · have d2 : (gn == 0) = true := by simpa using hg0
        clear hbw hg0
        exact absurd (HSM.out (by simpa using d1) (by simpa using d2)) (by decide)
      · have d2 : (gn == 0) = false := by simpa using hg0
        clear hbw hg0
        go_wp2_with fail
        refine (vtold_any _).mono ?_
        rintro e10 w10 ⟨rfl, hg⟩
        have K10 := hid (K9.out.grown hg); clear hg K9
        go_wp2_with fail
        go_ret
        exact ⟨rfl, K10.out.kp.g⟩
    · have d1 : (bb == wo) = false := by simpa using hbw
      clear hbw
      go_wp2_with fail
      refine (vtold_any _).mono ?_
      rintro e10 w10 ⟨rfl, hg⟩
      have K10 := hid (K9.out.grown hg); clear hg K9
      go_wp2_with fail
      go_ret
      exact ⟨rfl, K10.out.kp.g⟩
end Go.Proofs.YtfhifnhnkgdnlaaGreat.vkeys
