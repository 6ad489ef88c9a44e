/-
  Contract: what a gate's Take answers and leaves. The condition: the gate lies there.
-/
import Derived.Test.YtgpdcapnnejdeaaGreatY18
import Derived.Test.YtgpdcapnnejdeaaGreatY17
import Derived.Test.YtgpdcapnnejdeaaGreatY15
import Derived.StillTailTactics
set_option linter.unusedSimpArgs false
set_option linter.unusedVariables false
namespace Go.Proofs.YtgpdcapnnejdeaaGreat
set_option maxRecDepth 100000
open Go.RowKit

def GBl.turn (B : GBl) (i nb : Nat) : GBl := { B with A := fun j => if j = i then nb else B.A j, O := fun j => if j = i then B.A i else B.O j, t := fun j => if j = i then succT (B.t i) else B.t j }
theorem side_even {t : Int} {a b : Nat} (h : t % 2 = 0) : side t a b = a := if_pos h
theorem side_odd {t : Int} {a b : Nat} (h : t % 2 = 1) : side t a b = b := if_neg (by omega)
def LeavesG (w : World) (F : List Nat) (B : GBl) (k : Int × Gt) (e : Ending) (w' : World) : Prop :=
 e = .returned (.int .i64 k.1) ∧ ∃ F' B', GtAt w' F' B' k.2 ∧ B'.g = B.g ∧ B'.rb = B.rb ∧ Chg F w w' ∧ ∀ x ∈ F', x ∈ F ∨ w.heap.size ≤ x
theorem GtAt.turned {w w1 w' : World} {F : List Nat} {B : GBl} {G : Gt} {i : Nat} (K : GtAt w F B G) (hi : i < G.r.n) {cs : Array Value} {j nb : Nat} (hcs : w.heap[B.hb]? = some (.cells cs 104))
  (hj : (B.t i + 1) % 2 = (j : Int)) (hj2 : j < 2) (hc : Chg [B.hb] w w') (hr : w'.heap[B.hb]? = some (.cells ((cs.setIfInBounds (i * 3) (.int .u32 (succT (B.t i)))).setIfInBounds (i * 3 + 1 + j) (.pointer (some ⟨nb, 0, none⟩))) 104)) (hp : RpAt w' nb (.new G.win)) (hn : w.heap.size ≤ nb) :
  GtAt w' (nb :: F) (B.turn i nb) { G with now := fun k => if k = i then Rp.new G.win else G.now k, old := fun k => if k = i then G.now i else G.old k } := by
 obtain ⟨ds, k1, k2⟩ := K.row
 rw [hcs] at k1
 cases k1
 obtain ⟨rs, r1, r2⟩ := K.ring.row
 have e1 : B.g ≠ B.hb := obj_ne K.top hcs (by decide)
 have e2 : B.rb ≠ B.hb := obj_ne K.ring.top hcs (by decide)
 have e3 : B.rh ≠ B.hb := obj_ne r1 hcs (by decide)
 have eA : ∀ k, k < G.r.n → B.A k ≠ B.hb := fun k hk => obj_ne (K.now k hk).top hcs (by decide)
 have eO : ∀ k, k < G.r.n → B.O k ≠ B.hb := fun k hk => obj_ne (K.old k hk).top hcs (by decide)
 have lA : ∀ k, k < G.r.n → B.A k < w.heap.size := fun k hk => K.lt _ (K.ma k hk)
 have lO : ∀ k, k < G.r.n → B.O k < w.heap.size := fun k hk => K.lt _ (K.mo k hk)
 refine ⟨hc.at (show w.heap[(B.turn i nb).g]? = _ from K.top) (show B.g ∉ [B.hb] by simpa using e1), K.ring.chg hc (by simpa using e2) (by simpa using e3), ⟨_, hr, fun k hk => ?_⟩, fun k => ?_, fun k hk => ?_, fun k hk => ?_, fun a b ha hb h => ?_, fun a b ha hb h => ?_, fun a b ha hb h => ?_,
  List.mem_cons_of_mem _ K.mg, List.mem_cons_of_mem _ K.mrb, List.mem_cons_of_mem _ K.mrh, List.mem_cons_of_mem _ K.mhb, fun k hk => ?_, fun k hk => ?_, fun x hx => ?_, ⟨K.ok.w1, K.ok.w2, K.ok.m1, K.ok.m2, K.ok.f1, K.ok.f2, fun k => ?_, fun k => ?_⟩⟩
 ·obtain ⟨q1, q2, q3⟩ := k2 k hk
  obtain ⟨p1, p2, p3⟩ := k2 i hi
  have z1 := (Array.getElem?_eq_some_iff.1 p1).1
  have z2 := (Array.getElem?_eq_some_iff.1 p2).1
  have z3 := (Array.getElem?_eq_some_iff.1 p3).1
  simp only [GBl.turn, Array.getElem?_setIfInBounds, Array.size_setIfInBounds]
  by_cases e : k = i
  ·subst e
   simp only [if_true]
   have hm := succT_mod (B.t k)
   rcases (by omega : j = 0 ∨ j = 1) with rfl | rfl
   ·have hs : succT (B.t k) % 2 = 0 := by rw [hm]; exact_mod_cast hj
    have ht : B.t k % 2 = 1 := by omega
    rw [side_even hs, side_even hs]
    rw [side_odd ht] at q3
    rw [Array.getElem?_eq_getElem z3] at q3
    simp [z1, z2, z3, Option.some.inj q3, show ¬ k * 3 = k * 3 + 1 by omega]
   ·have hs : succT (B.t k) % 2 = 1 := by rw [hm]; exact_mod_cast hj
    have ht : B.t k % 2 = 0 := by omega
    rw [side_odd hs, side_odd hs]
    rw [side_even ht] at q2
    rw [Array.getElem?_eq_getElem z2] at q2
    simp [z1, z2, z3, Option.some.inj q2, show ¬ k * 3 + 1 + 1 = k * 3 by omega, show ¬ k * 3 = k * 3 + 1 by omega, show ¬ k * 3 = k * 3 + 1 + 1 by omega]
  ·simp only [if_neg e]
   rw [if_neg (by omega), if_neg (by omega), if_neg (by omega), if_neg (by omega), if_neg (by omega), if_neg (by omega)]
   exact ⟨q1, q2, q3⟩
 ·simp only [GBl.turn]
  split
  ·exact ⟨succT_0 _, succT_lt _⟩
  ·exact K.t0 k
 ·simp only [GBl.turn]
  by_cases e : k = i
  ·rw [if_pos e, if_pos e]; exact hp
  ·rw [if_neg e, if_neg e]; exact (K.now k hk).chg hc (by simpa using eA k hk)
 ·simp only [GBl.turn]
  by_cases e : k = i
  ·rw [if_pos e, if_pos e]; exact (K.now i hi).chg hc (by simpa using eA i hi)
  ·rw [if_neg e, if_neg e]; exact (K.old k hk).chg hc (by simpa using eO k hk)
 ·simp only [GBl.turn] at h
  have := lA a ha; have := lA b hb
  by_cases e : a = i <;> by_cases e' : b = i
  ·omega
  ·rw [if_pos e, if_neg e'] at h; omega
  ·rw [if_neg e, if_pos e'] at h; omega
  ·rw [if_neg e, if_neg e'] at h; exact K.aa a b ha hb h
 ·simp only [GBl.turn] at h
  by_cases e : a = i <;> by_cases e' : b = i
  ·omega
  ·rw [if_pos e, if_neg e'] at h; exact absurd h (K.ao i b hi hb)
  ·rw [if_neg e, if_pos e'] at h; exact absurd h.symm (K.ao i a hi ha)
  ·rw [if_neg e, if_neg e'] at h; exact K.oo a b ha hb h
 ·simp only [GBl.turn] at h
  have := lA i hi; have := lO b hb; have := lA a ha
  by_cases e : a = i <;> by_cases e' : b = i
  ·rw [if_pos e, if_pos e'] at h; omega
  ·rw [if_pos e, if_neg e'] at h; omega
  ·rw [if_neg e, if_pos e'] at h; exact e (K.aa a i ha hi h)
  ·rw [if_neg e, if_neg e'] at h; exact K.ao a b ha hb h
 ·simp only [GBl.turn]
  split
  ·exact List.mem_cons_self
  ·exact List.mem_cons_of_mem _ (K.ma k hk)
 ·simp only [GBl.turn]
  split
  ·exact List.mem_cons_of_mem _ (K.ma i hi)
  ·exact List.mem_cons_of_mem _ (K.mo k hk)
 ·rcases List.mem_cons.1 hx with rfl | hx
  ·exact hp.lt
  ·exact Nat.lt_of_lt_of_le (K.lt x hx) hc.size
 ·dsimp only
  split
  ·rfl
  ·exact K.ok.nw k
 ·dsimp only
  split
  ·exact K.ok.nw i
  ·exact K.ok.ow k
theorem gturn_any {F : List Nat} {B : GBl} {G : Gt} (i : Nat) (w : World) (K : GtAt w F B G) (hi : i < G.r.n) :
  Calls Tryz.prog 65 #[.pointer (some ⟨B.hb, i * 3, none⟩), .int .i64 (G.win : Int)] w fun e w' => e = .returned (.tuple #[]) ∧ ∃ nb, GtAt w' (nb :: F) (B.turn i nb) { G with now := fun k => if k = i then Rp.new G.win else G.now k, old := fun k => if k = i then G.now i else G.old k } ∧ Chg [B.hb] w w' ∧ w.heap.size ≤ nb := by
 obtain ⟨cs, k1, k2⟩ := K.row
 obtain ⟨q1, q2, q3⟩ := k2 i hi
 have t0 := K.t0 i
 by_cases h : (B.t i + 1) % 2 = 0
 ·exact (turn_0 B.hb (i * 3) G.win (B.t i) cs w K.ok.w1 K.ok.w2 k1 q1 _ q2 h).mono fun e w' ⟨he, nb, hc, hr, hp, hn⟩ => ⟨he, nb, K.turned (j := 0) (w1 := w) hi k1 h (by omega) hc hr hp hn, hc, hn⟩
 ·exact (turn_1 B.hb (i * 3) G.win (B.t i) cs w K.ok.w1 K.ok.w2 k1 q1 _ q3 (by omega)).mono fun e w' ⟨he, nb, hc, hr, hp, hn⟩ => ⟨he, nb, K.turned (j := 1) (w1 := w) hi k1 (by show (B.t i + 1) % 2 = ((1 : Nat) : Int); omega) (by omega) hc hr hp hn, hc, hn⟩

structure Kq (w0 : World) (F : List Nat) (B : GBl) (G : Gt) (bm : Nat) (m : Mg) (w : World) : Prop where
 gt : GtAt w F B G
 hm : w.heap[bm]? = some (msgObj m)
 ch : Chg F w0 w
 nb : bm ∉ F
theorem Kq.drew {w0 w : World} {F : List Nat} {B : GBl} {G : Gt} {bm : Nat} {m : Mg} (h : Kq w0 F B G bm m w) : Kq w0 F B G bm m w.drew := ⟨h.gt.drew, h.hm, h.ch.drew, h.nb⟩
theorem Kq.leave {w0 w w1 : World} {F H : List Nat} {B : GBl} {G G1 : Gt} {bm : Nat} {m : Mg} (h : Kq w0 F B G bm m w) (hg : GtAt w1 F B G1) (hc : Chg H w w1) (hH : ∀ x ∈ H, x ∈ F) : Kq w0 F B G1 bm m w1 :=
 ⟨hg, hc.at h.hm (fun e => h.nb (hH _ e)), h.ch.then (hc.more hH), h.nb⟩
theorem kq_of {w0 w : World} {F : List Nat} {B : GBl} {G : Gt} {bm : Nat} {m : Mg} {bs : List (Nat × Obj)} {ys : List (Value × List UInt8)} (h : Kg w0 F B G bs ys w) (hm : w.heap[bm]? = some (msgObj m)) (hb : w0.heap.size ≤ bm) : Kq w0 F B G bm m w :=
 ⟨h.gt, hm, chg_grown h.kp.g F, fun e => by have := h.lo _ e; omega⟩
set_option maxHeartbeats 6400000 in
theorem gtake_may {F : List Nat} {B : GBl} {G : Gt} (m : Mg) (now : Int) (w : World) (K : GtAt w F B G) (CM : ∀ u, Calls Tryz.prog 62 #[mg m] u fun e w' => e = .returned (.bool false) ∧ u.grownBy w' none) :
  Calls Tryz.prog 20 #[.pointer (some ⟨B.g, 0, none⟩), mg m, .int .i64 now] w fun e w' => e = .returned (.int .i64 1) ∧ w.grownBy w' none := by
 replace CM := hid CM
 have K0 := hid ((kg_start K).alloc (msgObj m))
 clear K
 have lb := Nat.le_refl w.heap.size
 go_enter Tryz.func20, Tryz.ntmps20
 go_upto_region 1 with fail
 refine wp_gen (fun wx => Kg w F B G [(w.heap.size, msgObj m)] [] wx) K0.out ?_
 clear K0
 generalize hbm : w.heap.size = bm at lb ⊢
 have LB := hid (show w.heap.size ≤ bm from Nat.le_of_eq hbm)
 clear lb hbm
 intro w0 h0
 have K0 := hid h0; clear h0
 have M0 := hid K0.out.kp.b0
 go_wp2_with (refine wpList_row_w M0.out Tryz.underlying39 rfl (by kernel_rfl) rfl rfl rfl rfl ?_)
 refine (CM.out _).mono ?_
 rintro e w1 ⟨rfl, hg⟩
 have K1 := hid (K0.out.grown hg); clear hg K0 CM M0
 go_wp2_with fail
 go_ret
 exact ⟨rfl, K1.out.kp.g⟩
set_option maxHeartbeats 6400000 in
theorem gtake_low {F : List Nat} {B : GBl} {G : Gt} (m : Mg) (now : Int) (w : World) (K : GtAt w F B G) (CM : ∀ u, Calls Tryz.prog 62 #[mg m] u fun e w' => e = .returned (.bool true) ∧ u.grownBy w' none) (h0 : now < 0) :
  Calls Tryz.prog 20 #[.pointer (some ⟨B.g, 0, none⟩), mg m, .int .i64 now] w fun e w' => e = .returned (.int .i64 1) ∧ w.grownBy w' none := by
 replace CM := hid CM
 have d0 : decide (now < 0) = true := by simp; omega
 clear h0
 have K0 := hid ((kg_start K).alloc (msgObj m))
 clear K
 have lb := Nat.le_refl w.heap.size
 go_enter Tryz.func20, Tryz.ntmps20
 go_upto_region 1 with fail
 refine wp_gen (fun wx => Kg w F B G [(w.heap.size, msgObj m)] [] wx) K0.out ?_
 clear K0
 generalize hbm : w.heap.size = bm at lb ⊢
 have LB := hid (show w.heap.size ≤ bm from Nat.le_of_eq hbm)
 clear lb hbm
 intro w0 h0
 have K0 := hid h0; clear h0
 have M0 := hid K0.out.kp.b0
 go_wp2_with (refine wpList_row_w M0.out Tryz.underlying39 rfl (by kernel_rfl) rfl rfl rfl rfl ?_)
 refine (CM.out _).mono ?_
 rintro e w1 ⟨rfl, hg⟩
 have K1 := hid (K0.out.grown hg); clear hg K0 CM M0
 go_wp2_with fail
 go_ret
 exact ⟨rfl, K1.out.kp.g⟩
set_option maxHeartbeats 6400000 in
theorem gtake_high {F : List Nat} {B : GBl} {G : Gt} (m : Mg) (now : Int) (w : World) (K : GtAt w F B G) (CM : ∀ u, Calls Tryz.prog 62 #[mg m] u fun e w' => e = .returned (.bool true) ∧ u.grownBy w' none) (h0 : 0 ≤ now) (h1 : 1099511627776 < now) :
  Calls Tryz.prog 20 #[.pointer (some ⟨B.g, 0, none⟩), mg m, .int .i64 now] w fun e w' => e = .returned (.int .i64 1) ∧ w.grownBy w' none := by
 replace CM := hid CM
 have d0 : decide (now < 0) = false := by simp; omega
 have d9 : decide (1099511627776 < now) = true := by simp; omega
 clear h0 h1
 have K0 := hid ((kg_start K).alloc (msgObj m))
 clear K
 have lb := Nat.le_refl w.heap.size
 go_enter Tryz.func20, Tryz.ntmps20
 go_upto_region 1 with fail
 refine wp_gen (fun wx => Kg w F B G [(w.heap.size, msgObj m)] [] wx) K0.out ?_
 clear K0
 generalize hbm : w.heap.size = bm at lb ⊢
 have LB := hid (show w.heap.size ≤ bm from Nat.le_of_eq hbm)
 clear lb hbm
 intro w0 h0
 have K0 := hid h0; clear h0
 have M0 := hid K0.out.kp.b0
 go_wp2_with (refine wpList_row_w M0.out Tryz.underlying39 rfl (by kernel_rfl) rfl rfl rfl rfl ?_)
 refine (CM.out _).mono ?_
 rintro e w1 ⟨rfl, hg⟩
 have K1 := hid (K0.out.grown hg); clear hg K0 CM M0
 go_wp2_with fail
 go_ret
 exact ⟨rfl, K1.out.kp.g⟩
set_option maxHeartbeats 6400000 in
theorem gtake_who {F : List Nat} {B : GBl} {G : Gt} (m : Mg) (now : Int) (w : World) (K : GtAt w F B G) (CM : ∀ u, Calls Tryz.prog 62 #[mg m] u fun e w' => e = .returned (.bool true) ∧ u.grownBy w' none) (h0 : 0 ≤ now) (h1 : now ≤ 1099511627776) (CF : ∀ u, GtAt u F B G → Calls Tryz.prog 54 #[.pointer (some ⟨B.g, 0, none⟩), .int .i64 m.who] u fun e w' => e = .returned (.pointer none) ∧ u = w') :
  Calls Tryz.prog 20 #[.pointer (some ⟨B.g, 0, none⟩), mg m, .int .i64 now] w fun e w' => e = .returned (.int .i64 3) ∧ w.grownBy w' none := by
 replace CM := hid CM
 replace CF := hid CF
 have d0 : decide (now < 0) = false := by simp; omega
 have d9 : decide (1099511627776 < now) = false := by simp; omega
 clear h0 h1
 have K0 := hid ((kg_start K).alloc (msgObj m))
 clear K
 have lb := Nat.le_refl w.heap.size
 go_enter Tryz.func20, Tryz.ntmps20
 go_upto_region 1 with fail
 refine wp_gen (fun wx => Kg w F B G [(w.heap.size, msgObj m)] [] wx) K0.out ?_
 clear K0
 generalize hbm : w.heap.size = bm at lb ⊢
 have LB := hid (show w.heap.size ≤ bm from Nat.le_of_eq hbm)
 clear lb hbm
 intro w0 h0
 have K0 := hid h0; clear h0
 have M0 := hid K0.out.kp.b0
 go_wp2_with (refine wpList_row_w M0.out Tryz.underlying39 rfl (by kernel_rfl) rfl rfl rfl rfl ?_)
 refine (CM.out _).mono ?_
 rintro e w1 ⟨rfl, hg⟩
 have K1 := hid (K0.out.grown hg); clear hg K0 CM M0
 obtain ⟨e0, e1, e2, e3, e4, e5, e6⟩ := msg_cells K1.out.kp.b0
 go_wp2_with fail
 refine (CF.out _ K1.out.gt).mono ?_
 rintro e w2 ⟨rfl, hw⟩
 subst hw
 clear CF e0 e1 e2 e3 e4 e5 e6
 go_wp2_with fail
 go_ret
 exact ⟨rfl, K1.out.kp.g⟩
set_option maxHeartbeats 6400000 in
theorem gtake_gen {F : List Nat} {B : GBl} {G : Gt} (m : Mg) (now : Int) (w : World) (K : GtAt w F B G) (CM : ∀ u, Calls Tryz.prog 62 #[mg m] u fun e w' => e = .returned (.bool true) ∧ u.grownBy w' none) (h0 : 0 ≤ now) (h1 : now ≤ 1099511627776) (pf : Addr) (CF : ∀ u, GtAt u F B G → Calls Tryz.prog 54 #[.pointer (some ⟨B.g, 0, none⟩), .int .i64 m.who] u fun e w' => e = .returned (.pointer (some pf)) ∧ u = w') (CK : ∀ u, GtAt u F B G → Calls Tryz.prog 56 #[.pointer (some ⟨B.g, 0, none⟩), mg m, .int .i64 now] u fun e w' => e = .returned (.tuple #[pair 0 0, .pointer none, .int .i64 4]) ∧ u.grownBy w' none) :
  Calls Tryz.prog 20 #[.pointer (some ⟨B.g, 0, none⟩), mg m, .int .i64 now] w fun e w' => e = .returned (.int .i64 4) ∧ w.grownBy w' none := by
 replace CM := hid CM
 replace CF := hid CF
 replace CK := hid CK
 have d0 : decide (now < 0) = false := by simp; omega
 have d9 : decide (1099511627776 < now) = false := by simp; omega
 clear h0 h1
 have K0 := hid ((kg_start K).alloc (msgObj m))
 clear K
 have lb := Nat.le_refl w.heap.size
 go_enter Tryz.func20, Tryz.ntmps20
 go_upto_region 1 with fail
 refine wp_gen (fun wx => Kg w F B G [(w.heap.size, msgObj m)] [] wx) K0.out ?_
 clear K0
 generalize hbm : w.heap.size = bm at lb ⊢
 have LB := hid (show w.heap.size ≤ bm from Nat.le_of_eq hbm)
 clear lb hbm
 intro w0 h0
 have K0 := hid h0; clear h0
 have M0 := hid K0.out.kp.b0
 go_wp2_with (refine wpList_row_w M0.out Tryz.underlying39 rfl (by kernel_rfl) rfl rfl rfl rfl ?_)
 refine (CM.out _).mono ?_
 rintro e w1 ⟨rfl, hg⟩
 have K1 := hid (K0.out.grown hg); clear hg K0 CM M0
 obtain ⟨e0, e1, e2, e3, e4, e5, e6⟩ := msg_cells K1.out.kp.b0
 go_wp2_with fail
 refine (CF.out _ K1.out.gt).mono ?_
 rintro e w2 ⟨rfl, hw⟩
 subst hw
 clear CF e0 e1 e2 e3 e4 e5 e6
 have M1 := hid K1.out.kp.b0
 go_wp2_with (refine wpList_row M1.out Tryz.underlying39 rfl (by kernel_rfl) rfl rfl rfl rfl ?_)
 clear M1
 refine (CK.out _ K1.out.gt).mono ?_
 rintro e w4 ⟨rfl, hg⟩
 have K4 := hid ((K1.out.grown hg).alloc (keyObj 0#64 0#64)); clear hg K1 CK
 go_upto_region 7 with fail
 refine wp_gen (fun wx => Kg w F B G [(w4.heap.size, keyObj 0#64 0#64), (bm, msgObj m)] [] wx) K4.out ?_
 clear K4
 generalize w4.heap.size = kb2
 intro w5 h5
 have K5 := hid h5; clear h5
 go_wp2_with fail
 go_ret
 exact ⟨rfl, K5.out.kp.g⟩
set_option maxHeartbeats 6400000 in
theorem gtake_replay {F : List Nat} {B : GBl} {G : Gt} (m : Mg) (now : Int) (w : World) (K : GtAt w F B G) (CM : ∀ u, Calls Tryz.prog 62 #[mg m] u fun e w' => e = .returned (.bool true) ∧ u.grownBy w' none) (h0 : 0 ≤ now) (h1 : now ≤ 1099511627776) (pf : Addr) (CF : ∀ u, GtAt u F B G → Calls Tryz.prog 54 #[.pointer (some ⟨B.g, 0, none⟩), .int .i64 m.who] u fun e w' => e = .returned (.pointer (some pf)) ∧ u = w') (ka kb : BitVec 64) (rp : Nat) (hrp : rp ∈ F) (CK : ∀ u, GtAt u F B G → Calls Tryz.prog 56 #[.pointer (some ⟨B.g, 0, none⟩), mg m, .int .i64 now] u fun e w' => e = .returned (.tuple #[pair ka kb, .pointer (some ⟨rp, 0, none⟩), .int .i64 0]) ∧ u.grownBy w' none) (CR : ∀ u, GtAt u F B G → Calls Tryz.prog 63 #[.pointer (some ⟨rp, 0, none⟩), .int .i64 m.seq] u fun e w' => e = .returned (.int .i64 6) ∧ GtAt w' F B G ∧ Chg [rp] u w') :
  Calls Tryz.prog 20 #[.pointer (some ⟨B.g, 0, none⟩), mg m, .int .i64 now] w fun e w' => e = .returned (.int .i64 6) ∧ GtAt w' F B G ∧ Chg F w w' := by
 replace CM := hid CM
 replace CF := hid CF
 replace CK := hid CK
 replace CR := hid CR
 have d0 : decide (now < 0) = false := by simp; omega
 have d9 : decide (1099511627776 < now) = false := by simp; omega
 clear h0 h1
 have K0 := hid ((kg_start K).alloc (msgObj m))
 clear K
 have lb := Nat.le_refl w.heap.size
 go_enter Tryz.func20, Tryz.ntmps20
 go_upto_region 1 with fail
 refine wp_gen (fun wx => Kg w F B G [(w.heap.size, msgObj m)] [] wx) K0.out ?_
 clear K0
 generalize hbm : w.heap.size = bm at lb ⊢
 have LB := hid (show w.heap.size ≤ bm from Nat.le_of_eq hbm)
 clear lb hbm
 intro w0 h0
 have K0 := hid h0; clear h0
 have M0 := hid K0.out.kp.b0
 go_wp2_with (refine wpList_row_w M0.out Tryz.underlying39 rfl (by kernel_rfl) rfl rfl rfl rfl ?_)
 refine (CM.out _).mono ?_
 rintro e w1 ⟨rfl, hg⟩
 have K1 := hid (K0.out.grown hg); clear hg K0 CM M0
 obtain ⟨e0, e1, e2, e3, e4, e5, e6⟩ := msg_cells K1.out.kp.b0
 go_wp2_with fail
 refine (CF.out _ K1.out.gt).mono ?_
 rintro e w2 ⟨rfl, hw⟩
 subst hw
 clear CF e0 e1 e2 e3 e4 e5 e6
 have M1 := hid K1.out.kp.b0
 go_wp2_with (refine wpList_row M1.out Tryz.underlying39 rfl (by kernel_rfl) rfl rfl rfl rfl ?_)
 clear M1
 refine (CK.out _ K1.out.gt).mono ?_
 rintro e w4 ⟨rfl, hg⟩
 have K4 := hid ((K1.out.grown hg).alloc (keyObj ka kb)); clear hg K1 CK
 go_upto_region 7 with fail
 refine wp_gen (fun wx => Kg w F B G [(w4.heap.size, keyObj ka kb), (bm, msgObj m)] [] wx) K4.out ?_
 clear K4
 generalize w4.heap.size = kb2
 intro w5 h5
 have K5 := hid h5; clear h5
 have Q5 := hid (kq_of K5.out K5.out.kp.b1 LB.out); clear K5
 obtain ⟨e0, e1, e2, e3, e4, e5, e6⟩ := msg_cells Q5.out.hm
 go_wp2_with fail
 refine (CR.out _ Q5.out.gt).mono ?_
 rintro e w6 ⟨rfl, hg, hc⟩
 have Q6 := hid (Q5.out.leave hg hc (by simpa using hrp)); clear hg hc Q5 CR e0 e1 e2 e3 e4 e5 e6
 go_wp2_with fail
 go_ret
 exact ⟨rfl, Q6.out.gt, Q6.out.ch⟩
set_option maxHeartbeats 6400000 in
theorem gtake_ok {F : List Nat} {B : GBl} {G : Gt} (m : Mg) (now : Int) (w : World) (K : GtAt w F B G) (CM : ∀ u, Calls Tryz.prog 62 #[mg m] u fun e w' => e = .returned (.bool true) ∧ u.grownBy w' none) (h0 : 0 ≤ now) (h1 : now ≤ 1099511627776) (pf : Addr) (CF : ∀ u, GtAt u F B G → Calls Tryz.prog 54 #[.pointer (some ⟨B.g, 0, none⟩), .int .i64 m.who] u fun e w' => e = .returned (.pointer (some pf)) ∧ u = w') (ka kb : BitVec 64) (rp : Nat) (hrp : rp ∈ F) (CK : ∀ u, GtAt u F B G → Calls Tryz.prog 56 #[.pointer (some ⟨B.g, 0, none⟩), mg m, .int .i64 now] u fun e w' => e = .returned (.tuple #[pair ka kb, .pointer (some ⟨rp, 0, none⟩), .int .i64 0]) ∧ u.grownBy w' none) (G1 : Gt) (CR : ∀ u, GtAt u F B G → Calls Tryz.prog 63 #[.pointer (some ⟨rp, 0, none⟩), .int .i64 m.seq] u fun e w' => e = .returned (.int .i64 0) ∧ GtAt w' F B G1 ∧ Chg [rp] u w') (hk : m.kind ≠ 2) :
  Calls Tryz.prog 20 #[.pointer (some ⟨B.g, 0, none⟩), mg m, .int .i64 now] w fun e w' => e = .returned (.int .i64 0) ∧ GtAt w' F B G1 ∧ Chg F w w' := by
 replace CM := hid CM
 replace CF := hid CF
 replace CK := hid CK
 replace CR := hid CR
 have d0 : decide (now < 0) = false := by simp; omega
 have d9 : decide (1099511627776 < now) = false := by simp; omega
 clear h0 h1
 have dk : (m.kind == 2) = false := by simpa using hk
 replace hk := hid hk
 have K0 := hid ((kg_start K).alloc (msgObj m))
 clear K
 have lb := Nat.le_refl w.heap.size
 go_enter Tryz.func20, Tryz.ntmps20
 go_upto_region 1 with fail
 refine wp_gen (fun wx => Kg w F B G [(w.heap.size, msgObj m)] [] wx) K0.out ?_
 clear K0
 generalize hbm : w.heap.size = bm at lb ⊢
 have LB := hid (show w.heap.size ≤ bm from Nat.le_of_eq hbm)
 clear lb hbm
 intro w0 h0
 have K0 := hid h0; clear h0
 have M0 := hid K0.out.kp.b0
 go_wp2_with (refine wpList_row_w M0.out Tryz.underlying39 rfl (by kernel_rfl) rfl rfl rfl rfl ?_)
 refine (CM.out _).mono ?_
 rintro e w1 ⟨rfl, hg⟩
 have K1 := hid (K0.out.grown hg); clear hg K0 CM M0
 obtain ⟨e0, e1, e2, e3, e4, e5, e6⟩ := msg_cells K1.out.kp.b0
 go_wp2_with fail
 refine (CF.out _ K1.out.gt).mono ?_
 rintro e w2 ⟨rfl, hw⟩
 subst hw
 clear CF e0 e1 e2 e3 e4 e5 e6
 have M1 := hid K1.out.kp.b0
 go_wp2_with (refine wpList_row M1.out Tryz.underlying39 rfl (by kernel_rfl) rfl rfl rfl rfl ?_)
 clear M1
 refine (CK.out _ K1.out.gt).mono ?_
 rintro e w4 ⟨rfl, hg⟩
 have K4 := hid ((K1.out.grown hg).alloc (keyObj ka kb)); clear hg K1 CK
 go_upto_region 7 with fail
 refine wp_gen (fun wx => Kg w F B G [(w4.heap.size, keyObj ka kb), (bm, msgObj m)] [] wx) K4.out ?_
 clear K4
 generalize w4.heap.size = kb2
 intro w5 h5
 have K5 := hid h5; clear h5
 have Q5 := hid (kq_of K5.out K5.out.kp.b1 LB.out); clear K5
 obtain ⟨e0, e1, e2, e3, e4, e5, e6⟩ := msg_cells Q5.out.hm
 go_wp2_with fail
 refine (CR.out _ Q5.out.gt).mono ?_
 rintro e w6 ⟨rfl, hg, hc⟩
 have Q6 := hid (Q5.out.leave hg hc (by simpa using hrp)); clear hg hc Q5 CR e0 e1 e2 e3 e4 e5 e6
 obtain ⟨e0, e1, e2, e3, e4, e5, e6⟩ := msg_cells Q6.out.hm
 go_wp2_with fail
 go_ret
 exact ⟨rfl, Q6.out.gt, Q6.out.ch⟩
set_option maxHeartbeats 6400000 in
theorem gtake_rot {F : List Nat} {B : GBl} {G : Gt} (m : Mg) (now : Int) (w : World) (K : GtAt w F B G) (CM : ∀ u, Calls Tryz.prog 62 #[mg m] u fun e w' => e = .returned (.bool true) ∧ u.grownBy w' none) (h0 : 0 ≤ now) (h1 : now ≤ 1099511627776) (pf : Addr) (CF : ∀ u, GtAt u F B G → Calls Tryz.prog 54 #[.pointer (some ⟨B.g, 0, none⟩), .int .i64 m.who] u fun e w' => e = .returned (.pointer (some pf)) ∧ u = w') (ka kb : BitVec 64) (rp : Nat) (hrp : rp ∈ F) (CK : ∀ u, GtAt u F B G → Calls Tryz.prog 56 #[.pointer (some ⟨B.g, 0, none⟩), mg m, .int .i64 now] u fun e w' => e = .returned (.tuple #[pair ka kb, .pointer (some ⟨rp, 0, none⟩), .int .i64 0]) ∧ u.grownBy w' none) (G1 : Gt) (CR : ∀ u, GtAt u F B G → Calls Tryz.prog 63 #[.pointer (some ⟨rp, 0, none⟩), .int .i64 m.seq] u fun e w' => e = .returned (.int .i64 0) ∧ GtAt w' F B G1 ∧ Chg [rp] u w') (hk : m.kind = 2) (G2 G3 : Gt) (i : Nat) (CX : ∀ u, GtAt u F B G1 → Calls Tryz.prog 64 #[.pointer (some ⟨B.rb, 0, none⟩), .int .i64 m.who, .int .i64 m.gen, .int .i64 now] u fun e w' => e = .returned (.int .i64 0) ∧ GtAt w' F B G2 ∧ Chg [B.rh] u w') (hw2 : G2.win = G.win) (CT : ∀ u, GtAt u F B G2 → Calls Tryz.prog 65 #[.pointer (some pf), .int .i64 (G.win : Int)] u fun e w' => e = .returned (.tuple #[]) ∧ ∃ nb, GtAt w' (nb :: F) (B.turn i nb) G3 ∧ Chg [B.hb] u w' ∧ u.heap.size ≤ nb) :
  Calls Tryz.prog 20 #[.pointer (some ⟨B.g, 0, none⟩), mg m, .int .i64 now] w fun e w' => e = .returned (.int .i64 0) ∧ ∃ nb, GtAt w' (nb :: F) (B.turn i nb) G3 ∧ Chg F w w' ∧ w.heap.size ≤ nb := by
 replace CM := hid CM
 replace CF := hid CF
 replace CK := hid CK
 replace CR := hid CR
 replace CX := hid CX
 replace CT := hid CT
 have d0 : decide (now < 0) = false := by simp; omega
 have d9 : decide (1099511627776 < now) = false := by simp; omega
 clear h0 h1
 have dk : (m.kind == 2) = true := by simpa using hk
 replace hw2 := hid hw2
 replace hk := hid hk
 have K0 := hid ((kg_start K).alloc (msgObj m))
 clear K
 have lb := Nat.le_refl w.heap.size
 go_enter Tryz.func20, Tryz.ntmps20
 go_upto_region 1 with fail
 refine wp_gen (fun wx => Kg w F B G [(w.heap.size, msgObj m)] [] wx) K0.out ?_
 clear K0
 generalize hbm : w.heap.size = bm at lb ⊢
 have LB := hid (show w.heap.size ≤ bm from Nat.le_of_eq hbm)
 clear lb hbm
 intro w0 h0
 have K0 := hid h0; clear h0
 have M0 := hid K0.out.kp.b0
 go_wp2_with (refine wpList_row_w M0.out Tryz.underlying39 rfl (by kernel_rfl) rfl rfl rfl rfl ?_)
 refine (CM.out _).mono ?_
 rintro e w1 ⟨rfl, hg⟩
 have K1 := hid (K0.out.grown hg); clear hg K0 CM M0
 obtain ⟨e0, e1, e2, e3, e4, e5, e6⟩ := msg_cells K1.out.kp.b0
 go_wp2_with fail
 refine (CF.out _ K1.out.gt).mono ?_
 rintro e w2 ⟨rfl, hw⟩
 subst hw
 clear CF e0 e1 e2 e3 e4 e5 e6
 have M1 := hid K1.out.kp.b0
 go_wp2_with (refine wpList_row M1.out Tryz.underlying39 rfl (by kernel_rfl) rfl rfl rfl rfl ?_)
 clear M1
 refine (CK.out _ K1.out.gt).mono ?_
 rintro e w4 ⟨rfl, hg⟩
 have K4 := hid ((K1.out.grown hg).alloc (keyObj ka kb)); clear hg K1 CK
 go_upto_region 7 with fail
 refine wp_gen (fun wx => Kg w F B G [(w4.heap.size, keyObj ka kb), (bm, msgObj m)] [] wx) K4.out ?_
 clear K4
 generalize w4.heap.size = kb2
 intro w5 h5
 have K5 := hid h5; clear h5
 have Q5 := hid (kq_of K5.out K5.out.kp.b1 LB.out); clear K5
 obtain ⟨e0, e1, e2, e3, e4, e5, e6⟩ := msg_cells Q5.out.hm
 go_wp2_with fail
 refine (CR.out _ Q5.out.gt).mono ?_
 rintro e w6 ⟨rfl, hg, hc⟩
 have Q6 := hid (Q5.out.leave hg hc (by simpa using hrp)); clear hg hc Q5 CR e0 e1 e2 e3 e4 e5 e6
 obtain ⟨e0, e1, e2, e3, e4, e5, e6⟩ := msg_cells Q6.out.hm
 obtain ⟨c0, c1, c2, c3, c4⟩ := Q6.out.gt.tops
 go_upto_region 13 with fail
 refine wp_region_still_tail 9 (by kernel_rfl) (by kernel_rfl) ?_
 simp only [List.take_succ_cons, List.take_zero, List.drop_succ_cons, List.drop_zero]
 change wpStill _ _ w6.drew _ _ _
 repeat still_step
 refine wpStill_nil ?_
 change wpList _ _ _ _ _ w6.drew
 go_wp2_with fail
 refine (CX.out _ Q6.out.gt.drew).mono ?_
 rintro e w7 ⟨rfl, hg, hc⟩
 have Q7 := hid (Q6.out.drew.leave hg hc (by simpa using Q6.out.gt.mrh)); clear hg hc Q6 CX e0 e1 e2 e3 e4 e5 e6 c0 c1 c2 c3 c4
 obtain ⟨c0, c1, c2, c3, c4⟩ := Q7.out.gt.tops
 rw [hw2.out] at c2
 go_wp2_with fail
 refine (CT.out _ Q7.out.gt).mono ?_
 rintro e w8 ⟨rfl, nb, hg, hc, hn⟩
 have FIN := hid (show GtAt w8 (nb :: F) (B.turn i nb) G3 ∧ Chg F w w8 ∧ w.heap.size ≤ nb from ⟨hg, Q7.out.ch.then (hc.more (by simpa using Q7.out.gt.mhb)), Nat.le_trans Q7.out.ch.size hn⟩)
 clear hg hc hn Q7 c0 c1 c2 c3 c4 CT
 go_wp2_with fail
 go_ret
 exact ⟨rfl, nb, FIN.out⟩
end Go.Proofs.YtgpdcapnnejdeaaGreat
