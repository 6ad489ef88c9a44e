/-
  Contract: what the document's Take answers and leaves, a walk for each answer. The condition: its gate lies there.
-/
import Derived.Test.YtgpdcapnnejdeaaGreatJ0
import Derived.Test.YtgpdcapnnejdeaaGreatY23
import Derived.Test.YtgpdcapnnejdeaaGreatNWMayR
import Derived.Deep.RegionHeld3
import Derived.Deep.QuietTactic
import Derived.BigQuiet
import Derived.StillTailTactics
set_option linter.unusedSimpArgs false
set_option linter.unusedVariables false
namespace Go.Proofs.YtgpdcapnnejdeaaGreat
set_option maxRecDepth 100000
open Go.RowKit

structure Kz (w0 : World) (F0 F : List Nat) (B : RBl) (c : Conf) (KN : Nat) (G : Gt) (bm : Nat) (m : Mg) (w : World) : Prop where
 gt : GrAt w F B c KN G
 hm : w.heap[bm]? = some (msgObj m)
 ch : Chg F0 w0 w
 nb : bm ∉ F
 nF : ∀ x ∈ F, x ∈ F0 ∨ w0.heap.size ≤ x
theorem Kz.drew {w0 w : World} {F0 F : List Nat} {B : RBl} {c : Conf} {KN : Nat} {G : Gt} {bm : Nat} {m : Mg} (h : Kz w0 F0 F B c KN G bm m w) : Kz w0 F0 F B c KN G bm m w.drew := ⟨h.gt.drew, h.hm, h.ch.drew, h.nb, h.nF⟩
theorem Kz.grown {w0 w w1 : World} {F0 F : List Nat} {B : RBl} {c : Conf} {KN : Nat} {G : Gt} {bm : Nat} {m : Mg} (h : Kz w0 F0 F B c KN G bm m w) (hg : w.grownBy w1 none) : Kz w0 F0 F B c KN G bm m w1 := ⟨h.gt.grown hg, at_grown h.hm hg (by simp), h.ch.then (chg_grown hg F0), h.nb, h.nF⟩
theorem kz_of {w0 w : World} {F : List Nat} {B : RBl} {c : Conf} {KN : Nat} {G : Gt} {bm : Nat} {m : Mg} {bs : List (Nat × Obj)} {ys : List (Value × List UInt8)} (h : Kr w0 F B c KN G bs ys w) (hm : w.heap[bm]? = some (msgObj m)) (hb : w0.heap.size ≤ bm) : Kz w0 F F B c KN G bm m w :=
 ⟨h.gt, hm, chg_grown h.kp.g F, fun e => by have := h.lo _ e; omega, fun x hx => .inl hx⟩
set_option maxHeartbeats 6400000 in
theorem rtake_may {F : List Nat} {B : RBl} {c : Conf} {KN : Nat} {G : Gt} (m : Mg) (now : Int) (w : World) (K : GrAt w F B c KN G) (CM : ∀ u, Calls Tryz.prog 66 #[mg m] u fun e w' => e = .returned (.bool false) ∧ u.grownBy w' none) :
  Calls Tryz.prog 21 #[.pointer (some ⟨B.g, 0, none⟩), mg m, .int .i64 now] w fun e w' => e = .returned (.int .i64 1) ∧ w.grownBy w' none := by
 replace CM := hid CM
 have K0 := hid ((kr_start K).alloc (msgObj m))
 clear K
 have lb := Nat.le_refl w.heap.size
 go_enter Tryz.func21, Tryz.ntmps21
 go_upto_region 1 with fail
 refine wp_gen (fun wx => Kr w F B c KN G [(w.heap.size, msgObj m)] [] wx) K0.out ?_
 clear K0
 generalize hbm : w.heap.size = bm at lb ⊢
 have LB := hid (show w.heap.size ≤ bm from Nat.le_of_eq hbm)
 clear lb hbm
 intro w0 h0
 have K0 := hid h0; clear h0
 go_wp2_with (refine wpList_row K0.out.kp.b0 Tryz.underlying39 rfl (by kernel_rfl) rfl rfl rfl rfl ?_)
 refine (CM.out _).mono ?_
 rintro e w1 ⟨rfl, hg⟩
 have K1 := hid (K0.out.grown hg); clear hg K0 CM
 go_wp2_with fail
 go_ret
 exact ⟨rfl, K1.out.kp.g⟩
set_option maxHeartbeats 6400000 in
theorem rtake_low {F : List Nat} {B : RBl} {c : Conf} {KN : Nat} {G : Gt} (m : Mg) (now : Int) (w : World) (K : GrAt w F B c KN G) (CM : ∀ u, Calls Tryz.prog 66 #[mg m] u fun e w' => e = .returned (.bool true) ∧ u.grownBy w' none) (h0 : now < 0) :
  Calls Tryz.prog 21 #[.pointer (some ⟨B.g, 0, none⟩), mg m, .int .i64 now] w fun e w' => e = .returned (.int .i64 1) ∧ w.grownBy w' none := by
 replace CM := hid CM
 have d0 : decide (now < 0) = true := by simp; omega
 clear h0
 have K0 := hid ((kr_start K).alloc (msgObj m))
 clear K
 have lb := Nat.le_refl w.heap.size
 go_enter Tryz.func21, Tryz.ntmps21
 go_upto_region 1 with fail
 refine wp_gen (fun wx => Kr w F B c KN G [(w.heap.size, msgObj m)] [] wx) K0.out ?_
 clear K0
 generalize hbm : w.heap.size = bm at lb ⊢
 have LB := hid (show w.heap.size ≤ bm from Nat.le_of_eq hbm)
 clear lb hbm
 intro w0 h0
 have K0 := hid h0; clear h0
 go_wp2_with (refine wpList_row K0.out.kp.b0 Tryz.underlying39 rfl (by kernel_rfl) rfl rfl rfl rfl ?_)
 refine (CM.out _).mono ?_
 rintro e w1 ⟨rfl, hg⟩
 have K1 := hid (K0.out.grown hg); clear hg K0 CM
 go_wp2_with fail
 go_ret
 exact ⟨rfl, K1.out.kp.g⟩
set_option maxHeartbeats 6400000 in
theorem rtake_high {F : List Nat} {B : RBl} {c : Conf} {KN : Nat} {G : Gt} (m : Mg) (now : Int) (w : World) (K : GrAt w F B c KN G) (CM : ∀ u, Calls Tryz.prog 66 #[mg m] u fun e w' => e = .returned (.bool true) ∧ u.grownBy w' none) (h0 : 0 ≤ now) (h1 : 1099511627776 < now) :
  Calls Tryz.prog 21 #[.pointer (some ⟨B.g, 0, none⟩), mg m, .int .i64 now] w fun e w' => e = .returned (.int .i64 1) ∧ w.grownBy w' none := by
 replace CM := hid CM
 have d0 : decide (now < 0) = false := by simp; omega
 have d9 : decide (1099511627776 < now) = true := by simp; omega
 clear h0 h1
 have K0 := hid ((kr_start K).alloc (msgObj m))
 clear K
 have lb := Nat.le_refl w.heap.size
 go_enter Tryz.func21, Tryz.ntmps21
 go_upto_region 1 with fail
 refine wp_gen (fun wx => Kr w F B c KN G [(w.heap.size, msgObj m)] [] wx) K0.out ?_
 clear K0
 generalize hbm : w.heap.size = bm at lb ⊢
 have LB := hid (show w.heap.size ≤ bm from Nat.le_of_eq hbm)
 clear lb hbm
 intro w0 h0
 have K0 := hid h0; clear h0
 go_wp2_with (refine wpList_row K0.out.kp.b0 Tryz.underlying39 rfl (by kernel_rfl) rfl rfl rfl rfl ?_)
 refine (CM.out _).mono ?_
 rintro e w1 ⟨rfl, hg⟩
 have K1 := hid (K0.out.grown hg); clear hg K0 CM
 go_wp2_with fail
 go_ret
 exact ⟨rfl, K1.out.kp.g⟩
set_option maxHeartbeats 6400000 in
theorem rtake_who {F : List Nat} {B : RBl} {c : Conf} {KN : Nat} {G : Gt} (m : Mg) (now : Int) (w : World) (K : GrAt w F B c KN G) (CM : ∀ u, Calls Tryz.prog 66 #[mg m] u fun e w' => e = .returned (.bool true) ∧ u.grownBy w' none) (h0 : 0 ≤ now) (h1 : now ≤ 1099511627776) (hw : c.n ≤ m.who) :
  Calls Tryz.prog 21 #[.pointer (some ⟨B.g, 0, none⟩), mg m, .int .i64 now] w fun e w' => e = .returned (.int .i64 3) ∧ w.grownBy w' none := by
 replace CM := hid CM
 have d0 : decide (now < 0) = false := by simp; omega
 have d9 : decide (1099511627776 < now) = false := by simp; omega
 clear h0 h1
 have dw : decide (c.n ≤ m.who) = true := by simp; omega
 clear hw
 have K0 := hid ((kr_start K).alloc (msgObj m))
 clear K
 have lb := Nat.le_refl w.heap.size
 go_enter Tryz.func21, Tryz.ntmps21
 go_upto_region 1 with fail
 refine wp_gen (fun wx => Kr w F B c KN G [(w.heap.size, msgObj m)] [] wx) K0.out ?_
 clear K0
 generalize hbm : w.heap.size = bm at lb ⊢
 have LB := hid (show w.heap.size ≤ bm from Nat.le_of_eq hbm)
 clear lb hbm
 intro w0 h0
 have K0 := hid h0; clear h0
 go_wp2_with (refine wpList_row K0.out.kp.b0 Tryz.underlying39 rfl (by kernel_rfl) rfl rfl rfl rfl ?_)
 refine (CM.out _).mono ?_
 rintro e w1 ⟨rfl, hg⟩
 have K1 := hid (K0.out.grown hg); clear hg K0 CM
 have m1 : w1.cell? ⟨bm, 1, none⟩ = some (.int .i64 m.who) := at_cell K1.out.kp.b0 1
 have t0 : w1.cell? ⟨B.g, 0, none⟩ = some (.int .i64 c.n) := K1.out.gt.tops.1
 go_upto_region 3 with fail
 go_quiet (fail)
 clear m1 t0
 refine exit_gen (fun wx => Kr w F B c KN G [(bm, msgObj m)] [] wx) (K1.out.grown (gb_drewQ w1 _)) ?_
 clear K1
 intro w2 h2
 have K2 := hid h2; clear h2
 go_wp2_with fail
 go_ret
 exact ⟨rfl, K2.out.kp.g⟩
set_option maxHeartbeats 6400000 in
theorem rtake_gen {F : List Nat} {B : RBl} {c : Conf} {KN : Nat} {G : Gt} (m : Mg) (now : Int) (w : World) (K : GrAt w F B c KN G) (CM : ∀ u, Calls Tryz.prog 66 #[mg m] u fun e w' => e = .returned (.bool true) ∧ u.grownBy w' none) (h0 : 0 ≤ now) (h1 : now ≤ 1099511627776) (hw : m.who < c.n) (CK : ∀ u, GrAt u F B c KN G → Calls Tryz.prog 60 #[.pointer (some ⟨B.g, 0, none⟩), mg m, .int .i64 now] u fun e w' => e = .returned (.tuple #[pair 0 0, .pointer none, .int .i64 4]) ∧ u.grownBy w' none) :
  Calls Tryz.prog 21 #[.pointer (some ⟨B.g, 0, none⟩), mg m, .int .i64 now] w fun e w' => e = .returned (.int .i64 4) ∧ w.grownBy w' none := by
 replace CM := hid CM
 replace CK := hid CK
 have d0 : decide (now < 0) = false := by simp; omega
 have d9 : decide (1099511627776 < now) = false := by simp; omega
 clear h0 h1
 have dw : decide (c.n ≤ m.who) = false := by simp; omega
 clear hw
 have K0 := hid ((kr_start K).alloc (msgObj m))
 clear K
 have lb := Nat.le_refl w.heap.size
 go_enter Tryz.func21, Tryz.ntmps21
 go_upto_region 1 with fail
 refine wp_gen (fun wx => Kr w F B c KN G [(w.heap.size, msgObj m)] [] wx) K0.out ?_
 clear K0
 generalize hbm : w.heap.size = bm at lb ⊢
 have LB := hid (show w.heap.size ≤ bm from Nat.le_of_eq hbm)
 clear lb hbm
 intro w0 h0
 have K0 := hid h0; clear h0
 go_wp2_with (refine wpList_row K0.out.kp.b0 Tryz.underlying39 rfl (by kernel_rfl) rfl rfl rfl rfl ?_)
 refine (CM.out _).mono ?_
 rintro e w1 ⟨rfl, hg⟩
 have K1 := hid (K0.out.grown hg); clear hg K0 CM
 have m1 : w1.cell? ⟨bm, 1, none⟩ = some (.int .i64 m.who) := at_cell K1.out.kp.b0 1
 have t0 : w1.cell? ⟨B.g, 0, none⟩ = some (.int .i64 c.n) := K1.out.gt.tops.1
 go_upto_region 3 with fail
 go_quiet (fail)
 clear m1 t0
 refine exit_gen (fun wx => Kr w F B c KN G [(bm, msgObj m)] [] wx) (K1.out.grown (gb_drewQ w1 _)) ?_
 clear K1
 intro w2 h2
 have K2 := hid h2; clear h2
 go_wp2_with (refine wpList_row K2.out.kp.b0 Tryz.underlying39 rfl (by kernel_rfl) rfl rfl rfl rfl ?_)
 refine (CK.out _ K2.out.gt).mono ?_
 rintro e w4 ⟨rfl, hg⟩
 have K4 := hid ((K2.out.grown hg).alloc (keyObj 0#64 0#64)); clear hg K2 CK
 go_upto_region 6 with fail
 refine wp_gen (fun wx => Kr w F B c KN G [(w4.heap.size, keyObj 0#64 0#64), (bm, msgObj m)] [] wx) K4.out ?_
 clear K4
 generalize w4.heap.size = kb2
 intro w5 h5
 have K5 := hid h5; clear h5
 go_wp2_with fail
 go_ret
 exact ⟨rfl, K5.out.kp.g⟩
set_option maxHeartbeats 6400000 in
theorem rtake_replay {F : List Nat} {B : RBl} {c : Conf} {KN : Nat} {G : Gt} (m : Mg) (now : Int) (w : World) (K : GrAt w F B c KN G) (CM : ∀ u, Calls Tryz.prog 66 #[mg m] u fun e w' => e = .returned (.bool true) ∧ u.grownBy w' none) (h0 : 0 ≤ now) (h1 : now ≤ 1099511627776) (hw : m.who < c.n) (ka kb : BitVec 64) (rp : Nat) (CK : ∀ u, GrAt u F B c KN G → Calls Tryz.prog 60 #[.pointer (some ⟨B.g, 0, none⟩), mg m, .int .i64 now] u fun e w' => e = .returned (.tuple #[pair ka kb, .pointer (some ⟨rp, 0, none⟩), .int .i64 0]) ∧ u.grownBy w' none) (CR : ∀ u, GrAt u F B c KN G → Calls Tryz.prog 67 #[.pointer (some ⟨rp, 0, none⟩), .int .i64 m.seq] u fun e w' => e = .returned (.int .i64 6) ∧ ∃ F1 B1, GrAt w' F1 B1 c (KN + 1) G ∧ B1.g = B.g ∧ Chg F u w' ∧ ∀ x ∈ F1, x ∈ F ∨ u.heap.size ≤ x) :
  Calls Tryz.prog 21 #[.pointer (some ⟨B.g, 0, none⟩), mg m, .int .i64 now] w fun e w' => e = .returned (.int .i64 6) ∧ ∃ F' B', GrAt w' F' B' c (KN + 1) G ∧ B'.g = B.g ∧ Chg F w w' ∧ ∀ x ∈ F', x ∈ F ∨ w.heap.size ≤ x := by
 replace CM := hid CM
 replace CK := hid CK
 replace CR := hid CR
 have d0 : decide (now < 0) = false := by simp; omega
 have d9 : decide (1099511627776 < now) = false := by simp; omega
 clear h0 h1
 have dw : decide (c.n ≤ m.who) = false := by simp; omega
 clear hw
 have K0 := hid ((kr_start K).alloc (msgObj m))
 clear K
 have lb := Nat.le_refl w.heap.size
 go_enter Tryz.func21, Tryz.ntmps21
 go_upto_region 1 with fail
 refine wp_gen (fun wx => Kr w F B c KN G [(w.heap.size, msgObj m)] [] wx) K0.out ?_
 clear K0
 generalize hbm : w.heap.size = bm at lb ⊢
 have LB := hid (show w.heap.size ≤ bm from Nat.le_of_eq hbm)
 clear lb hbm
 intro w0 h0
 have K0 := hid h0; clear h0
 go_wp2_with (refine wpList_row K0.out.kp.b0 Tryz.underlying39 rfl (by kernel_rfl) rfl rfl rfl rfl ?_)
 refine (CM.out _).mono ?_
 rintro e w1 ⟨rfl, hg⟩
 have K1 := hid (K0.out.grown hg); clear hg K0 CM
 have m1 : w1.cell? ⟨bm, 1, none⟩ = some (.int .i64 m.who) := at_cell K1.out.kp.b0 1
 have t0 : w1.cell? ⟨B.g, 0, none⟩ = some (.int .i64 c.n) := K1.out.gt.tops.1
 go_upto_region 3 with fail
 go_quiet (fail)
 clear m1 t0
 refine exit_gen (fun wx => Kr w F B c KN G [(bm, msgObj m)] [] wx) (K1.out.grown (gb_drewQ w1 _)) ?_
 clear K1
 intro w2 h2
 have K2 := hid h2; clear h2
 go_wp2_with (refine wpList_row K2.out.kp.b0 Tryz.underlying39 rfl (by kernel_rfl) rfl rfl rfl rfl ?_)
 refine (CK.out _ K2.out.gt).mono ?_
 rintro e w4 ⟨rfl, hg⟩
 have K4 := hid ((K2.out.grown hg).alloc (keyObj ka kb)); clear hg K2 CK
 go_upto_region 6 with fail
 refine wp_gen (fun wx => Kr w F B c KN G [(w4.heap.size, keyObj ka kb), (bm, msgObj m)] [] wx) K4.out ?_
 clear K4
 generalize w4.heap.size = kb2
 intro w5 h5
 have K5 := hid h5; clear h5
 have Q5 := hid (kz_of K5.out K5.out.kp.b1 LB.out); clear K5
 have m3 : w5.cell? ⟨bm, 3, none⟩ = some (.int .i64 m.seq) := at_cell Q5.out.hm 3
 go_wp2_with fail
 refine (CR.out _ Q5.out.gt).mono ?_
 rintro e w6 ⟨rfl, F1, B1, hg, e1, hc, hF⟩
 have hbm := at_lt Q5.out.hm
 have hz := Q5.out.ch.size
 have Q6 := hid (show Kz w F F1 B1 c (KN + 1) G bm m w6 from ⟨hg, hc.at Q5.out.hm Q5.out.nb, Q5.out.ch.then hc, fun e => by rcases hF _ e with h | h; exact Q5.out.nb h; omega, fun x hx => by rcases hF x hx with h | h; exact .inl h; exact .inr (by omega)⟩)
 have E1 := hid e1
 clear hg hc hF e1 Q5 CR m3 hbm hz
 go_wp2_with fail
 go_ret
 exact ⟨rfl, F1, B1, Q6.out.gt, E1.out, Q6.out.ch, Q6.out.nF⟩
set_option maxHeartbeats 6400000 in
theorem rtake_ok {F : List Nat} {B : RBl} {c : Conf} {KN : Nat} {G : Gt} (m : Mg) (now : Int) (w : World) (K : GrAt w F B c KN G) (CM : ∀ u, Calls Tryz.prog 66 #[mg m] u fun e w' => e = .returned (.bool true) ∧ u.grownBy w' none) (h0 : 0 ≤ now) (h1 : now ≤ 1099511627776) (hw : m.who < c.n) (ka kb : BitVec 64) (rp : Nat) (CK : ∀ u, GrAt u F B c KN G → Calls Tryz.prog 60 #[.pointer (some ⟨B.g, 0, none⟩), mg m, .int .i64 now] u fun e w' => e = .returned (.tuple #[pair ka kb, .pointer (some ⟨rp, 0, none⟩), .int .i64 0]) ∧ u.grownBy w' none) (G1 : Gt) (CR : ∀ u, GrAt u F B c KN G → Calls Tryz.prog 67 #[.pointer (some ⟨rp, 0, none⟩), .int .i64 m.seq] u fun e w' => e = .returned (.int .i64 0) ∧ ∃ F1 B1, GrAt w' F1 B1 c (KN + 1) G1 ∧ B1.g = B.g ∧ Chg F u w' ∧ ∀ x ∈ F1, x ∈ F ∨ u.heap.size ≤ x) (hk : m.kind ≠ 2) :
  Calls Tryz.prog 21 #[.pointer (some ⟨B.g, 0, none⟩), mg m, .int .i64 now] w fun e w' => e = .returned (.int .i64 0) ∧ ∃ F' B', GrAt w' F' B' c (KN + 1) G1 ∧ B'.g = B.g ∧ Chg F w w' ∧ ∀ x ∈ F', x ∈ F ∨ w.heap.size ≤ x := by
 replace CM := hid CM
 replace CK := hid CK
 replace CR := hid CR
 have d0 : decide (now < 0) = false := by simp; omega
 have d9 : decide (1099511627776 < now) = false := by simp; omega
 clear h0 h1
 have dw : decide (c.n ≤ m.who) = false := by simp; omega
 clear hw
 have dk : (m.kind != 2) = true := by simpa using hk
 replace hk := hid hk
 have K0 := hid ((kr_start K).alloc (msgObj m))
 clear K
 have lb := Nat.le_refl w.heap.size
 go_enter Tryz.func21, Tryz.ntmps21
 go_upto_region 1 with fail
 refine wp_gen (fun wx => Kr w F B c KN G [(w.heap.size, msgObj m)] [] wx) K0.out ?_
 clear K0
 generalize hbm : w.heap.size = bm at lb ⊢
 have LB := hid (show w.heap.size ≤ bm from Nat.le_of_eq hbm)
 clear lb hbm
 intro w0 h0
 have K0 := hid h0; clear h0
 go_wp2_with (refine wpList_row K0.out.kp.b0 Tryz.underlying39 rfl (by kernel_rfl) rfl rfl rfl rfl ?_)
 refine (CM.out _).mono ?_
 rintro e w1 ⟨rfl, hg⟩
 have K1 := hid (K0.out.grown hg); clear hg K0 CM
 have m1 : w1.cell? ⟨bm, 1, none⟩ = some (.int .i64 m.who) := at_cell K1.out.kp.b0 1
 have t0 : w1.cell? ⟨B.g, 0, none⟩ = some (.int .i64 c.n) := K1.out.gt.tops.1
 go_upto_region 3 with fail
 go_quiet (fail)
 clear m1 t0
 refine exit_gen (fun wx => Kr w F B c KN G [(bm, msgObj m)] [] wx) (K1.out.grown (gb_drewQ w1 _)) ?_
 clear K1
 intro w2 h2
 have K2 := hid h2; clear h2
 go_wp2_with (refine wpList_row K2.out.kp.b0 Tryz.underlying39 rfl (by kernel_rfl) rfl rfl rfl rfl ?_)
 refine (CK.out _ K2.out.gt).mono ?_
 rintro e w4 ⟨rfl, hg⟩
 have K4 := hid ((K2.out.grown hg).alloc (keyObj ka kb)); clear hg K2 CK
 go_upto_region 6 with fail
 refine wp_gen (fun wx => Kr w F B c KN G [(w4.heap.size, keyObj ka kb), (bm, msgObj m)] [] wx) K4.out ?_
 clear K4
 generalize w4.heap.size = kb2
 intro w5 h5
 have K5 := hid h5; clear h5
 have Q5 := hid (kz_of K5.out K5.out.kp.b1 LB.out); clear K5
 have m3 : w5.cell? ⟨bm, 3, none⟩ = some (.int .i64 m.seq) := at_cell Q5.out.hm 3
 go_wp2_with fail
 refine (CR.out _ Q5.out.gt).mono ?_
 rintro e w6 ⟨rfl, F1, B1, hg, e1, hc, hF⟩
 have hbm := at_lt Q5.out.hm
 have hz := Q5.out.ch.size
 have Q6 := hid (show Kz w F F1 B1 c (KN + 1) G1 bm m w6 from ⟨hg, hc.at Q5.out.hm Q5.out.nb, Q5.out.ch.then hc, fun e => by rcases hF _ e with h | h; exact Q5.out.nb h; omega, fun x hx => by rcases hF x hx with h | h; exact .inl h; exact .inr (by omega)⟩)
 have E1 := hid e1
 clear hg hc hF e1 Q5 CR m3 hbm hz
 have m0 : w6.cell? ⟨bm, 0, none⟩ = some (.int .i64 m.kind) := at_cell Q6.out.hm 0
 go_wp2_with fail
 go_ret
 exact ⟨rfl, F1, B1, Q6.out.gt, E1.out, Q6.out.ch, Q6.out.nF⟩
set_option maxHeartbeats 6400000 in
theorem rtake_rot {F : List Nat} {B : RBl} {c : Conf} {KN : Nat} {G : Gt} (m : Mg) (now : Int) (w : World) (K : GrAt w F B c KN G) (CM : ∀ u, Calls Tryz.prog 66 #[mg m] u fun e w' => e = .returned (.bool true) ∧ u.grownBy w' none) (h0 : 0 ≤ now) (h1 : now ≤ 1099511627776) (hw : m.who < c.n) (ka kb : BitVec 64) (rp : Nat) (CK : ∀ u, GrAt u F B c KN G → Calls Tryz.prog 60 #[.pointer (some ⟨B.g, 0, none⟩), mg m, .int .i64 now] u fun e w' => e = .returned (.tuple #[pair ka kb, .pointer (some ⟨rp, 0, none⟩), .int .i64 0]) ∧ u.grownBy w' none) (G1 : Gt) (CR : ∀ u, GrAt u F B c KN G → Calls Tryz.prog 67 #[.pointer (some ⟨rp, 0, none⟩), .int .i64 m.seq] u fun e w' => e = .returned (.int .i64 0) ∧ ∃ F1 B1, GrAt w' F1 B1 c (KN + 1) G1 ∧ B1.g = B.g ∧ Chg F u w' ∧ ∀ x ∈ F1, x ∈ F ∨ u.heap.size ≤ x) (hk : m.kind = 2) (i : Nat) (hi : i < G1.r.n) (ei : m.who = (i : Int)) (eg : m.gen = G1.r.gen i + 1) (g1 : m.gen ≤ 60000) :
  Calls Tryz.prog 21 #[.pointer (some ⟨B.g, 0, none⟩), mg m, .int .i64 now] w fun e w' => e = .returned (.int .i64 0) ∧ ∃ F' B', GrAt w' F' B' c (KN + 1) (G1.turn i m.gen now) ∧ B'.g = B.g ∧ Chg F w w' ∧ ∀ x ∈ F', x ∈ F ∨ w.heap.size ≤ x := by
 replace CM := hid CM
 replace CK := hid CK
 replace CR := hid CR
 have d0 : decide (now < 0) = false := by simp; omega
 have d9 : decide (1099511627776 < now) = false := by simp; omega
 have HN := hid (And.intro h0 h1)
 clear h0 h1
 have dw : decide (c.n ≤ m.who) = false := by simp; omega
 clear hw
 have dk : (m.kind != 2) = false := by simpa using hk
 replace hk := hid hk
 have EI := hid ei; have EG := hid eg; have GG1 := hid g1; have HI := hid hi
 clear ei eg g1 hi
 have K0 := hid ((kr_start K).alloc (msgObj m))
 clear K
 have lb := Nat.le_refl w.heap.size
 go_enter Tryz.func21, Tryz.ntmps21
 go_upto_region 1 with fail
 refine wp_gen (fun wx => Kr w F B c KN G [(w.heap.size, msgObj m)] [] wx) K0.out ?_
 clear K0
 generalize hbm : w.heap.size = bm at lb ⊢
 have LB := hid (show w.heap.size ≤ bm from Nat.le_of_eq hbm)
 clear lb hbm
 intro w0 h0
 have K0 := hid h0; clear h0
 go_wp2_with (refine wpList_row K0.out.kp.b0 Tryz.underlying39 rfl (by kernel_rfl) rfl rfl rfl rfl ?_)
 refine (CM.out _).mono ?_
 rintro e w1 ⟨rfl, hg⟩
 have K1 := hid (K0.out.grown hg); clear hg K0 CM
 have m1 : w1.cell? ⟨bm, 1, none⟩ = some (.int .i64 m.who) := at_cell K1.out.kp.b0 1
 have t0 : w1.cell? ⟨B.g, 0, none⟩ = some (.int .i64 c.n) := K1.out.gt.tops.1
 go_upto_region 3 with fail
 go_quiet (fail)
 clear m1 t0
 refine exit_gen (fun wx => Kr w F B c KN G [(bm, msgObj m)] [] wx) (K1.out.grown (gb_drewQ w1 _)) ?_
 clear K1
 intro w2 h2
 have K2 := hid h2; clear h2
 go_wp2_with (refine wpList_row K2.out.kp.b0 Tryz.underlying39 rfl (by kernel_rfl) rfl rfl rfl rfl ?_)
 refine (CK.out _ K2.out.gt).mono ?_
 rintro e w4 ⟨rfl, hg⟩
 have K4 := hid ((K2.out.grown hg).alloc (keyObj ka kb)); clear hg K2 CK
 go_upto_region 6 with fail
 refine wp_gen (fun wx => Kr w F B c KN G [(w4.heap.size, keyObj ka kb), (bm, msgObj m)] [] wx) K4.out ?_
 clear K4
 generalize w4.heap.size = kb2
 intro w5 h5
 have K5 := hid h5; clear h5
 have Q5 := hid (kz_of K5.out K5.out.kp.b1 LB.out); clear K5
 have m3 : w5.cell? ⟨bm, 3, none⟩ = some (.int .i64 m.seq) := at_cell Q5.out.hm 3
 go_wp2_with fail
 refine (CR.out _ Q5.out.gt).mono ?_
 rintro e w6 ⟨rfl, F1, B1, hg, e1, hc, hF⟩
 have hbm := at_lt Q5.out.hm
 have hz := Q5.out.ch.size
 have Q6 := hid (show Kz w F F1 B1 c (KN + 1) G1 bm m w6 from ⟨hg, hc.at Q5.out.hm Q5.out.nb, Q5.out.ch.then hc, fun e => by rcases hF _ e with h | h; exact Q5.out.nb h; omega, fun x hx => by rcases hF x hx with h | h; exact .inl h; exact .inr (by omega)⟩)
 have E1 := hid e1
 clear hg hc hF e1 Q5 CR m3 hbm hz
 have m0 : w6.cell? ⟨bm, 0, none⟩ = some (.int .i64 m.kind) := at_cell Q6.out.hm 0
 have hin : (0 : Int) ≤ (i : Int) ∧ (i : Int) < (G1.r.n : Int) := by have := HI.out; omega
 obtain ⟨q1, q2⟩ := hin
 have cc1 := Q6.out.gt.c1; have cc2 := Q6.out.gt.c2; have n16 := Q6.out.gt.ring.ok.n2
 unfold maxLen at cc1 cc2
 have cw := Q6.out.gt.cw
 have KT := hid Q6.out.gt.top
 rw [E1.out] at KT
 have BG := hid E1.out
 have CP := hid (fun u => qnew_ok G1.win Q6.out.gt.ok.w1 Q6.out.gt.ok.w2 u)
 have CW := hid cw
 clear cw
 go_wp2_with fail
 clear m0
 have TG := hid Q6.out.drew
 refine wp_region_held_drew (S := (fun w' => (w'.heap[bm]? = some (msgObj m)) ∧ (w'.heap[B.g]? = some (.cells (refCells c B1 G1.r.n) 66)))) (by kernel_rfl) ⟨Q6.out.drew.hm, at_grown KT.out (gb_drew (.refl w6 none)) (by simp)⟩ (fun hHeld => ?_)
 try dsimp only at hHeld
 refine jU 0 hHeld ?_
 try simp only [jX, jD, jE, jF]
 refine jU 1 hHeld ?_
 try simp only [jX, jD, jE, jF]
 refine jU 2 hHeld ?_
 try simp only [jX, jD, jE, jF]
 refine' jT 3 rfl (by rfl) ?_ hHeld ?_
 rotate_left
 ·(intro w hSw; (try dsimp only at hSw); obtain ⟨bb, gg⟩ := hSw; have t6 : w.cell? ⟨B.g, 6, none⟩ = some (Value.int IntKind.i64 (G1.win : Int)) := (at_cell gg 6).trans (by rw [← CW.out]; rfl); have t27 : w.cell? ⟨B.g, 27, none⟩ = some (Value.slice (some ⟨B1.rp, 0, none⟩) G1.r.n B1.cr) := at_cell gg 27; have t28 : w.cell? ⟨B.g, 28, none⟩ = some (Value.slice (some ⟨B1.ps, 0, none⟩) G1.r.n B1.cp) := at_cell gg 28; have m1 : w.cell? ⟨bm, 1, none⟩ = some (Value.int IntKind.i64 (i : Int)) := (at_cell bb 1).trans (by rw [← EI.out]; rfl); go_simp; try with_reducible rfl)
 try simp only [jX, jD, jE, jF]
 refine jU 4 hHeld ?_
 try simp only [jX, jD, jE, jF]
 refine' jT 5 rfl (by rfl) ?_ hHeld ?_
 rotate_left
 ·(intro w hSw; (try dsimp only at hSw); obtain ⟨bb, gg⟩ := hSw; have t6 : w.cell? ⟨B.g, 6, none⟩ = some (Value.int IntKind.i64 (G1.win : Int)) := (at_cell gg 6).trans (by rw [← CW.out]; rfl); have t27 : w.cell? ⟨B.g, 27, none⟩ = some (Value.slice (some ⟨B1.rp, 0, none⟩) G1.r.n B1.cr) := at_cell gg 27; have t28 : w.cell? ⟨B.g, 28, none⟩ = some (Value.slice (some ⟨B1.ps, 0, none⟩) G1.r.n B1.cp) := at_cell gg 28; have m1 : w.cell? ⟨bm, 1, none⟩ = some (Value.int IntKind.i64 (i : Int)) := (at_cell bb 1).trans (by rw [← EI.out]; rfl); go_simp; try with_reducible rfl)
 try simp only [jX, jD, jE, jF]
 refine jU 6 hHeld ?_
 try simp only [jX, jD, jE, jF]
 refine jU 7 hHeld ?_
 try simp only [jX, jD, jE, jF]
 refine jU 8 hHeld ?_
 try simp only [jX, jD, jE, jF]
 refine' jT 9 rfl (by rfl) ?_ hHeld ?_
 rotate_left
 ·(intro w hSw; (try dsimp only at hSw); obtain ⟨bb, gg⟩ := hSw; have t6 : w.cell? ⟨B.g, 6, none⟩ = some (Value.int IntKind.i64 (G1.win : Int)) := (at_cell gg 6).trans (by rw [← CW.out]; rfl); have t27 : w.cell? ⟨B.g, 27, none⟩ = some (Value.slice (some ⟨B1.rp, 0, none⟩) G1.r.n B1.cr) := at_cell gg 27; have t28 : w.cell? ⟨B.g, 28, none⟩ = some (Value.slice (some ⟨B1.ps, 0, none⟩) G1.r.n B1.cp) := at_cell gg 28; have m1 : w.cell? ⟨bm, 1, none⟩ = some (Value.int IntKind.i64 (i : Int)) := (at_cell bb 1).trans (by rw [← EI.out]; rfl); go_simp; try with_reducible rfl)
 try simp only [jX, jD, jE, jF]
 refine jU 10 hHeld ?_
 try simp only [jX, jD, jE, jF]
 refine' jT 11 rfl (by rfl) ?_ hHeld ?_
 rotate_left
 ·(intro w hSw; (try dsimp only at hSw); obtain ⟨bb, gg⟩ := hSw; have t6 : w.cell? ⟨B.g, 6, none⟩ = some (Value.int IntKind.i64 (G1.win : Int)) := (at_cell gg 6).trans (by rw [← CW.out]; rfl); have t27 : w.cell? ⟨B.g, 27, none⟩ = some (Value.slice (some ⟨B1.rp, 0, none⟩) G1.r.n B1.cr) := at_cell gg 27; have t28 : w.cell? ⟨B.g, 28, none⟩ = some (Value.slice (some ⟨B1.ps, 0, none⟩) G1.r.n B1.cp) := at_cell gg 28; have m1 : w.cell? ⟨bm, 1, none⟩ = some (Value.int IntKind.i64 (i : Int)) := (at_cell bb 1).trans (by rw [← EI.out]; rfl); go_simp; try with_reducible rfl)
 try simp only [jX, jD, jE, jF]
 refine jU 12 hHeld ?_
 try simp only [jX, jD, jE, jF]
 refine jU 13 hHeld ?_
 try simp only [jX, jD, jE, jF]
 refine jU 14 hHeld ?_
 try simp only [jX, jD, jE, jF]
 refine' jT 15 rfl (by rfl) ?_ hHeld ?_
 rotate_left
 ·(intro w hSw; (try dsimp only at hSw); obtain ⟨bb, gg⟩ := hSw; have t6 : w.cell? ⟨B.g, 6, none⟩ = some (Value.int IntKind.i64 (G1.win : Int)) := (at_cell gg 6).trans (by rw [← CW.out]; rfl); have t27 : w.cell? ⟨B.g, 27, none⟩ = some (Value.slice (some ⟨B1.rp, 0, none⟩) G1.r.n B1.cr) := at_cell gg 27; have t28 : w.cell? ⟨B.g, 28, none⟩ = some (Value.slice (some ⟨B1.ps, 0, none⟩) G1.r.n B1.cp) := at_cell gg 28; have m1 : w.cell? ⟨bm, 1, none⟩ = some (Value.int IntKind.i64 (i : Int)) := (at_cell bb 1).trans (by rw [← EI.out]; rfl); go_simp; try with_reducible rfl)
 try simp only [jX, jD, jE, jF]
 refine jU 16 hHeld ?_
 try simp only [jX, jD, jE, jF]
 refine' jT 17 rfl (by rfl) ?_ hHeld ?_
 rotate_left
 ·(intro w hSw; (try dsimp only at hSw); obtain ⟨bb, gg⟩ := hSw; have t6 : w.cell? ⟨B.g, 6, none⟩ = some (Value.int IntKind.i64 (G1.win : Int)) := (at_cell gg 6).trans (by rw [← CW.out]; rfl); have t27 : w.cell? ⟨B.g, 27, none⟩ = some (Value.slice (some ⟨B1.rp, 0, none⟩) G1.r.n B1.cr) := at_cell gg 27; have t28 : w.cell? ⟨B.g, 28, none⟩ = some (Value.slice (some ⟨B1.ps, 0, none⟩) G1.r.n B1.cp) := at_cell gg 28; have m1 : w.cell? ⟨bm, 1, none⟩ = some (Value.int IntKind.i64 (i : Int)) := (at_cell bb 1).trans (by rw [← EI.out]; rfl); go_simp; try with_reducible rfl)
 try simp only [jX, jD, jE, jF]
 refine jU 18 hHeld ?_
 try simp only [jX, jD, jE, jF]
 refine jU 20 hHeld ?_
 try simp only [jX, jD, jE, jF]
 refine jU 21 hHeld ?_
 try simp only [jX, jD, jE, jF]
 refine jU 22 hHeld ?_
 try simp only [jX, jD, jE, jF]
 refine jU 23 hHeld ?_
 try simp only [jX, jD, jE, jF]
 refine' jT 24 rfl (by rfl) ?_ hHeld ?_
 rotate_left
 ·(intro w hSw; (try dsimp only at hSw); obtain ⟨bb, gg⟩ := hSw; have t6 : w.cell? ⟨B.g, 6, none⟩ = some (Value.int IntKind.i64 (G1.win : Int)) := (at_cell gg 6).trans (by rw [← CW.out]; rfl); have t27 : w.cell? ⟨B.g, 27, none⟩ = some (Value.slice (some ⟨B1.rp, 0, none⟩) G1.r.n B1.cr) := at_cell gg 27; have t28 : w.cell? ⟨B.g, 28, none⟩ = some (Value.slice (some ⟨B1.ps, 0, none⟩) G1.r.n B1.cp) := at_cell gg 28; have m1 : w.cell? ⟨bm, 1, none⟩ = some (Value.int IntKind.i64 (i : Int)) := (at_cell bb 1).trans (by rw [← EI.out]; rfl); go_simp; try with_reducible rfl)
 try simp only [jX, jD, jE, jF]
 refine jR [19, 25] ?_
 refine jG rfl (fun K hK => ?_) (jG rfl (fun K hK => ?_) AllReadyH.nil)
 ·have hH2 := hHeld
  obtain ⟨bb, gg⟩ := hH2
  have hg : (w6.drew).grownBy w6.drew none := .refl _ _
  have cg : (w6.drew).cell? ⟨B1.rp, i, none⟩ = some (.pointer (some ⟨B1.A i, 0, none⟩)) := (TG.out.gt.cells HI.out).1
  have L19 := hid (show (w6.drew.heap[bm]? = some (msgObj m)) ∧ (w6.drew.heap[B.g]? = some (.cells (refCells c B1 G1.r.n) 66)) from ⟨at_grown bb hg (by simp), at_grown gg hg (by simp)⟩)
  clear hHeld hg bb gg
  try simp only [jD, jE, jF]
  go_simp
  refine hK.out _ _ ?_ (fun hHeld => ?_)
  ·exact L19.out
  clear hK K
  try dsimp only at hHeld
  try simp only [jX, jD, jE, jF]
  refine jR [25] ?_
  refine jG rfl (fun K hK => ?_) AllReadyH.nil
  try simp only [jD, jE, jF]
  go_simp
  have hH2 := hHeld
  obtain ⟨bb, gg⟩ := hH2
  refine (CP.out _).mono ?_
  rintro e w1025 ⟨nb, rfl, hq, hg, hz⟩
  obtain ⟨cs, cs1, cs2⟩ := TG.out.gt.rep
  obtain ⟨ds, ds1, ds2⟩ := TG.out.gt.pst
  have CS2 := hid (cs2 i HI.out)
  have TB := hid TG.out
  have CG := hid (chg_grown hg [B1.rp, B1.ps])
  have QN := hid hq; have ZN := hid hz
  have R1 := hid cs1; have P1 := hid ds1
  have R2 := hid (at_grown cs1 hg (by simp)); have P2 := hid (at_grown ds1 hg (by simp))
  have LP := hid (show B1.rp < nb ∧ B1.ps < nb from ⟨Nat.lt_of_lt_of_le (at_lt cs1) hz, Nat.lt_of_lt_of_le (at_lt ds1) hz⟩)
  replace TG := hid (TG.out.grown hg)
  clear hq hz cs1 cs2 ds1 ds2
  have L25 := hid (show (w1025.heap[bm]? = some (msgObj m)) ∧ (w1025.heap[B.g]? = some (.cells (refCells c B1 G1.r.n) 66)) from ⟨at_grown bb hg (by simp), at_grown gg hg (by simp)⟩)
  clear hHeld hg bb gg
  go_wp2_with fail
  refine hK.out _ _ ?_ (fun hHeld => ?_)
  ·exact L25.out
  clear hK K
  try dsimp only at hHeld
  try simp only [jX, jD, jE, jF]
  refine jU 26 hHeld ?_
  try simp only [jX, jD, jE, jF]
  refine jR [27] ?_
  refine jG rfl (fun K hK => ?_) AllReadyH.nil
  have hH2 := hHeld
  obtain ⟨bb, gg⟩ := hH2
  have cg : (w1025).cell? ⟨B1.ps, i, none⟩ = some (.pointer (some ⟨B1.O i, 0, none⟩)) := (TG.out.gt.cells HI.out).2.1
  have fg : (w1025).frozen? ⟨B1.ps, i, none⟩ = false := (TG.out.gt.cells HI.out).2.2.2
  have hch : Chg [B1.ps] (w1025) ((w1025).setCell ⟨B1.ps, i, none⟩ (.pointer (some ⟨B1.A i, 0, none⟩))) := (chg_refl (w1025) [B1.ps]).set (.inl (by simp)) _
  have P3 := hid (at_set P2.out i (.pointer (some ⟨B1.A i, 0, none⟩)))
  have R3 := hid (hch.at R2.out (by simpa using TG.out.gt.rps))
  have CS3 := hid (show Chg [B1.rp, B1.ps] _ ((w1025).setCell ⟨B1.ps, i, none⟩ (.pointer (some ⟨B1.A i, 0, none⟩))) from CG.out.set (.inl (by simp)) _)
  have QN3 := hid (QN.out.chg hch (by have := LP.out.2; simp; omega) (by simp [ownL, Value.ownBlock]))
  have bb3 := hid (hch.at bb (fun e => TG.out.nb (List.mem_singleton.1 e ▸ TG.out.gt.mB _ (by simp [RBl.base]))))
  have gg3 := hid (hch.at gg (by simpa using obj_ne gg P2.out (by decide)))
  clear hch
  have hg := True.intro
  have L27 := hid (show (((w1025).setCell ⟨B1.ps, i, none⟩ (.pointer (some ⟨B1.A i, 0, none⟩))).heap[bm]? = some (msgObj m)) ∧ (((w1025).setCell ⟨B1.ps, i, none⟩ (.pointer (some ⟨B1.A i, 0, none⟩))).heap[B.g]? = some (.cells (refCells c B1 G1.r.n) 66)) from ⟨bb3.out, gg3.out⟩)
  clear hHeld hg bb gg
  try simp only [jD, jE, jF]
  go_simp
  refine hK.out _ _ ?_ (fun hHeld => ?_)
  ·exact L27.out
  clear hK K
  try dsimp only at hHeld
  try simp only [jX, jD, jE, jF]
  refine jU 28 hHeld ?_
  try simp only [jX, jD, jE, jF]
  refine jR [29] ?_
  refine jG rfl (fun K hK => ?_) AllReadyH.nil
  have hH2 := hHeld
  obtain ⟨bb, gg⟩ := hH2
  have cg : (((w1025).setCell ⟨B1.ps, i, none⟩ (.pointer (some ⟨B1.A i, 0, none⟩)))).cell? ⟨B1.rp, i, none⟩ = some (.pointer (some ⟨B1.A i, 0, none⟩)) := (at_cell R3.out i).trans CS2.out
  have fg : (((w1025).setCell ⟨B1.ps, i, none⟩ (.pointer (some ⟨B1.A i, 0, none⟩)))).frozen? ⟨B1.rp, i, none⟩ = false := at_free R3.out i
  have hch : Chg [B1.rp] (((w1025).setCell ⟨B1.ps, i, none⟩ (.pointer (some ⟨B1.A i, 0, none⟩)))) ((((w1025).setCell ⟨B1.ps, i, none⟩ (.pointer (some ⟨B1.A i, 0, none⟩)))).setCell ⟨B1.rp, i, none⟩ (.pointer (some ⟨nb, 0, none⟩))) := (chg_refl (((w1025).setCell ⟨B1.ps, i, none⟩ (.pointer (some ⟨B1.A i, 0, none⟩)))) [B1.rp]).set (.inl (by simp)) _
  have R4 := hid (at_set R3.out i (.pointer (some ⟨nb, 0, none⟩)))
  have P4 := hid (hch.at P3.out (by simpa using TG.out.gt.rps.symm))
  have CS4 := hid (show Chg [B1.rp, B1.ps] _ ((((w1025).setCell ⟨B1.ps, i, none⟩ (.pointer (some ⟨B1.A i, 0, none⟩)))).setCell ⟨B1.rp, i, none⟩ (.pointer (some ⟨nb, 0, none⟩))) from CS3.out.set (.inl (by simp)) _)
  have QN4 := hid (QN3.out.chg hch (by have := LP.out.1; simp; omega) (by simp [ownL, Value.ownBlock]))
  have bb4 := hid (hch.at bb (fun e => TG.out.nb (List.mem_singleton.1 e ▸ TG.out.gt.mB _ (by simp [RBl.base]))))
  have gg4 := hid (hch.at gg (by simpa using obj_ne gg R3.out (by decide)))
  have FT := hid (show GrAt ((((w1025).setCell ⟨B1.ps, i, none⟩ (.pointer (some ⟨B1.A i, 0, none⟩)))).setCell ⟨B1.rp, i, none⟩ (.pointer (some ⟨nb, 0, none⟩))) (nb :: F1) (B1.turn i nb) c (KN + 1) { G1 with now := fun k => if k = i then Rp.new G1.win else G1.now k, old := fun k => if k = i then G1.now i else G1.old k } from TB.out.gt.turned HI.out R1.out P1.out R4.out P4.out CS4.out QN4.out ZN.out)
  have FC := hid (show Chg F w ((((w1025).setCell ⟨B1.ps, i, none⟩ (.pointer (some ⟨B1.A i, 0, none⟩)))).setCell ⟨B1.rp, i, none⟩ (.pointer (some ⟨nb, 0, none⟩))) from Chg.trans TB.out.ch CS4.out (fun x hx => TB.out.nF _ (TB.out.gt.mB _ (by simp only [List.mem_cons, List.not_mem_nil, or_false] at hx; rcases hx with rfl | rfl <;> simp [RBl.base]))))
  have NB := hid (show bm ∉ nb :: F1 from fun e => by rcases List.mem_cons.1 e with h | h; have := at_lt TB.out.hm; have := ZN.out; omega; exact TB.out.nb h)
  have FN := hid (show ∀ x ∈ nb :: F1, x ∈ F ∨ w.heap.size ≤ x from fun x hx => by rcases List.mem_cons.1 hx with rfl | h; exact .inr (Nat.le_trans TB.out.ch.size ZN.out); exact TB.out.nF x h)
  clear hch
  have hg := True.intro
  have L29 := hid (show (((((w1025).setCell ⟨B1.ps, i, none⟩ (.pointer (some ⟨B1.A i, 0, none⟩)))).setCell ⟨B1.rp, i, none⟩ (.pointer (some ⟨nb, 0, none⟩))).heap[bm]? = some (msgObj m)) ∧ (((((w1025).setCell ⟨B1.ps, i, none⟩ (.pointer (some ⟨B1.A i, 0, none⟩)))).setCell ⟨B1.rp, i, none⟩ (.pointer (some ⟨nb, 0, none⟩))).heap[B.g]? = some (.cells (refCells c B1 G1.r.n) 66)) from ⟨bb4.out, gg4.out⟩)
  clear hHeld hg bb gg
  try simp only [jD, jE, jF]
  go_simp
  refine hK.out _ _ ?_ (fun hHeld => ?_)
  ·exact L29.out
  clear hK K
  try dsimp only at hHeld
  try simp only [jX, jD, jE, jF]
  refine wpAnyH_done (by kernel_rfl) ?_ _
  obtain ⟨bb, gg⟩ := hHeld
  refine exit_gen (fun wx => Kz w F (nb :: F1) (B1.turn i nb) c (KN + 1) { G1 with now := fun k => if k = i then Rp.new G1.win else G1.now k, old := fun k => if k = i then G1.now i else G1.old k } bm m wx) ⟨FT.out, bb, FC.out, NB.out, FN.out⟩ ?_
  clear bb gg FT FC FN TG TB R1 R2 R3 R4 P1 P2 P3 P4 CG CS2 CS3 CS4 QN QN3 QN4 bb3 gg3 bb4 gg4 LP ZN NB CP
  intro w7 h7
  have Q7 := hid h7; clear h7 Q6 KT
  have m1 : w7.drew.cell? ⟨bm, 1, none⟩ = some (.int .i64 (i : Int)) := (at_cell Q7.out.drew.hm 1).trans (by rw [← EI.out]; rfl)
  have m2 : w7.drew.cell? ⟨bm, 2, none⟩ = some (.int .i64 (G1.r.gen i + 1)) := (at_cell Q7.out.drew.hm 2).trans (by rw [← EG.out]; rfl)
  have t26 : w7.drew.cell? ⟨B.g, 26, none⟩ = some (.pointer (some ⟨B1.r, 0, none⟩)) := BG.out ▸ at_cell Q7.out.drew.gt.top 26
  go_upto_region 12 with fail
  refine wp_region_still_tail 9 (by kernel_rfl) (by kernel_rfl) ?_
  simp only [List.take_succ_cons, List.take_zero, List.drop_succ_cons, List.drop_zero]
  change wpStill _ _ w7.drew _ _ _
  repeat still_step
  refine wpStill_nil ?_
  change wpList _ _ _ _ _ w7.drew
  go_wp2_with fail
  refine (frot_ok i now _ (show RfAt w7.drew B1.r B1.gn B1.sn G1.r from Q7.out.drew.gt.ring) HI.out (by have := EG.out; have := GG1.out; omega) HN.out.1 HN.out.2).mono ?_
  rintro e w8 ⟨rfl, hR, hc⟩
  have FIN := hid (show GrAt w8 (nb :: F1) (B1.turn i nb) c (KN + 1) (G1.turn i m.gen now) from by rw [EG.out]; exact Q7.out.drew.gt.rung hR rfl hc)
  have FCH := hid (show Chg F w w8 from Chg.trans Q7.out.drew.ch hc (fun x hx => Q7.out.nF _ (Q7.out.gt.mB _ (by simp only [List.mem_cons, List.not_mem_nil, or_false] at hx; rcases hx with rfl | rfl <;> simp [RBl.base, RBl.turn]))))
  have FN := hid Q7.out.nF
  clear hR hc Q7 m1 m2 t26
  go_wp2_with fail
  go_ret
  exact ⟨rfl, nb :: F1, B1.turn i nb, FIN.out, BG.out, FCH.out, FN.out⟩
 ·try simp only [jD, jE, jF]
  go_simp
  have hH2 := hHeld
  obtain ⟨bb, gg⟩ := hH2
  refine (CP.out _).mono ?_
  rintro e w1025 ⟨nb, rfl, hq, hg, hz⟩
  obtain ⟨cs, cs1, cs2⟩ := TG.out.gt.rep
  obtain ⟨ds, ds1, ds2⟩ := TG.out.gt.pst
  have CS2 := hid (cs2 i HI.out)
  have TB := hid TG.out
  have CG := hid (chg_grown hg [B1.rp, B1.ps])
  have QN := hid hq; have ZN := hid hz
  have R1 := hid cs1; have P1 := hid ds1
  have R2 := hid (at_grown cs1 hg (by simp)); have P2 := hid (at_grown ds1 hg (by simp))
  have LP := hid (show B1.rp < nb ∧ B1.ps < nb from ⟨Nat.lt_of_lt_of_le (at_lt cs1) hz, Nat.lt_of_lt_of_le (at_lt ds1) hz⟩)
  replace TG := hid (TG.out.grown hg)
  clear hq hz cs1 cs2 ds1 ds2
  have L25 := hid (show (w1025.heap[bm]? = some (msgObj m)) ∧ (w1025.heap[B.g]? = some (.cells (refCells c B1 G1.r.n) 66)) from ⟨at_grown bb hg (by simp), at_grown gg hg (by simp)⟩)
  clear hHeld hg bb gg
  go_wp2_with fail
  refine hK.out _ _ ?_ (fun hHeld => ?_)
  ·exact L25.out
  clear hK K
  try dsimp only at hHeld
  try simp only [jX, jD, jE, jF]
  refine jR [19] ?_
  refine jG rfl (fun K hK => ?_) AllReadyH.nil
  have hH2 := hHeld
  obtain ⟨bb, gg⟩ := hH2
  have hg : (w1025).grownBy w1025 none := .refl _ _
  have cg : (w1025).cell? ⟨B1.rp, i, none⟩ = some (.pointer (some ⟨B1.A i, 0, none⟩)) := (TG.out.gt.cells HI.out).1
  have L19 := hid (show (w1025.heap[bm]? = some (msgObj m)) ∧ (w1025.heap[B.g]? = some (.cells (refCells c B1 G1.r.n) 66)) from ⟨at_grown bb hg (by simp), at_grown gg hg (by simp)⟩)
  clear hHeld hg bb gg
  try simp only [jD, jE, jF]
  go_simp
  refine hK.out _ _ ?_ (fun hHeld => ?_)
  ·exact L19.out
  clear hK K
  try dsimp only at hHeld
  try simp only [jX, jD, jE, jF]
  refine jU 26 hHeld ?_
  try simp only [jX, jD, jE, jF]
  refine jR [27] ?_
  refine jG rfl (fun K hK => ?_) AllReadyH.nil
  have hH2 := hHeld
  obtain ⟨bb, gg⟩ := hH2
  have cg : (w1025).cell? ⟨B1.ps, i, none⟩ = some (.pointer (some ⟨B1.O i, 0, none⟩)) := (TG.out.gt.cells HI.out).2.1
  have fg : (w1025).frozen? ⟨B1.ps, i, none⟩ = false := (TG.out.gt.cells HI.out).2.2.2
  have hch : Chg [B1.ps] (w1025) ((w1025).setCell ⟨B1.ps, i, none⟩ (.pointer (some ⟨B1.A i, 0, none⟩))) := (chg_refl (w1025) [B1.ps]).set (.inl (by simp)) _
  have P3 := hid (at_set P2.out i (.pointer (some ⟨B1.A i, 0, none⟩)))
  have R3 := hid (hch.at R2.out (by simpa using TG.out.gt.rps))
  have CS3 := hid (show Chg [B1.rp, B1.ps] _ ((w1025).setCell ⟨B1.ps, i, none⟩ (.pointer (some ⟨B1.A i, 0, none⟩))) from CG.out.set (.inl (by simp)) _)
  have QN3 := hid (QN.out.chg hch (by have := LP.out.2; simp; omega) (by simp [ownL, Value.ownBlock]))
  have bb3 := hid (hch.at bb (fun e => TG.out.nb (List.mem_singleton.1 e ▸ TG.out.gt.mB _ (by simp [RBl.base]))))
  have gg3 := hid (hch.at gg (by simpa using obj_ne gg P2.out (by decide)))
  clear hch
  have hg := True.intro
  have L27 := hid (show (((w1025).setCell ⟨B1.ps, i, none⟩ (.pointer (some ⟨B1.A i, 0, none⟩))).heap[bm]? = some (msgObj m)) ∧ (((w1025).setCell ⟨B1.ps, i, none⟩ (.pointer (some ⟨B1.A i, 0, none⟩))).heap[B.g]? = some (.cells (refCells c B1 G1.r.n) 66)) from ⟨bb3.out, gg3.out⟩)
  clear hHeld hg bb gg
  try simp only [jD, jE, jF]
  go_simp
  refine hK.out _ _ ?_ (fun hHeld => ?_)
  ·exact L27.out
  clear hK K
  try dsimp only at hHeld
  try simp only [jX, jD, jE, jF]
  refine jU 28 hHeld ?_
  try simp only [jX, jD, jE, jF]
  refine jR [29] ?_
  refine jG rfl (fun K hK => ?_) AllReadyH.nil
  have hH2 := hHeld
  obtain ⟨bb, gg⟩ := hH2
  have cg : (((w1025).setCell ⟨B1.ps, i, none⟩ (.pointer (some ⟨B1.A i, 0, none⟩)))).cell? ⟨B1.rp, i, none⟩ = some (.pointer (some ⟨B1.A i, 0, none⟩)) := (at_cell R3.out i).trans CS2.out
  have fg : (((w1025).setCell ⟨B1.ps, i, none⟩ (.pointer (some ⟨B1.A i, 0, none⟩)))).frozen? ⟨B1.rp, i, none⟩ = false := at_free R3.out i
  have hch : Chg [B1.rp] (((w1025).setCell ⟨B1.ps, i, none⟩ (.pointer (some ⟨B1.A i, 0, none⟩)))) ((((w1025).setCell ⟨B1.ps, i, none⟩ (.pointer (some ⟨B1.A i, 0, none⟩)))).setCell ⟨B1.rp, i, none⟩ (.pointer (some ⟨nb, 0, none⟩))) := (chg_refl (((w1025).setCell ⟨B1.ps, i, none⟩ (.pointer (some ⟨B1.A i, 0, none⟩)))) [B1.rp]).set (.inl (by simp)) _
  have R4 := hid (at_set R3.out i (.pointer (some ⟨nb, 0, none⟩)))
  have P4 := hid (hch.at P3.out (by simpa using TG.out.gt.rps.symm))
  have CS4 := hid (show Chg [B1.rp, B1.ps] _ ((((w1025).setCell ⟨B1.ps, i, none⟩ (.pointer (some ⟨B1.A i, 0, none⟩)))).setCell ⟨B1.rp, i, none⟩ (.pointer (some ⟨nb, 0, none⟩))) from CS3.out.set (.inl (by simp)) _)
  have QN4 := hid (QN3.out.chg hch (by have := LP.out.1; simp; omega) (by simp [ownL, Value.ownBlock]))
  have bb4 := hid (hch.at bb (fun e => TG.out.nb (List.mem_singleton.1 e ▸ TG.out.gt.mB _ (by simp [RBl.base]))))
  have gg4 := hid (hch.at gg (by simpa using obj_ne gg R3.out (by decide)))
  have FT := hid (show GrAt ((((w1025).setCell ⟨B1.ps, i, none⟩ (.pointer (some ⟨B1.A i, 0, none⟩)))).setCell ⟨B1.rp, i, none⟩ (.pointer (some ⟨nb, 0, none⟩))) (nb :: F1) (B1.turn i nb) c (KN + 1) { G1 with now := fun k => if k = i then Rp.new G1.win else G1.now k, old := fun k => if k = i then G1.now i else G1.old k } from TB.out.gt.turned HI.out R1.out P1.out R4.out P4.out CS4.out QN4.out ZN.out)
  have FC := hid (show Chg F w ((((w1025).setCell ⟨B1.ps, i, none⟩ (.pointer (some ⟨B1.A i, 0, none⟩)))).setCell ⟨B1.rp, i, none⟩ (.pointer (some ⟨nb, 0, none⟩))) from Chg.trans TB.out.ch CS4.out (fun x hx => TB.out.nF _ (TB.out.gt.mB _ (by simp only [List.mem_cons, List.not_mem_nil, or_false] at hx; rcases hx with rfl | rfl <;> simp [RBl.base]))))
  have NB := hid (show bm ∉ nb :: F1 from fun e => by rcases List.mem_cons.1 e with h | h; have := at_lt TB.out.hm; have := ZN.out; omega; exact TB.out.nb h)
  have FN := hid (show ∀ x ∈ nb :: F1, x ∈ F ∨ w.heap.size ≤ x from fun x hx => by rcases List.mem_cons.1 hx with rfl | h; exact .inr (Nat.le_trans TB.out.ch.size ZN.out); exact TB.out.nF x h)
  clear hch
  have hg := True.intro
  have L29 := hid (show (((((w1025).setCell ⟨B1.ps, i, none⟩ (.pointer (some ⟨B1.A i, 0, none⟩)))).setCell ⟨B1.rp, i, none⟩ (.pointer (some ⟨nb, 0, none⟩))).heap[bm]? = some (msgObj m)) ∧ (((((w1025).setCell ⟨B1.ps, i, none⟩ (.pointer (some ⟨B1.A i, 0, none⟩)))).setCell ⟨B1.rp, i, none⟩ (.pointer (some ⟨nb, 0, none⟩))).heap[B.g]? = some (.cells (refCells c B1 G1.r.n) 66)) from ⟨bb4.out, gg4.out⟩)
  clear hHeld hg bb gg
  try simp only [jD, jE, jF]
  go_simp
  refine hK.out _ _ ?_ (fun hHeld => ?_)
  ·exact L29.out
  clear hK K
  try dsimp only at hHeld
  try simp only [jX, jD, jE, jF]
  refine wpAnyH_done (by kernel_rfl) ?_ _
  obtain ⟨bb, gg⟩ := hHeld
  refine exit_gen (fun wx => Kz w F (nb :: F1) (B1.turn i nb) c (KN + 1) { G1 with now := fun k => if k = i then Rp.new G1.win else G1.now k, old := fun k => if k = i then G1.now i else G1.old k } bm m wx) ⟨FT.out, bb, FC.out, NB.out, FN.out⟩ ?_
  clear bb gg FT FC FN TG TB R1 R2 R3 R4 P1 P2 P3 P4 CG CS2 CS3 CS4 QN QN3 QN4 bb3 gg3 bb4 gg4 LP ZN NB CP
  intro w7 h7
  have Q7 := hid h7; clear h7 Q6 KT
  have m1 : w7.drew.cell? ⟨bm, 1, none⟩ = some (.int .i64 (i : Int)) := (at_cell Q7.out.drew.hm 1).trans (by rw [← EI.out]; rfl)
  have m2 : w7.drew.cell? ⟨bm, 2, none⟩ = some (.int .i64 (G1.r.gen i + 1)) := (at_cell Q7.out.drew.hm 2).trans (by rw [← EG.out]; rfl)
  have t26 : w7.drew.cell? ⟨B.g, 26, none⟩ = some (.pointer (some ⟨B1.r, 0, none⟩)) := BG.out ▸ at_cell Q7.out.drew.gt.top 26
  go_upto_region 12 with fail
  refine wp_region_still_tail 9 (by kernel_rfl) (by kernel_rfl) ?_
  simp only [List.take_succ_cons, List.take_zero, List.drop_succ_cons, List.drop_zero]
  change wpStill _ _ w7.drew _ _ _
  repeat still_step
  refine wpStill_nil ?_
  change wpList _ _ _ _ _ w7.drew
  go_wp2_with fail
  refine (frot_ok i now _ (show RfAt w7.drew B1.r B1.gn B1.sn G1.r from Q7.out.drew.gt.ring) HI.out (by have := EG.out; have := GG1.out; omega) HN.out.1 HN.out.2).mono ?_
  rintro e w8 ⟨rfl, hR, hc⟩
  have FIN := hid (show GrAt w8 (nb :: F1) (B1.turn i nb) c (KN + 1) (G1.turn i m.gen now) from by rw [EG.out]; exact Q7.out.drew.gt.rung hR rfl hc)
  have FCH := hid (show Chg F w w8 from Chg.trans Q7.out.drew.ch hc (fun x hx => Q7.out.nF _ (Q7.out.gt.mB _ (by simp only [List.mem_cons, List.not_mem_nil, or_false] at hx; rcases hx with rfl | rfl <;> simp [RBl.base, RBl.turn]))))
  have FN := hid Q7.out.nF
  clear hR hc Q7 m1 m2 t26
  go_wp2_with fail
  go_ret
  exact ⟨rfl, nb :: F1, B1.turn i nb, FIN.out, BG.out, FCH.out, FN.out⟩
end Go.Proofs.YtgpdcapnnejdeaaGreat
