/-
  Contract: what the document's check tells, a walk for each answer, out of the contracts of what it calls; nobody is out. The condition: its gate lies there, the epoch now is one.
-/
import Derived.Test.YtgpdcapnnejdeaaGreatJ0
import Derived.Test.YtgpdcapnnejdeaaGreatY23
import Derived.Test.YtgpdcapnnejdeaaGreatY9
import Derived.Test.YtgpdcapnnejdeaaGreatY6
import Derived.Test.YtgpdcapnnejdeaaGreatNVc
set_option linter.unusedSimpArgs false
set_option linter.unusedVariables false
namespace Go.Proofs.YtgpdcapnnejdeaaGreat
set_option maxRecDepth 100000
open Go.RowKit

set_option maxHeartbeats 6400000 in
theorem rcheck_bytes {F : List Nat} {B : RBl} {c : Conf} {KN : Nat} {G : Gt} (s : ByteArray) (xs : ByteArray) (m : Mg) (ta tb : BitVec 64) (now : Int) (w : World) (k0 : GrAt w F B c KN G) (n0 : 0 ≤ now) (n1 : now ≤ 1099511627776) (CS : ∀ u, Calls Tryz.prog 59 #[.string s] u fun e w' => e = .returned (.tuple #[mg m, .string xs, pair ta tb, .int .i64 2]) ∧ u.grownBy w' none) :
  Calls Tryz.prog 19 #[.pointer (some ⟨B.g, 0, none⟩), .string s, .int .i64 now, .slice none 0 0] w fun e w' => e = .returned (.tuple #[mg zeroM, .int .i64 2]) ∧ w.grownBy w' none := by
 replace CS := hid CS
 have K0 := hid ((kr_start k0).alloc (msgObj zeroM))
 have cn := k0.cn; have cm := k0.cm; have cf := k0.cf; have ok := k0.ok
 have f2 := ok.f2; have f1 := ok.f1; clear ok
 have lb := Nat.le_refl w.heap.size
 have CG := hid (fun u (k : GrAt u F B c KN G) => k.tops)
 clear k0
 clear cn cm cf f1 f2
 go_enter Tryz.func19, Tryz.ntmps19
 go_upto_region 1 with fail
 refine wp_gen (fun wx => Kr w F B c KN G [(w.heap.size, msgObj zeroM)] [] wx) K0.out ?_
 clear K0
 generalize hr8 : w.heap.size = r8 at lb ⊢
 have LB := hid (show w.heap.size ≤ r8 from Nat.le_of_eq hr8)
 clear lb
 intro w0 h0
 have K0 := hid h0; clear h0
 go_wp2_with fail
 refine (CS.out _).mono ?_
 rintro e w1 ⟨rfl, hg⟩
 have hlt := hid (Nat.lt_of_lt_of_le (at_lt K0.out.kp.b0) hg.size)
 have k1 := ((K0.out.grown hg).alloc (msgObj m)).alloc (tagObj ta tb)
 rw [size_alloc] at k1
 have K1 := hid k1; clear k1 hg K0 CS
 go_upto_region 2 with fail
 refine wp_gen (fun wx => Kr w F B c KN G [(w1.heap.size + 1, tagObj ta tb), (w1.heap.size, msgObj m), (r8, msgObj zeroM)] [] wx) K1.out ?_
 clear K1
 have N1 : Hid (r8 ≠ w1.heap.size ∧ r8 ≠ w1.heap.size + 1) := hid ⟨by have := hlt.out; omega, by have := hlt.out; omega⟩
 clear hlt
 generalize w1.heap.size + 1 = tb1 at N1 ⊢
 generalize w1.heap.size = mb at N1 ⊢
 intro w2 h2
 have K2 := hid h2; clear h2
 have R8 := hid K2.out.kp.b2; have M8 := hid K2.out.kp.b1; have G8 := hid K2.out.kp.g; clear K2
 go_wp2_with (first | refine wpList_store_row (cs := zeroM.cells) R8.out (by kernel_rfl) (by kernel_rfl) (by kernel_rfl) rfl rfl rfl rfl rfl ?_ | refine wpList_buildTo (ty := 39) (cs := zeroM.cells) rfl rfl rfl (by kernel_rfl) ?_)
 have hst := at_setRow (cs := zeroM.cells) R8.out
 have hgs := gb_setRow (cs := zeroM.cells) G8.out LB.out
 generalize w2.setRow r8 zeroM.cells = wx at hst hgs ⊢
 obtain ⟨d0, d1, d2, d3, d4, d5, d6⟩ := msg_cells hst
 exact bodyPost_ret (v := .tuple #[mg zeroM, .int .i64 2]) (by simp [results, Tryz.results19, go_sem, d0, d1, d2, d3, d4, d5, d6]; try rfl) rfl ⟨rfl, hgs⟩
set_option maxHeartbeats 6400000 in
theorem rcheck_who {F : List Nat} {B : RBl} {c : Conf} {KN : Nat} {G : Gt} (s : ByteArray) (xs : ByteArray) (m : Mg) (ta tb : BitVec 64) (now : Int) (w : World) (k0 : GrAt w F B c KN G) (n0 : 0 ≤ now) (n1 : now ≤ 1099511627776) (CS : ∀ u, Calls Tryz.prog 59 #[.string s] u fun e w' => e = .returned (.tuple #[mg m, .string xs, pair ta tb, .int .i64 0]) ∧ u.grownBy w' none) (hw : (G.r.n : Int) ≤ m.who) (hw0 : 0 ≤ m.who) :
  Calls Tryz.prog 19 #[.pointer (some ⟨B.g, 0, none⟩), .string s, .int .i64 now, .slice none 0 0] w fun e w' => e = .returned (.tuple #[mg zeroM, .int .i64 3]) ∧ w.grownBy w' none := by
 replace CS := hid CS
 have K0 := hid ((kr_start k0).alloc (msgObj zeroM))
 have cn := k0.cn; have cm := k0.cm; have cf := k0.cf; have ok := k0.ok
 have f2 := ok.f2; have f1 := ok.f1; clear ok
 have lb := Nat.le_refl w.heap.size
 have CG := hid (fun u (k : GrAt u F B c KN G) => k.tops)
 clear k0
 have dw : decide (c.n ≤ m.who) = true := by rw [cn]; simp; omega
 have dz : decide (m.who < 0) = false := by simp; omega
 clear hw
 clear cn cm cf f1 f2
 go_enter Tryz.func19, Tryz.ntmps19
 go_upto_region 1 with fail
 refine wp_gen (fun wx => Kr w F B c KN G [(w.heap.size, msgObj zeroM)] [] wx) K0.out ?_
 clear K0
 generalize hr8 : w.heap.size = r8 at lb ⊢
 have LB := hid (show w.heap.size ≤ r8 from Nat.le_of_eq hr8)
 clear lb
 intro w0 h0
 have K0 := hid h0; clear h0
 go_wp2_with fail
 refine (CS.out _).mono ?_
 rintro e w1 ⟨rfl, hg⟩
 have hlt := hid (Nat.lt_of_lt_of_le (at_lt K0.out.kp.b0) hg.size)
 have k1 := ((K0.out.grown hg).alloc (msgObj m)).alloc (tagObj ta tb)
 rw [size_alloc] at k1
 have K1 := hid k1; clear k1 hg K0 CS
 go_upto_region 2 with fail
 refine wp_gen (fun wx => Kr w F B c KN G [(w1.heap.size + 1, tagObj ta tb), (w1.heap.size, msgObj m), (r8, msgObj zeroM)] [] wx) K1.out ?_
 clear K1
 have N1 : Hid (r8 ≠ w1.heap.size ∧ r8 ≠ w1.heap.size + 1) := hid ⟨by have := hlt.out; omega, by have := hlt.out; omega⟩
 clear hlt
 generalize w1.heap.size + 1 = tb1 at N1 ⊢
 generalize w1.heap.size = mb at N1 ⊢
 intro w2 h2
 have K2 := hid h2; clear h2
 obtain ⟨d0, d1, d2, d3, d4, d5, d6⟩ := msg_cells K2.out.kp.b1
 obtain ⟨t0, t2, t4, t6, t26, t27, t28⟩ := CG.out _ K2.out.gt
 go_upto_region 4 with fail
 go_quiet (fail)
 clear d0 d1 d2 d3 d4 d5 d6 t0 t2 t4 t6 t26 t27 t28
 refine exit_gen (fun wx => Kr w F B c KN G [(tb1, tagObj ta tb), (mb, msgObj m), (r8, msgObj zeroM)] [] wx) (K2.out.grown (gb_drewQ w2 _)) ?_
 clear K2
 intro y3 h3
 have K3 := hid h3; clear h3
 have R8 := hid K3.out.kp.b2; have M8 := hid K3.out.kp.b1; have G8 := hid K3.out.kp.g; clear K3
 go_wp2_with (first | refine wpList_store_row (cs := zeroM.cells) R8.out (by kernel_rfl) (by kernel_rfl) (by kernel_rfl) rfl rfl rfl rfl rfl ?_ | refine wpList_buildTo (ty := 39) (cs := zeroM.cells) rfl rfl rfl (by kernel_rfl) ?_)
 have hst := at_setRow (cs := zeroM.cells) R8.out
 have hgs := gb_setRow (cs := zeroM.cells) G8.out LB.out
 generalize y3.setRow r8 zeroM.cells = wx at hst hgs ⊢
 obtain ⟨d0, d1, d2, d3, d4, d5, d6⟩ := msg_cells hst
 exact bodyPost_ret (v := .tuple #[mg zeroM, .int .i64 3]) (by simp [results, Tryz.results19, go_sem, d0, d1, d2, d3, d4, d5, d6]; try rfl) rfl ⟨rfl, hgs⟩
set_option maxHeartbeats 6400000 in
theorem rcheck_gen {F : List Nat} {B : RBl} {c : Conf} {KN : Nat} {G : Gt} (s : ByteArray) (xs : ByteArray) (m : Mg) (ta tb : BitVec 64) (now : Int) (w : World) (k0 : GrAt w F B c KN G) (n0 : 0 ≤ now) (n1 : now ≤ 1099511627776) (CS : ∀ u, Calls Tryz.prog 59 #[.string s] u fun e w' => e = .returned (.tuple #[mg m, .string xs, pair ta tb, .int .i64 0]) ∧ u.grownBy w' none) (hw : m.who < (G.r.n : Int)) (hw0 : 0 ≤ m.who) (CK : ∀ u, GrAt u F B c KN G → Calls Tryz.prog 60 #[.pointer (some ⟨B.g, 0, none⟩), mg m, .int .i64 now] u fun e w' => e = .returned (.tuple #[pair 0 0, .pointer none, .int .i64 4]) ∧ u.grownBy w' none) :
  Calls Tryz.prog 19 #[.pointer (some ⟨B.g, 0, none⟩), .string s, .int .i64 now, .slice none 0 0] w fun e w' => e = .returned (.tuple #[mg zeroM, .int .i64 4]) ∧ w.grownBy w' none := by
 replace CS := hid CS
 replace CK := hid CK
 have K0 := hid ((kr_start k0).alloc (msgObj zeroM))
 have cn := k0.cn; have cm := k0.cm; have cf := k0.cf; have ok := k0.ok
 have f2 := ok.f2; have f1 := ok.f1; clear ok
 have lb := Nat.le_refl w.heap.size
 have CG := hid (fun u (k : GrAt u F B c KN G) => k.tops)
 clear k0
 have dw : decide (c.n ≤ m.who) = false := by rw [cn]; simp; omega
 have dz : decide (m.who < 0) = false := by simp; omega
 clear hw
 clear cn cm cf f1 f2
 go_enter Tryz.func19, Tryz.ntmps19
 go_upto_region 1 with fail
 refine wp_gen (fun wx => Kr w F B c KN G [(w.heap.size, msgObj zeroM)] [] wx) K0.out ?_
 clear K0
 generalize hr8 : w.heap.size = r8 at lb ⊢
 have LB := hid (show w.heap.size ≤ r8 from Nat.le_of_eq hr8)
 clear lb
 intro w0 h0
 have K0 := hid h0; clear h0
 go_wp2_with fail
 refine (CS.out _).mono ?_
 rintro e w1 ⟨rfl, hg⟩
 have hlt := hid (Nat.lt_of_lt_of_le (at_lt K0.out.kp.b0) hg.size)
 have k1 := ((K0.out.grown hg).alloc (msgObj m)).alloc (tagObj ta tb)
 rw [size_alloc] at k1
 have K1 := hid k1; clear k1 hg K0 CS
 go_upto_region 2 with fail
 refine wp_gen (fun wx => Kr w F B c KN G [(w1.heap.size + 1, tagObj ta tb), (w1.heap.size, msgObj m), (r8, msgObj zeroM)] [] wx) K1.out ?_
 clear K1
 have N1 : Hid (r8 ≠ w1.heap.size ∧ r8 ≠ w1.heap.size + 1) := hid ⟨by have := hlt.out; omega, by have := hlt.out; omega⟩
 clear hlt
 generalize w1.heap.size + 1 = tb1 at N1 ⊢
 generalize w1.heap.size = mb at N1 ⊢
 intro w2 h2
 have K2 := hid h2; clear h2
 obtain ⟨d0, d1, d2, d3, d4, d5, d6⟩ := msg_cells K2.out.kp.b1
 obtain ⟨t0, t2, t4, t6, t26, t27, t28⟩ := CG.out _ K2.out.gt
 go_upto_region 4 with fail
 go_quiet (fail)
 clear d0 d1 d2 d3 d4 d5 d6 t0 t2 t4 t6 t26 t27 t28
 refine exit_gen (fun wx => Kr w F B c KN G [(tb1, tagObj ta tb), (mb, msgObj m), (r8, msgObj zeroM)] [] wx) (K2.out.grown (gb_drewQ w2 _)) ?_
 clear K2
 intro y3 h3
 have K3 := hid h3; clear h3
 have M3 := hid K3.out.kp.b1
 go_wp2_with (refine wpList_row M3.out Tryz.underlying39 rfl (by kernel_rfl) rfl rfl rfl rfl ?_)
 clear M3
 refine (CK.out _ K3.out.gt).mono ?_
 rintro e w4 ⟨rfl, hg⟩
 have K4 := hid ((K3.out.grown hg).alloc (keyObj 0#64 0#64)); clear hg K3 CK
 go_upto_region 7 with fail
 refine wp_gen (fun wx => Kr w F B c KN G ((w4.heap.size, keyObj 0#64 0#64) :: [(tb1, tagObj ta tb), (mb, msgObj m), (r8, msgObj zeroM)]) [] wx) K4.out ?_
 clear K4
 generalize w4.heap.size = kb2
 intro w5 h5
 have K5 := hid h5; clear h5
 have R8 := hid K5.out.kp.b3; have M8 := hid K5.out.kp.b2; have G8 := hid K5.out.kp.g; clear K5
 go_wp2_with (first | refine wpList_store_row (cs := zeroM.cells) R8.out (by kernel_rfl) (by kernel_rfl) (by kernel_rfl) rfl rfl rfl rfl rfl ?_ | refine wpList_buildTo (ty := 39) (cs := zeroM.cells) rfl rfl rfl (by kernel_rfl) ?_)
 have hst := at_setRow (cs := zeroM.cells) R8.out
 have hgs := gb_setRow (cs := zeroM.cells) G8.out LB.out
 generalize w5.setRow r8 zeroM.cells = wx at hst hgs ⊢
 obtain ⟨d0, d1, d2, d3, d4, d5, d6⟩ := msg_cells hst
 exact bodyPost_ret (v := .tuple #[mg zeroM, .int .i64 4]) (by simp [results, Tryz.results19, go_sem, d0, d1, d2, d3, d4, d5, d6]; try rfl) rfl ⟨rfl, hgs⟩
set_option maxHeartbeats 6400000 in
theorem rcheck_auth {F : List Nat} {B : RBl} {c : Conf} {KN : Nat} {G : Gt} (s : ByteArray) (xs : ByteArray) (m : Mg) (ta tb : BitVec 64) (now : Int) (w : World) (k0 : GrAt w F B c KN G) (n0 : 0 ≤ now) (n1 : now ≤ 1099511627776) (CS : ∀ u, Calls Tryz.prog 59 #[.string s] u fun e w' => e = .returned (.tuple #[mg m, .string xs, pair ta tb, .int .i64 0]) ∧ u.grownBy w' none) (hw : m.who < (G.r.n : Int)) (hw0 : 0 ≤ m.who) (ka kb : BitVec 64) (rp : Nat) (CK : ∀ u, GrAt u F B c KN G → Calls Tryz.prog 60 #[.pointer (some ⟨B.g, 0, none⟩), mg m, .int .i64 now] u fun e w' => e = .returned (.tuple #[pair ka kb, .pointer (some ⟨rp, 0, none⟩), .int .i64 0]) ∧ u.grownBy w' none) (sa sb : BitVec 64) (CT : ∀ u, Calls Tryz.prog 50 #[pair ka kb, .string xs] u fun e w' => e = .returned (pair sa sb) ∧ u.grownBy w' none) (he : (sa == ta && sb == tb) = false) :
  Calls Tryz.prog 19 #[.pointer (some ⟨B.g, 0, none⟩), .string s, .int .i64 now, .slice none 0 0] w fun e w' => e = .returned (.tuple #[mg zeroM, .int .i64 5]) ∧ w.grownBy w' none := by
 replace CS := hid CS
 replace CK := hid CK
 replace CT := hid CT
 have K0 := hid ((kr_start k0).alloc (msgObj zeroM))
 have cn := k0.cn; have cm := k0.cm; have cf := k0.cf; have ok := k0.ok
 have f2 := ok.f2; have f1 := ok.f1; clear ok
 have lb := Nat.le_refl w.heap.size
 have CG := hid (fun u (k : GrAt u F B c KN G) => k.tops)
 clear k0
 have dw : decide (c.n ≤ m.who) = false := by rw [cn]; simp; omega
 have dz : decide (m.who < 0) = false := by simp; omega
 clear hw
 clear cn cm cf f1 f2
 go_enter Tryz.func19, Tryz.ntmps19
 go_upto_region 1 with fail
 refine wp_gen (fun wx => Kr w F B c KN G [(w.heap.size, msgObj zeroM)] [] wx) K0.out ?_
 clear K0
 generalize hr8 : w.heap.size = r8 at lb ⊢
 have LB := hid (show w.heap.size ≤ r8 from Nat.le_of_eq hr8)
 clear lb
 intro w0 h0
 have K0 := hid h0; clear h0
 go_wp2_with fail
 refine (CS.out _).mono ?_
 rintro e w1 ⟨rfl, hg⟩
 have hlt := hid (Nat.lt_of_lt_of_le (at_lt K0.out.kp.b0) hg.size)
 have k1 := ((K0.out.grown hg).alloc (msgObj m)).alloc (tagObj ta tb)
 rw [size_alloc] at k1
 have K1 := hid k1; clear k1 hg K0 CS
 go_upto_region 2 with fail
 refine wp_gen (fun wx => Kr w F B c KN G [(w1.heap.size + 1, tagObj ta tb), (w1.heap.size, msgObj m), (r8, msgObj zeroM)] [] wx) K1.out ?_
 clear K1
 have N1 : Hid (r8 ≠ w1.heap.size ∧ r8 ≠ w1.heap.size + 1) := hid ⟨by have := hlt.out; omega, by have := hlt.out; omega⟩
 clear hlt
 generalize w1.heap.size + 1 = tb1 at N1 ⊢
 generalize w1.heap.size = mb at N1 ⊢
 intro w2 h2
 have K2 := hid h2; clear h2
 obtain ⟨d0, d1, d2, d3, d4, d5, d6⟩ := msg_cells K2.out.kp.b1
 obtain ⟨t0, t2, t4, t6, t26, t27, t28⟩ := CG.out _ K2.out.gt
 go_upto_region 4 with fail
 go_quiet (fail)
 clear d0 d1 d2 d3 d4 d5 d6 t0 t2 t4 t6 t26 t27 t28
 refine exit_gen (fun wx => Kr w F B c KN G [(tb1, tagObj ta tb), (mb, msgObj m), (r8, msgObj zeroM)] [] wx) (K2.out.grown (gb_drewQ w2 _)) ?_
 clear K2
 intro y3 h3
 have K3 := hid h3; clear h3
 have M3 := hid K3.out.kp.b1
 go_wp2_with (refine wpList_row M3.out Tryz.underlying39 rfl (by kernel_rfl) rfl rfl rfl rfl ?_)
 clear M3
 refine (CK.out _ K3.out.gt).mono ?_
 rintro e w4 ⟨rfl, hg⟩
 have K4 := hid ((K3.out.grown hg).alloc (keyObj ka kb)); clear hg K3 CK
 go_upto_region 7 with fail
 refine wp_gen (fun wx => Kr w F B c KN G ((w4.heap.size, keyObj ka kb) :: [(tb1, tagObj ta tb), (mb, msgObj m), (r8, msgObj zeroM)]) [] wx) K4.out ?_
 clear K4
 generalize w4.heap.size = kb2
 intro w5 h5
 have K5 := hid h5; clear h5
 have he' : ∀ u, (Op.equalIn 10000 83 (.agg #[.int .u64 (q sa), .int .u64 (q sb)]) (.agg #[.int .u64 (q ta), .int .u64 (q tb)])).run Tryz.prog u = .ok false u := fun u => by rw [tag_equal, he]
 clear he
 go_wp2_with fail
 refine wp_region_held_drew (S := (fun w' => (Kr w F B c KN G [(kb2, keyObj ka kb), (tb1, tagObj ta tb), (mb, msgObj m), (r8, msgObj zeroM)] [] w'))) (by kernel_rfl) K5.out.drew (fun hHeld => ?_)
 try dsimp only at hHeld
 refine' jT 0 rfl (by rfl) ?_ hHeld ?_
 rotate_left
 ·(intro w hSw; (try dsimp only at hSw); (try simp only [jD, jE, jF]); refine exec_row (x := .tmp 14) hSw.kp.b0 Tryz.underlying49 rfl (by kernel_rfl) ?_ ?_ <;> rfl)
 try simp only [jX, jD, jE, jF]
 refine jU 1 hHeld ?_
 try simp only [jX, jD, jE, jF]
 refine' jT 3 rfl (by rfl) ?_ hHeld ?_
 rotate_left
 ·(intro w hSw; (try dsimp only at hSw); (try simp only [jD, jE, jF]); refine exec_row (x := .tmp 12) hSw.kp.b1 Tryz.underlying83 rfl (by kernel_rfl) ?_ ?_ <;> rfl)
 try simp only [jX, jD, jE, jF]
 refine jR [2] ?_
 refine jG rfl (fun K hK => ?_) AllReadyH.nil
 try simp only [jD, jE, jF]
 go_simp
 have hH2 := hHeld
 have kk := hH2
 refine (CT.out _).mono ?_
 rintro e w1002 ⟨rfl, hg⟩
 have L2 := hid (show (Kr w F B c KN G [(kb2, keyObj ka kb), (tb1, tagObj ta tb), (mb, msgObj m), (r8, msgObj zeroM)] [] w1002) from kk.grown hg)
 clear hHeld hg kk
 go_wp2_with fail
 refine hK.out _ _ ?_ (fun hHeld => ?_)
 ·exact L2.out
 clear hK K
 try dsimp only at hHeld
 try simp only [jX, jD, jE, jF]
 refine jU 4 hHeld ?_
 try simp only [jX, jD, jE, jF]
 refine jU 5 hHeld ?_
 try simp only [jX, jD, jE, jF]
 refine wpAnyH_done (by kernel_rfl) ?_ _
 have kk := hHeld
 refine exit_gen (fun wx => Kr w F B c KN G [(kb2, keyObj ka kb), (tb1, tagObj ta tb), (mb, msgObj m), (r8, msgObj zeroM)] [] wx) kk ?_
 clear kk
 intro w6 h6
 have K6 := hid h6; clear h6 CT
 clear he'
 have R8 := hid K6.out.kp.b3; have M8 := hid K6.out.kp.b2; have G8 := hid K6.out.kp.g; clear K6
 go_wp2_with (first | refine wpList_store_row (cs := zeroM.cells) R8.out (by kernel_rfl) (by kernel_rfl) (by kernel_rfl) rfl rfl rfl rfl rfl ?_ | refine wpList_buildTo (ty := 39) (cs := zeroM.cells) rfl rfl rfl (by kernel_rfl) ?_)
 have hst := at_setRow (cs := zeroM.cells) R8.out
 have hgs := gb_setRow (cs := zeroM.cells) G8.out LB.out
 generalize w6.setRow r8 zeroM.cells = wx at hst hgs ⊢
 obtain ⟨d0, d1, d2, d3, d4, d5, d6⟩ := msg_cells hst
 exact bodyPost_ret (v := .tuple #[mg zeroM, .int .i64 5]) (by simp [results, Tryz.results19, go_sem, d0, d1, d2, d3, d4, d5, d6]; try rfl) rfl ⟨rfl, hgs⟩
set_option maxHeartbeats 6400000 in
theorem rcheck_replay {F : List Nat} {B : RBl} {c : Conf} {KN : Nat} {G : Gt} (s : ByteArray) (xs : ByteArray) (m : Mg) (ta tb : BitVec 64) (now : Int) (w : World) (k0 : GrAt w F B c KN G) (n0 : 0 ≤ now) (n1 : now ≤ 1099511627776) (CS : ∀ u, Calls Tryz.prog 59 #[.string s] u fun e w' => e = .returned (.tuple #[mg m, .string xs, pair ta tb, .int .i64 0]) ∧ u.grownBy w' none) (hw : m.who < (G.r.n : Int)) (hw0 : 0 ≤ m.who) (ka kb : BitVec 64) (rp : Nat) (CK : ∀ u, GrAt u F B c KN G → Calls Tryz.prog 60 #[.pointer (some ⟨B.g, 0, none⟩), mg m, .int .i64 now] u fun e w' => e = .returned (.tuple #[pair ka kb, .pointer (some ⟨rp, 0, none⟩), .int .i64 0]) ∧ u.grownBy w' none) (sa sb : BitVec 64) (CT : ∀ u, Calls Tryz.prog 50 #[pair ka kb, .string xs] u fun e w' => e = .returned (pair sa sb) ∧ u.grownBy w' none) (he : (sa == ta && sb == tb) = true) (CR : ∀ u, GrAt u F B c KN G → Calls Tryz.prog 61 #[.pointer (some ⟨rp, 0, none⟩), .int .i64 m.seq] u fun e w' => e = .returned (.bool false) ∧ u.grownBy w' none) :
  Calls Tryz.prog 19 #[.pointer (some ⟨B.g, 0, none⟩), .string s, .int .i64 now, .slice none 0 0] w fun e w' => e = .returned (.tuple #[mg zeroM, .int .i64 6]) ∧ w.grownBy w' none := by
 replace CS := hid CS
 replace CK := hid CK
 replace CT := hid CT
 replace CR := hid CR
 have K0 := hid ((kr_start k0).alloc (msgObj zeroM))
 have cn := k0.cn; have cm := k0.cm; have cf := k0.cf; have ok := k0.ok
 have f2 := ok.f2; have f1 := ok.f1; clear ok
 have lb := Nat.le_refl w.heap.size
 have CG := hid (fun u (k : GrAt u F B c KN G) => k.tops)
 clear k0
 have dw : decide (c.n ≤ m.who) = false := by rw [cn]; simp; omega
 have dz : decide (m.who < 0) = false := by simp; omega
 clear hw
 clear cn cm cf f1 f2
 go_enter Tryz.func19, Tryz.ntmps19
 go_upto_region 1 with fail
 refine wp_gen (fun wx => Kr w F B c KN G [(w.heap.size, msgObj zeroM)] [] wx) K0.out ?_
 clear K0
 generalize hr8 : w.heap.size = r8 at lb ⊢
 have LB := hid (show w.heap.size ≤ r8 from Nat.le_of_eq hr8)
 clear lb
 intro w0 h0
 have K0 := hid h0; clear h0
 go_wp2_with fail
 refine (CS.out _).mono ?_
 rintro e w1 ⟨rfl, hg⟩
 have hlt := hid (Nat.lt_of_lt_of_le (at_lt K0.out.kp.b0) hg.size)
 have k1 := ((K0.out.grown hg).alloc (msgObj m)).alloc (tagObj ta tb)
 rw [size_alloc] at k1
 have K1 := hid k1; clear k1 hg K0 CS
 go_upto_region 2 with fail
 refine wp_gen (fun wx => Kr w F B c KN G [(w1.heap.size + 1, tagObj ta tb), (w1.heap.size, msgObj m), (r8, msgObj zeroM)] [] wx) K1.out ?_
 clear K1
 have N1 : Hid (r8 ≠ w1.heap.size ∧ r8 ≠ w1.heap.size + 1) := hid ⟨by have := hlt.out; omega, by have := hlt.out; omega⟩
 clear hlt
 generalize w1.heap.size + 1 = tb1 at N1 ⊢
 generalize w1.heap.size = mb at N1 ⊢
 intro w2 h2
 have K2 := hid h2; clear h2
 obtain ⟨d0, d1, d2, d3, d4, d5, d6⟩ := msg_cells K2.out.kp.b1
 obtain ⟨t0, t2, t4, t6, t26, t27, t28⟩ := CG.out _ K2.out.gt
 go_upto_region 4 with fail
 go_quiet (fail)
 clear d0 d1 d2 d3 d4 d5 d6 t0 t2 t4 t6 t26 t27 t28
 refine exit_gen (fun wx => Kr w F B c KN G [(tb1, tagObj ta tb), (mb, msgObj m), (r8, msgObj zeroM)] [] wx) (K2.out.grown (gb_drewQ w2 _)) ?_
 clear K2
 intro y3 h3
 have K3 := hid h3; clear h3
 have M3 := hid K3.out.kp.b1
 go_wp2_with (refine wpList_row M3.out Tryz.underlying39 rfl (by kernel_rfl) rfl rfl rfl rfl ?_)
 clear M3
 refine (CK.out _ K3.out.gt).mono ?_
 rintro e w4 ⟨rfl, hg⟩
 have K4 := hid ((K3.out.grown hg).alloc (keyObj ka kb)); clear hg K3 CK
 go_upto_region 7 with fail
 refine wp_gen (fun wx => Kr w F B c KN G ((w4.heap.size, keyObj ka kb) :: [(tb1, tagObj ta tb), (mb, msgObj m), (r8, msgObj zeroM)]) [] wx) K4.out ?_
 clear K4
 generalize w4.heap.size = kb2
 intro w5 h5
 have K5 := hid h5; clear h5
 have he' : ∀ u, (Op.equalIn 10000 83 (.agg #[.int .u64 (q sa), .int .u64 (q sb)]) (.agg #[.int .u64 (q ta), .int .u64 (q tb)])).run Tryz.prog u = .ok true u := fun u => by rw [tag_equal, he]
 clear he
 go_wp2_with fail
 refine wp_region_held_drew (S := (fun w' => (Kr w F B c KN G [(kb2, keyObj ka kb), (tb1, tagObj ta tb), (mb, msgObj m), (r8, msgObj zeroM)] [] w'))) (by kernel_rfl) K5.out.drew (fun hHeld => ?_)
 try dsimp only at hHeld
 refine' jT 0 rfl (by rfl) ?_ hHeld ?_
 rotate_left
 ·(intro w hSw; (try dsimp only at hSw); (try simp only [jD, jE, jF]); refine exec_row (x := .tmp 14) hSw.kp.b0 Tryz.underlying49 rfl (by kernel_rfl) ?_ ?_ <;> rfl)
 try simp only [jX, jD, jE, jF]
 refine jU 1 hHeld ?_
 try simp only [jX, jD, jE, jF]
 refine' jT 3 rfl (by rfl) ?_ hHeld ?_
 rotate_left
 ·(intro w hSw; (try dsimp only at hSw); (try simp only [jD, jE, jF]); refine exec_row (x := .tmp 12) hSw.kp.b1 Tryz.underlying83 rfl (by kernel_rfl) ?_ ?_ <;> rfl)
 try simp only [jX, jD, jE, jF]
 refine jR [2] ?_
 refine jG rfl (fun K hK => ?_) AllReadyH.nil
 try simp only [jD, jE, jF]
 go_simp
 have hH2 := hHeld
 have kk := hH2
 refine (CT.out _).mono ?_
 rintro e w1002 ⟨rfl, hg⟩
 have L2 := hid (show (Kr w F B c KN G [(kb2, keyObj ka kb), (tb1, tagObj ta tb), (mb, msgObj m), (r8, msgObj zeroM)] [] w1002) from kk.grown hg)
 clear hHeld hg kk
 go_wp2_with fail
 refine hK.out _ _ ?_ (fun hHeld => ?_)
 ·exact L2.out
 clear hK K
 try dsimp only at hHeld
 try simp only [jX, jD, jE, jF]
 refine jU 4 hHeld ?_
 try simp only [jX, jD, jE, jF]
 refine jU 5 hHeld ?_
 try simp only [jX, jD, jE, jF]
 refine wpAnyH_done (by kernel_rfl) ?_ _
 have kk := hHeld
 refine exit_gen (fun wx => Kr w F B c KN G [(kb2, keyObj ka kb), (tb1, tagObj ta tb), (mb, msgObj m), (r8, msgObj zeroM)] [] wx) kk ?_
 clear kk
 intro w6 h6
 have K6 := hid h6; clear h6 CT
 clear he'
 obtain ⟨d0, d1, d2, d3, d4, d5, d6⟩ := msg_cells K6.out.kp.b2
 go_wp2_with fail
 refine (CR.out _ K6.out.gt).mono ?_
 rintro e w7 ⟨rfl, hg⟩
 clear d0 d1 d2 d3 d4 d5 d6
 have K7 := hid (K6.out.grown hg); clear hg K6 CR
 have R8 := hid K7.out.kp.b3; have M8 := hid K7.out.kp.b2; have G8 := hid K7.out.kp.g; clear K7
 go_wp2_with (first | refine wpList_store_row (cs := zeroM.cells) R8.out (by kernel_rfl) (by kernel_rfl) (by kernel_rfl) rfl rfl rfl rfl rfl ?_ | refine wpList_buildTo (ty := 39) (cs := zeroM.cells) rfl rfl rfl (by kernel_rfl) ?_)
 have hst := at_setRow (cs := zeroM.cells) R8.out
 have hgs := gb_setRow (cs := zeroM.cells) G8.out LB.out
 generalize w7.setRow r8 zeroM.cells = wx at hst hgs ⊢
 obtain ⟨d0, d1, d2, d3, d4, d5, d6⟩ := msg_cells hst
 exact bodyPost_ret (v := .tuple #[mg zeroM, .int .i64 6]) (by simp [results, Tryz.results19, go_sem, d0, d1, d2, d3, d4, d5, d6]; try rfl) rfl ⟨rfl, hgs⟩
set_option maxHeartbeats 6400000 in
theorem rcheck_low {F : List Nat} {B : RBl} {c : Conf} {KN : Nat} {G : Gt} (s : ByteArray) (xs : ByteArray) (m : Mg) (ta tb : BitVec 64) (now : Int) (w : World) (k0 : GrAt w F B c KN G) (n0 : 0 ≤ now) (n1 : now ≤ 1099511627776) (CS : ∀ u, Calls Tryz.prog 59 #[.string s] u fun e w' => e = .returned (.tuple #[mg m, .string xs, pair ta tb, .int .i64 0]) ∧ u.grownBy w' none) (hw : m.who < (G.r.n : Int)) (hw0 : 0 ≤ m.who) (ka kb : BitVec 64) (rp : Nat) (CK : ∀ u, GrAt u F B c KN G → Calls Tryz.prog 60 #[.pointer (some ⟨B.g, 0, none⟩), mg m, .int .i64 now] u fun e w' => e = .returned (.tuple #[pair ka kb, .pointer (some ⟨rp, 0, none⟩), .int .i64 0]) ∧ u.grownBy w' none) (sa sb : BitVec 64) (CT : ∀ u, Calls Tryz.prog 50 #[pair ka kb, .string xs] u fun e w' => e = .returned (pair sa sb) ∧ u.grownBy w' none) (he : (sa == ta && sb == tb) = true) (CR : ∀ u, GrAt u F B c KN G → Calls Tryz.prog 61 #[.pointer (some ⟨rp, 0, none⟩), .int .i64 m.seq] u fun e w' => e = .returned (.bool true) ∧ u.grownBy w' none) (ht : m.epoch < now) (e0 : 0 ≤ m.epoch) (e1 : m.epoch ≤ 1099511627776) :
  Calls Tryz.prog 19 #[.pointer (some ⟨B.g, 0, none⟩), .string s, .int .i64 now, .slice none 0 0] w fun e w' => e = .returned (.tuple #[mg zeroM, .int .i64 7]) ∧ w.grownBy w' none := by
 replace CS := hid CS
 replace CK := hid CK
 replace CT := hid CT
 replace CR := hid CR
 have K0 := hid ((kr_start k0).alloc (msgObj zeroM))
 have cn := k0.cn; have cm := k0.cm; have cf := k0.cf; have ok := k0.ok
 have f2 := ok.f2; have f1 := ok.f1; clear ok
 have lb := Nat.le_refl w.heap.size
 have CG := hid (fun u (k : GrAt u F B c KN G) => k.tops)
 clear k0
 have dw : decide (c.n ≤ m.who) = false := by rw [cn]; simp; omega
 have dz : decide (m.who < 0) = false := by simp; omega
 clear hw
 have dt : decide (m.epoch < now) = true := by simp; omega
 clear cn cm cf f1 f2
 go_enter Tryz.func19, Tryz.ntmps19
 go_upto_region 1 with fail
 refine wp_gen (fun wx => Kr w F B c KN G [(w.heap.size, msgObj zeroM)] [] wx) K0.out ?_
 clear K0
 generalize hr8 : w.heap.size = r8 at lb ⊢
 have LB := hid (show w.heap.size ≤ r8 from Nat.le_of_eq hr8)
 clear lb
 intro w0 h0
 have K0 := hid h0; clear h0
 go_wp2_with fail
 refine (CS.out _).mono ?_
 rintro e w1 ⟨rfl, hg⟩
 have hlt := hid (Nat.lt_of_lt_of_le (at_lt K0.out.kp.b0) hg.size)
 have k1 := ((K0.out.grown hg).alloc (msgObj m)).alloc (tagObj ta tb)
 rw [size_alloc] at k1
 have K1 := hid k1; clear k1 hg K0 CS
 go_upto_region 2 with fail
 refine wp_gen (fun wx => Kr w F B c KN G [(w1.heap.size + 1, tagObj ta tb), (w1.heap.size, msgObj m), (r8, msgObj zeroM)] [] wx) K1.out ?_
 clear K1
 have N1 : Hid (r8 ≠ w1.heap.size ∧ r8 ≠ w1.heap.size + 1) := hid ⟨by have := hlt.out; omega, by have := hlt.out; omega⟩
 clear hlt
 generalize w1.heap.size + 1 = tb1 at N1 ⊢
 generalize w1.heap.size = mb at N1 ⊢
 intro w2 h2
 have K2 := hid h2; clear h2
 obtain ⟨d0, d1, d2, d3, d4, d5, d6⟩ := msg_cells K2.out.kp.b1
 obtain ⟨t0, t2, t4, t6, t26, t27, t28⟩ := CG.out _ K2.out.gt
 go_upto_region 4 with fail
 go_quiet (fail)
 clear d0 d1 d2 d3 d4 d5 d6 t0 t2 t4 t6 t26 t27 t28
 refine exit_gen (fun wx => Kr w F B c KN G [(tb1, tagObj ta tb), (mb, msgObj m), (r8, msgObj zeroM)] [] wx) (K2.out.grown (gb_drewQ w2 _)) ?_
 clear K2
 intro y3 h3
 have K3 := hid h3; clear h3
 have M3 := hid K3.out.kp.b1
 go_wp2_with (refine wpList_row M3.out Tryz.underlying39 rfl (by kernel_rfl) rfl rfl rfl rfl ?_)
 clear M3
 refine (CK.out _ K3.out.gt).mono ?_
 rintro e w4 ⟨rfl, hg⟩
 have K4 := hid ((K3.out.grown hg).alloc (keyObj ka kb)); clear hg K3 CK
 go_upto_region 7 with fail
 refine wp_gen (fun wx => Kr w F B c KN G ((w4.heap.size, keyObj ka kb) :: [(tb1, tagObj ta tb), (mb, msgObj m), (r8, msgObj zeroM)]) [] wx) K4.out ?_
 clear K4
 generalize w4.heap.size = kb2
 intro w5 h5
 have K5 := hid h5; clear h5
 have he' : ∀ u, (Op.equalIn 10000 83 (.agg #[.int .u64 (q sa), .int .u64 (q sb)]) (.agg #[.int .u64 (q ta), .int .u64 (q tb)])).run Tryz.prog u = .ok true u := fun u => by rw [tag_equal, he]
 clear he
 go_wp2_with fail
 refine wp_region_held_drew (S := (fun w' => (Kr w F B c KN G [(kb2, keyObj ka kb), (tb1, tagObj ta tb), (mb, msgObj m), (r8, msgObj zeroM)] [] w'))) (by kernel_rfl) K5.out.drew (fun hHeld => ?_)
 try dsimp only at hHeld
 refine' jT 0 rfl (by rfl) ?_ hHeld ?_
 rotate_left
 ·(intro w hSw; (try dsimp only at hSw); (try simp only [jD, jE, jF]); refine exec_row (x := .tmp 14) hSw.kp.b0 Tryz.underlying49 rfl (by kernel_rfl) ?_ ?_ <;> rfl)
 try simp only [jX, jD, jE, jF]
 refine jU 1 hHeld ?_
 try simp only [jX, jD, jE, jF]
 refine' jT 3 rfl (by rfl) ?_ hHeld ?_
 rotate_left
 ·(intro w hSw; (try dsimp only at hSw); (try simp only [jD, jE, jF]); refine exec_row (x := .tmp 12) hSw.kp.b1 Tryz.underlying83 rfl (by kernel_rfl) ?_ ?_ <;> rfl)
 try simp only [jX, jD, jE, jF]
 refine jR [2] ?_
 refine jG rfl (fun K hK => ?_) AllReadyH.nil
 try simp only [jD, jE, jF]
 go_simp
 have hH2 := hHeld
 have kk := hH2
 refine (CT.out _).mono ?_
 rintro e w1002 ⟨rfl, hg⟩
 have L2 := hid (show (Kr w F B c KN G [(kb2, keyObj ka kb), (tb1, tagObj ta tb), (mb, msgObj m), (r8, msgObj zeroM)] [] w1002) from kk.grown hg)
 clear hHeld hg kk
 go_wp2_with fail
 refine hK.out _ _ ?_ (fun hHeld => ?_)
 ·exact L2.out
 clear hK K
 try dsimp only at hHeld
 try simp only [jX, jD, jE, jF]
 refine jU 4 hHeld ?_
 try simp only [jX, jD, jE, jF]
 refine jU 5 hHeld ?_
 try simp only [jX, jD, jE, jF]
 refine wpAnyH_done (by kernel_rfl) ?_ _
 have kk := hHeld
 refine exit_gen (fun wx => Kr w F B c KN G [(kb2, keyObj ka kb), (tb1, tagObj ta tb), (mb, msgObj m), (r8, msgObj zeroM)] [] wx) kk ?_
 clear kk
 intro w6 h6
 have K6 := hid h6; clear h6 CT
 clear he'
 obtain ⟨d0, d1, d2, d3, d4, d5, d6⟩ := msg_cells K6.out.kp.b2
 go_wp2_with fail
 refine (CR.out _ K6.out.gt).mono ?_
 rintro e w7 ⟨rfl, hg⟩
 clear d0 d1 d2 d3 d4 d5 d6
 have K7 := hid (K6.out.grown hg); clear hg K6 CR
 obtain ⟨d0, d1, d2, d3, d4, d5, d6⟩ := msg_cells K7.out.kp.b2
 obtain ⟨t0, t2, t4, t6, t26, t27, t28⟩ := CG.out _ K7.out.gt
 go_upto_region 13 with fail
 go_quiet (fail)
 clear d0 d1 d2 d3 d4 d5 d6 t0 t2 t4 t6 t26 t27 t28
 refine exit_gen (fun wx => Kr w F B c KN G [(kb2, keyObj ka kb), (tb1, tagObj ta tb), (mb, msgObj m), (r8, msgObj zeroM)] [] wx) (K7.out.grown (gb_drewQ w7 _)) ?_
 clear K7
 intro y8 h8
 have K8 := hid h8; clear h8
 have R8 := hid K8.out.kp.b3; have M8 := hid K8.out.kp.b2; have G8 := hid K8.out.kp.g; clear K8
 go_wp2_with (first | refine wpList_store_row (cs := zeroM.cells) R8.out (by kernel_rfl) (by kernel_rfl) (by kernel_rfl) rfl rfl rfl rfl rfl ?_ | refine wpList_buildTo (ty := 39) (cs := zeroM.cells) rfl rfl rfl (by kernel_rfl) ?_)
 have hst := at_setRow (cs := zeroM.cells) R8.out
 have hgs := gb_setRow (cs := zeroM.cells) G8.out LB.out
 generalize y8.setRow r8 zeroM.cells = wx at hst hgs ⊢
 obtain ⟨d0, d1, d2, d3, d4, d5, d6⟩ := msg_cells hst
 exact bodyPost_ret (v := .tuple #[mg zeroM, .int .i64 7]) (by simp [results, Tryz.results19, go_sem, d0, d1, d2, d3, d4, d5, d6]; try rfl) rfl ⟨rfl, hgs⟩
set_option maxHeartbeats 6400000 in
theorem rcheck_high {F : List Nat} {B : RBl} {c : Conf} {KN : Nat} {G : Gt} (s : ByteArray) (xs : ByteArray) (m : Mg) (ta tb : BitVec 64) (now : Int) (w : World) (k0 : GrAt w F B c KN G) (n0 : 0 ≤ now) (n1 : now ≤ 1099511627776) (CS : ∀ u, Calls Tryz.prog 59 #[.string s] u fun e w' => e = .returned (.tuple #[mg m, .string xs, pair ta tb, .int .i64 0]) ∧ u.grownBy w' none) (hw : m.who < (G.r.n : Int)) (hw0 : 0 ≤ m.who) (ka kb : BitVec 64) (rp : Nat) (CK : ∀ u, GrAt u F B c KN G → Calls Tryz.prog 60 #[.pointer (some ⟨B.g, 0, none⟩), mg m, .int .i64 now] u fun e w' => e = .returned (.tuple #[pair ka kb, .pointer (some ⟨rp, 0, none⟩), .int .i64 0]) ∧ u.grownBy w' none) (sa sb : BitVec 64) (CT : ∀ u, Calls Tryz.prog 50 #[pair ka kb, .string xs] u fun e w' => e = .returned (pair sa sb) ∧ u.grownBy w' none) (he : (sa == ta && sb == tb) = true) (CR : ∀ u, GrAt u F B c KN G → Calls Tryz.prog 61 #[.pointer (some ⟨rp, 0, none⟩), .int .i64 m.seq] u fun e w' => e = .returned (.bool true) ∧ u.grownBy w' none) (ht : now ≤ m.epoch) (e0 : 0 ≤ m.epoch) (e1 : m.epoch ≤ 1099511627776) (hf : (G.fresh : Int) ≤ m.epoch - now) :
  Calls Tryz.prog 19 #[.pointer (some ⟨B.g, 0, none⟩), .string s, .int .i64 now, .slice none 0 0] w fun e w' => e = .returned (.tuple #[mg zeroM, .int .i64 7]) ∧ w.grownBy w' none := by
 replace CS := hid CS
 replace CK := hid CK
 replace CT := hid CT
 replace CR := hid CR
 have K0 := hid ((kr_start k0).alloc (msgObj zeroM))
 have cn := k0.cn; have cm := k0.cm; have cf := k0.cf; have ok := k0.ok
 have f2 := ok.f2; have f1 := ok.f1; clear ok
 have lb := Nat.le_refl w.heap.size
 have CG := hid (fun u (k : GrAt u F B c KN G) => k.tops)
 clear k0
 have dw : decide (c.n ≤ m.who) = false := by rw [cn]; simp; omega
 have dz : decide (m.who < 0) = false := by simp; omega
 clear hw
 have dt : decide (m.epoch < now) = false := by simp; omega
 have u1 : IntKind.u64.wrap m.epoch = m.epoch := by show m.epoch % 18446744073709551616 = _; omega
 have u2 : IntKind.u64.wrap now = now := by show now % 18446744073709551616 = _; omega
 have u3 : IntKind.u64.wrap (m.epoch - now) = m.epoch - now := by show (m.epoch - now) % 18446744073709551616 = _; omega
 have u4 : IntKind.u64.wrap c.fresh = c.fresh := by rw [cf]; show (G.fresh : Int) % 18446744073709551616 = _; omega
 have df : decide (c.fresh ≤ m.epoch - now) = true := by rw [cf]; simp; omega
 clear cn cm cf f1 f2
 go_enter Tryz.func19, Tryz.ntmps19
 go_upto_region 1 with fail
 refine wp_gen (fun wx => Kr w F B c KN G [(w.heap.size, msgObj zeroM)] [] wx) K0.out ?_
 clear K0
 generalize hr8 : w.heap.size = r8 at lb ⊢
 have LB := hid (show w.heap.size ≤ r8 from Nat.le_of_eq hr8)
 clear lb
 intro w0 h0
 have K0 := hid h0; clear h0
 go_wp2_with fail
 refine (CS.out _).mono ?_
 rintro e w1 ⟨rfl, hg⟩
 have hlt := hid (Nat.lt_of_lt_of_le (at_lt K0.out.kp.b0) hg.size)
 have k1 := ((K0.out.grown hg).alloc (msgObj m)).alloc (tagObj ta tb)
 rw [size_alloc] at k1
 have K1 := hid k1; clear k1 hg K0 CS
 go_upto_region 2 with fail
 refine wp_gen (fun wx => Kr w F B c KN G [(w1.heap.size + 1, tagObj ta tb), (w1.heap.size, msgObj m), (r8, msgObj zeroM)] [] wx) K1.out ?_
 clear K1
 have N1 : Hid (r8 ≠ w1.heap.size ∧ r8 ≠ w1.heap.size + 1) := hid ⟨by have := hlt.out; omega, by have := hlt.out; omega⟩
 clear hlt
 generalize w1.heap.size + 1 = tb1 at N1 ⊢
 generalize w1.heap.size = mb at N1 ⊢
 intro w2 h2
 have K2 := hid h2; clear h2
 obtain ⟨d0, d1, d2, d3, d4, d5, d6⟩ := msg_cells K2.out.kp.b1
 obtain ⟨t0, t2, t4, t6, t26, t27, t28⟩ := CG.out _ K2.out.gt
 go_upto_region 4 with fail
 go_quiet (fail)
 clear d0 d1 d2 d3 d4 d5 d6 t0 t2 t4 t6 t26 t27 t28
 refine exit_gen (fun wx => Kr w F B c KN G [(tb1, tagObj ta tb), (mb, msgObj m), (r8, msgObj zeroM)] [] wx) (K2.out.grown (gb_drewQ w2 _)) ?_
 clear K2
 intro y3 h3
 have K3 := hid h3; clear h3
 have M3 := hid K3.out.kp.b1
 go_wp2_with (refine wpList_row M3.out Tryz.underlying39 rfl (by kernel_rfl) rfl rfl rfl rfl ?_)
 clear M3
 refine (CK.out _ K3.out.gt).mono ?_
 rintro e w4 ⟨rfl, hg⟩
 have K4 := hid ((K3.out.grown hg).alloc (keyObj ka kb)); clear hg K3 CK
 go_upto_region 7 with fail
 refine wp_gen (fun wx => Kr w F B c KN G ((w4.heap.size, keyObj ka kb) :: [(tb1, tagObj ta tb), (mb, msgObj m), (r8, msgObj zeroM)]) [] wx) K4.out ?_
 clear K4
 generalize w4.heap.size = kb2
 intro w5 h5
 have K5 := hid h5; clear h5
 have he' : ∀ u, (Op.equalIn 10000 83 (.agg #[.int .u64 (q sa), .int .u64 (q sb)]) (.agg #[.int .u64 (q ta), .int .u64 (q tb)])).run Tryz.prog u = .ok true u := fun u => by rw [tag_equal, he]
 clear he
 go_wp2_with fail
 refine wp_region_held_drew (S := (fun w' => (Kr w F B c KN G [(kb2, keyObj ka kb), (tb1, tagObj ta tb), (mb, msgObj m), (r8, msgObj zeroM)] [] w'))) (by kernel_rfl) K5.out.drew (fun hHeld => ?_)
 try dsimp only at hHeld
 refine' jT 0 rfl (by rfl) ?_ hHeld ?_
 rotate_left
 ·(intro w hSw; (try dsimp only at hSw); (try simp only [jD, jE, jF]); refine exec_row (x := .tmp 14) hSw.kp.b0 Tryz.underlying49 rfl (by kernel_rfl) ?_ ?_ <;> rfl)
 try simp only [jX, jD, jE, jF]
 refine jU 1 hHeld ?_
 try simp only [jX, jD, jE, jF]
 refine' jT 3 rfl (by rfl) ?_ hHeld ?_
 rotate_left
 ·(intro w hSw; (try dsimp only at hSw); (try simp only [jD, jE, jF]); refine exec_row (x := .tmp 12) hSw.kp.b1 Tryz.underlying83 rfl (by kernel_rfl) ?_ ?_ <;> rfl)
 try simp only [jX, jD, jE, jF]
 refine jR [2] ?_
 refine jG rfl (fun K hK => ?_) AllReadyH.nil
 try simp only [jD, jE, jF]
 go_simp
 have hH2 := hHeld
 have kk := hH2
 refine (CT.out _).mono ?_
 rintro e w1002 ⟨rfl, hg⟩
 have L2 := hid (show (Kr w F B c KN G [(kb2, keyObj ka kb), (tb1, tagObj ta tb), (mb, msgObj m), (r8, msgObj zeroM)] [] w1002) from kk.grown hg)
 clear hHeld hg kk
 go_wp2_with fail
 refine hK.out _ _ ?_ (fun hHeld => ?_)
 ·exact L2.out
 clear hK K
 try dsimp only at hHeld
 try simp only [jX, jD, jE, jF]
 refine jU 4 hHeld ?_
 try simp only [jX, jD, jE, jF]
 refine jU 5 hHeld ?_
 try simp only [jX, jD, jE, jF]
 refine wpAnyH_done (by kernel_rfl) ?_ _
 have kk := hHeld
 refine exit_gen (fun wx => Kr w F B c KN G [(kb2, keyObj ka kb), (tb1, tagObj ta tb), (mb, msgObj m), (r8, msgObj zeroM)] [] wx) kk ?_
 clear kk
 intro w6 h6
 have K6 := hid h6; clear h6 CT
 clear he'
 obtain ⟨d0, d1, d2, d3, d4, d5, d6⟩ := msg_cells K6.out.kp.b2
 go_wp2_with fail
 refine (CR.out _ K6.out.gt).mono ?_
 rintro e w7 ⟨rfl, hg⟩
 clear d0 d1 d2 d3 d4 d5 d6
 have K7 := hid (K6.out.grown hg); clear hg K6 CR
 obtain ⟨d0, d1, d2, d3, d4, d5, d6⟩ := msg_cells K7.out.kp.b2
 obtain ⟨t0, t2, t4, t6, t26, t27, t28⟩ := CG.out _ K7.out.gt
 go_upto_region 13 with fail
 go_quiet (fail)
 clear d0 d1 d2 d3 d4 d5 d6 t0 t2 t4 t6 t26 t27 t28
 refine exit_gen (fun wx => Kr w F B c KN G [(kb2, keyObj ka kb), (tb1, tagObj ta tb), (mb, msgObj m), (r8, msgObj zeroM)] [] wx) (K7.out.grown (gb_drewQ w7 _)) ?_
 clear K7
 intro y8 h8
 have K8 := hid h8; clear h8
 have R8 := hid K8.out.kp.b3; have M8 := hid K8.out.kp.b2; have G8 := hid K8.out.kp.g; clear K8
 go_wp2_with (first | refine wpList_store_row (cs := zeroM.cells) R8.out (by kernel_rfl) (by kernel_rfl) (by kernel_rfl) rfl rfl rfl rfl rfl ?_ | refine wpList_buildTo (ty := 39) (cs := zeroM.cells) rfl rfl rfl (by kernel_rfl) ?_)
 have hst := at_setRow (cs := zeroM.cells) R8.out
 have hgs := gb_setRow (cs := zeroM.cells) G8.out LB.out
 generalize y8.setRow r8 zeroM.cells = wx at hst hgs ⊢
 obtain ⟨d0, d1, d2, d3, d4, d5, d6⟩ := msg_cells hst
 exact bodyPost_ret (v := .tuple #[mg zeroM, .int .i64 7]) (by simp [results, Tryz.results19, go_sem, d0, d1, d2, d3, d4, d5, d6]; try rfl) rfl ⟨rfl, hgs⟩
set_option maxHeartbeats 6400000 in
theorem rcheck_metric {F : List Nat} {B : RBl} {c : Conf} {KN : Nat} {G : Gt} (s : ByteArray) (xs : ByteArray) (m : Mg) (ta tb : BitVec 64) (now : Int) (w : World) (k0 : GrAt w F B c KN G) (n0 : 0 ≤ now) (n1 : now ≤ 1099511627776) (CS : ∀ u, Calls Tryz.prog 59 #[.string s] u fun e w' => e = .returned (.tuple #[mg m, .string xs, pair ta tb, .int .i64 0]) ∧ u.grownBy w' none) (hw : m.who < (G.r.n : Int)) (hw0 : 0 ≤ m.who) (ka kb : BitVec 64) (rp : Nat) (CK : ∀ u, GrAt u F B c KN G → Calls Tryz.prog 60 #[.pointer (some ⟨B.g, 0, none⟩), mg m, .int .i64 now] u fun e w' => e = .returned (.tuple #[pair ka kb, .pointer (some ⟨rp, 0, none⟩), .int .i64 0]) ∧ u.grownBy w' none) (sa sb : BitVec 64) (CT : ∀ u, Calls Tryz.prog 50 #[pair ka kb, .string xs] u fun e w' => e = .returned (pair sa sb) ∧ u.grownBy w' none) (he : (sa == ta && sb == tb) = true) (CR : ∀ u, GrAt u F B c KN G → Calls Tryz.prog 61 #[.pointer (some ⟨rp, 0, none⟩), .int .i64 m.seq] u fun e w' => e = .returned (.bool true) ∧ u.grownBy w' none) (ht : now ≤ m.epoch) (e0 : 0 ≤ m.epoch) (e1 : m.epoch ≤ 1099511627776) (hf : m.epoch - now < (G.fresh : Int)) (hm :  (G.met : Int) ≤ m.metric) :
  Calls Tryz.prog 19 #[.pointer (some ⟨B.g, 0, none⟩), .string s, .int .i64 now, .slice none 0 0] w fun e w' => e = .returned (.tuple #[mg zeroM, .int .i64 1]) ∧ w.grownBy w' none := by
 replace CS := hid CS
 replace CK := hid CK
 replace CT := hid CT
 replace CR := hid CR
 have K0 := hid ((kr_start k0).alloc (msgObj zeroM))
 have cn := k0.cn; have cm := k0.cm; have cf := k0.cf; have ok := k0.ok
 have f2 := ok.f2; have f1 := ok.f1; clear ok
 have lb := Nat.le_refl w.heap.size
 have CG := hid (fun u (k : GrAt u F B c KN G) => k.tops)
 clear k0
 have dw : decide (c.n ≤ m.who) = false := by rw [cn]; simp; omega
 have dz : decide (m.who < 0) = false := by simp; omega
 clear hw
 have dt : decide (m.epoch < now) = false := by simp; omega
 have u1 : IntKind.u64.wrap m.epoch = m.epoch := by show m.epoch % 18446744073709551616 = _; omega
 have u2 : IntKind.u64.wrap now = now := by show now % 18446744073709551616 = _; omega
 have u3 : IntKind.u64.wrap (m.epoch - now) = m.epoch - now := by show (m.epoch - now) % 18446744073709551616 = _; omega
 have u4 : IntKind.u64.wrap c.fresh = c.fresh := by rw [cf]; show (G.fresh : Int) % 18446744073709551616 = _; omega
 have df : decide (c.fresh ≤ m.epoch - now) = false := by rw [cf]; simp; omega
 have dm : decide (c.m ≤ m.metric) = true := by rw [cm]; simpa using hm
 clear hm
 clear cn cm cf f1 f2
 go_enter Tryz.func19, Tryz.ntmps19
 go_upto_region 1 with fail
 refine wp_gen (fun wx => Kr w F B c KN G [(w.heap.size, msgObj zeroM)] [] wx) K0.out ?_
 clear K0
 generalize hr8 : w.heap.size = r8 at lb ⊢
 have LB := hid (show w.heap.size ≤ r8 from Nat.le_of_eq hr8)
 clear lb
 intro w0 h0
 have K0 := hid h0; clear h0
 go_wp2_with fail
 refine (CS.out _).mono ?_
 rintro e w1 ⟨rfl, hg⟩
 have hlt := hid (Nat.lt_of_lt_of_le (at_lt K0.out.kp.b0) hg.size)
 have k1 := ((K0.out.grown hg).alloc (msgObj m)).alloc (tagObj ta tb)
 rw [size_alloc] at k1
 have K1 := hid k1; clear k1 hg K0 CS
 go_upto_region 2 with fail
 refine wp_gen (fun wx => Kr w F B c KN G [(w1.heap.size + 1, tagObj ta tb), (w1.heap.size, msgObj m), (r8, msgObj zeroM)] [] wx) K1.out ?_
 clear K1
 have N1 : Hid (r8 ≠ w1.heap.size ∧ r8 ≠ w1.heap.size + 1) := hid ⟨by have := hlt.out; omega, by have := hlt.out; omega⟩
 clear hlt
 generalize w1.heap.size + 1 = tb1 at N1 ⊢
 generalize w1.heap.size = mb at N1 ⊢
 intro w2 h2
 have K2 := hid h2; clear h2
 obtain ⟨d0, d1, d2, d3, d4, d5, d6⟩ := msg_cells K2.out.kp.b1
 obtain ⟨t0, t2, t4, t6, t26, t27, t28⟩ := CG.out _ K2.out.gt
 go_upto_region 4 with fail
 go_quiet (fail)
 clear d0 d1 d2 d3 d4 d5 d6 t0 t2 t4 t6 t26 t27 t28
 refine exit_gen (fun wx => Kr w F B c KN G [(tb1, tagObj ta tb), (mb, msgObj m), (r8, msgObj zeroM)] [] wx) (K2.out.grown (gb_drewQ w2 _)) ?_
 clear K2
 intro y3 h3
 have K3 := hid h3; clear h3
 have M3 := hid K3.out.kp.b1
 go_wp2_with (refine wpList_row M3.out Tryz.underlying39 rfl (by kernel_rfl) rfl rfl rfl rfl ?_)
 clear M3
 refine (CK.out _ K3.out.gt).mono ?_
 rintro e w4 ⟨rfl, hg⟩
 have K4 := hid ((K3.out.grown hg).alloc (keyObj ka kb)); clear hg K3 CK
 go_upto_region 7 with fail
 refine wp_gen (fun wx => Kr w F B c KN G ((w4.heap.size, keyObj ka kb) :: [(tb1, tagObj ta tb), (mb, msgObj m), (r8, msgObj zeroM)]) [] wx) K4.out ?_
 clear K4
 generalize w4.heap.size = kb2
 intro w5 h5
 have K5 := hid h5; clear h5
 have he' : ∀ u, (Op.equalIn 10000 83 (.agg #[.int .u64 (q sa), .int .u64 (q sb)]) (.agg #[.int .u64 (q ta), .int .u64 (q tb)])).run Tryz.prog u = .ok true u := fun u => by rw [tag_equal, he]
 clear he
 go_wp2_with fail
 refine wp_region_held_drew (S := (fun w' => (Kr w F B c KN G [(kb2, keyObj ka kb), (tb1, tagObj ta tb), (mb, msgObj m), (r8, msgObj zeroM)] [] w'))) (by kernel_rfl) K5.out.drew (fun hHeld => ?_)
 try dsimp only at hHeld
 refine' jT 0 rfl (by rfl) ?_ hHeld ?_
 rotate_left
 ·(intro w hSw; (try dsimp only at hSw); (try simp only [jD, jE, jF]); refine exec_row (x := .tmp 14) hSw.kp.b0 Tryz.underlying49 rfl (by kernel_rfl) ?_ ?_ <;> rfl)
 try simp only [jX, jD, jE, jF]
 refine jU 1 hHeld ?_
 try simp only [jX, jD, jE, jF]
 refine' jT 3 rfl (by rfl) ?_ hHeld ?_
 rotate_left
 ·(intro w hSw; (try dsimp only at hSw); (try simp only [jD, jE, jF]); refine exec_row (x := .tmp 12) hSw.kp.b1 Tryz.underlying83 rfl (by kernel_rfl) ?_ ?_ <;> rfl)
 try simp only [jX, jD, jE, jF]
 refine jR [2] ?_
 refine jG rfl (fun K hK => ?_) AllReadyH.nil
 try simp only [jD, jE, jF]
 go_simp
 have hH2 := hHeld
 have kk := hH2
 refine (CT.out _).mono ?_
 rintro e w1002 ⟨rfl, hg⟩
 have L2 := hid (show (Kr w F B c KN G [(kb2, keyObj ka kb), (tb1, tagObj ta tb), (mb, msgObj m), (r8, msgObj zeroM)] [] w1002) from kk.grown hg)
 clear hHeld hg kk
 go_wp2_with fail
 refine hK.out _ _ ?_ (fun hHeld => ?_)
 ·exact L2.out
 clear hK K
 try dsimp only at hHeld
 try simp only [jX, jD, jE, jF]
 refine jU 4 hHeld ?_
 try simp only [jX, jD, jE, jF]
 refine jU 5 hHeld ?_
 try simp only [jX, jD, jE, jF]
 refine wpAnyH_done (by kernel_rfl) ?_ _
 have kk := hHeld
 refine exit_gen (fun wx => Kr w F B c KN G [(kb2, keyObj ka kb), (tb1, tagObj ta tb), (mb, msgObj m), (r8, msgObj zeroM)] [] wx) kk ?_
 clear kk
 intro w6 h6
 have K6 := hid h6; clear h6 CT
 clear he'
 obtain ⟨d0, d1, d2, d3, d4, d5, d6⟩ := msg_cells K6.out.kp.b2
 go_wp2_with fail
 refine (CR.out _ K6.out.gt).mono ?_
 rintro e w7 ⟨rfl, hg⟩
 clear d0 d1 d2 d3 d4 d5 d6
 have K7 := hid (K6.out.grown hg); clear hg K6 CR
 obtain ⟨d0, d1, d2, d3, d4, d5, d6⟩ := msg_cells K7.out.kp.b2
 obtain ⟨t0, t2, t4, t6, t26, t27, t28⟩ := CG.out _ K7.out.gt
 go_upto_region 13 with fail
 go_quiet (fail)
 clear d0 d1 d2 d3 d4 d5 d6 t0 t2 t4 t6 t26 t27 t28
 refine exit_gen (fun wx => Kr w F B c KN G [(kb2, keyObj ka kb), (tb1, tagObj ta tb), (mb, msgObj m), (r8, msgObj zeroM)] [] wx) (K7.out.grown (gb_drewQ w7 _)) ?_
 clear K7
 intro y8 h8
 have K8 := hid h8; clear h8
 obtain ⟨d0, d1, d2, d3, d4, d5, d6⟩ := msg_cells K8.out.kp.b2
 obtain ⟨t0, t2, t4, t6, t26, t27, t28⟩ := CG.out _ K8.out.gt
 go_upto_region 15 with fail
 go_quiet (fail)
 clear d0 d1 d2 d3 d4 d5 d6 t0 t2 t4 t6 t26 t27 t28
 refine exit_gen (fun wx => Kr w F B c KN G [(kb2, keyObj ka kb), (tb1, tagObj ta tb), (mb, msgObj m), (r8, msgObj zeroM)] [] wx) (K8.out.grown (gb_drewQ y8 _)) ?_
 clear K8
 intro y9 h9
 have K9 := hid h9; clear h9
 have R8 := hid K9.out.kp.b3; have M8 := hid K9.out.kp.b2; have G8 := hid K9.out.kp.g; clear K9
 go_wp2_with (first | refine wpList_store_row (cs := zeroM.cells) R8.out (by kernel_rfl) (by kernel_rfl) (by kernel_rfl) rfl rfl rfl rfl rfl ?_ | refine wpList_buildTo (ty := 39) (cs := zeroM.cells) rfl rfl rfl (by kernel_rfl) ?_)
 have hst := at_setRow (cs := zeroM.cells) R8.out
 have hgs := gb_setRow (cs := zeroM.cells) G8.out LB.out
 generalize y9.setRow r8 zeroM.cells = wx at hst hgs ⊢
 obtain ⟨d0, d1, d2, d3, d4, d5, d6⟩ := msg_cells hst
 exact bodyPost_ret (v := .tuple #[mg zeroM, .int .i64 1]) (by simp [results, Tryz.results19, go_sem, d0, d1, d2, d3, d4, d5, d6]; try rfl) rfl ⟨rfl, hgs⟩
set_option maxHeartbeats 6400000 in
theorem rcheck_ok {F : List Nat} {B : RBl} {c : Conf} {KN : Nat} {G : Gt} (s : ByteArray) (xs : ByteArray) (m : Mg) (ta tb : BitVec 64) (now : Int) (w : World) (k0 : GrAt w F B c KN G) (n0 : 0 ≤ now) (n1 : now ≤ 1099511627776) (CS : ∀ u, Calls Tryz.prog 59 #[.string s] u fun e w' => e = .returned (.tuple #[mg m, .string xs, pair ta tb, .int .i64 0]) ∧ u.grownBy w' none) (hw : m.who < (G.r.n : Int)) (hw0 : 0 ≤ m.who) (ka kb : BitVec 64) (rp : Nat) (CK : ∀ u, GrAt u F B c KN G → Calls Tryz.prog 60 #[.pointer (some ⟨B.g, 0, none⟩), mg m, .int .i64 now] u fun e w' => e = .returned (.tuple #[pair ka kb, .pointer (some ⟨rp, 0, none⟩), .int .i64 0]) ∧ u.grownBy w' none) (sa sb : BitVec 64) (CT : ∀ u, Calls Tryz.prog 50 #[pair ka kb, .string xs] u fun e w' => e = .returned (pair sa sb) ∧ u.grownBy w' none) (he : (sa == ta && sb == tb) = true) (CR : ∀ u, GrAt u F B c KN G → Calls Tryz.prog 61 #[.pointer (some ⟨rp, 0, none⟩), .int .i64 m.seq] u fun e w' => e = .returned (.bool true) ∧ u.grownBy w' none) (ht : now ≤ m.epoch) (e0 : 0 ≤ m.epoch) (e1 : m.epoch ≤ 1099511627776) (hf : m.epoch - now < (G.fresh : Int)) (hm : ¬ (G.met : Int) ≤ m.metric) :
  Calls Tryz.prog 19 #[.pointer (some ⟨B.g, 0, none⟩), .string s, .int .i64 now, .slice none 0 0] w fun e w' => e = .returned (.tuple #[mg m, .int .i64 0]) ∧ w.grownBy w' none := by
 replace CS := hid CS
 replace CK := hid CK
 replace CT := hid CT
 replace CR := hid CR
 have K0 := hid ((kr_start k0).alloc (msgObj zeroM))
 have cn := k0.cn; have cm := k0.cm; have cf := k0.cf; have ok := k0.ok
 have f2 := ok.f2; have f1 := ok.f1; clear ok
 have lb := Nat.le_refl w.heap.size
 have CG := hid (fun u (k : GrAt u F B c KN G) => k.tops)
 clear k0
 have dw : decide (c.n ≤ m.who) = false := by rw [cn]; simp; omega
 have dz : decide (m.who < 0) = false := by simp; omega
 clear hw
 have dt : decide (m.epoch < now) = false := by simp; omega
 have u1 : IntKind.u64.wrap m.epoch = m.epoch := by show m.epoch % 18446744073709551616 = _; omega
 have u2 : IntKind.u64.wrap now = now := by show now % 18446744073709551616 = _; omega
 have u3 : IntKind.u64.wrap (m.epoch - now) = m.epoch - now := by show (m.epoch - now) % 18446744073709551616 = _; omega
 have u4 : IntKind.u64.wrap c.fresh = c.fresh := by rw [cf]; show (G.fresh : Int) % 18446744073709551616 = _; omega
 have df : decide (c.fresh ≤ m.epoch - now) = false := by rw [cf]; simp; omega
 have dm : decide (c.m ≤ m.metric) = false := by rw [cm]; simpa using hm
 clear hm
 clear cn cm cf f1 f2
 go_enter Tryz.func19, Tryz.ntmps19
 go_upto_region 1 with fail
 refine wp_gen (fun wx => Kr w F B c KN G [(w.heap.size, msgObj zeroM)] [] wx) K0.out ?_
 clear K0
 generalize hr8 : w.heap.size = r8 at lb ⊢
 have LB := hid (show w.heap.size ≤ r8 from Nat.le_of_eq hr8)
 clear lb
 intro w0 h0
 have K0 := hid h0; clear h0
 go_wp2_with fail
 refine (CS.out _).mono ?_
 rintro e w1 ⟨rfl, hg⟩
 have hlt := hid (Nat.lt_of_lt_of_le (at_lt K0.out.kp.b0) hg.size)
 have k1 := ((K0.out.grown hg).alloc (msgObj m)).alloc (tagObj ta tb)
 rw [size_alloc] at k1
 have K1 := hid k1; clear k1 hg K0 CS
 go_upto_region 2 with fail
 refine wp_gen (fun wx => Kr w F B c KN G [(w1.heap.size + 1, tagObj ta tb), (w1.heap.size, msgObj m), (r8, msgObj zeroM)] [] wx) K1.out ?_
 clear K1
 have N1 : Hid (r8 ≠ w1.heap.size ∧ r8 ≠ w1.heap.size + 1) := hid ⟨by have := hlt.out; omega, by have := hlt.out; omega⟩
 clear hlt
 generalize w1.heap.size + 1 = tb1 at N1 ⊢
 generalize w1.heap.size = mb at N1 ⊢
 intro w2 h2
 have K2 := hid h2; clear h2
 obtain ⟨d0, d1, d2, d3, d4, d5, d6⟩ := msg_cells K2.out.kp.b1
 obtain ⟨t0, t2, t4, t6, t26, t27, t28⟩ := CG.out _ K2.out.gt
 go_upto_region 4 with fail
 go_quiet (fail)
 clear d0 d1 d2 d3 d4 d5 d6 t0 t2 t4 t6 t26 t27 t28
 refine exit_gen (fun wx => Kr w F B c KN G [(tb1, tagObj ta tb), (mb, msgObj m), (r8, msgObj zeroM)] [] wx) (K2.out.grown (gb_drewQ w2 _)) ?_
 clear K2
 intro y3 h3
 have K3 := hid h3; clear h3
 have M3 := hid K3.out.kp.b1
 go_wp2_with (refine wpList_row M3.out Tryz.underlying39 rfl (by kernel_rfl) rfl rfl rfl rfl ?_)
 clear M3
 refine (CK.out _ K3.out.gt).mono ?_
 rintro e w4 ⟨rfl, hg⟩
 have K4 := hid ((K3.out.grown hg).alloc (keyObj ka kb)); clear hg K3 CK
 go_upto_region 7 with fail
 refine wp_gen (fun wx => Kr w F B c KN G ((w4.heap.size, keyObj ka kb) :: [(tb1, tagObj ta tb), (mb, msgObj m), (r8, msgObj zeroM)]) [] wx) K4.out ?_
 clear K4
 generalize w4.heap.size = kb2
 intro w5 h5
 have K5 := hid h5; clear h5
 have he' : ∀ u, (Op.equalIn 10000 83 (.agg #[.int .u64 (q sa), .int .u64 (q sb)]) (.agg #[.int .u64 (q ta), .int .u64 (q tb)])).run Tryz.prog u = .ok true u := fun u => by rw [tag_equal, he]
 clear he
 go_wp2_with fail
 refine wp_region_held_drew (S := (fun w' => (Kr w F B c KN G [(kb2, keyObj ka kb), (tb1, tagObj ta tb), (mb, msgObj m), (r8, msgObj zeroM)] [] w'))) (by kernel_rfl) K5.out.drew (fun hHeld => ?_)
 try dsimp only at hHeld
 refine' jT 0 rfl (by rfl) ?_ hHeld ?_
 rotate_left
 ·(intro w hSw; (try dsimp only at hSw); (try simp only [jD, jE, jF]); refine exec_row (x := .tmp 14) hSw.kp.b0 Tryz.underlying49 rfl (by kernel_rfl) ?_ ?_ <;> rfl)
 try simp only [jX, jD, jE, jF]
 refine jU 1 hHeld ?_
 try simp only [jX, jD, jE, jF]
 refine' jT 3 rfl (by rfl) ?_ hHeld ?_
 rotate_left
 ·(intro w hSw; (try dsimp only at hSw); (try simp only [jD, jE, jF]); refine exec_row (x := .tmp 12) hSw.kp.b1 Tryz.underlying83 rfl (by kernel_rfl) ?_ ?_ <;> rfl)
 try simp only [jX, jD, jE, jF]
 refine jR [2] ?_
 refine jG rfl (fun K hK => ?_) AllReadyH.nil
 try simp only [jD, jE, jF]
 go_simp
 have hH2 := hHeld
 have kk := hH2
 refine (CT.out _).mono ?_
 rintro e w1002 ⟨rfl, hg⟩
 have L2 := hid (show (Kr w F B c KN G [(kb2, keyObj ka kb), (tb1, tagObj ta tb), (mb, msgObj m), (r8, msgObj zeroM)] [] w1002) from kk.grown hg)
 clear hHeld hg kk
 go_wp2_with fail
 refine hK.out _ _ ?_ (fun hHeld => ?_)
 ·exact L2.out
 clear hK K
 try dsimp only at hHeld
 try simp only [jX, jD, jE, jF]
 refine jU 4 hHeld ?_
 try simp only [jX, jD, jE, jF]
 refine jU 5 hHeld ?_
 try simp only [jX, jD, jE, jF]
 refine wpAnyH_done (by kernel_rfl) ?_ _
 have kk := hHeld
 refine exit_gen (fun wx => Kr w F B c KN G [(kb2, keyObj ka kb), (tb1, tagObj ta tb), (mb, msgObj m), (r8, msgObj zeroM)] [] wx) kk ?_
 clear kk
 intro w6 h6
 have K6 := hid h6; clear h6 CT
 clear he'
 obtain ⟨d0, d1, d2, d3, d4, d5, d6⟩ := msg_cells K6.out.kp.b2
 go_wp2_with fail
 refine (CR.out _ K6.out.gt).mono ?_
 rintro e w7 ⟨rfl, hg⟩
 clear d0 d1 d2 d3 d4 d5 d6
 have K7 := hid (K6.out.grown hg); clear hg K6 CR
 obtain ⟨d0, d1, d2, d3, d4, d5, d6⟩ := msg_cells K7.out.kp.b2
 obtain ⟨t0, t2, t4, t6, t26, t27, t28⟩ := CG.out _ K7.out.gt
 go_upto_region 13 with fail
 go_quiet (fail)
 clear d0 d1 d2 d3 d4 d5 d6 t0 t2 t4 t6 t26 t27 t28
 refine exit_gen (fun wx => Kr w F B c KN G [(kb2, keyObj ka kb), (tb1, tagObj ta tb), (mb, msgObj m), (r8, msgObj zeroM)] [] wx) (K7.out.grown (gb_drewQ w7 _)) ?_
 clear K7
 intro y8 h8
 have K8 := hid h8; clear h8
 obtain ⟨d0, d1, d2, d3, d4, d5, d6⟩ := msg_cells K8.out.kp.b2
 obtain ⟨t0, t2, t4, t6, t26, t27, t28⟩ := CG.out _ K8.out.gt
 go_upto_region 15 with fail
 go_quiet (fail)
 clear d0 d1 d2 d3 d4 d5 d6 t0 t2 t4 t6 t26 t27 t28
 refine exit_gen (fun wx => Kr w F B c KN G [(kb2, keyObj ka kb), (tb1, tagObj ta tb), (mb, msgObj m), (r8, msgObj zeroM)] [] wx) (K8.out.grown (gb_drewQ y8 _)) ?_
 clear K8
 intro y9 h9
 have K9 := hid h9; clear h9
 have R8 := hid K9.out.kp.b3; have M8 := hid K9.out.kp.b2; have G8 := hid K9.out.kp.g; clear K9
 go_wp2_with (first | refine wpList_store_row (cs := m.cells) R8.out (by kernel_rfl) (by kernel_rfl) (by kernel_rfl) rfl rfl rfl rfl rfl ?_ | refine wpList_row M8.out Tryz.underlying39 rfl (by kernel_rfl) rfl rfl rfl rfl ?_)
 have hst := at_setRow (cs := m.cells) R8.out
 have hgs := gb_setRow (cs := m.cells) G8.out LB.out
 generalize y9.setRow r8 m.cells = wx at hst hgs ⊢
 obtain ⟨d0, d1, d2, d3, d4, d5, d6⟩ := msg_cells hst
 exact bodyPost_ret (v := .tuple #[mg m, .int .i64 0]) (by simp [results, Tryz.results19, go_sem, d0, d1, d2, d3, d4, d5, d6]; try rfl) rfl ⟨rfl, hgs⟩
end Go.Proofs.YtgpdcapnnejdeaaGreat
