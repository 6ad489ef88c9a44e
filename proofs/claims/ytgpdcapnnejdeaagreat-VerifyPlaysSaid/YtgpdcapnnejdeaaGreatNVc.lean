/-
  Contract: what a gate's check tells, a walk for each answer, out of the contracts of what it calls. The condition: the gate lies there, the bytes read as bytes.
-/
import Derived.Test.YtgpdcapnnejdeaaGreatJ0
import Derived.Test.YtgpdcapnnejdeaaGreatY18
import Derived.Test.YtgpdcapnnejdeaaGreatY5
import Derived.Test.YtgpdcapnnejdeaaGreatNSlP
set_option linter.unusedSimpArgs false
set_option linter.unusedVariables false
namespace Go.Proofs.YtgpdcapnnejdeaaGreat
set_option maxRecDepth 100000
open Go.RowKit

theorem Kg.more {w0 w w1 : World} {F : List Nat} {B : GBl} {G : Gt} {bs : List (Nat × Obj)} {ys : List (Value × List UInt8)} {v : Value} {l : List UInt8} {base : Nat} (h : Kg w0 F B G bs ys w) (ho : OwnB base w1 v l) (hg : w.grownBy w1 none) : Kg w0 F B G bs ((v, l) :: ys) w1 := (h.grown hg).addY ho.bytes
set_option maxHeartbeats 6400000 in
theorem gcheck_bytes {F : List Nat} {B : GBl} {G : Gt} (v O : Value) (l x : List UInt8) (m : Mg) (ta tb : BitVec 64) (o : Int → Bool) (now : Int) (w : World) (K : GtAt w F B G) (hl : BytesAt w v l) (CS : ∀ u, BytesAt u v l → Calls Tryz.prog 53 #[v] u fun e w' => ∃ s, e = .returned (.tuple #[mg m, s, pair ta tb, .int .i64 2]) ∧ OwnB u.heap.size w' s x ∧ u.grownBy w' none) :
  Calls Tryz.prog 18 #[.pointer (some ⟨B.g, 0, none⟩), v, .int .i64 now, O] w fun e w' => e = .returned (.tuple #[mg zeroM, .int .i64 2]) ∧ w.grownBy w' none := by
 replace CS := hid CS
 have K0 := hid ((kg_start K).addY hl |>.alloc (msgObj zeroM))
 have lb := Nat.le_refl w.heap.size
 clear hl K
 go_enter Tryz.func18, Tryz.ntmps18
 go_upto_region 1 with fail
 refine wp_gen (fun wx => Kg w F B G [(w.heap.size, msgObj zeroM)] [(v, l)] wx) K0.out ?_
 clear K0
 generalize hr8 : w.heap.size = r8 at lb ⊢
 have LB := hid (show w.heap.size ≤ r8 from Nat.le_of_eq hr8)
 clear lb
 intro w0 h0
 have K0 := hid h0; clear h0
 go_upto_region 3 with fail
 go_wp2_with fail
 refine (CS.out _ K0.out.kp.y0).mono ?_
 rintro e w1 ⟨u, rfl, ho, hg⟩
 have hlt := hid (Nat.lt_of_lt_of_le (at_lt K0.out.kp.b0) hg.size)
 have k1 := ((K0.out.more ho hg).alloc (msgObj m)).alloc (tagObj ta tb)
 rw [size_alloc] at k1
 have K1 := hid k1; clear k1 ho hg K0 CS
 go_upto_region 4 with fail
 refine wp_gen (fun wx => Kg w F B G [(w1.heap.size + 1, tagObj ta tb), (w1.heap.size, msgObj m), (r8, msgObj zeroM)] [(u, x), (v, l)] wx) K1.out ?_
 clear K1
 have N1 : Hid (r8 ≠ w1.heap.size ∧ r8 ≠ w1.heap.size + 1) := hid ⟨by have := hlt.out; omega, by have := hlt.out; omega⟩
 clear hlt
 generalize w1.heap.size + 1 = tb1 at N1 ⊢
 generalize w1.heap.size = mb at N1 ⊢
 intro w2 h2
 have K2 := hid h2; clear h2
 have R8 := hid K2.out.kp.b2; have M8 := hid K2.out.kp.b1; have G8 := hid K2.out.kp.g; clear K2
 go_wp2_with (first | refine wpList_store_row (cs := zeroM.cells) R8.out (by kernel_rfl) (by kernel_rfl) (by kernel_rfl) rfl rfl rfl rfl rfl ?_ | refine wpList_buildTo (ty := 39) (cs := zeroM.cells) rfl rfl rfl (by kernel_rfl) ?_)
 have hst := at_setRow (cs := zeroM.cells) R8.out
 have hgs := gb_setRow (cs := zeroM.cells) G8.out LB.out
 generalize w2.setRow r8 zeroM.cells = wx at hst hgs ⊢
 obtain ⟨d0, d1, d2, d3, d4, d5, d6⟩ := msg_cells hst
 exact bodyPost_ret (v := .tuple #[mg zeroM, .int .i64 2]) (by simp [results, Tryz.results18, go_sem, d0, d1, d2, d3, d4, d5, d6]; try rfl) rfl ⟨rfl, hgs⟩
set_option maxHeartbeats 6400000 in
theorem gcheck_who {F : List Nat} {B : GBl} {G : Gt} (v O : Value) (l x : List UInt8) (m : Mg) (ta tb : BitVec 64) (o : Int → Bool) (now : Int) (w : World) (K : GtAt w F B G) (hl : BytesAt w v l) (CS : ∀ u, BytesAt u v l → Calls Tryz.prog 53 #[v] u fun e w' => ∃ s, e = .returned (.tuple #[mg m, s, pair ta tb, .int .i64 0]) ∧ OwnB u.heap.size w' s x ∧ u.grownBy w' none) (CF : ∀ u, GtAt u F B G → Calls Tryz.prog 54 #[.pointer (some ⟨B.g, 0, none⟩), .int .i64 m.who] u fun e w' => e = .returned (.pointer none) ∧ u = w') :
  Calls Tryz.prog 18 #[.pointer (some ⟨B.g, 0, none⟩), v, .int .i64 now, O] w fun e w' => e = .returned (.tuple #[mg zeroM, .int .i64 3]) ∧ w.grownBy w' none := by
 replace CS := hid CS
 replace CF := hid CF
 have K0 := hid ((kg_start K).addY hl |>.alloc (msgObj zeroM))
 have lb := Nat.le_refl w.heap.size
 clear hl K
 go_enter Tryz.func18, Tryz.ntmps18
 go_upto_region 1 with fail
 refine wp_gen (fun wx => Kg w F B G [(w.heap.size, msgObj zeroM)] [(v, l)] wx) K0.out ?_
 clear K0
 generalize hr8 : w.heap.size = r8 at lb ⊢
 have LB := hid (show w.heap.size ≤ r8 from Nat.le_of_eq hr8)
 clear lb
 intro w0 h0
 have K0 := hid h0; clear h0
 go_upto_region 3 with fail
 go_wp2_with fail
 refine (CS.out _ K0.out.kp.y0).mono ?_
 rintro e w1 ⟨u, rfl, ho, hg⟩
 have hlt := hid (Nat.lt_of_lt_of_le (at_lt K0.out.kp.b0) hg.size)
 have k1 := ((K0.out.more ho hg).alloc (msgObj m)).alloc (tagObj ta tb)
 rw [size_alloc] at k1
 have K1 := hid k1; clear k1 ho hg K0 CS
 go_upto_region 4 with fail
 refine wp_gen (fun wx => Kg w F B G [(w1.heap.size + 1, tagObj ta tb), (w1.heap.size, msgObj m), (r8, msgObj zeroM)] [(u, x), (v, l)] wx) K1.out ?_
 clear K1
 have N1 : Hid (r8 ≠ w1.heap.size ∧ r8 ≠ w1.heap.size + 1) := hid ⟨by have := hlt.out; omega, by have := hlt.out; omega⟩
 clear hlt
 generalize w1.heap.size + 1 = tb1 at N1 ⊢
 generalize w1.heap.size = mb at N1 ⊢
 intro w2 h2
 have K2 := hid h2; clear h2
 obtain ⟨d0, d1, d2, d3, d4, d5, d6⟩ := msg_cells K2.out.kp.b1
 go_wp2_with fail
 refine (CF.out _ K2.out.gt).mono ?_
 rintro e w3 ⟨rfl, hw⟩
 subst hw
 clear CF
 clear d0 d1 d2 d3 d4 d5 d6
 have R8 := hid K2.out.kp.b2; have M8 := hid K2.out.kp.b1; have G8 := hid K2.out.kp.g; clear K2
 go_wp2_with (first | refine wpList_store_row (cs := zeroM.cells) R8.out (by kernel_rfl) (by kernel_rfl) (by kernel_rfl) rfl rfl rfl rfl rfl ?_ | refine wpList_buildTo (ty := 39) (cs := zeroM.cells) rfl rfl rfl (by kernel_rfl) ?_)
 have hst := at_setRow (cs := zeroM.cells) R8.out
 have hgs := gb_setRow (cs := zeroM.cells) G8.out LB.out
 generalize w2.setRow r8 zeroM.cells = wx at hst hgs ⊢
 obtain ⟨d0, d1, d2, d3, d4, d5, d6⟩ := msg_cells hst
 exact bodyPost_ret (v := .tuple #[mg zeroM, .int .i64 3]) (by simp [results, Tryz.results18, go_sem, d0, d1, d2, d3, d4, d5, d6]; try rfl) rfl ⟨rfl, hgs⟩
set_option maxHeartbeats 6400000 in
theorem gcheck_out {F : List Nat} {B : GBl} {G : Gt} (v O : Value) (l x : List UInt8) (m : Mg) (ta tb : BitVec 64) (o : Int → Bool) (now : Int) (w : World) (K : GtAt w F B G) (hl : BytesAt w v l) (CS : ∀ u, BytesAt u v l → Calls Tryz.prog 53 #[v] u fun e w' => ∃ s, e = .returned (.tuple #[mg m, s, pair ta tb, .int .i64 0]) ∧ OwnB u.heap.size w' s x ∧ u.grownBy w' none) (pf : Addr) (CF : ∀ u, GtAt u F B G → Calls Tryz.prog 54 #[.pointer (some ⟨B.g, 0, none⟩), .int .i64 m.who] u fun e w' => e = .returned (.pointer (some pf)) ∧ u = w') (CO : ∀ u, Calls Tryz.prog 55 #[O, .int .i64 m.who] u fun e w' => e = .returned (.bool true) ∧ u.grownBy w' none) :
  Calls Tryz.prog 18 #[.pointer (some ⟨B.g, 0, none⟩), v, .int .i64 now, O] w fun e w' => e = .returned (.tuple #[mg zeroM, .int .i64 3]) ∧ w.grownBy w' none := by
 replace CS := hid CS
 replace CF := hid CF
 replace CO := hid CO
 have K0 := hid ((kg_start K).addY hl |>.alloc (msgObj zeroM))
 have lb := Nat.le_refl w.heap.size
 clear hl K
 go_enter Tryz.func18, Tryz.ntmps18
 go_upto_region 1 with fail
 refine wp_gen (fun wx => Kg w F B G [(w.heap.size, msgObj zeroM)] [(v, l)] wx) K0.out ?_
 clear K0
 generalize hr8 : w.heap.size = r8 at lb ⊢
 have LB := hid (show w.heap.size ≤ r8 from Nat.le_of_eq hr8)
 clear lb
 intro w0 h0
 have K0 := hid h0; clear h0
 go_upto_region 3 with fail
 go_wp2_with fail
 refine (CS.out _ K0.out.kp.y0).mono ?_
 rintro e w1 ⟨u, rfl, ho, hg⟩
 have hlt := hid (Nat.lt_of_lt_of_le (at_lt K0.out.kp.b0) hg.size)
 have k1 := ((K0.out.more ho hg).alloc (msgObj m)).alloc (tagObj ta tb)
 rw [size_alloc] at k1
 have K1 := hid k1; clear k1 ho hg K0 CS
 go_upto_region 4 with fail
 refine wp_gen (fun wx => Kg w F B G [(w1.heap.size + 1, tagObj ta tb), (w1.heap.size, msgObj m), (r8, msgObj zeroM)] [(u, x), (v, l)] wx) K1.out ?_
 clear K1
 have N1 : Hid (r8 ≠ w1.heap.size ∧ r8 ≠ w1.heap.size + 1) := hid ⟨by have := hlt.out; omega, by have := hlt.out; omega⟩
 clear hlt
 generalize w1.heap.size + 1 = tb1 at N1 ⊢
 generalize w1.heap.size = mb at N1 ⊢
 intro w2 h2
 have K2 := hid h2; clear h2
 obtain ⟨d0, d1, d2, d3, d4, d5, d6⟩ := msg_cells K2.out.kp.b1
 go_wp2_with fail
 refine (CF.out _ K2.out.gt).mono ?_
 rintro e w3 ⟨rfl, hw⟩
 subst hw
 clear CF
 go_wp2_with fail
 refine (CO.out _).mono ?_
 rintro e w3 ⟨rfl, hg⟩
 clear d0 d1 d2 d3 d4 d5 d6
 have K3 := hid (K2.out.grown hg); clear hg K2 CO
 have R8 := hid K3.out.kp.b2; have M8 := hid K3.out.kp.b1; have G8 := hid K3.out.kp.g; clear K3
 go_wp2_with (first | refine wpList_store_row (cs := zeroM.cells) R8.out (by kernel_rfl) (by kernel_rfl) (by kernel_rfl) rfl rfl rfl rfl rfl ?_ | refine wpList_buildTo (ty := 39) (cs := zeroM.cells) rfl rfl rfl (by kernel_rfl) ?_)
 have hst := at_setRow (cs := zeroM.cells) R8.out
 have hgs := gb_setRow (cs := zeroM.cells) G8.out LB.out
 generalize w3.setRow r8 zeroM.cells = wx at hst hgs ⊢
 obtain ⟨d0, d1, d2, d3, d4, d5, d6⟩ := msg_cells hst
 exact bodyPost_ret (v := .tuple #[mg zeroM, .int .i64 3]) (by simp [results, Tryz.results18, go_sem, d0, d1, d2, d3, d4, d5, d6]; try rfl) rfl ⟨rfl, hgs⟩
set_option maxHeartbeats 6400000 in
theorem gcheck_gen {F : List Nat} {B : GBl} {G : Gt} (v O : Value) (l x : List UInt8) (m : Mg) (ta tb : BitVec 64) (o : Int → Bool) (now : Int) (w : World) (K : GtAt w F B G) (hl : BytesAt w v l) (CS : ∀ u, BytesAt u v l → Calls Tryz.prog 53 #[v] u fun e w' => ∃ s, e = .returned (.tuple #[mg m, s, pair ta tb, .int .i64 0]) ∧ OwnB u.heap.size w' s x ∧ u.grownBy w' none) (pf : Addr) (CF : ∀ u, GtAt u F B G → Calls Tryz.prog 54 #[.pointer (some ⟨B.g, 0, none⟩), .int .i64 m.who] u fun e w' => e = .returned (.pointer (some pf)) ∧ u = w') (CO : ∀ u, Calls Tryz.prog 55 #[O, .int .i64 m.who] u fun e w' => e = .returned (.bool false) ∧ u.grownBy w' none) (CK : ∀ u, GtAt u F B G → Calls Tryz.prog 56 #[.pointer (some ⟨B.g, 0, none⟩), mg m, .int .i64 now] u fun e w' => e = .returned (.tuple #[pair 0 0, .pointer none, .int .i64 4]) ∧ u.grownBy w' none) :
  Calls Tryz.prog 18 #[.pointer (some ⟨B.g, 0, none⟩), v, .int .i64 now, O] w fun e w' => e = .returned (.tuple #[mg zeroM, .int .i64 4]) ∧ w.grownBy w' none := by
 replace CS := hid CS
 replace CF := hid CF
 replace CO := hid CO
 replace CK := hid CK
 have K0 := hid ((kg_start K).addY hl |>.alloc (msgObj zeroM))
 have lb := Nat.le_refl w.heap.size
 clear hl K
 go_enter Tryz.func18, Tryz.ntmps18
 go_upto_region 1 with fail
 refine wp_gen (fun wx => Kg w F B G [(w.heap.size, msgObj zeroM)] [(v, l)] wx) K0.out ?_
 clear K0
 generalize hr8 : w.heap.size = r8 at lb ⊢
 have LB := hid (show w.heap.size ≤ r8 from Nat.le_of_eq hr8)
 clear lb
 intro w0 h0
 have K0 := hid h0; clear h0
 go_upto_region 3 with fail
 go_wp2_with fail
 refine (CS.out _ K0.out.kp.y0).mono ?_
 rintro e w1 ⟨u, rfl, ho, hg⟩
 have hlt := hid (Nat.lt_of_lt_of_le (at_lt K0.out.kp.b0) hg.size)
 have k1 := ((K0.out.more ho hg).alloc (msgObj m)).alloc (tagObj ta tb)
 rw [size_alloc] at k1
 have K1 := hid k1; clear k1 ho hg K0 CS
 go_upto_region 4 with fail
 refine wp_gen (fun wx => Kg w F B G [(w1.heap.size + 1, tagObj ta tb), (w1.heap.size, msgObj m), (r8, msgObj zeroM)] [(u, x), (v, l)] wx) K1.out ?_
 clear K1
 have N1 : Hid (r8 ≠ w1.heap.size ∧ r8 ≠ w1.heap.size + 1) := hid ⟨by have := hlt.out; omega, by have := hlt.out; omega⟩
 clear hlt
 generalize w1.heap.size + 1 = tb1 at N1 ⊢
 generalize w1.heap.size = mb at N1 ⊢
 intro w2 h2
 have K2 := hid h2; clear h2
 obtain ⟨d0, d1, d2, d3, d4, d5, d6⟩ := msg_cells K2.out.kp.b1
 go_wp2_with fail
 refine (CF.out _ K2.out.gt).mono ?_
 rintro e w3 ⟨rfl, hw⟩
 subst hw
 clear CF
 go_wp2_with fail
 refine (CO.out _).mono ?_
 rintro e w3 ⟨rfl, hg⟩
 clear d0 d1 d2 d3 d4 d5 d6
 have K3 := hid (K2.out.grown hg); clear hg K2 CO
 have M3 := hid K3.out.kp.b1
 go_wp2_with (refine wpList_row M3.out Tryz.underlying39 rfl (by kernel_rfl) rfl rfl rfl rfl ?_)
 clear M3
 refine (CK.out _ K3.out.gt).mono ?_
 rintro e w4 ⟨rfl, hg⟩
 have N2 : Hid (r8 ≠ w4.heap.size) := hid (by have := at_lt K3.out.kp.b2; have := hg.size; omega)
 have K4 := hid ((K3.out.grown hg).alloc (keyObj 0#64 0#64)); clear hg K3 CK
 go_upto_region 9 with fail
 refine wp_gen (fun wx => Kg w F B G ((w4.heap.size, keyObj 0#64 0#64) :: [(tb1, tagObj ta tb), (mb, msgObj m), (r8, msgObj zeroM)]) [(u, x), (v, l)] wx) K4.out ?_
 clear K4
 generalize w4.heap.size = kb2 at N2 ⊢
 intro w5 h5
 have K5 := hid h5; clear h5
 have R8 := hid K5.out.kp.b3; have M8 := hid K5.out.kp.b2; have G8 := hid K5.out.kp.g; clear K5
 go_wp2_with (first | refine wpList_store_row (cs := zeroM.cells) R8.out (by kernel_rfl) (by kernel_rfl) (by kernel_rfl) rfl rfl rfl rfl rfl ?_ | refine wpList_buildTo (ty := 39) (cs := zeroM.cells) rfl rfl rfl (by kernel_rfl) ?_)
 have hst := at_setRow (cs := zeroM.cells) R8.out
 have hgs := gb_setRow (cs := zeroM.cells) G8.out LB.out
 generalize w5.setRow r8 zeroM.cells = wx at hst hgs ⊢
 obtain ⟨d0, d1, d2, d3, d4, d5, d6⟩ := msg_cells hst
 exact bodyPost_ret (v := .tuple #[mg zeroM, .int .i64 4]) (by simp [results, Tryz.results18, go_sem, d0, d1, d2, d3, d4, d5, d6]; try rfl) rfl ⟨rfl, hgs⟩
set_option maxHeartbeats 6400000 in
theorem gcheck_auth {F : List Nat} {B : GBl} {G : Gt} (v O : Value) (l x : List UInt8) (m : Mg) (ta tb : BitVec 64) (o : Int → Bool) (now : Int) (w : World) (K : GtAt w F B G) (hl : BytesAt w v l) (CS : ∀ u, BytesAt u v l → Calls Tryz.prog 53 #[v] u fun e w' => ∃ s, e = .returned (.tuple #[mg m, s, pair ta tb, .int .i64 0]) ∧ OwnB u.heap.size w' s x ∧ u.grownBy w' none) (pf : Addr) (CF : ∀ u, GtAt u F B G → Calls Tryz.prog 54 #[.pointer (some ⟨B.g, 0, none⟩), .int .i64 m.who] u fun e w' => e = .returned (.pointer (some pf)) ∧ u = w') (CO : ∀ u, Calls Tryz.prog 55 #[O, .int .i64 m.who] u fun e w' => e = .returned (.bool false) ∧ u.grownBy w' none) (ka kb : BitVec 64) (rp : Nat) (CK : ∀ u, GtAt u F B G → Calls Tryz.prog 56 #[.pointer (some ⟨B.g, 0, none⟩), mg m, .int .i64 now] u fun e w' => e = .returned (.tuple #[pair ka kb, .pointer (some ⟨rp, 0, none⟩), .int .i64 0]) ∧ u.grownBy w' none) (sa sb : BitVec 64) (CT : ∀ u s, BytesAt u s x → Calls Tryz.prog 37 #[pair ka kb, s] u fun e w' => e = .returned (pair sa sb) ∧ u.grownBy w' none) (CE : ∀ u, Calls Tryz.prog 36 #[pair ta tb, pair sa sb] u fun e w' => e = .returned (.bool false) ∧ u.grownBy w' none) :
  Calls Tryz.prog 18 #[.pointer (some ⟨B.g, 0, none⟩), v, .int .i64 now, O] w fun e w' => e = .returned (.tuple #[mg zeroM, .int .i64 5]) ∧ w.grownBy w' none := by
 replace CS := hid CS
 replace CF := hid CF
 replace CO := hid CO
 replace CK := hid CK
 replace CT := hid CT
 replace CE := hid CE
 have K0 := hid ((kg_start K).addY hl |>.alloc (msgObj zeroM))
 have lb := Nat.le_refl w.heap.size
 clear hl K
 go_enter Tryz.func18, Tryz.ntmps18
 go_upto_region 1 with fail
 refine wp_gen (fun wx => Kg w F B G [(w.heap.size, msgObj zeroM)] [(v, l)] wx) K0.out ?_
 clear K0
 generalize hr8 : w.heap.size = r8 at lb ⊢
 have LB := hid (show w.heap.size ≤ r8 from Nat.le_of_eq hr8)
 clear lb
 intro w0 h0
 have K0 := hid h0; clear h0
 go_upto_region 3 with fail
 go_wp2_with fail
 refine (CS.out _ K0.out.kp.y0).mono ?_
 rintro e w1 ⟨u, rfl, ho, hg⟩
 have hlt := hid (Nat.lt_of_lt_of_le (at_lt K0.out.kp.b0) hg.size)
 have k1 := ((K0.out.more ho hg).alloc (msgObj m)).alloc (tagObj ta tb)
 rw [size_alloc] at k1
 have K1 := hid k1; clear k1 ho hg K0 CS
 go_upto_region 4 with fail
 refine wp_gen (fun wx => Kg w F B G [(w1.heap.size + 1, tagObj ta tb), (w1.heap.size, msgObj m), (r8, msgObj zeroM)] [(u, x), (v, l)] wx) K1.out ?_
 clear K1
 have N1 : Hid (r8 ≠ w1.heap.size ∧ r8 ≠ w1.heap.size + 1) := hid ⟨by have := hlt.out; omega, by have := hlt.out; omega⟩
 clear hlt
 generalize w1.heap.size + 1 = tb1 at N1 ⊢
 generalize w1.heap.size = mb at N1 ⊢
 intro w2 h2
 have K2 := hid h2; clear h2
 obtain ⟨d0, d1, d2, d3, d4, d5, d6⟩ := msg_cells K2.out.kp.b1
 go_wp2_with fail
 refine (CF.out _ K2.out.gt).mono ?_
 rintro e w3 ⟨rfl, hw⟩
 subst hw
 clear CF
 go_wp2_with fail
 refine (CO.out _).mono ?_
 rintro e w3 ⟨rfl, hg⟩
 clear d0 d1 d2 d3 d4 d5 d6
 have K3 := hid (K2.out.grown hg); clear hg K2 CO
 have M3 := hid K3.out.kp.b1
 go_wp2_with (refine wpList_row M3.out Tryz.underlying39 rfl (by kernel_rfl) rfl rfl rfl rfl ?_)
 clear M3
 refine (CK.out _ K3.out.gt).mono ?_
 rintro e w4 ⟨rfl, hg⟩
 have N2 : Hid (r8 ≠ w4.heap.size) := hid (by have := at_lt K3.out.kp.b2; have := hg.size; omega)
 have K4 := hid ((K3.out.grown hg).alloc (keyObj ka kb)); clear hg K3 CK
 go_upto_region 9 with fail
 refine wp_gen (fun wx => Kg w F B G ((w4.heap.size, keyObj ka kb) :: [(tb1, tagObj ta tb), (mb, msgObj m), (r8, msgObj zeroM)]) [(u, x), (v, l)] wx) K4.out ?_
 clear K4
 generalize w4.heap.size = kb2 at N2 ⊢
 intro w5 h5
 have K5 := hid h5; clear h5
 go_wp2_with fail
 refine wp_region_held_drew (S := (fun w' => (Kg w F B G [(kb2, keyObj ka kb), (tb1, tagObj ta tb), (mb, msgObj m), (r8, msgObj zeroM)] [(u, x), (v, l)] w'))) (by kernel_rfl) K5.out.drew (fun hHeld => ?_)
 try dsimp only at hHeld
 refine' jT 0 rfl (by rfl) ?_ hHeld ?_
 rotate_left
 ·(intro w hSw; (try dsimp only at hSw); (try simp only [jD, jE, jF]); refine exec_row (x := .tmp 12) hSw.kp.b1 Tryz.underlying83 rfl (by kernel_rfl) ?_ ?_ <;> rfl)
 try simp only [jX, jD, jE, jF]
 refine' jT 1 rfl (by rfl) ?_ hHeld ?_
 rotate_left
 ·(intro w hSw; (try dsimp only at hSw); (try simp only [jD, jE, jF]); refine exec_row (x := .tmp 14) hSw.kp.b0 Tryz.underlying49 rfl (by kernel_rfl) ?_ ?_ <;> rfl)
 try simp only [jX, jD, jE, jF]
 refine jU 2 hHeld ?_
 try simp only [jX, jD, jE, jF]
 refine jR [3] ?_
 refine jG rfl (fun K hK => ?_) AllReadyH.nil
 try simp only [jD, jE, jF]
 go_simp
 have hH2 := hHeld
 have kk := hH2
 refine (CT.out _ _ kk.kp.y0).mono ?_
 rintro e w1003 ⟨rfl, hg⟩
 have L3 := hid (show (Kg w F B G [(kb2, keyObj ka kb), (tb1, tagObj ta tb), (mb, msgObj m), (r8, msgObj zeroM)] [(u, x), (v, l)] w1003) from kk.grown hg)
 clear hHeld hg kk
 go_wp2_with fail
 refine hK.out _ _ ?_ (fun hHeld => ?_)
 ·exact L3.out
 clear hK K
 try dsimp only at hHeld
 try simp only [jX, jD, jE, jF]
 refine jR [4] ?_
 refine jG rfl (fun K hK => ?_) AllReadyH.nil
 try simp only [jD, jE, jF]
 go_simp
 have hH2 := hHeld
 have kk := hH2
 refine (CE.out _).mono ?_
 rintro e w1004 ⟨rfl, hg⟩
 have L4 := hid (show (Kg w F B G [(kb2, keyObj ka kb), (tb1, tagObj ta tb), (mb, msgObj m), (r8, msgObj zeroM)] [(u, x), (v, l)] w1004) from kk.grown hg)
 clear hHeld hg kk
 go_wp2_with fail
 refine hK.out _ _ ?_ (fun hHeld => ?_)
 ·exact L4.out
 clear hK K
 try dsimp only at hHeld
 try simp only [jX, jD, jE, jF]
 refine jU 5 hHeld ?_
 try simp only [jX, jD, jE, jF]
 refine wpAnyH_done (by kernel_rfl) ?_ _
 have kk := hHeld
 refine exit_gen (fun wx => Kg w F B G [(kb2, keyObj ka kb), (tb1, tagObj ta tb), (mb, msgObj m), (r8, msgObj zeroM)] [(u, x), (v, l)] wx) kk ?_
 clear kk
 intro w6 h6
 have K6 := hid h6; clear h6 CT CE
 have R8 := hid K6.out.kp.b3; have M8 := hid K6.out.kp.b2; have G8 := hid K6.out.kp.g; clear K6
 go_wp2_with (first | refine wpList_store_row (cs := zeroM.cells) R8.out (by kernel_rfl) (by kernel_rfl) (by kernel_rfl) rfl rfl rfl rfl rfl ?_ | refine wpList_buildTo (ty := 39) (cs := zeroM.cells) rfl rfl rfl (by kernel_rfl) ?_)
 have hst := at_setRow (cs := zeroM.cells) R8.out
 have hgs := gb_setRow (cs := zeroM.cells) G8.out LB.out
 generalize w6.setRow r8 zeroM.cells = wx at hst hgs ⊢
 obtain ⟨d0, d1, d2, d3, d4, d5, d6⟩ := msg_cells hst
 exact bodyPost_ret (v := .tuple #[mg zeroM, .int .i64 5]) (by simp [results, Tryz.results18, go_sem, d0, d1, d2, d3, d4, d5, d6]; try rfl) rfl ⟨rfl, hgs⟩
set_option maxHeartbeats 6400000 in
theorem gcheck_replay {F : List Nat} {B : GBl} {G : Gt} (v O : Value) (l x : List UInt8) (m : Mg) (ta tb : BitVec 64) (o : Int → Bool) (now : Int) (w : World) (K : GtAt w F B G) (hl : BytesAt w v l) (CS : ∀ u, BytesAt u v l → Calls Tryz.prog 53 #[v] u fun e w' => ∃ s, e = .returned (.tuple #[mg m, s, pair ta tb, .int .i64 0]) ∧ OwnB u.heap.size w' s x ∧ u.grownBy w' none) (pf : Addr) (CF : ∀ u, GtAt u F B G → Calls Tryz.prog 54 #[.pointer (some ⟨B.g, 0, none⟩), .int .i64 m.who] u fun e w' => e = .returned (.pointer (some pf)) ∧ u = w') (CO : ∀ u, Calls Tryz.prog 55 #[O, .int .i64 m.who] u fun e w' => e = .returned (.bool false) ∧ u.grownBy w' none) (ka kb : BitVec 64) (rp : Nat) (CK : ∀ u, GtAt u F B G → Calls Tryz.prog 56 #[.pointer (some ⟨B.g, 0, none⟩), mg m, .int .i64 now] u fun e w' => e = .returned (.tuple #[pair ka kb, .pointer (some ⟨rp, 0, none⟩), .int .i64 0]) ∧ u.grownBy w' none) (sa sb : BitVec 64) (CT : ∀ u s, BytesAt u s x → Calls Tryz.prog 37 #[pair ka kb, s] u fun e w' => e = .returned (pair sa sb) ∧ u.grownBy w' none) (CE : ∀ u, Calls Tryz.prog 36 #[pair ta tb, pair sa sb] u fun e w' => e = .returned (.bool true) ∧ u.grownBy w' none) (CR : ∀ u, GtAt u F B G → Calls Tryz.prog 57 #[.pointer (some ⟨rp, 0, none⟩), .int .i64 m.seq] u fun e w' => e = .returned (.bool false) ∧ u = w') :
  Calls Tryz.prog 18 #[.pointer (some ⟨B.g, 0, none⟩), v, .int .i64 now, O] w fun e w' => e = .returned (.tuple #[mg zeroM, .int .i64 6]) ∧ w.grownBy w' none := by
 replace CS := hid CS
 replace CF := hid CF
 replace CO := hid CO
 replace CK := hid CK
 replace CT := hid CT
 replace CE := hid CE
 replace CR := hid CR
 have K0 := hid ((kg_start K).addY hl |>.alloc (msgObj zeroM))
 have lb := Nat.le_refl w.heap.size
 clear hl K
 go_enter Tryz.func18, Tryz.ntmps18
 go_upto_region 1 with fail
 refine wp_gen (fun wx => Kg w F B G [(w.heap.size, msgObj zeroM)] [(v, l)] wx) K0.out ?_
 clear K0
 generalize hr8 : w.heap.size = r8 at lb ⊢
 have LB := hid (show w.heap.size ≤ r8 from Nat.le_of_eq hr8)
 clear lb
 intro w0 h0
 have K0 := hid h0; clear h0
 go_upto_region 3 with fail
 go_wp2_with fail
 refine (CS.out _ K0.out.kp.y0).mono ?_
 rintro e w1 ⟨u, rfl, ho, hg⟩
 have hlt := hid (Nat.lt_of_lt_of_le (at_lt K0.out.kp.b0) hg.size)
 have k1 := ((K0.out.more ho hg).alloc (msgObj m)).alloc (tagObj ta tb)
 rw [size_alloc] at k1
 have K1 := hid k1; clear k1 ho hg K0 CS
 go_upto_region 4 with fail
 refine wp_gen (fun wx => Kg w F B G [(w1.heap.size + 1, tagObj ta tb), (w1.heap.size, msgObj m), (r8, msgObj zeroM)] [(u, x), (v, l)] wx) K1.out ?_
 clear K1
 have N1 : Hid (r8 ≠ w1.heap.size ∧ r8 ≠ w1.heap.size + 1) := hid ⟨by have := hlt.out; omega, by have := hlt.out; omega⟩
 clear hlt
 generalize w1.heap.size + 1 = tb1 at N1 ⊢
 generalize w1.heap.size = mb at N1 ⊢
 intro w2 h2
 have K2 := hid h2; clear h2
 obtain ⟨d0, d1, d2, d3, d4, d5, d6⟩ := msg_cells K2.out.kp.b1
 go_wp2_with fail
 refine (CF.out _ K2.out.gt).mono ?_
 rintro e w3 ⟨rfl, hw⟩
 subst hw
 clear CF
 go_wp2_with fail
 refine (CO.out _).mono ?_
 rintro e w3 ⟨rfl, hg⟩
 clear d0 d1 d2 d3 d4 d5 d6
 have K3 := hid (K2.out.grown hg); clear hg K2 CO
 have M3 := hid K3.out.kp.b1
 go_wp2_with (refine wpList_row M3.out Tryz.underlying39 rfl (by kernel_rfl) rfl rfl rfl rfl ?_)
 clear M3
 refine (CK.out _ K3.out.gt).mono ?_
 rintro e w4 ⟨rfl, hg⟩
 have N2 : Hid (r8 ≠ w4.heap.size) := hid (by have := at_lt K3.out.kp.b2; have := hg.size; omega)
 have K4 := hid ((K3.out.grown hg).alloc (keyObj ka kb)); clear hg K3 CK
 go_upto_region 9 with fail
 refine wp_gen (fun wx => Kg w F B G ((w4.heap.size, keyObj ka kb) :: [(tb1, tagObj ta tb), (mb, msgObj m), (r8, msgObj zeroM)]) [(u, x), (v, l)] wx) K4.out ?_
 clear K4
 generalize w4.heap.size = kb2 at N2 ⊢
 intro w5 h5
 have K5 := hid h5; clear h5
 go_wp2_with fail
 refine wp_region_held_drew (S := (fun w' => (Kg w F B G [(kb2, keyObj ka kb), (tb1, tagObj ta tb), (mb, msgObj m), (r8, msgObj zeroM)] [(u, x), (v, l)] w'))) (by kernel_rfl) K5.out.drew (fun hHeld => ?_)
 try dsimp only at hHeld
 refine' jT 0 rfl (by rfl) ?_ hHeld ?_
 rotate_left
 ·(intro w hSw; (try dsimp only at hSw); (try simp only [jD, jE, jF]); refine exec_row (x := .tmp 12) hSw.kp.b1 Tryz.underlying83 rfl (by kernel_rfl) ?_ ?_ <;> rfl)
 try simp only [jX, jD, jE, jF]
 refine' jT 1 rfl (by rfl) ?_ hHeld ?_
 rotate_left
 ·(intro w hSw; (try dsimp only at hSw); (try simp only [jD, jE, jF]); refine exec_row (x := .tmp 14) hSw.kp.b0 Tryz.underlying49 rfl (by kernel_rfl) ?_ ?_ <;> rfl)
 try simp only [jX, jD, jE, jF]
 refine jU 2 hHeld ?_
 try simp only [jX, jD, jE, jF]
 refine jR [3] ?_
 refine jG rfl (fun K hK => ?_) AllReadyH.nil
 try simp only [jD, jE, jF]
 go_simp
 have hH2 := hHeld
 have kk := hH2
 refine (CT.out _ _ kk.kp.y0).mono ?_
 rintro e w1003 ⟨rfl, hg⟩
 have L3 := hid (show (Kg w F B G [(kb2, keyObj ka kb), (tb1, tagObj ta tb), (mb, msgObj m), (r8, msgObj zeroM)] [(u, x), (v, l)] w1003) from kk.grown hg)
 clear hHeld hg kk
 go_wp2_with fail
 refine hK.out _ _ ?_ (fun hHeld => ?_)
 ·exact L3.out
 clear hK K
 try dsimp only at hHeld
 try simp only [jX, jD, jE, jF]
 refine jR [4] ?_
 refine jG rfl (fun K hK => ?_) AllReadyH.nil
 try simp only [jD, jE, jF]
 go_simp
 have hH2 := hHeld
 have kk := hH2
 refine (CE.out _).mono ?_
 rintro e w1004 ⟨rfl, hg⟩
 have L4 := hid (show (Kg w F B G [(kb2, keyObj ka kb), (tb1, tagObj ta tb), (mb, msgObj m), (r8, msgObj zeroM)] [(u, x), (v, l)] w1004) from kk.grown hg)
 clear hHeld hg kk
 go_wp2_with fail
 refine hK.out _ _ ?_ (fun hHeld => ?_)
 ·exact L4.out
 clear hK K
 try dsimp only at hHeld
 try simp only [jX, jD, jE, jF]
 refine jU 5 hHeld ?_
 try simp only [jX, jD, jE, jF]
 refine wpAnyH_done (by kernel_rfl) ?_ _
 have kk := hHeld
 refine exit_gen (fun wx => Kg w F B G [(kb2, keyObj ka kb), (tb1, tagObj ta tb), (mb, msgObj m), (r8, msgObj zeroM)] [(u, x), (v, l)] wx) kk ?_
 clear kk
 intro w6 h6
 have K6 := hid h6; clear h6 CT CE
 obtain ⟨d0, d1, d2, d3, d4, d5, d6⟩ := msg_cells K6.out.kp.b2
 go_wp2_with fail
 refine (CR.out _ K6.out.gt).mono ?_
 rintro e w7 ⟨rfl, hw⟩
 subst hw
 clear CR
 clear d0 d1 d2 d3 d4 d5 d6
 have R8 := hid K6.out.kp.b3; have M8 := hid K6.out.kp.b2; have G8 := hid K6.out.kp.g; clear K6
 go_wp2_with (first | refine wpList_store_row (cs := zeroM.cells) R8.out (by kernel_rfl) (by kernel_rfl) (by kernel_rfl) rfl rfl rfl rfl rfl ?_ | refine wpList_buildTo (ty := 39) (cs := zeroM.cells) rfl rfl rfl (by kernel_rfl) ?_)
 have hst := at_setRow (cs := zeroM.cells) R8.out
 have hgs := gb_setRow (cs := zeroM.cells) G8.out LB.out
 generalize w6.setRow r8 zeroM.cells = wx at hst hgs ⊢
 obtain ⟨d0, d1, d2, d3, d4, d5, d6⟩ := msg_cells hst
 exact bodyPost_ret (v := .tuple #[mg zeroM, .int .i64 6]) (by simp [results, Tryz.results18, go_sem, d0, d1, d2, d3, d4, d5, d6]; try rfl) rfl ⟨rfl, hgs⟩
set_option maxHeartbeats 6400000 in
theorem gcheck_stale {F : List Nat} {B : GBl} {G : Gt} (v O : Value) (l x : List UInt8) (m : Mg) (ta tb : BitVec 64) (o : Int → Bool) (now : Int) (w : World) (K : GtAt w F B G) (hl : BytesAt w v l) (CS : ∀ u, BytesAt u v l → Calls Tryz.prog 53 #[v] u fun e w' => ∃ s, e = .returned (.tuple #[mg m, s, pair ta tb, .int .i64 0]) ∧ OwnB u.heap.size w' s x ∧ u.grownBy w' none) (pf : Addr) (CF : ∀ u, GtAt u F B G → Calls Tryz.prog 54 #[.pointer (some ⟨B.g, 0, none⟩), .int .i64 m.who] u fun e w' => e = .returned (.pointer (some pf)) ∧ u = w') (CO : ∀ u, Calls Tryz.prog 55 #[O, .int .i64 m.who] u fun e w' => e = .returned (.bool false) ∧ u.grownBy w' none) (ka kb : BitVec 64) (rp : Nat) (CK : ∀ u, GtAt u F B G → Calls Tryz.prog 56 #[.pointer (some ⟨B.g, 0, none⟩), mg m, .int .i64 now] u fun e w' => e = .returned (.tuple #[pair ka kb, .pointer (some ⟨rp, 0, none⟩), .int .i64 0]) ∧ u.grownBy w' none) (sa sb : BitVec 64) (CT : ∀ u s, BytesAt u s x → Calls Tryz.prog 37 #[pair ka kb, s] u fun e w' => e = .returned (pair sa sb) ∧ u.grownBy w' none) (CE : ∀ u, Calls Tryz.prog 36 #[pair ta tb, pair sa sb] u fun e w' => e = .returned (.bool true) ∧ u.grownBy w' none) (CR : ∀ u, GtAt u F B G → Calls Tryz.prog 57 #[.pointer (some ⟨rp, 0, none⟩), .int .i64 m.seq] u fun e w' => e = .returned (.bool true) ∧ u = w') (CI : ∀ u, GtAt u F B G → Calls Tryz.prog 58 #[.pointer (some ⟨B.g, 0, none⟩), .int .i64 m.epoch, .int .i64 now] u fun e w' => e = .returned (.bool false) ∧ u = w') :
  Calls Tryz.prog 18 #[.pointer (some ⟨B.g, 0, none⟩), v, .int .i64 now, O] w fun e w' => e = .returned (.tuple #[mg zeroM, .int .i64 7]) ∧ w.grownBy w' none := by
 replace CS := hid CS
 replace CF := hid CF
 replace CO := hid CO
 replace CK := hid CK
 replace CT := hid CT
 replace CE := hid CE
 replace CR := hid CR
 replace CI := hid CI
 have K0 := hid ((kg_start K).addY hl |>.alloc (msgObj zeroM))
 have lb := Nat.le_refl w.heap.size
 clear hl K
 go_enter Tryz.func18, Tryz.ntmps18
 go_upto_region 1 with fail
 refine wp_gen (fun wx => Kg w F B G [(w.heap.size, msgObj zeroM)] [(v, l)] wx) K0.out ?_
 clear K0
 generalize hr8 : w.heap.size = r8 at lb ⊢
 have LB := hid (show w.heap.size ≤ r8 from Nat.le_of_eq hr8)
 clear lb
 intro w0 h0
 have K0 := hid h0; clear h0
 go_upto_region 3 with fail
 go_wp2_with fail
 refine (CS.out _ K0.out.kp.y0).mono ?_
 rintro e w1 ⟨u, rfl, ho, hg⟩
 have hlt := hid (Nat.lt_of_lt_of_le (at_lt K0.out.kp.b0) hg.size)
 have k1 := ((K0.out.more ho hg).alloc (msgObj m)).alloc (tagObj ta tb)
 rw [size_alloc] at k1
 have K1 := hid k1; clear k1 ho hg K0 CS
 go_upto_region 4 with fail
 refine wp_gen (fun wx => Kg w F B G [(w1.heap.size + 1, tagObj ta tb), (w1.heap.size, msgObj m), (r8, msgObj zeroM)] [(u, x), (v, l)] wx) K1.out ?_
 clear K1
 have N1 : Hid (r8 ≠ w1.heap.size ∧ r8 ≠ w1.heap.size + 1) := hid ⟨by have := hlt.out; omega, by have := hlt.out; omega⟩
 clear hlt
 generalize w1.heap.size + 1 = tb1 at N1 ⊢
 generalize w1.heap.size = mb at N1 ⊢
 intro w2 h2
 have K2 := hid h2; clear h2
 obtain ⟨d0, d1, d2, d3, d4, d5, d6⟩ := msg_cells K2.out.kp.b1
 go_wp2_with fail
 refine (CF.out _ K2.out.gt).mono ?_
 rintro e w3 ⟨rfl, hw⟩
 subst hw
 clear CF
 go_wp2_with fail
 refine (CO.out _).mono ?_
 rintro e w3 ⟨rfl, hg⟩
 clear d0 d1 d2 d3 d4 d5 d6
 have K3 := hid (K2.out.grown hg); clear hg K2 CO
 have M3 := hid K3.out.kp.b1
 go_wp2_with (refine wpList_row M3.out Tryz.underlying39 rfl (by kernel_rfl) rfl rfl rfl rfl ?_)
 clear M3
 refine (CK.out _ K3.out.gt).mono ?_
 rintro e w4 ⟨rfl, hg⟩
 have N2 : Hid (r8 ≠ w4.heap.size) := hid (by have := at_lt K3.out.kp.b2; have := hg.size; omega)
 have K4 := hid ((K3.out.grown hg).alloc (keyObj ka kb)); clear hg K3 CK
 go_upto_region 9 with fail
 refine wp_gen (fun wx => Kg w F B G ((w4.heap.size, keyObj ka kb) :: [(tb1, tagObj ta tb), (mb, msgObj m), (r8, msgObj zeroM)]) [(u, x), (v, l)] wx) K4.out ?_
 clear K4
 generalize w4.heap.size = kb2 at N2 ⊢
 intro w5 h5
 have K5 := hid h5; clear h5
 go_wp2_with fail
 refine wp_region_held_drew (S := (fun w' => (Kg w F B G [(kb2, keyObj ka kb), (tb1, tagObj ta tb), (mb, msgObj m), (r8, msgObj zeroM)] [(u, x), (v, l)] w'))) (by kernel_rfl) K5.out.drew (fun hHeld => ?_)
 try dsimp only at hHeld
 refine' jT 0 rfl (by rfl) ?_ hHeld ?_
 rotate_left
 ·(intro w hSw; (try dsimp only at hSw); (try simp only [jD, jE, jF]); refine exec_row (x := .tmp 12) hSw.kp.b1 Tryz.underlying83 rfl (by kernel_rfl) ?_ ?_ <;> rfl)
 try simp only [jX, jD, jE, jF]
 refine' jT 1 rfl (by rfl) ?_ hHeld ?_
 rotate_left
 ·(intro w hSw; (try dsimp only at hSw); (try simp only [jD, jE, jF]); refine exec_row (x := .tmp 14) hSw.kp.b0 Tryz.underlying49 rfl (by kernel_rfl) ?_ ?_ <;> rfl)
 try simp only [jX, jD, jE, jF]
 refine jU 2 hHeld ?_
 try simp only [jX, jD, jE, jF]
 refine jR [3] ?_
 refine jG rfl (fun K hK => ?_) AllReadyH.nil
 try simp only [jD, jE, jF]
 go_simp
 have hH2 := hHeld
 have kk := hH2
 refine (CT.out _ _ kk.kp.y0).mono ?_
 rintro e w1003 ⟨rfl, hg⟩
 have L3 := hid (show (Kg w F B G [(kb2, keyObj ka kb), (tb1, tagObj ta tb), (mb, msgObj m), (r8, msgObj zeroM)] [(u, x), (v, l)] w1003) from kk.grown hg)
 clear hHeld hg kk
 go_wp2_with fail
 refine hK.out _ _ ?_ (fun hHeld => ?_)
 ·exact L3.out
 clear hK K
 try dsimp only at hHeld
 try simp only [jX, jD, jE, jF]
 refine jR [4] ?_
 refine jG rfl (fun K hK => ?_) AllReadyH.nil
 try simp only [jD, jE, jF]
 go_simp
 have hH2 := hHeld
 have kk := hH2
 refine (CE.out _).mono ?_
 rintro e w1004 ⟨rfl, hg⟩
 have L4 := hid (show (Kg w F B G [(kb2, keyObj ka kb), (tb1, tagObj ta tb), (mb, msgObj m), (r8, msgObj zeroM)] [(u, x), (v, l)] w1004) from kk.grown hg)
 clear hHeld hg kk
 go_wp2_with fail
 refine hK.out _ _ ?_ (fun hHeld => ?_)
 ·exact L4.out
 clear hK K
 try dsimp only at hHeld
 try simp only [jX, jD, jE, jF]
 refine jU 5 hHeld ?_
 try simp only [jX, jD, jE, jF]
 refine wpAnyH_done (by kernel_rfl) ?_ _
 have kk := hHeld
 refine exit_gen (fun wx => Kg w F B G [(kb2, keyObj ka kb), (tb1, tagObj ta tb), (mb, msgObj m), (r8, msgObj zeroM)] [(u, x), (v, l)] wx) kk ?_
 clear kk
 intro w6 h6
 have K6 := hid h6; clear h6 CT CE
 obtain ⟨d0, d1, d2, d3, d4, d5, d6⟩ := msg_cells K6.out.kp.b2
 go_wp2_with fail
 refine (CR.out _ K6.out.gt).mono ?_
 rintro e w7 ⟨rfl, hw⟩
 subst hw
 clear CR
 go_wp2_with fail
 refine (CI.out _ K6.out.gt).mono ?_
 rintro e w7 ⟨rfl, hw⟩
 subst hw
 clear CI
 clear d0 d1 d2 d3 d4 d5 d6
 have R8 := hid K6.out.kp.b3; have M8 := hid K6.out.kp.b2; have G8 := hid K6.out.kp.g; clear K6
 go_wp2_with (first | refine wpList_store_row (cs := zeroM.cells) R8.out (by kernel_rfl) (by kernel_rfl) (by kernel_rfl) rfl rfl rfl rfl rfl ?_ | refine wpList_buildTo (ty := 39) (cs := zeroM.cells) rfl rfl rfl (by kernel_rfl) ?_)
 have hst := at_setRow (cs := zeroM.cells) R8.out
 have hgs := gb_setRow (cs := zeroM.cells) G8.out LB.out
 generalize w6.setRow r8 zeroM.cells = wx at hst hgs ⊢
 obtain ⟨d0, d1, d2, d3, d4, d5, d6⟩ := msg_cells hst
 exact bodyPost_ret (v := .tuple #[mg zeroM, .int .i64 7]) (by simp [results, Tryz.results18, go_sem, d0, d1, d2, d3, d4, d5, d6]; try rfl) rfl ⟨rfl, hgs⟩
set_option maxHeartbeats 6400000 in
theorem gcheck_metric {F : List Nat} {B : GBl} {G : Gt} (v O : Value) (l x : List UInt8) (m : Mg) (ta tb : BitVec 64) (o : Int → Bool) (now : Int) (w : World) (K : GtAt w F B G) (hl : BytesAt w v l) (CS : ∀ u, BytesAt u v l → Calls Tryz.prog 53 #[v] u fun e w' => ∃ s, e = .returned (.tuple #[mg m, s, pair ta tb, .int .i64 0]) ∧ OwnB u.heap.size w' s x ∧ u.grownBy w' none) (pf : Addr) (CF : ∀ u, GtAt u F B G → Calls Tryz.prog 54 #[.pointer (some ⟨B.g, 0, none⟩), .int .i64 m.who] u fun e w' => e = .returned (.pointer (some pf)) ∧ u = w') (CO : ∀ u, Calls Tryz.prog 55 #[O, .int .i64 m.who] u fun e w' => e = .returned (.bool false) ∧ u.grownBy w' none) (ka kb : BitVec 64) (rp : Nat) (CK : ∀ u, GtAt u F B G → Calls Tryz.prog 56 #[.pointer (some ⟨B.g, 0, none⟩), mg m, .int .i64 now] u fun e w' => e = .returned (.tuple #[pair ka kb, .pointer (some ⟨rp, 0, none⟩), .int .i64 0]) ∧ u.grownBy w' none) (sa sb : BitVec 64) (CT : ∀ u s, BytesAt u s x → Calls Tryz.prog 37 #[pair ka kb, s] u fun e w' => e = .returned (pair sa sb) ∧ u.grownBy w' none) (CE : ∀ u, Calls Tryz.prog 36 #[pair ta tb, pair sa sb] u fun e w' => e = .returned (.bool true) ∧ u.grownBy w' none) (CR : ∀ u, GtAt u F B G → Calls Tryz.prog 57 #[.pointer (some ⟨rp, 0, none⟩), .int .i64 m.seq] u fun e w' => e = .returned (.bool true) ∧ u = w') (CI : ∀ u, GtAt u F B G → Calls Tryz.prog 58 #[.pointer (some ⟨B.g, 0, none⟩), .int .i64 m.epoch, .int .i64 now] u fun e w' => e = .returned (.bool true) ∧ u = w') (hm :  (G.met : Int) ≤ m.metric) :
  Calls Tryz.prog 18 #[.pointer (some ⟨B.g, 0, none⟩), v, .int .i64 now, O] w fun e w' => e = .returned (.tuple #[mg zeroM, .int .i64 1]) ∧ w.grownBy w' none := by
 replace CS := hid CS
 replace CF := hid CF
 replace CO := hid CO
 replace CK := hid CK
 replace CT := hid CT
 replace CE := hid CE
 replace CR := hid CR
 replace CI := hid CI
 have K0 := hid ((kg_start K).addY hl |>.alloc (msgObj zeroM))
 have lb := Nat.le_refl w.heap.size
 clear hl K
 have dm : decide ((G.met : Int) ≤ m.metric) = true := by simpa using hm
 clear hm
 go_enter Tryz.func18, Tryz.ntmps18
 go_upto_region 1 with fail
 refine wp_gen (fun wx => Kg w F B G [(w.heap.size, msgObj zeroM)] [(v, l)] wx) K0.out ?_
 clear K0
 generalize hr8 : w.heap.size = r8 at lb ⊢
 have LB := hid (show w.heap.size ≤ r8 from Nat.le_of_eq hr8)
 clear lb
 intro w0 h0
 have K0 := hid h0; clear h0
 go_upto_region 3 with fail
 go_wp2_with fail
 refine (CS.out _ K0.out.kp.y0).mono ?_
 rintro e w1 ⟨u, rfl, ho, hg⟩
 have hlt := hid (Nat.lt_of_lt_of_le (at_lt K0.out.kp.b0) hg.size)
 have k1 := ((K0.out.more ho hg).alloc (msgObj m)).alloc (tagObj ta tb)
 rw [size_alloc] at k1
 have K1 := hid k1; clear k1 ho hg K0 CS
 go_upto_region 4 with fail
 refine wp_gen (fun wx => Kg w F B G [(w1.heap.size + 1, tagObj ta tb), (w1.heap.size, msgObj m), (r8, msgObj zeroM)] [(u, x), (v, l)] wx) K1.out ?_
 clear K1
 have N1 : Hid (r8 ≠ w1.heap.size ∧ r8 ≠ w1.heap.size + 1) := hid ⟨by have := hlt.out; omega, by have := hlt.out; omega⟩
 clear hlt
 generalize w1.heap.size + 1 = tb1 at N1 ⊢
 generalize w1.heap.size = mb at N1 ⊢
 intro w2 h2
 have K2 := hid h2; clear h2
 obtain ⟨d0, d1, d2, d3, d4, d5, d6⟩ := msg_cells K2.out.kp.b1
 go_wp2_with fail
 refine (CF.out _ K2.out.gt).mono ?_
 rintro e w3 ⟨rfl, hw⟩
 subst hw
 clear CF
 go_wp2_with fail
 refine (CO.out _).mono ?_
 rintro e w3 ⟨rfl, hg⟩
 clear d0 d1 d2 d3 d4 d5 d6
 have K3 := hid (K2.out.grown hg); clear hg K2 CO
 have M3 := hid K3.out.kp.b1
 go_wp2_with (refine wpList_row M3.out Tryz.underlying39 rfl (by kernel_rfl) rfl rfl rfl rfl ?_)
 clear M3
 refine (CK.out _ K3.out.gt).mono ?_
 rintro e w4 ⟨rfl, hg⟩
 have N2 : Hid (r8 ≠ w4.heap.size) := hid (by have := at_lt K3.out.kp.b2; have := hg.size; omega)
 have K4 := hid ((K3.out.grown hg).alloc (keyObj ka kb)); clear hg K3 CK
 go_upto_region 9 with fail
 refine wp_gen (fun wx => Kg w F B G ((w4.heap.size, keyObj ka kb) :: [(tb1, tagObj ta tb), (mb, msgObj m), (r8, msgObj zeroM)]) [(u, x), (v, l)] wx) K4.out ?_
 clear K4
 generalize w4.heap.size = kb2 at N2 ⊢
 intro w5 h5
 have K5 := hid h5; clear h5
 go_wp2_with fail
 refine wp_region_held_drew (S := (fun w' => (Kg w F B G [(kb2, keyObj ka kb), (tb1, tagObj ta tb), (mb, msgObj m), (r8, msgObj zeroM)] [(u, x), (v, l)] w'))) (by kernel_rfl) K5.out.drew (fun hHeld => ?_)
 try dsimp only at hHeld
 refine' jT 0 rfl (by rfl) ?_ hHeld ?_
 rotate_left
 ·(intro w hSw; (try dsimp only at hSw); (try simp only [jD, jE, jF]); refine exec_row (x := .tmp 12) hSw.kp.b1 Tryz.underlying83 rfl (by kernel_rfl) ?_ ?_ <;> rfl)
 try simp only [jX, jD, jE, jF]
 refine' jT 1 rfl (by rfl) ?_ hHeld ?_
 rotate_left
 ·(intro w hSw; (try dsimp only at hSw); (try simp only [jD, jE, jF]); refine exec_row (x := .tmp 14) hSw.kp.b0 Tryz.underlying49 rfl (by kernel_rfl) ?_ ?_ <;> rfl)
 try simp only [jX, jD, jE, jF]
 refine jU 2 hHeld ?_
 try simp only [jX, jD, jE, jF]
 refine jR [3] ?_
 refine jG rfl (fun K hK => ?_) AllReadyH.nil
 try simp only [jD, jE, jF]
 go_simp
 have hH2 := hHeld
 have kk := hH2
 refine (CT.out _ _ kk.kp.y0).mono ?_
 rintro e w1003 ⟨rfl, hg⟩
 have L3 := hid (show (Kg w F B G [(kb2, keyObj ka kb), (tb1, tagObj ta tb), (mb, msgObj m), (r8, msgObj zeroM)] [(u, x), (v, l)] w1003) from kk.grown hg)
 clear hHeld hg kk
 go_wp2_with fail
 refine hK.out _ _ ?_ (fun hHeld => ?_)
 ·exact L3.out
 clear hK K
 try dsimp only at hHeld
 try simp only [jX, jD, jE, jF]
 refine jR [4] ?_
 refine jG rfl (fun K hK => ?_) AllReadyH.nil
 try simp only [jD, jE, jF]
 go_simp
 have hH2 := hHeld
 have kk := hH2
 refine (CE.out _).mono ?_
 rintro e w1004 ⟨rfl, hg⟩
 have L4 := hid (show (Kg w F B G [(kb2, keyObj ka kb), (tb1, tagObj ta tb), (mb, msgObj m), (r8, msgObj zeroM)] [(u, x), (v, l)] w1004) from kk.grown hg)
 clear hHeld hg kk
 go_wp2_with fail
 refine hK.out _ _ ?_ (fun hHeld => ?_)
 ·exact L4.out
 clear hK K
 try dsimp only at hHeld
 try simp only [jX, jD, jE, jF]
 refine jU 5 hHeld ?_
 try simp only [jX, jD, jE, jF]
 refine wpAnyH_done (by kernel_rfl) ?_ _
 have kk := hHeld
 refine exit_gen (fun wx => Kg w F B G [(kb2, keyObj ka kb), (tb1, tagObj ta tb), (mb, msgObj m), (r8, msgObj zeroM)] [(u, x), (v, l)] wx) kk ?_
 clear kk
 intro w6 h6
 have K6 := hid h6; clear h6 CT CE
 obtain ⟨d0, d1, d2, d3, d4, d5, d6⟩ := msg_cells K6.out.kp.b2
 go_wp2_with fail
 refine (CR.out _ K6.out.gt).mono ?_
 rintro e w7 ⟨rfl, hw⟩
 subst hw
 clear CR
 go_wp2_with fail
 refine (CI.out _ K6.out.gt).mono ?_
 rintro e w7 ⟨rfl, hw⟩
 subst hw
 clear CI
 obtain ⟨c0, c1, c2, c3, c4⟩ := K6.out.gt.tops
 go_upto_region 17 with fail
 go_quiet (fail)
 clear d0 d1 d2 d3 d4 d5 d6 c0 c1 c2 c3 c4
 refine exit_gen (fun wx => Kg w F B G [(kb2, keyObj ka kb), (tb1, tagObj ta tb), (mb, msgObj m), (r8, msgObj zeroM)] [(u, x), (v, l)] wx) (K6.out.grown (gb_drewQ w6 _)) ?_
 clear K6
 intro w7 h7
 have K7 := hid h7; clear h7
 have R8 := hid K7.out.kp.b3; have M8 := hid K7.out.kp.b2; have G8 := hid K7.out.kp.g; clear K7
 go_wp2_with (first | refine wpList_store_row (cs := zeroM.cells) R8.out (by kernel_rfl) (by kernel_rfl) (by kernel_rfl) rfl rfl rfl rfl rfl ?_ | refine wpList_buildTo (ty := 39) (cs := zeroM.cells) rfl rfl rfl (by kernel_rfl) ?_)
 have hst := at_setRow (cs := zeroM.cells) R8.out
 have hgs := gb_setRow (cs := zeroM.cells) G8.out LB.out
 generalize w7.setRow r8 zeroM.cells = wx at hst hgs ⊢
 obtain ⟨d0, d1, d2, d3, d4, d5, d6⟩ := msg_cells hst
 exact bodyPost_ret (v := .tuple #[mg zeroM, .int .i64 1]) (by simp [results, Tryz.results18, go_sem, d0, d1, d2, d3, d4, d5, d6]; try rfl) rfl ⟨rfl, hgs⟩
set_option maxHeartbeats 6400000 in
theorem gcheck_ok {F : List Nat} {B : GBl} {G : Gt} (v O : Value) (l x : List UInt8) (m : Mg) (ta tb : BitVec 64) (o : Int → Bool) (now : Int) (w : World) (K : GtAt w F B G) (hl : BytesAt w v l) (CS : ∀ u, BytesAt u v l → Calls Tryz.prog 53 #[v] u fun e w' => ∃ s, e = .returned (.tuple #[mg m, s, pair ta tb, .int .i64 0]) ∧ OwnB u.heap.size w' s x ∧ u.grownBy w' none) (pf : Addr) (CF : ∀ u, GtAt u F B G → Calls Tryz.prog 54 #[.pointer (some ⟨B.g, 0, none⟩), .int .i64 m.who] u fun e w' => e = .returned (.pointer (some pf)) ∧ u = w') (CO : ∀ u, Calls Tryz.prog 55 #[O, .int .i64 m.who] u fun e w' => e = .returned (.bool false) ∧ u.grownBy w' none) (ka kb : BitVec 64) (rp : Nat) (CK : ∀ u, GtAt u F B G → Calls Tryz.prog 56 #[.pointer (some ⟨B.g, 0, none⟩), mg m, .int .i64 now] u fun e w' => e = .returned (.tuple #[pair ka kb, .pointer (some ⟨rp, 0, none⟩), .int .i64 0]) ∧ u.grownBy w' none) (sa sb : BitVec 64) (CT : ∀ u s, BytesAt u s x → Calls Tryz.prog 37 #[pair ka kb, s] u fun e w' => e = .returned (pair sa sb) ∧ u.grownBy w' none) (CE : ∀ u, Calls Tryz.prog 36 #[pair ta tb, pair sa sb] u fun e w' => e = .returned (.bool true) ∧ u.grownBy w' none) (CR : ∀ u, GtAt u F B G → Calls Tryz.prog 57 #[.pointer (some ⟨rp, 0, none⟩), .int .i64 m.seq] u fun e w' => e = .returned (.bool true) ∧ u = w') (CI : ∀ u, GtAt u F B G → Calls Tryz.prog 58 #[.pointer (some ⟨B.g, 0, none⟩), .int .i64 m.epoch, .int .i64 now] u fun e w' => e = .returned (.bool true) ∧ u = w') (hm : ¬ (G.met : Int) ≤ m.metric) :
  Calls Tryz.prog 18 #[.pointer (some ⟨B.g, 0, none⟩), v, .int .i64 now, O] w fun e w' => e = .returned (.tuple #[mg m, .int .i64 0]) ∧ w.grownBy w' none := by
 replace CS := hid CS
 replace CF := hid CF
 replace CO := hid CO
 replace CK := hid CK
 replace CT := hid CT
 replace CE := hid CE
 replace CR := hid CR
 replace CI := hid CI
 have K0 := hid ((kg_start K).addY hl |>.alloc (msgObj zeroM))
 have lb := Nat.le_refl w.heap.size
 clear hl K
 have dm : decide ((G.met : Int) ≤ m.metric) = false := by simpa using hm
 clear hm
 go_enter Tryz.func18, Tryz.ntmps18
 go_upto_region 1 with fail
 refine wp_gen (fun wx => Kg w F B G [(w.heap.size, msgObj zeroM)] [(v, l)] wx) K0.out ?_
 clear K0
 generalize hr8 : w.heap.size = r8 at lb ⊢
 have LB := hid (show w.heap.size ≤ r8 from Nat.le_of_eq hr8)
 clear lb
 intro w0 h0
 have K0 := hid h0; clear h0
 go_upto_region 3 with fail
 go_wp2_with fail
 refine (CS.out _ K0.out.kp.y0).mono ?_
 rintro e w1 ⟨u, rfl, ho, hg⟩
 have hlt := hid (Nat.lt_of_lt_of_le (at_lt K0.out.kp.b0) hg.size)
 have k1 := ((K0.out.more ho hg).alloc (msgObj m)).alloc (tagObj ta tb)
 rw [size_alloc] at k1
 have K1 := hid k1; clear k1 ho hg K0 CS
 go_upto_region 4 with fail
 refine wp_gen (fun wx => Kg w F B G [(w1.heap.size + 1, tagObj ta tb), (w1.heap.size, msgObj m), (r8, msgObj zeroM)] [(u, x), (v, l)] wx) K1.out ?_
 clear K1
 have N1 : Hid (r8 ≠ w1.heap.size ∧ r8 ≠ w1.heap.size + 1) := hid ⟨by have := hlt.out; omega, by have := hlt.out; omega⟩
 clear hlt
 generalize w1.heap.size + 1 = tb1 at N1 ⊢
 generalize w1.heap.size = mb at N1 ⊢
 intro w2 h2
 have K2 := hid h2; clear h2
 obtain ⟨d0, d1, d2, d3, d4, d5, d6⟩ := msg_cells K2.out.kp.b1
 go_wp2_with fail
 refine (CF.out _ K2.out.gt).mono ?_
 rintro e w3 ⟨rfl, hw⟩
 subst hw
 clear CF
 go_wp2_with fail
 refine (CO.out _).mono ?_
 rintro e w3 ⟨rfl, hg⟩
 clear d0 d1 d2 d3 d4 d5 d6
 have K3 := hid (K2.out.grown hg); clear hg K2 CO
 have M3 := hid K3.out.kp.b1
 go_wp2_with (refine wpList_row M3.out Tryz.underlying39 rfl (by kernel_rfl) rfl rfl rfl rfl ?_)
 clear M3
 refine (CK.out _ K3.out.gt).mono ?_
 rintro e w4 ⟨rfl, hg⟩
 have N2 : Hid (r8 ≠ w4.heap.size) := hid (by have := at_lt K3.out.kp.b2; have := hg.size; omega)
 have K4 := hid ((K3.out.grown hg).alloc (keyObj ka kb)); clear hg K3 CK
 go_upto_region 9 with fail
 refine wp_gen (fun wx => Kg w F B G ((w4.heap.size, keyObj ka kb) :: [(tb1, tagObj ta tb), (mb, msgObj m), (r8, msgObj zeroM)]) [(u, x), (v, l)] wx) K4.out ?_
 clear K4
 generalize w4.heap.size = kb2 at N2 ⊢
 intro w5 h5
 have K5 := hid h5; clear h5
 go_wp2_with fail
 refine wp_region_held_drew (S := (fun w' => (Kg w F B G [(kb2, keyObj ka kb), (tb1, tagObj ta tb), (mb, msgObj m), (r8, msgObj zeroM)] [(u, x), (v, l)] w'))) (by kernel_rfl) K5.out.drew (fun hHeld => ?_)
 try dsimp only at hHeld
 refine' jT 0 rfl (by rfl) ?_ hHeld ?_
 rotate_left
 ·(intro w hSw; (try dsimp only at hSw); (try simp only [jD, jE, jF]); refine exec_row (x := .tmp 12) hSw.kp.b1 Tryz.underlying83 rfl (by kernel_rfl) ?_ ?_ <;> rfl)
 try simp only [jX, jD, jE, jF]
 refine' jT 1 rfl (by rfl) ?_ hHeld ?_
 rotate_left
 ·(intro w hSw; (try dsimp only at hSw); (try simp only [jD, jE, jF]); refine exec_row (x := .tmp 14) hSw.kp.b0 Tryz.underlying49 rfl (by kernel_rfl) ?_ ?_ <;> rfl)
 try simp only [jX, jD, jE, jF]
 refine jU 2 hHeld ?_
 try simp only [jX, jD, jE, jF]
 refine jR [3] ?_
 refine jG rfl (fun K hK => ?_) AllReadyH.nil
 try simp only [jD, jE, jF]
 go_simp
 have hH2 := hHeld
 have kk := hH2
 refine (CT.out _ _ kk.kp.y0).mono ?_
 rintro e w1003 ⟨rfl, hg⟩
 have L3 := hid (show (Kg w F B G [(kb2, keyObj ka kb), (tb1, tagObj ta tb), (mb, msgObj m), (r8, msgObj zeroM)] [(u, x), (v, l)] w1003) from kk.grown hg)
 clear hHeld hg kk
 go_wp2_with fail
 refine hK.out _ _ ?_ (fun hHeld => ?_)
 ·exact L3.out
 clear hK K
 try dsimp only at hHeld
 try simp only [jX, jD, jE, jF]
 refine jR [4] ?_
 refine jG rfl (fun K hK => ?_) AllReadyH.nil
 try simp only [jD, jE, jF]
 go_simp
 have hH2 := hHeld
 have kk := hH2
 refine (CE.out _).mono ?_
 rintro e w1004 ⟨rfl, hg⟩
 have L4 := hid (show (Kg w F B G [(kb2, keyObj ka kb), (tb1, tagObj ta tb), (mb, msgObj m), (r8, msgObj zeroM)] [(u, x), (v, l)] w1004) from kk.grown hg)
 clear hHeld hg kk
 go_wp2_with fail
 refine hK.out _ _ ?_ (fun hHeld => ?_)
 ·exact L4.out
 clear hK K
 try dsimp only at hHeld
 try simp only [jX, jD, jE, jF]
 refine jU 5 hHeld ?_
 try simp only [jX, jD, jE, jF]
 refine wpAnyH_done (by kernel_rfl) ?_ _
 have kk := hHeld
 refine exit_gen (fun wx => Kg w F B G [(kb2, keyObj ka kb), (tb1, tagObj ta tb), (mb, msgObj m), (r8, msgObj zeroM)] [(u, x), (v, l)] wx) kk ?_
 clear kk
 intro w6 h6
 have K6 := hid h6; clear h6 CT CE
 obtain ⟨d0, d1, d2, d3, d4, d5, d6⟩ := msg_cells K6.out.kp.b2
 go_wp2_with fail
 refine (CR.out _ K6.out.gt).mono ?_
 rintro e w7 ⟨rfl, hw⟩
 subst hw
 clear CR
 go_wp2_with fail
 refine (CI.out _ K6.out.gt).mono ?_
 rintro e w7 ⟨rfl, hw⟩
 subst hw
 clear CI
 obtain ⟨c0, c1, c2, c3, c4⟩ := K6.out.gt.tops
 go_upto_region 17 with fail
 go_quiet (fail)
 clear d0 d1 d2 d3 d4 d5 d6 c0 c1 c2 c3 c4
 refine exit_gen (fun wx => Kg w F B G [(kb2, keyObj ka kb), (tb1, tagObj ta tb), (mb, msgObj m), (r8, msgObj zeroM)] [(u, x), (v, l)] wx) (K6.out.grown (gb_drewQ w6 _)) ?_
 clear K6
 intro w7 h7
 have K7 := hid h7; clear h7
 have R8 := hid K7.out.kp.b3; have M8 := hid K7.out.kp.b2; have G8 := hid K7.out.kp.g; clear K7
 go_wp2_with (first | refine wpList_store_row (cs := m.cells) R8.out (by kernel_rfl) (by kernel_rfl) (by kernel_rfl) rfl rfl rfl rfl rfl ?_ | refine wpList_row M8.out Tryz.underlying39 rfl (by kernel_rfl) rfl rfl rfl rfl ?_)
 have hst := at_setRow (cs := m.cells) R8.out
 have hgs := gb_setRow (cs := m.cells) G8.out LB.out
 generalize w7.setRow r8 m.cells = wx at hst hgs ⊢
 obtain ⟨d0, d1, d2, d3, d4, d5, d6⟩ := msg_cells hst
 exact bodyPost_ret (v := .tuple #[mg m, .int .i64 0]) (by simp [results, Tryz.results18, go_sem, d0, d1, d2, d3, d4, d5, d6]; try rfl) rfl ⟨rfl, hgs⟩
end Go.Proofs.YtgpdcapnnejdeaaGreat
