/-
  Contract: the first part that may not be, as the program finds it. No condition.
-/
import Derived.Test.YtgpdcapnnejdeaaGreatY20
import Derived.Test.YtgpdcapnnejdeaaGreatNCfTgt
import Derived.Deep.MidRow
set_option linter.unusedSimpArgs false
namespace Go.Proofs.YtgpdcapnnejdeaaGreat
set_option maxRecDepth 100000
open Go.RowKit

theorem told1_eq (st : Option ByteArray) : told1 st = ansObj (if st.isSome then 1 else 0) (st.getD ⟨#[]⟩) := by cases st <;> rfl

def st1 (c : Conf) : Option ByteArray := ask1 none ⟨#[110]⟩ (cwithin c.n 1 16)
def st2 (c : Conf) : Option ByteArray := ask1 (st1 c) ⟨#[102]⟩ (cwithin c.f 0 (wrap64 ((wrap64 (c.n - 1)).tdiv 3)))
def st3 (c : Conf) : Option ByteArray := ask1 (st2 c) ⟨#[109]⟩ (cwithin c.m 1 4)
def st4 (c : Conf) : Option ByteArray := ask1 (st3 c) ⟨#[113, 117, 111, 114, 117, 109]⟩ (cwithin c.quorum (wrap64 (wrap64 (2 * c.f) + 1)) c.n)
def st5 (c : Conf) : Option ByteArray := ask1 (st4 c) ⟨#[102, 114, 101, 115, 104]⟩ (cwithin c.fresh 1 8)
def st6 (c : Conf) : Option ByteArray := ask1 (st5 c) ⟨#[103, 114, 97, 99, 101]⟩ (cwithin c.grace 1 100)
def st7 (c : Conf) : Option ByteArray := ask1 (st6 c) ⟨#[119, 105, 110, 100, 111, 119]⟩ (cwithin c.window 1 64)
def st8 (c : Conf) : Option ByteArray := ask1 (st7 c) ⟨#[116, 97, 114, 103, 101, 116]⟩ (tgts c.m c.t0 c.t1 c.t2 c.t3)
def st9 (c : Conf) : Option ByteArray := ask1 (st8 c) ⟨#[116, 111, 108]⟩ (cwithin c.tol 0 1000)
def st10 (c : Conf) : Option ByteArray := ask1 (st9 c) ⟨#[109, 105, 110]⟩ (cwithin c.min 1 10000)
def st11 (c : Conf) : Option ByteArray := ask1 (st10 c) ⟨#[109, 97, 120]⟩ (cwithin c.max c.min 10000)
def st12 (c : Conf) : Option ByteArray := ask1 (st11 c) ⟨#[99, 97, 108, 109, 117, 112]⟩ (cwithin c.calmup 0 60)
def st13 (c : Conf) : Option ByteArray := ask1 (st12 c) ⟨#[99, 97, 108, 109, 100, 111, 119, 110]⟩ (cwithin c.calmdown 0 60)
def st14 (c : Conf) : Option ByteArray := ask1 (st13 c) ⟨#[112, 111, 100, 115, 117, 112]⟩ (cwithin c.podsup 1 1000)
def st15 (c : Conf) : Option ByteArray := ask1 (st14 c) ⟨#[112, 99, 116, 117, 112]⟩ (cwithin c.pctup 1 1000)
def st16 (c : Conf) : Option ByteArray := ask1 (st15 c) ⟨#[112, 111, 100, 115, 100, 111, 119, 110]⟩ (cwithin c.podsdown 1 1000)
def st17 (c : Conf) : Option ByteArray := ask1 (st16 c) ⟨#[112, 99, 116, 100, 111, 119, 110]⟩ (cwithin c.pctdown 1 100)
def st18 (c : Conf) : Option ByteArray := ask1 (st17 c) ⟨#[112, 101, 114, 105, 111, 100]⟩ (cwithin c.period 1 60)
def st19 (c : Conf) : Option ByteArray := ask1 (st18 c) ⟨#[102, 97, 114]⟩ (cwithin c.far 0 1099511627776)
def st20 (c : Conf) : Option ByteArray := ask1 (st19 c) ⟨#[115, 116, 114, 105, 107, 101, 115]⟩ (cwithin c.strikes 1 100)
def st21 (c : Conf) : Option ByteArray := ask1 (st20 c) ⟨#[112, 114, 111, 98, 101]⟩ (cwithin c.probe 1 100)
def st22 (c : Conf) : Option ByteArray := ask1 (st21 c) ⟨#[115, 101, 99, 116, 111, 114, 115]⟩ (cwithin c.sectors 64 4096)

structure WK (w : World) (c : Conf) (st : Option ByteArray) (w' : World) : Prop where
 box : BoxC w c w'
 ans : w'.heap[w.heap.size + 1]? = some (told1 st)
theorem WK.grown {w : World} {c : Conf} {st : Option ByteArray} {w1 w2 : World} (h : WK w c st w1) (hg : w1.grownBy w2 none) : WK w c st w2 := ⟨h.box.grown hg, at_grown h.ans hg (by simp)⟩
theorem WK.step {w : World} {c : Conf} {st st' : Option ByteArray} {w1 w2 : World} (h : WK w c st w1) (hb : w2.heap[w.heap.size + 1]? = some (told1 st')) (hg : w1.grownBy w2 (some (w.heap.size + 1))) : WK w c st' w2 :=
 ⟨⟨at_grown h.box.box hg (by simp), gb_trans h.box.g hg (.inr (.inr ⟨_, rfl, by omega⟩))⟩, hb⟩

theorem size_new (w : World) (o : Obj) : (w.alloc o).heap.size = w.heap.size + 1 := by
 show (w.heap.push o).size = _
 simp
set_option maxHeartbeats 6400000 in
theorem wrong_any (c : Conf) (w : World) :
  Calls Tryz.prog 87 #[cf c] w fun e w' => e = .returned (.string ((st22 c).getD ⟨#[]⟩)) ∧ w.grownBy w' none := by
 have hs0 : (w.alloc (.cells c.cells 27)).heap.size = w.heap.size + 1 := size_new _ _
 have h0 : WK w c none ((w.alloc (.cells c.cells 27)).alloc (ansObj 0 ⟨#[]⟩)) := ⟨(boxc_new w c).grown (World.grownBy_alloc _ _ _), by rw [← hs0]; exact at_new _ _⟩
 have H0 := hid h0; clear h0
 go_enter Tryz.func87, Tryz.ntmps87
 have z0 : ((w.alloc (.cells c.cells 27)).alloc (ansObj 0 ⟨#[]⟩)).cell? ⟨w.heap.size, 0, none⟩ = some (.int .i64 c.n) := at_cell H0.out.box.box 0
 go_wp2_with fail
 refine (cwithin_any _ _ _ _).mono ?_
 rintro e v1 ⟨rfl, rfl⟩
 clear z0
 go_wp2_with fail
 refine (ask_any (w.heap.size + 1) ⟨#[110]⟩ (cwithin c.n 1 16) none _ H0.out.ans).mono ?_
 rintro e w1 ⟨rfl, ha, hg⟩
 have H1 : Hid (WK w c (st1 c) w1) := hid (H0.out.step ha hg); clear ha hg H0
 have z1 : w1.cell? ⟨w.heap.size, 1, none⟩ = some (.int .i64 c.f) := at_cell H1.out.box.box 1
 have z0 : w1.cell? ⟨w.heap.size, 0, none⟩ = some (.int .i64 c.n) := at_cell H1.out.box.box 0
 go_wp2_with fail
 refine (cwithin_any _ _ _ _).mono ?_
 rintro e v2 ⟨rfl, rfl⟩
 clear z1 z0
 go_wp2_with fail
 refine (ask_any (w.heap.size + 1) ⟨#[102]⟩ (cwithin c.f 0 (wrap64 ((wrap64 (c.n - 1)).tdiv 3))) (st1 c) _ H1.out.ans).mono ?_
 rintro e w2 ⟨rfl, ha, hg⟩
 have H2 : Hid (WK w c (st2 c) w2) := hid (H1.out.step ha hg); clear ha hg H1
 have z2 : w2.cell? ⟨w.heap.size, 2, none⟩ = some (.int .i64 c.m) := at_cell H2.out.box.box 2
 go_wp2_with fail
 refine (cwithin_any _ _ _ _).mono ?_
 rintro e v3 ⟨rfl, rfl⟩
 clear z2
 go_wp2_with fail
 refine (ask_any (w.heap.size + 1) ⟨#[109]⟩ (cwithin c.m 1 4) (st2 c) _ H2.out.ans).mono ?_
 rintro e w3 ⟨rfl, ha, hg⟩
 have H3 : Hid (WK w c (st3 c) w3) := hid (H2.out.step ha hg); clear ha hg H2
 have z3 : w3.cell? ⟨w.heap.size, 3, none⟩ = some (.int .i64 c.quorum) := at_cell H3.out.box.box 3
 have z1 : w3.cell? ⟨w.heap.size, 1, none⟩ = some (.int .i64 c.f) := at_cell H3.out.box.box 1
 have z0 : w3.cell? ⟨w.heap.size, 0, none⟩ = some (.int .i64 c.n) := at_cell H3.out.box.box 0
 go_wp2_with fail
 refine (cwithin_any _ _ _ _).mono ?_
 rintro e v4 ⟨rfl, rfl⟩
 clear z3 z1 z0
 go_wp2_with fail
 refine (ask_any (w.heap.size + 1) ⟨#[113, 117, 111, 114, 117, 109]⟩ (cwithin c.quorum (wrap64 (wrap64 (2 * c.f) + 1)) c.n) (st3 c) _ H3.out.ans).mono ?_
 rintro e w4 ⟨rfl, ha, hg⟩
 have H4 : Hid (WK w c (st4 c) w4) := hid (H3.out.step ha hg); clear ha hg H3
 have z4 : w4.cell? ⟨w.heap.size, 4, none⟩ = some (.int .i64 c.fresh) := at_cell H4.out.box.box 4
 go_wp2_with fail
 refine (cwithin_any _ _ _ _).mono ?_
 rintro e v5 ⟨rfl, rfl⟩
 clear z4
 go_wp2_with fail
 refine (ask_any (w.heap.size + 1) ⟨#[102, 114, 101, 115, 104]⟩ (cwithin c.fresh 1 8) (st4 c) _ H4.out.ans).mono ?_
 rintro e w5 ⟨rfl, ha, hg⟩
 have H5 : Hid (WK w c (st5 c) w5) := hid (H4.out.step ha hg); clear ha hg H4
 have z5 : w5.cell? ⟨w.heap.size, 5, none⟩ = some (.int .i64 c.grace) := at_cell H5.out.box.box 5
 go_wp2_with fail
 refine (cwithin_any _ _ _ _).mono ?_
 rintro e v6 ⟨rfl, rfl⟩
 clear z5
 go_wp2_with fail
 refine (ask_any (w.heap.size + 1) ⟨#[103, 114, 97, 99, 101]⟩ (cwithin c.grace 1 100) (st5 c) _ H5.out.ans).mono ?_
 rintro e w6 ⟨rfl, ha, hg⟩
 have H6 : Hid (WK w c (st6 c) w6) := hid (H5.out.step ha hg); clear ha hg H5
 have z6 : w6.cell? ⟨w.heap.size, 6, none⟩ = some (.int .i64 c.window) := at_cell H6.out.box.box 6
 go_wp2_with fail
 refine (cwithin_any _ _ _ _).mono ?_
 rintro e v7 ⟨rfl, rfl⟩
 clear z6
 go_wp2_with fail
 refine (ask_any (w.heap.size + 1) ⟨#[119, 105, 110, 100, 111, 119]⟩ (cwithin c.window 1 64) (st6 c) _ H6.out.ans).mono ?_
 rintro e w7 ⟨rfl, ha, hg⟩
 have H7 : Hid (WK w c (st7 c) w7) := hid (H6.out.step ha hg); clear ha hg H6
 have z7 : w7.cell? ⟨w.heap.size, 7, none⟩ = some (.int .i64 c.t0) := at_cell H7.out.box.box 7
 have z8 : w7.cell? ⟨w.heap.size, 8, none⟩ = some (.int .i64 c.t1) := at_cell H7.out.box.box 8
 have z9 : w7.cell? ⟨w.heap.size, 9, none⟩ = some (.int .i64 c.t2) := at_cell H7.out.box.box 9
 have z10 : w7.cell? ⟨w.heap.size, 10, none⟩ = some (.int .i64 c.t3) := at_cell H7.out.box.box 10
 have z2 : w7.cell? ⟨w.heap.size, 2, none⟩ = some (.int .i64 c.m) := at_cell H7.out.box.box 2
 go_wp2_with fail
 refine (targets_any c.t0 c.t1 c.t2 c.t3 c.m _).mono ?_
 rintro e v8 ⟨rfl, hg⟩
 have K8 := hid (H7.out.grown hg); clear hg z7 z8 z9 z10 z2 H7
 go_wp2_with fail
 refine (ask_any (w.heap.size + 1) ⟨#[116, 97, 114, 103, 101, 116]⟩ (tgts c.m c.t0 c.t1 c.t2 c.t3) (st7 c) _ K8.out.ans).mono ?_
 rintro e w8 ⟨rfl, ha, hg⟩
 have H8 : Hid (WK w c (st8 c) w8) := hid (K8.out.step ha hg); clear ha hg K8
 have z11 : w8.cell? ⟨w.heap.size, 11, none⟩ = some (.int .i64 c.tol) := at_cell H8.out.box.box 11
 go_wp2_with fail
 refine (cwithin_any _ _ _ _).mono ?_
 rintro e v9 ⟨rfl, rfl⟩
 clear z11
 go_wp2_with fail
 refine (ask_any (w.heap.size + 1) ⟨#[116, 111, 108]⟩ (cwithin c.tol 0 1000) (st8 c) _ H8.out.ans).mono ?_
 rintro e w9 ⟨rfl, ha, hg⟩
 have H9 : Hid (WK w c (st9 c) w9) := hid (H8.out.step ha hg); clear ha hg H8
 have z12 : w9.cell? ⟨w.heap.size, 12, none⟩ = some (.int .i64 c.min) := at_cell H9.out.box.box 12
 go_wp2_with fail
 refine (cwithin_any _ _ _ _).mono ?_
 rintro e v10 ⟨rfl, rfl⟩
 clear z12
 go_wp2_with fail
 refine (ask_any (w.heap.size + 1) ⟨#[109, 105, 110]⟩ (cwithin c.min 1 10000) (st9 c) _ H9.out.ans).mono ?_
 rintro e w10 ⟨rfl, ha, hg⟩
 have H10 : Hid (WK w c (st10 c) w10) := hid (H9.out.step ha hg); clear ha hg H9
 have z13 : w10.cell? ⟨w.heap.size, 13, none⟩ = some (.int .i64 c.max) := at_cell H10.out.box.box 13
 have z12 : w10.cell? ⟨w.heap.size, 12, none⟩ = some (.int .i64 c.min) := at_cell H10.out.box.box 12
 go_wp2_with fail
 refine (cwithin_any _ _ _ _).mono ?_
 rintro e v11 ⟨rfl, rfl⟩
 clear z13 z12
 go_wp2_with fail
 refine (ask_any (w.heap.size + 1) ⟨#[109, 97, 120]⟩ (cwithin c.max c.min 10000) (st10 c) _ H10.out.ans).mono ?_
 rintro e w11 ⟨rfl, ha, hg⟩
 have H11 : Hid (WK w c (st11 c) w11) := hid (H10.out.step ha hg); clear ha hg H10
 have z14 : w11.cell? ⟨w.heap.size, 14, none⟩ = some (.int .i64 c.calmup) := at_cell H11.out.box.box 14
 go_wp2_with fail
 refine (cwithin_any _ _ _ _).mono ?_
 rintro e v12 ⟨rfl, rfl⟩
 clear z14
 go_wp2_with fail
 refine (ask_any (w.heap.size + 1) ⟨#[99, 97, 108, 109, 117, 112]⟩ (cwithin c.calmup 0 60) (st11 c) _ H11.out.ans).mono ?_
 rintro e w12 ⟨rfl, ha, hg⟩
 have H12 : Hid (WK w c (st12 c) w12) := hid (H11.out.step ha hg); clear ha hg H11
 have z15 : w12.cell? ⟨w.heap.size, 15, none⟩ = some (.int .i64 c.calmdown) := at_cell H12.out.box.box 15
 go_wp2_with fail
 refine (cwithin_any _ _ _ _).mono ?_
 rintro e v13 ⟨rfl, rfl⟩
 clear z15
 go_wp2_with fail
 refine (ask_any (w.heap.size + 1) ⟨#[99, 97, 108, 109, 100, 111, 119, 110]⟩ (cwithin c.calmdown 0 60) (st12 c) _ H12.out.ans).mono ?_
 rintro e w13 ⟨rfl, ha, hg⟩
 have H13 : Hid (WK w c (st13 c) w13) := hid (H12.out.step ha hg); clear ha hg H12
 have z16 : w13.cell? ⟨w.heap.size, 16, none⟩ = some (.int .i64 c.podsup) := at_cell H13.out.box.box 16
 go_wp2_with fail
 refine (cwithin_any _ _ _ _).mono ?_
 rintro e v14 ⟨rfl, rfl⟩
 clear z16
 go_wp2_with fail
 refine (ask_any (w.heap.size + 1) ⟨#[112, 111, 100, 115, 117, 112]⟩ (cwithin c.podsup 1 1000) (st13 c) _ H13.out.ans).mono ?_
 rintro e w14 ⟨rfl, ha, hg⟩
 have H14 : Hid (WK w c (st14 c) w14) := hid (H13.out.step ha hg); clear ha hg H13
 have z17 : w14.cell? ⟨w.heap.size, 17, none⟩ = some (.int .i64 c.pctup) := at_cell H14.out.box.box 17
 go_wp2_with fail
 refine (cwithin_any _ _ _ _).mono ?_
 rintro e v15 ⟨rfl, rfl⟩
 clear z17
 go_wp2_with fail
 refine (ask_any (w.heap.size + 1) ⟨#[112, 99, 116, 117, 112]⟩ (cwithin c.pctup 1 1000) (st14 c) _ H14.out.ans).mono ?_
 rintro e w15 ⟨rfl, ha, hg⟩
 have H15 : Hid (WK w c (st15 c) w15) := hid (H14.out.step ha hg); clear ha hg H14
 have z18 : w15.cell? ⟨w.heap.size, 18, none⟩ = some (.int .i64 c.podsdown) := at_cell H15.out.box.box 18
 go_wp2_with fail
 refine (cwithin_any _ _ _ _).mono ?_
 rintro e v16 ⟨rfl, rfl⟩
 clear z18
 go_wp2_with fail
 refine (ask_any (w.heap.size + 1) ⟨#[112, 111, 100, 115, 100, 111, 119, 110]⟩ (cwithin c.podsdown 1 1000) (st15 c) _ H15.out.ans).mono ?_
 rintro e w16 ⟨rfl, ha, hg⟩
 have H16 : Hid (WK w c (st16 c) w16) := hid (H15.out.step ha hg); clear ha hg H15
 have z19 : w16.cell? ⟨w.heap.size, 19, none⟩ = some (.int .i64 c.pctdown) := at_cell H16.out.box.box 19
 go_wp2_with fail
 refine (cwithin_any _ _ _ _).mono ?_
 rintro e v17 ⟨rfl, rfl⟩
 clear z19
 go_wp2_with fail
 refine (ask_any (w.heap.size + 1) ⟨#[112, 99, 116, 100, 111, 119, 110]⟩ (cwithin c.pctdown 1 100) (st16 c) _ H16.out.ans).mono ?_
 rintro e w17 ⟨rfl, ha, hg⟩
 have H17 : Hid (WK w c (st17 c) w17) := hid (H16.out.step ha hg); clear ha hg H16
 have z20 : w17.cell? ⟨w.heap.size, 20, none⟩ = some (.int .i64 c.period) := at_cell H17.out.box.box 20
 go_wp2_with fail
 refine (cwithin_any _ _ _ _).mono ?_
 rintro e v18 ⟨rfl, rfl⟩
 clear z20
 go_wp2_with fail
 refine (ask_any (w.heap.size + 1) ⟨#[112, 101, 114, 105, 111, 100]⟩ (cwithin c.period 1 60) (st17 c) _ H17.out.ans).mono ?_
 rintro e w18 ⟨rfl, ha, hg⟩
 have H18 : Hid (WK w c (st18 c) w18) := hid (H17.out.step ha hg); clear ha hg H17
 have z21 : w18.cell? ⟨w.heap.size, 21, none⟩ = some (.int .i64 c.far) := at_cell H18.out.box.box 21
 go_wp2_with fail
 refine (cwithin64_any _ _ _ _).mono ?_
 rintro e v19 ⟨rfl, rfl⟩
 clear z21
 go_wp2_with fail
 refine (ask_any (w.heap.size + 1) ⟨#[102, 97, 114]⟩ (cwithin c.far 0 1099511627776) (st18 c) _ H18.out.ans).mono ?_
 rintro e w19 ⟨rfl, ha, hg⟩
 have H19 : Hid (WK w c (st19 c) w19) := hid (H18.out.step ha hg); clear ha hg H18
 have z22 : w19.cell? ⟨w.heap.size, 22, none⟩ = some (.int .i64 c.strikes) := at_cell H19.out.box.box 22
 go_wp2_with fail
 refine (cwithin_any _ _ _ _).mono ?_
 rintro e v20 ⟨rfl, rfl⟩
 clear z22
 go_wp2_with fail
 refine (ask_any (w.heap.size + 1) ⟨#[115, 116, 114, 105, 107, 101, 115]⟩ (cwithin c.strikes 1 100) (st19 c) _ H19.out.ans).mono ?_
 rintro e w20 ⟨rfl, ha, hg⟩
 have H20 : Hid (WK w c (st20 c) w20) := hid (H19.out.step ha hg); clear ha hg H19
 have z23 : w20.cell? ⟨w.heap.size, 23, none⟩ = some (.int .i64 c.probe) := at_cell H20.out.box.box 23
 go_wp2_with fail
 refine (cwithin_any _ _ _ _).mono ?_
 rintro e v21 ⟨rfl, rfl⟩
 clear z23
 go_wp2_with fail
 refine (ask_any (w.heap.size + 1) ⟨#[112, 114, 111, 98, 101]⟩ (cwithin c.probe 1 100) (st20 c) _ H20.out.ans).mono ?_
 rintro e w21 ⟨rfl, ha, hg⟩
 have H21 : Hid (WK w c (st21 c) w21) := hid (H20.out.step ha hg); clear ha hg H20
 have z24 : w21.cell? ⟨w.heap.size, 24, none⟩ = some (.int .i64 c.sectors) := at_cell H21.out.box.box 24
 go_wp2_with fail
 refine (cwithin_any _ _ _ _).mono ?_
 rintro e v22 ⟨rfl, rfl⟩
 clear z24
 go_wp2_with fail
 refine (ask_any (w.heap.size + 1) ⟨#[115, 101, 99, 116, 111, 114, 115]⟩ (cwithin c.sectors 64 4096) (st21 c) _ H21.out.ans).mono ?_
 rintro e w22 ⟨rfl, ha, hg⟩
 have H22 : Hid (WK w c (st22 c) w22) := hid (H21.out.step ha hg); clear ha hg H21
 have z : w22.cell? ⟨w.heap.size + 1, 3, none⟩ = some (.string ((st22 c).getD ⟨#[]⟩)) := at_cell (H22.out.ans.trans (congrArg some (told1_eq _))) 3
 go_wp2_with fail
 go_ret
 exact ⟨rfl, H22.out.box.g⟩
end Go.Proofs.YtgpdcapnnejdeaaGreat
