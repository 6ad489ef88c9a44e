/-
  Contract: the first part that may not be, as the program finds it. No condition.
  Contract: whether a configuration may be. No condition.
  Contracts for package calm: Set, New, of nil too. The condition of a call: the object lies there, slices read as numbers.
  Literals of numbers: what a new block of them reads as. No condition. Nothing of the program's functions is named here.
  Contract: the law's own examples: the program tells what the document says of a few. And: what a walk keeps of objects of the call's own. No condition.
  Of a world keep just what is said: small lemmas for the walks. No condition. Nothing of the program is named here.
  A configuration of the law's own, in a block. No condition.
  Contracts for package law: New. The condition of a call: the object lies there, slices read as numbers.
  Contract: the first part that may not be, as the document says it: it is what the program finds. No condition.
-/
import Derived.Test.YthobbekocimcnaaZ6
import Derived.Deep.MidRow
import Derived.Test.YthobbekocimcnaaZ3
import Derived.Test.YthobbekocimcnaaZ2
import Derived.WalkKit
section
set_option linter.unusedSimpArgs false
namespace Go.Proofs.Ythobbekocimcnaa
set_option maxRecDepth 100000
open Go.RowKit

theorem told1_eq (st : Option ByteArray) : told1 st = ansObj (if st.isSome then 1 else 0) (st.getD ⟨#[]⟩) := by cases st <;> rfl

/-- the names, and whether each part may be, as the program reckons it -/
def st1 (c : Conf) : Option ByteArray := ask1 none ⟨#[110]⟩ (cwithin c.n 1 16)
def st2 (c : Conf) : Option ByteArray := ask1 (st1 c) ⟨#[102]⟩ (cwithin c.f 0 (wrap64 ((wrap64 (c.n - 1)).tdiv 3)))
def st3 (c : Conf) : Option ByteArray := ask1 (st2 c) ⟨#[109]⟩ (cwithin c.m 1 4)
def st4 (c : Conf) : Option ByteArray := ask1 (st3 c) ⟨#[113, 117, 111, 114, 117, 109]⟩ (cwithin c.quorum (wrap64 (wrap64 (2 * c.f) + 1)) c.n)
def st5 (c : Conf) : Option ByteArray := ask1 (st4 c) ⟨#[102, 114, 101, 115, 104]⟩ (cwithin c.fresh 1 8)
def st6 (c : Conf) : Option ByteArray := ask1 (st5 c) ⟨#[103, 114, 97, 99, 101]⟩ (cwithin c.grace 1 100)
def st7 (c : Conf) : Option ByteArray := ask1 (st6 c) ⟨#[119, 105, 110, 100, 111, 119]⟩ (cwithin c.window 1 64)
def st8 (c : Conf) : Option ByteArray := ask1 (st7 c) ⟨#[116, 97, 114, 103, 101, 116]⟩ (tgts c.m c.t0 c.t1 c.t2 c.t3)
def st9 (c : Conf) : Option ByteArray := ask1 (st8 c) ⟨#[116, 111, 108]⟩ (cwithin c.tol 0 1000)
def st10 (c : Conf) : Option ByteArray := ask1 (st9 c) ⟨#[109, 105, 110]⟩ (cwithin c.min 1 10000)
def st11 (c : Conf) : Option ByteArray := ask1 (st10 c) ⟨#[109, 97, 120]⟩ (cwithin c.max c.min 10000)
def st12 (c : Conf) : Option ByteArray := ask1 (st11 c) ⟨#[99, 97, 108, 109, 117, 112]⟩ (cwithin c.calmup 0 60)
def st13 (c : Conf) : Option ByteArray := ask1 (st12 c) ⟨#[99, 97, 108, 109, 100, 111, 119, 110]⟩ (cwithin c.calmdown 0 60)
def st14 (c : Conf) : Option ByteArray := ask1 (st13 c) ⟨#[112, 111, 100, 115, 117, 112]⟩ (cwithin c.podsup 1 1000)
def st15 (c : Conf) : Option ByteArray := ask1 (st14 c) ⟨#[112, 99, 116, 117, 112]⟩ (cwithin c.pctup 1 1000)
def st16 (c : Conf) : Option ByteArray := ask1 (st15 c) ⟨#[112, 111, 100, 115, 100, 111, 119, 110]⟩ (cwithin c.podsdown 1 1000)
def st17 (c : Conf) : Option ByteArray := ask1 (st16 c) ⟨#[112, 99, 116, 100, 111, 119, 110]⟩ (cwithin c.pctdown 1 100)
def st18 (c : Conf) : Option ByteArray := ask1 (st17 c) ⟨#[112, 101, 114, 105, 111, 100]⟩ (cwithin c.period 1 60)
def st19 (c : Conf) : Option ByteArray := ask1 (st18 c) ⟨#[102, 97, 114]⟩ (cwithin c.far 0 1099511627776)
def st20 (c : Conf) : Option ByteArray := ask1 (st19 c) ⟨#[115, 116, 114, 105, 107, 101, 115]⟩ (cwithin c.strikes 1 100)
def st21 (c : Conf) : Option ByteArray := ask1 (st20 c) ⟨#[112, 114, 111, 98, 101]⟩ (cwithin c.probe 1 100)
def st22 (c : Conf) : Option ByteArray := ask1 (st21 c) ⟨#[115, 101, 99, 116, 111, 114, 115]⟩ (cwithin c.sectors 64 4096)

/-- the function's own blocks: the configuration that came in, and the answer -/
structure WK (w : World) (c : Conf) (st : Option ByteArray) (w' : World) : Prop where
  box : BoxC w c w'
  ans : w'.heap[w.heap.size + 1]? = some (told1 st)
theorem WK.grown {w : World} {c : Conf} {st : Option ByteArray} {w1 w2 : World} (h : WK w c st w1) (hg : w1.grownBy w2 none) : WK w c st w2 := ⟨h.box.grown hg, at_grown h.ans hg (by simp)⟩
theorem WK.step {w : World} {c : Conf} {st st' : Option ByteArray} {w1 w2 : World} (h : WK w c st w1) (hb : w2.heap[w.heap.size + 1]? = some (told1 st')) (hg : w1.grownBy w2 (some (w.heap.size + 1))) : WK w c st' w2 :=
  ⟨⟨at_grown h.box.box hg (by simp), gb_trans h.box.g hg (.inr (.inr ⟨_, rfl, by omega⟩))⟩, hb⟩

set_option maxHeartbeats 6400000 in
theorem wrong_any (c : Conf) (w : World) :
    Calls Try.prog 27 #[cf c] w fun e w' => e = .returned (.string ((st22 c).getD ⟨#[]⟩)) ∧ w.grownBy w' none := by
  have hs0 : (w.alloc (.cells c.cells 27)).heap.size = w.heap.size + 1 := size_new _ _
  have h0 : WK w c none ((w.alloc (.cells c.cells 27)).alloc (ansObj 0 ⟨#[]⟩)) := ⟨(boxc_new w c).grown (World.grownBy_alloc _ _ _), by rw [← hs0]; exact at_new _ _⟩
  have H0 := hid h0; clear h0
  go_enter Try.func27, Try.ntmps27
  have z0 : ((w.alloc (.cells c.cells 27)).alloc (ansObj 0 ⟨#[]⟩)).cell? ⟨w.heap.size, 0, none⟩ = some (.int .i64 c.n) := at_cell H0.out.box.box 0
  go_wp2_with fail
  refine (cwithin_any _ _ _ _).mono ?_
  rintro e v1 ⟨rfl, rfl⟩
  clear z0
  go_wp2_with fail
  refine (ask_any (w.heap.size + 1) ⟨#[110]⟩ (cwithin c.n 1 16) none _ H0.out.ans).mono ?_
  rintro e w1 ⟨rfl, ha, hg⟩
  have H1 : Hid (WK w c (st1 c) w1) := hid (H0.out.step ha hg); clear ha hg H0
  have z1 : w1.cell? ⟨w.heap.size, 1, none⟩ = some (.int .i64 c.f) := at_cell H1.out.box.box 1
  have z0 : w1.cell? ⟨w.heap.size, 0, none⟩ = some (.int .i64 c.n) := at_cell H1.out.box.box 0
  go_wp2_with fail
  refine (cwithin_any _ _ _ _).mono ?_
  rintro e v2 ⟨rfl, rfl⟩
  clear z1 z0
  go_wp2_with fail
  refine (ask_any (w.heap.size + 1) ⟨#[102]⟩ (cwithin c.f 0 (wrap64 ((wrap64 (c.n - 1)).tdiv 3))) (st1 c) _ H1.out.ans).mono ?_
  rintro e w2 ⟨rfl, ha, hg⟩
  have H2 : Hid (WK w c (st2 c) w2) := hid (H1.out.step ha hg); clear ha hg H1
  have z2 : w2.cell? ⟨w.heap.size, 2, none⟩ = some (.int .i64 c.m) := at_cell H2.out.box.box 2
  go_wp2_with fail
  refine (cwithin_any _ _ _ _).mono ?_
  rintro e v3 ⟨rfl, rfl⟩
  clear z2
  go_wp2_with fail
  refine (ask_any (w.heap.size + 1) ⟨#[109]⟩ (cwithin c.m 1 4) (st2 c) _ H2.out.ans).mono ?_
  rintro e w3 ⟨rfl, ha, hg⟩
  have H3 : Hid (WK w c (st3 c) w3) := hid (H2.out.step ha hg); clear ha hg H2
  have z3 : w3.cell? ⟨w.heap.size, 3, none⟩ = some (.int .i64 c.quorum) := at_cell H3.out.box.box 3
  have z1 : w3.cell? ⟨w.heap.size, 1, none⟩ = some (.int .i64 c.f) := at_cell H3.out.box.box 1
  have z0 : w3.cell? ⟨w.heap.size, 0, none⟩ = some (.int .i64 c.n) := at_cell H3.out.box.box 0
  go_wp2_with fail
  refine (cwithin_any _ _ _ _).mono ?_
  rintro e v4 ⟨rfl, rfl⟩
  clear z3 z1 z0
  go_wp2_with fail
  refine (ask_any (w.heap.size + 1) ⟨#[113, 117, 111, 114, 117, 109]⟩ (cwithin c.quorum (wrap64 (wrap64 (2 * c.f) + 1)) c.n) (st3 c) _ H3.out.ans).mono ?_
  rintro e w4 ⟨rfl, ha, hg⟩
  have H4 : Hid (WK w c (st4 c) w4) := hid (H3.out.step ha hg); clear ha hg H3
  have z4 : w4.cell? ⟨w.heap.size, 4, none⟩ = some (.int .i64 c.fresh) := at_cell H4.out.box.box 4
  go_wp2_with fail
  refine (cwithin_any _ _ _ _).mono ?_
  rintro e v5 ⟨rfl, rfl⟩
  clear z4
  go_wp2_with fail
  refine (ask_any (w.heap.size + 1) ⟨#[102, 114, 101, 115, 104]⟩ (cwithin c.fresh 1 8) (st4 c) _ H4.out.ans).mono ?_
  rintro e w5 ⟨rfl, ha, hg⟩
  have H5 : Hid (WK w c (st5 c) w5) := hid (H4.out.step ha hg); clear ha hg H4
  have z5 : w5.cell? ⟨w.heap.size, 5, none⟩ = some (.int .i64 c.grace) := at_cell H5.out.box.box 5
  go_wp2_with fail
  refine (cwithin_any _ _ _ _).mono ?_
  rintro e v6 ⟨rfl, rfl⟩
  clear z5
  go_wp2_with fail
  refine (ask_any (w.heap.size + 1) ⟨#[103, 114, 97, 99, 101]⟩ (cwithin c.grace 1 100) (st5 c) _ H5.out.ans).mono ?_
  rintro e w6 ⟨rfl, ha, hg⟩
  have H6 : Hid (WK w c (st6 c) w6) := hid (H5.out.step ha hg); clear ha hg H5
  have z6 : w6.cell? ⟨w.heap.size, 6, none⟩ = some (.int .i64 c.window) := at_cell H6.out.box.box 6
  go_wp2_with fail
  refine (cwithin_any _ _ _ _).mono ?_
  rintro e v7 ⟨rfl, rfl⟩
  clear z6
  go_wp2_with fail
  refine (ask_any (w.heap.size + 1) ⟨#[119, 105, 110, 100, 111, 119]⟩ (cwithin c.window 1 64) (st6 c) _ H6.out.ans).mono ?_
  rintro e w7 ⟨rfl, ha, hg⟩
  have H7 : Hid (WK w c (st7 c) w7) := hid (H6.out.step ha hg); clear ha hg H6
  have z7 : w7.cell? ⟨w.heap.size, 7, none⟩ = some (.int .i64 c.t0) := at_cell H7.out.box.box 7
  have z8 : w7.cell? ⟨w.heap.size, 8, none⟩ = some (.int .i64 c.t1) := at_cell H7.out.box.box 8
  have z9 : w7.cell? ⟨w.heap.size, 9, none⟩ = some (.int .i64 c.t2) := at_cell H7.out.box.box 9
  have z10 : w7.cell? ⟨w.heap.size, 10, none⟩ = some (.int .i64 c.t3) := at_cell H7.out.box.box 10
  have z2 : w7.cell? ⟨w.heap.size, 2, none⟩ = some (.int .i64 c.m) := at_cell H7.out.box.box 2
  go_wp2_with fail
  refine (targets_any c.t0 c.t1 c.t2 c.t3 c.m _).mono ?_
  rintro e v8 ⟨rfl, hg⟩
  have K8 := hid (H7.out.grown hg); clear hg z7 z8 z9 z10 z2 H7
  go_wp2_with fail
  refine (ask_any (w.heap.size + 1) ⟨#[116, 97, 114, 103, 101, 116]⟩ (tgts c.m c.t0 c.t1 c.t2 c.t3) (st7 c) _ K8.out.ans).mono ?_
  rintro e w8 ⟨rfl, ha, hg⟩
  have H8 : Hid (WK w c (st8 c) w8) := hid (K8.out.step ha hg); clear ha hg K8
  have z11 : w8.cell? ⟨w.heap.size, 11, none⟩ = some (.int .i64 c.tol) := at_cell H8.out.box.box 11
  go_wp2_with fail
  refine (cwithin_any _ _ _ _).mono ?_
  rintro e v9 ⟨rfl, rfl⟩
  clear z11
  go_wp2_with fail
  refine (ask_any (w.heap.size + 1) ⟨#[116, 111, 108]⟩ (cwithin c.tol 0 1000) (st8 c) _ H8.out.ans).mono ?_
  rintro e w9 ⟨rfl, ha, hg⟩
  have H9 : Hid (WK w c (st9 c) w9) := hid (H8.out.step ha hg); clear ha hg H8
  have z12 : w9.cell? ⟨w.heap.size, 12, none⟩ = some (.int .i64 c.min) := at_cell H9.out.box.box 12
  go_wp2_with fail
  refine (cwithin_any _ _ _ _).mono ?_
  rintro e v10 ⟨rfl, rfl⟩
  clear z12
  go_wp2_with fail
  refine (ask_any (w.heap.size + 1) ⟨#[109, 105, 110]⟩ (cwithin c.min 1 10000) (st9 c) _ H9.out.ans).mono ?_
  rintro e w10 ⟨rfl, ha, hg⟩
  have H10 : Hid (WK w c (st10 c) w10) := hid (H9.out.step ha hg); clear ha hg H9
  have z13 : w10.cell? ⟨w.heap.size, 13, none⟩ = some (.int .i64 c.max) := at_cell H10.out.box.box 13
  have z12 : w10.cell? ⟨w.heap.size, 12, none⟩ = some (.int .i64 c.min) := at_cell H10.out.box.box 12
  go_wp2_with fail
  refine (cwithin_any _ _ _ _).mono ?_
  rintro e v11 ⟨rfl, rfl⟩
  clear z13 z12
  go_wp2_with fail
  refine (ask_any (w.heap.size + 1) ⟨#[109, 97, 120]⟩ (cwithin c.max c.min 10000) (st10 c) _ H10.out.ans).mono ?_
  rintro e w11 ⟨rfl, ha, hg⟩
  have H11 : Hid (WK w c (st11 c) w11) := hid (H10.out.step ha hg); clear ha hg H10
  have z14 : w11.cell? ⟨w.heap.size, 14, none⟩ = some (.int .i64 c.calmup) := at_cell H11.out.box.box 14
  go_wp2_with fail
  refine (cwithin_any _ _ _ _).mono ?_
  rintro e v12 ⟨rfl, rfl⟩
  clear z14
  go_wp2_with fail
  refine (ask_any (w.heap.size + 1) ⟨#[99, 97, 108, 109, 117, 112]⟩ (cwithin c.calmup 0 60) (st11 c) _ H11.out.ans).mono ?_
  rintro e w12 ⟨rfl, ha, hg⟩
  have H12 : Hid (WK w c (st12 c) w12) := hid (H11.out.step ha hg); clear ha hg H11
  have z15 : w12.cell? ⟨w.heap.size, 15, none⟩ = some (.int .i64 c.calmdown) := at_cell H12.out.box.box 15
  go_wp2_with fail
  refine (cwithin_any _ _ _ _).mono ?_
  rintro e v13 ⟨rfl, rfl⟩
  clear z15
  go_wp2_with fail
  refine (ask_any (w.heap.size + 1) ⟨#[99, 97, 108, 109, 100, 111, 119, 110]⟩ (cwithin c.calmdown 0 60) (st12 c) _ H12.out.ans).mono ?_
  rintro e w13 ⟨rfl, ha, hg⟩
  have H13 : Hid (WK w c (st13 c) w13) := hid (H12.out.step ha hg); clear ha hg H12
  have z16 : w13.cell? ⟨w.heap.size, 16, none⟩ = some (.int .i64 c.podsup) := at_cell H13.out.box.box 16
  go_wp2_with fail
  refine (cwithin_any _ _ _ _).mono ?_
  rintro e v14 ⟨rfl, rfl⟩
  clear z16
  go_wp2_with fail
  refine (ask_any (w.heap.size + 1) ⟨#[112, 111, 100, 115, 117, 112]⟩ (cwithin c.podsup 1 1000) (st13 c) _ H13.out.ans).mono ?_
  rintro e w14 ⟨rfl, ha, hg⟩
  have H14 : Hid (WK w c (st14 c) w14) := hid (H13.out.step ha hg); clear ha hg H13
  have z17 : w14.cell? ⟨w.heap.size, 17, none⟩ = some (.int .i64 c.pctup) := at_cell H14.out.box.box 17
  go_wp2_with fail
  refine (cwithin_any _ _ _ _).mono ?_
  rintro e v15 ⟨rfl, rfl⟩
  clear z17
  go_wp2_with fail
  refine (ask_any (w.heap.size + 1) ⟨#[112, 99, 116, 117, 112]⟩ (cwithin c.pctup 1 1000) (st14 c) _ H14.out.ans).mono ?_
  rintro e w15 ⟨rfl, ha, hg⟩
  have H15 : Hid (WK w c (st15 c) w15) := hid (H14.out.step ha hg); clear ha hg H14
  have z18 : w15.cell? ⟨w.heap.size, 18, none⟩ = some (.int .i64 c.podsdown) := at_cell H15.out.box.box 18
  go_wp2_with fail
  refine (cwithin_any _ _ _ _).mono ?_
  rintro e v16 ⟨rfl, rfl⟩
  clear z18
  go_wp2_with fail
  refine (ask_any (w.heap.size + 1) ⟨#[112, 111, 100, 115, 100, 111, 119, 110]⟩ (cwithin c.podsdown 1 1000) (st15 c) _ H15.out.ans).mono ?_
  rintro e w16 ⟨rfl, ha, hg⟩
  have H16 : Hid (WK w c (st16 c) w16) := hid (H15.out.step ha hg); clear ha hg H15
  have z19 : w16.cell? ⟨w.heap.size, 19, none⟩ = some (.int .i64 c.pctdown) := at_cell H16.out.box.box 19
  go_wp2_with fail
  refine (cwithin_any _ _ _ _).mono ?_
  rintro e v17 ⟨rfl, rfl⟩
  clear z19
  go_wp2_with fail
  refine (ask_any (w.heap.size + 1) ⟨#[112, 99, 116, 100, 111, 119, 110]⟩ (cwithin c.pctdown 1 100) (st16 c) _ H16.out.ans).mono ?_
  rintro e w17 ⟨rfl, ha, hg⟩
  have H17 : Hid (WK w c (st17 c) w17) := hid (H16.out.step ha hg); clear ha hg H16
  have z20 : w17.cell? ⟨w.heap.size, 20, none⟩ = some (.int .i64 c.period) := at_cell H17.out.box.box 20
  go_wp2_with fail
  refine (cwithin_any _ _ _ _).mono ?_
  rintro e v18 ⟨rfl, rfl⟩
  clear z20
  go_wp2_with fail
  refine (ask_any (w.heap.size + 1) ⟨#[112, 101, 114, 105, 111, 100]⟩ (cwithin c.period 1 60) (st17 c) _ H17.out.ans).mono ?_
  rintro e w18 ⟨rfl, ha, hg⟩
  have H18 : Hid (WK w c (st18 c) w18) := hid (H17.out.step ha hg); clear ha hg H17
  have z21 : w18.cell? ⟨w.heap.size, 21, none⟩ = some (.int .i64 c.far) := at_cell H18.out.box.box 21
  go_wp2_with fail
  refine (cwithin64_any _ _ _ _).mono ?_
  rintro e v19 ⟨rfl, rfl⟩
  clear z21
  go_wp2_with fail
  refine (ask_any (w.heap.size + 1) ⟨#[102, 97, 114]⟩ (cwithin c.far 0 1099511627776) (st18 c) _ H18.out.ans).mono ?_
  rintro e w19 ⟨rfl, ha, hg⟩
  have H19 : Hid (WK w c (st19 c) w19) := hid (H18.out.step ha hg); clear ha hg H18
  have z22 : w19.cell? ⟨w.heap.size, 22, none⟩ = some (.int .i64 c.strikes) := at_cell H19.out.box.box 22
  go_wp2_with fail
  refine (cwithin_any _ _ _ _).mono ?_
  rintro e v20 ⟨rfl, rfl⟩
  clear z22
  go_wp2_with fail
  refine (ask_any (w.heap.size + 1) ⟨#[115, 116, 114, 105, 107, 101, 115]⟩ (cwithin c.strikes 1 100) (st19 c) _ H19.out.ans).mono ?_
  rintro e w20 ⟨rfl, ha, hg⟩
  have H20 : Hid (WK w c (st20 c) w20) := hid (H19.out.step ha hg); clear ha hg H19
  have z23 : w20.cell? ⟨w.heap.size, 23, none⟩ = some (.int .i64 c.probe) := at_cell H20.out.box.box 23
  go_wp2_with fail
  refine (cwithin_any _ _ _ _).mono ?_
  rintro e v21 ⟨rfl, rfl⟩
  clear z23
  go_wp2_with fail
  refine (ask_any (w.heap.size + 1) ⟨#[112, 114, 111, 98, 101]⟩ (cwithin c.probe 1 100) (st20 c) _ H20.out.ans).mono ?_
  rintro e w21 ⟨rfl, ha, hg⟩
  have H21 : Hid (WK w c (st21 c) w21) := hid (H20.out.step ha hg); clear ha hg H20
  have z24 : w21.cell? ⟨w.heap.size, 24, none⟩ = some (.int .i64 c.sectors) := at_cell H21.out.box.box 24
  go_wp2_with fail
  refine (cwithin_any _ _ _ _).mono ?_
  rintro e v22 ⟨rfl, rfl⟩
  clear z24
  go_wp2_with fail
  refine (ask_any (w.heap.size + 1) ⟨#[115, 101, 99, 116, 111, 114, 115]⟩ (cwithin c.sectors 64 4096) (st21 c) _ H21.out.ans).mono ?_
  rintro e w22 ⟨rfl, ha, hg⟩
  have H22 : Hid (WK w c (st22 c) w22) := hid (H21.out.step ha hg); clear ha hg H21
  have z : w22.cell? ⟨w.heap.size + 1, 3, none⟩ = some (.string ((st22 c).getD ⟨#[]⟩)) := at_cell (H22.out.ans.trans (congrArg some (told1_eq _))) 3
  go_wp2_with fail
  go_ret
  exact ⟨rfl, H22.out.box.g⟩
end Go.Proofs.Ythobbekocimcnaa
end
section
set_option linter.unusedSimpArgs false
namespace Go.Proofs.Ythobbekocimcnaa
set_option maxRecDepth 100000
open Go.RowKit

theorem cmay_any (c : Conf) (w : World) :
    Calls Try.prog 14 #[cf c] w fun e w' => e = .returned (.bool ((st22 c).getD ⟨#[]⟩).toList.isEmpty) ∧ w.grownBy w' none := by
  have h0 := boxc_new w c
  have H0 := hid h0; clear h0
  have hw := wrong_any c
  obtain ⟨s, hs⟩ : ∃ s, s = (st22 c).getD ⟨#[]⟩ := ⟨_, rfl⟩
  rw [← hs] at hw ⊢
  clear hs
  go_enter Try.func14, Try.ntmps14
  go_wp2_with (refine wpList_conf H0.out.box rfl rfl rfl rfl ?_)
  refine (hw _).mono ?_
  rintro e w1 ⟨rfl, hg⟩
  have G1 := hid hg; clear hg
  go_wp2_with fail
  go_ret
  exact ⟨rfl, gb_trans (gb_alloc (.refl w none) _) G1.out (.inl rfl)⟩
end Go.Proofs.Ythobbekocimcnaa
end
section
set_option linter.unusedSimpArgs false
set_option linter.unusedVariables false
namespace Go.Proofs.Ythobbekocimcnaa
set_option maxRecDepth 100000
open Go.RowKit

theorem all_hit {l : List Int} {k : Nat} {x : Int} (h : l[k]? = some x) (hx : okC x = false) : l.all okC = false := by
  obtain ⟨hk, rfl⟩ := List.getElem?_eq_some_iff.1 h
  cases hb : l.all okC with
  | false => rfl
  | true => rw [List.all_eq_true] at hb; rw [hb _ (List.getElem_mem hk)] at hx; cases hx
theorem all_none {l : List Int} (h : ∀ (i : Nat) (x : Int), i < l.length → l[i]? = some x → okC x = true) : l.all okC = true := by
  rw [List.all_eq_true]
  intro x hx
  obtain ⟨i, hi, rfl⟩ := List.mem_iff_getElem.1 hx
  exact h i _ hi (List.getElem?_eq_getElem hi)

def Setted (w : World) (b : Nat) (c : Ca) (l : List Int) (e : Ending) (w' : World) : Prop :=
  (c.mayset l = true ∧ e = .returned (.int .i64 0) ∧ CaAt w' b { c with l := l } ∧ Chg [b] w w') ∨ (c.mayset l = false ∧ e = .returned (.int .i64 1) ∧ w.grownBy w' none)
theorem mayset_eq (c : Ca) (l : List Int) : c.mayset l = (decide (l.length ≤ c.most) && l.all okC) := rfl
theorem set_ok {c : Ca} (h : c.Ok) {l : List Int} (hl : c.mayset l = true) : ({ c with l := l } : Ca).Ok := by
  rw [mayset_eq, Bool.and_eq_true, decide_eq_true_eq, List.all_eq_true] at hl
  refine ⟨h.u, h.d, hl.1, fun x hx => ?_⟩
  have := hl.2 x hx
  unfold okC at this
  rw [Bool.and_eq_true, decide_eq_true_eq, decide_eq_true_eq] at this
  exact this
theorem new_nil (u d : Int) (h : ¬ (0 ≤ u ∧ u ≤ 60 ∧ 0 ≤ d ∧ d ≤ 60)) (w : World) :
    Calls Try.prog 18 #[.int .i64 u, .int .i64 d] w fun e w' => e = .returned (.pointer none) ∧ w = w' := by
  have M1 := hid (may_any u 60); have M2 := hid (may_any d 60)
  cases h1 : decide (0 ≤ u) && decide (u ≤ 60) with
  | false =>
    rw [h1] at M1
    clear h h1
    go_enter Try.func18, Try.ntmps18
    go_wp2_with fail
    refine (M1.out _).mono ?_
    rintro e w1 ⟨rfl, rfl⟩
    go_wp2_with fail
    go_ret
    exact ⟨rfl, rfl⟩
  | true =>
    have h2 : (decide (0 ≤ d) && decide (d ≤ 60)) = false := by
      cases h3 : decide (0 ≤ d) && decide (d ≤ 60) with
      | false => rfl
      | true => simp at h1 h3; exact absurd ⟨h1.1, h1.2, h3.1, h3.2⟩ h
    rw [h1] at M1; rw [h2] at M2
    clear h h1 h2
    go_enter Try.func18, Try.ntmps18
    go_wp2_with fail
    refine (M1.out _).mono ?_
    rintro e w1 ⟨rfl, rfl⟩
    go_wp2_with fail
    refine (M2.out _).mono ?_
    rintro e w1 ⟨rfl, rfl⟩
    go_wp2_with fail
    go_ret
    exact ⟨rfl, rfl⟩
def MadeC (w : World) (c : Ca) (e : Ending) (w' : World) : Prop := ∃ b, e = .returned (.pointer (some ⟨b, 0, none⟩)) ∧ CaAt w' b c ∧ w.grownBy w' none ∧ w.heap.size ≤ b
theorem new_ok (u d : Nat) (hu : u ≤ 60) (hd : d ≤ 60) (w : World) :
    Calls Try.prog 18 #[.int .i64 (u : Int), .int .i64 (d : Int)] w (MadeC w ⟨u, d, []⟩) := by
  have M1 := hid (may_any (u : Int) 60); have M2 := hid (may_any (d : Int) 60)
  have h1 : (decide (0 ≤ (u : Int)) && decide ((u : Int) ≤ 60)) = true := by simp; omega
  have h2 : (decide (0 ≤ (d : Int)) && decide ((d : Int) ≤ 60)) = true := by simp; omega
  rw [h1] at M1; rw [h2] at M2
  clear h1 h2
  have L := hid (show CaAt (w.alloc (.cells (caCells u d 0 (List.replicate 61 0)) 77)) w.heap.size ⟨u, d, []⟩ from ⟨⟨List.replicate 61 0, rfl, rfl, at_new w _⟩, ⟨hu, hd, Nat.zero_le _, fun x hx => by cases hx⟩⟩)
  go_enter Try.func18, Try.ntmps18
  go_wp2_with fail
  refine (M1.out _).mono ?_
  rintro e w1 ⟨rfl, rfl⟩
  go_wp2_with fail
  refine (M2.out _).mono ?_
  rintro e w1 ⟨rfl, rfl⟩
  go_wp2_with fail
  go_ret
  exact ⟨_, rfl, L.out, gb_alloc (.refl w none) _, Nat.le_refl _⟩
end Go.Proofs.Ythobbekocimcnaa
end
section
set_option linter.unusedSimpArgs false
set_option linter.unusedVariables false
namespace Go.Proofs.Ythobbekocimcnaa
set_option maxRecDepth 100000
open Go.RowKit

theorem size_ln (w : World) (o : Obj) : (w.alloc o).heap.size = w.heap.size + 1 := by show (w.heap.push o).size = _; simp
theorem ints_new (w : World) (l : List Int) (hl : l.length ≤ maxLen) : IntsAt (w.alloc (.cells (l.map iv).toArray 2)) (.slice (some ⟨w.heap.size, 0, none⟩) l.length l.length) l := ints_of_cells l (at_new w _) hl
theorem lit_new (w : World) (l : List Int) (c : Array Value) (hc : (l.map iv).toArray = c) (n : Nat) (hn : l.length = n) (hl : n ≤ maxLen) : IntsAt (w.alloc (.cells c 2)) (.slice (some ⟨w.heap.size, 0, none⟩) n n) l := by
  subst hc; subst hn; exact ints_new w l hl
theorem lit_new2 (w : World) (o : Obj) (l : List Int) (c : Array Value) (hc : (l.map iv).toArray = c) (n : Nat) (hn : l.length = n) (hl : n ≤ maxLen) : IntsAt ((w.alloc o).alloc (.cells c 2)) (.slice (some ⟨w.heap.size + 1, 0, none⟩) n n) l := by
  have h := lit_new (w.alloc o) l c hc n hn hl
  rw [size_ln] at h
  exact h
theorem le_max (n : Nat) (h : n ≤ 100) : n ≤ maxLen := by unfold maxLen; omega
end Go.Proofs.Ythobbekocimcnaa
end
section
set_option linter.unusedSimpArgs false
set_option linter.unusedVariables false
namespace Go.Proofs.Ythobbekocimcnaa
set_option maxRecDepth 100000
open Go.RowKit

section
variable {w W W' : World} {b b1 b2 : Nat} {c c' c1 c2 : Ca} {n x z : Int} {v : Value} {l : List Int}
theorem gb_chg (h : w.grownBy W none) (hc : Chg [b] W W') (hb : w.heap.size ≤ b) : w.grownBy W' none :=
  ((chg_grown h []).trans hc (fun y hy => by rw [List.mem_singleton] at hy; subst hy; exact .inr hb)).free (fun y hy => by cases hy)
/-- one object of the call's own; two -/
structure Ck1 (w : World) (b : Nat) (c : Ca) (W : World) : Prop where
  gr : w.grownBy W none
  at1 : CaAt W b c
  lo : w.heap.size ≤ b
structure Ck2 (w : World) (b1 : Nat) (c1 : Ca) (b2 : Nat) (c2 : Ca) (W : World) : Prop where
  k1 : Ck1 w b1 c1 W
  k2 : Ck1 w b2 c2 W
  ne : b1 ≠ b2
theorem Ck1.grown (h : Ck1 w b c W) (hg : W.grownBy W' none) : Ck1 w b c W' := ⟨gb_trans h.gr hg (.inl rfl), h.at1.grown hg, h.lo⟩
theorem Ck1.drew (h : Ck1 w b c W) : Ck1 w b c W.drew := ⟨gb_drew h.gr, h.at1.drew, h.lo⟩
theorem Ck1.chg (h : Ck1 w b c W) (hc : CaAt W' b c') (hg : Chg [b] W W') : Ck1 w b c' W' := ⟨gb_chg h.gr hg h.lo, hc, h.lo⟩
theorem Ck2.grown (h : Ck2 w b1 c1 b2 c2 W) (hg : W.grownBy W' none) : Ck2 w b1 c1 b2 c2 W' := ⟨h.k1.grown hg, h.k2.grown hg, h.ne⟩
theorem Ck2.drew (h : Ck2 w b1 c1 b2 c2 W) : Ck2 w b1 c1 b2 c2 W.drew := ⟨h.k1.drew, h.k2.drew, h.ne⟩
theorem Ck2.chg1 (h : Ck2 w b1 c1 b2 c2 W) (hc : CaAt W' b1 c') (hg : Chg [b1] W W') : Ck2 w b1 c' b2 c2 W' :=
  ⟨h.k1.chg hc hg, ⟨gb_chg h.k1.gr hg h.k1.lo, h.k2.at1.chg hg (by simp [h.ne.symm]), h.k2.lo⟩, h.ne⟩
theorem Ck2.swap (h : Ck2 w b1 c1 b2 c2 W) : Ck2 w b2 c2 b1 c1 W := ⟨h.k2, h.k1, h.ne.symm⟩
theorem Ck2.chg2 (h : Ck2 w b1 c1 b2 c2 W) (hc : CaAt W' b2 c') (hg : Chg [b2] W W') : Ck2 w b1 c1 b2 c' W' := (h.swap.chg1 hc hg).swap
theorem Ck1.start (h : CaAt W b c) (hg : w.grownBy W none) (hb : w.heap.size ≤ b) : Ck1 w b c W := ⟨hg, h, hb⟩
theorem Ck2.start (h : Ck1 w b1 c1 W) (h2 : CaAt W' b c) (hg : W.grownBy W' none) (hb : W.heap.size ≤ b) : Ck2 w b1 c1 b c W' :=
  ⟨h.grown hg, ⟨gb_trans h.gr hg (.inl rfl), h2, Nat.le_trans h.gr.size hb⟩, by have := h.at1.lt; omega⟩
theorem new_as (u d : Nat) {U D : Int} (hU : (u : Int) = U) (hD : (d : Int) = D) (hu : u ≤ 60) (hd : d ≤ 60) (w : World) : Calls Try.prog 18 #[.int .i64 U, .int .i64 D] w (MadeC w ⟨u, d, []⟩) := by
  subst hU; subst hD; exact new_ok u d hu hd w
theorem next_as (H : CaAt W b c) (h1 : c.push x = c') (h2 : c'.out n = z) :
    Calls Try.prog 25 #[.pointer (some ⟨b, 0, none⟩), .int .i64 n, .int .i64 x] W fun e w' => e = .returned (.int .i64 z) ∧ CaAt w' b c' ∧ Chg [b] W w' := by
  subst h1; subst h2; exact next_any n x H
end

end Go.Proofs.Ythobbekocimcnaa
end
section
namespace Go.Proofs.Ythobbekocimcnaa
set_option maxRecDepth 100000
open Go.RowKit
theorem wp_gen {C : Program} {c : Code} {Q : Exit → Act → World → Prop} {a : Act} {w : World} (P : World → Prop) (h : P w) (k : ∀ wx, P wx → Code.wp C c Q a wx) : Code.wp C c Q a w := k w h
theorem cut_gen {K : Act → World → Prop} {a : Act} {w : World} (P : World → Prop) (h : P w) (k : ∀ wx, P wx → K a wx) : K a w := k w h
end Go.Proofs.Ythobbekocimcnaa
end
section
set_option linter.unusedSimpArgs false
namespace Go.Proofs.Ythobbekocimcnaa
set_option maxRecDepth 100000
open Go.RowKit

/-- the block x holds the configuration c; all else as it was, or new -/
structure Cfx (w0 : World) (x : Nat) (c : Conf) (w : World) : Prop where
  box : w.heap[x]? = some (.cells c.cells 27)
  g : w0.grownBy w none
theorem Cfx.grown {w0 : World} {x : Nat} {c : Conf} {w1 w2 : World} (h : Cfx w0 x c w1) (hg : w1.grownBy w2 none) : Cfx w0 x c w2 := ⟨at_grown h.box hg (by simp), gb_trans h.g hg (.inl rfl)⟩
theorem Cfx.drew {w0 : World} {x : Nat} {c : Conf} {w1 : World} (h : Cfx w0 x c w1) : Cfx w0 x c w1.drew := ⟨h.box, gb_drew h.g⟩
theorem cfx_new {w0 w1 : World} (c : Conf) (h : w0.grownBy w1 none) : Cfx w0 w1.heap.size c (w1.alloc (.cells c.cells 27)) := ⟨at_new w1 _, gb_alloc h _⟩

/-- a number out of 'int(uint(x) % m)' -/
theorem mod_small (x : Int) {m : Int} (h0 : 0 < m) (h1 : m ≤ 4611686018427387904) : 0 ≤ wrap64 ((IntKind.u64.wrap x).tmod m) ∧ wrap64 ((IntKind.u64.wrap x).tmod m) < m := by
  have h : 0 ≤ IntKind.u64.wrap x := by
    show 0 ≤ x % _
    exact Int.emod_nonneg _ (by decide)
  rw [Int.tmod_eq_emod_of_nonneg h]
  have a := Int.emod_nonneg (IntKind.u64.wrap x) (Int.ne_of_gt h0)
  have b := Int.emod_lt_of_pos (IntKind.u64.wrap x) h0
  rw [wrap_small (by omega) (by omega)]
  exact ⟨a, b⟩
end Go.Proofs.Ythobbekocimcnaa
end
section
set_option linter.unusedSimpArgs false
set_option linter.unusedVariables false
namespace Go.Proofs.Ythobbekocimcnaa
set_option maxRecDepth 100000
open Go.RowKit

theorem tarr_len : Try.prog.arrayLen 24 = 4 := by kernel_rfl
theorem tarr_elem : Try.prog.elem 24 = 2 := by kernel_rfl
theorem tsize_i64 (u : World) : (sizeOf 2).run Try.prog u = .ok 1 u := by
  obtain ⟨i, hi, hz0, hz1, hz2⟩ := info_parts info_i64
  simp [sizeOf, typeInfo, hi, hz1]
theorem tarr_h (b o n : Nat) (h : n ≤ 4) (u : World) : (Instr.sliceAt 24 (.pointer (some ⟨b, o, none⟩)) none (some (.int .i64 (n : Int))) none).run Try.prog u = .ok (.slice (some ⟨b, o, none⟩) n 4) u := by
  rw [run_sliceAt_array_h (P := Try.prog) u 24 ⟨b, o, none⟩ (by kernel_rfl) .i64 (n : Int) (by omega) (by rw [tarr_len]; omega), tarr_elem, tsize_i64, tarr_len]
  simp [slicedAt, Result.andThen, Addr.add]
/-- the targets of the metrics that there are -/
@[reducible] def tgOf (c : Conf) (m : Nat) : List Int := [c.t0, c.t1, c.t2, c.t3].take m
theorem tgOf_len (c : Conf) {m : Nat} (h : m ≤ 4) : (tgOf c m).length = m := by rw [List.length_take]; simp; omega
theorem tgOf_at {w : World} {x m : Nat} {c : Conf} {t : TypeId} {cs : Array Value} (hcs : ∀ i, i < 4 → cs[7 + i]? = ([c.t0, c.t1, c.t2, c.t3][i]?).map iv) (h : w.heap[x]? = some (.cells cs t)) (hm : m ≤ 4) : IntsAt w (.slice (some ⟨x, 7, none⟩) m 4) (tgOf c m) := by
  refine .inr ⟨_, 4, by rw [tgOf_len c hm], by rw [tgOf_len c hm]; exact hm, by unfold maxLen; omega, fun i hi => ?_⟩
  have hi' : i < m := by rw [tgOf_len c hm] at hi; exact hi
  rw [iadd_at, at_cell h, hcs i (by omega)]
  have : (tgOf c m)[i]? = [c.t0, c.t1, c.t2, c.t3][i]? := by rw [List.getElem?_take, if_pos hi']
  rw [← this, List.getElem?_eq_getElem hi]; rfl
theorem conf_tg (c : Conf) : ∀ i, i < 4 → c.cells[7 + i]? = ([c.t0, c.t1, c.t2, c.t3][i]?).map iv
  | 0, _ => rfl
  | 1, _ => rfl
  | 2, _ => rfl
  | 3, _ => rfl
  | k + 4, h => by omega
theorem lclone_any (a : Addr) (n c : Nat) (l : List Int) (w : World) (h : IntsAt w (.slice (some a) n c) l) (hn : l.length ≤ 999999) (hne : 0 < l.length) :
    Calls Try.prog 17 #[.slice (some a) n c] w fun e w' => ∃ bt ao k, e = .returned (.slice (some ⟨bt, ao, none⟩) l.length k) ∧ IntsAt w' (.slice (some ⟨bt, ao, none⟩) l.length k) l ∧ w.heap.size ≤ bt ∧ bt < w'.heap.size ∧ w.grownBy w' none := by
  have HI := hid h
  have hnil := Lib.run_eql_slice_nil w 23 2 (some a) n c 0 0 Try.underlying23
  have HE := hid (OwnI.empty w)
  have HB := hid (HI.out.alloc (.cells #[] 2))
  have HL := hid hn; have HNE := hid hne
  clear h hn hne
  go_enter Try.func17, Try.ntmps17
  go_wp2_with (refine append_ints rfl _ _ rfl w.heap.size _ [] rfl HE.out _ l rfl HB.out (by have := HL.out; simp; omega) (gb_size (gb_alloc (.refl w none) _)) ?_; intro v' w' hown hgrow hat; have HO := hid hown; have HG := hid (gb_ownI (gb_alloc (.refl w none) _) HE.out (Nat.le_refl _) hgrow); clear hown hgrow hat)
  go_ret
  have hown := HO.out
  rw [List.nil_append] at hown
  have hI := hown.ints
  obtain ⟨p, k, rfl⟩ := hown.form
  obtain ⟨ab, ao, rfl, -, -, -⟩ := hI.cell HNE.out
  have hb := hown.at ab (by simp [ownL, Value.ownBlock])
  exact ⟨ab, ao, k, rfl, hI, hb.1, hb.2, HG.out⟩
/-- a Law of the call's own -/
def LaMade (w : World) (s : La) (e : Ending) (w' : World) : Prop := ∃ B : LBl, e = .returned (.pointer (some ⟨B.b, 0, none⟩)) ∧ LaAt w' B s ∧ w.grownBy w' none ∧ ∀ x ∈ B.F, w.heap.size ≤ x
theorem lnew_fin {w W : World} {b bc bp bt ao k m wp : Nat} {tol n : Int} {tg : List Int} {ca : Ca} {po : Po} (hR : W.heap[b]? = some (.cells (laCells ⟨b, bc, bp, bt⟩ ao k m tol 0) 56)) (hI : IntsAt W (.slice (some ⟨bt, ao, none⟩) m k) tg)
    (hc : CaAt W bc ca) (hp : PoAt W bp po) (g : w.grownBy W none) (q0 : bp < wp) (q1 : wp ≤ bt) (q3 : bt < bc) (q4 : bc < b) (qb : w.heap.size ≤ wp) (qbp : w.heap.size ≤ bp) (q2 : bt < W.heap.size) (hl : tg.length = m) (ho : (La.mk tg tol ca po n).Ok) :
    LaAt (W.setCell ⟨b, 4, none⟩ (.int .i64 n)) ⟨b, bc, bp, bt⟩ ⟨tg, tol, ca, po, n⟩ ∧ w.grownBy (W.setCell ⟨b, 4, none⟩ (.int .i64 n)) none ∧ ∀ x ∈ (LBl.mk b bc bp bt).F, w.heap.size ≤ x := by
  subst hl
  have hc2 : Chg [b] W (W.setCell ⟨b, 4, none⟩ (.int .i64 n)) := (chg_refl W [b]).set (.inl (by simp)) _
  refine ⟨⟨⟨ao, k, by rw [at_set hR]; rfl, ints_chg hI hc2 (fun a n c e => by cases e; simp; omega)⟩, hc.chg hc2 (by simp; omega), hp.chg hc2 (by simp; omega), Nat.lt_of_lt_of_le q2 hc2.size, ⟨by show b ≠ bc; omega, by show b ≠ bp; omega, by show b ≠ bt; omega, by show bc ≠ bp; omega, by show bc ≠ bt; omega, by show bp ≠ bt; omega⟩, ho⟩,
    ((chg_grown g []).trans hc2 (fun y hy => by rw [List.mem_singleton] at hy; subst hy; exact .inr (by omega))).free (fun y hy => by cases hy), fun x hx => ?_⟩
  simp only [List.mem_cons, List.mem_singleton, List.not_mem_nil, or_false] at hx
  rcases hx with rfl | rfl | rfl | rfl <;> omega
theorem in_bounds {s : La} (h : s.Ok) : 0 ≤ s.n ∧ s.n ≤ 10000 := La.n_in h
/-- a configuration's Law as it is made -/
@[reducible] def laOf (c : Conf) (m u d : Nat) (first : Int) : La := ⟨tgOf c m, c.tol, ⟨u, d, []⟩, ⟨rt c, [first]⟩, first⟩
set_option maxHeartbeats 3200000 in
theorem lnew_ok (c : Conf) (first : Int) (m u d : Nat) (h0 : ((st22 c).getD ⟨#[]⟩).toList.isEmpty = true) (hm : c.m = (m : Int)) (hu : (u : Int) = c.calmup) (hd : (d : Int) = c.calmdown) (hm1 : 1 ≤ m) (hm4 : m ≤ 4) (hu60 : u ≤ 60) (hd60 : d ≤ 60) (hr : (rt c).may = true) (hi : inR (rt c) first = true) (hok : (laOf c m u d first).Ok) (w : World) :
    Calls Try.prog 8 #[cf c, .int .i64 first] w (LaMade w (laOf c m u d first)) := by
  have K := hid (boxc_new w c)
  have MY := hid (cmay_any c)
  rw [h0] at MY
  have PN := hid (ponew_ok c first hr hi)
  have hf : 0 ≤ first ∧ first ≤ 10000 := in_bounds hok
  have e1 : IntKind.i64.wrap first = first := IntWalk.i64_in _ (by omega)
  have HM := hid hm; have HU := hid hu; have HD := hid hd
  have HOK := hid hok
  have HTL := hid (tgOf_len c hm4)
  have hs := fun b u => tarr_h b 7 m hm4 u
  have CL := hid (fun (W : World) (h : W.heap[w.heap.size]? = some (.cells c.cells 27)) => lclone_any _ _ _ (tgOf c m) W (tgOf_at (conf_tg c) h hm4) (by rw [tgOf_len c hm4]; omega) (by rw [tgOf_len c hm4]; omega))
  rw [tgOf_len c hm4] at CL
  unfold laOf at *
  generalize tgOf c m = tg at *
  clear h0 hr hi hok hm1 hf hm hu hd
  go_enter Try.func8, Try.ntmps8
  go_wp2_with (refine wpList_conf K.out.box rfl rfl rfl rfl ?_)
  refine (MY.out _).mono ?_
  rintro e w1 ⟨rfl, hg⟩
  have K1 := hid (K.out.grown hg); clear hg MY
  go_wp2_with (refine wpList_conf K1.out.box rfl rfl rfl rfl ?_)
  refine (PN.out _).mono ?_
  rintro e zp ⟨bp, rfl, hp, hg, hb⟩
  have KP := hp; have KC := (K1.out.grown hg).box; have G := (K1.out.grown hg).g; have qbp : w.heap.size ≤ bp := Nat.le_trans K1.out.g.size hb; have q0 := hp.lt; have qb := G.size
  clear hp hg hb PN K K1
  generalize w.heap.size = xb at KC CL
  go_wp2_with fail
  refine wp_region_held_drew (S := (fun w' => (w.grownBy w' none) ∧ (w'.heap[xb]? = some (.cells c.cells 27)) ∧ (PoAt w' bp ⟨rt c, [first]⟩))) (by kernel_rfl) ⟨gb_drew G, KC, KP.drew⟩ (fun hHeld => ?_)
  try dsimp only at hHeld
  refine' wpAnyH_take (i := 0) (v := _) rfl (by kernel_rfl) (by kernel_rfl) (by kernel_rfl) (fun _ _ _ h => h) (Or.inl ⟨by rfl, ?_⟩) hHeld ?_
  rotate_left
  · (intro w hSw; (try dsimp only at hSw); go_simp; try with_reducible rfl)
  try simp only [Act.put, List.setIfInBounds_toArray, List.set_cons_zero, List.set_cons_succ, List.getElem_toArray, List.getElem_cons_succ, List.getElem_cons_zero]
  refine' wpAnyH_take (i := 1) (v := _) rfl (by kernel_rfl) (by kernel_rfl) (by kernel_rfl) (fun _ _ _ h => h) (Or.inl ⟨by rfl, ?_⟩) hHeld ?_
  rotate_left
  · (intro w hSw; (try dsimp only at hSw); go_simp; try with_reducible rfl)
  try simp only [Act.put, List.setIfInBounds_toArray, List.set_cons_zero, List.set_cons_succ, List.getElem_toArray, List.getElem_cons_succ, List.getElem_cons_zero]
  refine' wpAnyH_take (i := 2) (v := _) rfl (by kernel_rfl) (by kernel_rfl) (by kernel_rfl) (fun _ _ _ h => h) (Or.inl ⟨by rfl, ?_⟩) hHeld ?_
  rotate_left
  · (intro w hSw; (try dsimp only at hSw); obtain ⟨G, KC, KP⟩ := hSw; have k2 : w.cell? ⟨xb, 2, none⟩ = some (.int .i64 (m : Int)) := (at_cell KC 2).trans (congrArg (fun z => some (Value.int .i64 z)) HM.out); go_simp; try with_reducible rfl)
  try simp only [Act.put, List.setIfInBounds_toArray, List.set_cons_zero, List.set_cons_succ, List.getElem_toArray, List.getElem_cons_succ, List.getElem_cons_zero]
  refine' wpAnyH_take (i := 3) (v := _) rfl (by kernel_rfl) (by kernel_rfl) (by kernel_rfl) (fun _ _ _ h => h) (Or.inl ⟨by rfl, ?_⟩) hHeld ?_
  rotate_left
  · (intro w hSw; (try dsimp only at hSw); go_simp; try with_reducible rfl)
  try simp only [Act.put, List.setIfInBounds_toArray, List.set_cons_zero, List.set_cons_succ, List.getElem_toArray, List.getElem_cons_succ, List.getElem_cons_zero]
  refine' wpAnyH_take (i := 5) (v := _) rfl (by kernel_rfl) (by kernel_rfl) (by kernel_rfl) (fun _ _ _ h => h) (Or.inl ⟨by rfl, ?_⟩) hHeld ?_
  rotate_left
  · (intro w hSw; (try dsimp only at hSw); go_simp; try with_reducible rfl)
  try simp only [Act.put, List.setIfInBounds_toArray, List.set_cons_zero, List.set_cons_succ, List.getElem_toArray, List.getElem_cons_succ, List.getElem_cons_zero]
  refine' wpAnyH_take (i := 6) (v := _) rfl (by kernel_rfl) (by kernel_rfl) (by kernel_rfl) (fun _ _ _ h => h) (Or.inl ⟨by rfl, ?_⟩) hHeld ?_
  rotate_left
  · (intro w hSw; (try dsimp only at hSw); obtain ⟨G, KC, KP⟩ := hSw; have k11 := at_cell KC 11; go_simp; try with_reducible rfl)
  try simp only [Act.put, List.setIfInBounds_toArray, List.set_cons_zero, List.set_cons_succ, List.getElem_toArray, List.getElem_cons_succ, List.getElem_cons_zero]
  refine' wpAnyH_take (i := 7) (v := _) rfl (by kernel_rfl) (by kernel_rfl) (by kernel_rfl) (fun _ _ _ h => h) (Or.inl ⟨by rfl, ?_⟩) hHeld ?_
  rotate_left
  · (intro w hSw; (try dsimp only at hSw); go_simp; try with_reducible rfl)
  try simp only [Act.put, List.setIfInBounds_toArray, List.set_cons_zero, List.set_cons_succ, List.getElem_toArray, List.getElem_cons_succ, List.getElem_cons_zero]
  refine' wpAnyH_take (i := 8) (v := _) rfl (by kernel_rfl) (by kernel_rfl) (by kernel_rfl) (fun _ _ _ h => h) (Or.inl ⟨by rfl, ?_⟩) hHeld ?_
  rotate_left
  · (intro w hSw; (try dsimp only at hSw); obtain ⟨G, KC, KP⟩ := hSw; have k14 := at_cell KC 14; go_simp; try with_reducible rfl)
  try simp only [Act.put, List.setIfInBounds_toArray, List.set_cons_zero, List.set_cons_succ, List.getElem_toArray, List.getElem_cons_succ, List.getElem_cons_zero]
  refine' wpAnyH_take (i := 9) (v := _) rfl (by kernel_rfl) (by kernel_rfl) (by kernel_rfl) (fun _ _ _ h => h) (Or.inl ⟨by rfl, ?_⟩) hHeld ?_
  rotate_left
  · (intro w hSw; (try dsimp only at hSw); go_simp; try with_reducible rfl)
  try simp only [Act.put, List.setIfInBounds_toArray, List.set_cons_zero, List.set_cons_succ, List.getElem_toArray, List.getElem_cons_succ, List.getElem_cons_zero]
  refine' wpAnyH_take (i := 10) (v := _) rfl (by kernel_rfl) (by kernel_rfl) (by kernel_rfl) (fun _ _ _ h => h) (Or.inl ⟨by rfl, ?_⟩) hHeld ?_
  rotate_left
  · (intro w hSw; (try dsimp only at hSw); obtain ⟨G, KC, KP⟩ := hSw; have k15 := at_cell KC 15; go_simp; try with_reducible rfl)
  try simp only [Act.put, List.setIfInBounds_toArray, List.set_cons_zero, List.set_cons_succ, List.getElem_toArray, List.getElem_cons_succ, List.getElem_cons_zero]
  refine' wpAnyH_take (i := 12) (v := _) rfl (by kernel_rfl) (by kernel_rfl) (by kernel_rfl) (fun _ _ _ h => h) (Or.inl ⟨by rfl, ?_⟩) hHeld ?_
  rotate_left
  · (intro w hSw; (try dsimp only at hSw); go_simp; try with_reducible rfl)
  try simp only [Act.put, List.setIfInBounds_toArray, List.set_cons_zero, List.set_cons_succ, List.getElem_toArray, List.getElem_cons_succ, List.getElem_cons_zero]
  refine wpAnyH_ready (rs := [4]) (by kernel_rfl) (by simp) ?_
  refine AllReadyH.cons (o := _) rfl (fun K hK => ?_) AllReadyH.nil
  try simp only [List.getElem_toArray, List.getElem_cons_succ, List.getElem_cons_zero]
  go_simp
  have hH2 := hHeld
  obtain ⟨G, KC, KP⟩ := hH2
  refine ((CL.out _ KC)).mono ?_
  rintro e w1004 ⟨bt, ao, k, rfl, hit, hbt, hlt, hg⟩
  have L4 := hid (show (w.grownBy w1004 none) ∧ (w1004.heap[xb]? = some (.cells c.cells 27)) ∧ (PoAt w1004 bp ⟨rt c, [first]⟩) from ⟨gb_trans G hg (.inl rfl), at_grown KC hg (by simp), KP.grown hg⟩)
  have NIT := hid (show IntsAt w1004 (.slice (some ⟨bt, ao, none⟩) m k) tg from hit)
  have Nq1 := hid (show zp.heap.size ≤ bt from hbt)
  have Nq2 := hid (show bt < w1004.heap.size from hlt)
  clear hHeld hg G KC KP
  go_wp2_with fail
  refine hK.out _ _ ?_ (fun hHeld => ?_)
  · exact L4.out
  clear hK K
  try dsimp only at hHeld
  try simp only [Act.put, List.setIfInBounds_toArray, List.set_cons_zero, List.set_cons_succ, List.getElem_toArray, List.getElem_cons_succ, List.getElem_cons_zero]
  refine held_stronger (S' := fun w' => (fun w' => IntsAt w' (.slice (some ⟨bt, ao, none⟩) m k) tg) w' ∧ ((fun w' => (w.grownBy w' none) ∧ (w'.heap[xb]? = some (.cells c.cells 27)) ∧ (PoAt w' bp ⟨rt c, [first]⟩))) w') (fun _ h => h.2) _ _ _ _ ?_
  replace hHeld := And.intro NIT.out hHeld
  try dsimp only at hHeld
  refine held_stronger (S' := fun w' => (fun w' => zp.heap.size ≤ bt) w' ∧ ((fun w' => (IntsAt w' (.slice (some ⟨bt, ao, none⟩) m k) tg) ∧ (w.grownBy w' none) ∧ (w'.heap[xb]? = some (.cells c.cells 27)) ∧ (PoAt w' bp ⟨rt c, [first]⟩))) w') (fun _ h => h.2) _ _ _ _ ?_
  replace hHeld := And.intro Nq1.out hHeld
  try dsimp only at hHeld
  refine held_stronger (S' := fun w' => (fun w' => bt < w'.heap.size) w' ∧ ((fun w' => (zp.heap.size ≤ bt) ∧ (IntsAt w' (.slice (some ⟨bt, ao, none⟩) m k) tg) ∧ (w.grownBy w' none) ∧ (w'.heap[xb]? = some (.cells c.cells 27)) ∧ (PoAt w' bp ⟨rt c, [first]⟩))) w') (fun _ h => h.2) _ _ _ _ ?_
  replace hHeld := And.intro Nq2.out hHeld
  try dsimp only at hHeld
  refine wpAnyH_ready (rs := [11]) (by kernel_rfl) (by simp) ?_
  refine AllReadyH.cons (o := _) rfl (fun K hK => ?_) AllReadyH.nil
  try simp only [List.getElem_toArray, List.getElem_cons_succ, List.getElem_cons_zero]
  go_simp
  have hH2 := hHeld
  obtain ⟨q2, q1, IT, G, KC, KP⟩ := hH2
  refine ((new_as u d HU.out HD.out hu60 hd60 _)).mono ?_
  rintro e w1011 ⟨bc, rfl, hca, hg, hbc⟩
  have L11 := hid (show (bt < w1011.heap.size) ∧ (zp.heap.size ≤ bt) ∧ (IntsAt w1011 (.slice (some ⟨bt, ao, none⟩) m k) tg) ∧ (w.grownBy w1011 none) ∧ (w1011.heap[xb]? = some (.cells c.cells 27)) ∧ (PoAt w1011 bp ⟨rt c, [first]⟩) from ⟨Nat.lt_of_lt_of_le q2 hg.size, q1, IT.grown hg, gb_trans G hg (.inl rfl), at_grown KC hg (by simp), KP.grown hg⟩)
  have Nq3 := hid (show bt < bc from Nat.lt_of_lt_of_le q2 hbc)
  have Nq4 := hid (show bc < w1011.heap.size from hca.lt)
  have NCA := hid (show CaAt w1011 bc ⟨u, d, []⟩ from hca)
  clear hHeld hg q2 q1 IT G KC KP
  go_wp2_with fail
  refine hK.out _ _ ?_ (fun hHeld => ?_)
  · exact L11.out
  clear hK K
  try dsimp only at hHeld
  try simp only [Act.put, List.setIfInBounds_toArray, List.set_cons_zero, List.set_cons_succ, List.getElem_toArray, List.getElem_cons_succ, List.getElem_cons_zero]
  refine held_stronger (S' := fun w' => (fun w' => bt < bc) w' ∧ ((fun w' => (bt < w'.heap.size) ∧ (zp.heap.size ≤ bt) ∧ (IntsAt w' (.slice (some ⟨bt, ao, none⟩) m k) tg) ∧ (w.grownBy w' none) ∧ (w'.heap[xb]? = some (.cells c.cells 27)) ∧ (PoAt w' bp ⟨rt c, [first]⟩))) w') (fun _ h => h.2) _ _ _ _ ?_
  replace hHeld := And.intro Nq3.out hHeld
  try dsimp only at hHeld
  refine held_stronger (S' := fun w' => (fun w' => bc < w1011.heap.size) w' ∧ ((fun w' => (bt < bc) ∧ (bt < w'.heap.size) ∧ (zp.heap.size ≤ bt) ∧ (IntsAt w' (.slice (some ⟨bt, ao, none⟩) m k) tg) ∧ (w.grownBy w' none) ∧ (w'.heap[xb]? = some (.cells c.cells 27)) ∧ (PoAt w' bp ⟨rt c, [first]⟩))) w') (fun _ h => h.2) _ _ _ _ ?_
  replace hHeld := And.intro Nq4.out hHeld
  try dsimp only at hHeld
  refine held_stronger (S' := fun w' => (fun w' => CaAt w' bc ⟨u, d, []⟩) w' ∧ ((fun w' => (bc < w1011.heap.size) ∧ (bt < bc) ∧ (bt < w'.heap.size) ∧ (zp.heap.size ≤ bt) ∧ (IntsAt w' (.slice (some ⟨bt, ao, none⟩) m k) tg) ∧ (w.grownBy w' none) ∧ (w'.heap[xb]? = some (.cells c.cells 27)) ∧ (PoAt w' bp ⟨rt c, [first]⟩))) w') (fun _ h => h.2) _ _ _ _ ?_
  replace hHeld := And.intro NCA.out hHeld
  try dsimp only at hHeld
  refine' wpAnyH_take (i := 13) (v := _) rfl (by kernel_rfl) (by kernel_rfl) (by kernel_rfl) (fun _ _ _ h => h) (Or.inl ⟨by rfl, ?_⟩) hHeld ?_
  rotate_left
  · (intro w hSw; (try dsimp only at hSw); go_simp; try with_reducible rfl)
  try simp only [Act.put, List.setIfInBounds_toArray, List.set_cons_zero, List.set_cons_succ, List.getElem_toArray, List.getElem_cons_succ, List.getElem_cons_zero]
  refine wpAnyH_ready (rs := [14]) (by kernel_rfl) (by simp) ?_
  refine AllReadyH.cons (o := _) rfl (fun K hK => ?_) AllReadyH.nil
  have hH2 := hHeld
  obtain ⟨CA, q4, q3, q2, q1, IT, G, KC, KP⟩ := hH2
  have hg : w1011.grownBy (w1011.alloc (.cells (laCells ⟨w1011.heap.size, bc, bp, bt⟩ ao k m c.tol 0) 56)) none := World.grownBy_alloc _ _ _
  have L14 := hid (show (CaAt ((w1011.alloc (.cells (laCells ⟨w1011.heap.size, bc, bp, bt⟩ ao k m c.tol 0) 56))) bc ⟨u, d, []⟩) ∧ (bc < w1011.heap.size) ∧ (bt < bc) ∧ (bt < ((w1011.alloc (.cells (laCells ⟨w1011.heap.size, bc, bp, bt⟩ ao k m c.tol 0) 56))).heap.size) ∧ (zp.heap.size ≤ bt) ∧ (IntsAt ((w1011.alloc (.cells (laCells ⟨w1011.heap.size, bc, bp, bt⟩ ao k m c.tol 0) 56))) (.slice (some ⟨bt, ao, none⟩) m k) tg) ∧ (w.grownBy ((w1011.alloc (.cells (laCells ⟨w1011.heap.size, bc, bp, bt⟩ ao k m c.tol 0) 56))) none) ∧ (((w1011.alloc (.cells (laCells ⟨w1011.heap.size, bc, bp, bt⟩ ao k m c.tol 0) 56))).heap[xb]? = some (.cells c.cells 27)) ∧ (PoAt ((w1011.alloc (.cells (laCells ⟨w1011.heap.size, bc, bp, bt⟩ ao k m c.tol 0) 56))) bp ⟨rt c, [first]⟩) from ⟨CA.grown hg, q4, q3, Nat.lt_of_lt_of_le q2 hg.size, q1, IT.grown hg, gb_trans G hg (.inl rfl), at_grown KC hg (by simp), KP.grown hg⟩)
  have NRW := hid (show ((w1011.alloc (.cells (laCells ⟨w1011.heap.size, bc, bp, bt⟩ ao k m c.tol 0) 56))).heap[w1011.heap.size]? = some (.cells (laCells ⟨w1011.heap.size, bc, bp, bt⟩ ao k m c.tol 0) 56) from at_new _ _)
  clear hHeld hg CA q4 q3 q2 q1 IT G KC KP
  try simp only [List.getElem_toArray, List.getElem_cons_succ, List.getElem_cons_zero]
  go_simp
  refine hK.out _ _ ?_ (fun hHeld => ?_)
  · exact L14.out
  clear hK K
  try dsimp only at hHeld
  try simp only [Act.put, List.setIfInBounds_toArray, List.set_cons_zero, List.set_cons_succ, List.getElem_toArray, List.getElem_cons_succ, List.getElem_cons_zero]
  refine held_stronger (S' := fun w' => (fun w' => w'.heap[w1011.heap.size]? = some (.cells (laCells ⟨w1011.heap.size, bc, bp, bt⟩ ao k m c.tol 0) 56)) w' ∧ ((fun w' => (CaAt w' bc ⟨u, d, []⟩) ∧ (bc < w1011.heap.size) ∧ (bt < bc) ∧ (bt < w'.heap.size) ∧ (zp.heap.size ≤ bt) ∧ (IntsAt w' (.slice (some ⟨bt, ao, none⟩) m k) tg) ∧ (w.grownBy w' none) ∧ (w'.heap[xb]? = some (.cells c.cells 27)) ∧ (PoAt w' bp ⟨rt c, [first]⟩))) w') (fun _ h => h.2) _ _ _ _ ?_
  replace hHeld := And.intro NRW.out hHeld
  try dsimp only at hHeld
  refine' wpAnyH_take (i := 15) (v := _) rfl (by kernel_rfl) (by kernel_rfl) (by kernel_rfl) (fun _ _ _ h => h) (Or.inl ⟨by rfl, ?_⟩) hHeld ?_
  rotate_left
  · (intro w hSw; (try dsimp only at hSw); go_simp; try with_reducible rfl)
  try simp only [Act.put, List.setIfInBounds_toArray, List.set_cons_zero, List.set_cons_succ, List.getElem_toArray, List.getElem_cons_succ, List.getElem_cons_zero]
  refine wpAnyH_done (by kernel_rfl) ?_ _
  obtain ⟨RW, CA, q4, q3, q2, q1, IT, G, KC, KP⟩ := hHeld
  generalize hWB : w1011.alloc (.cells (laCells ⟨w1011.heap.size, bc, bp, bt⟩ ao k m c.tol 0) 56) = WB at *
  generalize w1011.heap.size = bb at *
  have FIN := hid (lnew_fin (n := first) RW IT CA KP G q0 q1 q3 q4 qb qbp q2 HTL.out HOK.out)
  clear hWB
  have S0 := hid (store_i64 _ first _ _ (at_cell RW 4) (at_free RW 4))
  clear G KC KP IT q1 q2 q3 q4 CA RW
  go_wp2_with fail
  refine S0.out.mono ?_
  rintro e w9 ⟨rfl, rfl⟩
  go_wp2_with fail
  go_ret
  exact ⟨⟨bb, bc, bp, bt⟩, rfl, FIN.out.1, FIN.out.2.1, FIN.out.2.2⟩
end Go.Proofs.Ythobbekocimcnaa
end
section
set_option linter.unusedSimpArgs false
namespace Go.Proofs.Ythobbekocimcnaa
set_option maxRecDepth 100000
open Go.RowKit

theorem third {n f : Int} (h1 : 1 ≤ n) (h2 : n ≤ 16) : cwithin f 0 (wrap64 ((wrap64 (n - 1)).tdiv 3)) = (decide (0 ≤ f) && decide (3 * f + 1 ≤ n)) := by
  rw [wrap_small (x := n - 1) (by omega) (by omega), Int.tdiv_eq_ediv_of_nonneg (by omega), wrap_small (by omega) (by omega)]
  unfold cwithin
  congr 1
  rw [decide_eq_decide]
  omega
theorem no1 {c : Conf} (hb : cwithin c.n 1 16 = false) : st22 c = some ⟨#[110]⟩ := by
  have h1 : st1 c = some ⟨#[110]⟩ := by unfold st1; rw [hb]; rfl
  simp only [st2, st3, st4, st5, st6, st7, st8, st9, st10, st11, st12, st13, st14, st15, st16, st17, st18, st19, st20, st21, st22, h1, ask1]
theorem ok1 {c : Conf} (hb : cwithin c.n 1 16 = true) : st1 c = none := by unfold st1; rw [hb]; rfl
theorem no2 {c : Conf} (h : st1 c = none) (hb : cwithin c.f 0 (wrap64 ((wrap64 (c.n - 1)).tdiv 3)) = false) : st22 c = some ⟨#[102]⟩ := by
  have h1 : st2 c = some ⟨#[102]⟩ := by unfold st2; rw [h, hb]; rfl
  simp only [st3, st4, st5, st6, st7, st8, st9, st10, st11, st12, st13, st14, st15, st16, st17, st18, st19, st20, st21, st22, h1, ask1]
theorem ok2 {c : Conf} (h : st1 c = none) (hb : cwithin c.f 0 (wrap64 ((wrap64 (c.n - 1)).tdiv 3)) = true) : st2 c = none := by unfold st2; rw [h, hb]; rfl
theorem no3 {c : Conf} (h : st2 c = none) (hb : cwithin c.m 1 4 = false) : st22 c = some ⟨#[109]⟩ := by
  have h1 : st3 c = some ⟨#[109]⟩ := by unfold st3; rw [h, hb]; rfl
  simp only [st4, st5, st6, st7, st8, st9, st10, st11, st12, st13, st14, st15, st16, st17, st18, st19, st20, st21, st22, h1, ask1]
theorem ok3 {c : Conf} (h : st2 c = none) (hb : cwithin c.m 1 4 = true) : st3 c = none := by unfold st3; rw [h, hb]; rfl
theorem no4 {c : Conf} (h : st3 c = none) (hb : cwithin c.quorum (wrap64 (wrap64 (2 * c.f) + 1)) c.n = false) : st22 c = some ⟨#[113, 117, 111, 114, 117, 109]⟩ := by
  have h1 : st4 c = some ⟨#[113, 117, 111, 114, 117, 109]⟩ := by unfold st4; rw [h, hb]; rfl
  simp only [st5, st6, st7, st8, st9, st10, st11, st12, st13, st14, st15, st16, st17, st18, st19, st20, st21, st22, h1, ask1]
theorem ok4 {c : Conf} (h : st3 c = none) (hb : cwithin c.quorum (wrap64 (wrap64 (2 * c.f) + 1)) c.n = true) : st4 c = none := by unfold st4; rw [h, hb]; rfl
theorem no5 {c : Conf} (h : st4 c = none) (hb : cwithin c.fresh 1 8 = false) : st22 c = some ⟨#[102, 114, 101, 115, 104]⟩ := by
  have h1 : st5 c = some ⟨#[102, 114, 101, 115, 104]⟩ := by unfold st5; rw [h, hb]; rfl
  simp only [st6, st7, st8, st9, st10, st11, st12, st13, st14, st15, st16, st17, st18, st19, st20, st21, st22, h1, ask1]
theorem ok5 {c : Conf} (h : st4 c = none) (hb : cwithin c.fresh 1 8 = true) : st5 c = none := by unfold st5; rw [h, hb]; rfl
theorem no6 {c : Conf} (h : st5 c = none) (hb : cwithin c.grace 1 100 = false) : st22 c = some ⟨#[103, 114, 97, 99, 101]⟩ := by
  have h1 : st6 c = some ⟨#[103, 114, 97, 99, 101]⟩ := by unfold st6; rw [h, hb]; rfl
  simp only [st7, st8, st9, st10, st11, st12, st13, st14, st15, st16, st17, st18, st19, st20, st21, st22, h1, ask1]
theorem ok6 {c : Conf} (h : st5 c = none) (hb : cwithin c.grace 1 100 = true) : st6 c = none := by unfold st6; rw [h, hb]; rfl
theorem no7 {c : Conf} (h : st6 c = none) (hb : cwithin c.window 1 64 = false) : st22 c = some ⟨#[119, 105, 110, 100, 111, 119]⟩ := by
  have h1 : st7 c = some ⟨#[119, 105, 110, 100, 111, 119]⟩ := by unfold st7; rw [h, hb]; rfl
  simp only [st8, st9, st10, st11, st12, st13, st14, st15, st16, st17, st18, st19, st20, st21, st22, h1, ask1]
theorem ok7 {c : Conf} (h : st6 c = none) (hb : cwithin c.window 1 64 = true) : st7 c = none := by unfold st7; rw [h, hb]; rfl
theorem no8 {c : Conf} (h : st7 c = none) (hb : tgts c.m c.t0 c.t1 c.t2 c.t3 = false) : st22 c = some ⟨#[116, 97, 114, 103, 101, 116]⟩ := by
  have h1 : st8 c = some ⟨#[116, 97, 114, 103, 101, 116]⟩ := by unfold st8; rw [h, hb]; rfl
  simp only [st9, st10, st11, st12, st13, st14, st15, st16, st17, st18, st19, st20, st21, st22, h1, ask1]
theorem ok8 {c : Conf} (h : st7 c = none) (hb : tgts c.m c.t0 c.t1 c.t2 c.t3 = true) : st8 c = none := by unfold st8; rw [h, hb]; rfl
theorem no9 {c : Conf} (h : st8 c = none) (hb : cwithin c.tol 0 1000 = false) : st22 c = some ⟨#[116, 111, 108]⟩ := by
  have h1 : st9 c = some ⟨#[116, 111, 108]⟩ := by unfold st9; rw [h, hb]; rfl
  simp only [st10, st11, st12, st13, st14, st15, st16, st17, st18, st19, st20, st21, st22, h1, ask1]
theorem ok9 {c : Conf} (h : st8 c = none) (hb : cwithin c.tol 0 1000 = true) : st9 c = none := by unfold st9; rw [h, hb]; rfl
theorem no10 {c : Conf} (h : st9 c = none) (hb : cwithin c.min 1 10000 = false) : st22 c = some ⟨#[109, 105, 110]⟩ := by
  have h1 : st10 c = some ⟨#[109, 105, 110]⟩ := by unfold st10; rw [h, hb]; rfl
  simp only [st11, st12, st13, st14, st15, st16, st17, st18, st19, st20, st21, st22, h1, ask1]
theorem ok10 {c : Conf} (h : st9 c = none) (hb : cwithin c.min 1 10000 = true) : st10 c = none := by unfold st10; rw [h, hb]; rfl
theorem no11 {c : Conf} (h : st10 c = none) (hb : cwithin c.max c.min 10000 = false) : st22 c = some ⟨#[109, 97, 120]⟩ := by
  have h1 : st11 c = some ⟨#[109, 97, 120]⟩ := by unfold st11; rw [h, hb]; rfl
  simp only [st12, st13, st14, st15, st16, st17, st18, st19, st20, st21, st22, h1, ask1]
theorem ok11 {c : Conf} (h : st10 c = none) (hb : cwithin c.max c.min 10000 = true) : st11 c = none := by unfold st11; rw [h, hb]; rfl
theorem no12 {c : Conf} (h : st11 c = none) (hb : cwithin c.calmup 0 60 = false) : st22 c = some ⟨#[99, 97, 108, 109, 117, 112]⟩ := by
  have h1 : st12 c = some ⟨#[99, 97, 108, 109, 117, 112]⟩ := by unfold st12; rw [h, hb]; rfl
  simp only [st13, st14, st15, st16, st17, st18, st19, st20, st21, st22, h1, ask1]
theorem ok12 {c : Conf} (h : st11 c = none) (hb : cwithin c.calmup 0 60 = true) : st12 c = none := by unfold st12; rw [h, hb]; rfl
theorem no13 {c : Conf} (h : st12 c = none) (hb : cwithin c.calmdown 0 60 = false) : st22 c = some ⟨#[99, 97, 108, 109, 100, 111, 119, 110]⟩ := by
  have h1 : st13 c = some ⟨#[99, 97, 108, 109, 100, 111, 119, 110]⟩ := by unfold st13; rw [h, hb]; rfl
  simp only [st14, st15, st16, st17, st18, st19, st20, st21, st22, h1, ask1]
theorem ok13 {c : Conf} (h : st12 c = none) (hb : cwithin c.calmdown 0 60 = true) : st13 c = none := by unfold st13; rw [h, hb]; rfl
theorem no14 {c : Conf} (h : st13 c = none) (hb : cwithin c.podsup 1 1000 = false) : st22 c = some ⟨#[112, 111, 100, 115, 117, 112]⟩ := by
  have h1 : st14 c = some ⟨#[112, 111, 100, 115, 117, 112]⟩ := by unfold st14; rw [h, hb]; rfl
  simp only [st15, st16, st17, st18, st19, st20, st21, st22, h1, ask1]
theorem ok14 {c : Conf} (h : st13 c = none) (hb : cwithin c.podsup 1 1000 = true) : st14 c = none := by unfold st14; rw [h, hb]; rfl
theorem no15 {c : Conf} (h : st14 c = none) (hb : cwithin c.pctup 1 1000 = false) : st22 c = some ⟨#[112, 99, 116, 117, 112]⟩ := by
  have h1 : st15 c = some ⟨#[112, 99, 116, 117, 112]⟩ := by unfold st15; rw [h, hb]; rfl
  simp only [st16, st17, st18, st19, st20, st21, st22, h1, ask1]
theorem ok15 {c : Conf} (h : st14 c = none) (hb : cwithin c.pctup 1 1000 = true) : st15 c = none := by unfold st15; rw [h, hb]; rfl
theorem no16 {c : Conf} (h : st15 c = none) (hb : cwithin c.podsdown 1 1000 = false) : st22 c = some ⟨#[112, 111, 100, 115, 100, 111, 119, 110]⟩ := by
  have h1 : st16 c = some ⟨#[112, 111, 100, 115, 100, 111, 119, 110]⟩ := by unfold st16; rw [h, hb]; rfl
  simp only [st17, st18, st19, st20, st21, st22, h1, ask1]
theorem ok16 {c : Conf} (h : st15 c = none) (hb : cwithin c.podsdown 1 1000 = true) : st16 c = none := by unfold st16; rw [h, hb]; rfl
theorem no17 {c : Conf} (h : st16 c = none) (hb : cwithin c.pctdown 1 100 = false) : st22 c = some ⟨#[112, 99, 116, 100, 111, 119, 110]⟩ := by
  have h1 : st17 c = some ⟨#[112, 99, 116, 100, 111, 119, 110]⟩ := by unfold st17; rw [h, hb]; rfl
  simp only [st18, st19, st20, st21, st22, h1, ask1]
theorem ok17 {c : Conf} (h : st16 c = none) (hb : cwithin c.pctdown 1 100 = true) : st17 c = none := by unfold st17; rw [h, hb]; rfl
theorem no18 {c : Conf} (h : st17 c = none) (hb : cwithin c.period 1 60 = false) : st22 c = some ⟨#[112, 101, 114, 105, 111, 100]⟩ := by
  have h1 : st18 c = some ⟨#[112, 101, 114, 105, 111, 100]⟩ := by unfold st18; rw [h, hb]; rfl
  simp only [st19, st20, st21, st22, h1, ask1]
theorem ok18 {c : Conf} (h : st17 c = none) (hb : cwithin c.period 1 60 = true) : st18 c = none := by unfold st18; rw [h, hb]; rfl
theorem no19 {c : Conf} (h : st18 c = none) (hb : cwithin c.far 0 1099511627776 = false) : st22 c = some ⟨#[102, 97, 114]⟩ := by
  have h1 : st19 c = some ⟨#[102, 97, 114]⟩ := by unfold st19; rw [h, hb]; rfl
  simp only [st20, st21, st22, h1, ask1]
theorem ok19 {c : Conf} (h : st18 c = none) (hb : cwithin c.far 0 1099511627776 = true) : st19 c = none := by unfold st19; rw [h, hb]; rfl
theorem no20 {c : Conf} (h : st19 c = none) (hb : cwithin c.strikes 1 100 = false) : st22 c = some ⟨#[115, 116, 114, 105, 107, 101, 115]⟩ := by
  have h1 : st20 c = some ⟨#[115, 116, 114, 105, 107, 101, 115]⟩ := by unfold st20; rw [h, hb]; rfl
  simp only [st21, st22, h1, ask1]
theorem ok20 {c : Conf} (h : st19 c = none) (hb : cwithin c.strikes 1 100 = true) : st20 c = none := by unfold st20; rw [h, hb]; rfl
theorem no21 {c : Conf} (h : st20 c = none) (hb : cwithin c.probe 1 100 = false) : st22 c = some ⟨#[112, 114, 111, 98, 101]⟩ := by
  have h1 : st21 c = some ⟨#[112, 114, 111, 98, 101]⟩ := by unfold st21; rw [h, hb]; rfl
  simp only [st22, h1, ask1]
theorem ok21 {c : Conf} (h : st20 c = none) (hb : cwithin c.probe 1 100 = true) : st21 c = none := by unfold st21; rw [h, hb]; rfl
theorem no22 {c : Conf} (h : st21 c = none) (hb : cwithin c.sectors 64 4096 = false) : st22 c = some ⟨#[115, 101, 99, 116, 111, 114, 115]⟩ := by
  have h1 : st22 c = some ⟨#[115, 101, 99, 116, 111, 114, 115]⟩ := by unfold st22; rw [h, hb]; rfl
  exact h1
theorem ok22 {c : Conf} (h : st21 c = none) (hb : cwithin c.sectors 64 4096 = true) : st22 c = none := by unfold st22; rw [h, hb]; rfl

end Go.Proofs.Ythobbekocimcnaa
end
