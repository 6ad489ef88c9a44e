/-
  Contract: the first part that may not be, as the program finds it. No condition.
  Contract: whether a configuration may be. No condition.
  Contract: the first part that may not be, as the document says it: it is what the program finds. No condition.
  A made configuration may be. No condition.
  Contract: the law's own examples: the program tells what the document says of a few. And: what a walk keeps of a configuration and objects of the call's own. No condition.
  What the laws of policy have in common: a made configuration's rates may be; a number that is made one within its ends. No condition.
  Contract: bytes.Equal. The condition: both read as bytes.
-/
import Derived.Test.YtecggbndlbkhdaaGreatY17
import Derived.Test.YtecggbndlbkhdaaGreatY15
import Derived.Deep.MidRow
import Derived.Test.YtecggbndlbkhdaaGreatY5
import Derived.Test.YtecggbndlbkhdaaGreatY18
import Derived.Test.YtecggbndlbkhdaaGreatY4
import Derived.Test.YtecggbndlbkhdaaGreatY9
import Derived.Test.YtecggbndlbkhdaaGreatY1
section
set_option linter.unusedSimpArgs false
namespace Go.Proofs.YtecggbndlbkhdaaGreat
set_option maxRecDepth 100000
open Go.RowKit

theorem told1_eq (st : Option ByteArray) : told1 st = ansObj (if st.isSome then 1 else 0) (st.getD ⟨#[]⟩) := by cases st <;> rfl

/-- the names, and whether each part may be, as the program reckons it -/
def st1 (c : Conf) : Option ByteArray := ask1 none ⟨#[110]⟩ (cwithin c.n 1 16)
def st2 (c : Conf) : Option ByteArray := ask1 (st1 c) ⟨#[102]⟩ (cwithin c.f 0 (wrap64 ((wrap64 (c.n - 1)).tdiv 3)))
def st3 (c : Conf) : Option ByteArray := ask1 (st2 c) ⟨#[109]⟩ (cwithin c.m 1 4)
def st4 (c : Conf) : Option ByteArray := ask1 (st3 c) ⟨#[113, 117, 111, 114, 117, 109]⟩ (cwithin c.quorum (wrap64 (wrap64 (2 * c.f) + 1)) c.n)
def st5 (c : Conf) : Option ByteArray := ask1 (st4 c) ⟨#[102, 114, 101, 115, 104]⟩ (cwithin c.fresh 1 8)
def st6 (c : Conf) : Option ByteArray := ask1 (st5 c) ⟨#[103, 114, 97, 99, 101]⟩ (cwithin c.grace 1 100)
def st7 (c : Conf) : Option ByteArray := ask1 (st6 c) ⟨#[119, 105, 110, 100, 111, 119]⟩ (cwithin c.window 1 64)
def st8 (c : Conf) : Option ByteArray := ask1 (st7 c) ⟨#[116, 97, 114, 103, 101, 116]⟩ (tgts c.m c.t0 c.t1 c.t2 c.t3)
def st9 (c : Conf) : Option ByteArray := ask1 (st8 c) ⟨#[116, 111, 108]⟩ (cwithin c.tol 0 1000)
def st10 (c : Conf) : Option ByteArray := ask1 (st9 c) ⟨#[109, 105, 110]⟩ (cwithin c.min 1 10000)
def st11 (c : Conf) : Option ByteArray := ask1 (st10 c) ⟨#[109, 97, 120]⟩ (cwithin c.max c.min 10000)
def st12 (c : Conf) : Option ByteArray := ask1 (st11 c) ⟨#[99, 97, 108, 109, 117, 112]⟩ (cwithin c.calmup 0 60)
def st13 (c : Conf) : Option ByteArray := ask1 (st12 c) ⟨#[99, 97, 108, 109, 100, 111, 119, 110]⟩ (cwithin c.calmdown 0 60)
def st14 (c : Conf) : Option ByteArray := ask1 (st13 c) ⟨#[112, 111, 100, 115, 117, 112]⟩ (cwithin c.podsup 1 1000)
def st15 (c : Conf) : Option ByteArray := ask1 (st14 c) ⟨#[112, 99, 116, 117, 112]⟩ (cwithin c.pctup 1 1000)
def st16 (c : Conf) : Option ByteArray := ask1 (st15 c) ⟨#[112, 111, 100, 115, 100, 111, 119, 110]⟩ (cwithin c.podsdown 1 1000)
def st17 (c : Conf) : Option ByteArray := ask1 (st16 c) ⟨#[112, 99, 116, 100, 111, 119, 110]⟩ (cwithin c.pctdown 1 100)
def st18 (c : Conf) : Option ByteArray := ask1 (st17 c) ⟨#[112, 101, 114, 105, 111, 100]⟩ (cwithin c.period 1 60)
def st19 (c : Conf) : Option ByteArray := ask1 (st18 c) ⟨#[102, 97, 114]⟩ (cwithin c.far 0 1099511627776)
def st20 (c : Conf) : Option ByteArray := ask1 (st19 c) ⟨#[115, 116, 114, 105, 107, 101, 115]⟩ (cwithin c.strikes 1 100)
def st21 (c : Conf) : Option ByteArray := ask1 (st20 c) ⟨#[112, 114, 111, 98, 101]⟩ (cwithin c.probe 1 100)
def st22 (c : Conf) : Option ByteArray := ask1 (st21 c) ⟨#[115, 101, 99, 116, 111, 114, 115]⟩ (cwithin c.sectors 64 4096)

/-- the function's own blocks: the configuration that came in, and the answer -/
structure WK (w : World) (c : Conf) (st : Option ByteArray) (w' : World) : Prop where
  box : BoxC w c w'
  ans : w'.heap[w.heap.size + 1]? = some (told1 st)
theorem WK.grown {w : World} {c : Conf} {st : Option ByteArray} {w1 w2 : World} (h : WK w c st w1) (hg : w1.grownBy w2 none) : WK w c st w2 := ⟨h.box.grown hg, at_grown h.ans hg (by simp)⟩
theorem WK.step {w : World} {c : Conf} {st st' : Option ByteArray} {w1 w2 : World} (h : WK w c st w1) (hb : w2.heap[w.heap.size + 1]? = some (told1 st')) (hg : w1.grownBy w2 (some (w.heap.size + 1))) : WK w c st' w2 :=
  ⟨⟨at_grown h.box.box hg (by simp), gb_trans h.box.g hg (.inr (.inr ⟨_, rfl, by omega⟩))⟩, hb⟩

set_option maxHeartbeats 6400000 in
theorem wrong_any (c : Conf) (w : World) :
    Calls Tryz.prog 125 #[cf c] w fun e w' => e = .returned (.string ((st22 c).getD ⟨#[]⟩)) ∧ w.grownBy w' none := by
  have hs0 : (w.alloc (.cells c.cells 27)).heap.size = w.heap.size + 1 := size_new _ _
  have h0 : WK w c none ((w.alloc (.cells c.cells 27)).alloc (ansObj 0 ⟨#[]⟩)) := ⟨(boxc_new w c).grown (World.grownBy_alloc _ _ _), by rw [← hs0]; exact at_new _ _⟩
  have H0 := hid h0; clear h0
  go_enter Tryz.func125, Tryz.ntmps125
  have z0 : ((w.alloc (.cells c.cells 27)).alloc (ansObj 0 ⟨#[]⟩)).cell? ⟨w.heap.size, 0, none⟩ = some (.int .i64 c.n) := at_cell H0.out.box.box 0
  go_wp2_with fail
  refine (cwithin_any _ _ _ _).mono ?_
  rintro e v1 ⟨rfl, rfl⟩
  clear z0
  go_wp2_with fail
  refine (ask_any (w.heap.size + 1) ⟨#[110]⟩ (cwithin c.n 1 16) none _ H0.out.ans).mono ?_
  rintro e w1 ⟨rfl, ha, hg⟩
  have H1 : Hid (WK w c (st1 c) w1) := hid (H0.out.step ha hg); clear ha hg H0
  have z1 : w1.cell? ⟨w.heap.size, 1, none⟩ = some (.int .i64 c.f) := at_cell H1.out.box.box 1
  have z0 : w1.cell? ⟨w.heap.size, 0, none⟩ = some (.int .i64 c.n) := at_cell H1.out.box.box 0
  go_wp2_with fail
  refine (cwithin_any _ _ _ _).mono ?_
  rintro e v2 ⟨rfl, rfl⟩
  clear z1 z0
  go_wp2_with fail
  refine (ask_any (w.heap.size + 1) ⟨#[102]⟩ (cwithin c.f 0 (wrap64 ((wrap64 (c.n - 1)).tdiv 3))) (st1 c) _ H1.out.ans).mono ?_
  rintro e w2 ⟨rfl, ha, hg⟩
  have H2 : Hid (WK w c (st2 c) w2) := hid (H1.out.step ha hg); clear ha hg H1
  have z2 : w2.cell? ⟨w.heap.size, 2, none⟩ = some (.int .i64 c.m) := at_cell H2.out.box.box 2
  go_wp2_with fail
  refine (cwithin_any _ _ _ _).mono ?_
  rintro e v3 ⟨rfl, rfl⟩
  clear z2
  go_wp2_with fail
  refine (ask_any (w.heap.size + 1) ⟨#[109]⟩ (cwithin c.m 1 4) (st2 c) _ H2.out.ans).mono ?_
  rintro e w3 ⟨rfl, ha, hg⟩
  have H3 : Hid (WK w c (st3 c) w3) := hid (H2.out.step ha hg); clear ha hg H2
  have z3 : w3.cell? ⟨w.heap.size, 3, none⟩ = some (.int .i64 c.quorum) := at_cell H3.out.box.box 3
  have z1 : w3.cell? ⟨w.heap.size, 1, none⟩ = some (.int .i64 c.f) := at_cell H3.out.box.box 1
  have z0 : w3.cell? ⟨w.heap.size, 0, none⟩ = some (.int .i64 c.n) := at_cell H3.out.box.box 0
  go_wp2_with fail
  refine (cwithin_any _ _ _ _).mono ?_
  rintro e v4 ⟨rfl, rfl⟩
  clear z3 z1 z0
  go_wp2_with fail
  refine (ask_any (w.heap.size + 1) ⟨#[113, 117, 111, 114, 117, 109]⟩ (cwithin c.quorum (wrap64 (wrap64 (2 * c.f) + 1)) c.n) (st3 c) _ H3.out.ans).mono ?_
  rintro e w4 ⟨rfl, ha, hg⟩
  have H4 : Hid (WK w c (st4 c) w4) := hid (H3.out.step ha hg); clear ha hg H3
  have z4 : w4.cell? ⟨w.heap.size, 4, none⟩ = some (.int .i64 c.fresh) := at_cell H4.out.box.box 4
  go_wp2_with fail
  refine (cwithin_any _ _ _ _).mono ?_
  rintro e v5 ⟨rfl, rfl⟩
  clear z4
  go_wp2_with fail
  refine (ask_any (w.heap.size + 1) ⟨#[102, 114, 101, 115, 104]⟩ (cwithin c.fresh 1 8) (st4 c) _ H4.out.ans).mono ?_
  rintro e w5 ⟨rfl, ha, hg⟩
  have H5 : Hid (WK w c (st5 c) w5) := hid (H4.out.step ha hg); clear ha hg H4
  have z5 : w5.cell? ⟨w.heap.size, 5, none⟩ = some (.int .i64 c.grace) := at_cell H5.out.box.box 5
  go_wp2_with fail
  refine (cwithin_any _ _ _ _).mono ?_
  rintro e v6 ⟨rfl, rfl⟩
  clear z5
  go_wp2_with fail
  refine (ask_any (w.heap.size + 1) ⟨#[103, 114, 97, 99, 101]⟩ (cwithin c.grace 1 100) (st5 c) _ H5.out.ans).mono ?_
  rintro e w6 ⟨rfl, ha, hg⟩
  have H6 : Hid (WK w c (st6 c) w6) := hid (H5.out.step ha hg); clear ha hg H5
  have z6 : w6.cell? ⟨w.heap.size, 6, none⟩ = some (.int .i64 c.window) := at_cell H6.out.box.box 6
  go_wp2_with fail
  refine (cwithin_any _ _ _ _).mono ?_
  rintro e v7 ⟨rfl, rfl⟩
  clear z6
  go_wp2_with fail
  refine (ask_any (w.heap.size + 1) ⟨#[119, 105, 110, 100, 111, 119]⟩ (cwithin c.window 1 64) (st6 c) _ H6.out.ans).mono ?_
  rintro e w7 ⟨rfl, ha, hg⟩
  have H7 : Hid (WK w c (st7 c) w7) := hid (H6.out.step ha hg); clear ha hg H6
  have z7 : w7.cell? ⟨w.heap.size, 7, none⟩ = some (.int .i64 c.t0) := at_cell H7.out.box.box 7
  have z8 : w7.cell? ⟨w.heap.size, 8, none⟩ = some (.int .i64 c.t1) := at_cell H7.out.box.box 8
  have z9 : w7.cell? ⟨w.heap.size, 9, none⟩ = some (.int .i64 c.t2) := at_cell H7.out.box.box 9
  have z10 : w7.cell? ⟨w.heap.size, 10, none⟩ = some (.int .i64 c.t3) := at_cell H7.out.box.box 10
  have z2 : w7.cell? ⟨w.heap.size, 2, none⟩ = some (.int .i64 c.m) := at_cell H7.out.box.box 2
  go_wp2_with fail
  refine (targets_any c.t0 c.t1 c.t2 c.t3 c.m _).mono ?_
  rintro e v8 ⟨rfl, hg⟩
  have K8 := hid (H7.out.grown hg); clear hg z7 z8 z9 z10 z2 H7
  go_wp2_with fail
  refine (ask_any (w.heap.size + 1) ⟨#[116, 97, 114, 103, 101, 116]⟩ (tgts c.m c.t0 c.t1 c.t2 c.t3) (st7 c) _ K8.out.ans).mono ?_
  rintro e w8 ⟨rfl, ha, hg⟩
  have H8 : Hid (WK w c (st8 c) w8) := hid (K8.out.step ha hg); clear ha hg K8
  have z11 : w8.cell? ⟨w.heap.size, 11, none⟩ = some (.int .i64 c.tol) := at_cell H8.out.box.box 11
  go_wp2_with fail
  refine (cwithin_any _ _ _ _).mono ?_
  rintro e v9 ⟨rfl, rfl⟩
  clear z11
  go_wp2_with fail
  refine (ask_any (w.heap.size + 1) ⟨#[116, 111, 108]⟩ (cwithin c.tol 0 1000) (st8 c) _ H8.out.ans).mono ?_
  rintro e w9 ⟨rfl, ha, hg⟩
  have H9 : Hid (WK w c (st9 c) w9) := hid (H8.out.step ha hg); clear ha hg H8
  have z12 : w9.cell? ⟨w.heap.size, 12, none⟩ = some (.int .i64 c.min) := at_cell H9.out.box.box 12
  go_wp2_with fail
  refine (cwithin_any _ _ _ _).mono ?_
  rintro e v10 ⟨rfl, rfl⟩
  clear z12
  go_wp2_with fail
  refine (ask_any (w.heap.size + 1) ⟨#[109, 105, 110]⟩ (cwithin c.min 1 10000) (st9 c) _ H9.out.ans).mono ?_
  rintro e w10 ⟨rfl, ha, hg⟩
  have H10 : Hid (WK w c (st10 c) w10) := hid (H9.out.step ha hg); clear ha hg H9
  have z13 : w10.cell? ⟨w.heap.size, 13, none⟩ = some (.int .i64 c.max) := at_cell H10.out.box.box 13
  have z12 : w10.cell? ⟨w.heap.size, 12, none⟩ = some (.int .i64 c.min) := at_cell H10.out.box.box 12
  go_wp2_with fail
  refine (cwithin_any _ _ _ _).mono ?_
  rintro e v11 ⟨rfl, rfl⟩
  clear z13 z12
  go_wp2_with fail
  refine (ask_any (w.heap.size + 1) ⟨#[109, 97, 120]⟩ (cwithin c.max c.min 10000) (st10 c) _ H10.out.ans).mono ?_
  rintro e w11 ⟨rfl, ha, hg⟩
  have H11 : Hid (WK w c (st11 c) w11) := hid (H10.out.step ha hg); clear ha hg H10
  have z14 : w11.cell? ⟨w.heap.size, 14, none⟩ = some (.int .i64 c.calmup) := at_cell H11.out.box.box 14
  go_wp2_with fail
  refine (cwithin_any _ _ _ _).mono ?_
  rintro e v12 ⟨rfl, rfl⟩
  clear z14
  go_wp2_with fail
  refine (ask_any (w.heap.size + 1) ⟨#[99, 97, 108, 109, 117, 112]⟩ (cwithin c.calmup 0 60) (st11 c) _ H11.out.ans).mono ?_
  rintro e w12 ⟨rfl, ha, hg⟩
  have H12 : Hid (WK w c (st12 c) w12) := hid (H11.out.step ha hg); clear ha hg H11
  have z15 : w12.cell? ⟨w.heap.size, 15, none⟩ = some (.int .i64 c.calmdown) := at_cell H12.out.box.box 15
  go_wp2_with fail
  refine (cwithin_any _ _ _ _).mono ?_
  rintro e v13 ⟨rfl, rfl⟩
  clear z15
  go_wp2_with fail
  refine (ask_any (w.heap.size + 1) ⟨#[99, 97, 108, 109, 100, 111, 119, 110]⟩ (cwithin c.calmdown 0 60) (st12 c) _ H12.out.ans).mono ?_
  rintro e w13 ⟨rfl, ha, hg⟩
  have H13 : Hid (WK w c (st13 c) w13) := hid (H12.out.step ha hg); clear ha hg H12
  have z16 : w13.cell? ⟨w.heap.size, 16, none⟩ = some (.int .i64 c.podsup) := at_cell H13.out.box.box 16
  go_wp2_with fail
  refine (cwithin_any _ _ _ _).mono ?_
  rintro e v14 ⟨rfl, rfl⟩
  clear z16
  go_wp2_with fail
  refine (ask_any (w.heap.size + 1) ⟨#[112, 111, 100, 115, 117, 112]⟩ (cwithin c.podsup 1 1000) (st13 c) _ H13.out.ans).mono ?_
  rintro e w14 ⟨rfl, ha, hg⟩
  have H14 : Hid (WK w c (st14 c) w14) := hid (H13.out.step ha hg); clear ha hg H13
  have z17 : w14.cell? ⟨w.heap.size, 17, none⟩ = some (.int .i64 c.pctup) := at_cell H14.out.box.box 17
  go_wp2_with fail
  refine (cwithin_any _ _ _ _).mono ?_
  rintro e v15 ⟨rfl, rfl⟩
  clear z17
  go_wp2_with fail
  refine (ask_any (w.heap.size + 1) ⟨#[112, 99, 116, 117, 112]⟩ (cwithin c.pctup 1 1000) (st14 c) _ H14.out.ans).mono ?_
  rintro e w15 ⟨rfl, ha, hg⟩
  have H15 : Hid (WK w c (st15 c) w15) := hid (H14.out.step ha hg); clear ha hg H14
  have z18 : w15.cell? ⟨w.heap.size, 18, none⟩ = some (.int .i64 c.podsdown) := at_cell H15.out.box.box 18
  go_wp2_with fail
  refine (cwithin_any _ _ _ _).mono ?_
  rintro e v16 ⟨rfl, rfl⟩
  clear z18
  go_wp2_with fail
  refine (ask_any (w.heap.size + 1) ⟨#[112, 111, 100, 115, 100, 111, 119, 110]⟩ (cwithin c.podsdown 1 1000) (st15 c) _ H15.out.ans).mono ?_
  rintro e w16 ⟨rfl, ha, hg⟩
  have H16 : Hid (WK w c (st16 c) w16) := hid (H15.out.step ha hg); clear ha hg H15
  have z19 : w16.cell? ⟨w.heap.size, 19, none⟩ = some (.int .i64 c.pctdown) := at_cell H16.out.box.box 19
  go_wp2_with fail
  refine (cwithin_any _ _ _ _).mono ?_
  rintro e v17 ⟨rfl, rfl⟩
  clear z19
  go_wp2_with fail
  refine (ask_any (w.heap.size + 1) ⟨#[112, 99, 116, 100, 111, 119, 110]⟩ (cwithin c.pctdown 1 100) (st16 c) _ H16.out.ans).mono ?_
  rintro e w17 ⟨rfl, ha, hg⟩
  have H17 : Hid (WK w c (st17 c) w17) := hid (H16.out.step ha hg); clear ha hg H16
  have z20 : w17.cell? ⟨w.heap.size, 20, none⟩ = some (.int .i64 c.period) := at_cell H17.out.box.box 20
  go_wp2_with fail
  refine (cwithin_any _ _ _ _).mono ?_
  rintro e v18 ⟨rfl, rfl⟩
  clear z20
  go_wp2_with fail
  refine (ask_any (w.heap.size + 1) ⟨#[112, 101, 114, 105, 111, 100]⟩ (cwithin c.period 1 60) (st17 c) _ H17.out.ans).mono ?_
  rintro e w18 ⟨rfl, ha, hg⟩
  have H18 : Hid (WK w c (st18 c) w18) := hid (H17.out.step ha hg); clear ha hg H17
  have z21 : w18.cell? ⟨w.heap.size, 21, none⟩ = some (.int .i64 c.far) := at_cell H18.out.box.box 21
  go_wp2_with fail
  refine (cwithin64_any _ _ _ _).mono ?_
  rintro e v19 ⟨rfl, rfl⟩
  clear z21
  go_wp2_with fail
  refine (ask_any (w.heap.size + 1) ⟨#[102, 97, 114]⟩ (cwithin c.far 0 1099511627776) (st18 c) _ H18.out.ans).mono ?_
  rintro e w19 ⟨rfl, ha, hg⟩
  have H19 : Hid (WK w c (st19 c) w19) := hid (H18.out.step ha hg); clear ha hg H18
  have z22 : w19.cell? ⟨w.heap.size, 22, none⟩ = some (.int .i64 c.strikes) := at_cell H19.out.box.box 22
  go_wp2_with fail
  refine (cwithin_any _ _ _ _).mono ?_
  rintro e v20 ⟨rfl, rfl⟩
  clear z22
  go_wp2_with fail
  refine (ask_any (w.heap.size + 1) ⟨#[115, 116, 114, 105, 107, 101, 115]⟩ (cwithin c.strikes 1 100) (st19 c) _ H19.out.ans).mono ?_
  rintro e w20 ⟨rfl, ha, hg⟩
  have H20 : Hid (WK w c (st20 c) w20) := hid (H19.out.step ha hg); clear ha hg H19
  have z23 : w20.cell? ⟨w.heap.size, 23, none⟩ = some (.int .i64 c.probe) := at_cell H20.out.box.box 23
  go_wp2_with fail
  refine (cwithin_any _ _ _ _).mono ?_
  rintro e v21 ⟨rfl, rfl⟩
  clear z23
  go_wp2_with fail
  refine (ask_any (w.heap.size + 1) ⟨#[112, 114, 111, 98, 101]⟩ (cwithin c.probe 1 100) (st20 c) _ H20.out.ans).mono ?_
  rintro e w21 ⟨rfl, ha, hg⟩
  have H21 : Hid (WK w c (st21 c) w21) := hid (H20.out.step ha hg); clear ha hg H20
  have z24 : w21.cell? ⟨w.heap.size, 24, none⟩ = some (.int .i64 c.sectors) := at_cell H21.out.box.box 24
  go_wp2_with fail
  refine (cwithin_any _ _ _ _).mono ?_
  rintro e v22 ⟨rfl, rfl⟩
  clear z24
  go_wp2_with fail
  refine (ask_any (w.heap.size + 1) ⟨#[115, 101, 99, 116, 111, 114, 115]⟩ (cwithin c.sectors 64 4096) (st21 c) _ H21.out.ans).mono ?_
  rintro e w22 ⟨rfl, ha, hg⟩
  have H22 : Hid (WK w c (st22 c) w22) := hid (H21.out.step ha hg); clear ha hg H21
  have z : w22.cell? ⟨w.heap.size + 1, 3, none⟩ = some (.string ((st22 c).getD ⟨#[]⟩)) := at_cell (H22.out.ans.trans (congrArg some (told1_eq _))) 3
  go_wp2_with fail
  go_ret
  exact ⟨rfl, H22.out.box.g⟩
end Go.Proofs.YtecggbndlbkhdaaGreat
end
section
set_option linter.unusedSimpArgs false
namespace Go.Proofs.YtecggbndlbkhdaaGreat
set_option maxRecDepth 100000
open Go.RowKit

theorem cmay_any (c : Conf) (w : World) :
    Calls Tryz.prog 56 #[cf c] w fun e w' => e = .returned (.bool ((st22 c).getD ⟨#[]⟩).toList.isEmpty) ∧ w.grownBy w' none := by
  have h0 := boxc_new w c
  have H0 := hid h0; clear h0
  have hw := wrong_any c
  obtain ⟨s, hs⟩ : ∃ s, s = (st22 c).getD ⟨#[]⟩ := ⟨_, rfl⟩
  rw [← hs] at hw ⊢
  clear hs
  go_enter Tryz.func56, Tryz.ntmps56
  go_wp2_with (refine wpList_conf H0.out.box rfl rfl rfl rfl ?_)
  refine (hw _).mono ?_
  rintro e w1 ⟨rfl, hg⟩
  have G1 := hid hg; clear hg
  go_wp2_with fail
  go_ret
  exact ⟨rfl, gb_trans (gb_alloc (.refl w none) _) G1.out (.inl rfl)⟩
end Go.Proofs.YtecggbndlbkhdaaGreat
end
section
set_option linter.unusedSimpArgs false
namespace Go.Proofs.YtecggbndlbkhdaaGreat
set_option maxRecDepth 100000
open Go.RowKit

theorem third {n f : Int} (h1 : 1 ≤ n) (h2 : n ≤ 16) : cwithin f 0 (wrap64 ((wrap64 (n - 1)).tdiv 3)) = (decide (0 ≤ f) && decide (3 * f + 1 ≤ n)) := by
  rw [wrap_small (x := n - 1) (by omega) (by omega), Int.tdiv_eq_ediv_of_nonneg (by omega), wrap_small (by omega) (by omega)]
  unfold cwithin
  congr 1
  rw [decide_eq_decide]
  omega
theorem ok1 {c : Conf} (hb : cwithin c.n 1 16 = true) : st1 c = none := by unfold st1; rw [hb]; rfl
theorem ok2 {c : Conf} (h : st1 c = none) (hb : cwithin c.f 0 (wrap64 ((wrap64 (c.n - 1)).tdiv 3)) = true) : st2 c = none := by unfold st2; rw [h, hb]; rfl
theorem ok3 {c : Conf} (h : st2 c = none) (hb : cwithin c.m 1 4 = true) : st3 c = none := by unfold st3; rw [h, hb]; rfl
theorem ok4 {c : Conf} (h : st3 c = none) (hb : cwithin c.quorum (wrap64 (wrap64 (2 * c.f) + 1)) c.n = true) : st4 c = none := by unfold st4; rw [h, hb]; rfl
theorem ok5 {c : Conf} (h : st4 c = none) (hb : cwithin c.fresh 1 8 = true) : st5 c = none := by unfold st5; rw [h, hb]; rfl
theorem ok6 {c : Conf} (h : st5 c = none) (hb : cwithin c.grace 1 100 = true) : st6 c = none := by unfold st6; rw [h, hb]; rfl
theorem ok7 {c : Conf} (h : st6 c = none) (hb : cwithin c.window 1 64 = true) : st7 c = none := by unfold st7; rw [h, hb]; rfl
theorem ok8 {c : Conf} (h : st7 c = none) (hb : tgts c.m c.t0 c.t1 c.t2 c.t3 = true) : st8 c = none := by unfold st8; rw [h, hb]; rfl
theorem ok9 {c : Conf} (h : st8 c = none) (hb : cwithin c.tol 0 1000 = true) : st9 c = none := by unfold st9; rw [h, hb]; rfl
theorem ok10 {c : Conf} (h : st9 c = none) (hb : cwithin c.min 1 10000 = true) : st10 c = none := by unfold st10; rw [h, hb]; rfl
theorem ok11 {c : Conf} (h : st10 c = none) (hb : cwithin c.max c.min 10000 = true) : st11 c = none := by unfold st11; rw [h, hb]; rfl
theorem ok12 {c : Conf} (h : st11 c = none) (hb : cwithin c.calmup 0 60 = true) : st12 c = none := by unfold st12; rw [h, hb]; rfl
theorem ok13 {c : Conf} (h : st12 c = none) (hb : cwithin c.calmdown 0 60 = true) : st13 c = none := by unfold st13; rw [h, hb]; rfl
theorem ok14 {c : Conf} (h : st13 c = none) (hb : cwithin c.podsup 1 1000 = true) : st14 c = none := by unfold st14; rw [h, hb]; rfl
theorem ok15 {c : Conf} (h : st14 c = none) (hb : cwithin c.pctup 1 1000 = true) : st15 c = none := by unfold st15; rw [h, hb]; rfl
theorem ok16 {c : Conf} (h : st15 c = none) (hb : cwithin c.podsdown 1 1000 = true) : st16 c = none := by unfold st16; rw [h, hb]; rfl
theorem ok17 {c : Conf} (h : st16 c = none) (hb : cwithin c.pctdown 1 100 = true) : st17 c = none := by unfold st17; rw [h, hb]; rfl
theorem ok18 {c : Conf} (h : st17 c = none) (hb : cwithin c.period 1 60 = true) : st18 c = none := by unfold st18; rw [h, hb]; rfl
theorem ok19 {c : Conf} (h : st18 c = none) (hb : cwithin c.far 0 1099511627776 = true) : st19 c = none := by unfold st19; rw [h, hb]; rfl
theorem ok20 {c : Conf} (h : st19 c = none) (hb : cwithin c.strikes 1 100 = true) : st20 c = none := by unfold st20; rw [h, hb]; rfl
theorem ok21 {c : Conf} (h : st20 c = none) (hb : cwithin c.probe 1 100 = true) : st21 c = none := by unfold st21; rw [h, hb]; rfl
theorem ok22 {c : Conf} (h : st21 c = none) (hb : cwithin c.sectors 64 4096 = true) : st22 c = none := by unfold st22; rw [h, hb]; rfl

end Go.Proofs.YtecggbndlbkhdaaGreat
end
section
set_option linter.unusedSectionVars false
set_option linter.unusedSimpArgs false
namespace Go.Proofs.YtecggbndlbkhdaaGreat
set_option maxRecDepth 100000
open Go.RowKit
theorem lo_is {f : Int} (h : 0 ≤ f ∧ f ≤ 2) : wrap64 (wrap64 (2 * f) + 1) = 2 * f + 1 := by
  rw [wrap_small (x := 2 * f) (by omega) (by omega), wrap_small (by omega) (by omega)]
theorem cwithin_in {x lo hi : Int} (h : lo ≤ x ∧ x ≤ hi) : cwithin x lo hi = true := by simp [cwithin, h]
section
variable {c : Conf} (h : Fine c)
include h
theorem part1 : cwithin c.n 1 16 = true := cwithin_in (by have := h.f; have := h.n; omega)
theorem part2 : cwithin c.f 0 (wrap64 ((wrap64 (c.n - 1)).tdiv 3)) = true := by rw [third (by have := h.f; have := h.n; omega) (by have := h.f; have := h.n; omega)]; have := h.f; have := h.n; simp; omega
theorem part3 : cwithin c.m 1 4 = true := cwithin_in (by have := h.m; omega)
theorem part4 : cwithin c.quorum (wrap64 (wrap64 (2 * c.f) + 1)) c.n = true := by rw [lo_is h.f]; exact cwithin_in h.quorum
theorem part5 : cwithin c.fresh 1 8 = true := cwithin_in (by have := h.fresh; omega)
theorem part6 : cwithin c.grace 1 100 = true := cwithin_in (by have := h.grace; omega)
theorem part7 : cwithin c.window 1 64 = true := cwithin_in (by have := h.window; omega)
theorem part8 : tgts c.m c.t0 c.t1 c.t2 c.t3 = true := by
  have h0 := h.t0
  have e0 : tgt c.m 0 c.t0 = true := by unfold tgt; rw [if_pos (by have := h.m; omega)]; exact cwithin_in (by omega)
  have e2 : tgt c.m 2 c.t2 = true := by unfold tgt; rw [if_neg (by have := h.m; omega), h.t2]; rfl
  have e3 : tgt c.m 3 c.t3 = true := by unfold tgt; rw [if_neg (by have := h.m; omega), h.t3]; rfl
  have e1 : tgt c.m 1 c.t1 = true := by
    rcases h.m with ⟨hm, h1⟩ | ⟨hm, h1, h2⟩
    · unfold tgt; rw [if_neg (by omega), h1]; rfl
    · unfold tgt; rw [if_pos (by omega)]; exact cwithin_in (by omega)
  unfold tgts
  rw [e0, e1, e2, e3]
  rfl
theorem part9 : cwithin c.tol 0 1000 = true := cwithin_in (by have := h.tol; omega)
theorem part10 : cwithin c.min 1 10000 = true := cwithin_in (by have := h.min; omega)
theorem part11 : cwithin c.max c.min 10000 = true := cwithin_in (by have := h.min; have := h.max; omega)
theorem part12 : cwithin c.calmup 0 60 = true := cwithin_in (by have := h.calmup; omega)
theorem part13 : cwithin c.calmdown 0 60 = true := cwithin_in (by have := h.calmdown; omega)
theorem part14 : cwithin c.podsup 1 1000 = true := cwithin_in (by have := h.podsup; omega)
theorem part15 : cwithin c.pctup 1 1000 = true := cwithin_in (by have := h.pctup; omega)
theorem part16 : cwithin c.podsdown 1 1000 = true := cwithin_in (by have := h.podsdown; omega)
theorem part17 : cwithin c.pctdown 1 100 = true := cwithin_in (by have := h.pctdown; omega)
theorem part18 : cwithin c.period 1 60 = true := cwithin_in (by have := h.period; omega)
theorem part20 : cwithin c.strikes 1 100 = true := cwithin_in (by have := h.strikes; omega)
theorem part21 : cwithin c.probe 1 100 = true := cwithin_in (by have := h.probe; omega)
end
end Go.Proofs.YtecggbndlbkhdaaGreat
end
section
set_option linter.unusedSimpArgs false
set_option linter.unusedVariables false
namespace Go.Proofs.YtecggbndlbkhdaaGreat
set_option maxRecDepth 100000
open Go.RowKit

section
variable {w W W' : World} {x b b1 b2 : Nat} {c : Conf} {p p' p1 p2 : Po} {n z : Int} {v : Value} {l : List Int}
theorem pgb_chg (h : w.grownBy W none) (hc : Chg [b] W W') (hb : w.heap.size ≤ b) : w.grownBy W' none :=
  ((chg_grown h []).trans hc (fun y hy => by rw [List.mem_singleton] at hy; subst hy; exact .inr hb)).free (fun y hy => by cases hy)
/-- a configuration in a block and an object of the call's own; two objects -/
structure Pc1 (w : World) (x : Nat) (c : Conf) (b : Nat) (p : Po) (W : World) : Prop where
  gr : w.grownBy W none
  box : W.heap[x]? = some (.cells c.cells 27)
  at1 : PoAt W b p
  lo : w.heap.size ≤ b
  nx : x ≠ b
structure Pc2 (w : World) (x : Nat) (c : Conf) (b1 : Nat) (p1 : Po) (b2 : Nat) (p2 : Po) (W : World) : Prop where
  k1 : Pc1 w x c b1 p1 W
  k2 : Pc1 w x c b2 p2 W
  ne : b1 ≠ b2
theorem Pc1.grown (h : Pc1 w x c b p W) (hg : W.grownBy W' none) : Pc1 w x c b p W' := ⟨gb_trans h.gr hg (.inl rfl), at_grown h.box hg (by simp), h.at1.grown hg, h.lo, h.nx⟩
theorem Pc1.drew (h : Pc1 w x c b p W) : Pc1 w x c b p W.drew := ⟨gb_drew h.gr, h.box, h.at1.drew, h.lo, h.nx⟩
theorem Pc1.chg (h : Pc1 w x c b p W) (hc : PoAt W' b p') (hg : Chg [b] W W') : Pc1 w x c b p' W' := ⟨pgb_chg h.gr hg h.lo, hg.at h.box (by simp [h.nx]), hc, h.lo, h.nx⟩
theorem Pc1.start (hC : Cfx w x c W) (h2 : PoAt W' b p) (hg : W.grownBy W' none) (hb : W.heap.size ≤ b) : Pc1 w x c b p W' :=
  ⟨gb_trans hC.g hg (.inl rfl), at_grown hC.box hg (by simp), h2, Nat.le_trans hC.g.size hb, by have := at_lt hC.box; omega⟩
theorem Pc1.cfx (h : Pc1 w x c b p W) : Cfx w x c W := ⟨h.box, h.gr⟩
theorem Pc2.grown (h : Pc2 w x c b1 p1 b2 p2 W) (hg : W.grownBy W' none) : Pc2 w x c b1 p1 b2 p2 W' := ⟨h.k1.grown hg, h.k2.grown hg, h.ne⟩
theorem Pc2.drew (h : Pc2 w x c b1 p1 b2 p2 W) : Pc2 w x c b1 p1 b2 p2 W.drew := ⟨h.k1.drew, h.k2.drew, h.ne⟩
theorem Pc2.swap (h : Pc2 w x c b1 p1 b2 p2 W) : Pc2 w x c b2 p2 b1 p1 W := ⟨h.k2, h.k1, h.ne.symm⟩
theorem Pc2.start (h : Pc1 w x c b1 p1 W) (h2 : PoAt W' b p) (hg : W.grownBy W' none) (hb : W.heap.size ≤ b) : Pc2 w x c b1 p1 b p W' :=
  ⟨h.grown hg, Pc1.start h.cfx h2 hg hb, by have := h.at1.lt; omega⟩
end

end Go.Proofs.YtecggbndlbkhdaaGreat
end
section
set_option linter.unusedSimpArgs false
set_option linter.unusedVariables false
namespace Go.Proofs.YtecggbndlbkhdaaGreat
set_option maxRecDepth 100000
open Go.RowKit

theorem fine_ok {c : Conf} (h : Fine c) : (rt c).Ok := by
  have a1 := h.podsup; have a2 := h.pctup; have a3 := h.podsdown; have a4 := h.pctdown; have a5 := h.period; have a6 := h.min; have a7 := h.max
  exact ⟨by show 1 ≤ c.podsup ∧ c.podsup ≤ 1000; omega, by show 1 ≤ c.pctup ∧ c.pctup ≤ 1000; omega, by show 1 ≤ c.podsdown ∧ c.podsdown ≤ 1000; omega, by show 1 ≤ c.pctdown ∧ c.pctdown ≤ 100; omega, by show 1 ≤ c.period ∧ c.period ≤ 60; omega, by show 1 ≤ c.min ∧ c.min ≤ 10000; omega, by show c.min ≤ c.max ∧ c.max ≤ 10000; omega⟩
theorem fine_may {c : Conf} (h : Fine c) : (rt c).may = true := Rt.may_iff.2 (fine_ok h)
theorem in_of {r : Rt} {x : Int} (h1 : r.mn ≤ x) (h2 : x ≤ r.mx) : inR r x = true := by
  unfold inR; rw [decide_eq_true h1, decide_eq_true h2]; rfl
theorem in_le {r : Rt} {x : Int} (h : inR r x = true) : r.mn ≤ x ∧ x ≤ r.mx := by
  unfold inR at h
  simpa using h
end Go.Proofs.YtecggbndlbkhdaaGreat
end
section
set_option linter.unusedSimpArgs false
set_option linter.unusedVariables false
namespace Go.Proofs.YtecggbndlbkhdaaGreat
set_option maxRecDepth 100000
open Go.RowKit

theorem beq_bytes (l r : List UInt8) : ((⟨l.toArray⟩ : ByteArray).toList == (⟨r.toArray⟩ : ByteArray).toList) = (l == r) := by
  rw [ByteArray.toList_eq, ByteArray.toList_eq]
set_option maxHeartbeats 1600000 in
theorem bequal_any (u v : Value) (l r : List UInt8) (w : World) (hu : BytesAt w u l) (hv : BytesAt w v r) :
    Calls Tryz.prog 87 #[u, v] w fun e w' => e = .returned (.bool (l == r)) ∧ w = w' := by
  obtain ⟨p, c, rfl⟩ := hu.form
  obtain ⟨p', c', rfl⟩ := hv.form
  have c1 := conv_bytes hu
  have c2 := conv_bytes hv
  have hb := beq_bytes l r
  clear hu hv
  generalize (⟨l.toArray⟩ : ByteArray) = x at *
  generalize (⟨r.toArray⟩ : ByteArray) = y at *
  go_enter Tryz.func87, Tryz.ntmps87
  go_wp2_with fail
  go_ret
  exact ⟨rfl, rfl⟩
end Go.Proofs.YtecggbndlbkhdaaGreat
end
