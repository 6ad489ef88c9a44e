/-
  Contract: the law's own examples: the program tells what the document says of a few. No condition.
-/
import Derived.Test.YtjebmlmjbnaghaaLgL
import Derived.Lib.SlBytesConst
set_option linter.unusedSimpArgs false
set_option linter.unusedVariables false
namespace Go.Proofs.Ytjebmlmjbnaghaa
set_option maxRecDepth 100000
open Go.RowKit

def tc : Cl := ⟨3, 258, 2, [97, 98]⟩
theorem tc_may : tc.May := ⟨by decide, by decide, by decide, by decide, by decide, by decide⟩
def tl : List UInt8 := putL tc
def td : List UInt8 := tl.set 8 120
def tz : List UInt8 := List.replicate 64 0
theorem tl_at : byteAt tl 0 = 3 ∧ byteAt tl 4 = 2 ∧ byteAt tl 5 = 1 ∧ byteAt tl 6 = 2 ∧ byteAt tl 7 = 2 ∧ byteAt tl 63 = 3 ∧ tl.length = 64 := by decide +kernel
theorem td_got : gotW td = true ∧ goodL td = false ∧ gotC td = 12 ∧ td.length = 64 := by decide +kernel
theorem tz_got : gotW tz = false ∧ gotC tz = 0 ∧ gotW [] = false ∧ gotC [] = 1 := by decide +kernel
theorem td_zero : gotL td = zeroC := by unfold gotL; rw [td_got.1, td_got.2.1]; rfl
theorem tz_zero : gotL tz = zeroC ∧ gotL [] = zeroC := ⟨by unfold gotL; rw [tz_got.1]; rfl, by unfold gotL; rw [tz_got.2.2.1]; rfl⟩
theorem tsum : sumN [1, 0] = 4 ∧ sumN ([] : List UInt8) = 0 := by decide +kernel
theorem sv_eq : (⟨([97, 98] : List UInt8).toArray⟩ : ByteArray).toList = [97, 98] := by rw [ByteArray.toList_eq]
theorem ab_at (w : World) {f : Nat × Nat} : BytesAt (w.alloc (.cells #[.int .u8 97, .int .u8 98] 5 f)) (.slice (some ⟨w.heap.size, 0, none⟩) 2 2) [97, 98] := by
  refine .inr ⟨_, 2, rfl, Nat.le_refl _, by unfold maxLen; decide, fun i hi => ?_⟩
  have e : (⟨w.heap.size, 0, none⟩ : Addr).add i = ⟨w.heap.size, i, none⟩ := by unfold Addr.add; split <;> simp_all
  rw [e, at_cell (at_new w _) i]
  have : i = 0 ∨ i = 1 := by simp at hi; omega
  rcases this with rfl | rfl <;> rfl
theorem byte_at9 {base : Nat} {w : World} {g c n : Nat} {l : List UInt8} (h : OwnB base w (.slice (some ⟨g, 0, none⟩) n c) l) (hl : l.length = 64) : w.cell? ⟨g, 8, none⟩ = some (.int .u8 ((byteAt l 8).toNat : Int)) := byte_cell h.bytes 8 (by rw [hl]; decide) _ rfl
theorem sum10 (w : World) : Calls Try.prog 19 #[.slice (some ⟨w.heap.size, 0, none⟩) 2 2] (w.alloc (.cells #[.int .u8 1, .int .u8 0] 5)) fun e w' => e = .returned (.int .u32 4) ∧ (w.alloc (.cells #[.int .u8 1, .int .u8 0] 5)).grownBy w' none := by
  have h := lsum_any [1, 0] (.slice (some ⟨w.heap.size, 0, none⟩) 2 2) (w.alloc (.cells #[.int .u8 1, .int .u8 0] 5)) (own_block (base := 0) [1, 0] (at_new w _) (by unfold maxLen; simp) (Nat.zero_le _)).bytes (by decide)
  rw [tsum.1] at h
  exact h
theorem tmay (a : Option Addr) (c : Nat) (w : World) : Calls Try.prog 14 #[.agg #[.int .u32 3, .int .i64 258, .int .i64 2, .slice a 2 c]] w fun e w' => e = .returned (.bool true) ∧ w.grownBy w' none := lmay_any 3 258 2 a 2 c w
@[reducible] def tcO (v : Value) : Obj := .cells #[.int .u32 3, .int .i64 258, .int .i64 2, v] 31
theorem kt0 (w : World) : Kp w [(w.heap.size + 1, tcO (.slice (some ⟨w.heap.size, 0, none⟩) 2 2))] [(.slice (some ⟨w.heap.size, 0, none⟩) 2 2, [97, 98])] ((w.alloc (.cells #[.int .u8 97, .int .u8 98] 5 (2, 3))).alloc (tcO (.slice (some ⟨w.heap.size, 0, none⟩) 2 2))) := by
  have h := (((kp_start w).grown (World.grownBy_alloc w (.cells #[.int .u8 97, .int .u8 98] 5 (2, 3)) none)).addY (ab_at w)).alloc (tcO (.slice (some ⟨w.heap.size, 0, none⟩) 2 2))
  rw [alloc_size] at h
  exact h
theorem tz_make : ∃ OZ : Obj, (∀ u : World, (Instr.makeSlice 23 (.int .i64 64) (.int .i64 64)).run Try.prog u = .ok (.slice (some ⟨u.heap.size, 0, none⟩) 64 64) (u.alloc OZ)) ∧ ∀ u : World, BytesAt (u.alloc OZ) (.slice (some ⟨u.heap.size, 0, none⟩) 64 64) tz :=
  ⟨_, fun u => mk64 u, fun u => (own_block (base := 0) tz (at_new u _) (by unfold tz maxLen; simp) (Nat.zero_le _)).bytes⟩
theorem tputbad (w : World) : Calls Try.prog 10 #[.agg #[.int .u32 0, .int .i64 0, .int .i64 0, .slice none 0 0]] w fun e w' => e = .returned (.tuple #[.slice none 0 0, .int .i64 1]) ∧ w.grownBy w' none := lput_bad 0 0 0 none 0 0 rfl w
set_option maxHeartbeats 6400000 in
theorem told_any (w : World) :
    Calls Try.prog 9 #[] w fun e w' => e = .returned (.bool true) ∧ w.grownBy w' none := by
  obtain ⟨b0, b4, b5, b6, b7, b63, hl⟩ := tl_at
  obtain ⟨g1, -, g3, hd⟩ := td_got
  obtain ⟨g4, g5, g6, g7⟩ := tz_got
  have B0 := hid b0; have B4 := hid b4; have B5 := hid b5; have B6 := hid b6; have B7 := hid b7; have B63 := hid b63; have HL := hid hl
  have G1 := hid g1; have G3 := hid g3; have HD := hid hd; have G4 := hid g4; have G5 := hid g5; have G6 := hid g6; have G7 := hid g7
  have GD := hid td_zero; have GZ := hid tz_zero.1; have GN := hid tz_zero.2
  have GT := hid (show gotL tl = tc ∧ gotW tl = true ∧ gotC tl = 0 from got_put tc_may)
  have TD := hid (show tl.set 8 120 = td from rfl)
  clear b0 b4 b5 b6 b7 b63 hl g1 g3 hd g4 g5 g6 g7
  have PT := hid (fun (v : Value) (w : World) (hv : BytesAt w v [97, 98]) => lput_as tc tc_may (P := 3) (Q := 258) (K := 2) rfl rfl rfl (v := v) (w := w) hv (l := tl) rfl)
  have GT2 := hid (fun (v : Value) (w : World) (hv : BytesAt w v tl) => lget_as tl GT.out.1 GT.out.2.1 GT.out.2.2 (P := 3) (Q := 258) (K := 2) rfl rfl rfl (d := [97, 98]) rfl (n := 2) rfl (v := v) (w := w) hv)
  have GD2 := hid (fun (v : Value) (w : World) (hv : BytesAt w v td) => lget_as td GD.out G1.out G3.out (P := 0) (Q := 0) (K := 0) rfl rfl rfl (d := []) rfl (n := 0) rfl (v := v) (w := w) hv)
  have GZ2 := hid (fun (v : Value) (w : World) (hv : BytesAt w v tz) => lget_as tz GZ.out G4.out G5.out (P := 0) (Q := 0) (K := 0) rfl rfl rfl (d := []) rfl (n := 0) rfl (v := v) (w := w) hv)
  have GN2 := hid (fun (v : Value) (w : World) (hv : BytesAt w v []) => lget_as [] GN.out G6.out G7.out (P := 0) (Q := 0) (K := 0) rfl rfl rfl (d := []) rfl (n := 0) rfl (v := v) (w := w) hv)
  generalize td = d at *
  generalize tl = l at *
  go_enter Try.func9, Try.ntmps9
  have hcs := fun (w : World) (C : Array Value) (n c : Nat) => Lib.run_convert_bytes_const (P := Try.prog) w 23 5 C n c Try.underlying23 Try.underlying5
  go_upto_region 2 with fail
  refine wp_gen (Kp w [(w.heap.size + 1, tcO (.slice (some ⟨w.heap.size, 0, none⟩) 2 2))] [(.slice (some ⟨w.heap.size, 0, none⟩) 2 2, [97, 98])]) (kt0 w) (fun w0 k0 => ?_)
  have K0 := hid k0; clear k0 hcs
  obtain ⟨OZ, hmk, hzb⟩ := tz_make
  have HZB := hid hzb; clear hzb
  go_wp2_with (first | refine wpList_row_w K0.out.b0 Try.underlying31 rfl (by kernel_rfl) rfl rfl rfl rfl ?_ | refine wpList_row K0.out.b0 Try.underlying31 rfl (by kernel_rfl) rfl rfl rfl rfl ?_)
  refine (PT.out _ _ K0.out.y0).mono ?_
  rintro e w1 ⟨u, rfl, ho, hg⟩
  obtain ⟨g, c, rfl, hc1, hc2, -, -⟩ := ho.fulln HL.out (by decide)
  have K1 := hid ((K0.out.grown hg).addY ho.bytes)
  clear ho hg
  go_wp2_with fail
  refine (GT2.out _ _ K1.out.y0).mono ?_
  rintro e w2 ⟨p, k, rfl, ho, hg⟩
  have K2 := hid (((K1.out.grown hg).addY ho.bytes).alloc (tcO (.slice p 2 k)))
  obtain ⟨b4, hb4⟩ : ∃ b, b = w2.heap.size := ⟨_, rfl⟩
  rw [← hb4] at K2
  clear ho hg
  go_upto_region 4 with fail
  rw [← hb4]
  generalize w2.alloc (tcO (.slice p 2 k)) = w3 at *
  clear hb4
  go_wp2_with fail
  refine (GZ2.out _ _ (HZB.out w3)).mono ?_
  rintro e w4 ⟨p4, k4, rfl, ho, hg⟩
  have K4 := hid ((K2.out.grown (World.grownBy_alloc w3 OZ none)).grown hg)
  clear ho hg hmk
  go_upto_region 5 with fail
  have K5 := hid (K4.out.grown (World.grownBy_alloc w4 (.cells #[.int .u32 0, .int .i64 0, .int .i64 0, .slice p4 0 k4] 31) none))
  generalize w4.alloc (.cells #[.int .u32 0, .int .i64 0, .int .i64 0, .slice p4 0 k4] 31) = w5 at *
  go_wp2_with fail
  refine (GN2.out _ _ (.inl ⟨rfl, rfl⟩)).mono ?_
  rintro e w6 ⟨p6, k6, rfl, ho, hg⟩
  have K6 := hid (K5.out.grown hg)
  clear ho hg
  go_upto_region 6 with fail
  have K7 := hid (K6.out.grown (World.grownBy_alloc w6 (.cells #[.int .u32 0, .int .i64 0, .int .i64 0, .slice p6 0 k6] 31) none))
  generalize w6.alloc (.cells #[.int .u32 0, .int .i64 0, .int .i64 0, .slice p6 0 k6] 31) = w7 at *
  go_wp2_with fail
  refine (tputbad _).mono ?_
  rintro e w8 ⟨rfl, hg⟩
  have K8 := hid (K7.out.grown hg)
  clear hg
  go_upto_region 9 with fail
  have HE := hid (OwnB.empty w8)
  have BA := hid (K8.out.y1.alloc (.cells #[] 5))
  go_wp2_with (refine append_bytes rfl _ _ rfl w8.heap.size _ [] rfl HE.out _ l rfl BA.out (by rw [HL.out]; simp) (gb_size (gb_alloc (.refl w8 none) _)) ?_; intro u9 w9 o9 g9 a9; rw [List.nil_append] at o9; obtain ⟨b9, c9, rfl, h9a, h9b, h9c, h9d⟩ := o9.fulln HL.out (by decide); have cl := byte_at9 o9 HL.out; have fz := o9.freeb (by rw [HL.out]; decide) 8; have K9 := hid ((K8.out.grown (World.grownBy_alloc w8 (.cells #[] 5) none)).own HE.out g9 K8.out.size K8.out.low.1 K8.out.low.2); have O9 := hid o9; have S9 := hid (o9.setb (i := 8) (by rw [HL.out]; decide) 120); clear g9 a9 o9 h9b h9c h9d)
  have K10 := hid (K9.out.own O9.out S9.out.2 K8.out.size K8.out.low.1 K8.out.low.2)
  have D10 := hid S9.out.1.bytes
  rw [TD.out] at D10
  refine (GD2.out _ _ D10.out).mono ?_
  rintro e w11 ⟨p11, k11, rfl, ho, hg⟩
  have K11 := hid ((K10.out.grown hg).grown (World.grownBy_alloc w11 (.cells #[.int .u32 0, .int .i64 0, .int .i64 0, .slice p11 0 k11] 31) none))
  have x0 := byte_cell K11.out.y1 0 (by rw [HL.out]; decide) _ B0.out
  have x4 := byte_cell K11.out.y1 4 (by rw [HL.out]; decide) _ B4.out
  have x5 := byte_cell K11.out.y1 5 (by rw [HL.out]; decide) _ B5.out
  have x6 := byte_cell K11.out.y1 6 (by rw [HL.out]; decide) _ B6.out
  have x7 := byte_cell K11.out.y1 7 (by rw [HL.out]; decide) _ B7.out
  have x63 := byte_cell K11.out.y1 63 (by rw [HL.out]; decide) _ B63.out
  rw [show ((3 : UInt8).toNat : Int) = 3 from rfl] at x0 x63
  rw [show ((2 : UInt8).toNat : Int) = 2 from rfl] at x4 x6 x7
  rw [show ((1 : UInt8).toNat : Int) = 1 from rfl] at x5
  have q1 := at_cell K11.out.b0 1
  have q3 := at_cell K11.out.b0 3
  rw [show (#[Value.int .u32 3, Value.int .i64 258, Value.int .i64 2, Value.slice p 2 k] : Array Value)[1]? = some (Value.int .i64 258) from rfl] at q1
  rw [show (#[Value.int .u32 3, Value.int .i64 258, Value.int .i64 2, Value.slice p 2 k] : Array Value)[3]? = some (Value.slice p 2 k) from rfl] at q3
  have cv := conv_bytes K11.out.y0
  have ce := sv_eq
  generalize (⟨([97, 98] : List UInt8).toArray⟩ : ByteArray) = AB at cv ce
  clear ho hg cl fz
  go_wp2_with fail
  refine (mark_any 251 _).mono ?_
  rintro e w12 ⟨rfl, rfl⟩
  rw [show (markN 251 : Int) = 0 from rfl]
  clear x0 x4 x5 x6 x7 x63 q1 q3 cv ce
  generalize w11.alloc (.cells #[.int .u32 0, .int .i64 0, .int .i64 0, .slice p11 0 k11] 31) = w12 at *
  go_wp2_with fail
  refine (sum10 _).mono ?_
  rintro e w13 ⟨rfl, hg⟩
  have K13 := hid ((K11.out.grown (World.grownBy_alloc w12 (.cells #[.int .u8 1, .int .u8 0] 5) none)).grown hg)
  clear hg
  go_wp2_with (first | refine wpList_row_w K13.out.b1 Try.underlying31 rfl (by kernel_rfl) rfl rfl rfl rfl ?_ | refine wpList_row K13.out.b1 Try.underlying31 rfl (by kernel_rfl) rfl rfl rfl rfl ?_)
  refine (tmay _ _ _).mono ?_
  rintro e w14 ⟨rfl, hg⟩
  have G14 := hid (gb_trans K13.out.g hg (.inl rfl))
  clear hg
  go_wp2_with fail
  go_ret
  exact ⟨rfl, G14.out⟩
end Go.Proofs.Ytjebmlmjbnaghaa
