/-
  Contracts for wire.Seal and bytes.Clone: a message's bytes and behind them their tag, in a slice of the call's own; an error of one that may not be; bytes copied. No condition. And 2 texts more that this one stands on. No condition.
-/
import Derived.Test.YtgpdcapnnejdeaaGreatY10
import Derived.Test.YtgpdcapnnejdeaaGreatY6
import Derived.Lib.SliceRun
import Derived.Test.YtgpdcapnnejdeaaGreatRows
import Derived.Test.YtgpdcapnnejdeaaGreatY1
import Derived.WalkKit
import Derived.WalkSpells
import Derived.WalkLawsBesides
import Derived.Defers
import Derived.Recover
import Derived.Laws.Pointers
import Derived.Laws.LoneSync
section
set_option linter.unusedSimpArgs false
set_option linter.unusedVariables false
namespace Go.Proofs.YtgpdcapnnejdeaaGreat
set_option maxRecDepth 100000
open Go.RowKit

def tagB (k0 k1 : BitVec 64) (l : List UInt8) : List UInt8 := put8 (sumOf k0 k1 l) ++ put8 (sumOf k1 (inv k0) l)
def sealOf (k0 k1 : BitVec 64) (m : Mg) : List UInt8 := putOf m ++ tagB k0 k1 (putOf m)
theorem sealOf_length (k0 k1 : BitVec 64) (m : Mg) : (sealOf k0 k1 m).length = 48 := rfl

structure KM (w : World) (k0 k1 : BitVec 64) (m : Mg) (w' : World) : Prop where
 key : w'.heap[w.heap.size]? = some (.cells #[.int .u64 (q k0), .int .u64 (q k1)] 49)
 msg : w'.heap[w.heap.size + 1]? = some (.cells m.cells 39)
 g : w.grownBy w' none
theorem KM.grown {w : World} {k0 k1 : BitVec 64} {m : Mg} {w1 w2 : World} (h : KM w k0 k1 m w1) (hg : w1.grownBy w2 none) : KM w k0 k1 m w2 := ⟨at_grown h.key hg (by simp), at_grown h.msg hg (by simp), gb_trans h.g hg (.inl rfl)⟩
theorem km_new (w : World) (k0 k1 : BitVec 64) (m : Mg) : KM w k0 k1 m ((w.alloc (.cells #[.int .u64 (q k0), .int .u64 (q k1)] 49)).alloc (.cells m.cells 39)) :=
 ⟨at_alloc (at_new w _) _, by rw [← size_alloc w (.cells #[.int .u64 (q k0), .int .u64 (q k1)] 49)]; exact at_new _ _, gb_alloc (gb_alloc (.refl w none) _) _⟩

set_option maxHeartbeats 1600000 in
theorem seal_bad (k0 k1 : BitVec 64) (m : Mg) (hm : mayOf m = false) (w : World) :
  Calls Tryz.prog 33 #[pair k0 k1, mg m] w fun e w' => e = .returned (.tuple #[.slice none 0 0, .int .i64 1]) ∧ w.grownBy w' none := by
 have C := hid (fun w => wput_bad m hm w)
 have K := hid (km_new w k0 k1 m)
 clear hm
 go_enter Tryz.func33, Tryz.ntmps33
 go_wp2_with (refine wpList_row K.out.msg Tryz.underlying39 rfl (by kernel_rfl) rfl rfl rfl rfl ?_)
 refine (C.out _).mono ?_
 rintro e w1 ⟨rfl, hg⟩
 have G := hid (gb_trans K.out.g hg (.inl rfl)); clear hg
 go_wp2_with fail
 go_ret2
 exact ⟨rfl, G.out⟩

set_option maxHeartbeats 3200000 in
theorem seal_good (k0 k1 : BitVec 64) (m : Mg) (hm : mayOf m = true) (w : World) :
  Calls Tryz.prog 33 #[pair k0 k1, mg m] w fun e w' => ∃ v, e = .returned (.tuple #[v, .int .i64 0]) ∧ OwnB w.heap.size w' v (sealOf k0 k1 m) ∧ w.grownBy w' none := by
 have C := hid (fun w => wput_good m hm w)
 have K := hid (km_new w k0 k1 m)
 clear hm
 obtain ⟨l, hl⟩ : ∃ l, putOf m = l := ⟨_, rfl⟩
 have hll : l.length = 32 := by rw [← hl]; rfl
 unfold sealOf tagB
 rw [hl] at C ⊢
 have LL := hid hll; clear hl hll
 obtain ⟨a, ha⟩ : ∃ a, sumOf k0 k1 l = a := ⟨_, rfl⟩
 obtain ⟨b, hb⟩ : ∃ b, sumOf k1 (inv k0) l = b := ⟨_, rfl⟩
 have T := hid (fun v w h => tag_any k0 k1 v l w h)
 rw [ha, hb] at T ⊢
 clear ha hb
 go_enter Tryz.func33, Tryz.ntmps33
 go_wp2_with (refine wpList_row K.out.msg Tryz.underlying39 rfl (by kernel_rfl) rfl rfl rfl rfl ?_)
 refine (C.out _).mono ?_
 rintro e w1 ⟨v, rfl, ho, hg⟩
 have ho' := ho.le (gb_size K.out.g)
 have K1 := hid (K.out.grown hg); have O1 := hid ho'; clear ho ho' hg K
 obtain ⟨c0, c1⟩ := pair_cells K1.out.key
 go_wp2_with fail
 clear c0 c1
 refine (T.out _ _ O1.out.bytes).mono ?_
 rintro e w2 ⟨rfl, hg⟩
 have K2 := hid (K1.out.grown hg); have O2 := hid (O1.out.grown hg (by simp)); clear hg K1 O1
 go_wp2_with fail
 refine (bytes_any a b _).mono ?_
 rintro e w3 ⟨u, rfl, hu, hg⟩
 have K3 := hid (K2.out.grown hg); have O3 := hid (O2.out.grown hg (by simp)); have U3 := hid hu.bytes; clear hg K2 O2 hu
 have hs : w.heap.size ≤ w3.heap.size := gb_size K3.out.g
 go_wp2_with (refine append_bytes rfl _ _ rfl w.heap.size _ _ rfl O3.out _ _ rfl U3.out (by rw [LL.out]; simp [put8_length]) hs ?_; intro u1 w4 o4 g4 a4)
 go_ret2
 exact ⟨_, rfl, o4, gb_own K3.out.g O3.out (Nat.le_refl _) g4⟩

set_option maxHeartbeats 1600000 in
theorem clone_some (a : Addr) (n c : Nat) (l : List UInt8) (hn : l.length = n) (h1 : n ≤ 100000) (w : World) (hl : BytesAt w (.slice (some a) n c) l) :
  Calls Tryz.prog 94 #[.slice (some a) n c] w fun e w' => ∃ v, e = .returned v ∧ OwnB w.heap.size w' v l ∧ w.grownBy w' none := by
 have HL := hid hl; have HN := hid hn; clear hl hn
 have hnil := Lib.run_eql_slice_nil w 40 5 (some a) n c 0 0 Tryz.underlying40
 have he := OwnB.empty w
 have HE := hid he; clear he
 have BA := hid (HL.out.alloc (.cells #[] 5))
 go_enter Tryz.func94, Tryz.ntmps94
 go_wp2_with (refine append_bytes rfl _ _ rfl w.heap.size _ [] rfl HE.out _ l rfl BA.out (by rw [HN.out]; simp; omega) (gb_size (gb_alloc (.refl w none) _)) ?_; intro u1 w4 o4 g4 a4)
 go_ret
 exact ⟨_, rfl, by simpa using o4, gb_own (gb_alloc (.refl w none) _) HE.out (Nat.le_refl _) g4⟩
end Go.Proofs.YtgpdcapnnejdeaaGreat
end
section
set_option linter.unusedSimpArgs false
set_option linter.unusedVariables false
namespace Go.Proofs.YtgpdcapnnejdeaaGreat
set_option maxRecDepth 100000
open Go.RowKit

def zeroM : Mg := ⟨0, 0, 0, 0, 0, 0, 0⟩
def gotM (l : List UInt8) : Mg := (getOf l).getD zeroM
def gotC (l : List UInt8) : Int := if (getOf l).isSome then 0 else 2

structure GA (w : World) (v : Value) (l : List UInt8) (k : Int) (wc : World) : Prop where
 ans : wc.heap[w.heap.size]? = some (.cells zeroM.cells 39)
 rd : wc.heap[w.heap.size + 1]? = some (rdObj v k)
 ba : BytesAt wc v l
 g : w.grownBy wc none
theorem GA.next {w : World} {v : Value} {l : List UInt8} {k k1 : Int} {wc w1 : World} (h : GA w v l k wc) (hr : w1.heap[w.heap.size + 1]? = some (rdObj v k1)) (hg : wc.grownBy w1 (some (w.heap.size + 1))) (hb : BytesAt w1 v l) : GA w v l k1 w1 :=
 ⟨at_grown h.ans hg (by simp), hr, hb, gb_trans h.g hg (.inr (.inr ⟨_, rfl, by omega⟩))⟩
theorem GA.grown {w : World} {v : Value} {l : List UInt8} {k : Int} {wc w1 : World} (h : GA w v l k wc) (hg : wc.grownBy w1 none) : GA w v l k w1 :=
 ⟨at_grown h.ans hg (by simp), at_grown h.rd hg (by simp), h.ba.grown hg (by simp), gb_trans h.g hg (.inl rfl)⟩
structure GB (w : World) (v : Value) (l : List UInt8) (k : Int) (mb : Nat) (m : Mg) (wc : World) : Prop where
 a : GA w v l k wc
 hm : w.heap.size + 1 < mb
 vb : ∀ a n c, v = .slice (some a) n c → a.block < w.heap.size
 box : wc.heap[mb]? = some (.cells m.cells 39)
theorem GB.next {w : World} {v : Value} {l : List UInt8} {k k1 : Int} {mb : Nat} {m : Mg} {wc w1 : World} (h : GB w v l k mb m wc) (hr : w1.heap[w.heap.size + 1]? = some (rdObj v k1)) (hg : wc.grownBy w1 (some (w.heap.size + 1))) (hb : BytesAt w1 v l) : GB w v l k1 mb m w1 :=
 ⟨h.a.next hr hg hb, h.hm, h.vb, at_grown h.box hg (by have := h.hm; simp; omega)⟩
theorem GB.set {w : World} {v : Value} {l : List UInt8} {k : Int} {mb : Nat} {m m' : Mg} {wc : World} (h : GB w v l k mb m wc) (i : Nat) (x : Value) (hm : m.cells.setIfInBounds i x = m'.cells) : GB w v l k mb m' (wc.setCell ⟨mb, i, none⟩ x) := by
 have hlt := h.hm
 have hgm : wc.grownBy (wc.setCell ⟨mb, i, none⟩ x) (some mb) := gb_row (.refl wc (some mb)) rfl x
 refine ⟨⟨at_set_other h.a.ans (by simp; omega) _, at_set_other h.a.rd (by simp; omega) _, ?_, gb_new h.a.g (by simp; omega) _⟩, hlt, h.vb, by rw [← hm]; exact at_set h.box i x⟩
 exact h.a.ba.grown hgm (fun k e => by cases e; exact .inr (.inr fun a n c e => by have := h.vb a n c e; omega))
theorem gb_setRow {w w1 : World} {r : Option Nat} (h : w.grownBy w1 r) {b : Nat} (hb : w.heap.size ≤ b) {cs : Array Value} : w.grownBy (w1.setRow b cs) r :=
 ⟨h.os, h.tape, h.output, by simpa [World.setRow] using h.size, fun k hk hr => by
  have e : (w1.setRow b cs).heap[k]? = w1.heap[k]? := by simp [World.setRow, Array.getElem?_modify, show b ≠ k by omega]
  rw [e]; exact h.block k hk hr⟩
theorem wrap_q (y : BitVec 64) : wrap64 (q y) = y.toInt := by
 unfold wrap64 q; rw [BitVec.toInt_eq_toNat_cond]; have := y.isLt; split <;> omega
theorem wrap_shr (y : BitVec 64) : wrap64 (q (y >>> 32)) = ((y.toNat / 4294967296 : Nat) : Int) := by
 have e : (y >>> 32).toNat = y.toNat / 4294967296 := by rw [BitVec.toNat_ushiftRight, Nat.shiftRight_eq_div_pow]
 unfold wrap64 q; rw [e]; have := y.isLt; omega
theorem byte_shr (y : BitVec 64) (i n : Nat) (h : 2 ^ i = n) : q (y >>> i) % 256 = ((y.toNat / n % 256 : Nat) : Int) := by
 subst h; unfold q; rw [BitVec.toNat_ushiftRight, Nat.shiftRight_eq_div_pow]; omega
theorem got_yes {l : List UInt8} (h0 : l.length = 32) (h1 : q (wordAt l 0 8) % 256 = 1) (h2 : mayOf (readOf l) = true) : gotM l = readOf l ∧ gotC l = 0 := by
 unfold gotM gotC getOf
 rw [if_pos ⟨h0, by unfold q at h1; omega, may_of h2⟩]; exact ⟨rfl, rfl⟩
theorem got_no {l : List UInt8} (h : ¬ q (wordAt l 0 8) % 256 = 1 ∨ mayOf (readOf l) = false) : gotM l = zeroM ∧ gotC l = 2 := by
 unfold gotM gotC getOf
 rw [if_neg (by
  rintro ⟨_, h1, h2⟩
  rcases h with h | h
  ·exact h (by unfold q; omega)
  ·exact absurd (decide_eq_true h2) (by unfold mayOf at h; rw [h]; decide))]
 exact ⟨rfl, rfl⟩
theorem ret_msg {a b : Mg} {x y : Int} (h : b = a ∧ y = x) : Ending.returned (.tuple #[mg a, .int .i64 x]) = Ending.returned (.tuple #[mg b, .int .i64 y]) := by rw [h.1, h.2]
set_option maxHeartbeats 3200000 in
theorem wget_walk (p : Option Addr) (c : Nat) (l : List UInt8) (hn : l.length = 32) (w : World) (hl : BytesAt w (.slice p 32 c) l) :
  Calls Tryz.prog 92 #[.slice p 32 c] w fun e w' => e = .returned (.tuple #[mg (gotM l), .int .i64 (gotC l)]) ∧ w.grownBy w' none := by
 have hlt : ∀ a n c', Value.slice p 32 c = .slice (some a) n c' → a.block < w.heap.size := by
  rcases hl.lt with e | e
  ·rw [e] at hn; cases hn
  ·exact e
 have HN := hid hn; have HT := hid hlt
 have ga : GA w (.slice p 32 c) l 0 ((w.alloc (.cells zeroM.cells 39)).alloc (rdObj (.slice p 32 c) 0)) :=
  ⟨at_alloc (at_new w _) _, by rw [← size_alloc w (.cells zeroM.cells 39)]; exact at_new _ _, (hl.alloc _).alloc _, gb_alloc (gb_alloc (.refl w none) _) _⟩
 have G0 := hid ga; clear ga hn hl hlt
 obtain ⟨r, hr0⟩ : ∃ r, readOf l = r := ⟨_, rfl⟩
 have e0 : q (wordAt l 0 8 >>> 8) % 256 = r.kind := by rw [← hr0]; exact byte_shr _ 8 256 rfl
 have e1 : q (wordAt l 0 8 >>> 16) % 256 = r.who := by rw [← hr0]; exact byte_shr _ 16 65536 rfl
 have e2 : wrap64 (q (wordAt l 0 8 >>> 32)) = r.gen := by rw [← hr0]; exact wrap_shr _
 have e3 : q (wordAt l 0 8 >>> 24) % 256 = r.metric := by rw [← hr0]; exact byte_shr _ 24 16777216 rfl
 have e4 : wrap64 (q (wordAt l 8 8)) = r.seq := by rw [← hr0]; exact wrap_q _
 have e5 : wrap64 (q (wordAt l 16 8)) = r.epoch := by rw [← hr0]; exact wrap_q _
 have e6 : wrap64 (q (wordAt l 24 8)) = r.value := by rw [← hr0]; exact wrap_q _
 have HR := hid hr0; clear hr0
 go_enter Tryz.func92, Tryz.ntmps92
 go_wp2_with fail
 refine (next_0 (w.heap.size + 1) (.slice p 32 c) l (by rw [HN.out]; decide) _ G0.out.rd G0.out.ba (fun a n c' e => by have := HT.out a n c' e; omega)).mono ?_
 rintro e w1 ⟨rfl, hr, hg, hb⟩
 have G1 := hid (G0.out.next hr hg hb); clear hr hg hb G0
 go_wp2_with fail
 have gb1 : GB w (.slice p 32 c) l 1 w1.heap.size ⟨r.kind, r.who, r.gen, 0, 0, 0, r.metric⟩ (w1.alloc (.cells (Mg.cells ⟨r.kind, r.who, r.gen, 0, 0, 0, r.metric⟩) 39)) :=
  ⟨G1.out.grown (World.grownBy_alloc _ _ _), at_lt G1.out.rd, HT.out, at_new _ _⟩
 have B1 := hid gb1; clear gb1 G1
 generalize w1.heap.size = mb at B1
 refine (next_1 (w.heap.size + 1) (.slice p 32 c) l (by rw [HN.out]; decide) _ B1.out.a.rd B1.out.a.ba (fun a n c' e => by have := HT.out a n c' e; omega)).mono ?_
 rintro e w2 ⟨rfl, hr, hg, hb⟩
 have B2 := hid (B1.out.next hr hg hb); clear hr hg hb B1
 obtain ⟨c2, f2⟩ : w2.cell? ⟨mb, 3, none⟩ = some (.int .i64 0) ∧ w2.frozen? ⟨mb, 3, none⟩ = false := ⟨at_cell B2.out.box 3, at_free B2.out.box 3⟩
 go_wp2_with fail
 clear c2 f2
 have B3 := hid (B2.out.set (m' := ⟨r.kind, r.who, r.gen, r.seq, 0, 0, r.metric⟩) 3 (.int .i64 r.seq) rfl)
 generalize w2.setCell ⟨mb, 3, none⟩ (.int .i64 r.seq) = w3 at B3
 refine (next_2 (w.heap.size + 1) (.slice p 32 c) l (by rw [HN.out]; decide) _ B3.out.a.rd B3.out.a.ba (fun a n c' e => by have := HT.out a n c' e; omega)).mono ?_
 rintro e w4 ⟨rfl, hr, hg, hb⟩
 have B4 := hid (B3.out.next hr hg hb); clear hr hg hb B3 B2
 obtain ⟨c2, f2⟩ : w4.cell? ⟨mb, 4, none⟩ = some (.int .i64 0) ∧ w4.frozen? ⟨mb, 4, none⟩ = false := ⟨at_cell B4.out.box 4, at_free B4.out.box 4⟩
 go_wp2_with fail
 clear c2 f2
 have B5 := hid (B4.out.set (m' := ⟨r.kind, r.who, r.gen, r.seq, r.epoch, 0, r.metric⟩) 4 (.int .i64 r.epoch) rfl)
 generalize w4.setCell ⟨mb, 4, none⟩ (.int .i64 r.epoch) = w5 at B5
 refine (next_3 (w.heap.size + 1) (.slice p 32 c) l (by rw [HN.out]; decide) _ B5.out.a.rd B5.out.a.ba (fun a n c' e => by have := HT.out a n c' e; omega)).mono ?_
 rintro e w6 ⟨rfl, hr, hg, hb⟩
 have B6 := hid (B5.out.next hr hg hb); clear hr hg hb B5 B4
 obtain ⟨c2, f2⟩ : w6.cell? ⟨mb, 5, none⟩ = some (.int .i64 0) ∧ w6.frozen? ⟨mb, 5, none⟩ = false := ⟨at_cell B6.out.box 5, at_free B6.out.box 5⟩
 by_cases hv : q (wordAt l 0 8) % 256 = 1
 ·have HV := hid hv
  have hc := may_any r
  obtain ⟨b, hb⟩ : ∃ b, mayOf r = b := ⟨_, rfl⟩
  rw [hb] at hc
  have C := hid hc; have HB := hid hb; clear hc hb
  have b7 := B6.out.set (m' := r) 5 (.int .i64 r.value) rfl
  have B7 := hid b7; clear b7
  go_wp2_with (refine wpList_row_w B7.out.box Tryz.underlying39 rfl (by kernel_rfl) rfl rfl rfl rfl ?_)
  refine (C.out _).mono ?_
  rintro e w8 ⟨rfl, hg⟩
  have BX := hid (at_grown B7.out.box hg (by simp)); have AN := hid (at_grown B7.out.a.ans hg (by simp)); have G8 := hid (gb_trans B7.out.a.g hg (.inl rfl)); clear hg c2 f2
  cases b
  ·have z := msg_cells (at_setRow (cs := zeroM.cells) AN.out)
   have GR := hid (got_no (l := l) (.inr (by rw [HR.out]; exact HB.out)))
   obtain ⟨d0, d1, d2, d3, d4, d5, d6⟩ := z
   go_wp2_with (first | refine wpList_buildTo (cs := zeroM.cells) rfl rfl rfl (by kernel_rfl) ?_ | refine wpList_store_row (old := zeroM.cells) (cs := zeroM.cells) AN.out (by kernel_rfl) (by kernel_rfl) (by kernel_rfl) rfl rfl rfl rfl rfl ?_)
   exact bodyPost_ret (v := .tuple #[mg zeroM, .int .i64 2]) (by simp [results, Tryz.results92, go_sem, d0, d1, d2, d3, d4, d5, d6]) rfl ⟨ret_msg GR.out, gb_setRow G8.out (Nat.le_refl _)⟩
  ·have z := msg_cells (at_setRow (cs := r.cells) AN.out)
   have GR := hid (got_yes (l := l) HN.out HV.out (by rw [HR.out]; exact HB.out))
   rw [HR.out] at GR
   obtain ⟨d0, d1, d2, d3, d4, d5, d6⟩ := z
   go_wp2_with (first | refine wpList_row BX.out Tryz.underlying39 rfl (by kernel_rfl) rfl rfl rfl rfl ?_ | refine wpList_store_row (old := zeroM.cells) (cs := r.cells) AN.out (by kernel_rfl) (by kernel_rfl) (by kernel_rfl) rfl rfl rfl rfl rfl ?_)
   exact bodyPost_ret (v := .tuple #[mg r, .int .i64 0]) (by simp [results, Tryz.results92, go_sem, d0, d1, d2, d3, d4, d5, d6]) rfl ⟨ret_msg GR.out, gb_setRow G8.out (Nat.le_refl _)⟩
 ·have b7 := B6.out.set (m' := r) 5 (.int .i64 r.value) rfl
  have AN := hid b7.a.ans; have G8 := hid b7.a.g; clear b7
  have z := msg_cells (at_setRow (cs := zeroM.cells) AN.out)
  have GR := hid (got_no (l := l) (.inl hv))
  obtain ⟨d0, d1, d2, d3, d4, d5, d6⟩ := z
  go_wp2_with (first | refine wpList_buildTo (cs := zeroM.cells) rfl rfl rfl (by kernel_rfl) ?_ | refine wpList_store_row (old := zeroM.cells) (cs := zeroM.cells) AN.out (by kernel_rfl) (by kernel_rfl) (by kernel_rfl) rfl rfl rfl rfl rfl ?_)
  exact bodyPost_ret (v := .tuple #[mg zeroM, .int .i64 2]) (by simp [results, Tryz.results92, go_sem, d0, d1, d2, d3, d4, d5, d6]) rfl ⟨ret_msg GR.out, gb_setRow G8.out (Nat.le_refl _)⟩
end Go.Proofs.YtgpdcapnnejdeaaGreat
end
section
set_option linter.unusedSimpArgs false
namespace Go.Proofs.YtgpdcapnnejdeaaGreat
set_option maxRecDepth 100000
open Go.RowKit

theorem out_idle (p : Addr) (w : World) :
  CallsD Tryz.prog 95 #[.pointer (some p)] .returning w fun e u' w' => e = .returned (.tuple #[]) ∧ u' = .returning ∧ w' = w := by
 refine callsD_of_wpS Tryz.func95 rfl fun c₀ cs hu => ?_
 apply wpS_seq
 apply wpS_region
 simp [wpOpsS, go_sem, recoverD, hu, Tryz.ntmps95, Exit.thenS]
 refine wpS_cond (t := false) (by simp [Act.eval, Array.replicate]) ?_
 simp only [Bool.false_eq_true, if_false]
 refine wpS_of_wp (wp_skip ?_)
 cases c₀
 simp_all [bodyPostS, results, Tryz.results95]
theorem isout_nil (x : Int) (w : World) :
  Calls Tryz.prog 55 #[.nilFunc, .int .i64 x] w fun e w' => e = .returned (.bool false) ∧ w.grownBy w' none := by
 have he : ∀ w, (binOp BinOp.eql 88 Value.nilFunc Value.nilFunc).run Tryz.prog w = .ok (.bool true) w := fun w => by rfl
 have G := hid (gb_alloc (World.grownBy.refl w none) (.cells #[.bool false] 4))
 go_enter_defers Tryz.func55, Tryz.ntmps55
 go_wp2
 simp [bodyPostD, Go.Leaves, results, Tryz.results55, go_sem]
 exact G.out
theorem nf_two (w : World) : (binOp BinOp.eql 88 (Value.func (Fn.func 38) #[] #[]) Value.nilFunc).run Tryz.prog w = .ok (.bool false) w := by rfl
theorem isout_two (x : Int) (w : World) :
  Calls Tryz.prog 55 #[.func (.func 38) #[] #[], .int .i64 x] w fun e w' => e = .returned (.bool (x == 2)) ∧ w.grownBy w' none := by
 have hmf : ∀ (fn : Fn) (first cap : Array Value) (w : World), (Instr.makeFunc fn first cap).run Tryz.prog w = .ok (.func fn first cap) w := fun _ _ _ _ => rfl
 have he := nf_two
 have G := hid (gb_alloc (World.grownBy.refl w none) (.cells #[.bool (x == 2)] 4))
 go_enter_defers Tryz.func55, Tryz.ntmps55
 go_wp2
 refine leaves_cons (f := 95) (args := #[.pointer (some ⟨w.heap.size, 0, none⟩)]) (by simp) (by simp [go_sem]) ?_
 refine (out_idle ⟨w.heap.size, 0, none⟩ _).mono ?_
 rintro e u' w'' ⟨rfl, rfl, rfl⟩
 simp [Go.Leaves, settle, results, Tryz.results55, go_sem]
 exact G.out

theorem load_u32 (a : Addr) (x : Int) (w : World) (hc : w.cell? a = some (.int .u32 x)) :
  Calls Tryz.prog 108 #[.pointer (some a)] w fun e w' => e = .returned (.int .u32 x) ∧ w = w' := by
 have hl := run_call_load (P := Tryz.prog) Tryz.func128 (by kernel_rfl) (by kernel_rfl) (by kernel_rfl) .u32 (by kernel_rfl) hc
 go_enter Tryz.func108, Tryz.ntmps108
 go_wp2
 go_ret
 exact ⟨rfl, rfl⟩
end Go.Proofs.YtgpdcapnnejdeaaGreat
end
