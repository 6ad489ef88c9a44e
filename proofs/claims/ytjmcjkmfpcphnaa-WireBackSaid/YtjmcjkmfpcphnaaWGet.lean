/-
  Contract for wire.Get: the message that bytes are of, or an error. The condition: the bytes read as bytes.
-/
import Derived.Test.YtjmcjkmfpcphnaaWNext
import Derived.Test.YtjmcjkmfpcphnaaWMayB
set_option linter.unusedSimpArgs false
set_option linter.unusedVariables false
namespace Go.Proofs.Ytjmcjkmfpcphnaa
set_option maxRecDepth 100000
open Go.RowKit

def zeroM : Mg := ⟨0, 0, 0, 0, 0, 0, 0⟩
def gotM (l : List UInt8) : Mg := (getOf l).getD zeroM
def gotC (l : List UInt8) : Int := if (getOf l).isSome then 0 else 2

set_option maxHeartbeats 1600000 in
theorem wget_bad (p : Option Addr) (n c : Nat) (hn : n ≠ 32) (w : World) :
    Calls Try.prog 13 #[.slice p n c] w fun e w' => e = .returned (.tuple #[mg zeroM, .int .i64 2]) ∧ w.grownBy w' none := by
  have h1 : (n : Int) ≠ 32 := by omega
  go_enter Try.func13, Try.ntmps13
  go_wp2_with fail
  exact bodyPost_ret (v := .tuple #[mg zeroM, .int .i64 2]) (by simp [results, Try.results13, go_sem, zeroM]) rfl ⟨rfl, gb_alloc (.refl w none) _⟩

/-- the function's own blocks: what goes out, the reader; all else as it was, or new -/
structure GA (w : World) (v : Value) (l : List UInt8) (k : Int) (wc : World) : Prop where
  ans : wc.heap[w.heap.size]? = some (.cells zeroM.cells 23)
  rd : wc.heap[w.heap.size + 1]? = some (rdObj v k)
  ba : BytesAt wc v l
  g : w.grownBy wc none
theorem GA.next {w : World} {v : Value} {l : List UInt8} {k k1 : Int} {wc w1 : World} (h : GA w v l k wc) (hr : w1.heap[w.heap.size + 1]? = some (rdObj v k1)) (hg : wc.grownBy w1 (some (w.heap.size + 1))) (hb : BytesAt w1 v l) : GA w v l k1 w1 :=
  ⟨at_grown h.ans hg (by simp), hr, hb, gb_trans h.g hg (.inr (.inr ⟨_, rfl, by omega⟩))⟩
theorem GA.grown {w : World} {v : Value} {l : List UInt8} {k : Int} {wc w1 : World} (h : GA w v l k wc) (hg : wc.grownBy w1 none) : GA w v l k w1 :=
  ⟨at_grown h.ans hg (by simp), at_grown h.rd hg (by simp), h.ba.grown hg (by simp), gb_trans h.g hg (.inl rfl)⟩
/-- the message that is being read -/
structure GB (w : World) (v : Value) (l : List UInt8) (k : Int) (mb : Nat) (m : Mg) (wc : World) : Prop where
  a : GA w v l k wc
  hm : w.heap.size + 1 < mb
  vb : ∀ a n c, v = .slice (some a) n c → a.block < w.heap.size
  box : wc.heap[mb]? = some (.cells m.cells 23)
theorem GB.next {w : World} {v : Value} {l : List UInt8} {k k1 : Int} {mb : Nat} {m : Mg} {wc w1 : World} (h : GB w v l k mb m wc) (hr : w1.heap[w.heap.size + 1]? = some (rdObj v k1)) (hg : wc.grownBy w1 (some (w.heap.size + 1))) (hb : BytesAt w1 v l) : GB w v l k1 mb m w1 :=
  ⟨h.a.next hr hg hb, h.hm, h.vb, at_grown h.box hg (by have := h.hm; simp; omega)⟩
theorem GB.set {w : World} {v : Value} {l : List UInt8} {k : Int} {mb : Nat} {m m' : Mg} {wc : World} (h : GB w v l k mb m wc) (i : Nat) (x : Value) (hm : m.cells.setIfInBounds i x = m'.cells) : GB w v l k mb m' (wc.setCell ⟨mb, i, none⟩ x) := by
  have hlt := h.hm
  have hgm : wc.grownBy (wc.setCell ⟨mb, i, none⟩ x) (some mb) := gb_row (.refl wc (some mb)) rfl x
  refine ⟨⟨at_set_other h.a.ans (by simp; omega) _, at_set_other h.a.rd (by simp; omega) _, ?_, gb_new h.a.g (by simp; omega) _⟩, hlt, h.vb, by rw [← hm]; exact at_set h.box i x⟩
  exact h.a.ba.grown hgm (fun k e => by cases e; exact .inr (.inr fun a n c e => by have := h.vb a n c e; omega))
theorem gb_setRow {w w1 : World} {r : Option Nat} (h : w.grownBy w1 r) {b : Nat} (hb : w.heap.size ≤ b) {cs : Array Value} : w.grownBy (w1.setRow b cs) r :=
  ⟨h.os, h.tape, h.output, by simpa [World.setRow] using h.size, fun k hk hr => by
    have e : (w1.setRow b cs).heap[k]? = w1.heap[k]? := by simp [World.setRow, Array.getElem?_modify, show b ≠ k by omega]
    rw [e]; exact h.block k hk hr⟩
theorem wrap_q (y : BitVec 64) : wrap64 (q y) = y.toInt := by
  unfold wrap64 q; rw [BitVec.toInt_eq_toNat_cond]; have := y.isLt; split <;> omega
theorem wrap_shr (y : BitVec 64) : wrap64 (q (y >>> 32)) = ((y.toNat / 4294967296 : Nat) : Int) := by
  have e : (y >>> 32).toNat = y.toNat / 4294967296 := by rw [BitVec.toNat_ushiftRight, Nat.shiftRight_eq_div_pow]
  unfold wrap64 q; rw [e]; have := y.isLt; omega
theorem byte_shr (y : BitVec 64) (i n : Nat) (h : 2 ^ i = n) : q (y >>> i) % 256 = ((y.toNat / n % 256 : Nat) : Int) := by
  subst h; unfold q; rw [BitVec.toNat_ushiftRight, Nat.shiftRight_eq_div_pow]; omega
theorem got_yes {l : List UInt8} (h0 : l.length = 32) (h1 : q (wordAt l 0 8) % 256 = 1) (h2 : mayOf (readOf l) = true) : gotM l = readOf l ∧ gotC l = 0 := by
  unfold gotM gotC getOf
  rw [if_pos ⟨h0, by unfold q at h1; omega, may_of h2⟩]; exact ⟨rfl, rfl⟩
theorem got_no {l : List UInt8} (h : ¬ q (wordAt l 0 8) % 256 = 1 ∨ mayOf (readOf l) = false) : gotM l = zeroM ∧ gotC l = 2 := by
  unfold gotM gotC getOf
  rw [if_neg (by
    rintro ⟨_, h1, h2⟩
    rcases h with h | h
    · exact h (by unfold q; omega)
    · exact absurd (decide_eq_true h2) (by unfold mayOf at h; rw [h]; decide))]
  exact ⟨rfl, rfl⟩
theorem ret_msg {a b : Mg} {x y : Int} (h : b = a ∧ y = x) : Ending.returned (.tuple #[mg a, .int .i64 x]) = Ending.returned (.tuple #[mg b, .int .i64 y]) := by rw [h.1, h.2]
set_option maxHeartbeats 3200000 in
theorem wget_walk (p : Option Addr) (c : Nat) (l : List UInt8) (hn : l.length = 32) (w : World) (hl : BytesAt w (.slice p 32 c) l) :
    Calls Try.prog 13 #[.slice p 32 c] w fun e w' => e = .returned (.tuple #[mg (gotM l), .int .i64 (gotC l)]) ∧ w.grownBy w' none := by
  have hlt : ∀ a n c', Value.slice p 32 c = .slice (some a) n c' → a.block < w.heap.size := by
    rcases hl.lt with e | e
    · rw [e] at hn; cases hn
    · exact e
  have HN := hid hn; have HT := hid hlt
  have ga : GA w (.slice p 32 c) l 0 ((w.alloc (.cells zeroM.cells 23)).alloc (rdObj (.slice p 32 c) 0)) :=
    ⟨at_alloc (at_new w _) _, by rw [← size_alloc w (.cells zeroM.cells 23)]; exact at_new _ _, (hl.alloc _).alloc _, gb_alloc (gb_alloc (.refl w none) _) _⟩
  have G0 := hid ga; clear ga hn hl hlt
  obtain ⟨r, hr0⟩ : ∃ r, readOf l = r := ⟨_, rfl⟩
  have e0 : q (wordAt l 0 8 >>> 8) % 256 = r.kind := by rw [← hr0]; exact byte_shr _ 8 256 rfl
  have e1 : q (wordAt l 0 8 >>> 16) % 256 = r.who := by rw [← hr0]; exact byte_shr _ 16 65536 rfl
  have e2 : wrap64 (q (wordAt l 0 8 >>> 32)) = r.gen := by rw [← hr0]; exact wrap_shr _
  have e3 : q (wordAt l 0 8 >>> 24) % 256 = r.metric := by rw [← hr0]; exact byte_shr _ 24 16777216 rfl
  have e4 : wrap64 (q (wordAt l 8 8)) = r.seq := by rw [← hr0]; exact wrap_q _
  have e5 : wrap64 (q (wordAt l 16 8)) = r.epoch := by rw [← hr0]; exact wrap_q _
  have e6 : wrap64 (q (wordAt l 24 8)) = r.value := by rw [← hr0]; exact wrap_q _
  have HR := hid hr0; clear hr0
  go_enter Try.func13, Try.ntmps13
  go_wp2_with fail
  refine (next_0 (w.heap.size + 1) (.slice p 32 c) l (by rw [HN.out]; decide) _ G0.out.rd G0.out.ba (fun a n c' e => by have := HT.out a n c' e; omega)).mono ?_
  rintro e w1 ⟨rfl, hr, hg, hb⟩
  have G1 := hid (G0.out.next hr hg hb); clear hr hg hb G0
  go_wp2_with fail
  have gb1 : GB w (.slice p 32 c) l 1 w1.heap.size ⟨r.kind, r.who, r.gen, 0, 0, 0, r.metric⟩ (w1.alloc (.cells (Mg.cells ⟨r.kind, r.who, r.gen, 0, 0, 0, r.metric⟩) 23)) :=
    ⟨G1.out.grown (World.grownBy_alloc _ _ _), at_lt G1.out.rd, HT.out, at_new _ _⟩
  have B1 := hid gb1; clear gb1 G1
  generalize w1.heap.size = mb at B1
  refine (next_1 (w.heap.size + 1) (.slice p 32 c) l (by rw [HN.out]; decide) _ B1.out.a.rd B1.out.a.ba (fun a n c' e => by have := HT.out a n c' e; omega)).mono ?_
  rintro e w2 ⟨rfl, hr, hg, hb⟩
  have B2 := hid (B1.out.next hr hg hb); clear hr hg hb B1
  obtain ⟨c2, f2⟩ : w2.cell? ⟨mb, 3, none⟩ = some (.int .i64 0) ∧ w2.frozen? ⟨mb, 3, none⟩ = false := ⟨at_cell B2.out.box 3, at_free B2.out.box 3⟩
  go_wp2_with fail
  clear c2 f2
  have B3 := hid (B2.out.set (m' := ⟨r.kind, r.who, r.gen, r.seq, 0, 0, r.metric⟩) 3 (.int .i64 r.seq) rfl)
  generalize w2.setCell ⟨mb, 3, none⟩ (.int .i64 r.seq) = w3 at B3
  refine (next_2 (w.heap.size + 1) (.slice p 32 c) l (by rw [HN.out]; decide) _ B3.out.a.rd B3.out.a.ba (fun a n c' e => by have := HT.out a n c' e; omega)).mono ?_
  rintro e w4 ⟨rfl, hr, hg, hb⟩
  have B4 := hid (B3.out.next hr hg hb); clear hr hg hb B3 B2
  obtain ⟨c2, f2⟩ : w4.cell? ⟨mb, 4, none⟩ = some (.int .i64 0) ∧ w4.frozen? ⟨mb, 4, none⟩ = false := ⟨at_cell B4.out.box 4, at_free B4.out.box 4⟩
  go_wp2_with fail
  clear c2 f2
  have B5 := hid (B4.out.set (m' := ⟨r.kind, r.who, r.gen, r.seq, r.epoch, 0, r.metric⟩) 4 (.int .i64 r.epoch) rfl)
  generalize w4.setCell ⟨mb, 4, none⟩ (.int .i64 r.epoch) = w5 at B5
  refine (next_3 (w.heap.size + 1) (.slice p 32 c) l (by rw [HN.out]; decide) _ B5.out.a.rd B5.out.a.ba (fun a n c' e => by have := HT.out a n c' e; omega)).mono ?_
  rintro e w6 ⟨rfl, hr, hg, hb⟩
  have B6 := hid (B5.out.next hr hg hb); clear hr hg hb B5 B4
  obtain ⟨c2, f2⟩ : w6.cell? ⟨mb, 5, none⟩ = some (.int .i64 0) ∧ w6.frozen? ⟨mb, 5, none⟩ = false := ⟨at_cell B6.out.box 5, at_free B6.out.box 5⟩
  by_cases hv : q (wordAt l 0 8) % 256 = 1
  · have HV := hid hv
    have hc := may_any r
    obtain ⟨b, hb⟩ : ∃ b, mayOf r = b := ⟨_, rfl⟩
    rw [hb] at hc
    have C := hid hc; have HB := hid hb; clear hc hb
    have b7 := B6.out.set (m' := r) 5 (.int .i64 r.value) rfl
    have B7 := hid b7; clear b7
    go_wp2_with (refine wpList_row_w B7.out.box Try.underlying23 rfl (by kernel_rfl) rfl rfl rfl rfl ?_)
    refine (C.out _).mono ?_
    rintro e w8 ⟨rfl, hg⟩
    have BX := hid (at_grown B7.out.box hg (by simp)); have AN := hid (at_grown B7.out.a.ans hg (by simp)); have G8 := hid (gb_trans B7.out.a.g hg (.inl rfl)); clear hg c2 f2
    cases b
    · have z := msg_cells (at_setRow (cs := zeroM.cells) AN.out)
      have GR := hid (got_no (l := l) (.inr (by rw [HR.out]; exact HB.out)))
      obtain ⟨d0, d1, d2, d3, d4, d5, d6⟩ := z
      go_wp2_with (first | refine wpList_buildTo (cs := zeroM.cells) rfl rfl rfl (by kernel_rfl) ?_ | refine wpList_store_row (old := zeroM.cells) (cs := zeroM.cells) AN.out (by kernel_rfl) (by kernel_rfl) (by kernel_rfl) rfl rfl rfl rfl rfl ?_)
      exact bodyPost_ret (v := .tuple #[mg zeroM, .int .i64 2]) (by simp [results, Try.results13, go_sem, d0, d1, d2, d3, d4, d5, d6]) rfl ⟨ret_msg GR.out, gb_setRow G8.out (Nat.le_refl _)⟩
    · have z := msg_cells (at_setRow (cs := r.cells) AN.out)
      have GR := hid (got_yes (l := l) HN.out HV.out (by rw [HR.out]; exact HB.out))
      rw [HR.out] at GR
      obtain ⟨d0, d1, d2, d3, d4, d5, d6⟩ := z
      go_wp2_with (first | refine wpList_row BX.out Try.underlying23 rfl (by kernel_rfl) rfl rfl rfl rfl ?_ | refine wpList_store_row (old := zeroM.cells) (cs := r.cells) AN.out (by kernel_rfl) (by kernel_rfl) (by kernel_rfl) rfl rfl rfl rfl rfl ?_)
      exact bodyPost_ret (v := .tuple #[mg r, .int .i64 0]) (by simp [results, Try.results13, go_sem, d0, d1, d2, d3, d4, d5, d6]) rfl ⟨ret_msg GR.out, gb_setRow G8.out (Nat.le_refl _)⟩
  · have b7 := B6.out.set (m' := r) 5 (.int .i64 r.value) rfl
    have AN := hid b7.a.ans; have G8 := hid b7.a.g; clear b7
    have z := msg_cells (at_setRow (cs := zeroM.cells) AN.out)
    have GR := hid (got_no (l := l) (.inl hv))
    obtain ⟨d0, d1, d2, d3, d4, d5, d6⟩ := z
    go_wp2_with (first | refine wpList_buildTo (cs := zeroM.cells) rfl rfl rfl (by kernel_rfl) ?_ | refine wpList_store_row (old := zeroM.cells) (cs := zeroM.cells) AN.out (by kernel_rfl) (by kernel_rfl) (by kernel_rfl) rfl rfl rfl rfl rfl ?_)
    exact bodyPost_ret (v := .tuple #[mg zeroM, .int .i64 2]) (by simp [results, Try.results13, go_sem, d0, d1, d2, d3, d4, d5, d6]) rfl ⟨ret_msg GR.out, gb_setRow G8.out (Nat.le_refl _)⟩
end Go.Proofs.Ytjmcjkmfpcphnaa
