/-
  Contract for wire.Get: the message that bytes are of, or an error. The condition: the bytes read as bytes.
  Contract for wire.Split: the message, its bytes, the tag of an envelope's bytes, or an error. The condition: the bytes read as bytes.
  A contract of the document's own answer for the sum of bytes: it is the sum of the padded bytes, eight at a time. The condition: the string has at most a hundred thousand bytes.
  Plain mathematics: the sum of the padded bytes, eight at a time, is the sum of the bytes one by one. No condition.
  Contracts for the document's own tags. The condition: strings of a modest length.
  Contracts for the document's own reading of messages, its envelopes. The condition: strings of a modest length.
  Contract for the document's own envelopes: what is in bytes. The condition: strings of a modest length.
  Contracts for package wire and the document's own answer, each for whatever comes: put, seal, get, split. The conditions: bytes that read as bytes, of a modest length.
  What a walk keeps of the world: blocks known whole, slices that read as bytes; kept by whatever makes memory. No condition. Nothing of the program's functions is named here.
  Messages, keys, tags in blocks of their own; get and split of what was put and sealed. No condition.
  Contracts for what tells who is out: with nobody to ask, and with the one that names collector 2; and for the count of a holder's turns. No condition.
  What is taken, as a model: generations, of each collector the numbers of its generation and of the one ahead; and the program's object that holds it. No condition.
-/
import Derived.Test.YtfhifnhnkgdnlaaGreatZ3
import Derived.Test.YtfhifnhnkgdnlaaGreatZ1
import Derived.RegionTactic
import Derived.BigRegion
import Derived.Deep.DeepCutAuto
import Derived.Test.YtfhifnhnkgdnlaaGreatZ2
import Derived.Test.YtfhifnhnkgdnlaaGreatRows
import Derived.WalkKit
import Derived.WalkSpells
import Derived.WalkLawsBesides
import Derived.Defers
import Derived.Recover
import Derived.Laws.Pointers
import Derived.Laws.LoneSync
section
set_option linter.unusedSimpArgs false
set_option linter.unusedVariables false
namespace Go.Proofs.YtfhifnhnkgdnlaaGreat
set_option maxRecDepth 100000
open Go.RowKit

def zeroM : Mg := ⟨0, 0, 0, 0, 0, 0, 0⟩
def gotM (l : List UInt8) : Mg := (getOf l).getD zeroM
def gotC (l : List UInt8) : Int := if (getOf l).isSome then 0 else 2

set_option maxHeartbeats 1600000 in
theorem wget_bad (p : Option Addr) (n c : Nat) (hn : n ≠ 32) (w : World) :
    Calls Tryz.prog 92 #[.slice p n c] w fun e w' => e = .returned (.tuple #[mg zeroM, .int .i64 2]) ∧ w.grownBy w' none := by
  have h1 : (n : Int) ≠ 32 := by omega
  go_enter Tryz.func92, Tryz.ntmps92
  go_wp2_with fail
  exact bodyPost_ret (v := .tuple #[mg zeroM, .int .i64 2]) (by simp [results, Tryz.results92, go_sem, zeroM]) rfl ⟨rfl, gb_alloc (.refl w none) _⟩

/-- the function's own blocks: what goes out, the reader; all else as it was, or new -/
structure GA (w : World) (v : Value) (l : List UInt8) (k : Int) (wc : World) : Prop where
  ans : wc.heap[w.heap.size]? = some (.cells zeroM.cells 39)
  rd : wc.heap[w.heap.size + 1]? = some (rdObj v k)
  ba : BytesAt wc v l
  g : w.grownBy wc none
theorem GA.next {w : World} {v : Value} {l : List UInt8} {k k1 : Int} {wc w1 : World} (h : GA w v l k wc) (hr : w1.heap[w.heap.size + 1]? = some (rdObj v k1)) (hg : wc.grownBy w1 (some (w.heap.size + 1))) (hb : BytesAt w1 v l) : GA w v l k1 w1 :=
  ⟨at_grown h.ans hg (by simp), hr, hb, gb_trans h.g hg (.inr (.inr ⟨_, rfl, by omega⟩))⟩
theorem GA.grown {w : World} {v : Value} {l : List UInt8} {k : Int} {wc w1 : World} (h : GA w v l k wc) (hg : wc.grownBy w1 none) : GA w v l k w1 :=
  ⟨at_grown h.ans hg (by simp), at_grown h.rd hg (by simp), h.ba.grown hg (by simp), gb_trans h.g hg (.inl rfl)⟩
/-- the message that is being read -/
structure GB (w : World) (v : Value) (l : List UInt8) (k : Int) (mb : Nat) (m : Mg) (wc : World) : Prop where
  a : GA w v l k wc
  hm : w.heap.size + 1 < mb
  vb : ∀ a n c, v = .slice (some a) n c → a.block < w.heap.size
  box : wc.heap[mb]? = some (.cells m.cells 39)
theorem GB.next {w : World} {v : Value} {l : List UInt8} {k k1 : Int} {mb : Nat} {m : Mg} {wc w1 : World} (h : GB w v l k mb m wc) (hr : w1.heap[w.heap.size + 1]? = some (rdObj v k1)) (hg : wc.grownBy w1 (some (w.heap.size + 1))) (hb : BytesAt w1 v l) : GB w v l k1 mb m w1 :=
  ⟨h.a.next hr hg hb, h.hm, h.vb, at_grown h.box hg (by have := h.hm; simp; omega)⟩
theorem GB.set {w : World} {v : Value} {l : List UInt8} {k : Int} {mb : Nat} {m m' : Mg} {wc : World} (h : GB w v l k mb m wc) (i : Nat) (x : Value) (hm : m.cells.setIfInBounds i x = m'.cells) : GB w v l k mb m' (wc.setCell ⟨mb, i, none⟩ x) := by
  have hlt := h.hm
  have hgm : wc.grownBy (wc.setCell ⟨mb, i, none⟩ x) (some mb) := gb_row (.refl wc (some mb)) rfl x
  refine ⟨⟨at_set_other h.a.ans (by simp; omega) _, at_set_other h.a.rd (by simp; omega) _, ?_, gb_new h.a.g (by simp; omega) _⟩, hlt, h.vb, by rw [← hm]; exact at_set h.box i x⟩
  exact h.a.ba.grown hgm (fun k e => by cases e; exact .inr (.inr fun a n c e => by have := h.vb a n c e; omega))
theorem gb_setRow {w w1 : World} {r : Option Nat} (h : w.grownBy w1 r) {b : Nat} (hb : w.heap.size ≤ b) {cs : Array Value} : w.grownBy (w1.setRow b cs) r :=
  ⟨h.os, h.tape, h.output, by simpa [World.setRow] using h.size, fun k hk hr => by
    have e : (w1.setRow b cs).heap[k]? = w1.heap[k]? := by simp [World.setRow, Array.getElem?_modify, show b ≠ k by omega]
    rw [e]; exact h.block k hk hr⟩
theorem wrap_q (y : BitVec 64) : wrap64 (q y) = y.toInt := by
  unfold wrap64 q; rw [BitVec.toInt_eq_toNat_cond]; have := y.isLt; split <;> omega
theorem wrap_shr (y : BitVec 64) : wrap64 (q (y >>> 32)) = ((y.toNat / 4294967296 : Nat) : Int) := by
  have e : (y >>> 32).toNat = y.toNat / 4294967296 := by rw [BitVec.toNat_ushiftRight, Nat.shiftRight_eq_div_pow]
  unfold wrap64 q; rw [e]; have := y.isLt; omega
theorem byte_shr (y : BitVec 64) (i n : Nat) (h : 2 ^ i = n) : q (y >>> i) % 256 = ((y.toNat / n % 256 : Nat) : Int) := by
  subst h; unfold q; rw [BitVec.toNat_ushiftRight, Nat.shiftRight_eq_div_pow]; omega
theorem got_yes {l : List UInt8} (h0 : l.length = 32) (h1 : q (wordAt l 0 8) % 256 = 1) (h2 : mayOf (readOf l) = true) : gotM l = readOf l ∧ gotC l = 0 := by
  unfold gotM gotC getOf
  rw [if_pos ⟨h0, by unfold q at h1; omega, may_of h2⟩]; exact ⟨rfl, rfl⟩
theorem got_no {l : List UInt8} (h : ¬ q (wordAt l 0 8) % 256 = 1 ∨ mayOf (readOf l) = false) : gotM l = zeroM ∧ gotC l = 2 := by
  unfold gotM gotC getOf
  rw [if_neg (by
    rintro ⟨_, h1, h2⟩
    rcases h with h | h
    · exact h (by unfold q; omega)
    · exact absurd (decide_eq_true h2) (by unfold mayOf at h; rw [h]; decide))]
  exact ⟨rfl, rfl⟩
theorem ret_msg {a b : Mg} {x y : Int} (h : b = a ∧ y = x) : Ending.returned (.tuple #[mg a, .int .i64 x]) = Ending.returned (.tuple #[mg b, .int .i64 y]) := by rw [h.1, h.2]
set_option maxHeartbeats 3200000 in
theorem wget_walk (p : Option Addr) (c : Nat) (l : List UInt8) (hn : l.length = 32) (w : World) (hl : BytesAt w (.slice p 32 c) l) :
    Calls Tryz.prog 92 #[.slice p 32 c] w fun e w' => e = .returned (.tuple #[mg (gotM l), .int .i64 (gotC l)]) ∧ w.grownBy w' none := by
  have hlt : ∀ a n c', Value.slice p 32 c = .slice (some a) n c' → a.block < w.heap.size := by
    rcases hl.lt with e | e
    · rw [e] at hn; cases hn
    · exact e
  have HN := hid hn; have HT := hid hlt
  have ga : GA w (.slice p 32 c) l 0 ((w.alloc (.cells zeroM.cells 39)).alloc (rdObj (.slice p 32 c) 0)) :=
    ⟨at_alloc (at_new w _) _, by rw [← size_alloc w (.cells zeroM.cells 39)]; exact at_new _ _, (hl.alloc _).alloc _, gb_alloc (gb_alloc (.refl w none) _) _⟩
  have G0 := hid ga; clear ga hn hl hlt
  obtain ⟨r, hr0⟩ : ∃ r, readOf l = r := ⟨_, rfl⟩
  have e0 : q (wordAt l 0 8 >>> 8) % 256 = r.kind := by rw [← hr0]; exact byte_shr _ 8 256 rfl
  have e1 : q (wordAt l 0 8 >>> 16) % 256 = r.who := by rw [← hr0]; exact byte_shr _ 16 65536 rfl
  have e2 : wrap64 (q (wordAt l 0 8 >>> 32)) = r.gen := by rw [← hr0]; exact wrap_shr _
  have e3 : q (wordAt l 0 8 >>> 24) % 256 = r.metric := by rw [← hr0]; exact byte_shr _ 24 16777216 rfl
  have e4 : wrap64 (q (wordAt l 8 8)) = r.seq := by rw [← hr0]; exact wrap_q _
  have e5 : wrap64 (q (wordAt l 16 8)) = r.epoch := by rw [← hr0]; exact wrap_q _
  have e6 : wrap64 (q (wordAt l 24 8)) = r.value := by rw [← hr0]; exact wrap_q _
  have HR := hid hr0; clear hr0
  go_enter Tryz.func92, Tryz.ntmps92
  go_wp2_with fail
  refine (next_0 (w.heap.size + 1) (.slice p 32 c) l (by rw [HN.out]; decide) _ G0.out.rd G0.out.ba (fun a n c' e => by have := HT.out a n c' e; omega)).mono ?_
  rintro e w1 ⟨rfl, hr, hg, hb⟩
  have G1 := hid (G0.out.next hr hg hb); clear hr hg hb G0
  go_wp2_with fail
  have gb1 : GB w (.slice p 32 c) l 1 w1.heap.size ⟨r.kind, r.who, r.gen, 0, 0, 0, r.metric⟩ (w1.alloc (.cells (Mg.cells ⟨r.kind, r.who, r.gen, 0, 0, 0, r.metric⟩) 39)) :=
    ⟨G1.out.grown (World.grownBy_alloc _ _ _), at_lt G1.out.rd, HT.out, at_new _ _⟩
  have B1 := hid gb1; clear gb1 G1
  generalize w1.heap.size = mb at B1
  refine (next_1 (w.heap.size + 1) (.slice p 32 c) l (by rw [HN.out]; decide) _ B1.out.a.rd B1.out.a.ba (fun a n c' e => by have := HT.out a n c' e; omega)).mono ?_
  rintro e w2 ⟨rfl, hr, hg, hb⟩
  have B2 := hid (B1.out.next hr hg hb); clear hr hg hb B1
  obtain ⟨c2, f2⟩ : w2.cell? ⟨mb, 3, none⟩ = some (.int .i64 0) ∧ w2.frozen? ⟨mb, 3, none⟩ = false := ⟨at_cell B2.out.box 3, at_free B2.out.box 3⟩
  go_wp2_with fail
  clear c2 f2
  have B3 := hid (B2.out.set (m' := ⟨r.kind, r.who, r.gen, r.seq, 0, 0, r.metric⟩) 3 (.int .i64 r.seq) rfl)
  generalize w2.setCell ⟨mb, 3, none⟩ (.int .i64 r.seq) = w3 at B3
  refine (next_2 (w.heap.size + 1) (.slice p 32 c) l (by rw [HN.out]; decide) _ B3.out.a.rd B3.out.a.ba (fun a n c' e => by have := HT.out a n c' e; omega)).mono ?_
  rintro e w4 ⟨rfl, hr, hg, hb⟩
  have B4 := hid (B3.out.next hr hg hb); clear hr hg hb B3 B2
  obtain ⟨c2, f2⟩ : w4.cell? ⟨mb, 4, none⟩ = some (.int .i64 0) ∧ w4.frozen? ⟨mb, 4, none⟩ = false := ⟨at_cell B4.out.box 4, at_free B4.out.box 4⟩
  go_wp2_with fail
  clear c2 f2
  have B5 := hid (B4.out.set (m' := ⟨r.kind, r.who, r.gen, r.seq, r.epoch, 0, r.metric⟩) 4 (.int .i64 r.epoch) rfl)
  generalize w4.setCell ⟨mb, 4, none⟩ (.int .i64 r.epoch) = w5 at B5
  refine (next_3 (w.heap.size + 1) (.slice p 32 c) l (by rw [HN.out]; decide) _ B5.out.a.rd B5.out.a.ba (fun a n c' e => by have := HT.out a n c' e; omega)).mono ?_
  rintro e w6 ⟨rfl, hr, hg, hb⟩
  have B6 := hid (B5.out.next hr hg hb); clear hr hg hb B5 B4
  obtain ⟨c2, f2⟩ : w6.cell? ⟨mb, 5, none⟩ = some (.int .i64 0) ∧ w6.frozen? ⟨mb, 5, none⟩ = false := ⟨at_cell B6.out.box 5, at_free B6.out.box 5⟩
  by_cases hv : q (wordAt l 0 8) % 256 = 1
  · have HV := hid hv
    have hc := may_any r
    obtain ⟨b, hb⟩ : ∃ b, mayOf r = b := ⟨_, rfl⟩
    rw [hb] at hc
    have C := hid hc; have HB := hid hb; clear hc hb
    have b7 := B6.out.set (m' := r) 5 (.int .i64 r.value) rfl
    have B7 := hid b7; clear b7
    go_wp2_with (refine wpList_row_w B7.out.box Tryz.underlying39 rfl (by kernel_rfl) rfl rfl rfl rfl ?_)
    refine (C.out _).mono ?_
    rintro e w8 ⟨rfl, hg⟩
    have BX := hid (at_grown B7.out.box hg (by simp)); have AN := hid (at_grown B7.out.a.ans hg (by simp)); have G8 := hid (gb_trans B7.out.a.g hg (.inl rfl)); clear hg c2 f2
    cases b
    · have z := msg_cells (at_setRow (cs := zeroM.cells) AN.out)
      have GR := hid (got_no (l := l) (.inr (by rw [HR.out]; exact HB.out)))
      obtain ⟨d0, d1, d2, d3, d4, d5, d6⟩ := z
      go_wp2_with (first | refine wpList_buildTo (cs := zeroM.cells) rfl rfl rfl (by kernel_rfl) ?_ | refine wpList_store_row (old := zeroM.cells) (cs := zeroM.cells) AN.out (by kernel_rfl) (by kernel_rfl) (by kernel_rfl) rfl rfl rfl rfl rfl ?_)
      exact bodyPost_ret (v := .tuple #[mg zeroM, .int .i64 2]) (by simp [results, Tryz.results92, go_sem, d0, d1, d2, d3, d4, d5, d6]) rfl ⟨ret_msg GR.out, gb_setRow G8.out (Nat.le_refl _)⟩
    · have z := msg_cells (at_setRow (cs := r.cells) AN.out)
      have GR := hid (got_yes (l := l) HN.out HV.out (by rw [HR.out]; exact HB.out))
      rw [HR.out] at GR
      obtain ⟨d0, d1, d2, d3, d4, d5, d6⟩ := z
      go_wp2_with (first | refine wpList_row BX.out Tryz.underlying39 rfl (by kernel_rfl) rfl rfl rfl rfl ?_ | refine wpList_store_row (old := zeroM.cells) (cs := r.cells) AN.out (by kernel_rfl) (by kernel_rfl) (by kernel_rfl) rfl rfl rfl rfl rfl ?_)
      exact bodyPost_ret (v := .tuple #[mg r, .int .i64 0]) (by simp [results, Tryz.results92, go_sem, d0, d1, d2, d3, d4, d5, d6]) rfl ⟨ret_msg GR.out, gb_setRow G8.out (Nat.le_refl _)⟩
  · have b7 := B6.out.set (m' := r) 5 (.int .i64 r.value) rfl
    have AN := hid b7.a.ans; have G8 := hid b7.a.g; clear b7
    have z := msg_cells (at_setRow (cs := zeroM.cells) AN.out)
    have GR := hid (got_no (l := l) (.inl hv))
    obtain ⟨d0, d1, d2, d3, d4, d5, d6⟩ := z
    go_wp2_with (first | refine wpList_buildTo (cs := zeroM.cells) rfl rfl rfl (by kernel_rfl) ?_ | refine wpList_store_row (old := zeroM.cells) (cs := zeroM.cells) AN.out (by kernel_rfl) (by kernel_rfl) (by kernel_rfl) rfl rfl rfl rfl rfl ?_)
    exact bodyPost_ret (v := .tuple #[mg zeroM, .int .i64 2]) (by simp [results, Tryz.results92, go_sem, d0, d1, d2, d3, d4, d5, d6]) rfl ⟨ret_msg GR.out, gb_setRow G8.out (Nat.le_refl _)⟩
end Go.Proofs.YtfhifnhnkgdnlaaGreat
end
section
set_option linter.unusedSimpArgs false
set_option linter.unusedVariables false
namespace Go.Proofs.YtfhifnhnkgdnlaaGreat
set_option maxRecDepth 100000
open Go.RowKit

theorem add_at (b o i : Nat) : (⟨b, o, none⟩ : Addr).add i = ⟨b, o + i, none⟩ := by unfold Addr.add; split <;> simp_all
theorem bytes_slice0 {w : World} {ab ao n c j : Nat} {l : List UInt8} (h : BytesAt w (.slice (some ⟨ab, ao, none⟩) n c) l) (hj : j ≤ n) : BytesAt w (.slice (some ⟨ab, ao, none⟩) j c) (l.take j) := by
  rcases h with ⟨h, _⟩ | ⟨a, cap, e, h1, h2, h3⟩
  · cases h
  · cases e
    have hl : (l.take j).length = j := by rw [List.length_take]; omega
    refine .inr ⟨_, c, by rw [hl], by omega, h2, fun i hi => ?_⟩
    have := h3 i (by omega)
    rw [this]; simp
theorem bytes_slice1 {w : World} {ab ao n c i : Nat} {l : List UInt8} (h : BytesAt w (.slice (some ⟨ab, ao, none⟩) n c) l) (hi : i ≤ n) : BytesAt w (.slice (some ⟨ab, ao + i, none⟩) (n - i) (c - i)) (l.drop i) := by
  rcases h with ⟨h, _⟩ | ⟨a, cap, e, h1, h2, h3⟩
  · cases h
  · cases e
    have hl : (l.drop i).length = l.length - i := by rw [List.length_drop]
    refine .inr ⟨_, c - i, by rw [hl], by omega, by omega, fun k hk => ?_⟩
    have := h3 (i + k) (by omega)
    rw [add_at] at this ⊢
    rw [Nat.add_assoc, this]; simp
theorem gb_rowset (w : World) (b : Nat) (cs : Array Value) : w.grownBy (w.setRow b cs) (some b) :=
  ⟨rfl, rfl, rfl, by simp [World.setRow], fun k hk hr => by simp [World.setRow, Array.getElem?_modify, show b ≠ k by intro e; exact hr (by rw [e])]⟩
section
variable {P : Program} {o : Oper} {a : Act} {w : World} {K : Act → World → Prop} {Q : Exit → Act → World → Prop} {b : Nat} {t ty : TypeId} {x y : Operand} {cs old : Array Value}
theorem wp_store_row (h : w.heap[b]? = some (.cells old t (0, 0))) (hi : (P.info? ty).map (·.size) = some cs.size) (hsz : old.size = cs.size) (h1 : cs.all (·.oneCell') = true)
    (ho : o.op = .store ty x y) (hdst : o.dst = none) (hx : a.eval x = .pointer (some ⟨b, 0, none⟩)) (hy : a.eval y = .agg cs)
    (k : K a (w.setRow b cs)) : Oper.wp P o a w K Q := by
  unfold Oper.wp
  have e : (execOp a.eval o).run P w = .ok .skip (w.setRow b cs) := by
    simp only [execOp, ho, hx, hy, Sem.run_bind, Instr.storeAt, Instr.sureAddr, Sem.run_pure, Result.andThen_ok, run_storeVar_row w b t ty old cs h hi hsz h1]
  rw [e, Oper.upon_skip, hdst]
  exact k
end

/-- the function's own blocks: what goes out (message, tag), what was read; all else as it was, or new -/
structure SP (w : World) (x y : Nat) (m : Mg) (a b : BitVec 64) (v : Value) (l : List UInt8) (wc : World) : Prop where
  am : ∃ c : Mg, wc.heap[w.heap.size]? = some (.cells c.cells 39)
  ta : ∃ p r, wc.heap[w.heap.size + 1]? = some (.cells #[p, r] 83)
  hm : wc.heap[x]? = some (.cells m.cells 39)
  ht : wc.heap[y]? = some (.cells #[.int .u64 (q a), .int .u64 (q b)] 83)
  ba : BytesAt wc v l
  vb : ∀ ad n c, v = .slice (some ad) n c → ad.block < w.heap.size
  hx : w.heap.size + 1 < x
  hy : w.heap.size + 1 < y
  g : w.grownBy wc none
section
variable {w : World} {x y : Nat} {m : Mg} {a b : BitVec 64} {v : Value} {l : List UInt8} {wc w1 : World}
theorem SP.grown (h : SP w x y m a b v l wc) (hg : wc.grownBy w1 none) : SP w x y m a b v l w1 :=
  ⟨by obtain ⟨c, k⟩ := h.am; exact ⟨c, at_grown k hg (by simp)⟩, by obtain ⟨p, r, k⟩ := h.ta; exact ⟨p, r, at_grown k hg (by simp)⟩, at_grown h.hm hg (by simp), at_grown h.ht hg (by simp), h.ba.grown hg (by simp), h.vb, h.hx, h.hy, gb_trans h.g hg (.inl rfl)⟩
theorem SP.drew (h : SP w x y m a b v l wc) : SP w x y m a b v l wc.drew := ⟨h.am, h.ta, h.hm, h.ht, h.ba.drew, h.vb, h.hx, h.hy, gb_drew h.g⟩
theorem SP.size (h : SP w x y m a b v l wc) : w.heap.size + 2 ≤ wc.heap.size := by obtain ⟨p, r, k⟩ := h.ta; exact at_lt k
theorem SP.setA (h : SP w x y m a b v l wc) (c : Mg) : SP w x y m a b v l (wc.setRow w.heap.size c.cells) :=
  ⟨by obtain ⟨c', k⟩ := h.am; exact ⟨c, at_setRow k⟩, by obtain ⟨p, r, k⟩ := h.ta; exact ⟨p, r, at_setRow_other k (by omega)⟩, at_setRow_other h.hm (by have := h.hx; omega), at_setRow_other h.ht (by have := h.hy; omega),
    h.ba.grown (gb_rowset _ _ _) (fun k e => by cases e; exact .inr (.inr fun ad n c e => by have := h.vb ad n c e; omega)), h.vb, h.hx, h.hy, gb_setRow h.g (Nat.le_refl _)⟩
theorem SP.setT (h : SP w x y m a b v l wc) (p r : Value) : SP w x y m a b v l (wc.setRow (w.heap.size + 1) #[p, r]) :=
  ⟨by obtain ⟨c', k⟩ := h.am; exact ⟨c', at_setRow_other k (by omega)⟩, by obtain ⟨p', r', k⟩ := h.ta; exact ⟨p, r, at_setRow k⟩, at_setRow_other h.hm (by have := h.hx; omega), at_setRow_other h.ht (by have := h.hy; omega),
    h.ba.grown (gb_rowset _ _ _) (fun k e => by cases e; exact .inr (.inr fun ad n c e => by have := h.vb ad n c e; omega)), h.vb, h.hx, h.hy, gb_setRow h.g (by omega)⟩
end

def noSplit : Value := .tuple #[mg zeroM, .slice none 0 0, pair 0 0, .int .i64 2]
theorem pair_zero : (#[.int .u64 (q 0), .int .u64 (q 0)] : Array Value) = #[.int .u64 0, .int .u64 0] := rfl
set_option maxHeartbeats 1600000 in
theorem split_bad (p : Option Addr) (n c : Nat) (hn : n ≠ 48) (w : World) :
    Calls Tryz.prog 53 #[.slice p n c] w fun e w' => e = .returned noSplit ∧ w.grownBy w' none := by
  have h1 : (n : Int) ≠ 48 := by omega
  go_enter Tryz.func53, Tryz.ntmps53
  go_wp2_with fail
  exact bodyPost_ret (v := .tuple #[mg zeroM, .slice none 0 0, pair 0 0, .int .i64 2]) (by simp [results, Tryz.results53, go_sem, zeroM]; decide) rfl ⟨rfl, gb_alloc (gb_alloc (.refl w none) _) _⟩

theorem gotM_none {l : List UInt8} (h : getOf l = none) : gotM l = zeroM ∧ gotC l = 2 := by unfold gotM gotC; rw [h]; exact ⟨rfl, rfl⟩
theorem gotM_some {l : List UInt8} {m : Mg} (h : getOf l = some m) : gotM l = m ∧ gotC l = 0 := by unfold gotM gotC; rw [h]; exact ⟨rfl, rfl⟩
theorem get_as (l : List UInt8) (m : Mg) (k : Int) (h : gotM l = m ∧ gotC l = k) (p : Option Addr) (c : Nat) (hn : l.length = 32) (w : World) (hl : BytesAt w (.slice p 32 c) l) :
    Calls Tryz.prog 92 #[.slice p 32 c] w fun e w' => e = .returned (.tuple #[mg m, .int .i64 k]) ∧ w.grownBy w' none := by
  obtain ⟨rfl, rfl⟩ := h; exact wget_walk p c l hn w hl
theorem sp_new (w : World) : ((w.alloc (.cells zeroM.cells 39)).alloc (.cells #[.int .u64 0, .int .u64 0] 83)).heap[w.heap.size]? = some (.cells zeroM.cells 39) ∧ ((w.alloc (.cells zeroM.cells 39)).alloc (.cells #[.int .u64 0, .int .u64 0] 83)).heap[w.heap.size + 1]? = some (.cells #[.int .u64 0, .int .u64 0] 83) :=
  ⟨at_alloc (at_new w _) _, by rw [← size_alloc w (.cells zeroM.cells 39)]; exact at_new _ _⟩

set_option maxHeartbeats 1600000 in
theorem split_no (ab ao c : Nat) (hc : 48 ≤ c) (hcm : c ≤ maxLen) (l : List UInt8) (hn : l.length = 48) (hno : getOf (l.take 32) = none) (w : World) (hl : BytesAt w (.slice (some ⟨ab, ao, none⟩) 48 c) l) :
    Calls Tryz.prog 53 #[.slice (some ⟨ab, ao, none⟩) 48 c] w fun e w' => e = .returned noSplit ∧ w.grownBy w' none := by
  have hb0 := (hl.alloc (.cells zeroM.cells 39)).alloc (.cells #[.int .u64 0, .int .u64 0] 83)
  have HL := hid (bytes_slice0 (j := 32) hb0 (by decide)); have HG := hid (gotM_none hno); have HN := hid (show (l.take 32).length = 32 by rw [List.length_take]; omega); clear hl hno hn hb0
  have hg0 : w.grownBy ((w.alloc (.cells zeroM.cells 39)).alloc (.cells #[.int .u64 0, .int .u64 0] 83)) none := gb_alloc (gb_alloc (.refl w none) _) _
  have H0 := hid (sp_new w); have G0 := hid hg0; clear hg0
  have hI : (32 : Int) ≤ (c : Int) := by omega
  unfold maxLen at hcm
  go_enter Tryz.func53, Tryz.ntmps53
  go_wp2_with fail
  refine (get_as (l.take 32) zeroM 2 HG.out _ c HN.out _ HL.out).mono ?_
  rintro e w1 ⟨rfl, hg⟩
  have A := hid (at_grown H0.out.1 hg (by simp)); have B := hid (at_grown H0.out.2 hg (by simp)); have G1 := hid (gb_trans G0.out hg (.inl rfl)); clear hg H0 G0
  go_wp2_with (first | refine wpList_store_new (w := w1) (cs := zeroM.cells) rfl (by kernel_rfl) (by kernel_rfl) (by kernel_rfl) rfl rfl rfl rfl rfl ?_ | refine wpList_buildTo (ty := 39) (cs := zeroM.cells) rfl rfl rfl (by kernel_rfl) ?_ | refine wpList_store_row (old := zeroM.cells) (cs := zeroM.cells) (at_alloc A.out _) (by kernel_rfl) (by kernel_rfl) (by kernel_rfl) rfl rfl rfl rfl rfl ?_ | refine wpList_store_row (old := #[.int .u64 0, .int .u64 0]) (cs := #[.int .u64 0, .int .u64 0]) (at_setRow_other (b := w.heap.size) (at_alloc B.out _) (by omega)) (by kernel_rfl) (by kernel_rfl) (by kernel_rfl) rfl rfl rfl rfl rfl ?_)
  obtain ⟨d0, d1, d2, d3, d4, d5, d6⟩ := msg_cells (at_setRow_other (cs := #[.int .u64 0, .int .u64 0]) (at_setRow (cs := zeroM.cells) (at_alloc A.out (.cells zeroM.cells 39))) (show w.heap.size ≠ w.heap.size + 1 by omega))
  have ht := at_setRow (cs := #[.int .u64 0, .int .u64 0]) (at_setRow_other (cs := zeroM.cells) (at_alloc B.out (.cells zeroM.cells 39)) (show w.heap.size + 1 ≠ w.heap.size by omega))
  have t0 := at_cell ht 0
  have t1 := at_cell ht 1
  exact bodyPost_ret (v := noSplit) (by simp [results, Tryz.results53, go_sem, d0, d1, d2, d3, d4, d5, d6, t0, t1]; rfl) rfl ⟨rfl, gb_setRow (gb_setRow (gb_alloc G1.out _) (Nat.le_refl _)) (by omega)⟩

set_option maxHeartbeats 3200000 in
theorem split_yes (ab ao c : Nat) (hc : 48 ≤ c) (hcm : c ≤ maxLen) (l : List UInt8) (hn : l.length = 48) (m : Mg) (hno : getOf (l.take 32) = some m) (a b : BitVec 64) (ha : wordAt (l.drop 32) 0 8 = a) (hb : wordAt (l.drop 32) 8 8 = b) (w : World) (hl : BytesAt w (.slice (some ⟨ab, ao, none⟩) 48 c) l) :
    Calls Tryz.prog 53 #[.slice (some ⟨ab, ao, none⟩) 48 c] w fun e w' => ∃ u, e = .returned (.tuple #[mg m, u, pair a b, .int .i64 0]) ∧ OwnB w.heap.size w' u (l.take 32) ∧ w.grownBy w' none := by
  have hab : ab < w.heap.size := by
    rcases hl.lt with e | e
    · rw [e] at hn; cases hn
    · exact e ⟨ab, ao, none⟩ _ _ rfl
  have hb0 := (hl.alloc (.cells zeroM.cells 39)).alloc (.cells #[.int .u64 0, .int .u64 0] 83)
  have HB0 := hid hb0; have HAB := hid hab
  have HL := hid (bytes_slice0 (j := 32) hb0 (by decide)); have HG := hid (gotM_some hno); have HT32 := hid (show (l.take 32).length = 32 by rw [List.length_take]; omega)
  have HD32 := hid (show (l.drop 32).length = 16 by rw [List.length_drop]; omega)
  have HWA := hid ha; have HWB := hid hb
  clear hl hno hn hb0 hab ha hb
  have hg0 : w.grownBy ((w.alloc (.cells zeroM.cells 39)).alloc (.cells #[.int .u64 0, .int .u64 0] 83)) none := gb_alloc (gb_alloc (.refl w none) _) _
  have H0 := hid (sp_new w); have G0 := hid hg0; clear hg0
  have hI : (32 : Int) ≤ (c : Int) := by omega
  unfold maxLen at hcm
  go_enter Tryz.func53, Tryz.ntmps53
  go_wp2_with fail
  refine (get_as (l.take 32) m 0 HG.out _ c HT32.out _ HL.out).mono ?_
  rintro e w1 ⟨rfl, hg⟩
  have A := hid (at_grown H0.out.1 hg (by simp)); have B := hid (at_grown H0.out.2 hg (by simp)); have G1 := hid (gb_trans G0.out hg (.inl rfl)); have BA := hid (HB0.out.grown hg (by simp)); clear hg H0 G0 HB0 HL
  go_wp2_with (first | refine wpList_store_new (w := w1) (cs := m.cells) rfl (by kernel_rfl) (by kernel_rfl) (by kernel_rfl) rfl rfl rfl rfl rfl ?_)
  have BA2 := hid (bytes_slice1 (i := 32) (BA.out.alloc (.cells m.cells 39)) (by decide))
  refine (from_words (l.drop 32) a b HWA.out HWB.out _ _ HD32.out _ BA2.out).mono ?_
  rintro e w2 ⟨rfl, hg⟩
  have hsz : w.heap.size + 1 < w1.heap.size := at_lt B.out
  have HM := hid (at_grown (at_new w1 (.cells m.cells 39)) hg (by simp))
  have A2 := hid (at_grown (at_alloc A.out _) hg (by simp)); have B2 := hid (at_grown (at_alloc B.out _) hg (by simp)); have BA3 := hid ((BA.out.alloc _).grown hg (by simp))
  have G2 := hid (gb_trans (gb_alloc G1.out _) hg (.inl rfl))
  have hlt := at_lt HM.out
  clear hg A B BA BA2 G1
  generalize w1.heap.size = x at HM hsz hlt ⊢
  go_wp2_with (first | refine wpList_store_new (w := w2) (cs := #[.int .u64 (q a), .int .u64 (q b)]) rfl (by kernel_rfl) (by kernel_rfl) (by kernel_rfl) rfl rfl rfl rfl rfl ?_)
  have P4 : SP w x w2.heap.size m a b (.slice (some ⟨ab, ao, none⟩) 48 c) l (w2.alloc (.cells #[.int .u64 (q a), .int .u64 (q b)] 83)) :=
    ⟨⟨_, at_alloc A2.out _⟩, ⟨_, _, at_alloc B2.out _⟩, at_alloc HM.out _, at_new w2 _, BA3.out.alloc _, fun ad n c e => by cases e; exact HAB.out, hsz, by omega, gb_alloc G2.out _⟩
  have P5 := hid P4
  clear P4 A2 B2 HM BA3 G2
  generalize w2.heap.size = y at P5 ⊢
  refine wp_region_held_drew (S := (fun w' => SP w x y m a b (.slice (some ⟨ab, ao, none⟩) 48 c) l w')) (by kernel_rfl) P5.out.drew (fun hHeld => ?_)
  try dsimp only at hHeld
  refine' wpAnyH_take (i := 0) (v := _) rfl (by kernel_rfl) (by kernel_rfl) (by kernel_rfl) (fun _ _ _ h => h) (Or.inl ⟨by rfl, ?_⟩) hHeld ?_
  rotate_left
  · (intro w hSw; (try dsimp only at hSw); (try simp only [List.getElem_toArray, List.getElem_cons_succ, List.getElem_cons_zero]); refine exec_row (x := .tmp 6) hSw.hm Tryz.underlying39 rfl (by kernel_rfl) ?_ ?_ <;> rfl)
  try simp only [Act.put, List.setIfInBounds_toArray, List.set_cons_zero, List.set_cons_succ, List.getElem_toArray, List.getElem_cons_succ, List.getElem_cons_zero]
  refine' wpAnyH_take (i := 1) (v := _) rfl (by kernel_rfl) (by kernel_rfl) (by kernel_rfl) (fun _ _ _ h => h) (Or.inl ⟨by rfl, ?_⟩) hHeld ?_
  rotate_left
  · (intro w hSw; (try dsimp only at hSw); go_simp; try with_reducible rfl)
  try simp only [Act.put, List.setIfInBounds_toArray, List.set_cons_zero, List.set_cons_succ, List.getElem_toArray, List.getElem_cons_succ, List.getElem_cons_zero]
  refine' wpAnyH_take (i := 2) (v := _) rfl (by kernel_rfl) (by kernel_rfl) (by kernel_rfl) (fun _ _ _ h => h) (Or.inl ⟨by rfl, ?_⟩) hHeld ?_
  rotate_left
  · (intro w hSw; (try dsimp only at hSw); go_simp; try with_reducible rfl)
  try simp only [Act.put, List.setIfInBounds_toArray, List.set_cons_zero, List.set_cons_succ, List.getElem_toArray, List.getElem_cons_succ, List.getElem_cons_zero]
  refine' wpAnyH_take (i := 4) (v := _) rfl (by kernel_rfl) (by kernel_rfl) (by kernel_rfl) (fun _ _ _ h => h) (Or.inl ⟨by rfl, ?_⟩) hHeld ?_
  rotate_left
  · (intro w hSw; (try dsimp only at hSw); (try simp only [List.getElem_toArray, List.getElem_cons_succ, List.getElem_cons_zero]); refine exec_row (x := .tmp 8) hSw.ht Tryz.underlying83 rfl (by kernel_rfl) ?_ ?_ <;> rfl)
  try simp only [Act.put, List.setIfInBounds_toArray, List.set_cons_zero, List.set_cons_succ, List.getElem_toArray, List.getElem_cons_succ, List.getElem_cons_zero]
  refine wpAnyH_ready (rs := [3]) (by kernel_rfl) (by simp) ?_
  refine AllReadyH.cons (o := _) rfl (fun K hK => ?_) AllReadyH.nil
  try simp only [List.getElem_toArray, List.getElem_cons_succ, List.getElem_cons_zero]
  go_simp
  refine (clone_some _ _ _ (l.take 32) HT32.out (by decide) _ (bytes_slice0 hHeld.ba (by decide))).mono ?_
  rintro e w1 ⟨u, rfl, hu, hg⟩
  have L3 := hid (hHeld.grown hg)
  have U3 := hid (hu.le (hHeld.size)); clear hHeld hg hu
  go_wp2_with fail
  refine hK.out _ _ ?_ (fun hHeld => ?_)
  · exact L3.out
  clear hK K
  try dsimp only at hHeld
  try simp only [Act.put, List.setIfInBounds_toArray, List.set_cons_zero, List.set_cons_succ, List.getElem_toArray, List.getElem_cons_succ, List.getElem_cons_zero]
  obtain ⟨cm, hcm⟩ := L3.out.am
  obtain ⟨tp, tq, hct⟩ := L3.out.ta
  have A1 := hid hcm; have A2 := hid hct; clear hcm hct
  refine wpAnyH_ready (rs := [5]) (by kernel_rfl) (by simp) ?_
  refine AllReadyH.cons (o := _) rfl (fun K hK => ?_) AllReadyH.nil
  try simp only [List.getElem_toArray, List.getElem_cons_succ, List.getElem_cons_zero]
  rw [if_pos (by rfl)]
  refine wp_store_row (cs := m.cells) A1.out (by kernel_rfl) (by kernel_rfl) (by kernel_rfl) rfl rfl rfl rfl ?_
  refine hK.out _ _ ?_ (fun hHeld => ?_)
  · exact L3.out.setA m
  clear hK K
  try dsimp only at hHeld
  try simp only [Act.put, List.setIfInBounds_toArray, List.set_cons_zero, List.set_cons_succ, List.getElem_toArray, List.getElem_cons_succ, List.getElem_cons_zero]
  refine' wpAnyH_take (i := 6) (v := _) rfl (by kernel_rfl) (by kernel_rfl) (by kernel_rfl) (fun _ _ _ h => h) (Or.inl ⟨by rfl, ?_⟩) hHeld ?_
  rotate_left
  · (intro w hSw; (try dsimp only at hSw); go_simp; try with_reducible rfl)
  try simp only [Act.put, List.setIfInBounds_toArray, List.set_cons_zero, List.set_cons_succ, List.getElem_toArray, List.getElem_cons_succ, List.getElem_cons_zero]
  refine wpAnyH_ready (rs := [7]) (by kernel_rfl) (by simp) ?_
  refine AllReadyH.cons (o := _) rfl (fun K hK => ?_) AllReadyH.nil
  try simp only [List.getElem_toArray, List.getElem_cons_succ, List.getElem_cons_zero]
  rw [if_pos (by rfl)]
  refine wp_store_row (cs := #[.int .u64 (q a), .int .u64 (q b)]) (at_setRow_other (cs := m.cells) A2.out (by omega)) (by kernel_rfl) (by kernel_rfl) (by kernel_rfl) rfl rfl rfl rfl ?_
  refine hK.out _ _ ?_ (fun hHeld => ?_)
  · exact (L3.out.setA m).setT _ _
  clear hK K
  try dsimp only at hHeld
  try simp only [Act.put, List.setIfInBounds_toArray, List.set_cons_zero, List.set_cons_succ, List.getElem_toArray, List.getElem_cons_succ, List.getElem_cons_zero]
  refine' wpAnyH_take (i := 8) (v := _) rfl (by kernel_rfl) (by kernel_rfl) (by kernel_rfl) (fun _ _ _ h => h) (Or.inl ⟨by rfl, ?_⟩) hHeld ?_
  rotate_left
  · (intro w hSw; (try dsimp only at hSw); go_simp; try with_reducible rfl)
  try simp only [Act.put, List.setIfInBounds_toArray, List.set_cons_zero, List.set_cons_succ, List.getElem_toArray, List.getElem_cons_succ, List.getElem_cons_zero]
  refine wpAnyH_done (by kernel_rfl) ?_ _
  clear hHeld
  have hd := at_setRow_other (cs := #[.int .u64 (q a), .int .u64 (q b)]) (at_setRow (cs := m.cells) A1.out) (show w.heap.size ≠ w.heap.size + 1 by omega)
  obtain ⟨d0, d1, d2, d3, d4, d5, d6⟩ := msg_cells hd
  have ht := at_setRow (cs := #[.int .u64 (q a), .int .u64 (q b)]) (at_setRow_other (cs := m.cells) A2.out (show w.heap.size + 1 ≠ w.heap.size by omega))
  have t0 := at_cell ht 0
  have t1 := at_cell ht 1
  have hg := ((L3.out.setA m).setT (.int .u64 (q a)) (.int .u64 (q b))).g
  have hu := (U3.out.grown (gb_rowset _ w.heap.size m.cells) (fun g e => by obtain ⟨p, c, rfl⟩ := U3.out.form; cases p with | none => cases e | some ad => have := (U3.out.at ad _ _ rfl).1; cases e; simp; omega)).grown (gb_rowset _ (w.heap.size + 1) #[.int .u64 (q a), .int .u64 (q b)]) (fun g e => by obtain ⟨p, c, rfl⟩ := U3.out.form; cases p with | none => cases e | some ad => have := (U3.out.at ad _ _ rfl).1; cases e; simp; omega)
  have HU := hid hu; have HGG := hid hg
  clear hd ht hu hg
  go_wp2_with fail
  exact bodyPost_ret (v := .tuple #[mg m, u, pair a b, .int .i64 0]) (by simp [results, Tryz.results53, go_sem, d0, d1, d2, d3, d4, d5, d6, t0, t1]) rfl ⟨u, rfl, HU.out.le (by omega), HGG.out⟩
end Go.Proofs.YtfhifnhnkgdnlaaGreat
end
section
namespace Go.Proofs.YtfhifnhnkgdnlaaGreat
open Go.RowKit

/-- the padded bytes -/
def padded (s : ByteArray) : ByteArray := s ++ ⟨(List.replicate (7 - s.size % 8) (0 : UInt8)).toArray⟩ ++ ⟨[UInt8.ofNat s.size].toArray⟩
/-- the words behind i numbers of the padded bytes -/
def blocks (l : List UInt8) (v : W4) : Nat → W4
  | 0 => v
  | i + 1 => stirred (blocks l v i) (wordAt l (8 * i) 8)
/-- the document's sum -/
def refSumOf (k0 k1 : BitVec 64) (s : ByteArray) : BitVec 64 :=
  let v := blocks (padded s).data.toList (keyed k0 k1) (s.size / 8 + 1)
  let r := rnds 4 ⟨v.a, v.b, v.c ^^^ 255#64, v.d⟩
  r.a ^^^ r.b ^^^ r.c ^^^ r.d

theorem padded_size (s : ByteArray) : (padded s).size = 8 * (s.size / 8 + 1) := by
  unfold padded
  rw [ByteArray.size_append, ByteArray.size_append]
  have e1 : (⟨(List.replicate (7 - s.size % 8) (0 : UInt8)).toArray⟩ : ByteArray).size = 7 - s.size % 8 := by show (List.replicate (7 - s.size % 8) (0 : UInt8)).toArray.size = _; simp
  have e2 : (⟨[UInt8.ofNat s.size].toArray⟩ : ByteArray).size = 1 := rfl
  rw [e1, e2]
  omega

/-- a block that is an array of four words -/
@[reducible] def arrObj (v : W4) : Obj := .cells #[.int .u64 (q v.a), .int .u64 (q v.b), .int .u64 (q v.c), .int .u64 (q v.d)] 199
theorem arr_cells {w : World} {b : Nat} {v : W4} (hb : w.heap[b]? = some (arrObj v)) :
    w.cell? ⟨b, 0, none⟩ = some (.int .u64 (q v.a)) ∧ w.cell? ⟨b, 1, none⟩ = some (.int .u64 (q v.b)) ∧ w.cell? ⟨b, 2, none⟩ = some (.int .u64 (q v.c)) ∧ w.cell? ⟨b, 3, none⟩ = some (.int .u64 (q v.d)) ∧
      w.frozen? ⟨b, 0, none⟩ = false ∧ w.frozen? ⟨b, 1, none⟩ = false ∧ w.frozen? ⟨b, 2, none⟩ = false ∧ w.frozen? ⟨b, 3, none⟩ = false :=
  ⟨at_cell hb 0, at_cell hb 1, at_cell hb 2, at_cell hb 3, at_free hb 0, at_free hb 1, at_free hb 2, at_free hb 3⟩

/-- as many noughts as are wanted behind the bytes; the last byte -/
def zeros (s : ByteArray) : Array Value := madeCells #[.int .u8 0] (7 - s.size % 8)
@[reducible] def lastOne (s : ByteArray) : Array Value := #[.int .u8 ((s.size : Int) % 256)]
theorem info5 : (Tryz.prog.info? 5).map (fun i => (i.zero, i.size, i.bytes)) = some (some (.int .u8 0), 1, 1) := by kernel_rfl
theorem mkz (s : ByteArray) (u : World) : (Instr.makeSlice 40 (.int .i64 (7 - (s.size : Int) % 8)) (.int .i64 (7 - (s.size : Int) % 8))).run Tryz.prog u =
    .ok (.slice (some ⟨u.heap.size, 0, none⟩) (7 - s.size % 8) (7 - s.size % 8)) (u.alloc (.cells (zeros s) 5)) := by
  obtain ⟨i, hi, hz0, hz1, hz2⟩ := info_parts info5
  have e : (7 - (s.size : Int) % 8) = ((7 - s.size % 8 : Nat) : Int) := by omega
  have := run_makeSlice (P := Tryz.prog) u 40 5 i (.int .u8 0) Tryz.underlying40 hi hz0 .i64 .i64 (7 - (s.size : Int) % 8) (7 - (s.size : Int) % 8) (by omega) (Int.le_refl _) (by rw [hz1]; omega) (by rw [hz2]; omega) (by omega)
  rw [this, hz1, e]
  simp [zeros, Value.cells]
theorem made_get (n j : Nat) (h : j < n) : (madeCells #[.int .u8 0] n)[j]? = some (.int .u8 0) := by
  rw [← Array.getElem?_toList, toList_madeCells_one, List.getElem?_replicate, if_pos h]
theorem conv_z (s : ByteArray) (u : World) (g : Nat) (h : u.heap[g]? = some (.cells (zeros s) 5)) : (convert 40 9 (.slice (some ⟨g, 0, none⟩) (7 - s.size % 8) (7 - s.size % 8))).run Tryz.prog u = .ok (.string ⟨(List.replicate (7 - s.size % 8) (0 : UInt8)).toArray⟩) u := by
  have := run_convert_bytes_back u 40 9 5 ⟨g, 0, none⟩ (7 - s.size % 8) (List.replicate (7 - s.size % 8) (0 : UInt8)) Tryz.underlying40 Tryz.underlying5 Tryz.underlying9 (fun j hj => by
    have e : (⟨g, 0, none⟩ : Addr).add j = ⟨g, j, none⟩ := by unfold Addr.add; split <;> simp_all
    rw [e, at_cell h j, zeros, made_get _ _ (by simpa using hj)]
    simp)
  simpa using this
theorem conv_b (s : ByteArray) (u : World) (g : Nat) (h : u.heap[g]? = some (.cells (lastOne s) 5)) : (convert 40 9 (.slice (some ⟨g, 0, none⟩) 1 1)).run Tryz.prog u = .ok (.string ⟨[UInt8.ofNat s.size].toArray⟩) u :=
  run_convert_bytes_back u 40 9 5 ⟨g, 0, none⟩ 1 [UInt8.ofNat s.size] Tryz.underlying40 Tryz.underlying5 Tryz.underlying9 (fun j hj => by
    obtain rfl : j = 0 := by simpa using hj
    have e : (⟨g, 0, none⟩ : Addr).add 0 = ⟨g, 0, none⟩ := rfl
    rw [e, at_cell h 0]
    simp [lastOne])

set_option maxRecDepth 100000 in
set_option maxHeartbeats 3200000 in
theorem refsum_any (k0 k1 : BitVec 64) (s : ByteArray) (hs : s.size ≤ 100000) (w : World) :
    Calls Tryz.prog 91 #[.agg #[.int .u64 (q k0), .int .u64 (q k1)], .string s] w fun e w' => e = .returned (.int .u64 (q (refSumOf k0 k1 s))) ∧ w.grownBy w' none := by
  go_enter Tryz.func91, Tryz.ntmps91
  go_upto_region 2 with fail
  refine wp_gen (fun wx => wx.heap[w.heap.size + 1]? = some (arrObj (keyed k0 k1)) ∧ w.grownBy wx none) ⟨at_new2 w _ _, gb_alloc (gb_alloc (.refl w none) _) _⟩ ?_
  intro w1 hx
  obtain ⟨h1, g1⟩ := hx
  have H1 := hid h1; have G1 := hid g1
  clear h1 g1
  go_cut [6] (fun s6 wx => s6 = .string (padded s) ∧ wx.heap[w.heap.size + 1]? = some (arrObj (keyed k0 k1)) ∧ w.grownBy wx none)
  case first =>
    have hmk := mkz s
    have z1 := conv_z s (w1.alloc (.cells (zeros s) 5)).drew w1.heap.size (at_drew (at_new w1 _))
    have z2 := conv_z s ((w1.alloc (.cells (zeros s) 5)).alloc (.cells (lastOne s) 5)).drew w1.heap.size (at_drew (at_alloc (at_new w1 _) _))
    have z3 := conv_z s ((w1.alloc (.cells (lastOne s) 5)).alloc (.cells (zeros s) 5)).drew (w1.heap.size + 1) (at_drew (at_new2 w1 _ _))
    have b1 := conv_b s (w1.alloc (.cells (lastOne s) 5)).drew w1.heap.size (at_drew (at_new w1 _))
    have b2 := conv_b s ((w1.alloc (.cells (lastOne s) 5)).alloc (.cells (zeros s) 5)).drew w1.heap.size (at_drew (at_alloc (at_new w1 _) _))
    have b3 := conv_b s ((w1.alloc (.cells (zeros s) 5)).alloc (.cells (lastOne s) 5)).drew (w1.heap.size + 1) (at_drew (at_new2 w1 _ _))
    go_region
    all_goals
      go_wp2_with fail
      go_meet
      exact ⟨by simp [padded], at_drew (at_alloc (at_alloc H1.out _) _), gb_drew (gb_alloc (gb_alloc G1.out _) _)⟩
  case rest =>
    obtain ⟨rfl, h2, g2⟩ := hcut
    have H2 := hid h2; have G2 := hid g2; clear h2 g2 H1 G1
    have hp := padded_size s
    have hple : (padded s).size ≤ maxLen := by unfold maxLen; omega
    have HPL := hid hple
    have HP := hid hp
    clear hple hp
    generalize hS : padded s = S at *
    have hS0 : S.size ≤ 200000 := by have := HP.out; omega
    go_wp2_with fail

    go_loopw [7] (fun at_ wr => ∃ m : Nat, m ≤ S.size ∧ m % 8 = 0 ∧ at_ = .int .i64 (m : Int) ∧ wr.heap[w.heap.size + 1]? = some (arrObj (blocks S.data.toList (keyed k0 k1) (m / 8))) ∧ w.grownBy wr none) (fun at_ _ => S.size - (intOf at_).toNat)
    case atStart => exact ⟨0, Nat.zero_le _, rfl, rfl, H2.out, G2.out⟩
    case round =>
      obtain ⟨m, hm, hm8, rfl, hb, hg⟩ := hrel
      have HB := hid hb; have HG := hid hg; have HM := hid hm8; clear hb hg hm8 H2 G2
      by_cases hlt : m < S.size
      · have hm9 : m + 8 ≤ S.size := by have := HP.out; have := HM.out; omega
        go_wp2_with fail
        refine (refget_in S m _ HPL.out hm9).mono ?_
        rintro e w2 ⟨rfl, rfl⟩
        obtain ⟨c0, c1, c2, c3, f0, f1, f2, f3⟩ := arr_cells HB.out
        go_wp2_with fail
        have hb3 := at_set HB.out 3 (.int .u64 (q ((blocks S.data.toList (keyed k0 k1) (m / 8)).d ^^^ wordAt S.data.toList m 8)))
        have hg3 := gb_new HG.out (p := ⟨w.heap.size + 1, 3, none⟩) (by simp) (.int .u64 (q ((blocks S.data.toList (keyed k0 k1) (m / 8)).d ^^^ wordAt S.data.toList m 8)))
        generalize hV : blocks S.data.toList (keyed k0 k1) (m / 8) = V at *
        generalize hX : wordAt S.data.toList m 8 = X at *
        have HV := hid hV; have HX := hid hX; have HB3 := hid hb3; have HG3 := hid hg3
        clear hV hX hb3 hg3 c0 c1 c2 c3 f0 f1 f2 f3
        go_loopw [10] (fun i wi => ∃ j : Nat, j ≤ 2 ∧ i = .int .i64 (j : Int) ∧ wi.heap[w.heap.size + 1]? = some (arrObj (rnds j ⟨V.a, V.b, V.c, V.d ^^^ X⟩)) ∧ w.grownBy wi none) (fun i _ => 2 - (intOf i).toNat)
        case atStart => exact ⟨0, by omega, rfl, HB3.out, HG3.out⟩
        case round =>
          obtain ⟨j, hj, rfl, hbi, hgi⟩ := hrel
          have HBI := hid hbi; have HGI := hid hgi; clear hbi hgi
          obtain ⟨c0, c1, c2, c3, f0, f1, f2, f3⟩ := arr_cells HBI.out
          by_cases hjl : j < 2
          · go_wp2_with (go_at_call 123; (with_reducible refine (refround_any _ _ _ _ _).mono ?_); rintro e w' ⟨rfl, rfl⟩)
            go_roundw
            case rel => exact ⟨j + 1, by omega, by go_num, at_set (at_set (at_set (at_set HBI.out 0 _) 1 _) 2 _) 3 _, gb_new (gb_new (gb_new (gb_new HGI.out (by simp) _) (by simp) _) (by simp) _) (by simp) _⟩
            case measure => simp [intOf]; omega
          · have hj2 : j = 2 := by omega
            subst hj2
            go_wp2_with fail
            go_roundw
            case rel => exact ⟨m + 8, by omega, by have := HM.out; omega, by go_num, by
              have h8 : (m + 8) / 8 = m / 8 + 1 := by omega
              have h9 : 8 * (m / 8) = m := by have := HM.out; omega
              rw [h8, blocks, h9, HV.out, HX.out]
              exact at_set HBI.out 0 _, gb_new HGI.out (by simp) _⟩
            case measure => simp [intOf]; omega
      · have hme : m = S.size := by omega
        obtain ⟨c0, c1, c2, c3, f0, f1, f2, f3⟩ := arr_cells HB.out
        have hfin : refSumOf k0 k1 s = ((rnds 4 ⟨(blocks S.data.toList (keyed k0 k1) (m / 8)).a, (blocks S.data.toList (keyed k0 k1) (m / 8)).b, (blocks S.data.toList (keyed k0 k1) (m / 8)).c ^^^ 255#64, (blocks S.data.toList (keyed k0 k1) (m / 8)).d⟩).a ^^^ (rnds 4 ⟨(blocks S.data.toList (keyed k0 k1) (m / 8)).a, (blocks S.data.toList (keyed k0 k1) (m / 8)).b, (blocks S.data.toList (keyed k0 k1) (m / 8)).c ^^^ 255#64, (blocks S.data.toList (keyed k0 k1) (m / 8)).d⟩).b ^^^ (rnds 4 ⟨(blocks S.data.toList (keyed k0 k1) (m / 8)).a, (blocks S.data.toList (keyed k0 k1) (m / 8)).b, (blocks S.data.toList (keyed k0 k1) (m / 8)).c ^^^ 255#64, (blocks S.data.toList (keyed k0 k1) (m / 8)).d⟩).c ^^^ (rnds 4 ⟨(blocks S.data.toList (keyed k0 k1) (m / 8)).a, (blocks S.data.toList (keyed k0 k1) (m / 8)).b, (blocks S.data.toList (keyed k0 k1) (m / 8)).c ^^^ 255#64, (blocks S.data.toList (keyed k0 k1) (m / 8)).d⟩).d) := by
          have h8 : m / 8 = s.size / 8 + 1 := by have := HP.out; omega
          unfold refSumOf
          rw [hS, h8]
        have HF := hid hfin
        clear hfin hme
        have hb3 := at_set HB.out 2 (.int .u64 (q ((blocks S.data.toList (keyed k0 k1) (m / 8)).c ^^^ 255#64)))
        have hg3 := gb_new HG.out (p := ⟨w.heap.size + 1, 2, none⟩) (by simp) (.int .u64 (q ((blocks S.data.toList (keyed k0 k1) (m / 8)).c ^^^ 255#64)))
        go_wp2_with fail
        generalize hV : blocks S.data.toList (keyed k0 k1) (m / 8) = V at *
        have HB3 := hid hb3; have HG3 := hid hg3
        clear hV hb3 hg3 c0 c1 c2 c3 f0 f1 f2 f3 hlt
        go_loopw [11] (fun i wi => ∃ j : Nat, j ≤ 4 ∧ i = .int .i64 (j : Int) ∧ wi.heap[w.heap.size + 1]? = some (arrObj (rnds j ⟨V.a, V.b, V.c ^^^ 255#64, V.d⟩)) ∧ w.grownBy wi none) (fun i _ => 4 - (intOf i).toNat)
        case atStart => exact ⟨0, by omega, rfl, HB3.out, HG3.out⟩
        case round =>
          obtain ⟨j, hj, rfl, hbi, hgi⟩ := hrel
          have HBI := hid hbi; have HGI := hid hgi; clear hbi hgi
          obtain ⟨c0, c1, c2, c3, f0, f1, f2, f3⟩ := arr_cells HBI.out
          by_cases hjl : j < 4
          · go_wp2_with (go_at_call 123; (with_reducible refine (refround_any _ _ _ _ _).mono ?_); rintro e w' ⟨rfl, rfl⟩)
            go_roundw
            case rel => exact ⟨j + 1, by omega, by go_num, at_set (at_set (at_set (at_set HBI.out 0 _) 1 _) 2 _) 3 _, gb_new (gb_new (gb_new (gb_new HGI.out (by simp) _) (by simp) _) (by simp) _) (by simp) _⟩
            case measure => simp [intOf]; omega
          · have hj2 : j = 4 := by omega
            subst hj2
            go_wp2_with fail
            go_ret
            exact ⟨by rw [HF.out]; rfl, HGI.out⟩
end Go.Proofs.YtfhifnhnkgdnlaaGreat
end
section
namespace Go.Proofs.YtfhifnhnkgdnlaaGreat
set_option maxRecDepth 100000

theorem St.add_n (s : St) (x : UInt8) : (s.add x).n = s.n + 1 := by
  unfold St.add; dsimp only; split <;> rfl
/-- what a hash holds behind so many bytes -/
def stAt (k0 k1 : BitVec 64) (l : List UInt8) (i : Nat) : St := ⟨blocks l (keyed k0 k1) (i / 8), wordAt l (8 * (i / 8)) (i % 8), i⟩
theorem stAt_step (k0 k1 : BitVec 64) (l : List UInt8) (i : Nat) (h : i < l.length) : (stAt k0 k1 l i).add l[i] = stAt k0 k1 l (i + 1) := by
  have hb : byteAt l (8 * (i / 8) + i % 8) = l[i] := by
    rw [show 8 * (i / 8) + i % 8 = i by omega]; exact byteAt_eq h
  have hw : wordAt l (8 * (i / 8)) (i % 8 + 1) = wordAt l (8 * (i / 8)) (i % 8) ||| (BitVec.ofNat 64 (l[i]).toNat <<< (i % 8 * 8)) := by
    rw [wordAt, hb, Nat.mul_comm 8 (i % 8)]
  by_cases h7 : i % 8 = 7
  · rw [St.add_end _ _ (by simpa [stAt] using h7)]
    have e1 : (i + 1) / 8 = i / 8 + 1 := by omega
    have e2 : (i + 1) % 8 = 0 := by omega
    have hw8 : wordAt l (8 * (i / 8)) 8 = wordAt l (8 * (i / 8)) (i % 8) ||| (BitVec.ofNat 64 (l[i]).toNat <<< (i % 8 * 8)) := by
      rw [← hw, h7]
    simp only [stAt, e1, e2, blocks, hw8]
    rfl
  · rw [St.add_mid _ _ (by simpa [stAt] using h7)]
    have e1 : (i + 1) / 8 = i / 8 := by omega
    have e2 : (i + 1) % 8 = i % 8 + 1 := by omega
    simp only [stAt, e1, e2, hw]
theorem stAt_take (k0 k1 : BitVec 64) (l : List UInt8) (i : Nat) (h : i ≤ l.length) : (l.take i).foldl St.add (St.new k0 k1) = stAt k0 k1 l i := by
  induction i with
  | zero => rfl
  | succ i ih =>
    rw [List.take_succ_eq_append_getElem (by omega), List.foldl_append, ih (by omega)]
    exact stAt_step k0 k1 l i (by omega)
theorem stAt_all (k0 k1 : BitVec 64) (l : List UInt8) : l.foldl St.add (St.new k0 k1) = stAt k0 k1 l l.length := by
  have := stAt_take k0 k1 l l.length (Nat.le_refl _)
  rwa [List.take_of_length_le (Nat.le_refl _)] at this

theorem byteAt_left (l r : List UInt8) (i : Nat) (h : i < l.length) : byteAt (l ++ r) i = byteAt l i := by
  rw [byteAt_eq h, byteAt_eq (by simp; omega), List.getElem_append_left h]
theorem wordAt_left (l r : List UInt8) (m k : Nat) (h : m + k ≤ l.length) : wordAt (l ++ r) m k = wordAt l m k := by
  induction k with
  | zero => rfl
  | succ k ih => rw [wordAt, wordAt, ih (by omega), byteAt_left l r _ (by omega)]
theorem blocks_left (l r : List UInt8) (v : W4) (j : Nat) (h : 8 * j ≤ l.length) : blocks (l ++ r) v j = blocks l v j := by
  induction j with
  | zero => rfl
  | succ j ih => rw [blocks, blocks, ih (by omega), wordAt_left l r _ _ (by omega)]
theorem wordAt_zeros (l : List UInt8) (m k j : Nat) (h : ∀ i, k ≤ i → i < k + j → byteAt l (m + i) = 0) : wordAt l m (k + j) = wordAt l m k := by
  induction j with
  | zero => rfl
  | succ j ih =>
    rw [← Nat.add_assoc, wordAt, ih (fun i h1 h2 => h i h1 (by omega)), h (k + j) (by omega) (by omega)]
    simp
theorem padded_list (s : ByteArray) : (padded s).data.toList = s.data.toList ++ (List.replicate (7 - s.size % 8) (0 : UInt8) ++ [UInt8.ofNat s.size]) := by
  unfold padded
  rw [ByteArray.data_append, ByteArray.data_append]
  simp

theorem refSum_eq (k0 k1 : BitVec 64) (s : ByteArray) : refSumOf k0 k1 s = sumOf k0 k1 s.data.toList := by
  have hlen : s.data.toList.length = s.size := by rw [Array.length_toList]; rfl
  unfold refSumOf sumOf
  rw [stAt_all, padded_list]
  generalize hl : s.data.toList = l at *
  have hb : blocks (l ++ (List.replicate (7 - s.size % 8) (0 : UInt8) ++ [UInt8.ofNat s.size])) (keyed k0 k1) (s.size / 8 + 1)
      = stirred (blocks l (keyed k0 k1) (l.length / 8)) (wordAt l (8 * (l.length / 8)) (l.length % 8) ||| (BitVec.ofNat 64 (l.length % 256) <<< 56)) := by
    rw [blocks, blocks_left _ _ _ _ (by omega), ← hlen]
    congr 1
    have hlast : byteAt (l ++ (List.replicate (7 - l.length % 8) (0 : UInt8) ++ [UInt8.ofNat l.length])) (8 * (l.length / 8) + 7) = UInt8.ofNat l.length := by
      rw [byteAt_eq (by simp; omega), List.getElem_append_right (by omega), List.getElem_append_right (by simp; omega)]
      simp
    have hz : ∀ i, l.length % 8 ≤ i → i < l.length % 8 + (7 - l.length % 8) → byteAt (l ++ (List.replicate (7 - l.length % 8) (0 : UInt8) ++ [UInt8.ofNat l.length])) (8 * (l.length / 8) + i) = 0 := by
      intro i h1 h2
      rw [byteAt_eq (by simp; omega), List.getElem_append_right (by omega), List.getElem_append_left (by simp; omega)]
      simp
    have h7 := wordAt_zeros _ (8 * (l.length / 8)) (l.length % 8) (7 - l.length % 8) hz
    rw [show l.length % 8 + (7 - l.length % 8) = 7 by omega] at h7
    rw [wordAt, hlast, h7, wordAt_left _ _ _ _ (by omega)]
    have e : (UInt8.ofNat l.length).toNat = l.length % 256 := by simp
    rw [e]
  rw [hb]
  rfl
end Go.Proofs.YtfhifnhnkgdnlaaGreat
end
section
set_option linter.unusedSimpArgs false
namespace Go.Proofs.YtfhifnhnkgdnlaaGreat
set_option maxRecDepth 100000
open Go.RowKit

theorem refsum_str (k0 k1 : BitVec 64) (s : ByteArray) (hs : s.size ≤ 100000) (w : World) :
    Calls Tryz.prog 91 #[pair k0 k1, .string s] w fun e w' => e = .returned (.int .u64 (q (sumOf k0 k1 s.data.toList))) ∧ w.grownBy w' none := by
  rw [← refSum_eq]; exact refsum_any k0 k1 s hs w

set_option maxHeartbeats 1600000 in
theorem reftag_any (k0 k1 : BitVec 64) (s : ByteArray) (hs : s.size ≤ 100000) (w : World) :
    Calls Tryz.prog 50 #[pair k0 k1, .string s] w fun e w' => e = .returned (pair (sumOf k0 k1 s.data.toList) (sumOf k1 (inv k0) s.data.toList)) ∧ w.grownBy w' none := by
  have hi := q_inv k0
  obtain ⟨a, ha⟩ : ∃ a, sumOf k0 k1 s.data.toList = a := ⟨_, rfl⟩
  obtain ⟨b, hb⟩ : ∃ b, sumOf k1 (inv k0) s.data.toList = b := ⟨_, rfl⟩
  have hc0 := fun w => refsum_str k0 k1 s hs w
  have hc1 := fun w => refsum_str k1 (inv k0) s hs w
  rw [ha] at hc0 ⊢
  rw [hb] at hc1 ⊢
  have C0 := hid hc0; have C1 := hid hc1; clear ha hb hc0 hc1 hs
  go_enter Tryz.func50, Tryz.ntmps50
  go_wp2_with fail
  have hb : Box w k0 k1 49 83 ((w.alloc (.cells #[.int .u64 (q k0), .int .u64 (q k1)] 49)).alloc (.cells #[.int .u64 0, .int .u64 0] 83)) :=
    ⟨at_alloc (at_new w _) _, ⟨_, _, at_new2 w _ _⟩, gb_alloc (gb_alloc (.refl w none) _) _⟩
  have HB := hid hb; clear hb
  have hh := HB.out.keep
  have hsg : IntKind.u64.signed = false := rfl
  go_region_held3 (fun w' => w'.cell? ⟨w.heap.size, 0, none⟩ = some (.int .u64 (q k0)) ∧ w'.cell? ⟨w.heap.size, 1, none⟩ = some (.int .u64 (q k1)) ∧ Box w k0 k1 49 83 w')
    ((refine Box.keep (t := 49) (t' := 83) ?_; (repeat (first | assumption | with_reducible exact HB.out | with_reducible refine Box.drew ?_ | with_reducible refine Box.set1 ?_ _ | with_reducible refine Box.set0 ?_ _ | exact box_box (by assumption) | with_reducible refine Box.grown ?_ (by assumption)))))
    (first
      | (go_at_call 91; (with_reducible refine (C0.out _).mono ?_); rintro e wa ⟨rfl, hga⟩)
      | (go_at_call 91; (with_reducible refine (C1.out _).mono ?_); rintro e wb ⟨rfl, hgb⟩; obtain ⟨x, y, c0, c1, f0, f1⟩ := box_ans (by assumption) hgb; have hB := Box.grown (box_box (by assumption)) hgb))
  refine exit_gen (fun wx => wx.heap[w.heap.size + 1]? = some (.cells #[.int .u64 (q a), .int .u64 (q b)] 83) ∧ w.grownBy wx none) (hB.store _ _) ?_
  clear hB c0 c1 f0 f1 hga hgb hh
  intro wx ⟨hA, hG⟩
  have HA := hid hA; have HG := hid hG; clear hA hG
  obtain ⟨d0, d1⟩ := pair_cells HA.out
  go_wp2_with fail
  exact bodyPost_ret (v := pair a b) (by simp [results, Tryz.results50, go_sem, d0, d1]) rfl ⟨rfl, HG.out⟩

set_option maxHeartbeats 1600000 in
theorem reftagbytes_any (t0 t1 : BitVec 64) (w : World) :
    Calls Tryz.prog 49 #[pair t0 t1] w fun e w' => e = .returned (.string ⟨(put8 t0 ++ put8 t1).toArray⟩) ∧ w.grownBy w' none := by
  have he : (⟨(put8 t0).toArray⟩ : ByteArray) ++ ⟨(put8 t1).toArray⟩ = ⟨(put8 t0 ++ put8 t1).toArray⟩ := by
    apply ByteArray.ext; simp
  have hp0 := fun w => refput_any t0 w
  have hp1 := fun w => refput_any t1 w
  have z0 : (⟨(put8 t0).toArray⟩ : ByteArray).size = 8 := rfl
  have z1 : (⟨(put8 t1).toArray⟩ : ByteArray).size = 8 := rfl
  generalize (⟨(put8 t0).toArray⟩ : ByteArray) = s0 at he hp0 z0
  generalize (⟨(put8 t1).toArray⟩ : ByteArray) = s1 at he hp1 z1
  generalize (⟨(put8 t0 ++ put8 t1).toArray⟩ : ByteArray) = s2 at he ⊢
  subst he
  have P0 := hid hp0; have P1 := hid hp1; clear hp0 hp1
  go_enter Tryz.func49, Tryz.ntmps49
  go_wp2_with fail
  have hb : Boxb w t0 t1 83 (w.alloc (.cells #[.int .u64 (q t0), .int .u64 (q t1)] 83)) := ⟨at_new w _, gb_alloc (.refl w none) _⟩
  have HB := hid hb
  obtain ⟨k0, k1, _⟩ := hb.keep
  clear hb
  go_region_held3 (fun w' => w'.cell? ⟨w.heap.size, 0, none⟩ = some (.int .u64 (q t0)) ∧ w'.cell? ⟨w.heap.size, 1, none⟩ = some (.int .u64 (q t1)) ∧ Boxb w t0 t1 83 w')
    ((refine Boxb.keep (t := 83) ?_; (repeat (first | assumption | with_reducible exact HB.out | with_reducible refine Boxb.drew ?_ | exact boxb_box (by assumption) | with_reducible refine Boxb.grown ?_ (by assumption)))))
    (first
      | (go_at_call 90; (with_reducible refine (P0.out _).mono ?_); rintro e wa ⟨rfl, hga⟩)
      | (go_at_call 90; (with_reducible refine (P1.out _).mono ?_); rintro e wb ⟨rfl, hgb⟩; have hB := Boxb.grown (boxb_box (by assumption)) hgb))
  go_wp2_with fail
  go_ret
  exact ⟨rfl, hB.g⟩
end Go.Proofs.YtfhifnhnkgdnlaaGreat
end
section
set_option linter.unusedSimpArgs false
set_option linter.unusedVariables false
namespace Go.Proofs.YtfhifnhnkgdnlaaGreat
set_option maxRecDepth 100000
open Go.RowKit

theorem str_ne {a b : ByteArray} (h : ¬ a = b) : (a.toList == b.toList) = false := by
  rw [ByteArray.toList_eq, ByteArray.toList_eq]
  exact beq_eq_false_iff_ne.2 fun e => h (ByteArray.ext (Array.toList_inj.1 e))
theorem rput_as (m : Mg) (hm : mayOf m = true) (w : World) :
    Calls Tryz.prog 48 #[mg m] w fun e w' => e = .returned (.tuple #[.string ⟨(putOf m).toArray⟩, .int .i64 0]) ∧ w.grownBy w' none := by
  rw [← refPut_eq (may_of hm)]; exact rput_good m hm w

set_option maxHeartbeats 1600000 in
theorem rseal_bad (k0 k1 : BitVec 64) (m : Mg) (hm : mayOf m = false) (w : World) :
    Calls Tryz.prog 16 #[pair k0 k1, mg m] w fun e w' => e = .returned (.tuple #[.string ⟨#[]⟩, .int .i64 1]) ∧ w.grownBy w' none := by
  have C := hid (fun w => rput_bad m hm w)
  have K := hid (km_new w k0 k1 m)
  clear hm
  go_enter Tryz.func16, Tryz.ntmps16
  go_wp2_with (refine wpList_row K.out.msg Tryz.underlying39 rfl (by kernel_rfl) rfl rfl rfl rfl ?_)
  refine (C.out _).mono ?_
  rintro e w1 ⟨rfl, hg⟩
  have G := hid (gb_trans K.out.g hg (.inl rfl)); clear hg
  go_wp2_with fail
  go_ret2
  exact ⟨rfl, G.out⟩

set_option maxHeartbeats 3200000 in
theorem rseal_good (k0 k1 : BitVec 64) (m : Mg) (hm : mayOf m = true) (w : World) :
    Calls Tryz.prog 16 #[pair k0 k1, mg m] w fun e w' => e = .returned (.tuple #[.string ⟨(sealOf k0 k1 m).toArray⟩, .int .i64 0]) ∧ w.grownBy w' none := by
  have C := hid (fun w => rput_as m hm w)
  have K := hid (km_new w k0 k1 m)
  clear hm
  have he : (⟨(putOf m).toArray⟩ : ByteArray) ++ ⟨(put8 (sumOf k0 k1 (putOf m)) ++ put8 (sumOf k1 (inv k0) (putOf m))).toArray⟩ = ⟨(sealOf k0 k1 m).toArray⟩ := by
    apply ByteArray.ext; simp [sealOf, tagB]
  have ht := fun w => reftag_any k0 k1 ⟨(putOf m).toArray⟩ (by show (putOf m).toArray.size ≤ _; simp [putOf_length]) w
  have hb := fun w => reftagbytes_any (sumOf k0 k1 (putOf m)) (sumOf k1 (inv k0) (putOf m)) w
  have z1 : (⟨(putOf m).toArray⟩ : ByteArray).size = 32 := rfl
  have z2 : (⟨(put8 (sumOf k0 k1 (putOf m)) ++ put8 (sumOf k1 (inv k0) (putOf m))).toArray⟩ : ByteArray).size = 16 := rfl
  rw [show (⟨(putOf m).toArray⟩ : ByteArray).data.toList = putOf m by simp] at ht
  generalize (⟨(put8 (sumOf k0 k1 (putOf m)) ++ put8 (sumOf k1 (inv k0) (putOf m))).toArray⟩ : ByteArray) = s2 at he hb z2
  generalize sumOf k0 k1 (putOf m) = a at ht hb
  generalize sumOf k1 (inv k0) (putOf m) = b at ht hb
  generalize (⟨(putOf m).toArray⟩ : ByteArray) = s1 at he ht z1 C
  generalize (⟨(sealOf k0 k1 m).toArray⟩ : ByteArray) = s3 at he ⊢
  subst he
  have T := hid ht; have B := hid hb; clear ht hb
  go_enter Tryz.func16, Tryz.ntmps16
  go_wp2_with (refine wpList_row K.out.msg Tryz.underlying39 rfl (by kernel_rfl) rfl rfl rfl rfl ?_)
  refine (C.out _).mono ?_
  rintro e w1 ⟨rfl, hg⟩
  have K1 := hid (K.out.grown hg); clear hg K
  obtain ⟨c0, c1⟩ := pair_cells K1.out.key
  go_wp2_with fail
  clear c0 c1
  refine (T.out _).mono ?_
  rintro e w2 ⟨rfl, hg⟩
  have K2 := hid (K1.out.grown hg); clear hg K1
  go_wp2_with fail
  refine (B.out _).mono ?_
  rintro e w3 ⟨rfl, hg⟩
  have K3 := hid (K2.out.grown hg); clear hg K2
  go_wp2_with fail
  go_ret2
  exact ⟨rfl, K3.out.g⟩

theorem drewZ {w wz : World} {o : Obj} (h : wz.heap[w.heap.size]? = some o ∧ w.grownBy wz none) : wz.drew.heap[w.heap.size]? = some o ∧ w.grownBy wz.drew none := ⟨h.1, gb_drew h.2⟩

set_option maxHeartbeats 1600000 in
theorem rget_bad (s : ByteArray) (hn : s.size ≠ 32) (h1 : s.size ≤ 100000) (w : World) :
    Calls Tryz.prog 97 #[.string s] w fun e w' => e = .returned (.tuple #[mg zeroM, .int .i64 2]) ∧ w.grownBy w' none := by
  have h2 : (s.size : Int) ≠ 32 := by omega
  go_enter Tryz.func97, Tryz.ntmps97
  go_wp2_with fail
  exact bodyPost_ret (v := .tuple #[mg zeroM, .int .i64 2]) (by simp [results, Tryz.results97, go_sem, zeroM]) rfl ⟨rfl, gb_alloc (.refl w none) _⟩

set_option maxHeartbeats 3200000 in
theorem rget_walk (s : ByteArray) (hn : s.size = 32) (w : World) :
    Calls Tryz.prog 97 #[.string s] w fun e w' => e = .returned (.tuple #[mg (gotM s.data.toList), .int .i64 (gotC s.data.toList)]) ∧ w.grownBy w' none := by
  have hz4 : (s.extract 4 8).size = 4 := by rw [ByteArray.size_extract]; omega
  have hz8 : (s.extract 4 8 ++ ⟨#[0, 0, 0, 0]⟩).size = 8 := by rw [ByteArray.size_append, hz4]; rfl
  have hcat : (s.extract 4 8 ++ ⟨#[0, 0, 0, 0]⟩).data.toList = (s.data.toList.drop 4).take 4 ++ [0, 0, 0, 0] := by
    simp [List.extract_eq_take_drop]
  have g0 := fun w => refget_in (s.extract 4 8 ++ ⟨#[0, 0, 0, 0]⟩) 0 w (by rw [hz8]; unfold maxLen; decide) (by rw [hz8]; decide)
  rw [hcat] at g0
  have g1 := fun w => refget_in s 8 w (by rw [hn]; unfold maxLen; decide) (by rw [hn]; decide)
  have g2 := fun w => refget_in s 16 w (by rw [hn]; unfold maxLen; decide) (by rw [hn]; decide)
  have g3 := fun w => refget_in s 24 w (by rw [hn]; unfold maxLen; decide) (by rw [hn]; decide)
  have b1 := byteAt_bytes s 1 (by rw [hn]; decide)
  have b2 := byteAt_bytes s 2 (by rw [hn]; decide)
  have b3 := byteAt_bytes s 3 (by rw [hn]; decide)
  obtain ⟨r, hr⟩ : ∃ r, refReadOf s.data.toList = r := ⟨_, rfl⟩
  have e0 : ((byteAt s.data.toList 1).toNat : Int) = r.kind := by rw [← hr]; rfl
  have e1 : ((byteAt s.data.toList 2).toNat : Int) = r.who := by rw [← hr]; rfl
  have e3 : ((byteAt s.data.toList 3).toNat : Int) = r.metric := by rw [← hr]; rfl
  have e2 : wrap64 (q (wordAt ((s.data.toList.drop 4).take 4 ++ [0, 0, 0, 0]) 0 8)) = r.gen := by rw [← hr]; exact wrap_q _
  have e4 : wrap64 (q (wordAt s.data.toList 8 8)) = r.seq := by rw [← hr]; exact wrap_q _
  have e5 : wrap64 (q (wordAt s.data.toList 16 8)) = r.epoch := by rw [← hr]; exact wrap_q _
  have e6 : wrap64 (q (wordAt s.data.toList 24 8)) = r.value := by rw [← hr]; exact wrap_q _
  rw [b1] at e0; rw [b2] at e1; rw [b3] at e3
  clear b1 b2 b3
  have wb : ∀ (c : UInt8), IntKind.i64.wrap (c.toNat : Int) = (c.toNat : Int) := fun c => by rw [IntWalk.i64_left]; unfold wrap64; have := c.toNat_lt; omega
  have f0 : IntKind.i64.wrap r.kind = r.kind := by rw [← e0]; exact wb _
  have f1 : IntKind.i64.wrap r.who = r.who := by rw [← e1]; exact wb _
  have f3 : IntKind.i64.wrap r.metric = r.metric := by rw [← e3]; exact wb _
  clear wb
  generalize wordAt ((s.data.toList.drop 4).take 4 ++ [0, 0, 0, 0]) 0 8 = x0 at g0 e2
  generalize wordAt s.data.toList 8 8 = x1 at g1 e4
  generalize wordAt s.data.toList 16 8 = x2 at g2 e5
  generalize wordAt s.data.toList 24 8 = x3 at g3 e6
  have G0 := hid g0; have G1 := hid g1; have G2 := hid g2; have G3 := hid g3; have HR := hid hr; have HC := hid hcat
  clear g0 g1 g2 g3 hr hcat
  have f2 : IntKind.i64.wrap (q x0) = r.gen := by rw [IntWalk.i64_left]; exact e2
  have f4 : IntKind.i64.wrap (q x1) = r.seq := by rw [IntWalk.i64_left]; exact e4
  have f5 : IntKind.i64.wrap (q x2) = r.epoch := by rw [IntWalk.i64_left]; exact e5
  have f6 : IntKind.i64.wrap (q x3) = r.value := by rw [IntWalk.i64_left]; exact e6
  go_enter Tryz.func97, Tryz.ntmps97
  go_wp2_with fail
  refine (G0.out _).mono ?_
  rintro e w1 ⟨rfl, rfl⟩
  go_wp2_with fail
  refine (G1.out _).mono ?_
  rintro e w1 ⟨rfl, rfl⟩
  go_wp2_with fail
  refine (G2.out _).mono ?_
  rintro e w1 ⟨rfl, rfl⟩
  go_wp2_with fail
  refine (G3.out _).mono ?_
  rintro e w1 ⟨rfl, rfl⟩
  have z0 : (w.alloc (.cells zeroM.cells 39)).heap[w.heap.size]? = some (.cells zeroM.cells 39) ∧ w.grownBy (w.alloc (.cells zeroM.cells 39)) none := ⟨at_new w _, gb_alloc (.refl w none) _⟩
  go_wp2_with fail
  refine wp_gen (fun wz => wz.heap[w.heap.size]? = some (.cells zeroM.cells 39) ∧ w.grownBy wz none) z0 ?_
  clear z0
  intro wz hz
  have hsz := at_lt hz.1
  have Z := hid hz; clear hz
  have HZ1 := hid (Nat.ne_of_lt hsz); have HZ2 := hid (Nat.le_of_lt hsz); clear hsz
  refine wp_region_held_drew (S := (fun w' => (w'.heap[w.heap.size]? = some (.cells zeroM.cells 39)) ∧ (w.grownBy w' none))) (by kernel_rfl) (drewZ Z.out) (fun hHeld => ?_)
  try dsimp only at hHeld
  refine' wpAnyH_take (i := 0) (v := _) rfl (by kernel_rfl) (by kernel_rfl) (by kernel_rfl) (fun _ _ _ h => h) (Or.inl ⟨by rfl, ?_⟩) hHeld ?_
  rotate_left
  · (intro w hSw; (try dsimp only at hSw); go_simp; try with_reducible rfl)
  try simp only [Act.put, List.setIfInBounds_toArray, List.set_cons_zero, List.set_cons_succ, List.getElem_toArray, List.getElem_cons_succ, List.getElem_cons_zero]
  refine' wpAnyH_take (i := 1) (v := _) rfl (by kernel_rfl) (by kernel_rfl) (by kernel_rfl) (fun _ _ _ h => h) (Or.inl ⟨by rfl, ?_⟩) hHeld ?_
  rotate_left
  · (intro w hSw; (try dsimp only at hSw); go_simp; try with_reducible rfl)
  try simp only [Act.put, List.setIfInBounds_toArray, List.set_cons_zero, List.set_cons_succ, List.getElem_toArray, List.getElem_cons_succ, List.getElem_cons_zero]
  refine' wpAnyH_take (i := 2) (v := _) rfl (by kernel_rfl) (by kernel_rfl) (by kernel_rfl) (fun _ _ _ h => h) (Or.inl ⟨by rfl, ?_⟩) hHeld ?_
  rotate_left
  · (intro w hSw; (try dsimp only at hSw); go_simp; try with_reducible rfl)
  try simp only [Act.put, List.setIfInBounds_toArray, List.set_cons_zero, List.set_cons_succ, List.getElem_toArray, List.getElem_cons_succ, List.getElem_cons_zero]
  refine' wpAnyH_take (i := 3) (v := _) rfl (by kernel_rfl) (by kernel_rfl) (by kernel_rfl) (fun _ _ _ h => h) (Or.inl ⟨by rfl, ?_⟩) hHeld ?_
  rotate_left
  · (intro w hSw; (try dsimp only at hSw); go_simp; try with_reducible rfl)
  try simp only [Act.put, List.setIfInBounds_toArray, List.set_cons_zero, List.set_cons_succ, List.getElem_toArray, List.getElem_cons_succ, List.getElem_cons_zero]
  refine' wpAnyH_take (i := 4) (v := _) rfl (by kernel_rfl) (by kernel_rfl) (by kernel_rfl) (fun _ _ _ h => h) (Or.inl ⟨by rfl, ?_⟩) hHeld ?_
  rotate_left
  · (intro w hSw; (try dsimp only at hSw); go_simp; try with_reducible rfl)
  try simp only [Act.put, List.setIfInBounds_toArray, List.set_cons_zero, List.set_cons_succ, List.getElem_toArray, List.getElem_cons_succ, List.getElem_cons_zero]
  refine' wpAnyH_take (i := 5) (v := _) rfl (by kernel_rfl) (by kernel_rfl) (by kernel_rfl) (fun _ _ _ h => h) (Or.inl ⟨by rfl, ?_⟩) hHeld ?_
  rotate_left
  · (intro w hSw; (try dsimp only at hSw); go_simp; try with_reducible rfl)
  try simp only [Act.put, List.setIfInBounds_toArray, List.set_cons_zero, List.set_cons_succ, List.getElem_toArray, List.getElem_cons_succ, List.getElem_cons_zero]
  refine' wpAnyH_take (i := 6) (v := _) rfl (by kernel_rfl) (by kernel_rfl) (by kernel_rfl) (fun _ _ _ h => h) (Or.inl ⟨by rfl, ?_⟩) hHeld ?_
  rotate_left
  · (intro w hSw; (try dsimp only at hSw); go_simp; try with_reducible rfl)
  try simp only [Act.put, List.setIfInBounds_toArray, List.set_cons_zero, List.set_cons_succ, List.getElem_toArray, List.getElem_cons_succ, List.getElem_cons_zero]
  refine' wpAnyH_take (i := 7) (v := _) rfl (by kernel_rfl) (by kernel_rfl) (by kernel_rfl) (fun _ _ _ h => h) (Or.inl ⟨by rfl, ?_⟩) hHeld ?_
  rotate_left
  · (intro w hSw; (try dsimp only at hSw); go_simp; try with_reducible rfl)
  try simp only [Act.put, List.setIfInBounds_toArray, List.set_cons_zero, List.set_cons_succ, List.getElem_toArray, List.getElem_cons_succ, List.getElem_cons_zero]
  refine' wpAnyH_take (i := 8) (v := _) rfl (by kernel_rfl) (by kernel_rfl) (by kernel_rfl) (fun _ _ _ h => h) (Or.inl ⟨by rfl, ?_⟩) hHeld ?_
  rotate_left
  · (intro w hSw; (try dsimp only at hSw); go_simp; try with_reducible rfl)
  try simp only [Act.put, List.setIfInBounds_toArray, List.set_cons_zero, List.set_cons_succ, List.getElem_toArray, List.getElem_cons_succ, List.getElem_cons_zero]
  refine' wpAnyH_take (i := 9) (v := _) rfl (by kernel_rfl) (by kernel_rfl) (by kernel_rfl) (fun _ _ _ h => h) (Or.inl ⟨by rfl, ?_⟩) hHeld ?_
  rotate_left
  · (intro w hSw; (try dsimp only at hSw); go_simp; try with_reducible rfl)
  try simp only [Act.put, List.setIfInBounds_toArray, List.set_cons_zero, List.set_cons_succ, List.getElem_toArray, List.getElem_cons_succ, List.getElem_cons_zero]
  refine' wpAnyH_take (i := 10) (v := _) rfl (by kernel_rfl) (by kernel_rfl) (by kernel_rfl) (fun _ _ _ h => h) (Or.inl ⟨by rfl, ?_⟩) hHeld ?_
  rotate_left
  · (intro w hSw; (try dsimp only at hSw); go_simp; try with_reducible rfl)
  try simp only [Act.put, List.setIfInBounds_toArray, List.set_cons_zero, List.set_cons_succ, List.getElem_toArray, List.getElem_cons_succ, List.getElem_cons_zero]
  refine' wpAnyH_take (i := 11) (v := _) rfl (by kernel_rfl) (by kernel_rfl) (by kernel_rfl) (fun _ _ _ h => h) (Or.inl ⟨by rfl, ?_⟩) hHeld ?_
  rotate_left
  · (intro w hSw; (try dsimp only at hSw); go_simp; try with_reducible rfl)
  try simp only [Act.put, List.setIfInBounds_toArray, List.set_cons_zero, List.set_cons_succ, List.getElem_toArray, List.getElem_cons_succ, List.getElem_cons_zero]
  refine' wpAnyH_take (i := 12) (v := _) rfl (by kernel_rfl) (by kernel_rfl) (by kernel_rfl) (fun _ _ _ h => h) (Or.inl ⟨by rfl, ?_⟩) hHeld ?_
  rotate_left
  · (intro w hSw; (try dsimp only at hSw); go_simp; try with_reducible rfl)
  try simp only [Act.put, List.setIfInBounds_toArray, List.set_cons_zero, List.set_cons_succ, List.getElem_toArray, List.getElem_cons_succ, List.getElem_cons_zero]
  refine' wpAnyH_take (i := 13) (v := _) rfl (by kernel_rfl) (by kernel_rfl) (by kernel_rfl) (fun _ _ _ h => h) (Or.inl ⟨by rfl, ?_⟩) hHeld ?_
  rotate_left
  · (intro w hSw; (try dsimp only at hSw); go_simp; try with_reducible rfl)
  try simp only [Act.put, List.setIfInBounds_toArray, List.set_cons_zero, List.set_cons_succ, List.getElem_toArray, List.getElem_cons_succ, List.getElem_cons_zero]
  refine' wpAnyH_take (i := 14) (v := _) rfl (by kernel_rfl) (by kernel_rfl) (by kernel_rfl) (fun _ _ _ h => h) (Or.inl ⟨by rfl, ?_⟩) hHeld ?_
  rotate_left
  · (intro w hSw; (try dsimp only at hSw); go_simp; try with_reducible rfl)
  try simp only [Act.put, List.setIfInBounds_toArray, List.set_cons_zero, List.set_cons_succ, List.getElem_toArray, List.getElem_cons_succ, List.getElem_cons_zero]
  refine' wpAnyH_take (i := 15) (v := _) rfl (by kernel_rfl) (by kernel_rfl) (by kernel_rfl) (fun _ _ _ h => h) (Or.inl ⟨by rfl, ?_⟩) hHeld ?_
  rotate_left
  · (intro w hSw; (try dsimp only at hSw); go_simp; try with_reducible rfl)
  try simp only [Act.put, List.setIfInBounds_toArray, List.set_cons_zero, List.set_cons_succ, List.getElem_toArray, List.getElem_cons_succ, List.getElem_cons_zero]
  refine' wpAnyH_take (i := 16) (v := _) rfl (by kernel_rfl) (by kernel_rfl) (by kernel_rfl) (fun _ _ _ h => h) (Or.inl ⟨by rfl, ?_⟩) hHeld ?_
  rotate_left
  · (intro w hSw; (try dsimp only at hSw); go_simp; try with_reducible rfl)
  try simp only [Act.put, List.setIfInBounds_toArray, List.set_cons_zero, List.set_cons_succ, List.getElem_toArray, List.getElem_cons_succ, List.getElem_cons_zero]
  refine' wpAnyH_take (i := 17) (v := _) rfl (by kernel_rfl) (by kernel_rfl) (by kernel_rfl) (fun _ _ _ h => h) (Or.inl ⟨by rfl, ?_⟩) hHeld ?_
  rotate_left
  · (intro w hSw; (try dsimp only at hSw); go_simp; try with_reducible rfl)
  try simp only [Act.put, List.setIfInBounds_toArray, List.set_cons_zero, List.set_cons_succ, List.getElem_toArray, List.getElem_cons_succ, List.getElem_cons_zero]
  refine wpAnyH_ready (rs := [18]) (by kernel_rfl) (by simp) ?_
  refine AllReadyH.cons (o := _) rfl (fun K hK => ?_) AllReadyH.nil
  have hH2 := hHeld
  obtain ⟨an, g⟩ := hH2
  have hg : wz.drew.grownBy (wz.drew.alloc (.cells zeroM.cells 39)) none := World.grownBy_alloc _ _ _
  have L18 := hid (show ((wz.drew.alloc (.cells zeroM.cells 39)).heap[w.heap.size]? = some (.cells zeroM.cells 39)) ∧ (w.grownBy (wz.drew.alloc (.cells zeroM.cells 39)) none) from ⟨at_grown an hg (by simp), gb_trans g hg (.inl rfl)⟩)
  clear hHeld hg an g
  try simp only [List.getElem_toArray, List.getElem_cons_succ, List.getElem_cons_zero]
  go_simp
  refine hK.out _ _ ?_ (fun hHeld => ?_)
  · exact L18.out
  clear hK K
  try dsimp only at hHeld
  try simp only [Act.put, List.setIfInBounds_toArray, List.set_cons_zero, List.set_cons_succ, List.getElem_toArray, List.getElem_cons_succ, List.getElem_cons_zero]
  refine wpAnyH_ready (rs := [19]) (by kernel_rfl) (by simp) ?_
  refine AllReadyH.cons (o := _) rfl (fun K hK => ?_) AllReadyH.nil
  have hH2 := hHeld
  obtain ⟨an, g⟩ := hH2
  have L19 := hid (show ((((wz.drew.alloc (.cells zeroM.cells 39))).setRow wz.heap.size r.cells).heap[w.heap.size]? = some (.cells zeroM.cells 39)) ∧ (w.grownBy (((wz.drew.alloc (.cells zeroM.cells 39))).setRow wz.heap.size r.cells) none) from ⟨at_setRow_other an HZ1.out, gb_setRow g HZ2.out⟩)
  have Nbx := hid (show (((wz.drew.alloc (.cells zeroM.cells 39))).setRow wz.heap.size r.cells).heap[wz.heap.size]? = some (.cells r.cells 39) from (at_setRow (at_new wz.drew _)))
  have A19 := hid (at_new wz.drew (.cells zeroM.cells 39))
  clear hHeld an g
  try simp only [List.getElem_toArray, List.getElem_cons_succ, List.getElem_cons_zero]
  rw [if_pos (by rfl)]
  refine wp_store_row (cs := r.cells) A19.out (by kernel_rfl) (by kernel_rfl) (by kernel_rfl) rfl rfl rfl rfl ?_
  refine hK.out _ _ ?_ (fun hHeld => ?_)
  · exact L19.out
  clear hK K
  try dsimp only at hHeld
  try simp only [Act.put, List.setIfInBounds_toArray, List.set_cons_zero, List.set_cons_succ, List.getElem_toArray, List.getElem_cons_succ, List.getElem_cons_zero]
  refine held_stronger (S' := fun w' => (fun w' => w'.heap[wz.heap.size]? = some (.cells r.cells 39)) w' ∧ ((fun w' => (w'.heap[w.heap.size]? = some (.cells zeroM.cells 39)) ∧ (w.grownBy w' none))) w') (fun _ h => h.2) _ _ _ _ ?_
  replace hHeld := And.intro Nbx.out hHeld
  try dsimp only at hHeld
  refine wpAnyH_done (by kernel_rfl) ?_ _
  obtain ⟨bx, an, g⟩ := hHeld
  have BX := hid bx; have AN := hid an; have G := hid g; clear bx an g
  obtain ⟨b, hb⟩ : ∃ b, mayOf r = b := ⟨_, rfl⟩
  have HB := hid hb
  cases b
  · have GR := hid (show gotM s.data.toList = zeroM ∧ gotC s.data.toList = 2 by
      refine gotM_none ?_
      rw [← refGet_eq]; unfold refGetOf
      rw [if_neg (by rintro ⟨_, h, _⟩; rw [HR.out] at h; unfold mayOf at hb; exact absurd (decide_eq_true h) (by rw [hb]; decide))])
    have C := hid (fun w => rput_bad r hb w); clear hb
    go_wp2_with (refine wpList_row BX.out Tryz.underlying39 rfl (by kernel_rfl) rfl rfl rfl rfl ?_)
    refine (C.out _).mono ?_
    rintro e w8 ⟨rfl, hg⟩
    have AN8 := hid (at_grown AN.out hg (by simp)); have G8 := hid (gb_trans G.out hg (.inl rfl)); clear hg
    have z := msg_cells (at_setRow (cs := zeroM.cells) AN8.out)
    obtain ⟨d0, d1, d2, d3, d4, d5, d6⟩ := z
    go_wp2_with (first | refine wpList_buildTo (ty := 39) (cs := zeroM.cells) rfl rfl rfl (by kernel_rfl) ?_ | refine wpList_store_row (old := zeroM.cells) (cs := zeroM.cells) AN8.out (by kernel_rfl) (by kernel_rfl) (by kernel_rfl) rfl rfl rfl rfl rfl ?_)
    exact bodyPost_ret (v := .tuple #[mg zeroM, .int .i64 2]) (by simp [results, Tryz.results97, go_sem, d0, d1, d2, d3, d4, d5, d6]) rfl ⟨ret_msg GR.out, gb_setRow G8.out (Nat.le_refl _)⟩
  · have hp := refPut_eq (may_of hb)
    have hrd : refReadOf s.data.toList = r := HR.out
    obtain ⟨sp, hsp⟩ : ∃ sp : ByteArray, sp = ⟨(putOf r).toArray⟩ := ⟨_, rfl⟩
    have hc := fun w => rput_as r hb w
    rw [← hsp] at hc
    have hm := may_of hb
    clear hb HB
    by_cases heq : sp = s
    · have hl : putOf r = s.data.toList := by rw [← heq, hsp]
      have GR := hid (show gotM s.data.toList = r ∧ gotC s.data.toList = 0 from gotM_some (by rw [← hl]; exact get_put hm))
      subst heq
      have C := hid hc; clear hc hl hsp hp hm hrd
      go_wp2_with (refine wpList_row BX.out Tryz.underlying39 rfl (by kernel_rfl) rfl rfl rfl rfl ?_)
      refine (C.out _).mono ?_
      rintro e w8 ⟨rfl, hg⟩
      have AN8 := hid (at_grown AN.out hg (by simp)); have BX8 := hid (at_grown BX.out hg (by simp)); have G8 := hid (gb_trans G.out hg (.inl rfl)); clear hg
      have z := msg_cells (at_setRow (cs := r.cells) AN8.out)
      obtain ⟨d0, d1, d2, d3, d4, d5, d6⟩ := z
      go_wp2_with (first | refine wpList_row BX8.out Tryz.underlying39 rfl (by kernel_rfl) rfl rfl rfl rfl ?_ | refine wpList_store_row (old := zeroM.cells) (cs := r.cells) AN8.out (by kernel_rfl) (by kernel_rfl) (by kernel_rfl) rfl rfl rfl rfl rfl ?_)
      exact bodyPost_ret (v := .tuple #[mg r, .int .i64 0]) (by simp [results, Tryz.results97, go_sem, d0, d1, d2, d3, d4, d5, d6]) rfl ⟨ret_msg GR.out, gb_setRow G8.out (Nat.le_refl _)⟩
    · have GR := hid (show gotM s.data.toList = zeroM ∧ gotC s.data.toList = 2 by
        refine gotM_none ?_
        rw [← refGet_eq]; unfold refGetOf
        rw [if_neg (by
          rintro ⟨_, _, h⟩
          rw [hrd, hp] at h
          exact heq (by rw [hsp]; apply ByteArray.ext; simp [h]))])
      have hne : (sp.toList == s.toList) = false := str_ne heq
      have hne2 : (!(sp.toList == s.toList)) = true := by rw [hne]; rfl
      have hne3 : (sp.toList != s.toList) = true := by simp only [bne, hne]; rfl
      have C := hid hc; clear hc hsp hp hm hrd heq
      go_wp2_with (refine wpList_row BX.out Tryz.underlying39 rfl (by kernel_rfl) rfl rfl rfl rfl ?_)
      refine (C.out _).mono ?_
      rintro e w8 ⟨rfl, hg⟩
      have AN8 := hid (at_grown AN.out hg (by simp)); have G8 := hid (gb_trans G.out hg (.inl rfl)); clear hg
      have z := msg_cells (at_setRow (cs := zeroM.cells) AN8.out)
      obtain ⟨d0, d1, d2, d3, d4, d5, d6⟩ := z
      go_wp2_with (first | refine wpList_buildTo (ty := 39) (cs := zeroM.cells) rfl rfl rfl (by kernel_rfl) ?_ | refine wpList_store_row (old := zeroM.cells) (cs := zeroM.cells) AN8.out (by kernel_rfl) (by kernel_rfl) (by kernel_rfl) rfl rfl rfl rfl rfl ?_)
      exact bodyPost_ret (v := .tuple #[mg zeroM, .int .i64 2]) (by simp [results, Tryz.results97, go_sem, d0, d1, d2, d3, d4, d5, d6]) rfl ⟨ret_msg GR.out, gb_setRow G8.out (Nat.le_refl _)⟩
end Go.Proofs.YtfhifnhnkgdnlaaGreat
end
section
set_option linter.unusedSimpArgs false
set_option linter.unusedVariables false
namespace Go.Proofs.YtfhifnhnkgdnlaaGreat
set_option maxRecDepth 100000
open Go.RowKit

theorem word_drop (l : List UInt8) (i m : Nat) : ∀ k, wordAt (l.drop i) m k = wordAt l (i + m) k
  | 0 => rfl
  | k + 1 => by
    rw [← wordAt_succ, ← wordAt_succ, word_drop l i m k]
    have : byteAt (l.drop i) (m + k) = byteAt l (i + m + k) := by simp [byteAt, List.getElem?_drop, Nat.add_assoc]
    rw [this]
def noRSplit : Value := .tuple #[mg zeroM, .string ⟨#[]⟩, pair 0 0, .int .i64 2]
set_option maxHeartbeats 1600000 in
theorem rsplit_bad (s : ByteArray) (hn : s.size ≠ 48) (h1 : s.size ≤ 100000) (w : World) :
    Calls Tryz.prog 59 #[.string s] w fun e w' => e = .returned noRSplit ∧ w.grownBy w' none := by
  have h2 : (s.size : Int) ≠ 48 := by omega
  go_enter Tryz.func59, Tryz.ntmps59
  go_wp2_with fail
  exact bodyPost_ret (v := .tuple #[mg zeroM, .string ⟨#[]⟩, pair 0 0, .int .i64 2]) (by simp [results, Tryz.results59, go_sem, zeroM]; decide) rfl ⟨rfl, gb_alloc (gb_alloc (.refl w none) _) _⟩

theorem rget_as (l : List UInt8) (m : Mg) (k : Int) (h : gotM l = m ∧ gotC l = k) (s : ByteArray) (hs : s.data.toList = l) (hn : s.size = 32) (w : World) :
    Calls Tryz.prog 97 #[.string s] w fun e w' => e = .returned (.tuple #[mg m, .int .i64 k]) ∧ w.grownBy w' none := by
  obtain ⟨rfl, rfl⟩ := h; subst hs; exact rget_walk s hn w

set_option maxHeartbeats 1600000 in
theorem rsplit_no (s : ByteArray) (hn : s.size = 48) (hno : getOf (s.data.toList.take 32) = none) (w : World) :
    Calls Tryz.prog 59 #[.string s] w fun e w' => e = .returned noRSplit ∧ w.grownBy w' none := by
  have hz : (s.extract 0 32).size = 32 := by rw [ByteArray.size_extract]; omega
  have hl : (s.extract 0 32).data.toList = s.data.toList.take 32 := by simp [List.extract_eq_take_drop]
  have C := hid (rget_as _ zeroM 2 (gotM_none hno) (s.extract 0 32) hl hz)
  clear hno hl
  have hg0 : w.grownBy ((w.alloc (.cells zeroM.cells 39)).alloc (.cells #[.int .u64 0, .int .u64 0] 83)) none := gb_alloc (gb_alloc (.refl w none) _) _
  have H0 := hid (sp_new w); have G0 := hid hg0; clear hg0
  go_enter Tryz.func59, Tryz.ntmps59
  go_wp2_with fail
  refine (C.out _).mono ?_
  rintro e w1 ⟨rfl, hg⟩
  have A := hid (at_grown H0.out.1 hg (by simp)); have B := hid (at_grown H0.out.2 hg (by simp)); have G1 := hid (gb_trans G0.out hg (.inl rfl)); clear hg H0 G0
  go_wp2_with (first | refine wpList_store_new (w := w1) (cs := zeroM.cells) rfl (by kernel_rfl) (by kernel_rfl) (by kernel_rfl) rfl rfl rfl rfl rfl ?_ | refine wpList_buildTo (ty := 39) (cs := zeroM.cells) rfl rfl rfl (by kernel_rfl) ?_ | refine wpList_store_row (old := zeroM.cells) (cs := zeroM.cells) (at_alloc A.out _) (by kernel_rfl) (by kernel_rfl) (by kernel_rfl) rfl rfl rfl rfl rfl ?_ | refine wpList_store_row (old := #[.int .u64 0, .int .u64 0]) (cs := #[.int .u64 0, .int .u64 0]) (at_setRow_other (b := w.heap.size) (at_alloc B.out _) (by omega)) (by kernel_rfl) (by kernel_rfl) (by kernel_rfl) rfl rfl rfl rfl rfl ?_)
  obtain ⟨d0, d1, d2, d3, d4, d5, d6⟩ := msg_cells (at_setRow_other (cs := #[.int .u64 0, .int .u64 0]) (at_setRow (cs := zeroM.cells) (at_alloc A.out (.cells zeroM.cells 39))) (show w.heap.size ≠ w.heap.size + 1 by omega))
  have ht := at_setRow (cs := #[.int .u64 0, .int .u64 0]) (at_setRow_other (cs := zeroM.cells) (at_alloc B.out (.cells zeroM.cells 39)) (show w.heap.size + 1 ≠ w.heap.size by omega))
  have t0 := at_cell ht 0
  have t1 := at_cell ht 1
  exact bodyPost_ret (v := noRSplit) (by simp [results, Tryz.results59, go_sem, d0, d1, d2, d3, d4, d5, d6, t0, t1]; rfl) rfl ⟨rfl, gb_setRow (gb_setRow (gb_alloc G1.out _) (Nat.le_refl _)) (by omega)⟩

set_option maxHeartbeats 3200000 in
theorem rsplit_yes (s : ByteArray) (hn : s.size = 48) (m : Mg) (hno : getOf (s.data.toList.take 32) = some m) (a b : BitVec 64) (ha : wordAt (s.data.toList.drop 32) 0 8 = a) (hb : wordAt (s.data.toList.drop 32) 8 8 = b) (w : World) :
    Calls Tryz.prog 59 #[.string s] w fun e w' => e = .returned (.tuple #[mg m, .string (s.extract 0 32), pair a b, .int .i64 0]) ∧ w.grownBy w' none := by
  have hz : (s.extract 0 32).size = 32 := by rw [ByteArray.size_extract]; omega
  have hl : (s.extract 0 32).data.toList = s.data.toList.take 32 := by simp [List.extract_eq_take_drop]
  have C := hid (rget_as _ m 0 (gotM_some hno) (s.extract 0 32) hl hz)
  rw [word_drop] at ha hb
  have g1 := fun w => refget_in s 32 w (by rw [hn]; unfold maxLen; decide) (by rw [hn]; decide)
  have g2 := fun w => refget_in s 40 w (by rw [hn]; unfold maxLen; decide) (by rw [hn]; decide)
  rw [show wordAt s.data.toList 32 8 = a from ha] at g1
  rw [show wordAt s.data.toList 40 8 = b from hb] at g2
  have G1 := hid g1; have G2 := hid g2
  clear hno hl g1 g2 ha hb
  have hg0 : w.grownBy ((w.alloc (.cells zeroM.cells 39)).alloc (.cells #[.int .u64 0, .int .u64 0] 83)) none := gb_alloc (gb_alloc (.refl w none) _) _
  have H0 := hid (sp_new w); have G0 := hid hg0; clear hg0
  go_enter Tryz.func59, Tryz.ntmps59
  go_wp2_with fail
  refine (C.out _).mono ?_
  rintro e w1 ⟨rfl, hg⟩
  have A1 := hid (at_grown H0.out.1 hg (by simp)); have B1 := hid (at_grown H0.out.2 hg (by simp)); have G3 := hid (gb_trans G0.out hg (.inl rfl)); clear hg H0 G0
  go_wp2_with (first | refine wpList_store_new (w := w1) (cs := m.cells) rfl (by kernel_rfl) (by kernel_rfl) (by kernel_rfl) rfl rfl rfl rfl rfl ?_)
  refine (G1.out _).mono ?_
  rintro e w2 ⟨rfl, rfl⟩
  go_wp2_with fail
  refine (G2.out _).mono ?_
  rintro e w2 ⟨rfl, rfl⟩
  have hsz : w.heap.size + 1 < w1.heap.size := at_lt B1.out
  have z0 : (w1.alloc (.cells m.cells 39)).heap[w1.heap.size]? = some (.cells m.cells 39) := at_new w1 _
  have A2 := hid (at_alloc A1.out (.cells m.cells 39)); have B2 := hid (at_alloc B1.out (.cells m.cells 39)); have G4 := hid (gb_alloc G3.out (.cells m.cells 39))
  have HX2 := hid z0
  clear z0 A1 B1 G3
  go_wp2_with fail
  refine wp_gen (fun wz => wz.heap[w.heap.size]? = some (.cells zeroM.cells 39) ∧ wz.heap[w.heap.size + 1]? = some (.cells #[.int .u64 0, .int .u64 0] 83) ∧ wz.heap[w1.heap.size]? = some (.cells m.cells 39) ∧ w.grownBy wz none) ⟨A2.out, B2.out, HX2.out, G4.out⟩ ?_
  clear A2 B2 HX2 G4
  generalize w1.heap.size = x at hsz ⊢
  intro wz ⟨hA, hB, hX, hG⟩
  have A := hid hA; have B := hid (show wz.drew.heap[w.heap.size + 1]? = some (.cells #[.int .u64 0, .int .u64 0] 83) from hB); have HX := hid (show wz.drew.heap[x]? = some (.cells m.cells 39) from hX); have G := hid hG
  clear hA hB hX hG
  refine wp_region_held_drew (S := (fun w' => (w'.heap[x]? = some (.cells m.cells 39)))) (by kernel_rfl) HX.out (fun hHeld => ?_)
  try dsimp only at hHeld
  refine' wpAnyH_take (i := 0) (v := _) rfl (by kernel_rfl) (by kernel_rfl) (by kernel_rfl) (fun _ _ _ h => h) (Or.inl ⟨by rfl, ?_⟩) hHeld ?_
  rotate_left
  · (intro w hSw; (try dsimp only at hSw); (try simp only [List.getElem_toArray, List.getElem_cons_succ, List.getElem_cons_zero]); refine exec_row (x := .tmp 6) hSw Tryz.underlying39 rfl (by kernel_rfl) ?_ ?_ <;> rfl)
  try simp only [Act.put, List.setIfInBounds_toArray, List.set_cons_zero, List.set_cons_succ, List.getElem_toArray, List.getElem_cons_succ, List.getElem_cons_zero]
  refine' wpAnyH_take (i := 1) (v := _) rfl (by kernel_rfl) (by kernel_rfl) (by kernel_rfl) (fun _ _ _ h => h) (Or.inl ⟨by rfl, ?_⟩) hHeld ?_
  rotate_left
  · (intro w hSw; (try dsimp only at hSw); go_simp; try with_reducible rfl)
  try simp only [Act.put, List.setIfInBounds_toArray, List.set_cons_zero, List.set_cons_succ, List.getElem_toArray, List.getElem_cons_succ, List.getElem_cons_zero]
  refine' wpAnyH_take (i := 2) (v := _) rfl (by kernel_rfl) (by kernel_rfl) (by kernel_rfl) (fun _ _ _ h => h) (Or.inl ⟨by rfl, ?_⟩) hHeld ?_
  rotate_left
  · (intro w hSw; (try dsimp only at hSw); go_simp; try with_reducible rfl)
  try simp only [Act.put, List.setIfInBounds_toArray, List.set_cons_zero, List.set_cons_succ, List.getElem_toArray, List.getElem_cons_succ, List.getElem_cons_zero]
  refine' wpAnyH_take (i := 3) (v := _) rfl (by kernel_rfl) (by kernel_rfl) (by kernel_rfl) (fun _ _ _ h => h) (Or.inl ⟨by rfl, ?_⟩) hHeld ?_
  rotate_left
  · (intro w hSw; (try dsimp only at hSw); go_simp; try with_reducible rfl)
  try simp only [Act.put, List.setIfInBounds_toArray, List.set_cons_zero, List.set_cons_succ, List.getElem_toArray, List.getElem_cons_succ, List.getElem_cons_zero]
  refine' wpAnyH_take (i := 4) (v := _) rfl (by kernel_rfl) (by kernel_rfl) (by kernel_rfl) (fun _ _ _ h => h) (Or.inl ⟨by rfl, ?_⟩) hHeld ?_
  rotate_left
  · (intro w hSw; (try dsimp only at hSw); go_simp; try with_reducible rfl)
  try simp only [Act.put, List.setIfInBounds_toArray, List.set_cons_zero, List.set_cons_succ, List.getElem_toArray, List.getElem_cons_succ, List.getElem_cons_zero]
  refine' wpAnyH_take (i := 5) (v := _) rfl (by kernel_rfl) (by kernel_rfl) (by kernel_rfl) (fun _ _ _ h => h) (Or.inl ⟨by rfl, ?_⟩) hHeld ?_
  rotate_left
  · (intro w hSw; (try dsimp only at hSw); go_simp; try with_reducible rfl)
  try simp only [Act.put, List.setIfInBounds_toArray, List.set_cons_zero, List.set_cons_succ, List.getElem_toArray, List.getElem_cons_succ, List.getElem_cons_zero]
  refine wpAnyH_ready (rs := [6]) (by kernel_rfl) (by simp) ?_
  refine AllReadyH.cons (o := _) rfl (fun K hK => ?_) AllReadyH.nil
  have hH2 := hHeld
  have hx := hH2
  have L6 := hid (show (((wz.drew).setRow w.heap.size m.cells).heap[x]? = some (.cells m.cells 39)) from at_setRow_other hx (by omega))
  have A6 := hid (A.out)
  clear hHeld hx
  try simp only [List.getElem_toArray, List.getElem_cons_succ, List.getElem_cons_zero]
  rw [if_pos (by rfl)]
  refine wp_store_row (cs := m.cells) A6.out (by kernel_rfl) (by kernel_rfl) (by kernel_rfl) rfl rfl rfl rfl ?_
  refine hK.out _ _ ?_ (fun hHeld => ?_)
  · exact L6.out
  clear hK K
  try dsimp only at hHeld
  try simp only [Act.put, List.setIfInBounds_toArray, List.set_cons_zero, List.set_cons_succ, List.getElem_toArray, List.getElem_cons_succ, List.getElem_cons_zero]
  refine' wpAnyH_take (i := 7) (v := _) rfl (by kernel_rfl) (by kernel_rfl) (by kernel_rfl) (fun _ _ _ h => h) (Or.inl ⟨by rfl, ?_⟩) hHeld ?_
  rotate_left
  · (intro w hSw; (try dsimp only at hSw); go_simp; try with_reducible rfl)
  try simp only [Act.put, List.setIfInBounds_toArray, List.set_cons_zero, List.set_cons_succ, List.getElem_toArray, List.getElem_cons_succ, List.getElem_cons_zero]
  refine wpAnyH_ready (rs := [8]) (by kernel_rfl) (by simp) ?_
  refine AllReadyH.cons (o := _) rfl (fun K hK => ?_) AllReadyH.nil
  have hH2 := hHeld
  have hx := hH2
  have L8 := hid (show ((((wz.drew).setRow w.heap.size m.cells).setRow (w.heap.size + 1) #[.int .u64 (q a), .int .u64 (q b)]).heap[x]? = some (.cells m.cells 39)) from at_setRow_other hx (by omega))
  have A8 := hid (at_setRow_other (cs := m.cells) (b := w.heap.size) B.out (by omega))
  clear hHeld hx
  try simp only [List.getElem_toArray, List.getElem_cons_succ, List.getElem_cons_zero]
  rw [if_pos (by rfl)]
  refine wp_store_row (cs := #[.int .u64 (q a), .int .u64 (q b)]) A8.out (by kernel_rfl) (by kernel_rfl) (by kernel_rfl) rfl rfl rfl rfl ?_
  refine hK.out _ _ ?_ (fun hHeld => ?_)
  · exact L8.out
  clear hK K
  try dsimp only at hHeld
  try simp only [Act.put, List.setIfInBounds_toArray, List.set_cons_zero, List.set_cons_succ, List.getElem_toArray, List.getElem_cons_succ, List.getElem_cons_zero]
  refine' wpAnyH_take (i := 9) (v := _) rfl (by kernel_rfl) (by kernel_rfl) (by kernel_rfl) (fun _ _ _ h => h) (Or.inl ⟨by rfl, ?_⟩) hHeld ?_
  rotate_left
  · (intro w hSw; (try dsimp only at hSw); go_simp; try with_reducible rfl)
  try simp only [Act.put, List.setIfInBounds_toArray, List.set_cons_zero, List.set_cons_succ, List.getElem_toArray, List.getElem_cons_succ, List.getElem_cons_zero]
  refine wpAnyH_done (by kernel_rfl) ?_ _
  have hx := hHeld
  clear hx
  have hd := at_setRow_other (cs := #[.int .u64 (q a), .int .u64 (q b)]) (at_setRow (cs := m.cells) (at_drew A.out)) (show w.heap.size ≠ w.heap.size + 1 by omega)
  obtain ⟨d0, d1, d2, d3, d4, d5, d6⟩ := msg_cells hd
  have ht := at_setRow (cs := #[.int .u64 (q a), .int .u64 (q b)]) (at_setRow_other (cs := m.cells) B.out (show w.heap.size + 1 ≠ w.heap.size by omega))
  have t0 := at_cell ht 0
  have t1 := at_cell ht 1
  have GG := hid (gb_setRow (cs := #[.int .u64 (q a), .int .u64 (q b)]) (gb_setRow (cs := m.cells) (gb_drew G.out) (Nat.le_refl _)) (show w.heap.size ≤ w.heap.size + 1 by omega))
  clear hd ht
  go_wp2_with fail
  exact bodyPost_ret (v := .tuple #[mg m, .string (s.extract 0 32), pair a b, .int .i64 0]) (by simp [results, Tryz.results59, go_sem, d0, d1, d2, d3, d4, d5, d6, t0, t1]) rfl ⟨rfl, GG.out⟩
end Go.Proofs.YtfhifnhnkgdnlaaGreat
end
section
set_option linter.unusedSimpArgs false
set_option linter.unusedVariables false
namespace Go.Proofs.YtfhifnhnkgdnlaaGreat
set_option maxRecDepth 100000
open Go.RowKit

def putB (m : Mg) : List UInt8 := if mayOf m = true then putOf m else []
def putC (m : Mg) : Int := if mayOf m = true then 0 else 1
def sealB (k0 k1 : BitVec 64) (m : Mg) : List UInt8 := if mayOf m = true then sealOf k0 k1 m else []
theorem putB_le (m : Mg) : (putB m).length ≤ 32 := by unfold putB; split <;> simp [putOf_length]
theorem sealB_le (k0 k1 : BitVec 64) (m : Mg) : (sealB k0 k1 m).length ≤ 48 := by unfold sealB; split <;> simp [sealOf_length]

theorem put_all (m : Mg) (w : World) :
    Calls Tryz.prog 35 #[mg m] w fun e w' => ∃ v, e = .returned (.tuple #[v, .int .i64 (putC m)]) ∧ OwnB w.heap.size w' v (putB m) ∧ w.grownBy w' none := by
  unfold putC putB
  cases h : mayOf m
  · exact (wput_bad m h w).mono fun e w' ⟨he, hg⟩ => ⟨_, he, OwnB.nil _ _, hg⟩
  · exact (wput_good m h w).mono fun e w' ⟨v, he, ho, hg⟩ => ⟨v, he, ho, hg⟩
theorem rput_all (m : Mg) (w : World) :
    Calls Tryz.prog 48 #[mg m] w fun e w' => e = .returned (.tuple #[.string ⟨(putB m).toArray⟩, .int .i64 (putC m)]) ∧ w.grownBy w' none := by
  unfold putC putB
  cases h : mayOf m
  · exact rput_bad m h w
  · exact rput_as m h w
theorem seal_all (k0 k1 : BitVec 64) (m : Mg) (w : World) :
    Calls Tryz.prog 33 #[pair k0 k1, mg m] w fun e w' => ∃ v, e = .returned (.tuple #[v, .int .i64 (putC m)]) ∧ OwnB w.heap.size w' v (sealB k0 k1 m) ∧ w.grownBy w' none := by
  unfold putC sealB
  cases h : mayOf m
  · exact (seal_bad k0 k1 m h w).mono fun e w' ⟨he, hg⟩ => ⟨_, he, OwnB.nil _ _, hg⟩
  · exact (seal_good k0 k1 m h w).mono fun e w' ⟨v, he, ho, hg⟩ => ⟨v, he, ho, hg⟩
theorem rseal_all (k0 k1 : BitVec 64) (m : Mg) (w : World) :
    Calls Tryz.prog 16 #[pair k0 k1, mg m] w fun e w' => e = .returned (.tuple #[.string ⟨(sealB k0 k1 m).toArray⟩, .int .i64 (putC m)]) ∧ w.grownBy w' none := by
  unfold putC sealB
  cases h : mayOf m
  · exact rseal_bad k0 k1 m h w
  · exact rseal_good k0 k1 m h w
theorem get_all (v : Value) (l : List UInt8) (w : World) (hl : BytesAt w v l) :
    Calls Tryz.prog 92 #[v] w fun e w' => e = .returned (.tuple #[mg (gotM l), .int .i64 (gotC l)]) ∧ w.grownBy w' none := by
  obtain ⟨p, c, rfl⟩ := hl.form
  by_cases h : l.length = 32
  · rw [h] at hl ⊢; exact wget_walk p c l h w hl
  · have e := gotM_none (get_none_of_length h)
    rw [e.1, e.2]; exact wget_bad p _ c h w
theorem rget_all (s : ByteArray) (l : List UInt8) (hs : s.data.toList = l) (h1 : s.size ≤ 100000) (w : World) :
    Calls Tryz.prog 97 #[.string s] w fun e w' => e = .returned (.tuple #[mg (gotM l), .int .i64 (gotC l)]) ∧ w.grownBy w' none := by
  subst hs
  by_cases h : s.size = 32
  · exact rget_walk s h w
  · have e := gotM_none (get_none_of_length (l := s.data.toList) (by simpa using h))
    rw [e.1, e.2]; exact rget_bad s h h1 w

/-- what is in an envelope's bytes -/
def cutOf (l : List UInt8) : Option Mg := if l.length = 48 then getOf (l.take 32) else none
def spM (l : List UInt8) : Mg := (cutOf l).getD zeroM
def spX (l : List UInt8) : List UInt8 := if (cutOf l).isSome then l.take 32 else []
def spA (l : List UInt8) : BitVec 64 := if (cutOf l).isSome then wordAt (l.drop 32) 0 8 else 0
def spB (l : List UInt8) : BitVec 64 := if (cutOf l).isSome then wordAt (l.drop 32) 8 8 else 0
def spC (l : List UInt8) : Int := if (cutOf l).isSome then 0 else 2
theorem split_all (v : Value) (l : List UInt8) (w : World) (hl : BytesAt w v l) :
    Calls Tryz.prog 53 #[v] w fun e w' => ∃ u, e = .returned (.tuple #[mg (spM l), u, pair (spA l) (spB l), .int .i64 (spC l)]) ∧ OwnB w.heap.size w' u (spX l) ∧ w.grownBy w' none := by
  unfold spM spX spA spB spC
  by_cases h : l.length = 48
  · obtain ⟨ab, ao, c, rfl, hc⟩ := hl.cells (by omega)
    have hcap : 48 ≤ c ∧ c ≤ maxLen := by
      rcases hl with ⟨e, _⟩ | ⟨a, cap, e, h1, h2, _⟩
      · cases e
      · cases e; omega
    rw [h] at hl ⊢
    cases hg : cutOf l with
    | none =>
      have hg' : getOf (l.take 32) = none := by unfold cutOf at hg; rwa [if_pos h] at hg
      exact (split_no ab ao c hcap.1 hcap.2 l h hg' w hl).mono fun e w' ⟨he, hgr⟩ => ⟨_, he, OwnB.nil _ _, hgr⟩
    | some m =>
      have hg' : getOf (l.take 32) = some m := by unfold cutOf at hg; rwa [if_pos h] at hg
      exact (split_yes ab ao c hcap.1 hcap.2 l h m hg' _ _ rfl rfl w hl).mono fun e w' ⟨u, he, ho, hgr⟩ => ⟨u, he, ho, hgr⟩
  · obtain ⟨p, c, rfl⟩ := hl.form
    have hg : cutOf l = none := by unfold cutOf; rw [if_neg h]
    rw [hg]
    exact (split_bad p _ c h w).mono fun e w' ⟨he, hgr⟩ => ⟨_, he, OwnB.nil _ _, hgr⟩
theorem rsplit_all (s : ByteArray) (l : List UInt8) (hs : s.data.toList = l) (h1 : s.size ≤ 100000) (w : World) :
    Calls Tryz.prog 59 #[.string s] w fun e w' => e = .returned (.tuple #[mg (spM l), .string ⟨(spX l).toArray⟩, pair (spA l) (spB l), .int .i64 (spC l)]) ∧ w.grownBy w' none := by
  have hsz : l.length = s.size := by rw [← hs]; simp
  unfold spM spX spA spB spC
  by_cases h : s.size = 48
  · cases hg : cutOf l with
    | none =>
      have hg' : getOf (s.data.toList.take 32) = none := by unfold cutOf at hg; rw [if_pos (by omega)] at hg; rwa [hs]
      exact rsplit_no s h hg' w
    | some m =>
      have hg' : getOf (s.data.toList.take 32) = some m := by unfold cutOf at hg; rw [if_pos (by omega)] at hg; rwa [hs]
      have hx : s.extract 0 32 = ⟨(l.take 32).toArray⟩ := by apply ByteArray.ext; rw [← hs]; apply Array.toList_inj.1; simp [List.extract_eq_take_drop]
      have := rsplit_yes s h m hg' _ _ (by rw [hs]) (by rw [hs]) w
      rw [hx] at this
      exact this
  · have hg : cutOf l = none := by unfold cutOf; rw [if_neg (by omega)]
    rw [hg]
    exact rsplit_bad s h h1 w
/-- an envelope splits into what was sealed -/
theorem cut_seal {m : Mg} (h : mayOf m = true) (k0 k1 : BitVec 64) : cutOf (sealOf k0 k1 m) = some m := by
  unfold cutOf
  rw [if_pos (sealOf_length k0 k1 m)]
  have : (sealOf k0 k1 m).take 32 = putOf m := by unfold sealOf; rw [List.take_left' (putOf_length m)]
  rw [this]; exact get_put (may_of h)
theorem sp_seal {m : Mg} (h : mayOf m = true) (k0 k1 : BitVec 64) :
    spM (sealOf k0 k1 m) = m ∧ spX (sealOf k0 k1 m) = putOf m ∧ spA (sealOf k0 k1 m) = sumOf k0 k1 (putOf m) ∧ spB (sealOf k0 k1 m) = sumOf k1 (inv k0) (putOf m) ∧ spC (sealOf k0 k1 m) = 0 := by
  have hc := cut_seal h k0 k1
  have ht : (sealOf k0 k1 m).take 32 = putOf m := by unfold sealOf; rw [List.take_left' (putOf_length m)]
  have hd : (sealOf k0 k1 m).drop 32 = putAll [sumOf k0 k1 (putOf m), sumOf k1 (inv k0) (putOf m)] := by
    unfold sealOf; rw [List.drop_left' (putOf_length m)]; simp [tagB, putAll]
  unfold spM spX spA spB spC
  rw [hc, ht, hd]
  exact ⟨rfl, rfl, word_at _ 0 (by simp), word_at _ 1 (by simp), rfl⟩
end Go.Proofs.YtfhifnhnkgdnlaaGreat
end
section
namespace Go.Proofs.YtfhifnhnkgdnlaaGreat
set_option maxRecDepth 100000
open Go.RowKit

structure Kp (w0 : World) (bs : List (Nat × Obj)) (ys : List (Value × List UInt8)) (w : World) : Prop where
  g : w0.grownBy w none
  bl : ∀ x ∈ bs, w.heap[x.1]? = some x.2
  yl : ∀ x ∈ ys, BytesAt w x.1 x.2
section
variable {w0 w w1 : World} {bs : List (Nat × Obj)} {ys : List (Value × List UInt8)} {b : Nat} {o : Obj} {v : Value} {l : List UInt8} {x0 x1 x2 x3 x4 x5 x6 : Nat × Obj} {z0 z1 z2 z3 z4 z5 : Value × List UInt8}
theorem kp_start (w : World) : Kp w [] [] w := ⟨.refl w none, (fun _ h => by cases h), (fun _ h => by cases h)⟩
theorem Kp.grown (h : Kp w0 bs ys w) (hg : w.grownBy w1 none) : Kp w0 bs ys w1 :=
  ⟨gb_trans h.g hg (.inl rfl), fun x hx => at_grown (h.bl x hx) hg (by simp), fun x hx => (h.yl x hx).grown hg (by simp)⟩
theorem Kp.drew (h : Kp w0 bs ys w) : Kp w0 bs ys w.drew := ⟨gb_drew h.g, fun x hx => h.bl x hx, fun x hx => (h.yl x hx).drew⟩
theorem Kp.add (h : Kp w0 bs ys w) (k : w.heap[b]? = some o) : Kp w0 ((b, o) :: bs) ys w :=
  ⟨h.g, (fun x hx => (List.mem_cons.1 hx).elim (fun e => by rw [e]; exact k) (h.bl x)), h.yl⟩
theorem Kp.addY (h : Kp w0 bs ys w) (k : BytesAt w v l) : Kp w0 bs ((v, l) :: ys) w :=
  ⟨h.g, h.bl, (fun x hx => (List.mem_cons.1 hx).elim (fun e => by rw [e]; exact k) (h.yl x))⟩
theorem Kp.alloc (h : Kp w0 bs ys w) (o : Obj) : Kp w0 ((w.heap.size, o) :: bs) ys (w.alloc o) := (h.grown (World.grownBy_alloc w o none)).add (at_new w o)
theorem Kp.size (h : Kp w0 bs ys w) : w0.heap.size ≤ w.heap.size := gb_size h.g
theorem Kp.tail (h : Kp w0 (x0 :: bs) ys w) : Kp w0 bs ys w := ⟨h.g, fun x hx => h.bl x (List.mem_cons_of_mem _ hx), h.yl⟩
theorem Kp.tailY (h : Kp w0 bs (z0 :: ys) w) : Kp w0 bs ys w := ⟨h.g, h.bl, fun x hx => h.yl x (List.mem_cons_of_mem _ hx)⟩
theorem Kp.b0 (h : Kp w0 ((b, o) :: bs) ys w) : w.heap[b]? = some o := h.bl (b, o) (by simp)
theorem Kp.b1 (h : Kp w0 (x0 :: (b, o) :: bs) ys w) : w.heap[b]? = some o := h.tail.b0
theorem Kp.b2 (h : Kp w0 (x0 :: x1 :: (b, o) :: bs) ys w) : w.heap[b]? = some o := h.tail.b1
theorem Kp.b3 (h : Kp w0 (x0 :: x1 :: x2 :: (b, o) :: bs) ys w) : w.heap[b]? = some o := h.tail.b2
theorem Kp.b4 (h : Kp w0 (x0 :: x1 :: x2 :: x3 :: (b, o) :: bs) ys w) : w.heap[b]? = some o := h.tail.b3
theorem Kp.b5 (h : Kp w0 (x0 :: x1 :: x2 :: x3 :: x4 :: (b, o) :: bs) ys w) : w.heap[b]? = some o := h.tail.b4
theorem Kp.b6 (h : Kp w0 (x0 :: x1 :: x2 :: x3 :: x4 :: x5 :: (b, o) :: bs) ys w) : w.heap[b]? = some o := h.tail.b5
theorem Kp.b7 (h : Kp w0 (x0 :: x1 :: x2 :: x3 :: x4 :: x5 :: x6 :: (b, o) :: bs) ys w) : w.heap[b]? = some o := h.tail.b6
theorem Kp.y0 (h : Kp w0 bs ((v, l) :: ys) w) : BytesAt w v l := h.yl (v, l) (by simp)
theorem Kp.y1 (h : Kp w0 bs (z0 :: (v, l) :: ys) w) : BytesAt w v l := h.tailY.y0
theorem Kp.y2 (h : Kp w0 bs (z0 :: z1 :: (v, l) :: ys) w) : BytesAt w v l := h.tailY.y1
theorem Kp.y3 (h : Kp w0 bs (z0 :: z1 :: z2 :: (v, l) :: ys) w) : BytesAt w v l := h.tailY.y2
theorem Kp.y4 (h : Kp w0 bs (z0 :: z1 :: z2 :: z3 :: (v, l) :: ys) w) : BytesAt w v l := h.tailY.y3
theorem Kp.y5 (h : Kp w0 bs (z0 :: z1 :: z2 :: z3 :: z4 :: (v, l) :: ys) w) : BytesAt w v l := h.tailY.y4
/-- a store of a whole row into the block at hand, which is the call's own; the slices lie elsewhere -/
theorem Kp.set {cs old : Array Value} {t : TypeId} (h : Kp w0 ((b, .cells old t) :: bs) ys w) (hb : w0.heap.size ≤ b) (hne : ∀ x ∈ bs, x.1 ≠ b) (hy : ∀ x ∈ ys, x.2 = [] ∨ ∀ a n c, x.1 = .slice (some a) n c → a.block ≠ b) :
    Kp w0 ((b, .cells cs t) :: bs) ys (w.setRow b cs) := by
  have hgr : w.grownBy (w.setRow b cs) (some b) := ⟨rfl, rfl, rfl, by simp [World.setRow], fun k hk hr => by simp [World.setRow, Array.getElem?_modify, show b ≠ k by intro e; exact hr (by rw [e])]⟩
  refine ⟨gb_trans h.g hgr (.inr (.inr ⟨b, rfl, hb⟩)), fun x hx => ?_, fun x hx => (h.yl x hx).grown hgr (fun k e => by cases e; exact .inr (hy x hx))⟩
  rcases List.mem_cons.1 hx with rfl | hx
  · exact at_setRow h.b0
  · exact at_setRow_other (h.bl x (List.mem_cons_of_mem _ hx)) (hne x hx)
end

/-- a slice of the call's own was written to; all that is kept lies below -/
theorem Kp.own {w0 w w1 : World} {bs : List (Nat × Obj)} {ys : List (Value × List UInt8)} {base : Nat} {v : Value} {l : List UInt8} (h : Kp w0 bs ys w) (ho : OwnB base w v l) (hg : w.grownBy w1 v.ownBlock) (h0 : w0.heap.size ≤ base)
    (hb : ∀ x ∈ bs, x.1 < base) (hy : ∀ x ∈ ys, x.2 = [] ∨ ∀ a n c, x.1 = .slice (some a) n c → a.block < base) : Kp w0 bs ys w1 := by
  refine ⟨gb_own h.g ho h0 hg, fun x hx => at_own (h.bl x hx) ho (hb x hx) hg, fun x hx => (h.yl x hx).grown hg (fun k e => .inr ((hy x hx).elim .inl fun q => .inr fun a n c ea => ?_))⟩
  obtain ⟨p, c', rfl⟩ := ho.form
  cases p with
  | none => cases e
  | some g => have h1 := (ho.at g _ _ rfl).1; cases e; have := q a n c ea; omega
theorem Kp.low {w0 w : World} {bs : List (Nat × Obj)} {ys : List (Value × List UInt8)} (h : Kp w0 bs ys w) : (∀ x ∈ bs, x.1 < w.heap.size) ∧ (∀ x ∈ ys, x.2 = [] ∨ ∀ a n c, x.1 = .slice (some a) n c → a.block < w.heap.size) :=
  ⟨fun x hx => at_lt (h.bl x hx), fun x hx => (h.yl x hx).lt⟩

/-- a slice of the call's own that is not empty: its block, its bytes -/
theorem OwnB.full {base : Nat} {w : World} {v : Value} {l : List UInt8} (h : OwnB base w v l) (hl : 0 < l.length) : ∃ g c, v = .slice (some ⟨g, 0, none⟩) l.length c ∧ l.length ≤ c ∧ c ≤ maxLen ∧ base ≤ g ∧ g < w.heap.size := by
  obtain ⟨_, h | ⟨g, cap, cur, rfl, hb, hh, h1, h2, _⟩⟩ := h
  · omega
  · exact ⟨g, cap, rfl, h1, h2, hb, at_lt hh⟩
theorem byte_cell {w : World} {g n c : Nat} {l : List UInt8} (h : BytesAt w (.slice (some ⟨g, 0, none⟩) n c) l) (i : Nat) (hi : i < l.length) (x : UInt8) (hx : byteAt l i = x) : w.cell? ⟨g, i, none⟩ = some (.int .u8 (x.toNat : Int)) := by
  rcases h with ⟨h, _⟩ | ⟨a, cap, e, _, _, h3⟩
  · cases h
  · cases e
    have := h3 i hi
    have e : (⟨g, 0, none⟩ : Addr).add i = ⟨g, i, none⟩ := by unfold Addr.add; split <;> simp_all
    rw [e] at this
    rw [this, ← hx, byteAt_eq hi]
end Go.Proofs.YtfhifnhnkgdnlaaGreat
end
section
set_option linter.unusedSimpArgs false
set_option linter.unusedVariables false
namespace Go.Proofs.YtfhifnhnkgdnlaaGreat
set_option maxRecDepth 100000
open Go.RowKit

@[reducible] def msgObj (m : Mg) : Obj := .cells m.cells 39
@[reducible] def keyObj (a b : BitVec 64) : Obj := .cells #[.int .u64 (q a), .int .u64 (q b)] 49
@[reducible] def tagObj (a b : BitVec 64) : Obj := .cells #[.int .u64 (q a), .int .u64 (q b)] 83
theorem may_sample {who gen seq epoch value metric : Int} (h : 0 ≤ who ∧ who ≤ 15 ∧ 0 ≤ gen ∧ gen ≤ 60000 ∧ 1 ≤ seq ∧ seq ≤ 1099511627776 ∧ 0 ≤ epoch ∧ epoch ≤ 1099511627776 ∧ 0 ≤ metric ∧ metric ≤ 3 ∧ 0 ≤ value ∧ value ≤ 1099511627776) :
    mayOf ⟨1, who, gen, seq, epoch, value, metric⟩ = true := decide_eq_true (by unfold May; dsimp only; omega)
theorem may_rotate {who gen seq epoch : Int} (h : 0 ≤ who ∧ who ≤ 15 ∧ 0 ≤ gen ∧ gen ≤ 60000 ∧ 1 ≤ seq ∧ seq ≤ 1099511627776 ∧ 0 ≤ epoch ∧ epoch ≤ 1099511627776) : mayOf ⟨2, who, gen, seq, epoch, 0, 0⟩ = true := decide_eq_true (by unfold May; dsimp only; omega)
theorem may_beat {who gen seq epoch : Int} (h : 0 ≤ who ∧ who ≤ 15 ∧ 0 ≤ gen ∧ gen ≤ 60000 ∧ 1 ≤ seq ∧ seq ≤ 1099511627776 ∧ 0 ≤ epoch ∧ epoch ≤ 1099511627776) : mayOf ⟨3, who, gen, seq, epoch, 0, 0⟩ = true := decide_eq_true (by unfold May; dsimp only; omega)
theorem ne_of_kp {w0 w : World} {bs : List (Nat × Obj)} {ys : List (Value × List UInt8)} (h : Kp w0 bs ys w) {n : Nat} (hn : w.heap.size ≤ n) : ∀ x ∈ bs, x.1 ≠ n := fun x hx e => by
  have := at_lt (h.bl x hx); omega
theorem nY_of_kp {w0 w : World} {bs : List (Nat × Obj)} {ys : List (Value × List UInt8)} (h : Kp w0 bs ys w) {n : Nat} (hn : w.heap.size ≤ n) : ∀ x ∈ ys, x.2 = [] ∨ ∀ a k c, x.1 = .slice (some a) k c → a.block ≠ n := fun x hx => by
  rcases (h.yl x hx).lt with e | e
  · exact .inl e
  · exact .inr fun a k c he => by have := e a k c he; omega
theorem get_own (m : Mg) (hm : mayOf m = true) (v : Value) (w : World) (h : BytesAt w v (putOf m)) :
    Calls Tryz.prog 92 #[v] w fun e w' => e = .returned (.tuple #[mg m, .int .i64 0]) ∧ w.grownBy w' none := by
  have := get_all v (putOf m) w h
  rw [(gotM_some (get_put (may_of hm))).1, (gotM_some (get_put (may_of hm))).2] at this
  exact this
theorem split_own (m : Mg) (hm : mayOf m = true) (k0 k1 : BitVec 64) (v : Value) (w : World) (h : BytesAt w v (sealOf k0 k1 m)) :
    Calls Tryz.prog 53 #[v] w fun e w' => ∃ u, e = .returned (.tuple #[mg m, u, pair (sumOf k0 k1 (putOf m)) (sumOf k1 (inv k0) (putOf m)), .int .i64 0]) ∧ OwnB w.heap.size w' u (putOf m) ∧ w.grownBy w' none := by
  have := split_all v _ w h
  obtain ⟨e1, e2, e3, e4, e5⟩ := sp_seal hm k0 k1
  rw [e1, e2, e3, e4, e5] at this
  exact this
end Go.Proofs.YtfhifnhnkgdnlaaGreat
end
section
set_option linter.unusedSimpArgs false
namespace Go.Proofs.YtfhifnhnkgdnlaaGreat
set_option maxRecDepth 100000
open Go.RowKit

theorem out_any (x : Int) (w : World) :
    Calls Tryz.prog 38 #[.int .i64 x] w fun e w' => e = .returned (.bool (x == 2)) ∧ w = w' := by
  go_enter Tryz.func38, Tryz.ntmps38
  go_wp2
  go_ret
  exact ⟨rfl, rfl⟩
/-- the deferred function, where nothing panics -/
theorem out_idle (p : Addr) (w : World) :
    CallsD Tryz.prog 95 #[.pointer (some p)] .returning w fun e u' w' => e = .returned (.tuple #[]) ∧ u' = .returning ∧ w' = w := by
  refine callsD_of_wpS Tryz.func95 rfl fun c₀ cs hu => ?_
  apply wpS_seq
  apply wpS_region
  simp [wpOpsS, go_sem, recoverD, hu, Tryz.ntmps95, Exit.thenS]
  refine wpS_cond (t := false) (by simp [Act.eval, Array.replicate]) ?_
  simp only [Bool.false_eq_true, if_false]
  refine wpS_of_wp (wp_skip ?_)
  cases c₀
  simp_all [bodyPostS, results, Tryz.results95]
/-- nobody is out -/
theorem isout_nil (x : Int) (w : World) :
    Calls Tryz.prog 55 #[.nilFunc, .int .i64 x] w fun e w' => e = .returned (.bool false) ∧ w.grownBy w' none := by
  have he : ∀ w, (binOp BinOp.eql 88 Value.nilFunc Value.nilFunc).run Tryz.prog w = .ok (.bool true) w := fun w => by rfl
  have G := hid (gb_alloc (World.grownBy.refl w none) (.cells #[.bool false] 4))
  go_enter_defers Tryz.func55, Tryz.ntmps55
  go_wp2
  simp [bodyPostD, Go.Leaves, results, Tryz.results55, go_sem]
  exact G.out
theorem nf_two (w : World) : (binOp BinOp.eql 88 (Value.func (Fn.func 38) #[] #[]) Value.nilFunc).run Tryz.prog w = .ok (.bool false) w := by rfl
theorem isout_two (x : Int) (w : World) :
    Calls Tryz.prog 55 #[.func (.func 38) #[] #[], .int .i64 x] w fun e w' => e = .returned (.bool (x == 2)) ∧ w.grownBy w' none := by
  have hmf : ∀ (fn : Fn) (first cap : Array Value) (w : World), (Instr.makeFunc fn first cap).run Tryz.prog w = .ok (.func fn first cap) w := fun _ _ _ _ => rfl
  have he := nf_two
  have G := hid (gb_alloc (World.grownBy.refl w none) (.cells #[.bool (x == 2)] 4))
  go_enter_defers Tryz.func55, Tryz.ntmps55
  go_wp2
  refine leaves_cons (f := 95) (args := #[.pointer (some ⟨w.heap.size, 0, none⟩)]) (by simp) (by simp [go_sem]) ?_
  refine (out_idle ⟨w.heap.size, 0, none⟩ _).mono ?_
  rintro e u' w'' ⟨rfl, rfl, rfl⟩
  simp [Go.Leaves, settle, results, Tryz.results55, go_sem]
  exact G.out

/-- sync/atomic's Uint32 -/
theorem load_u32 (a : Addr) (x : Int) (w : World) (hc : w.cell? a = some (.int .u32 x)) :
    Calls Tryz.prog 108 #[.pointer (some a)] w fun e w' => e = .returned (.int .u32 x) ∧ w = w' := by
  have hl := run_call_load (P := Tryz.prog) Tryz.func128 (by kernel_rfl) (by kernel_rfl) (by kernel_rfl) .u32 (by kernel_rfl) hc
  go_enter Tryz.func108, Tryz.ntmps108
  go_wp2
  go_ret
  exact ⟨rfl, rfl⟩
end Go.Proofs.YtfhifnhnkgdnlaaGreat
end
section
set_option linter.unusedSimpArgs false
set_option linter.unusedVariables false
namespace Go.Proofs.YtfhifnhnkgdnlaaGreat
set_option maxRecDepth 100000
open Go.RowKit

/-- a gate -/
structure Gt where
  r : Rg
  win : Nat
  met : Nat
  fresh : Nat
  now : Nat → Rp
  old : Nat → Rp
structure Gt.Ok (G : Gt) : Prop where
  w1 : 1 ≤ G.win
  w2 : G.win ≤ 64
  m1 : 1 ≤ G.met
  m2 : G.met ≤ 4
  f1 : 1 ≤ G.fresh
  f2 : G.fresh ≤ 8
  nw : ∀ i, (G.now i).win = G.win
  ow : ∀ i, (G.old i).win = G.win
/-- the generation that seals a message -/
def sealedOf (m : Mg) : Int := if m.kind = 2 then m.gen - 1 else m.gen
/-- is there a key that it may be sealed by? -/
def Gt.may (G : Gt) (m : Mg) (now : Int) : Bool := decide ((m.kind = 2 → m.gen - 1 = G.r.gen m.who.toNat) ∧ G.r.keyIs m.who.toNat (sealedOf m) now)
def Gt.key (G : Gt) (m : Mg) : Two64 := ofOf G.r.seed m.who.toNat (sealedOf m)
def Gt.rep (G : Gt) (m : Mg) : Rp := if sealedOf m = G.r.gen m.who.toNat then G.now m.who.toNat else G.old m.who.toNat
def Gt.in (G : Gt) (who : Int) : Bool := decide (0 ≤ who ∧ who < (G.r.n : Int))
def Gt.time (G : Gt) (epoch now : Int) : Bool := decide (now ≤ epoch ∧ epoch < now + (G.fresh : Int))
/-- what a check tells -/
def Gt.checkM (G : Gt) (l : List UInt8) (now : Int) (o : Int → Bool) (m : Mg) : Int :=
  if G.in m.who = false ∨ o m.who = true then 3
  else if G.may m now = false then 4
  else if ¬ (spA l = sumOf (G.key m).a (G.key m).b (spX l) ∧ spB l = sumOf (G.key m).b (inv (G.key m).a) (spX l)) then 5
  else if (G.rep m).may m.seq = false then 6
  else if G.time m.epoch now = false then 7
  else if (G.met : Int) ≤ m.metric then 1 else 0
def Gt.checkC (G : Gt) (l : List UInt8) (now : Int) (o : Int → Bool) : Int := if spC l = 0 then G.checkM l now o (spM l) else 2
def Gt.check (G : Gt) (l : List UInt8) (now : Int) (o : Int → Bool) : Mg × Int := if G.checkC l now o = 0 then (spM l, 0) else (zeroM, G.checkC l now o)
def Gt.setRep (G : Gt) (m : Mg) (p : Rp) : Gt :=
  if sealedOf m = G.r.gen m.who.toNat then { G with now := fun i => if i = m.who.toNat then p else G.now i } else { G with old := fun i => if i = m.who.toNat then p else G.old i }
def Gt.turn (G : Gt) (i : Nat) (gen now : Int) : Gt :=
  { G with r := G.r.put i gen now, now := fun j => if j = i then Rp.new G.win else G.now j, old := fun j => if j = i then G.now i else G.old j }
def Gt.take (G : Gt) (m : Mg) (now : Int) : Int × Gt :=
  if mayOf m = false ∨ now < 0 ∨ 1099511627776 < now then (1, G)
  else if G.in m.who = false then (3, G)
  else if G.may m now = false then (4, G)
  else if (G.rep m).may m.seq = false then (6, G)
  else if m.kind = 2 then (0, (G.setRep m ((G.rep m).put m.seq)).turn m.who.toNat m.gen now)
  else (0, G.setRep m ((G.rep m).put m.seq))
/-- a gate of whom nothing was taken -/
def Gt.new (seed : BitVec 64) (n grace win met fresh : Nat) : Gt := ⟨.new seed n grace, win, met, fresh, fun _ => .new win, fun _ => .new win⟩

/-- which blocks the program's gate has -/
structure GBl where
  g : Nat
  rb : Nat
  rh : Nat
  hb : Nat
  A : Nat → Nat
  O : Nat → Nat
  t : Nat → Int
@[reducible] def side (t : Int) (a b : Nat) : Nat := if t % 2 = 0 then a else b
structure GtAt (w : World) (F : List Nat) (B : GBl) (G : Gt) : Prop where
  top : w.heap[B.g]? = some (.cells #[.pointer (some ⟨B.rb, 0, none⟩), .slice (some ⟨B.hb, 0, none⟩) G.r.n G.r.n, .int .i64 (G.win : Int), .int .i64 (G.met : Int), .int .i64 (G.fresh : Int)] 96)
  ring : RgAt w B.rb B.rh G.r
  row : ∃ cs : Array Value, w.heap[B.hb]? = some (.cells cs 104) ∧ ∀ i, i < G.r.n → cs[i * 3]? = some (.int .u32 (B.t i)) ∧ cs[i * 3 + 1]? = some (.pointer (some ⟨side (B.t i) (B.A i) (B.O i), 0, none⟩)) ∧ cs[i * 3 + 2]? = some (.pointer (some ⟨side (B.t i) (B.O i) (B.A i), 0, none⟩))
  t0 : ∀ i, 0 ≤ B.t i ∧ B.t i < 4294967296
  now : ∀ i, i < G.r.n → RpAt w (B.A i) (G.now i)
  old : ∀ i, i < G.r.n → RpAt w (B.O i) (G.old i)
  aa : ∀ i j, i < G.r.n → j < G.r.n → B.A i = B.A j → i = j
  oo : ∀ i j, i < G.r.n → j < G.r.n → B.O i = B.O j → i = j
  ao : ∀ i j, i < G.r.n → j < G.r.n → B.A i ≠ B.O j
  mg : B.g ∈ F
  mrb : B.rb ∈ F
  mrh : B.rh ∈ F
  mhb : B.hb ∈ F
  ma : ∀ i, i < G.r.n → B.A i ∈ F
  mo : ∀ i, i < G.r.n → B.O i ∈ F
  lt : ∀ x ∈ F, x < w.heap.size
  ok : G.Ok
theorem obj_ne {w : World} {a b : Nat} {c d : Array Value} {s t : TypeId} (h : w.heap[a]? = some (.cells c s)) (k : w.heap[b]? = some (.cells d t)) (hst : s ≠ t) : a ≠ b := by
  rintro rfl
  rw [h] at k
  cases k
  exact hst rfl
section
variable {w w' : World} {F H : List Nat} {B : GBl} {G : Gt}
theorem GtAt.chg (K : GtAt w F B G) (hc : Chg H w w') (hd : ∀ x ∈ F, x ∉ H) : GtAt w' F B G :=
  ⟨hc.at K.top (hd _ K.mg), K.ring.chg hc (hd _ K.mrb) (hd _ K.mrh), by obtain ⟨cs, h1, h2⟩ := K.row; exact ⟨cs, hc.at h1 (hd _ K.mhb), h2⟩, K.t0,
    fun i hi => (K.now i hi).chg hc (hd _ (K.ma i hi)), fun i hi => (K.old i hi).chg hc (hd _ (K.mo i hi)), K.aa, K.oo, K.ao, K.mg, K.mrb, K.mrh, K.mhb, K.ma, K.mo, fun x hx => Nat.lt_of_lt_of_le (K.lt x hx) hc.size, K.ok⟩
theorem GtAt.grown (K : GtAt w F B G) (hg : w.grownBy w' none) : GtAt w' F B G := K.chg (chg_grown hg []) (by simp)
theorem GtAt.drew (K : GtAt w F B G) : GtAt w.drew F B G := K.chg ((chg_refl w []).drew) (by simp)
theorem GtAt.tops (K : GtAt w F B G) : w.cell? ⟨B.g, 0, none⟩ = some (.pointer (some ⟨B.rb, 0, none⟩)) ∧ w.cell? ⟨B.g, 1, none⟩ = some (.slice (some ⟨B.hb, 0, none⟩) G.r.n G.r.n) ∧ w.cell? ⟨B.g, 2, none⟩ = some (.int .i64 (G.win : Int)) ∧ w.cell? ⟨B.g, 3, none⟩ = some (.int .i64 (G.met : Int)) ∧ w.cell? ⟨B.g, 4, none⟩ = some (.int .i64 (G.fresh : Int)) :=
  ⟨at_cell K.top 0, at_cell K.top 1, at_cell K.top 2, at_cell K.top 3, at_cell K.top 4⟩
theorem GtAt.cells (K : GtAt w F B G) {i : Nat} (hi : i < G.r.n) : w.cell? ⟨B.hb, i * 3, none⟩ = some (.int .u32 (B.t i)) ∧ w.cell? ⟨B.hb, i * 3 + 1, none⟩ = some (.pointer (some ⟨side (B.t i) (B.A i) (B.O i), 0, none⟩)) ∧ w.cell? ⟨B.hb, i * 3 + 2, none⟩ = some (.pointer (some ⟨side (B.t i) (B.O i) (B.A i), 0, none⟩)) ∧ w.frozen? ⟨B.hb, i * 3, none⟩ = false ∧ w.frozen? ⟨B.hb, i * 3 + 1, none⟩ = false ∧ w.frozen? ⟨B.hb, i * 3 + 2, none⟩ = false := by
  obtain ⟨cs, h1, h2⟩ := K.row
  obtain ⟨a, b, c⟩ := h2 i hi
  exact ⟨(at_cell h1 _).trans a, (at_cell h1 _).trans b, (at_cell h1 _).trans c, at_free h1 _, at_free h1 _, at_free h1 _⟩
theorem GtAt.more (K : GtAt w F B G) {x : Nat} (hx : x < w.heap.size) : GtAt w (x :: F) B G :=
  ⟨K.top, K.ring, K.row, K.t0, K.now, K.old, K.aa, K.oo, K.ao, List.mem_cons_of_mem _ K.mg, List.mem_cons_of_mem _ K.mrb, List.mem_cons_of_mem _ K.mrh, List.mem_cons_of_mem _ K.mhb, fun i hi => List.mem_cons_of_mem _ (K.ma i hi), fun i hi => List.mem_cons_of_mem _ (K.mo i hi),
    fun y hy => by rcases List.mem_cons.1 hy with rfl | hy; exact hx; exact K.lt y hy, K.ok⟩
/-- the ring turned -/
theorem GtAt.rung (K : GtAt w F B G) {i : Nat} {g s : Int} (R : RgAt w' B.rb B.rh (G.r.put i g s)) (hc : Chg [B.rh] w w') : GtAt w' F B { G with r := G.r.put i g s } := by
  obtain ⟨cs, h1, h2⟩ := K.row
  have hr := K.ring.row
  obtain ⟨ds, k1, k2⟩ := hr
  have e1 : B.g ≠ B.rh := obj_ne K.top k1 (by decide)
  have e2 : B.hb ≠ B.rh := obj_ne h1 k1 (by decide)
  have e3 : ∀ j, j < G.r.n → B.A j ≠ B.rh := fun j hj => obj_ne (K.now j hj).top k1 (by decide)
  have e4 : ∀ j, j < G.r.n → B.O j ≠ B.rh := fun j hj => obj_ne (K.old j hj).top k1 (by decide)
  exact ⟨hc.at K.top (by simpa using e1), R, ⟨cs, hc.at h1 (by simpa using e2), h2⟩, K.t0, fun j hj => (K.now j hj).chg hc (by simpa using e3 j hj), fun j hj => (K.old j hj).chg hc (by simpa using e4 j hj), K.aa, K.oo, K.ao, K.mg, K.mrb, K.mrh, K.mhb, K.ma, K.mo,
    fun x hx => Nat.lt_of_lt_of_le (K.lt x hx) hc.size, ⟨K.ok.w1, K.ok.w2, K.ok.m1, K.ok.m2, K.ok.f1, K.ok.f2, K.ok.nw, K.ok.ow⟩⟩
/-- a number was taken of those now -/
theorem GtAt.tookNow (K : GtAt w F B G) {i : Nat} (hi : i < G.r.n) {p : Rp} (R : RpAt w' (B.A i) p) (hw : p.win = G.win) (hc : Chg [B.A i] w w') : GtAt w' F B { G with now := fun j => if j = i then p else G.now j } := by
  obtain ⟨cs, h1, h2⟩ := K.row
  obtain ⟨ds, k1, k2⟩ := K.ring.row
  have kA := (K.now i hi).top
  have e1 : B.g ≠ B.A i := obj_ne K.top kA (by decide)
  have e2 : B.hb ≠ B.A i := obj_ne h1 kA (by decide)
  have e3 : B.rb ≠ B.A i := obj_ne K.ring.top kA (by decide)
  have e4 : B.rh ≠ B.A i := obj_ne k1 kA (by decide)
  refine ⟨hc.at K.top (by simpa using e1), K.ring.chg hc (by simpa using e3) (by simpa using e4), ⟨cs, hc.at h1 (by simpa using e2), h2⟩, K.t0, fun j hj => ?_, fun j hj => (K.old j hj).chg hc (by simpa using fun e => K.ao i j hi hj e.symm), K.aa, K.oo, K.ao, K.mg, K.mrb, K.mrh, K.mhb, K.ma, K.mo,
    fun x hx => Nat.lt_of_lt_of_le (K.lt x hx) hc.size, ⟨K.ok.w1, K.ok.w2, K.ok.m1, K.ok.m2, K.ok.f1, K.ok.f2, fun j => ?_, K.ok.ow⟩⟩
  · dsimp only
    by_cases e : j = i
    · subst e; rw [if_pos rfl]; exact R
    · rw [if_neg e]; exact (K.now j hj).chg hc (by simpa using fun h => e (K.aa j i hj hi h))
  · dsimp only
    split
    · exact hw
    · exact K.ok.nw j
theorem GtAt.tookOld (K : GtAt w F B G) {i : Nat} (hi : i < G.r.n) {p : Rp} (R : RpAt w' (B.O i) p) (hw : p.win = G.win) (hc : Chg [B.O i] w w') : GtAt w' F B { G with old := fun j => if j = i then p else G.old j } := by
  obtain ⟨cs, h1, h2⟩ := K.row
  obtain ⟨ds, k1, k2⟩ := K.ring.row
  have kA := (K.old i hi).top
  have e1 : B.g ≠ B.O i := obj_ne K.top kA (by decide)
  have e2 : B.hb ≠ B.O i := obj_ne h1 kA (by decide)
  have e3 : B.rb ≠ B.O i := obj_ne K.ring.top kA (by decide)
  have e4 : B.rh ≠ B.O i := obj_ne k1 kA (by decide)
  refine ⟨hc.at K.top (by simpa using e1), K.ring.chg hc (by simpa using e3) (by simpa using e4), ⟨cs, hc.at h1 (by simpa using e2), h2⟩, K.t0, fun j hj => (K.now j hj).chg hc (by simpa using fun e => K.ao j i hj hi e), fun j hj => ?_, K.aa, K.oo, K.ao, K.mg, K.mrb, K.mrh, K.mhb, K.ma, K.mo,
    fun x hx => Nat.lt_of_lt_of_le (K.lt x hx) hc.size, ⟨K.ok.w1, K.ok.w2, K.ok.m1, K.ok.m2, K.ok.f1, K.ok.f2, K.ok.nw, fun j => ?_⟩⟩
  · dsimp only
    by_cases e : j = i
    · subst e; rw [if_pos rfl]; exact R
    · rw [if_neg e]; exact (K.old j hj).chg hc (by simpa using fun h => e (K.oo j i hj hi h))
  · dsimp only
    split
    · exact hw
    · exact K.ok.ow j
end

/-- who's part -/
theorem gfind_nil (x : Int) (w : World) :
    Calls Tryz.prog 54 #[.pointer none, .int .i64 x] w fun e w' => e = .returned (.pointer none) ∧ w = w' := by
  go_enter Tryz.func54, Tryz.ntmps54
  go_wp2
  go_ret
  exact ⟨rfl, rfl⟩
theorem gfind_out {F : List Nat} {B : GBl} {G : Gt} (x : Int) (w : World) (K : GtAt w F B G) (hx : x < 0 ∨ (G.r.n : Int) ≤ x) :
    Calls Tryz.prog 54 #[.pointer (some ⟨B.g, 0, none⟩), .int .i64 x] w fun e w' => e = .returned (.pointer none) ∧ w = w' := by
  obtain ⟨c0, c1, c2, c3, c4⟩ := K.tops
  have n1 := K.ring.ok.n1
  have n2 := K.ring.ok.n2
  clear K
  generalize G.r.n = n at *
  by_cases h : x < 0
  · have d1 : decide (x < 0) = true := by simpa using h
    clear hx
    go_enter Tryz.func54, Tryz.ntmps54
    go_wp2
    go_ret
    exact ⟨rfl, rfl⟩
  · have d1 : decide (x < 0) = false := by simpa using h
    have d2 : decide ((n : Int) ≤ x) = true := by simp; omega
    clear hx
    go_enter Tryz.func54, Tryz.ntmps54
    go_wp2
    go_ret
    exact ⟨rfl, rfl⟩
theorem gfind_in {F : List Nat} {B : GBl} {G : Gt} (i : Nat) (w : World) (K : GtAt w F B G) (hi : i < G.r.n) :
    Calls Tryz.prog 54 #[.pointer (some ⟨B.g, 0, none⟩), .int .i64 (i : Int)] w fun e w' => e = .returned (.pointer (some ⟨B.hb, i * 3, none⟩)) ∧ w = w' := by
  obtain ⟨c0, c1, c2, c3, c4⟩ := K.tops
  have n1 := K.ring.ok.n1
  have n2 := K.ring.ok.n2
  clear K
  generalize G.r.n = n at *
  have d1 : decide ((i : Int) < 0) = false := by simp
  have d2 : decide ((n : Int) ≤ (i : Int)) = false := by simp; omega
  go_enter Tryz.func54, Tryz.ntmps54
  go_wp2
  go_ret
  exact ⟨rfl, rfl⟩
end Go.Proofs.YtfhifnhnkgdnlaaGreat
end
