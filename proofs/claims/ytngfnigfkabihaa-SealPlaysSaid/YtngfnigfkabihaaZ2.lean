/-
  Plain arithmetic of messages: which may be, their 32 bytes, what is read from bytes; a message comes back from its bytes, and from these alone; the document's own way is the same one. No condition. Nothing of the program is named here.
  Single operations of a walk on whole structs and arrays of many cells: a load, a store, a value built of parts, each taken in one step ('go_wp2_with (refine wpList_row .. ?_)'). No condition. Nothing of the program is named here.
  Contracts for package wire and the document's own answer: which messages may be, a message's first eight bytes as a number. No condition.
  Contract: whether a message may be, as the document has it. No condition.
  For a region that leaves its order open: the condition that is held may be made stronger on the way. No condition. Nothing of the program is named here.
  Contracts for the document's own messages as bytes. No condition.
  Contracts: whether a message may be, as the program and as the document has it; a message's first eight bytes as a number. No condition.
  Slices of slices of bytes that came in. No condition. Nothing of the program's functions is named here.
  Contracts for slices.Concat and bytes.Clone at bytes: the bytes of all, in a slice of the call's own. The condition: slices that read as bytes, of a modest length together.
  Contract for wire.Put: a message's 32 bytes, in a slice of the call's own; an error of one that may not be. No condition.
  Contracts for wire.Seal and bytes.Clone: a message's bytes and behind them their tag, in a slice of the call's own; an error of one that may not be; bytes copied. No condition.
-/
import Derived.Test.YtngfnigfkabihaaZ1
import Derived.WalkKit
import Derived.Laws.Rows
import Derived.Laws.Tables
import Derived.Deep.WholeRow
import Derived.Great.Walk
import Derived.Deep.RegionHeld3
import Derived.Lib.AppendZerosOnto
import Derived.Lib.AppendZeros
import Derived.Lib.SliceRun
section
set_option linter.unusedSimpArgs false
namespace Go.Proofs.Ytngfnigfkabihaa
set_option maxRecDepth 100000
open Go.RowKit

/-- a message's parts -/
structure Mg where
  kind : Int
  who : Int
  gen : Int
  seq : Int
  epoch : Int
  value : Int
  metric : Int
/-- which messages may be sent -/
def May (m : Mg) : Prop := (1 ≤ m.kind ∧ m.kind ≤ 3) ∧ (0 ≤ m.who ∧ m.who ≤ 15) ∧ (0 ≤ m.gen ∧ m.gen ≤ 60000) ∧ (1 ≤ m.seq ∧ m.seq ≤ 1099511627776) ∧ (0 ≤ m.epoch ∧ m.epoch ≤ 1099511627776) ∧
  (m.kind = 1 → (0 ≤ m.metric ∧ m.metric ≤ 3) ∧ (0 ≤ m.value ∧ m.value ≤ 1099511627776)) ∧ (m.kind ≠ 1 → m.metric = 0 ∧ m.value = 0)
instance (m : Mg) : Decidable (May m) := by unfold May; infer_instance
def mayOf (m : Mg) : Bool := decide (May m)
theorem may_of {m : Mg} (h : mayOf m = true) : May m := of_decide_eq_true h
theorem may_metric {m : Mg} (h : May m) : (0 ≤ m.metric ∧ m.metric ≤ 3) ∧ (0 ≤ m.value ∧ m.value ≤ 1099511627776) := by
  obtain ⟨_, _, _, _, _, h6, h7⟩ := h
  by_cases e : m.kind = 1
  · exact h6 e
  · have := h7 e; omega

def w64 (n : Int) : BitVec 64 := BitVec.ofInt 64 n
/-- a message's first eight bytes as a number -/
def headOf (m : Mg) : BitVec 64 := 1#64 ||| w64 m.kind <<< 8 ||| w64 m.who <<< 16 ||| w64 m.metric <<< 24 ||| w64 m.gen <<< 32
/-- a message's 32 bytes -/
def putOf (m : Mg) : List UInt8 := put8 (headOf m) ++ put8 (w64 m.seq) ++ put8 (w64 m.epoch) ++ put8 (w64 m.value)
theorem putOf_all (m : Mg) : putOf m = putAll [headOf m, w64 m.seq, w64 m.epoch, w64 m.value] := by simp [putOf, putAll]
theorem putOf_length (m : Mg) : (putOf m).length = 32 := rfl

theorem w64_toNat {n : Int} (h0 : 0 ≤ n) (h1 : n < 18446744073709551616) : (w64 n).toNat = n.toNat := by
  unfold w64; rw [BitVec.toNat_ofInt]; omega
theorem or_shift (x y : BitVec 64) (i : Nat) (hx : x.toNat < 2 ^ i) (hy : y.toNat * 2 ^ i < 2 ^ 64) : (x ||| y <<< i).toNat = x.toNat + y.toNat * 2 ^ i := by
  rw [BitVec.toNat_or, BitVec.toNat_shiftLeft, Nat.shiftLeft_eq, Nat.mod_eq_of_lt hy, Nat.or_comm, ← Nat.shiftLeft_eq, ← Nat.shiftLeft_add_eq_or_of_lt hx, Nat.shiftLeft_eq, Nat.add_comm]
theorem head_nat {m : Mg} (h : May m) : (headOf m).toNat = 1 + m.kind.toNat * 256 + m.who.toNat * 65536 + m.metric.toNat * 16777216 + m.gen.toNat * 4294967296 := by
  have hm := may_metric h
  obtain ⟨hk, hw, hg, _⟩ := h
  have k := w64_toNat (n := m.kind) (by omega) (by omega)
  have w := w64_toNat (n := m.who) (by omega) (by omega)
  have t := w64_toNat (n := m.metric) (by omega) (by omega)
  have g := w64_toNat (n := m.gen) (by omega) (by omega)
  unfold headOf
  have e1 := or_shift 1#64 (w64 m.kind) 8 (by decide) (by rw [k]; omega)
  rw [k] at e1
  have e2 := or_shift (1#64 ||| w64 m.kind <<< 8) (w64 m.who) 16 (by rw [e1]; simp; omega) (by rw [w]; omega)
  rw [e1, w] at e2
  have e3 := or_shift (1#64 ||| w64 m.kind <<< 8 ||| w64 m.who <<< 16) (w64 m.metric) 24 (by rw [e2]; simp; omega) (by rw [t]; omega)
  rw [e2, t] at e3
  have e4 := or_shift (1#64 ||| w64 m.kind <<< 8 ||| w64 m.who <<< 16 ||| w64 m.metric <<< 24) (w64 m.gen) 32 (by rw [e3]; simp; omega) (by rw [g]; omega)
  rw [e3, g] at e4
  rw [e4]; simp

theorem byte_of (x : BitVec 64) (i n : Nat) (h : x.toNat / 2 ^ (8 * i) % 256 = n % 256) : putByte x i = UInt8.ofNat n := by
  unfold putByte
  apply UInt8.toNat_inj.1
  rw [BitVec.toNat_ushiftRight, Nat.shiftRight_eq_div_pow]
  simp only [UInt8.toNat_ofNat']
  exact h
/-- a number cut to a byte -/
def u8of (n : Int) : UInt8 := UInt8.ofNat (n % 256).toNat
theorem u8of_wrap (n : Int) : IntKind.u8.wrap n = ((u8of n).toNat : Int) := by
  have h : IntKind.u8.wrap n = n % 256 := by simp [IntKind.wrap, IntKind.bits, IntKind.signed]
  rw [h]
  unfold u8of
  simp only [UInt8.toNat_ofNat']
  omega
theorem head_byte0 {m : Mg} (h : May m) : putByte (headOf m) 0 = 1 := byte_of _ 0 1 (by rw [head_nat h]; simp; omega)
theorem head_byte1 {m : Mg} (h : May m) : putByte (headOf m) 1 = u8of m.kind := byte_of _ 1 _ (by have := may_metric h; rw [head_nat h]; obtain ⟨_, _, _, _⟩ := h; simp; omega)
theorem head_byte2 {m : Mg} (h : May m) : putByte (headOf m) 2 = u8of m.who := byte_of _ 2 _ (by have := may_metric h; rw [head_nat h]; obtain ⟨_, _, _, _⟩ := h; simp; omega)
theorem head_byte3 {m : Mg} (h : May m) : putByte (headOf m) 3 = u8of m.metric := byte_of _ 3 _ (by have := may_metric h; rw [head_nat h]; obtain ⟨_, _, _, _⟩ := h; simp; omega)
theorem head_gen {m : Mg} (h : May m) (i : Nat) (hi : i < 4) : putByte (headOf m) (4 + i) = putByte (w64 m.gen) i := by
  have hm := may_metric h
  have hn := head_nat h
  obtain ⟨_, _, hg, _⟩ := h
  have g := w64_toNat (n := m.gen) (by omega) (by omega)
  refine (byte_of _ _ ((w64 m.gen).toNat / 2 ^ (8 * i)) ?_).trans (byte_of _ _ _ rfl).symm
  rw [hn, g]
  rcases (by omega : i = 0 ∨ i = 1 ∨ i = 2 ∨ i = 3) with rfl | rfl | rfl | rfl <;> simp <;> omega
theorem gen_high {m : Mg} (h : May m) (i : Nat) (hi : 4 ≤ i) (h8 : i < 8) : putByte (w64 m.gen) i = 0 := by
  obtain ⟨_, _, hg, _⟩ := h
  have g := w64_toNat (n := m.gen) (by omega) (by omega)
  refine byte_of _ _ 0 ?_
  rw [g]
  rcases (by omega : i = 4 ∨ i = 5 ∨ i = 6 ∨ i = 7) with rfl | rfl | rfl | rfl <;> simp <;> omega

/-- the document's own 32 bytes -/
def refPutOf (m : Mg) : List UInt8 := [1, u8of m.kind, u8of m.who, u8of m.metric] ++ (put8 (w64 m.gen)).take 4 ++ put8 (w64 m.seq) ++ put8 (w64 m.epoch) ++ put8 (w64 m.value)
theorem refPut_eq {m : Mg} (h : May m) : refPutOf m = putOf m := by
  have e0 := head_byte0 h; have e1 := head_byte1 h; have e2 := head_byte2 h; have e3 := head_byte3 h
  have g0 := head_gen h 0 (by omega); have g1 := head_gen h 1 (by omega); have g2 := head_gen h 2 (by omega); have g3 := head_gen h 3 (by omega)
  have hh : put8 (headOf m) = [1, u8of m.kind, u8of m.who, u8of m.metric] ++ (put8 (w64 m.gen)).take 4 := by
    simp only [Nat.add_zero, Nat.reduceAdd] at g0 g1 g2 g3
    simp [put8, e0, e1, e2, e3, g0, g1, g2, g3]
  unfold putOf refPutOf
  rw [hh]

/-- what is read from 32 bytes -/
def readOf (l : List UInt8) : Mg where
  kind := ((wordAt l 0 8).toNat / 256 % 256 : Nat)
  who := ((wordAt l 0 8).toNat / 65536 % 256 : Nat)
  gen := ((wordAt l 0 8).toNat / 4294967296 : Nat)
  seq := (wordAt l 8 8).toInt
  epoch := (wordAt l 16 8).toInt
  value := (wordAt l 24 8).toInt
  metric := ((wordAt l 0 8).toNat / 16777216 % 256 : Nat)
/-- the message that these bytes are of -/
def getOf (l : List UInt8) : Option Mg := if l.length = 32 ∧ (wordAt l 0 8).toNat % 256 = 1 ∧ May (readOf l) then some (readOf l) else none

theorem word_at (a : List (BitVec 64)) (k : Nat) (hk : k < a.length) : wordAt (putAll a) (8 * k) 8 = a[k] := by
  have := wordAt_all [] a k hk
  simpa using this
theorem put_w0 (m : Mg) : wordAt (putOf m) 0 8 = headOf m := by rw [putOf_all]; exact word_at _ 0 (by simp)
theorem put_w1 (m : Mg) : wordAt (putOf m) 8 8 = w64 m.seq := by rw [putOf_all]; exact word_at _ 1 (by simp)
theorem put_w2 (m : Mg) : wordAt (putOf m) 16 8 = w64 m.epoch := by rw [putOf_all]; exact word_at _ 2 (by simp)
theorem put_w3 (m : Mg) : wordAt (putOf m) 24 8 = w64 m.value := by rw [putOf_all]; exact word_at _ 3 (by simp)
theorem w64_toInt {n : Int} (h0 : 0 ≤ n) (h1 : n ≤ 1099511627776) : (w64 n).toInt = n := by
  unfold w64; rw [BitVec.toInt_ofInt]; exact Int.bmod_eq_of_le (by omega) (by omega)
theorem w64_of (x : BitVec 64) : w64 x.toInt = x := BitVec.ofInt_toInt
theorem read_put {m : Mg} (h : May m) : readOf (putOf m) = m := by
  have hm := may_metric h
  have hn := head_nat h
  obtain ⟨hk, hw, hg, hs, he, _⟩ := h
  have s := w64_toInt (n := m.seq) (by omega) (by omega)
  have e := w64_toInt (n := m.epoch) (by omega) (by omega)
  have v := w64_toInt (n := m.value) (by omega) (by omega)
  unfold readOf
  rw [put_w0, put_w1, put_w2, put_w3, s, e, v, hn]
  cases m with | mk kind who gen seq epoch value metric =>
  simp only at hk hw hg hm ⊢
  congr 1 <;> omega
/-- a message comes back from its bytes -/
theorem get_put {m : Mg} (h : May m) : getOf (putOf m) = some m := by
  unfold getOf
  rw [read_put h, put_w0, head_nat h, if_pos ⟨putOf_length m, by omega, h⟩]
theorem all_words (l : List UInt8) (h : l.length = 32) : l = putAll [wordAt l 0 8, wordAt l 8 8, wordAt l 16 8, wordAt l 24 8] := by
  apply List.ext_getElem
  · rw [putAll_length]; simpa using h
  intro j h1 h2
  rw [← byteAt_eq h1, ← byteAt_eq h2]
  have hj : j < 32 := by omega
  have hd : j = 8 * (j / 8) + j % 8 := by omega
  rw [hd, putAll_byte _ (j / 8) (j % 8) (by simp; omega) (by omega)]
  rcases (by omega : j / 8 = 0 ∨ j / 8 = 1 ∨ j / 8 = 2 ∨ j / 8 = 3) with e | e | e | e <;> rw [← hd] <;> simp only [e, List.getElem_cons_zero, List.getElem_cons_succ] <;> rw [word_byte l _ (j % 8) (by omega)] <;> congr 1 <;> omega
/-- and from these alone -/
theorem put_get {l : List UInt8} {m : Mg} (h : getOf l = some m) : May m ∧ l = putOf m := by
  unfold getOf at h
  split at h
  · rename_i hc
    obtain ⟨hl, h1, hm⟩ := hc
    cases h
    refine ⟨hm, ?_⟩
    rw [putOf_all]
    have hh : headOf (readOf l) = wordAt l 0 8 := by
      apply BitVec.eq_of_toNat_eq
      rw [head_nat hm]
      unfold readOf
      simp only [Int.toNat_natCast]
      have := (wordAt l 0 8).isLt
      omega
    have hs : w64 (readOf l).seq = wordAt l 8 8 := w64_of _
    have he : w64 (readOf l).epoch = wordAt l 16 8 := w64_of _
    have hv : w64 (readOf l).value = wordAt l 24 8 := w64_of _
    rw [hh, hs, he, hv]
    exact all_words l hl
  · cases h

/-- what the document reads from 32 bytes -/
def refReadOf (l : List UInt8) : Mg where
  kind := (byteAt l 1).toNat
  who := (byteAt l 2).toNat
  gen := (wordAt ((l.drop 4).take 4 ++ [0, 0, 0, 0]) 0 8).toInt
  seq := (wordAt l 8 8).toInt
  epoch := (wordAt l 16 8).toInt
  value := (wordAt l 24 8).toInt
  metric := (byteAt l 3).toNat
def refGetOf (l : List UInt8) : Option Mg := if l.length = 32 ∧ May (refReadOf l) ∧ refPutOf (refReadOf l) = l then some (refReadOf l) else none
theorem put_byte (m : Mg) (i : Nat) (h : i < 8) : byteAt (putOf m) i = putByte (headOf m) i := by
  rw [putOf_all]; have := putAll_byte [headOf m, w64 m.seq, w64 m.epoch, w64 m.value] 0 i (by simp) h; simpa using this
theorem u8of_nat {n : Int} (h0 : 0 ≤ n) (h1 : n < 256) : ((u8of n).toNat : Int) = n := by
  unfold u8of; simp only [UInt8.toNat_ofNat']; omega
theorem refread_put {m : Mg} (h : May m) : refReadOf (putOf m) = m := by
  have hm := may_metric h
  have b1 := put_byte m 1 (by omega); have b2 := put_byte m 2 (by omega); have b3 := put_byte m 3 (by omega)
  rw [head_byte1 h] at b1; rw [head_byte2 h] at b2; rw [head_byte3 h] at b3
  have hgen : wordAt (((putOf m).drop 4).take 4 ++ [0, 0, 0, 0]) 0 8 = w64 m.gen := by
    refine wordAt_put _ 0 _ fun i hi => ?_
    rw [Nat.zero_add]
    have hlen : (((putOf m).drop 4).take 4).length = 4 := by simp [putOf_length]
    by_cases h4 : i < 4
    · rw [byteAt_first _ _ _ (by omega), ← head_gen h i h4, ← put_byte m (4 + i) (by omega)]
      unfold byteAt
      simp only [List.getD_eq_getElem?_getD]
      rw [List.getElem?_take_of_lt h4, List.getElem?_drop]
    · rw [gen_high h i (by omega) hi]
      have e := byteAt_right (((putOf m).drop 4).take 4) [0, 0, 0, 0] (i - 4) (by simp; omega)
      rw [hlen, show 4 + (i - 4) = i by omega] at e
      rw [e]
      rcases (by omega : i = 4 ∨ i = 5 ∨ i = 6 ∨ i = 7) with rfl | rfl | rfl | rfl <;> rfl
  obtain ⟨hk, hw, hg, hs, he, _⟩ := h
  have s := w64_toInt (n := m.seq) (by omega) (by omega)
  have e := w64_toInt (n := m.epoch) (by omega) (by omega)
  have v := w64_toInt (n := m.value) (by omega) (by omega)
  have g := w64_toInt (n := m.gen) (by omega) (by omega)
  unfold refReadOf
  rw [b1, b2, b3, hgen, put_w1, put_w2, put_w3, s, e, v, g, u8of_nat (by omega) (by omega), u8of_nat (by omega) (by omega), u8of_nat (by omega) (by omega)]
/-- the document's own way is the same one -/
theorem refGet_eq (l : List UInt8) : refGetOf l = getOf l := by
  cases hg : getOf l with
  | some m =>
    obtain ⟨hm, rfl⟩ := put_get hg
    unfold refGetOf
    rw [refread_put hm, if_pos ⟨putOf_length m, hm, refPut_eq hm⟩]
  | none =>
    unfold refGetOf
    split
    · rename_i hc
      obtain ⟨hl, hm, hp⟩ := hc
      rw [refPut_eq hm] at hp
      have := get_put hm
      rw [hp, hg] at this
      cases this
    · rfl
theorem get_none_of_length {l : List UInt8} (h : l.length ≠ 32) : getOf l = none := by
  unfold getOf; rw [if_neg (fun hc => h hc.1)]
end Go.Proofs.Ytngfnigfkabihaa
end
section
namespace Go.Proofs.Ytngfnigfkabihaa
set_option maxRecDepth 100000
open Go.RowKit

section
variable {P : Program} {ops : Array Oper} {rest : List Oper} {o : Oper} {a : Act} {w : World} {Q : Exit → Act → World → Prop} {b : Nat} {t ty : TypeId} {x y : Operand} {dst : Option Tmp} {d : TypeDesc} {cs old : Array Value}

theorem wpList_row {fr : Nat × Nat} (h : w.heap[b]? = some (.cells cs t fr)) (hu : P.underlying ty = some d) (hd : (match d with | .struct _ | .array _ _ => true | _ => false) = true) (hi : (P.info? ty).map (·.size) = some cs.size)
    (hg : o.guard = none) (ho : o.op = .load ty x) (hdst : o.dst = dst) (hx : a.eval x = .pointer (some ⟨b, 0, none⟩))
    (k : wpList P ops Q rest (a.put dst (.agg cs)) w) : wpList P ops Q (o :: rest) a w := by
  refine Great.wpList_readTo hg dst hdst (.agg cs) ?_ k
  simp only [execOp, ho, hx, Sem.run_bind, Instr.loadAt, Instr.sureAddr, Sem.run_pure, Result.andThen_ok, run_loadVar_row w b t ty cs fr d h hu hd hi]

/-- the same, the operation guarded and its guard decided -/
theorem wpList_row_w {fr : Nat × Nat} (h : w.heap[b]? = some (.cells cs t fr)) (hu : P.underlying ty = some d) (hd : (match d with | .struct _ | .array _ _ => true | _ => false) = true) (hi : (P.info? ty).map (·.size) = some cs.size)
    (hw : Region.wanted o (yielded ops a.tmps) = true) (ho : o.op = .load ty x) (hdst : o.dst = dst) (hx : a.eval x = .pointer (some ⟨b, 0, none⟩))
    (k : wpList P ops Q rest (a.put dst (.agg cs)) w) : wpList P ops Q (o :: rest) a w := by
  subst hdst
  refine wpList_step fun K hK => ?_
  simp only [hw, if_true]
  unfold Oper.wp
  have e : (execOp a.eval o).run P w = .ok (.value (.agg cs)) w := by
    simp only [execOp, ho, hx, Sem.run_bind, Instr.loadAt, Instr.sureAddr, Sem.run_pure, Result.andThen_ok, run_loadVar_row w b t ty cs fr d h hu hd hi]
  rw [e, Oper.upon_value]
  exact hK _ _ k

theorem wpList_store_row (h : w.heap[b]? = some (.cells old t (0, 0))) (hi : (P.info? ty).map (·.size) = some cs.size) (hsz : old.size = cs.size) (h1 : cs.all (·.oneCell') = true)
    (hg : o.guard = none) (ho : o.op = .store ty x y) (hdst : o.dst = none) (hx : a.eval x = .pointer (some ⟨b, 0, none⟩)) (hy : a.eval y = .agg cs)
    (k : wpList P ops Q rest a (w.setRow b cs)) : wpList P ops Q (o :: rest) a w := by
  refine wpList_plain hg fun K hK => ?_
  unfold Oper.wp
  have e : (execOp a.eval o).run P w = .ok .skip (w.setRow b cs) := by
    simp only [execOp, ho, hx, hy, Sem.run_bind, Instr.storeAt, Instr.sureAddr, Sem.run_pure, Result.andThen_ok, run_storeVar_row w b t ty old cs h hi hsz h1]
  rw [e, Oper.upon_skip, hdst]
  exact hK _ _ k

/-- the store into the block that was made last -/
theorem wpList_store_new {n : Nat} (hn : w.heap.size = n) (hi : (P.info? ty).map (·.size) = some cs.size) (hsz : old.size = cs.size) (h1 : cs.all (·.oneCell') = true)
    (hg : o.guard = none) (ho : o.op = .store ty x y) (hdst : o.dst = none) (hx : a.eval x = .pointer (some ⟨n, 0, none⟩)) (hy : a.eval y = .agg cs)
    (k : wpList P ops Q rest a (w.alloc (.cells cs t))) : wpList P ops Q (o :: rest) a (w.alloc (.cells old t)) :=
  wpList_store_row (heap_alloc_last w _) hi hsz h1 hg ho hdst (by rw [hn]; exact hx) hy (by rw [World.setRow_alloc_new]; exact k)

theorem wpList_buildTo {parts : Array (Nat × Operand)} (hg : o.guard = none) (ho : o.op = .build ty parts) (hdst : o.dst = dst)
    (hb : P.built ty (parts.map fun (i, x) => (i, a.eval x)).toList = some cs)
    (k : wpList P ops Q rest (a.put dst (.agg cs)) w) : wpList P ops Q (o :: rest) a w := by
  refine Great.wpList_readTo hg dst hdst (.agg cs) ?_ k
  have e := run_build (P := P) w ty (parts.map fun (i, x) => (i, a.eval x)) cs hb
  simp only [execOp, ho, Sem.run_bind, e, Sem.run_pure, Result.andThen_ok]

/-- the same two in a region that leaves its order open ('wpAnyH_take') -/
theorem exec_row {ρ : Operand → Value} {fr : Nat × Nat} (h : w.heap[b]? = some (.cells cs t fr)) (hu : P.underlying ty = some d) (hd : (match d with | .struct _ | .array _ _ => true | _ => false) = true) (hi : (P.info? ty).map (·.size) = some cs.size)
    (ho : o.op = .load ty x) (hx : ρ x = .pointer (some ⟨b, 0, none⟩)) : (execOp ρ o).run P w = .ok (.value (.agg cs)) w := by
  simp only [execOp, ho, hx, Sem.run_bind, Instr.loadAt, Instr.sureAddr, Sem.run_pure, Result.andThen_ok, run_loadVar_row w b t ty cs fr d h hu hd hi]
theorem exec_build {ρ : Operand → Value} {parts : Array (Nat × Operand)} (ho : o.op = .build ty parts) (hb : P.built ty (parts.map fun (i, x) => (i, ρ x)).toList = some cs) : (execOp ρ o).run P w = .ok (.value (.agg cs)) w := by
  have e := run_build (P := P) w ty (parts.map fun (i, x) => (i, ρ x)) cs hb
  simp only [execOp, ho, Sem.run_bind, e, Sem.run_pure, Result.andThen_ok]
end

/-- what a store of a whole row leaves -/
theorem at_setRow {w : World} {b : Nat} {old cs : Array Value} {t : TypeId} {f : Nat × Nat} (h : w.heap[b]? = some (.cells old t f)) : (w.setRow b cs).heap[b]? = some (.cells cs t f) := by
  simp [World.setRow, Array.getElem?_modify, h]
theorem at_setRow_other {w : World} {b k : Nat} {cs : Array Value} {o : Option Obj} (h : w.heap[k]? = o) (hk : k ≠ b) : (w.setRow b cs).heap[k]? = o := by
  simp [World.setRow, Array.getElem?_modify, Ne.symm hk, h]
end Go.Proofs.Ytngfnigfkabihaa
end
section
set_option linter.unusedSimpArgs false
namespace Go.Proofs.Ytngfnigfkabihaa
set_option maxRecDepth 100000
open Go.RowKit

@[reducible] def Mg.cells (m : Mg) : Array Value := #[.int .i64 m.kind, .int .i64 m.who, .int .i64 m.gen, .int .i64 m.seq, .int .i64 m.epoch, .int .i64 m.value, .int .i64 m.metric]
@[reducible] def mg (m : Mg) : Value := .agg m.cells

def within (n lo hi : Int) : Bool := decide (lo ≤ n) && decide (n ≤ hi)
theorem within_any (n lo hi : Int) (w : World) :
    Calls Try.prog 61 #[.int .i64 n, .int .i64 lo, .int .i64 hi] w fun e w' => e = .returned (.bool (within n lo hi)) ∧ w' = w := by
  unfold within
  by_cases h1 : lo ≤ n <;> by_cases h2 : n ≤ hi <;> (
  go_enter Try.func61, Try.ntmps61
  go_wp2_with fail
  go_ret
  simp [h1, h2])
theorem within64_any (n lo hi : Int) (w : World) :
    Calls Try.prog 62 #[.int .i64 n, .int .i64 lo, .int .i64 hi] w fun e w' => e = .returned (.bool (within n lo hi)) ∧ w' = w := by
  unfold within
  by_cases h1 : lo ≤ n <;> by_cases h2 : n ≤ hi <;> (
  go_enter Try.func62, Try.ntmps62
  go_wp2_with fail
  go_ret
  simp [h1, h2])
theorem in_any (n lo hi : Int) (w : World) :
    Calls Try.prog 64 #[.int .i64 n, .int .i64 lo, .int .i64 hi] w fun e w' => e = .returned (.bool (within n lo hi)) ∧ w' = w := by
  unfold within
  by_cases h1 : lo ≤ n <;> by_cases h2 : n ≤ hi <;> (
  go_enter Try.func64, Try.ntmps64
  go_wp2_with fail
  go_ret
  simp [h1, h2])

/-- the function's own block: the message that came in; all else as it was, or new -/
structure BoxM (w : World) (m : Mg) (w' : World) : Prop where
  box : w'.heap[w.heap.size]? = some (.cells m.cells 46)
  g : w.grownBy w' none
theorem BoxM.grown {w : World} {m : Mg} {w1 w2 : World} (h : BoxM w m w1) (hg : w1.grownBy w2 none) : BoxM w m w2 := ⟨at_grown h.box hg (by simp), gb_trans h.g hg (.inl rfl)⟩
theorem BoxM.drew {w : World} {m : Mg} {w1 : World} (h : BoxM w m w1) : BoxM w m w1.drew := ⟨h.box, gb_drew h.g⟩
theorem boxm_new (w : World) (m : Mg) : BoxM w m (w.alloc (.cells m.cells 46)) := ⟨at_new w _, gb_alloc (.refl w none) _⟩
theorem msg_cells {w : World} {b : Nat} {m : Mg} {t : TypeId} {fr : Nat × Nat} (h : w.heap[b]? = some (.cells m.cells t fr)) :
    w.cell? ⟨b, 0, none⟩ = some (.int .i64 m.kind) ∧ w.cell? ⟨b, 1, none⟩ = some (.int .i64 m.who) ∧ w.cell? ⟨b, 2, none⟩ = some (.int .i64 m.gen) ∧ w.cell? ⟨b, 3, none⟩ = some (.int .i64 m.seq) ∧ w.cell? ⟨b, 4, none⟩ = some (.int .i64 m.epoch) ∧ w.cell? ⟨b, 5, none⟩ = some (.int .i64 m.value) ∧ w.cell? ⟨b, 6, none⟩ = some (.int .i64 m.metric) :=
  ⟨at_cell h 0, at_cell h 1, at_cell h 2, at_cell h 3, at_cell h 4, at_cell h 5, at_cell h 6⟩

def measB (m : Mg) : Bool := if m.kind = 1 then within m.metric 0 3 && within m.value 0 1099511627776 else decide (m.metric = 0) && decide (m.value = 0)
set_option maxHeartbeats 1600000 in
theorem measures_any (m : Mg) (w : World) :
    Calls Try.prog 63 #[mg m] w fun e w' => e = .returned (.bool (measB m)) ∧ w.grownBy w' none := by
  unfold measB
  by_cases hk : m.kind = 1
  · have HK := hid hk
    obtain ⟨x, hx⟩ : ∃ x, within m.metric 0 3 = x := ⟨_, rfl⟩
    obtain ⟨y, hy⟩ : ∃ y, within m.value 0 1099511627776 = y := ⟨_, rfl⟩
    have h1 := fun w => within_any m.metric 0 3 w
    have h2 := fun w => within64_any m.value 0 1099511627776 w
    rw [hx] at h1; rw [hy] at h2
    rw [if_pos hk, hx, hy]
    clear hx hy
    have C1 := hid h1; have C2 := hid h2; clear h1 h2
    cases x <;> (
    go_enter Try.func63, Try.ntmps63
    go_wp2_with (first | (go_at_call 61; (with_reducible refine (C1.out _).mono ?_); rintro e w1 ⟨rfl, rfl⟩) | (go_at_call 62; (with_reducible refine (C2.out _).mono ?_); rintro e w2 ⟨rfl, rfl⟩))
    go_ret
    exact ⟨rfl, gb_alloc (.refl w none) _⟩)
  · rw [if_neg hk]
    by_cases h1 : m.metric = 0 <;> by_cases h2 : m.value = 0 <;> (
    go_enter Try.func63, Try.ntmps63
    go_wp2_with fail
    go_ret
    refine ⟨by simp [h1, h2], gb_alloc (.refl w none) _⟩)
theorem may_bool (m : Mg) : mayOf m = (within m.kind 1 3 && within m.who 0 15 && within m.gen 0 60000 && within m.seq 1 1099511627776 && within m.epoch 0 1099511627776 && measB m) := by
  rw [Bool.eq_iff_iff]
  unfold mayOf May measB within
  by_cases h : m.kind = 1 <;> simp [h, and_assoc]
end Go.Proofs.Ytngfnigfkabihaa
end
section
set_option linter.unusedSimpArgs false
set_option linter.unusedVariables false
namespace Go.Proofs.Ytngfnigfkabihaa
set_option maxRecDepth 100000
open Go.RowKit

theorem within_not_low {n lo hi : Int} (h : n < lo) : within n lo hi = false := by unfold within; simp; omega
theorem within_not_high {n lo hi : Int} (h : hi < n) : within n lo hi = false := by unfold within; simp; omega
theorem within_yes {n lo hi : Int} (h0 : lo ≤ n) (h1 : n ≤ hi) : within n lo hi = true := by unfold within; simp; omega
theorem and5 {a b c d e f : Bool} (h : a = false ∨ b = false ∨ c = false ∨ d = false ∨ e = false) : (a && b && c && d && e && f) = false := by
  rcases h with rfl | rfl | rfl | rfl | rfl <;> simp
theorem and6 {a b c d e f r : Bool} (ha : a = true) (hb : b = true) (hc : c = true) (hd : d = true) (he : e = true) (hf : f = r) : (a && b && c && d && e && f) = r := by
  subst ha; subst hb; subst hc; subst hd; subst he; simp [hf]
theorem ret_bool {a b : Bool} (h : b = a) : Ending.returned (.bool a) = Ending.returned (.bool b) := by rw [h]
theorem meas_one {m : Mg} (hk : m.kind = 1) {r : Bool} (h : (within m.metric 0 3 && within m.value 0 1099511627776) = r) : measB m = r := by unfold measB; rw [if_pos hk]; exact h
theorem meas_not {m : Mg} (hk : ¬ m.kind = 1) {r : Bool} (h : (decide (m.metric = 0) && decide (m.value = 0)) = r) : measB m = r := by unfold measB; rw [if_neg hk]; exact h
set_option maxHeartbeats 6400000 in
theorem maymsg_any (m : Mg) (w : World) :
    Calls Try.prog 43 #[mg m] w fun e w' => e = .returned (.bool (mayOf m)) ∧ w.grownBy w' none := by
  obtain ⟨r, hr⟩ : ∃ r, mayOf m = r := ⟨_, rfl⟩
  rw [hr]
  rw [may_bool] at hr
  have HR := hid hr; clear hr
  have c1 := fun w => in_any m.kind 1 3 w
  obtain ⟨x1, h1⟩ : ∃ x, within m.kind 1 3 = x := ⟨_, rfl⟩
  rw [h1] at c1
  have C1 := hid c1; have E1 := hid h1; clear c1 h1
  have c2 := fun w => in_any m.who 0 15 w
  obtain ⟨x2, h2⟩ : ∃ x, within m.who 0 15 = x := ⟨_, rfl⟩
  rw [h2] at c2
  have C2 := hid c2; have E2 := hid h2; clear c2 h2
  have c3 := fun w => in_any m.gen 0 60000 w
  obtain ⟨x3, h3⟩ : ∃ x, within m.gen 0 60000 = x := ⟨_, rfl⟩
  rw [h3] at c3
  have C3 := hid c3; have E3 := hid h3; clear c3 h3
  have c4 := fun w => in_any m.metric 0 3 w
  obtain ⟨x4, h4⟩ : ∃ x, within m.metric 0 3 = x := ⟨_, rfl⟩
  rw [h4] at c4
  have C4 := hid c4; have E4 := hid h4; clear c4 h4
  cases x1
  · go_enter Try.func43, Try.ntmps43
    go_wp2_with (go_at_call 64; (with_reducible first | refine (C1.out _).mono ?_ | refine (C5.out _).mono ?_ | refine (C2.out _).mono ?_ | refine (C3.out _).mono ?_ | refine (C4.out _).mono ?_); rintro e w1 ⟨rfl, rfl⟩)
    go_ret
    exact ⟨ret_bool (HR.out.symm.trans (and5 (.inl E1.out))), gb_alloc (.refl w none) _⟩
  cases x2
  · go_enter Try.func43, Try.ntmps43
    go_wp2_with (go_at_call 64; (with_reducible first | refine (C1.out _).mono ?_ | refine (C5.out _).mono ?_ | refine (C2.out _).mono ?_ | refine (C3.out _).mono ?_ | refine (C4.out _).mono ?_); rintro e w1 ⟨rfl, rfl⟩)
    go_ret
    exact ⟨ret_bool (HR.out.symm.trans (and5 (.inr (.inl E2.out)))), gb_alloc (.refl w none) _⟩
  cases x3
  · go_enter Try.func43, Try.ntmps43
    go_wp2_with (go_at_call 64; (with_reducible first | refine (C1.out _).mono ?_ | refine (C5.out _).mono ?_ | refine (C2.out _).mono ?_ | refine (C3.out _).mono ?_ | refine (C4.out _).mono ?_); rintro e w1 ⟨rfl, rfl⟩)
    go_ret
    exact ⟨ret_bool (HR.out.symm.trans (and5 (.inr (.inr (.inl E3.out))))), gb_alloc (.refl w none) _⟩
  by_cases l0 : m.seq < 1
  · have b0 := within_not_low (hi := 1099511627776) l0
    have B0 := hid b0; clear b0
    go_enter Try.func43, Try.ntmps43
    go_wp2_with (go_at_call 64; (with_reducible first | refine (C1.out _).mono ?_ | refine (C5.out _).mono ?_ | refine (C2.out _).mono ?_ | refine (C3.out _).mono ?_ | refine (C4.out _).mono ?_); rintro e w1 ⟨rfl, rfl⟩)
    go_ret
    exact ⟨ret_bool (HR.out.symm.trans (and5 (.inr (.inr (.inr (.inl (B0.out))))))), gb_alloc (.refl w none) _⟩
  by_cases u0 : 1099511627776 < m.seq
  · have b0 := within_not_high (lo := 1) u0
    have B0 := hid b0; clear b0
    go_enter Try.func43, Try.ntmps43
    go_wp2_with (go_at_call 64; (with_reducible first | refine (C1.out _).mono ?_ | refine (C5.out _).mono ?_ | refine (C2.out _).mono ?_ | refine (C3.out _).mono ?_ | refine (C4.out _).mono ?_); rintro e w1 ⟨rfl, rfl⟩)
    go_ret
    exact ⟨ret_bool (HR.out.symm.trans (and5 (.inr (.inr (.inr (.inl (B0.out))))))), gb_alloc (.refl w none) _⟩
  have g0 := within_yes (lo := 1) (hi := 1099511627776) (Int.not_lt.1 l0) (Int.not_lt.1 u0)
  have GB0 := hid g0; clear g0
  by_cases l1 : m.epoch < 0
  · have b1 := within_not_low (hi := 1099511627776) l1
    have B1 := hid b1; clear b1
    go_enter Try.func43, Try.ntmps43
    go_wp2_with (go_at_call 64; (with_reducible first | refine (C1.out _).mono ?_ | refine (C5.out _).mono ?_ | refine (C2.out _).mono ?_ | refine (C3.out _).mono ?_ | refine (C4.out _).mono ?_); rintro e w1 ⟨rfl, rfl⟩)
    go_ret
    exact ⟨ret_bool (HR.out.symm.trans (and5 (.inr (.inr (.inr (.inr (B1.out))))))), gb_alloc (.refl w none) _⟩
  by_cases u1 : 1099511627776 < m.epoch
  · have b1 := within_not_high (lo := 0) u1
    have B1 := hid b1; clear b1
    go_enter Try.func43, Try.ntmps43
    go_wp2_with (go_at_call 64; (with_reducible first | refine (C1.out _).mono ?_ | refine (C5.out _).mono ?_ | refine (C2.out _).mono ?_ | refine (C3.out _).mono ?_ | refine (C4.out _).mono ?_); rintro e w1 ⟨rfl, rfl⟩)
    go_ret
    exact ⟨ret_bool (HR.out.symm.trans (and5 (.inr (.inr (.inr (.inr (B1.out))))))), gb_alloc (.refl w none) _⟩
  have g1 := within_yes (lo := 0) (hi := 1099511627776) (Int.not_lt.1 l1) (Int.not_lt.1 u1)
  have GB1 := hid g1; clear g1
  by_cases hk : m.kind = 1
  · have HK := hid hk
    have c5 := C1.out
    rw [hk] at c5
    have C5 := hid c5; clear c5
    cases x4
    · have HZ := hid (meas_one (r := false) HK.out (by rw [E4.out]; rfl))
      go_enter Try.func43, Try.ntmps43
      go_wp2_with (go_at_call 64; (with_reducible first | refine (C1.out _).mono ?_ | refine (C5.out _).mono ?_ | refine (C2.out _).mono ?_ | refine (C3.out _).mono ?_ | refine (C4.out _).mono ?_); rintro e w1 ⟨rfl, rfl⟩)
      go_ret
      exact ⟨ret_bool (HR.out.symm.trans (and6 E1.out E2.out E3.out GB0.out GB1.out HZ.out)), gb_alloc (.refl w none) _⟩
    by_cases l2 : m.value < 0
    · have HZ := hid (meas_one (r := false) HK.out (by rw [within_not_low l2]; simp))
      go_enter Try.func43, Try.ntmps43
      go_wp2_with (go_at_call 64; (with_reducible first | refine (C1.out _).mono ?_ | refine (C5.out _).mono ?_ | refine (C2.out _).mono ?_ | refine (C3.out _).mono ?_ | refine (C4.out _).mono ?_); rintro e w1 ⟨rfl, rfl⟩)
      go_ret
      exact ⟨ret_bool (HR.out.symm.trans (and6 E1.out E2.out E3.out GB0.out GB1.out HZ.out)), gb_alloc (.refl w none) _⟩
    by_cases u2 : 1099511627776 < m.value
    · have HZ := hid (meas_one (r := decide (m.value ≤ 1099511627776)) HK.out (by rw [within_not_high u2]; simp; omega))
      go_enter Try.func43, Try.ntmps43
      go_wp2_with (go_at_call 64; (with_reducible first | refine (C1.out _).mono ?_ | refine (C5.out _).mono ?_ | refine (C2.out _).mono ?_ | refine (C3.out _).mono ?_ | refine (C4.out _).mono ?_); rintro e w1 ⟨rfl, rfl⟩)
      go_ret
      exact ⟨ret_bool (HR.out.symm.trans (and6 E1.out E2.out E3.out GB0.out GB1.out HZ.out)), gb_alloc (.refl w none) _⟩
    have HZ := hid (meas_one (r := true) HK.out (by rw [E4.out, within_yes (Int.not_lt.1 l2) (Int.not_lt.1 u2)]; rfl))
    go_enter Try.func43, Try.ntmps43
    go_wp2_with (go_at_call 64; (with_reducible first | refine (C1.out _).mono ?_ | refine (C5.out _).mono ?_ | refine (C2.out _).mono ?_ | refine (C3.out _).mono ?_ | refine (C4.out _).mono ?_); rintro e w1 ⟨rfl, rfl⟩)
    go_ret
    exact ⟨ret_bool (HR.out.symm.trans (and6 E1.out E2.out E3.out GB0.out GB1.out HZ.out)), gb_alloc (.refl w none) _⟩
  · by_cases h1 : m.metric = 0
    · by_cases h2 : m.value = 0
      · have HZ := hid (meas_not (r := true) hk (by simp [h1, h2]))
        go_enter Try.func43, Try.ntmps43
        go_wp2_with (go_at_call 64; (with_reducible first | refine (C1.out _).mono ?_ | refine (C5.out _).mono ?_ | refine (C2.out _).mono ?_ | refine (C3.out _).mono ?_ | refine (C4.out _).mono ?_); rintro e w1 ⟨rfl, rfl⟩)
        go_ret
        exact ⟨ret_bool (HR.out.symm.trans (and6 E1.out E2.out E3.out GB0.out GB1.out HZ.out)), gb_alloc (.refl w none) _⟩
      · have HZ := hid (meas_not (r := (m.value == 0)) hk (by simp [h1, h2]))
        go_enter Try.func43, Try.ntmps43
        go_wp2_with (go_at_call 64; (with_reducible first | refine (C1.out _).mono ?_ | refine (C5.out _).mono ?_ | refine (C2.out _).mono ?_ | refine (C3.out _).mono ?_ | refine (C4.out _).mono ?_); rintro e w1 ⟨rfl, rfl⟩)
        go_ret
        exact ⟨ret_bool (HR.out.symm.trans (and6 E1.out E2.out E3.out GB0.out GB1.out HZ.out)), gb_alloc (.refl w none) _⟩
    · have HZ := hid (meas_not (r := false) hk (by simp [h1]))
      go_enter Try.func43, Try.ntmps43
      go_wp2_with (go_at_call 64; (with_reducible first | refine (C1.out _).mono ?_ | refine (C5.out _).mono ?_ | refine (C2.out _).mono ?_ | refine (C3.out _).mono ?_ | refine (C4.out _).mono ?_); rintro e w1 ⟨rfl, rfl⟩)
      go_ret
      exact ⟨ret_bool (HR.out.symm.trans (and6 E1.out E2.out E3.out GB0.out GB1.out HZ.out)), gb_alloc (.refl w none) _⟩
end Go.Proofs.Ytngfnigfkabihaa
end
section
namespace Go.Proofs.Ytngfnigfkabihaa
set_option maxRecDepth 100000
open Go.RowKit
theorem held_stronger {P : Program} {md : Region.Mode} {ops : Array Oper} {Q : Exit → Act → World → Prop} {S S' : World → Prop} (hS : ∀ w, S' w → S w) :
    ∀ (fuel : Nat) (listed : Array Bool) (a : Act) (w : World), wpAnyH P md ops Q S' fuel listed a w → wpAnyH P md ops Q S fuel listed a w
  | 0, _, _, _, h => h
  | fuel + 1, _, _, _, h => ⟨h.1, fun i hi => wpOp_mono (fun a' w' h' => ⟨hS _ h'.1, held_stronger hS fuel _ a' w' h'.2⟩) (h.2 i hi)⟩
end Go.Proofs.Ytngfnigfkabihaa
end
section
set_option linter.unusedSimpArgs false
set_option linter.unusedVariables false
namespace Go.Proofs.Ytngfnigfkabihaa
set_option maxRecDepth 100000
open Go.RowKit

set_option maxHeartbeats 1600000 in
theorem rput_bad (m : Mg) (hm : mayOf m = false) (w : World) :
    Calls Try.prog 36 #[mg m] w fun e w' => e = .returned (.tuple #[.string ⟨#[]⟩, .int .i64 1]) ∧ w.grownBy w' none := by
  have hc := maymsg_any m
  rw [hm] at hc
  have C := hid hc; clear hc hm
  have B := hid (boxm_new w m)
  go_enter Try.func36, Try.ntmps36
  go_wp2_with (refine wpList_row B.out.box Try.underlying46 rfl (by kernel_rfl) rfl rfl rfl rfl ?_)
  refine (C.out _).mono ?_
  rintro e w1 ⟨rfl, hg⟩
  have G := hid hg; clear hg
  go_wp2_with fail
  go_ret2
  exact ⟨rfl, gb_trans (gb_alloc (.refl w none) _) G.out (.inl rfl)⟩

set_option maxHeartbeats 3200000 in
theorem rput_good (m : Mg) (hm : mayOf m = true) (w : World) :
    Calls Try.prog 36 #[mg m] w fun e w' => e = .returned (.tuple #[.string ⟨(refPutOf m).toArray⟩, .int .i64 0]) ∧ w.grownBy w' none := by
  have hc := maymsg_any m
  rw [hm] at hc
  have C := hid hc; clear hc hm
  have B0 := hid (boxm_new w m)
  have he : (⟨[1, u8of m.kind, u8of m.who, u8of m.metric].toArray⟩ : ByteArray) ++ (⟨(put8 (w64 m.gen)).toArray⟩ : ByteArray).extract 0 4 ++ ⟨(put8 (w64 m.seq)).toArray⟩ ++ ⟨(put8 (w64 m.epoch)).toArray⟩ ++ ⟨(put8 (w64 m.value)).toArray⟩ = ⟨(refPutOf m).toArray⟩ := by
    apply ByteArray.ext; simp [refPutOf, put8]
  have p1 := fun w => refput_any (w64 m.gen) w
  have p2 := fun w => refput_any (w64 m.seq) w
  have p3 := fun w => refput_any (w64 m.epoch) w
  have p4 := fun w => refput_any (w64 m.value) w
  have z1 : (⟨(put8 (w64 m.gen)).toArray⟩ : ByteArray).size = 8 := rfl
  have z2 : (⟨(put8 (w64 m.seq)).toArray⟩ : ByteArray).size = 8 := rfl
  have z3 : (⟨(put8 (w64 m.epoch)).toArray⟩ : ByteArray).size = 8 := rfl
  have z4 : (⟨(put8 (w64 m.value)).toArray⟩ : ByteArray).size = 8 := rfl
  generalize (⟨(put8 (w64 m.gen)).toArray⟩ : ByteArray) = s1 at he p1 z1
  generalize (⟨(put8 (w64 m.seq)).toArray⟩ : ByteArray) = s2 at he p2 z2
  generalize (⟨(put8 (w64 m.epoch)).toArray⟩ : ByteArray) = s3 at he p3 z3
  generalize (⟨(put8 (w64 m.value)).toArray⟩ : ByteArray) = s4 at he p4 z4
  generalize (⟨(refPutOf m).toArray⟩ : ByteArray) = s5 at he ⊢
  subst he
  have P1 := hid p1; have P2 := hid p2; have P3 := hid p3; have P4 := hid p4; clear p1 p2 p3 p4
  go_enter Try.func36, Try.ntmps36
  go_wp2_with (refine wpList_row B0.out.box Try.underlying46 rfl (by kernel_rfl) rfl rfl rfl rfl ?_)
  refine (C.out _).mono ?_
  rintro e w1 ⟨rfl, hg⟩
  have B := hid (B0.out.grown hg); clear hg B0 C
  have hk := u8of_wrap m.kind; have hw := u8of_wrap m.who; have hmt := u8of_wrap m.metric
  have hgn : IntKind.u64.wrap m.gen = q (w64 m.gen) := q_lit m.gen
  have hs : IntKind.u64.wrap m.seq = q (w64 m.seq) := q_lit m.seq
  have he : IntKind.u64.wrap m.epoch = q (w64 m.epoch) := q_lit m.epoch
  have hv : IntKind.u64.wrap m.value = q (w64 m.value) := q_lit m.value
  go_wp2_with fail
  refine wp_region_held_drew (S := (fun w' => (BoxM w m w'))) (by kernel_rfl) B.out.drew (fun hHeld => ?_)
  try dsimp only at hHeld
  refine' wpAnyH_take (i := 0) (v := _) rfl (by kernel_rfl) (by kernel_rfl) (by kernel_rfl) (fun _ _ _ h => h) (Or.inl ⟨by rfl, ?_⟩) hHeld ?_
  rotate_left
  · (intro w hSw; (try dsimp only at hSw); go_simp; try with_reducible rfl)
  try simp only [Act.put, List.setIfInBounds_toArray, List.set_cons_zero, List.set_cons_succ, List.getElem_toArray, List.getElem_cons_succ, List.getElem_cons_zero]
  refine' wpAnyH_take (i := 1) (v := _) rfl (by kernel_rfl) (by kernel_rfl) (by kernel_rfl) (fun _ _ _ h => h) (Or.inl ⟨by rfl, ?_⟩) hHeld ?_
  rotate_left
  · (intro w hSw; (try dsimp only at hSw); have bx := hSw; obtain ⟨d0, d1, d2, d3, d4, d5, d6⟩ := msg_cells bx.box; go_simp; try with_reducible rfl)
  try simp only [Act.put, List.setIfInBounds_toArray, List.set_cons_zero, List.set_cons_succ, List.getElem_toArray, List.getElem_cons_succ, List.getElem_cons_zero]
  refine' wpAnyH_take (i := 2) (v := _) rfl (by kernel_rfl) (by kernel_rfl) (by kernel_rfl) (fun _ _ _ h => h) (Or.inl ⟨by rfl, ?_⟩) hHeld ?_
  rotate_left
  · (intro w hSw; (try dsimp only at hSw); go_simp; try with_reducible rfl)
  try simp only [Act.put, List.setIfInBounds_toArray, List.set_cons_zero, List.set_cons_succ, List.getElem_toArray, List.getElem_cons_succ, List.getElem_cons_zero]
  refine' wpAnyH_take (i := 3) (v := _) rfl (by kernel_rfl) (by kernel_rfl) (by kernel_rfl) (fun _ _ _ h => h) (Or.inl ⟨by rfl, ?_⟩) hHeld ?_
  rotate_left
  · (intro w hSw; (try dsimp only at hSw); go_simp; try with_reducible rfl)
  try simp only [Act.put, List.setIfInBounds_toArray, List.set_cons_zero, List.set_cons_succ, List.getElem_toArray, List.getElem_cons_succ, List.getElem_cons_zero]
  refine' wpAnyH_take (i := 4) (v := _) rfl (by kernel_rfl) (by kernel_rfl) (by kernel_rfl) (fun _ _ _ h => h) (Or.inl ⟨by rfl, ?_⟩) hHeld ?_
  rotate_left
  · (intro w hSw; (try dsimp only at hSw); have bx := hSw; obtain ⟨d0, d1, d2, d3, d4, d5, d6⟩ := msg_cells bx.box; go_simp; try with_reducible rfl)
  try simp only [Act.put, List.setIfInBounds_toArray, List.set_cons_zero, List.set_cons_succ, List.getElem_toArray, List.getElem_cons_succ, List.getElem_cons_zero]
  refine' wpAnyH_take (i := 5) (v := _) rfl (by kernel_rfl) (by kernel_rfl) (by kernel_rfl) (fun _ _ _ h => h) (Or.inl ⟨by rfl, ?_⟩) hHeld ?_
  rotate_left
  · (intro w hSw; (try dsimp only at hSw); go_simp; try with_reducible rfl)
  try simp only [Act.put, List.setIfInBounds_toArray, List.set_cons_zero, List.set_cons_succ, List.getElem_toArray, List.getElem_cons_succ, List.getElem_cons_zero]
  refine' wpAnyH_take (i := 6) (v := _) rfl (by kernel_rfl) (by kernel_rfl) (by kernel_rfl) (fun _ _ _ h => h) (Or.inl ⟨by rfl, ?_⟩) hHeld ?_
  rotate_left
  · (intro w hSw; (try dsimp only at hSw); go_simp; try with_reducible rfl)
  try simp only [Act.put, List.setIfInBounds_toArray, List.set_cons_zero, List.set_cons_succ, List.getElem_toArray, List.getElem_cons_succ, List.getElem_cons_zero]
  refine' wpAnyH_take (i := 7) (v := _) rfl (by kernel_rfl) (by kernel_rfl) (by kernel_rfl) (fun _ _ _ h => h) (Or.inl ⟨by rfl, ?_⟩) hHeld ?_
  rotate_left
  · (intro w hSw; (try dsimp only at hSw); have bx := hSw; obtain ⟨d0, d1, d2, d3, d4, d5, d6⟩ := msg_cells bx.box; go_simp; try with_reducible rfl)
  try simp only [Act.put, List.setIfInBounds_toArray, List.set_cons_zero, List.set_cons_succ, List.getElem_toArray, List.getElem_cons_succ, List.getElem_cons_zero]
  refine' wpAnyH_take (i := 8) (v := _) rfl (by kernel_rfl) (by kernel_rfl) (by kernel_rfl) (fun _ _ _ h => h) (Or.inl ⟨by rfl, ?_⟩) hHeld ?_
  rotate_left
  · (intro w hSw; (try dsimp only at hSw); go_simp; try with_reducible rfl)
  try simp only [Act.put, List.setIfInBounds_toArray, List.set_cons_zero, List.set_cons_succ, List.getElem_toArray, List.getElem_cons_succ, List.getElem_cons_zero]
  refine' wpAnyH_take (i := 11) (v := _) rfl (by kernel_rfl) (by kernel_rfl) (by kernel_rfl) (fun _ _ _ h => h) (Or.inl ⟨by rfl, ?_⟩) hHeld ?_
  rotate_left
  · (intro w hSw; (try dsimp only at hSw); go_simp; try with_reducible rfl)
  try simp only [Act.put, List.setIfInBounds_toArray, List.set_cons_zero, List.set_cons_succ, List.getElem_toArray, List.getElem_cons_succ, List.getElem_cons_zero]
  refine' wpAnyH_take (i := 12) (v := _) rfl (by kernel_rfl) (by kernel_rfl) (by kernel_rfl) (fun _ _ _ h => h) (Or.inl ⟨by rfl, ?_⟩) hHeld ?_
  rotate_left
  · (intro w hSw; (try dsimp only at hSw); have bx := hSw; obtain ⟨d0, d1, d2, d3, d4, d5, d6⟩ := msg_cells bx.box; go_simp; try with_reducible rfl)
  try simp only [Act.put, List.setIfInBounds_toArray, List.set_cons_zero, List.set_cons_succ, List.getElem_toArray, List.getElem_cons_succ, List.getElem_cons_zero]
  refine' wpAnyH_take (i := 13) (v := _) rfl (by kernel_rfl) (by kernel_rfl) (by kernel_rfl) (fun _ _ _ h => h) (Or.inl ⟨by rfl, ?_⟩) hHeld ?_
  rotate_left
  · (intro w hSw; (try dsimp only at hSw); go_simp; try with_reducible rfl)
  try simp only [Act.put, List.setIfInBounds_toArray, List.set_cons_zero, List.set_cons_succ, List.getElem_toArray, List.getElem_cons_succ, List.getElem_cons_zero]
  refine' wpAnyH_take (i := 17) (v := _) rfl (by kernel_rfl) (by kernel_rfl) (by kernel_rfl) (fun _ _ _ h => h) (Or.inl ⟨by rfl, ?_⟩) hHeld ?_
  rotate_left
  · (intro w hSw; (try dsimp only at hSw); go_simp; try with_reducible rfl)
  try simp only [Act.put, List.setIfInBounds_toArray, List.set_cons_zero, List.set_cons_succ, List.getElem_toArray, List.getElem_cons_succ, List.getElem_cons_zero]
  refine' wpAnyH_take (i := 18) (v := _) rfl (by kernel_rfl) (by kernel_rfl) (by kernel_rfl) (fun _ _ _ h => h) (Or.inl ⟨by rfl, ?_⟩) hHeld ?_
  rotate_left
  · (intro w hSw; (try dsimp only at hSw); have bx := hSw; obtain ⟨d0, d1, d2, d3, d4, d5, d6⟩ := msg_cells bx.box; go_simp; try with_reducible rfl)
  try simp only [Act.put, List.setIfInBounds_toArray, List.set_cons_zero, List.set_cons_succ, List.getElem_toArray, List.getElem_cons_succ, List.getElem_cons_zero]
  refine' wpAnyH_take (i := 19) (v := _) rfl (by kernel_rfl) (by kernel_rfl) (by kernel_rfl) (fun _ _ _ h => h) (Or.inl ⟨by rfl, ?_⟩) hHeld ?_
  rotate_left
  · (intro w hSw; (try dsimp only at hSw); go_simp; try with_reducible rfl)
  try simp only [Act.put, List.setIfInBounds_toArray, List.set_cons_zero, List.set_cons_succ, List.getElem_toArray, List.getElem_cons_succ, List.getElem_cons_zero]
  refine' wpAnyH_take (i := 22) (v := _) rfl (by kernel_rfl) (by kernel_rfl) (by kernel_rfl) (fun _ _ _ h => h) (Or.inl ⟨by rfl, ?_⟩) hHeld ?_
  rotate_left
  · (intro w hSw; (try dsimp only at hSw); go_simp; try with_reducible rfl)
  try simp only [Act.put, List.setIfInBounds_toArray, List.set_cons_zero, List.set_cons_succ, List.getElem_toArray, List.getElem_cons_succ, List.getElem_cons_zero]
  refine' wpAnyH_take (i := 23) (v := _) rfl (by kernel_rfl) (by kernel_rfl) (by kernel_rfl) (fun _ _ _ h => h) (Or.inl ⟨by rfl, ?_⟩) hHeld ?_
  rotate_left
  · (intro w hSw; (try dsimp only at hSw); have bx := hSw; obtain ⟨d0, d1, d2, d3, d4, d5, d6⟩ := msg_cells bx.box; go_simp; try with_reducible rfl)
  try simp only [Act.put, List.setIfInBounds_toArray, List.set_cons_zero, List.set_cons_succ, List.getElem_toArray, List.getElem_cons_succ, List.getElem_cons_zero]
  refine' wpAnyH_take (i := 24) (v := _) rfl (by kernel_rfl) (by kernel_rfl) (by kernel_rfl) (fun _ _ _ h => h) (Or.inl ⟨by rfl, ?_⟩) hHeld ?_
  rotate_left
  · (intro w hSw; (try dsimp only at hSw); go_simp; try with_reducible rfl)
  try simp only [Act.put, List.setIfInBounds_toArray, List.set_cons_zero, List.set_cons_succ, List.getElem_toArray, List.getElem_cons_succ, List.getElem_cons_zero]
  refine' wpAnyH_take (i := 27) (v := _) rfl (by kernel_rfl) (by kernel_rfl) (by kernel_rfl) (fun _ _ _ h => h) (Or.inl ⟨by rfl, ?_⟩) hHeld ?_
  rotate_left
  · (intro w hSw; (try dsimp only at hSw); go_simp; try with_reducible rfl)
  try simp only [Act.put, List.setIfInBounds_toArray, List.set_cons_zero, List.set_cons_succ, List.getElem_toArray, List.getElem_cons_succ, List.getElem_cons_zero]
  refine' wpAnyH_take (i := 28) (v := _) rfl (by kernel_rfl) (by kernel_rfl) (by kernel_rfl) (fun _ _ _ h => h) (Or.inl ⟨by rfl, ?_⟩) hHeld ?_
  rotate_left
  · (intro w hSw; (try dsimp only at hSw); have bx := hSw; obtain ⟨d0, d1, d2, d3, d4, d5, d6⟩ := msg_cells bx.box; go_simp; try with_reducible rfl)
  try simp only [Act.put, List.setIfInBounds_toArray, List.set_cons_zero, List.set_cons_succ, List.getElem_toArray, List.getElem_cons_succ, List.getElem_cons_zero]
  refine' wpAnyH_take (i := 29) (v := _) rfl (by kernel_rfl) (by kernel_rfl) (by kernel_rfl) (fun _ _ _ h => h) (Or.inl ⟨by rfl, ?_⟩) hHeld ?_
  rotate_left
  · (intro w hSw; (try dsimp only at hSw); go_simp; try with_reducible rfl)
  try simp only [Act.put, List.setIfInBounds_toArray, List.set_cons_zero, List.set_cons_succ, List.getElem_toArray, List.getElem_cons_succ, List.getElem_cons_zero]
  refine wpAnyH_ready (rs := [9, 14]) (by kernel_rfl) (by simp) ?_
  refine AllReadyH.cons (o := _) rfl (fun K hK => ?_) (AllReadyH.cons (o := _) rfl (fun K hK => ?_) AllReadyH.nil)
  · have hH2 := hHeld
    have bx := hH2
    have hg : w1.drew.grownBy (w1.drew.alloc (.cells #[.int .u8 1, .int .u8 ((u8of m.kind).toNat : Int), .int .u8 ((u8of m.who).toNat : Int), .int .u8 ((u8of m.metric).toNat : Int)] 5)) none := World.grownBy_alloc _ _ _
    have L9 := hid (show (BoxM w m (w1.drew.alloc (.cells #[.int .u8 1, .int .u8 ((u8of m.kind).toNat : Int), .int .u8 ((u8of m.who).toNat : Int), .int .u8 ((u8of m.metric).toNat : Int)] 5))) from bx.grown hg)
    have Nfb := hid (own_block [1, u8of m.kind, u8of m.who, u8of m.metric] (at_new w1.drew _) (by unfold maxLen; simp) (Nat.le_refl _)).bytes
    clear hHeld hg bx
    try simp only [List.getElem_toArray, List.getElem_cons_succ, List.getElem_cons_zero]
    go_simp
    refine hK.out _ _ ?_ (fun hHeld => ?_)
    · exact L9.out
    clear hK K
    try dsimp only at hHeld
    try simp only [Act.put, List.setIfInBounds_toArray, List.set_cons_zero, List.set_cons_succ, List.getElem_toArray, List.getElem_cons_succ, List.getElem_cons_zero]
    refine held_stronger (S' := fun w' => (fun w' => BytesAt w' (.slice (some ⟨w1.heap.size, 0, none⟩) 4 4) [1, u8of m.kind, u8of m.who, u8of m.metric]) w' ∧ ((fun w' => (BoxM w m w'))) w') (fun _ h => h.2) _ _ _ _ ?_
    replace hHeld := And.intro Nfb.out hHeld
    try dsimp only at hHeld
    refine' wpAnyH_take (i := 10) (v := _) rfl (by kernel_rfl) (by kernel_rfl) (by kernel_rfl) (fun _ _ _ h => h) (Or.inl ⟨by rfl, ?_⟩) hHeld ?_
    rotate_left
    · (intro w hSw; (try dsimp only at hSw); obtain ⟨fb, bx⟩ := hSw; have cv := conv_bytes fb; go_simp; try with_reducible rfl)
    try simp only [Act.put, List.setIfInBounds_toArray, List.set_cons_zero, List.set_cons_succ, List.getElem_toArray, List.getElem_cons_succ, List.getElem_cons_zero]
    refine wpAnyH_ready (rs := [14]) (by kernel_rfl) (by simp) ?_
    refine AllReadyH.cons (o := _) rfl (fun K hK => ?_) AllReadyH.nil
    try simp only [List.getElem_toArray, List.getElem_cons_succ, List.getElem_cons_zero]
    go_simp
    have hH2 := hHeld
    obtain ⟨fb, bx⟩ := hH2
    refine (P1.out _).mono ?_
    rintro e w1014 ⟨rfl, hg⟩
    have L14 := hid (show (BytesAt w1014 (.slice (some ⟨w1.heap.size, 0, none⟩) 4 4) [1, u8of m.kind, u8of m.who, u8of m.metric]) ∧ (BoxM w m w1014) from ⟨fb.grown hg (by simp), bx.grown hg⟩)
    clear hHeld hg fb bx
    go_wp2_with fail
    refine hK.out _ _ ?_ (fun hHeld => ?_)
    · exact L14.out
    clear hK K
    try dsimp only at hHeld
    try simp only [Act.put, List.setIfInBounds_toArray, List.set_cons_zero, List.set_cons_succ, List.getElem_toArray, List.getElem_cons_succ, List.getElem_cons_zero]
    refine' wpAnyH_take (i := 15) (v := _) rfl (by kernel_rfl) (by kernel_rfl) (by kernel_rfl) (fun _ _ _ h => h) (Or.inl ⟨by rfl, ?_⟩) hHeld ?_
    rotate_left
    · (intro w hSw; (try dsimp only at hSw); go_simp; try with_reducible rfl)
    try simp only [Act.put, List.setIfInBounds_toArray, List.set_cons_zero, List.set_cons_succ, List.getElem_toArray, List.getElem_cons_succ, List.getElem_cons_zero]
    refine' wpAnyH_take (i := 16) (v := _) rfl (by kernel_rfl) (by kernel_rfl) (by kernel_rfl) (fun _ _ _ h => h) (Or.inl ⟨by rfl, ?_⟩) hHeld ?_
    rotate_left
    · (intro w hSw; (try dsimp only at hSw); go_simp; try with_reducible rfl)
    try simp only [Act.put, List.setIfInBounds_toArray, List.set_cons_zero, List.set_cons_succ, List.getElem_toArray, List.getElem_cons_succ, List.getElem_cons_zero]
    refine wpAnyH_ready (rs := [20]) (by kernel_rfl) (by simp) ?_
    refine AllReadyH.cons (o := _) rfl (fun K hK => ?_) AllReadyH.nil
    try simp only [List.getElem_toArray, List.getElem_cons_succ, List.getElem_cons_zero]
    go_simp
    have hH2 := hHeld
    obtain ⟨fb, bx⟩ := hH2
    refine (P2.out _).mono ?_
    rintro e w1020 ⟨rfl, hg⟩
    have L20 := hid (show (BytesAt w1020 (.slice (some ⟨w1.heap.size, 0, none⟩) 4 4) [1, u8of m.kind, u8of m.who, u8of m.metric]) ∧ (BoxM w m w1020) from ⟨fb.grown hg (by simp), bx.grown hg⟩)
    clear hHeld hg fb bx
    go_wp2_with fail
    refine hK.out _ _ ?_ (fun hHeld => ?_)
    · exact L20.out
    clear hK K
    try dsimp only at hHeld
    try simp only [Act.put, List.setIfInBounds_toArray, List.set_cons_zero, List.set_cons_succ, List.getElem_toArray, List.getElem_cons_succ, List.getElem_cons_zero]
    refine' wpAnyH_take (i := 21) (v := _) rfl (by kernel_rfl) (by kernel_rfl) (by kernel_rfl) (fun _ _ _ h => h) (Or.inl ⟨by rfl, ?_⟩) hHeld ?_
    rotate_left
    · (intro w hSw; (try dsimp only at hSw); go_simp; try with_reducible rfl)
    try simp only [Act.put, List.setIfInBounds_toArray, List.set_cons_zero, List.set_cons_succ, List.getElem_toArray, List.getElem_cons_succ, List.getElem_cons_zero]
    refine wpAnyH_ready (rs := [25]) (by kernel_rfl) (by simp) ?_
    refine AllReadyH.cons (o := _) rfl (fun K hK => ?_) AllReadyH.nil
    try simp only [List.getElem_toArray, List.getElem_cons_succ, List.getElem_cons_zero]
    go_simp
    have hH2 := hHeld
    obtain ⟨fb, bx⟩ := hH2
    refine (P3.out _).mono ?_
    rintro e w1025 ⟨rfl, hg⟩
    have L25 := hid (show (BytesAt w1025 (.slice (some ⟨w1.heap.size, 0, none⟩) 4 4) [1, u8of m.kind, u8of m.who, u8of m.metric]) ∧ (BoxM w m w1025) from ⟨fb.grown hg (by simp), bx.grown hg⟩)
    clear hHeld hg fb bx
    go_wp2_with fail
    refine hK.out _ _ ?_ (fun hHeld => ?_)
    · exact L25.out
    clear hK K
    try dsimp only at hHeld
    try simp only [Act.put, List.setIfInBounds_toArray, List.set_cons_zero, List.set_cons_succ, List.getElem_toArray, List.getElem_cons_succ, List.getElem_cons_zero]
    refine' wpAnyH_take (i := 26) (v := _) rfl (by kernel_rfl) (by kernel_rfl) (by kernel_rfl) (fun _ _ _ h => h) (Or.inl ⟨by rfl, ?_⟩) hHeld ?_
    rotate_left
    · (intro w hSw; (try dsimp only at hSw); go_simp; try with_reducible rfl)
    try simp only [Act.put, List.setIfInBounds_toArray, List.set_cons_zero, List.set_cons_succ, List.getElem_toArray, List.getElem_cons_succ, List.getElem_cons_zero]
    refine wpAnyH_ready (rs := [30]) (by kernel_rfl) (by simp) ?_
    refine AllReadyH.cons (o := _) rfl (fun K hK => ?_) AllReadyH.nil
    try simp only [List.getElem_toArray, List.getElem_cons_succ, List.getElem_cons_zero]
    go_simp
    have hH2 := hHeld
    obtain ⟨fb, bx⟩ := hH2
    refine (P4.out _).mono ?_
    rintro e w1030 ⟨rfl, hg⟩
    have L30 := hid (show (BytesAt w1030 (.slice (some ⟨w1.heap.size, 0, none⟩) 4 4) [1, u8of m.kind, u8of m.who, u8of m.metric]) ∧ (BoxM w m w1030) from ⟨fb.grown hg (by simp), bx.grown hg⟩)
    clear hHeld hg fb bx
    go_wp2_with fail
    refine hK.out _ _ ?_ (fun hHeld => ?_)
    · exact L30.out
    clear hK K
    try dsimp only at hHeld
    try simp only [Act.put, List.setIfInBounds_toArray, List.set_cons_zero, List.set_cons_succ, List.getElem_toArray, List.getElem_cons_succ, List.getElem_cons_zero]
    refine' wpAnyH_take (i := 31) (v := _) rfl (by kernel_rfl) (by kernel_rfl) (by kernel_rfl) (fun _ _ _ h => h) (Or.inl ⟨by rfl, ?_⟩) hHeld ?_
    rotate_left
    · (intro w hSw; (try dsimp only at hSw); go_simp; try with_reducible rfl)
    try simp only [Act.put, List.setIfInBounds_toArray, List.set_cons_zero, List.set_cons_succ, List.getElem_toArray, List.getElem_cons_succ, List.getElem_cons_zero]
    refine' wpAnyH_take (i := 32) (v := _) rfl (by kernel_rfl) (by kernel_rfl) (by kernel_rfl) (fun _ _ _ h => h) (Or.inl ⟨by rfl, ?_⟩) hHeld ?_
    rotate_left
    · (intro w hSw; (try dsimp only at hSw); go_simp; try with_reducible rfl)
    try simp only [Act.put, List.setIfInBounds_toArray, List.set_cons_zero, List.set_cons_succ, List.getElem_toArray, List.getElem_cons_succ, List.getElem_cons_zero]
    refine' wpAnyH_take (i := 33) (v := _) rfl (by kernel_rfl) (by kernel_rfl) (by kernel_rfl) (fun _ _ _ h => h) (Or.inl ⟨by rfl, ?_⟩) hHeld ?_
    rotate_left
    · (intro w hSw; (try dsimp only at hSw); go_simp; try with_reducible rfl)
    try simp only [Act.put, List.setIfInBounds_toArray, List.set_cons_zero, List.set_cons_succ, List.getElem_toArray, List.getElem_cons_succ, List.getElem_cons_zero]
    refine wpAnyH_done (by kernel_rfl) ?_ _
    obtain ⟨fb, bx⟩ := hHeld
    have BX := hid bx; clear fb bx
    go_wp2_with fail
    go_ret2
    exact ⟨rfl, BX.out.g⟩
  · try simp only [List.getElem_toArray, List.getElem_cons_succ, List.getElem_cons_zero]
    go_simp
    have hH2 := hHeld
    have bx := hH2
    refine (P1.out _).mono ?_
    rintro e w1014 ⟨rfl, hg⟩
    have L14 := hid (show (BoxM w m w1014) from bx.grown hg)
    clear hHeld hg bx
    go_wp2_with fail
    refine hK.out _ _ ?_ (fun hHeld => ?_)
    · exact L14.out
    clear hK K
    try dsimp only at hHeld
    try simp only [Act.put, List.setIfInBounds_toArray, List.set_cons_zero, List.set_cons_succ, List.getElem_toArray, List.getElem_cons_succ, List.getElem_cons_zero]
    refine' wpAnyH_take (i := 15) (v := _) rfl (by kernel_rfl) (by kernel_rfl) (by kernel_rfl) (fun _ _ _ h => h) (Or.inl ⟨by rfl, ?_⟩) hHeld ?_
    rotate_left
    · (intro w hSw; (try dsimp only at hSw); go_simp; try with_reducible rfl)
    try simp only [Act.put, List.setIfInBounds_toArray, List.set_cons_zero, List.set_cons_succ, List.getElem_toArray, List.getElem_cons_succ, List.getElem_cons_zero]
    refine wpAnyH_ready (rs := [9, 20]) (by kernel_rfl) (by simp) ?_
    refine AllReadyH.cons (o := _) rfl (fun K hK => ?_) (AllReadyH.cons (o := _) rfl (fun K hK => ?_) AllReadyH.nil)
    · have hH2 := hHeld
      have bx := hH2
      have hg : w1014.grownBy (w1014.alloc (.cells #[.int .u8 1, .int .u8 ((u8of m.kind).toNat : Int), .int .u8 ((u8of m.who).toNat : Int), .int .u8 ((u8of m.metric).toNat : Int)] 5)) none := World.grownBy_alloc _ _ _
      have L9 := hid (show (BoxM w m (w1014.alloc (.cells #[.int .u8 1, .int .u8 ((u8of m.kind).toNat : Int), .int .u8 ((u8of m.who).toNat : Int), .int .u8 ((u8of m.metric).toNat : Int)] 5))) from bx.grown hg)
      have Nfb := hid (own_block [1, u8of m.kind, u8of m.who, u8of m.metric] (at_new w1014 _) (by unfold maxLen; simp) (Nat.le_refl _)).bytes
      clear hHeld hg bx
      try simp only [List.getElem_toArray, List.getElem_cons_succ, List.getElem_cons_zero]
      go_simp
      refine hK.out _ _ ?_ (fun hHeld => ?_)
      · exact L9.out
      clear hK K
      try dsimp only at hHeld
      try simp only [Act.put, List.setIfInBounds_toArray, List.set_cons_zero, List.set_cons_succ, List.getElem_toArray, List.getElem_cons_succ, List.getElem_cons_zero]
      refine held_stronger (S' := fun w' => (fun w' => BytesAt w' (.slice (some ⟨w1014.heap.size, 0, none⟩) 4 4) [1, u8of m.kind, u8of m.who, u8of m.metric]) w' ∧ ((fun w' => (BoxM w m w'))) w') (fun _ h => h.2) _ _ _ _ ?_
      replace hHeld := And.intro Nfb.out hHeld
      try dsimp only at hHeld
      refine' wpAnyH_take (i := 10) (v := _) rfl (by kernel_rfl) (by kernel_rfl) (by kernel_rfl) (fun _ _ _ h => h) (Or.inl ⟨by rfl, ?_⟩) hHeld ?_
      rotate_left
      · (intro w hSw; (try dsimp only at hSw); obtain ⟨fb, bx⟩ := hSw; have cv := conv_bytes fb; go_simp; try with_reducible rfl)
      try simp only [Act.put, List.setIfInBounds_toArray, List.set_cons_zero, List.set_cons_succ, List.getElem_toArray, List.getElem_cons_succ, List.getElem_cons_zero]
      refine' wpAnyH_take (i := 16) (v := _) rfl (by kernel_rfl) (by kernel_rfl) (by kernel_rfl) (fun _ _ _ h => h) (Or.inl ⟨by rfl, ?_⟩) hHeld ?_
      rotate_left
      · (intro w hSw; (try dsimp only at hSw); go_simp; try with_reducible rfl)
      try simp only [Act.put, List.setIfInBounds_toArray, List.set_cons_zero, List.set_cons_succ, List.getElem_toArray, List.getElem_cons_succ, List.getElem_cons_zero]
      refine wpAnyH_ready (rs := [20]) (by kernel_rfl) (by simp) ?_
      refine AllReadyH.cons (o := _) rfl (fun K hK => ?_) AllReadyH.nil
      try simp only [List.getElem_toArray, List.getElem_cons_succ, List.getElem_cons_zero]
      go_simp
      have hH2 := hHeld
      obtain ⟨fb, bx⟩ := hH2
      refine (P2.out _).mono ?_
      rintro e w1020 ⟨rfl, hg⟩
      have L20 := hid (show (BytesAt w1020 (.slice (some ⟨w1014.heap.size, 0, none⟩) 4 4) [1, u8of m.kind, u8of m.who, u8of m.metric]) ∧ (BoxM w m w1020) from ⟨fb.grown hg (by simp), bx.grown hg⟩)
      clear hHeld hg fb bx
      go_wp2_with fail
      refine hK.out _ _ ?_ (fun hHeld => ?_)
      · exact L20.out
      clear hK K
      try dsimp only at hHeld
      try simp only [Act.put, List.setIfInBounds_toArray, List.set_cons_zero, List.set_cons_succ, List.getElem_toArray, List.getElem_cons_succ, List.getElem_cons_zero]
      refine' wpAnyH_take (i := 21) (v := _) rfl (by kernel_rfl) (by kernel_rfl) (by kernel_rfl) (fun _ _ _ h => h) (Or.inl ⟨by rfl, ?_⟩) hHeld ?_
      rotate_left
      · (intro w hSw; (try dsimp only at hSw); go_simp; try with_reducible rfl)
      try simp only [Act.put, List.setIfInBounds_toArray, List.set_cons_zero, List.set_cons_succ, List.getElem_toArray, List.getElem_cons_succ, List.getElem_cons_zero]
      refine wpAnyH_ready (rs := [25]) (by kernel_rfl) (by simp) ?_
      refine AllReadyH.cons (o := _) rfl (fun K hK => ?_) AllReadyH.nil
      try simp only [List.getElem_toArray, List.getElem_cons_succ, List.getElem_cons_zero]
      go_simp
      have hH2 := hHeld
      obtain ⟨fb, bx⟩ := hH2
      refine (P3.out _).mono ?_
      rintro e w1025 ⟨rfl, hg⟩
      have L25 := hid (show (BytesAt w1025 (.slice (some ⟨w1014.heap.size, 0, none⟩) 4 4) [1, u8of m.kind, u8of m.who, u8of m.metric]) ∧ (BoxM w m w1025) from ⟨fb.grown hg (by simp), bx.grown hg⟩)
      clear hHeld hg fb bx
      go_wp2_with fail
      refine hK.out _ _ ?_ (fun hHeld => ?_)
      · exact L25.out
      clear hK K
      try dsimp only at hHeld
      try simp only [Act.put, List.setIfInBounds_toArray, List.set_cons_zero, List.set_cons_succ, List.getElem_toArray, List.getElem_cons_succ, List.getElem_cons_zero]
      refine' wpAnyH_take (i := 26) (v := _) rfl (by kernel_rfl) (by kernel_rfl) (by kernel_rfl) (fun _ _ _ h => h) (Or.inl ⟨by rfl, ?_⟩) hHeld ?_
      rotate_left
      · (intro w hSw; (try dsimp only at hSw); go_simp; try with_reducible rfl)
      try simp only [Act.put, List.setIfInBounds_toArray, List.set_cons_zero, List.set_cons_succ, List.getElem_toArray, List.getElem_cons_succ, List.getElem_cons_zero]
      refine wpAnyH_ready (rs := [30]) (by kernel_rfl) (by simp) ?_
      refine AllReadyH.cons (o := _) rfl (fun K hK => ?_) AllReadyH.nil
      try simp only [List.getElem_toArray, List.getElem_cons_succ, List.getElem_cons_zero]
      go_simp
      have hH2 := hHeld
      obtain ⟨fb, bx⟩ := hH2
      refine (P4.out _).mono ?_
      rintro e w1030 ⟨rfl, hg⟩
      have L30 := hid (show (BytesAt w1030 (.slice (some ⟨w1014.heap.size, 0, none⟩) 4 4) [1, u8of m.kind, u8of m.who, u8of m.metric]) ∧ (BoxM w m w1030) from ⟨fb.grown hg (by simp), bx.grown hg⟩)
      clear hHeld hg fb bx
      go_wp2_with fail
      refine hK.out _ _ ?_ (fun hHeld => ?_)
      · exact L30.out
      clear hK K
      try dsimp only at hHeld
      try simp only [Act.put, List.setIfInBounds_toArray, List.set_cons_zero, List.set_cons_succ, List.getElem_toArray, List.getElem_cons_succ, List.getElem_cons_zero]
      refine' wpAnyH_take (i := 31) (v := _) rfl (by kernel_rfl) (by kernel_rfl) (by kernel_rfl) (fun _ _ _ h => h) (Or.inl ⟨by rfl, ?_⟩) hHeld ?_
      rotate_left
      · (intro w hSw; (try dsimp only at hSw); go_simp; try with_reducible rfl)
      try simp only [Act.put, List.setIfInBounds_toArray, List.set_cons_zero, List.set_cons_succ, List.getElem_toArray, List.getElem_cons_succ, List.getElem_cons_zero]
      refine' wpAnyH_take (i := 32) (v := _) rfl (by kernel_rfl) (by kernel_rfl) (by kernel_rfl) (fun _ _ _ h => h) (Or.inl ⟨by rfl, ?_⟩) hHeld ?_
      rotate_left
      · (intro w hSw; (try dsimp only at hSw); go_simp; try with_reducible rfl)
      try simp only [Act.put, List.setIfInBounds_toArray, List.set_cons_zero, List.set_cons_succ, List.getElem_toArray, List.getElem_cons_succ, List.getElem_cons_zero]
      refine' wpAnyH_take (i := 33) (v := _) rfl (by kernel_rfl) (by kernel_rfl) (by kernel_rfl) (fun _ _ _ h => h) (Or.inl ⟨by rfl, ?_⟩) hHeld ?_
      rotate_left
      · (intro w hSw; (try dsimp only at hSw); go_simp; try with_reducible rfl)
      try simp only [Act.put, List.setIfInBounds_toArray, List.set_cons_zero, List.set_cons_succ, List.getElem_toArray, List.getElem_cons_succ, List.getElem_cons_zero]
      refine wpAnyH_done (by kernel_rfl) ?_ _
      obtain ⟨fb, bx⟩ := hHeld
      have BX := hid bx; clear fb bx
      go_wp2_with fail
      go_ret2
      exact ⟨rfl, BX.out.g⟩
    · try simp only [List.getElem_toArray, List.getElem_cons_succ, List.getElem_cons_zero]
      go_simp
      have hH2 := hHeld
      have bx := hH2
      refine (P2.out _).mono ?_
      rintro e w1020 ⟨rfl, hg⟩
      have L20 := hid (show (BoxM w m w1020) from bx.grown hg)
      clear hHeld hg bx
      go_wp2_with fail
      refine hK.out _ _ ?_ (fun hHeld => ?_)
      · exact L20.out
      clear hK K
      try dsimp only at hHeld
      try simp only [Act.put, List.setIfInBounds_toArray, List.set_cons_zero, List.set_cons_succ, List.getElem_toArray, List.getElem_cons_succ, List.getElem_cons_zero]
      refine wpAnyH_ready (rs := [9, 25]) (by kernel_rfl) (by simp) ?_
      refine AllReadyH.cons (o := _) rfl (fun K hK => ?_) (AllReadyH.cons (o := _) rfl (fun K hK => ?_) AllReadyH.nil)
      · have hH2 := hHeld
        have bx := hH2
        have hg : w1020.grownBy (w1020.alloc (.cells #[.int .u8 1, .int .u8 ((u8of m.kind).toNat : Int), .int .u8 ((u8of m.who).toNat : Int), .int .u8 ((u8of m.metric).toNat : Int)] 5)) none := World.grownBy_alloc _ _ _
        have L9 := hid (show (BoxM w m (w1020.alloc (.cells #[.int .u8 1, .int .u8 ((u8of m.kind).toNat : Int), .int .u8 ((u8of m.who).toNat : Int), .int .u8 ((u8of m.metric).toNat : Int)] 5))) from bx.grown hg)
        have Nfb := hid (own_block [1, u8of m.kind, u8of m.who, u8of m.metric] (at_new w1020 _) (by unfold maxLen; simp) (Nat.le_refl _)).bytes
        clear hHeld hg bx
        try simp only [List.getElem_toArray, List.getElem_cons_succ, List.getElem_cons_zero]
        go_simp
        refine hK.out _ _ ?_ (fun hHeld => ?_)
        · exact L9.out
        clear hK K
        try dsimp only at hHeld
        try simp only [Act.put, List.setIfInBounds_toArray, List.set_cons_zero, List.set_cons_succ, List.getElem_toArray, List.getElem_cons_succ, List.getElem_cons_zero]
        refine held_stronger (S' := fun w' => (fun w' => BytesAt w' (.slice (some ⟨w1020.heap.size, 0, none⟩) 4 4) [1, u8of m.kind, u8of m.who, u8of m.metric]) w' ∧ ((fun w' => (BoxM w m w'))) w') (fun _ h => h.2) _ _ _ _ ?_
        replace hHeld := And.intro Nfb.out hHeld
        try dsimp only at hHeld
        refine' wpAnyH_take (i := 10) (v := _) rfl (by kernel_rfl) (by kernel_rfl) (by kernel_rfl) (fun _ _ _ h => h) (Or.inl ⟨by rfl, ?_⟩) hHeld ?_
        rotate_left
        · (intro w hSw; (try dsimp only at hSw); obtain ⟨fb, bx⟩ := hSw; have cv := conv_bytes fb; go_simp; try with_reducible rfl)
        try simp only [Act.put, List.setIfInBounds_toArray, List.set_cons_zero, List.set_cons_succ, List.getElem_toArray, List.getElem_cons_succ, List.getElem_cons_zero]
        refine' wpAnyH_take (i := 16) (v := _) rfl (by kernel_rfl) (by kernel_rfl) (by kernel_rfl) (fun _ _ _ h => h) (Or.inl ⟨by rfl, ?_⟩) hHeld ?_
        rotate_left
        · (intro w hSw; (try dsimp only at hSw); go_simp; try with_reducible rfl)
        try simp only [Act.put, List.setIfInBounds_toArray, List.set_cons_zero, List.set_cons_succ, List.getElem_toArray, List.getElem_cons_succ, List.getElem_cons_zero]
        refine' wpAnyH_take (i := 21) (v := _) rfl (by kernel_rfl) (by kernel_rfl) (by kernel_rfl) (fun _ _ _ h => h) (Or.inl ⟨by rfl, ?_⟩) hHeld ?_
        rotate_left
        · (intro w hSw; (try dsimp only at hSw); go_simp; try with_reducible rfl)
        try simp only [Act.put, List.setIfInBounds_toArray, List.set_cons_zero, List.set_cons_succ, List.getElem_toArray, List.getElem_cons_succ, List.getElem_cons_zero]
        refine wpAnyH_ready (rs := [25]) (by kernel_rfl) (by simp) ?_
        refine AllReadyH.cons (o := _) rfl (fun K hK => ?_) AllReadyH.nil
        try simp only [List.getElem_toArray, List.getElem_cons_succ, List.getElem_cons_zero]
        go_simp
        have hH2 := hHeld
        obtain ⟨fb, bx⟩ := hH2
        refine (P3.out _).mono ?_
        rintro e w1025 ⟨rfl, hg⟩
        have L25 := hid (show (BytesAt w1025 (.slice (some ⟨w1020.heap.size, 0, none⟩) 4 4) [1, u8of m.kind, u8of m.who, u8of m.metric]) ∧ (BoxM w m w1025) from ⟨fb.grown hg (by simp), bx.grown hg⟩)
        clear hHeld hg fb bx
        go_wp2_with fail
        refine hK.out _ _ ?_ (fun hHeld => ?_)
        · exact L25.out
        clear hK K
        try dsimp only at hHeld
        try simp only [Act.put, List.setIfInBounds_toArray, List.set_cons_zero, List.set_cons_succ, List.getElem_toArray, List.getElem_cons_succ, List.getElem_cons_zero]
        refine' wpAnyH_take (i := 26) (v := _) rfl (by kernel_rfl) (by kernel_rfl) (by kernel_rfl) (fun _ _ _ h => h) (Or.inl ⟨by rfl, ?_⟩) hHeld ?_
        rotate_left
        · (intro w hSw; (try dsimp only at hSw); go_simp; try with_reducible rfl)
        try simp only [Act.put, List.setIfInBounds_toArray, List.set_cons_zero, List.set_cons_succ, List.getElem_toArray, List.getElem_cons_succ, List.getElem_cons_zero]
        refine wpAnyH_ready (rs := [30]) (by kernel_rfl) (by simp) ?_
        refine AllReadyH.cons (o := _) rfl (fun K hK => ?_) AllReadyH.nil
        try simp only [List.getElem_toArray, List.getElem_cons_succ, List.getElem_cons_zero]
        go_simp
        have hH2 := hHeld
        obtain ⟨fb, bx⟩ := hH2
        refine (P4.out _).mono ?_
        rintro e w1030 ⟨rfl, hg⟩
        have L30 := hid (show (BytesAt w1030 (.slice (some ⟨w1020.heap.size, 0, none⟩) 4 4) [1, u8of m.kind, u8of m.who, u8of m.metric]) ∧ (BoxM w m w1030) from ⟨fb.grown hg (by simp), bx.grown hg⟩)
        clear hHeld hg fb bx
        go_wp2_with fail
        refine hK.out _ _ ?_ (fun hHeld => ?_)
        · exact L30.out
        clear hK K
        try dsimp only at hHeld
        try simp only [Act.put, List.setIfInBounds_toArray, List.set_cons_zero, List.set_cons_succ, List.getElem_toArray, List.getElem_cons_succ, List.getElem_cons_zero]
        refine' wpAnyH_take (i := 31) (v := _) rfl (by kernel_rfl) (by kernel_rfl) (by kernel_rfl) (fun _ _ _ h => h) (Or.inl ⟨by rfl, ?_⟩) hHeld ?_
        rotate_left
        · (intro w hSw; (try dsimp only at hSw); go_simp; try with_reducible rfl)
        try simp only [Act.put, List.setIfInBounds_toArray, List.set_cons_zero, List.set_cons_succ, List.getElem_toArray, List.getElem_cons_succ, List.getElem_cons_zero]
        refine' wpAnyH_take (i := 32) (v := _) rfl (by kernel_rfl) (by kernel_rfl) (by kernel_rfl) (fun _ _ _ h => h) (Or.inl ⟨by rfl, ?_⟩) hHeld ?_
        rotate_left
        · (intro w hSw; (try dsimp only at hSw); go_simp; try with_reducible rfl)
        try simp only [Act.put, List.setIfInBounds_toArray, List.set_cons_zero, List.set_cons_succ, List.getElem_toArray, List.getElem_cons_succ, List.getElem_cons_zero]
        refine' wpAnyH_take (i := 33) (v := _) rfl (by kernel_rfl) (by kernel_rfl) (by kernel_rfl) (fun _ _ _ h => h) (Or.inl ⟨by rfl, ?_⟩) hHeld ?_
        rotate_left
        · (intro w hSw; (try dsimp only at hSw); go_simp; try with_reducible rfl)
        try simp only [Act.put, List.setIfInBounds_toArray, List.set_cons_zero, List.set_cons_succ, List.getElem_toArray, List.getElem_cons_succ, List.getElem_cons_zero]
        refine wpAnyH_done (by kernel_rfl) ?_ _
        obtain ⟨fb, bx⟩ := hHeld
        have BX := hid bx; clear fb bx
        go_wp2_with fail
        go_ret2
        exact ⟨rfl, BX.out.g⟩
      · try simp only [List.getElem_toArray, List.getElem_cons_succ, List.getElem_cons_zero]
        go_simp
        have hH2 := hHeld
        have bx := hH2
        refine (P3.out _).mono ?_
        rintro e w1025 ⟨rfl, hg⟩
        have L25 := hid (show (BoxM w m w1025) from bx.grown hg)
        clear hHeld hg bx
        go_wp2_with fail
        refine hK.out _ _ ?_ (fun hHeld => ?_)
        · exact L25.out
        clear hK K
        try dsimp only at hHeld
        try simp only [Act.put, List.setIfInBounds_toArray, List.set_cons_zero, List.set_cons_succ, List.getElem_toArray, List.getElem_cons_succ, List.getElem_cons_zero]
        refine wpAnyH_ready (rs := [9, 30]) (by kernel_rfl) (by simp) ?_
        refine AllReadyH.cons (o := _) rfl (fun K hK => ?_) (AllReadyH.cons (o := _) rfl (fun K hK => ?_) AllReadyH.nil)
        · have hH2 := hHeld
          have bx := hH2
          have hg : w1025.grownBy (w1025.alloc (.cells #[.int .u8 1, .int .u8 ((u8of m.kind).toNat : Int), .int .u8 ((u8of m.who).toNat : Int), .int .u8 ((u8of m.metric).toNat : Int)] 5)) none := World.grownBy_alloc _ _ _
          have L9 := hid (show (BoxM w m (w1025.alloc (.cells #[.int .u8 1, .int .u8 ((u8of m.kind).toNat : Int), .int .u8 ((u8of m.who).toNat : Int), .int .u8 ((u8of m.metric).toNat : Int)] 5))) from bx.grown hg)
          have Nfb := hid (own_block [1, u8of m.kind, u8of m.who, u8of m.metric] (at_new w1025 _) (by unfold maxLen; simp) (Nat.le_refl _)).bytes
          clear hHeld hg bx
          try simp only [List.getElem_toArray, List.getElem_cons_succ, List.getElem_cons_zero]
          go_simp
          refine hK.out _ _ ?_ (fun hHeld => ?_)
          · exact L9.out
          clear hK K
          try dsimp only at hHeld
          try simp only [Act.put, List.setIfInBounds_toArray, List.set_cons_zero, List.set_cons_succ, List.getElem_toArray, List.getElem_cons_succ, List.getElem_cons_zero]
          refine held_stronger (S' := fun w' => (fun w' => BytesAt w' (.slice (some ⟨w1025.heap.size, 0, none⟩) 4 4) [1, u8of m.kind, u8of m.who, u8of m.metric]) w' ∧ ((fun w' => (BoxM w m w'))) w') (fun _ h => h.2) _ _ _ _ ?_
          replace hHeld := And.intro Nfb.out hHeld
          try dsimp only at hHeld
          refine' wpAnyH_take (i := 10) (v := _) rfl (by kernel_rfl) (by kernel_rfl) (by kernel_rfl) (fun _ _ _ h => h) (Or.inl ⟨by rfl, ?_⟩) hHeld ?_
          rotate_left
          · (intro w hSw; (try dsimp only at hSw); obtain ⟨fb, bx⟩ := hSw; have cv := conv_bytes fb; go_simp; try with_reducible rfl)
          try simp only [Act.put, List.setIfInBounds_toArray, List.set_cons_zero, List.set_cons_succ, List.getElem_toArray, List.getElem_cons_succ, List.getElem_cons_zero]
          refine' wpAnyH_take (i := 16) (v := _) rfl (by kernel_rfl) (by kernel_rfl) (by kernel_rfl) (fun _ _ _ h => h) (Or.inl ⟨by rfl, ?_⟩) hHeld ?_
          rotate_left
          · (intro w hSw; (try dsimp only at hSw); go_simp; try with_reducible rfl)
          try simp only [Act.put, List.setIfInBounds_toArray, List.set_cons_zero, List.set_cons_succ, List.getElem_toArray, List.getElem_cons_succ, List.getElem_cons_zero]
          refine' wpAnyH_take (i := 21) (v := _) rfl (by kernel_rfl) (by kernel_rfl) (by kernel_rfl) (fun _ _ _ h => h) (Or.inl ⟨by rfl, ?_⟩) hHeld ?_
          rotate_left
          · (intro w hSw; (try dsimp only at hSw); go_simp; try with_reducible rfl)
          try simp only [Act.put, List.setIfInBounds_toArray, List.set_cons_zero, List.set_cons_succ, List.getElem_toArray, List.getElem_cons_succ, List.getElem_cons_zero]
          refine' wpAnyH_take (i := 26) (v := _) rfl (by kernel_rfl) (by kernel_rfl) (by kernel_rfl) (fun _ _ _ h => h) (Or.inl ⟨by rfl, ?_⟩) hHeld ?_
          rotate_left
          · (intro w hSw; (try dsimp only at hSw); go_simp; try with_reducible rfl)
          try simp only [Act.put, List.setIfInBounds_toArray, List.set_cons_zero, List.set_cons_succ, List.getElem_toArray, List.getElem_cons_succ, List.getElem_cons_zero]
          refine wpAnyH_ready (rs := [30]) (by kernel_rfl) (by simp) ?_
          refine AllReadyH.cons (o := _) rfl (fun K hK => ?_) AllReadyH.nil
          try simp only [List.getElem_toArray, List.getElem_cons_succ, List.getElem_cons_zero]
          go_simp
          have hH2 := hHeld
          obtain ⟨fb, bx⟩ := hH2
          refine (P4.out _).mono ?_
          rintro e w1030 ⟨rfl, hg⟩
          have L30 := hid (show (BytesAt w1030 (.slice (some ⟨w1025.heap.size, 0, none⟩) 4 4) [1, u8of m.kind, u8of m.who, u8of m.metric]) ∧ (BoxM w m w1030) from ⟨fb.grown hg (by simp), bx.grown hg⟩)
          clear hHeld hg fb bx
          go_wp2_with fail
          refine hK.out _ _ ?_ (fun hHeld => ?_)
          · exact L30.out
          clear hK K
          try dsimp only at hHeld
          try simp only [Act.put, List.setIfInBounds_toArray, List.set_cons_zero, List.set_cons_succ, List.getElem_toArray, List.getElem_cons_succ, List.getElem_cons_zero]
          refine' wpAnyH_take (i := 31) (v := _) rfl (by kernel_rfl) (by kernel_rfl) (by kernel_rfl) (fun _ _ _ h => h) (Or.inl ⟨by rfl, ?_⟩) hHeld ?_
          rotate_left
          · (intro w hSw; (try dsimp only at hSw); go_simp; try with_reducible rfl)
          try simp only [Act.put, List.setIfInBounds_toArray, List.set_cons_zero, List.set_cons_succ, List.getElem_toArray, List.getElem_cons_succ, List.getElem_cons_zero]
          refine' wpAnyH_take (i := 32) (v := _) rfl (by kernel_rfl) (by kernel_rfl) (by kernel_rfl) (fun _ _ _ h => h) (Or.inl ⟨by rfl, ?_⟩) hHeld ?_
          rotate_left
          · (intro w hSw; (try dsimp only at hSw); go_simp; try with_reducible rfl)
          try simp only [Act.put, List.setIfInBounds_toArray, List.set_cons_zero, List.set_cons_succ, List.getElem_toArray, List.getElem_cons_succ, List.getElem_cons_zero]
          refine' wpAnyH_take (i := 33) (v := _) rfl (by kernel_rfl) (by kernel_rfl) (by kernel_rfl) (fun _ _ _ h => h) (Or.inl ⟨by rfl, ?_⟩) hHeld ?_
          rotate_left
          · (intro w hSw; (try dsimp only at hSw); go_simp; try with_reducible rfl)
          try simp only [Act.put, List.setIfInBounds_toArray, List.set_cons_zero, List.set_cons_succ, List.getElem_toArray, List.getElem_cons_succ, List.getElem_cons_zero]
          refine wpAnyH_done (by kernel_rfl) ?_ _
          obtain ⟨fb, bx⟩ := hHeld
          have BX := hid bx; clear fb bx
          go_wp2_with fail
          go_ret2
          exact ⟨rfl, BX.out.g⟩
        · try simp only [List.getElem_toArray, List.getElem_cons_succ, List.getElem_cons_zero]
          go_simp
          have hH2 := hHeld
          have bx := hH2
          refine (P4.out _).mono ?_
          rintro e w1030 ⟨rfl, hg⟩
          have L30 := hid (show (BoxM w m w1030) from bx.grown hg)
          clear hHeld hg bx
          go_wp2_with fail
          refine hK.out _ _ ?_ (fun hHeld => ?_)
          · exact L30.out
          clear hK K
          try dsimp only at hHeld
          try simp only [Act.put, List.setIfInBounds_toArray, List.set_cons_zero, List.set_cons_succ, List.getElem_toArray, List.getElem_cons_succ, List.getElem_cons_zero]
          refine wpAnyH_ready (rs := [9]) (by kernel_rfl) (by simp) ?_
          refine AllReadyH.cons (o := _) rfl (fun K hK => ?_) AllReadyH.nil
          have hH2 := hHeld
          have bx := hH2
          have hg : w1030.grownBy (w1030.alloc (.cells #[.int .u8 1, .int .u8 ((u8of m.kind).toNat : Int), .int .u8 ((u8of m.who).toNat : Int), .int .u8 ((u8of m.metric).toNat : Int)] 5)) none := World.grownBy_alloc _ _ _
          have L9 := hid (show (BoxM w m (w1030.alloc (.cells #[.int .u8 1, .int .u8 ((u8of m.kind).toNat : Int), .int .u8 ((u8of m.who).toNat : Int), .int .u8 ((u8of m.metric).toNat : Int)] 5))) from bx.grown hg)
          have Nfb := hid (own_block [1, u8of m.kind, u8of m.who, u8of m.metric] (at_new w1030 _) (by unfold maxLen; simp) (Nat.le_refl _)).bytes
          clear hHeld hg bx
          try simp only [List.getElem_toArray, List.getElem_cons_succ, List.getElem_cons_zero]
          go_simp
          refine hK.out _ _ ?_ (fun hHeld => ?_)
          · exact L9.out
          clear hK K
          try dsimp only at hHeld
          try simp only [Act.put, List.setIfInBounds_toArray, List.set_cons_zero, List.set_cons_succ, List.getElem_toArray, List.getElem_cons_succ, List.getElem_cons_zero]
          refine held_stronger (S' := fun w' => (fun w' => BytesAt w' (.slice (some ⟨w1030.heap.size, 0, none⟩) 4 4) [1, u8of m.kind, u8of m.who, u8of m.metric]) w' ∧ ((fun w' => (BoxM w m w'))) w') (fun _ h => h.2) _ _ _ _ ?_
          replace hHeld := And.intro Nfb.out hHeld
          try dsimp only at hHeld
          refine' wpAnyH_take (i := 10) (v := _) rfl (by kernel_rfl) (by kernel_rfl) (by kernel_rfl) (fun _ _ _ h => h) (Or.inl ⟨by rfl, ?_⟩) hHeld ?_
          rotate_left
          · (intro w hSw; (try dsimp only at hSw); obtain ⟨fb, bx⟩ := hSw; have cv := conv_bytes fb; go_simp; try with_reducible rfl)
          try simp only [Act.put, List.setIfInBounds_toArray, List.set_cons_zero, List.set_cons_succ, List.getElem_toArray, List.getElem_cons_succ, List.getElem_cons_zero]
          refine' wpAnyH_take (i := 16) (v := _) rfl (by kernel_rfl) (by kernel_rfl) (by kernel_rfl) (fun _ _ _ h => h) (Or.inl ⟨by rfl, ?_⟩) hHeld ?_
          rotate_left
          · (intro w hSw; (try dsimp only at hSw); go_simp; try with_reducible rfl)
          try simp only [Act.put, List.setIfInBounds_toArray, List.set_cons_zero, List.set_cons_succ, List.getElem_toArray, List.getElem_cons_succ, List.getElem_cons_zero]
          refine' wpAnyH_take (i := 21) (v := _) rfl (by kernel_rfl) (by kernel_rfl) (by kernel_rfl) (fun _ _ _ h => h) (Or.inl ⟨by rfl, ?_⟩) hHeld ?_
          rotate_left
          · (intro w hSw; (try dsimp only at hSw); go_simp; try with_reducible rfl)
          try simp only [Act.put, List.setIfInBounds_toArray, List.set_cons_zero, List.set_cons_succ, List.getElem_toArray, List.getElem_cons_succ, List.getElem_cons_zero]
          refine' wpAnyH_take (i := 26) (v := _) rfl (by kernel_rfl) (by kernel_rfl) (by kernel_rfl) (fun _ _ _ h => h) (Or.inl ⟨by rfl, ?_⟩) hHeld ?_
          rotate_left
          · (intro w hSw; (try dsimp only at hSw); go_simp; try with_reducible rfl)
          try simp only [Act.put, List.setIfInBounds_toArray, List.set_cons_zero, List.set_cons_succ, List.getElem_toArray, List.getElem_cons_succ, List.getElem_cons_zero]
          refine' wpAnyH_take (i := 31) (v := _) rfl (by kernel_rfl) (by kernel_rfl) (by kernel_rfl) (fun _ _ _ h => h) (Or.inl ⟨by rfl, ?_⟩) hHeld ?_
          rotate_left
          · (intro w hSw; (try dsimp only at hSw); go_simp; try with_reducible rfl)
          try simp only [Act.put, List.setIfInBounds_toArray, List.set_cons_zero, List.set_cons_succ, List.getElem_toArray, List.getElem_cons_succ, List.getElem_cons_zero]
          refine' wpAnyH_take (i := 32) (v := _) rfl (by kernel_rfl) (by kernel_rfl) (by kernel_rfl) (fun _ _ _ h => h) (Or.inl ⟨by rfl, ?_⟩) hHeld ?_
          rotate_left
          · (intro w hSw; (try dsimp only at hSw); go_simp; try with_reducible rfl)
          try simp only [Act.put, List.setIfInBounds_toArray, List.set_cons_zero, List.set_cons_succ, List.getElem_toArray, List.getElem_cons_succ, List.getElem_cons_zero]
          refine' wpAnyH_take (i := 33) (v := _) rfl (by kernel_rfl) (by kernel_rfl) (by kernel_rfl) (fun _ _ _ h => h) (Or.inl ⟨by rfl, ?_⟩) hHeld ?_
          rotate_left
          · (intro w hSw; (try dsimp only at hSw); go_simp; try with_reducible rfl)
          try simp only [Act.put, List.setIfInBounds_toArray, List.set_cons_zero, List.set_cons_succ, List.getElem_toArray, List.getElem_cons_succ, List.getElem_cons_zero]
          refine wpAnyH_done (by kernel_rfl) ?_ _
          obtain ⟨fb, bx⟩ := hHeld
          have BX := hid bx; clear fb bx
          go_wp2_with fail
          go_ret2
          exact ⟨rfl, BX.out.g⟩

end Go.Proofs.Ytngfnigfkabihaa
end
section
set_option linter.unusedSimpArgs false
namespace Go.Proofs.Ytngfnigfkabihaa
set_option maxRecDepth 100000
open Go.RowKit

set_option maxHeartbeats 3200000 in
theorem may_any (m : Mg) (w : World) :
    Calls Try.prog 42 #[mg m] w fun e w' => e = .returned (.bool (mayOf m)) ∧ w.grownBy w' none := by
  rw [may_bool]
  have hx1 := fun w => within_any m.kind 1 3 w
  have hx2 := fun w => within_any m.who 0 15 w
  have hx3 := fun w => within_any m.gen 0 60000 w
  have hx4 := fun w => within64_any m.seq 1 1099511627776 w
  have hx5 := fun w => within64_any m.epoch 0 1099511627776 w
  have hx6 := fun w => measures_any m w
  generalize within m.kind 1 3 = x1 at hx1 ⊢
  generalize within m.who 0 15 = x2 at hx2 ⊢
  generalize within m.gen 0 60000 = x3 at hx3 ⊢
  generalize within m.seq 1 1099511627776 = x4 at hx4 ⊢
  generalize within m.epoch 0 1099511627776 = x5 at hx5 ⊢
  generalize measB m = x6 at hx6 ⊢
  have Cx1 := hid hx1; have Cx2 := hid hx2; have Cx3 := hid hx3; have Cx4 := hid hx4; have Cx5 := hid hx5; have Cx6 := hid hx6; clear hx1 hx2 hx3 hx4 hx5 hx6
  cases x1
  · go_enter Try.func42, Try.ntmps42
    go_wp2_with (first | (go_at_call 61; (with_reducible refine (Cx1.out _).mono ?_); rintro e w1 ⟨rfl, rfl⟩) | (go_at_call 61; (with_reducible refine (Cx2.out _).mono ?_); rintro e w1 ⟨rfl, rfl⟩) | (go_at_call 61; (with_reducible refine (Cx3.out _).mono ?_); rintro e w1 ⟨rfl, rfl⟩) | (go_at_call 62; (with_reducible refine (Cx4.out _).mono ?_); rintro e w1 ⟨rfl, rfl⟩) | (go_at_call 62; (with_reducible refine (Cx5.out _).mono ?_); rintro e w1 ⟨rfl, rfl⟩) | (go_at_call 63; (with_reducible refine (Cx6.out _).mono ?_); rintro e w1 ⟨rfl, hg⟩; have G := hid hg; clear hg))
    go_ret
    exact ⟨rfl, gb_alloc (.refl w none) _⟩
  cases x2
  · go_enter Try.func42, Try.ntmps42
    go_wp2_with (first | (go_at_call 61; (with_reducible refine (Cx1.out _).mono ?_); rintro e w1 ⟨rfl, rfl⟩) | (go_at_call 61; (with_reducible refine (Cx2.out _).mono ?_); rintro e w1 ⟨rfl, rfl⟩) | (go_at_call 61; (with_reducible refine (Cx3.out _).mono ?_); rintro e w1 ⟨rfl, rfl⟩) | (go_at_call 62; (with_reducible refine (Cx4.out _).mono ?_); rintro e w1 ⟨rfl, rfl⟩) | (go_at_call 62; (with_reducible refine (Cx5.out _).mono ?_); rintro e w1 ⟨rfl, rfl⟩) | (go_at_call 63; (with_reducible refine (Cx6.out _).mono ?_); rintro e w1 ⟨rfl, hg⟩; have G := hid hg; clear hg))
    go_ret
    exact ⟨rfl, gb_alloc (.refl w none) _⟩
  cases x3
  · go_enter Try.func42, Try.ntmps42
    go_wp2_with (first | (go_at_call 61; (with_reducible refine (Cx1.out _).mono ?_); rintro e w1 ⟨rfl, rfl⟩) | (go_at_call 61; (with_reducible refine (Cx2.out _).mono ?_); rintro e w1 ⟨rfl, rfl⟩) | (go_at_call 61; (with_reducible refine (Cx3.out _).mono ?_); rintro e w1 ⟨rfl, rfl⟩) | (go_at_call 62; (with_reducible refine (Cx4.out _).mono ?_); rintro e w1 ⟨rfl, rfl⟩) | (go_at_call 62; (with_reducible refine (Cx5.out _).mono ?_); rintro e w1 ⟨rfl, rfl⟩) | (go_at_call 63; (with_reducible refine (Cx6.out _).mono ?_); rintro e w1 ⟨rfl, hg⟩; have G := hid hg; clear hg))
    go_ret
    exact ⟨rfl, gb_alloc (.refl w none) _⟩
  cases x4
  · go_enter Try.func42, Try.ntmps42
    go_wp2_with (first | (go_at_call 61; (with_reducible refine (Cx1.out _).mono ?_); rintro e w1 ⟨rfl, rfl⟩) | (go_at_call 61; (with_reducible refine (Cx2.out _).mono ?_); rintro e w1 ⟨rfl, rfl⟩) | (go_at_call 61; (with_reducible refine (Cx3.out _).mono ?_); rintro e w1 ⟨rfl, rfl⟩) | (go_at_call 62; (with_reducible refine (Cx4.out _).mono ?_); rintro e w1 ⟨rfl, rfl⟩) | (go_at_call 62; (with_reducible refine (Cx5.out _).mono ?_); rintro e w1 ⟨rfl, rfl⟩) | (go_at_call 63; (with_reducible refine (Cx6.out _).mono ?_); rintro e w1 ⟨rfl, hg⟩; have G := hid hg; clear hg))
    go_ret
    exact ⟨rfl, gb_alloc (.refl w none) _⟩
  cases x5
  · go_enter Try.func42, Try.ntmps42
    go_wp2_with (first | (go_at_call 61; (with_reducible refine (Cx1.out _).mono ?_); rintro e w1 ⟨rfl, rfl⟩) | (go_at_call 61; (with_reducible refine (Cx2.out _).mono ?_); rintro e w1 ⟨rfl, rfl⟩) | (go_at_call 61; (with_reducible refine (Cx3.out _).mono ?_); rintro e w1 ⟨rfl, rfl⟩) | (go_at_call 62; (with_reducible refine (Cx4.out _).mono ?_); rintro e w1 ⟨rfl, rfl⟩) | (go_at_call 62; (with_reducible refine (Cx5.out _).mono ?_); rintro e w1 ⟨rfl, rfl⟩) | (go_at_call 63; (with_reducible refine (Cx6.out _).mono ?_); rintro e w1 ⟨rfl, hg⟩; have G := hid hg; clear hg))
    go_ret
    exact ⟨rfl, gb_alloc (.refl w none) _⟩
  cases x6
  · go_enter Try.func42, Try.ntmps42
    go_wp2_with (first | (go_at_call 61; (with_reducible refine (Cx1.out _).mono ?_); rintro e w1 ⟨rfl, rfl⟩) | (go_at_call 61; (with_reducible refine (Cx2.out _).mono ?_); rintro e w1 ⟨rfl, rfl⟩) | (go_at_call 61; (with_reducible refine (Cx3.out _).mono ?_); rintro e w1 ⟨rfl, rfl⟩) | (go_at_call 62; (with_reducible refine (Cx4.out _).mono ?_); rintro e w1 ⟨rfl, rfl⟩) | (go_at_call 62; (with_reducible refine (Cx5.out _).mono ?_); rintro e w1 ⟨rfl, rfl⟩) | (go_at_call 63; (with_reducible refine (Cx6.out _).mono ?_); rintro e w1 ⟨rfl, hg⟩; have G := hid hg; clear hg))
    go_ret
    exact ⟨rfl, gb_trans (gb_alloc (.refl w none) _) G.out (.inl rfl)⟩
  go_enter Try.func42, Try.ntmps42
  go_wp2_with (first | (go_at_call 61; (with_reducible refine (Cx1.out _).mono ?_); rintro e w1 ⟨rfl, rfl⟩) | (go_at_call 61; (with_reducible refine (Cx2.out _).mono ?_); rintro e w1 ⟨rfl, rfl⟩) | (go_at_call 61; (with_reducible refine (Cx3.out _).mono ?_); rintro e w1 ⟨rfl, rfl⟩) | (go_at_call 62; (with_reducible refine (Cx4.out _).mono ?_); rintro e w1 ⟨rfl, rfl⟩) | (go_at_call 62; (with_reducible refine (Cx5.out _).mono ?_); rintro e w1 ⟨rfl, rfl⟩) | (go_at_call 63; (with_reducible refine (Cx6.out _).mono ?_); rintro e w1 ⟨rfl, hg⟩; have G := hid hg; clear hg))
  go_ret
  exact ⟨rfl, gb_trans (gb_alloc (.refl w none) _) G.out (.inl rfl)⟩

theorem q_or_one (x : BitVec 64) : bits .or .u64 1 (q x) = q (1#64 ||| x) := by
  rw [show (1 : Int) = q 1#64 by decide +kernel, q_or]
set_option maxHeartbeats 1600000 in
theorem head_any (m : Mg) (w : World) :
    Calls Try.prog 58 #[mg m] w fun e w' => e = .returned (.int .u64 (q (headOf m))) ∧ w.grownBy w' none := by
  have h1 := q_lit m.kind; have h2 := q_lit m.who; have h3 := q_lit m.metric; have h4 := q_lit m.gen
  have hor := q_or_one (w64 m.kind <<< 8)
  unfold headOf
  rw [← show w64 m.kind = BitVec.ofInt 64 m.kind from rfl] at h1
  rw [← show w64 m.who = BitVec.ofInt 64 m.who from rfl] at h2
  rw [← show w64 m.metric = BitVec.ofInt 64 m.metric from rfl] at h3
  rw [← show w64 m.gen = BitVec.ofInt 64 m.gen from rfl] at h4
  go_enter Try.func58, Try.ntmps58
  go_wp2_with fail
  go_ret
  exact ⟨rfl, gb_alloc (.refl w none) _⟩
end Go.Proofs.Ytngfnigfkabihaa
end
section
namespace Go.Proofs.Ytngfnigfkabihaa
set_option maxRecDepth 100000
open Go.RowKit
/-- a slice that reads as these slices of bytes -/
def RowsAt (w : World) (v : Value) (ls : List (Value × List UInt8)) : Prop :=
  (v = .slice none 0 0 ∧ ls = []) ∨
  ∃ a cap, v = .slice (some a) ls.length cap ∧ ls.length ≤ cap ∧ cap ≤ maxLen ∧ ∀ i, (h : i < ls.length) → w.cell? (a.add i) = some ls[i].1 ∧ BytesAt w ls[i].1 ls[i].2
theorem RowsAt.grown {w w1 : World} {v : Value} {l : List (Value × List UInt8)} (h : RowsAt w v l) (hg : w.grownBy w1 none) : RowsAt w1 v l := by
  rcases h with h | ⟨a, cap, rfl, h1, h2, h3⟩
  · exact .inl h
  · exact .inr ⟨a, cap, rfl, h1, h2, fun i hi => ⟨hg.cell (h3 i hi).1 (by simp), (h3 i hi).2.grown hg (by simp)⟩⟩
theorem RowsAt.cells {w : World} {v : Value} {l : List (Value × List UInt8)} (h : RowsAt w v l) (hp : 0 < l.length) :
    ∃ ab ao cap, v = .slice (some ⟨ab, ao, none⟩) l.length cap ∧ ∀ i, (h : i < l.length) → w.cell? ⟨ab, ao + i, none⟩ = some l[i].1 ∧ BytesAt w l[i].1 l[i].2 := by
  rcases h with ⟨_, rfl⟩ | ⟨⟨ab, ao, asp⟩, cap, rfl, _, _, h3⟩
  · cases hp
  · have h0 := (h3 0 hp).1
    have hsp : asp = none := by simpa [Addr.add] using World.cell?_spot h0
    subst hsp
    refine ⟨ab, ao, cap, rfl, fun i hi => ?_⟩
    have := h3 i hi
    unfold Addr.add at this
    split at this
    · next h => subst h; simpa using this
    · simpa using this
theorem BytesAt.form {w : World} {v : Value} {l : List UInt8} (h : BytesAt w v l) : ∃ p c, v = .slice p l.length c := by
  rcases h with ⟨rfl, rfl⟩ | ⟨a, cap, rfl, _, _, _⟩
  · exact ⟨none, 0, rfl⟩
  · exact ⟨some a, cap, rfl⟩
end Go.Proofs.Ytngfnigfkabihaa
end
section
set_option linter.unusedSimpArgs false
namespace Go.Proofs.Ytngfnigfkabihaa
set_option maxRecDepth 100000
open Go.RowKit

/-- all the bytes, one behind the other -/
def flatB (ls : List (Value × List UInt8)) : List UInt8 := ls.flatMap (·.2)
theorem flatB_take (ls : List (Value × List UInt8)) (k : Nat) (h : k < ls.length) : flatB (ls.take (k + 1)) = flatB (ls.take k) ++ ls[k].2 := by
  unfold flatB; rw [List.take_succ_eq_append_getElem h, List.flatMap_append]; simp only [List.flatMap_cons, List.flatMap_nil, List.append_nil]
theorem flatB_le (ls : List (Value × List UInt8)) (k : Nat) : (flatB (ls.take k)).length ≤ (flatB ls).length := by
  have e : flatB ls = flatB (ls.take k) ++ flatB (ls.drop k) := by
    unfold flatB; rw [← List.flatMap_append, List.take_append_drop]
  rw [e, List.length_append]; omega

set_option maxHeartbeats 1600000 in
/-- room for n bytes behind nothing -/
theorem grow_nil (n : Nat) (h0 : 0 < n) (h1 : n ≤ 1000000) (w : World) :
    Calls Try.prog 74 #[.slice none 0 0, .int .i64 (n : Int)] w fun e w' => ∃ v, e = .returned v ∧ OwnB w.heap.size w' v [] ∧ w.grownBy w' none := by
  obtain ⟨i, hi, hz0, hz1, hz2⟩ := info_parts info_u8
  have hr : ∀ ty, (Builtin.append_ #[29, 3] ty #[.slice none 0 0, .int .i64 (n : Int)]).run Try.prog w = .ok (.slice (some ⟨w.heap.size, 0, none⟩) n (grownCap w n 0 5)) (w.drew.alloc (.cells (#[] ++ Builtin.zeroCells (Value.int .u8 0).cells n ++ Builtin.zeroCells (Value.int .u8 0).cells (grownCap w n 0 5 - n)) 5)) := fun ty => by
    have h := Lib.run_append_grow_zeros w 29 3 ty 5 i (.int .u8 0) .i64 .i64 Try.underlying29 Try.underlying3 hi hz0 none 0 0 []
      (by rw [hz1]; exact run_firstCells_none w.drew 1 0 0 0) n h0 (by omega) (by omega) (by omega) (by rw [hz2]; omega) (by rw [hz2]; exact growslice_fits (by omega) (by omega))
    rw [Nat.zero_add] at h
    exact h
  have hG := grownCap_ge w n 0 5
  have hM := grownCap_le_maxLen w n 0 5 (by unfold maxLen; omega)
  have hc : (#[] ++ Builtin.zeroCells (Value.int .u8 0).cells n ++ Builtin.zeroCells (Value.int .u8 0).cells (grownCap w n 0 5 - n)).size = grownCap w n 0 5 := by
    simp [Builtin.zeroCells, Value.cells]; omega
  generalize #[] ++ Builtin.zeroCells (Value.int .u8 0).cells n ++ Builtin.zeroCells (Value.int .u8 0).cells (grownCap w n 0 5 - n) = cs at hr hc
  obtain ⟨G, hGe⟩ : ∃ G, G = grownCap w n 0 5 := ⟨_, rfl⟩
  rw [← hGe] at hr hG hM hc
  clear hGe
  have HM := hid hM; have HC := hid hc; clear hM hc
  have hb : (G : Int) ≤ 9223372036854775807 := by have := HM.out; unfold maxLen at this; omega
  go_enter Try.func74, Try.ntmps74
  go_wp2_with (at_builtin; refine Lib.wpList_append_run _ rfl _ _ _ _ rfl _ _ rfl rfl _ _ (hr _) ?_)
  go_ret
  exact ⟨_, rfl, ⟨rfl, .inr ⟨w.heap.size, G, cs, rfl, Nat.le_refl _, at_new w.drew _, Nat.zero_le _, HM.out, by rw [HC.out, Nat.mul_one], rfl⟩⟩, gb_alloc (gb_drew (.refl w none)) _⟩

/-- the length of the first k -/
def lenK (ls : List (Value × List UInt8)) (k : Nat) : Nat := (flatB (ls.take k)).length
theorem lenK_succ (ls : List (Value × List UInt8)) (k : Nat) (h : k < ls.length) : lenK ls (k + 1) = lenK ls k + ls[k].2.length := by
  unfold lenK; rw [flatB_take ls k h, List.length_append]
theorem lenK_le (ls : List (Value × List UInt8)) (k : Nat) : lenK ls k ≤ (flatB ls).length := flatB_le ls k

set_option maxHeartbeats 3200000 in
theorem concat_any (ls : List (Value × List UInt8)) (v : Value) (w : World) (h : RowsAt w v ls) (h0 : 0 < (flatB ls).length) (h1 : (flatB ls).length ≤ 1000000) :
    Calls Try.prog 57 #[v] w fun e w' => ∃ u, e = .returned u ∧ OwnB w.heap.size w' u (flatB ls) ∧ w.grownBy w' none := by
  have hp : 0 < ls.length := by
    rcases Nat.eq_zero_or_pos ls.length with e | e
    · rw [List.length_eq_zero_iff.1 e] at h0; simp [flatB] at h0
    · exact e
  have hn : (ls.length : Int) ≤ 9223372036854775807 := by
    rcases h with ⟨_, e⟩ | ⟨_, c, _, k1, k2, _⟩
    · rw [e]; simp
    · unfold maxLen at k2; omega
  obtain ⟨ab, ao, cap, rfl, hc⟩ := h.cells hp
  have HR := hid h; have HC := hid hc; have H0 := hid h0; have H1 := hid h1; clear h hc h0 h1
  obtain ⟨N, hN⟩ : ∃ N, N = ls.length := ⟨_, rfl⟩
  rw [← hN] at hp hn ⊢
  have HN := hid hN; clear hN
  have hfull : lenK ls N = (flatB ls).length := by unfold lenK; rw [HN.out, List.take_length]
  have HF := hid hfull; clear hfull
  go_enter Try.func57, Try.ntmps57
  go_wp2_with fail
  go_loop [3, 5, 11] (fun s _ i => ∃ k : Nat, k ≤ N ∧ i = .int .i64 (k : Int) ∧ s = .int .i64 (lenK ls k : Int)) (fun _ _ i => N - (intOf i).toNat)
  case atStart => exact ⟨0, Nat.zero_le _, rfl, rfl⟩
  case round =>
    obtain ⟨k, hk, rfl, rfl⟩ := hrel
    by_cases hlt : k < N
    · obtain ⟨cell, hby⟩ := HC.out k (by rw [← HN.out]; exact hlt)
      have hs := lenK_succ ls k (by rw [← HN.out]; exact hlt)
      have hl := lenK_le ls (k + 1)
      have H1' := H1.out
      generalize ls[k]'(by rw [← HN.out]; exact hlt) = vk at cell hby hs
      obtain ⟨vv, bk⟩ := vk
      obtain ⟨p, c, hf⟩ := hby.form
      dsimp only at hf cell hs
      rw [hf] at cell
      have hb1 : (0 : Int) ≤ (lenK ls k : Int) := by omega
      have hb2 : (lenK ls k : Int) + (bk.length : Int) ≤ 1000000 := by omega
      have hb3 : (0 : Int) ≤ (bk.length : Int) := by omega
      have HS := hid hs; clear hs hf hl H1' hby
      go_wp2_with fail
      go_round
      case rel => exact ⟨k + 1, by omega, by go_num, by rw [HS.out]; push_cast; rfl⟩
      case measure => simp [intOf]; omega
    · obtain rfl : k = N := by omega
      have HFk := hid (show (lenK ls k : Int) = ((flatB ls).length : Int) by rw [HF.out])
      rw [HF.out]
      go_wp2_with fail
      refine (grow_nil _ H0.out H1.out _).mono ?_
      rintro e w1 ⟨v0, rfl, ho, hg⟩
      have HO := hid ho; have HG := hid hg; clear ho hg
      go_wp2_with fail
      go_loopw [6, 8, 27] (fun u _ i wr => ∃ j : Nat, j ≤ k ∧ i = .int .i64 (j : Int) ∧ OwnB w.heap.size wr u (flatB (ls.take j)) ∧ w.grownBy wr none) (fun _ _ i _ => k - (intOf i).toNat)
      case atStart => exact ⟨0, Nat.zero_le _, rfl, by simpa [flatB] using HO.out, HG.out⟩
      case round =>
        obtain ⟨j, hj, rfl, hown, hgr⟩ := hrel
        have HOW := hid hown; have HGR := hid hgr; clear hown hgr
        by_cases hjl : j < k
        · have hjl' : j < ls.length := by rw [← HN.out]; exact hjl
          obtain ⟨cell, hby⟩ := HC.out j hjl'
          have hs := flatB_take ls j hjl'
          have hl := flatB_le ls (j + 1)
          rw [hs, List.length_append] at hl
          have cell' := HGR.out.cell cell (by simp)
          have hby' := hby.grown HGR.out (by simp)
          generalize ls[j] = vk at cell' hby' hs hl
          clear cell hby
          obtain ⟨vv, bk⟩ := vk
          have HB := hid hby'; have HS := hid hs; have HL := hid hl; clear hby' hs hl
          dsimp only at cell'
          have hsz := gb_size HGR.out
          go_wp2_with (refine append_bytes rfl _ _ rfl w.heap.size _ _ rfl HOW.out _ _ rfl HB.out (by have := H1.out; have := HL.out; dsimp only at this ⊢; omega) hsz ?_; intro u1 w2 o1 g1 a1)
          go_roundw
          case rel => exact ⟨j + 1, by omega, by go_num, by rw [HS.out]; exact o1, gb_own HGR.out HOW.out (Nat.le_refl _) g1⟩
          case measure => simp [intOf]; omega
        · obtain rfl : j = k := by omega
          go_wp2_with fail
          go_ret
          refine ⟨_, rfl, ?_, HGR.out⟩
          have := HOW.out
          rwa [HN.out, List.take_length] at this
end Go.Proofs.Ytngfnigfkabihaa
end
section
set_option linter.unusedSimpArgs false
set_option linter.unusedVariables false
namespace Go.Proofs.Ytngfnigfkabihaa
set_option maxRecDepth 100000
open Go.RowKit

def s8 (b : Nat) : Value := .slice (some ⟨b, 0, none⟩) 8 8
def rowsOf (m : Mg) (a b c d : Nat) : List (Value × List UInt8) := [(.slice (some ⟨a, 0, none⟩) 8 8, put8 (headOf m)), (.slice (some ⟨b, 0, none⟩) 8 8, put8 (w64 m.seq)), (.slice (some ⟨c, 0, none⟩) 8 8, put8 (w64 m.epoch)), (.slice (some ⟨d, 0, none⟩) 8 8, put8 (w64 m.value))]
theorem rowsOf_flat (m : Mg) (a b c d : Nat) : flatB (rowsOf m a b c d) = putOf m := by simp [flatB, rowsOf, putOf]
theorem rows_four {w : World} {g : Nat} {t : TypeId} {v0 v1 v2 v3 : Value} {l0 l1 l2 l3 : List UInt8} (h : w.heap[g]? = some (.cells #[v0, v1, v2, v3] t)) (h0 : BytesAt w v0 l0) (h1 : BytesAt w v1 l1) (h2 : BytesAt w v2 l2) (h3 : BytesAt w v3 l3) :
    RowsAt w (.slice (some ⟨g, 0, none⟩) 4 4) [(v0, l0), (v1, l1), (v2, l2), (v3, l3)] := by
  refine .inr ⟨_, 4, rfl, Nat.le_refl _, by unfold maxLen; decide, fun i hi => ?_⟩
  have e : (⟨g, 0, none⟩ : Addr).add i = ⟨g, i, none⟩ := by unfold Addr.add; split <;> simp_all
  rw [e, at_cell h i]
  rcases (by simp at hi; omega : i = 0 ∨ i = 1 ∨ i = 2 ∨ i = 3) with rfl | rfl | rfl | rfl
  · exact ⟨rfl, h0⟩
  · exact ⟨rfl, h1⟩
  · exact ⟨rfl, h2⟩
  · exact ⟨rfl, h3⟩

set_option maxHeartbeats 1600000 in
theorem wput_bad (m : Mg) (hm : mayOf m = false) (w : World) :
    Calls Try.prog 35 #[mg m] w fun e w' => e = .returned (.tuple #[.slice none 0 0, .int .i64 1]) ∧ w.grownBy w' none := by
  have hc := may_any m
  rw [hm] at hc
  have C := hid hc; clear hc hm
  have B := hid (boxm_new w m)
  go_enter Try.func35, Try.ntmps35
  go_wp2_with (refine wpList_row B.out.box Try.underlying46 rfl (by kernel_rfl) rfl rfl rfl rfl ?_)
  refine (C.out _).mono ?_
  rintro e w1 ⟨rfl, hg⟩
  have G := hid hg; clear hg
  go_wp2_with fail
  go_ret2
  exact ⟨rfl, gb_trans (gb_alloc (.refl w none) _) G.out (.inl rfl)⟩

set_option maxHeartbeats 3200000 in
theorem wput_good (m : Mg) (hm : mayOf m = true) (w : World) :
    Calls Try.prog 35 #[mg m] w fun e w' => ∃ v, e = .returned (.tuple #[v, .int .i64 0]) ∧ OwnB w.heap.size w' v (putOf m) ∧ w.grownBy w' none := by
  have hc := may_any m
  rw [hm] at hc
  have C := hid hc; clear hc hm
  have B0 := hid (boxm_new w m)
  go_enter Try.func35, Try.ntmps35
  go_wp2_with (refine wpList_row B0.out.box Try.underlying46 rfl (by kernel_rfl) rfl rfl rfl rfl ?_)
  refine (C.out _).mono ?_
  rintro e w1 ⟨rfl, hg⟩
  have B := hid (B0.out.grown hg); clear hg B0 C
  have hs : IntKind.u64.wrap m.seq = q (w64 m.seq) := q_lit m.seq
  have he : IntKind.u64.wrap m.epoch = q (w64 m.epoch) := q_lit m.epoch
  have hv : IntKind.u64.wrap m.value = q (w64 m.value) := q_lit m.value
  go_wp2_with fail
  refine wp_region_held_drew (S := (fun w' => (BoxM w m w'))) (by kernel_rfl) B.out.drew (fun hHeld => ?_)
  try dsimp only at hHeld
  refine' wpAnyH_take (i := 0) (v := _) rfl (by kernel_rfl) (by kernel_rfl) (by kernel_rfl) (fun _ _ _ h => h) (Or.inl ⟨by rfl, ?_⟩) hHeld ?_
  rotate_left
  · (intro w hSw; (try dsimp only at hSw); (try simp only [List.getElem_toArray, List.getElem_cons_succ, List.getElem_cons_zero]); refine exec_row (x := .tmp 1) hSw.box Try.underlying46 rfl (by kernel_rfl) ?_ ?_ <;> rfl)
  try simp only [Act.put, List.setIfInBounds_toArray, List.set_cons_zero, List.set_cons_succ, List.getElem_toArray, List.getElem_cons_succ, List.getElem_cons_zero]
  refine' wpAnyH_take (i := 3) (v := _) rfl (by kernel_rfl) (by kernel_rfl) (by kernel_rfl) (fun _ _ _ h => h) (Or.inl ⟨by rfl, ?_⟩) hHeld ?_
  rotate_left
  · (intro w hSw; (try dsimp only at hSw); go_simp; try with_reducible rfl)
  try simp only [Act.put, List.setIfInBounds_toArray, List.set_cons_zero, List.set_cons_succ, List.getElem_toArray, List.getElem_cons_succ, List.getElem_cons_zero]
  refine' wpAnyH_take (i := 4) (v := _) rfl (by kernel_rfl) (by kernel_rfl) (by kernel_rfl) (fun _ _ _ h => h) (Or.inl ⟨by rfl, ?_⟩) hHeld ?_
  rotate_left
  · (intro w hSw; (try dsimp only at hSw); have bx := hSw; obtain ⟨d0, d1, d2, d3, d4, d5, d6⟩ := msg_cells bx.box; go_simp; try with_reducible rfl)
  try simp only [Act.put, List.setIfInBounds_toArray, List.set_cons_zero, List.set_cons_succ, List.getElem_toArray, List.getElem_cons_succ, List.getElem_cons_zero]
  refine' wpAnyH_take (i := 5) (v := _) rfl (by kernel_rfl) (by kernel_rfl) (by kernel_rfl) (fun _ _ _ h => h) (Or.inl ⟨by rfl, ?_⟩) hHeld ?_
  rotate_left
  · (intro w hSw; (try dsimp only at hSw); go_simp; try with_reducible rfl)
  try simp only [Act.put, List.setIfInBounds_toArray, List.set_cons_zero, List.set_cons_succ, List.getElem_toArray, List.getElem_cons_succ, List.getElem_cons_zero]
  refine' wpAnyH_take (i := 7) (v := _) rfl (by kernel_rfl) (by kernel_rfl) (by kernel_rfl) (fun _ _ _ h => h) (Or.inl ⟨by rfl, ?_⟩) hHeld ?_
  rotate_left
  · (intro w hSw; (try dsimp only at hSw); go_simp; try with_reducible rfl)
  try simp only [Act.put, List.setIfInBounds_toArray, List.set_cons_zero, List.set_cons_succ, List.getElem_toArray, List.getElem_cons_succ, List.getElem_cons_zero]
  refine' wpAnyH_take (i := 8) (v := _) rfl (by kernel_rfl) (by kernel_rfl) (by kernel_rfl) (fun _ _ _ h => h) (Or.inl ⟨by rfl, ?_⟩) hHeld ?_
  rotate_left
  · (intro w hSw; (try dsimp only at hSw); have bx := hSw; obtain ⟨d0, d1, d2, d3, d4, d5, d6⟩ := msg_cells bx.box; go_simp; try with_reducible rfl)
  try simp only [Act.put, List.setIfInBounds_toArray, List.set_cons_zero, List.set_cons_succ, List.getElem_toArray, List.getElem_cons_succ, List.getElem_cons_zero]
  refine' wpAnyH_take (i := 9) (v := _) rfl (by kernel_rfl) (by kernel_rfl) (by kernel_rfl) (fun _ _ _ h => h) (Or.inl ⟨by rfl, ?_⟩) hHeld ?_
  rotate_left
  · (intro w hSw; (try dsimp only at hSw); go_simp; try with_reducible rfl)
  try simp only [Act.put, List.setIfInBounds_toArray, List.set_cons_zero, List.set_cons_succ, List.getElem_toArray, List.getElem_cons_succ, List.getElem_cons_zero]
  refine' wpAnyH_take (i := 11) (v := _) rfl (by kernel_rfl) (by kernel_rfl) (by kernel_rfl) (fun _ _ _ h => h) (Or.inl ⟨by rfl, ?_⟩) hHeld ?_
  rotate_left
  · (intro w hSw; (try dsimp only at hSw); go_simp; try with_reducible rfl)
  try simp only [Act.put, List.setIfInBounds_toArray, List.set_cons_zero, List.set_cons_succ, List.getElem_toArray, List.getElem_cons_succ, List.getElem_cons_zero]
  refine' wpAnyH_take (i := 12) (v := _) rfl (by kernel_rfl) (by kernel_rfl) (by kernel_rfl) (fun _ _ _ h => h) (Or.inl ⟨by rfl, ?_⟩) hHeld ?_
  rotate_left
  · (intro w hSw; (try dsimp only at hSw); have bx := hSw; obtain ⟨d0, d1, d2, d3, d4, d5, d6⟩ := msg_cells bx.box; go_simp; try with_reducible rfl)
  try simp only [Act.put, List.setIfInBounds_toArray, List.set_cons_zero, List.set_cons_succ, List.getElem_toArray, List.getElem_cons_succ, List.getElem_cons_zero]
  refine' wpAnyH_take (i := 13) (v := _) rfl (by kernel_rfl) (by kernel_rfl) (by kernel_rfl) (fun _ _ _ h => h) (Or.inl ⟨by rfl, ?_⟩) hHeld ?_
  rotate_left
  · (intro w hSw; (try dsimp only at hSw); go_simp; try with_reducible rfl)
  try simp only [Act.put, List.setIfInBounds_toArray, List.set_cons_zero, List.set_cons_succ, List.getElem_toArray, List.getElem_cons_succ, List.getElem_cons_zero]
  refine wpAnyH_ready (rs := [1]) (by kernel_rfl) (by simp) ?_
  refine AllReadyH.cons (o := _) rfl (fun K hK => ?_) AllReadyH.nil
  try simp only [List.getElem_toArray, List.getElem_cons_succ, List.getElem_cons_zero]
  go_simp
  have hH2 := hHeld
  have bx := hH2
  refine (head_any m _).mono ?_
  rintro e w1001 ⟨rfl, hg⟩
  have L1 := hid (show (BoxM w m w1001) from bx.grown hg)
  clear hHeld hg bx
  go_wp2_with fail
  refine hK.out _ _ ?_ (fun hHeld => ?_)
  · exact L1.out
  clear hK K
  try dsimp only at hHeld
  try simp only [Act.put, List.setIfInBounds_toArray, List.set_cons_zero, List.set_cons_succ, List.getElem_toArray, List.getElem_cons_succ, List.getElem_cons_zero]
  refine wpAnyH_ready (rs := [2]) (by kernel_rfl) (by simp) ?_
  refine AllReadyH.cons (o := _) rfl (fun K hK => ?_) AllReadyH.nil
  try simp only [List.getElem_toArray, List.getElem_cons_succ, List.getElem_cons_zero]
  go_simp
  have hH2 := hHeld
  have bx := hH2
  refine (put_any (headOf m) _).mono ?_
  rintro e w1002 ⟨rfl, ha, hg⟩
  have L2 := hid (show (BoxM w m w1002) from bx.grown hg)
  have Np0 := hid (own_put (headOf m) ha (Nat.le_refl _)).bytes
  clear hHeld hg bx
  go_wp2_with fail
  refine hK.out _ _ ?_ (fun hHeld => ?_)
  · exact L2.out
  clear hK K
  try dsimp only at hHeld
  try simp only [Act.put, List.setIfInBounds_toArray, List.set_cons_zero, List.set_cons_succ, List.getElem_toArray, List.getElem_cons_succ, List.getElem_cons_zero]
  refine held_stronger (S' := fun w' => (fun w' => BytesAt w' (.slice (some ⟨w1001.heap.size, 0, none⟩) 8 8) (put8 (headOf m))) w' ∧ ((fun w' => (BoxM w m w'))) w') (fun _ h => h.2) _ _ _ _ ?_
  replace hHeld := And.intro Np0.out hHeld
  try dsimp only at hHeld
  refine wpAnyH_ready (rs := [6]) (by kernel_rfl) (by simp) ?_
  refine AllReadyH.cons (o := _) rfl (fun K hK => ?_) AllReadyH.nil
  try simp only [List.getElem_toArray, List.getElem_cons_succ, List.getElem_cons_zero]
  go_simp
  have hH2 := hHeld
  obtain ⟨p0, bx⟩ := hH2
  refine (put_any (w64 m.seq) _).mono ?_
  rintro e w1006 ⟨rfl, ha, hg⟩
  have L6 := hid (show (BytesAt w1006 (.slice (some ⟨w1001.heap.size, 0, none⟩) 8 8) (put8 (headOf m))) ∧ (BoxM w m w1006) from ⟨p0.grown hg (by simp), bx.grown hg⟩)
  have Np1 := hid (own_put (w64 m.seq) ha (Nat.le_refl _)).bytes
  clear hHeld hg p0 bx
  go_wp2_with fail
  refine hK.out _ _ ?_ (fun hHeld => ?_)
  · exact L6.out
  clear hK K
  try dsimp only at hHeld
  try simp only [Act.put, List.setIfInBounds_toArray, List.set_cons_zero, List.set_cons_succ, List.getElem_toArray, List.getElem_cons_succ, List.getElem_cons_zero]
  refine held_stronger (S' := fun w' => (fun w' => BytesAt w' (.slice (some ⟨w1002.heap.size, 0, none⟩) 8 8) (put8 (w64 m.seq))) w' ∧ ((fun w' => (BytesAt w' (.slice (some ⟨w1001.heap.size, 0, none⟩) 8 8) (put8 (headOf m))) ∧ (BoxM w m w'))) w') (fun _ h => h.2) _ _ _ _ ?_
  replace hHeld := And.intro Np1.out hHeld
  try dsimp only at hHeld
  refine wpAnyH_ready (rs := [10]) (by kernel_rfl) (by simp) ?_
  refine AllReadyH.cons (o := _) rfl (fun K hK => ?_) AllReadyH.nil
  try simp only [List.getElem_toArray, List.getElem_cons_succ, List.getElem_cons_zero]
  go_simp
  have hH2 := hHeld
  obtain ⟨p1, p0, bx⟩ := hH2
  refine (put_any (w64 m.epoch) _).mono ?_
  rintro e w1010 ⟨rfl, ha, hg⟩
  have L10 := hid (show (BytesAt w1010 (.slice (some ⟨w1002.heap.size, 0, none⟩) 8 8) (put8 (w64 m.seq))) ∧ (BytesAt w1010 (.slice (some ⟨w1001.heap.size, 0, none⟩) 8 8) (put8 (headOf m))) ∧ (BoxM w m w1010) from ⟨p1.grown hg (by simp), p0.grown hg (by simp), bx.grown hg⟩)
  have Np2 := hid (own_put (w64 m.epoch) ha (Nat.le_refl _)).bytes
  clear hHeld hg p1 p0 bx
  go_wp2_with fail
  refine hK.out _ _ ?_ (fun hHeld => ?_)
  · exact L10.out
  clear hK K
  try dsimp only at hHeld
  try simp only [Act.put, List.setIfInBounds_toArray, List.set_cons_zero, List.set_cons_succ, List.getElem_toArray, List.getElem_cons_succ, List.getElem_cons_zero]
  refine held_stronger (S' := fun w' => (fun w' => BytesAt w' (.slice (some ⟨w1006.heap.size, 0, none⟩) 8 8) (put8 (w64 m.epoch))) w' ∧ ((fun w' => (BytesAt w' (.slice (some ⟨w1002.heap.size, 0, none⟩) 8 8) (put8 (w64 m.seq))) ∧ (BytesAt w' (.slice (some ⟨w1001.heap.size, 0, none⟩) 8 8) (put8 (headOf m))) ∧ (BoxM w m w'))) w') (fun _ h => h.2) _ _ _ _ ?_
  replace hHeld := And.intro Np2.out hHeld
  try dsimp only at hHeld
  refine wpAnyH_ready (rs := [14]) (by kernel_rfl) (by simp) ?_
  refine AllReadyH.cons (o := _) rfl (fun K hK => ?_) AllReadyH.nil
  try simp only [List.getElem_toArray, List.getElem_cons_succ, List.getElem_cons_zero]
  go_simp
  have hH2 := hHeld
  obtain ⟨p2, p1, p0, bx⟩ := hH2
  refine (put_any (w64 m.value) _).mono ?_
  rintro e w1014 ⟨rfl, ha, hg⟩
  have L14 := hid (show (BytesAt w1014 (.slice (some ⟨w1006.heap.size, 0, none⟩) 8 8) (put8 (w64 m.epoch))) ∧ (BytesAt w1014 (.slice (some ⟨w1002.heap.size, 0, none⟩) 8 8) (put8 (w64 m.seq))) ∧ (BytesAt w1014 (.slice (some ⟨w1001.heap.size, 0, none⟩) 8 8) (put8 (headOf m))) ∧ (BoxM w m w1014) from ⟨p2.grown hg (by simp), p1.grown hg (by simp), p0.grown hg (by simp), bx.grown hg⟩)
  have Np3 := hid (own_put (w64 m.value) ha (Nat.le_refl _)).bytes
  clear hHeld hg p2 p1 p0 bx
  go_wp2_with fail
  refine hK.out _ _ ?_ (fun hHeld => ?_)
  · exact L14.out
  clear hK K
  try dsimp only at hHeld
  try simp only [Act.put, List.setIfInBounds_toArray, List.set_cons_zero, List.set_cons_succ, List.getElem_toArray, List.getElem_cons_succ, List.getElem_cons_zero]
  refine held_stronger (S' := fun w' => (fun w' => BytesAt w' (.slice (some ⟨w1010.heap.size, 0, none⟩) 8 8) (put8 (w64 m.value))) w' ∧ ((fun w' => (BytesAt w' (.slice (some ⟨w1006.heap.size, 0, none⟩) 8 8) (put8 (w64 m.epoch))) ∧ (BytesAt w' (.slice (some ⟨w1002.heap.size, 0, none⟩) 8 8) (put8 (w64 m.seq))) ∧ (BytesAt w' (.slice (some ⟨w1001.heap.size, 0, none⟩) 8 8) (put8 (headOf m))) ∧ (BoxM w m w'))) w') (fun _ h => h.2) _ _ _ _ ?_
  replace hHeld := And.intro Np3.out hHeld
  try dsimp only at hHeld
  refine wpAnyH_ready (rs := [15]) (by kernel_rfl) (by simp) ?_
  refine AllReadyH.cons (o := _) rfl (fun K hK => ?_) AllReadyH.nil
  have hH2 := hHeld
  obtain ⟨p3, p2, p1, p0, bx⟩ := hH2
  have hg : w1014.grownBy (w1014.alloc (.cells #[.slice (some ⟨w1001.heap.size, 0, none⟩) 8 8, .slice (some ⟨w1002.heap.size, 0, none⟩) 8 8, .slice (some ⟨w1006.heap.size, 0, none⟩) 8 8, .slice (some ⟨w1010.heap.size, 0, none⟩) 8 8] 29)) none := World.grownBy_alloc _ _ _
  have L15 := hid (show (BytesAt ((w1014.alloc (.cells #[.slice (some ⟨w1001.heap.size, 0, none⟩) 8 8, .slice (some ⟨w1002.heap.size, 0, none⟩) 8 8, .slice (some ⟨w1006.heap.size, 0, none⟩) 8 8, .slice (some ⟨w1010.heap.size, 0, none⟩) 8 8] 29))) (.slice (some ⟨w1010.heap.size, 0, none⟩) 8 8) (put8 (w64 m.value))) ∧ (BytesAt ((w1014.alloc (.cells #[.slice (some ⟨w1001.heap.size, 0, none⟩) 8 8, .slice (some ⟨w1002.heap.size, 0, none⟩) 8 8, .slice (some ⟨w1006.heap.size, 0, none⟩) 8 8, .slice (some ⟨w1010.heap.size, 0, none⟩) 8 8] 29))) (.slice (some ⟨w1006.heap.size, 0, none⟩) 8 8) (put8 (w64 m.epoch))) ∧ (BytesAt ((w1014.alloc (.cells #[.slice (some ⟨w1001.heap.size, 0, none⟩) 8 8, .slice (some ⟨w1002.heap.size, 0, none⟩) 8 8, .slice (some ⟨w1006.heap.size, 0, none⟩) 8 8, .slice (some ⟨w1010.heap.size, 0, none⟩) 8 8] 29))) (.slice (some ⟨w1002.heap.size, 0, none⟩) 8 8) (put8 (w64 m.seq))) ∧ (BytesAt ((w1014.alloc (.cells #[.slice (some ⟨w1001.heap.size, 0, none⟩) 8 8, .slice (some ⟨w1002.heap.size, 0, none⟩) 8 8, .slice (some ⟨w1006.heap.size, 0, none⟩) 8 8, .slice (some ⟨w1010.heap.size, 0, none⟩) 8 8] 29))) (.slice (some ⟨w1001.heap.size, 0, none⟩) 8 8) (put8 (headOf m))) ∧ (BoxM w m ((w1014.alloc (.cells #[.slice (some ⟨w1001.heap.size, 0, none⟩) 8 8, .slice (some ⟨w1002.heap.size, 0, none⟩) 8 8, .slice (some ⟨w1006.heap.size, 0, none⟩) 8 8, .slice (some ⟨w1010.heap.size, 0, none⟩) 8 8] 29)))) from ⟨p3.grown hg (by simp), p2.grown hg (by simp), p1.grown hg (by simp), p0.grown hg (by simp), bx.grown hg⟩)
  have Nrw := hid (rows_four (at_new w1014 _) (p0.grown hg (by simp)) (p1.grown hg (by simp)) (p2.grown hg (by simp)) (p3.grown hg (by simp)))
  clear hHeld hg p3 p2 p1 p0 bx
  try simp only [List.getElem_toArray, List.getElem_cons_succ, List.getElem_cons_zero]
  go_simp
  refine hK.out _ _ ?_ (fun hHeld => ?_)
  · exact L15.out
  clear hK K
  try dsimp only at hHeld
  try simp only [Act.put, List.setIfInBounds_toArray, List.set_cons_zero, List.set_cons_succ, List.getElem_toArray, List.getElem_cons_succ, List.getElem_cons_zero]
  refine held_stronger (S' := fun w' => (fun w' => RowsAt w' (.slice (some ⟨w1014.heap.size, 0, none⟩) 4 4) (rowsOf m w1001.heap.size w1002.heap.size w1006.heap.size w1010.heap.size)) w' ∧ ((fun w' => (BytesAt w' (.slice (some ⟨w1010.heap.size, 0, none⟩) 8 8) (put8 (w64 m.value))) ∧ (BytesAt w' (.slice (some ⟨w1006.heap.size, 0, none⟩) 8 8) (put8 (w64 m.epoch))) ∧ (BytesAt w' (.slice (some ⟨w1002.heap.size, 0, none⟩) 8 8) (put8 (w64 m.seq))) ∧ (BytesAt w' (.slice (some ⟨w1001.heap.size, 0, none⟩) 8 8) (put8 (headOf m))) ∧ (BoxM w m w'))) w') (fun _ h => h.2) _ _ _ _ ?_
  replace hHeld := And.intro Nrw.out hHeld
  try dsimp only at hHeld
  refine wpAnyH_ready (rs := [16]) (by kernel_rfl) (by simp) ?_
  refine AllReadyH.cons (o := _) rfl (fun K hK => ?_) AllReadyH.nil
  try simp only [List.getElem_toArray, List.getElem_cons_succ, List.getElem_cons_zero]
  go_simp
  have hH2 := hHeld
  obtain ⟨rw, p3, p2, p1, p0, bx⟩ := hH2
  refine (concat_any (rowsOf m w1001.heap.size w1002.heap.size w1006.heap.size w1010.heap.size) _ _ rw (by rw [rowsOf_flat, putOf_length]; decide) (by rw [rowsOf_flat, putOf_length]; decide)).mono ?_
  rintro e w1016 ⟨u, rfl, ho, hg⟩
  have L16 := hid (show (RowsAt w1016 (.slice (some ⟨w1014.heap.size, 0, none⟩) 4 4) (rowsOf m w1001.heap.size w1002.heap.size w1006.heap.size w1010.heap.size)) ∧ (BytesAt w1016 (.slice (some ⟨w1010.heap.size, 0, none⟩) 8 8) (put8 (w64 m.value))) ∧ (BytesAt w1016 (.slice (some ⟨w1006.heap.size, 0, none⟩) 8 8) (put8 (w64 m.epoch))) ∧ (BytesAt w1016 (.slice (some ⟨w1002.heap.size, 0, none⟩) 8 8) (put8 (w64 m.seq))) ∧ (BytesAt w1016 (.slice (some ⟨w1001.heap.size, 0, none⟩) 8 8) (put8 (headOf m))) ∧ (BoxM w m w1016) from ⟨rw.grown hg, p3.grown hg (by simp), p2.grown hg (by simp), p1.grown hg (by simp), p0.grown hg (by simp), bx.grown hg⟩)
  have Nou := hid ((rowsOf_flat m _ _ _ _ ▸ ho : OwnB _ _ u (putOf m)).le (by have := gb_size (World.grownBy_alloc w1014 (.cells #[.slice (some ⟨w1001.heap.size, 0, none⟩) 8 8, .slice (some ⟨w1002.heap.size, 0, none⟩) 8 8, .slice (some ⟨w1006.heap.size, 0, none⟩) 8 8, .slice (some ⟨w1010.heap.size, 0, none⟩) 8 8] 29) none); exact this))
  clear hHeld hg rw p3 p2 p1 p0 bx
  go_wp2_with fail
  refine hK.out _ _ ?_ (fun hHeld => ?_)
  · exact L16.out
  clear hK K
  try dsimp only at hHeld
  try simp only [Act.put, List.setIfInBounds_toArray, List.set_cons_zero, List.set_cons_succ, List.getElem_toArray, List.getElem_cons_succ, List.getElem_cons_zero]
  refine held_stronger (S' := fun w' => (fun w' => OwnB w1014.heap.size w' u (putOf m)) w' ∧ ((fun w' => (RowsAt w' (.slice (some ⟨w1014.heap.size, 0, none⟩) 4 4) (rowsOf m w1001.heap.size w1002.heap.size w1006.heap.size w1010.heap.size)) ∧ (BytesAt w' (.slice (some ⟨w1010.heap.size, 0, none⟩) 8 8) (put8 (w64 m.value))) ∧ (BytesAt w' (.slice (some ⟨w1006.heap.size, 0, none⟩) 8 8) (put8 (w64 m.epoch))) ∧ (BytesAt w' (.slice (some ⟨w1002.heap.size, 0, none⟩) 8 8) (put8 (w64 m.seq))) ∧ (BytesAt w' (.slice (some ⟨w1001.heap.size, 0, none⟩) 8 8) (put8 (headOf m))) ∧ (BoxM w m w'))) w') (fun _ h => h.2) _ _ _ _ ?_
  replace hHeld := And.intro Nou.out hHeld
  try dsimp only at hHeld
  refine' wpAnyH_take (i := 17) (v := _) rfl (by kernel_rfl) (by kernel_rfl) (by kernel_rfl) (fun _ _ _ h => h) (Or.inl ⟨by rfl, ?_⟩) hHeld ?_
  rotate_left
  · (intro w hSw; (try dsimp only at hSw); go_simp; try with_reducible rfl)
  try simp only [Act.put, List.setIfInBounds_toArray, List.set_cons_zero, List.set_cons_succ, List.getElem_toArray, List.getElem_cons_succ, List.getElem_cons_zero]
  refine' wpAnyH_take (i := 18) (v := _) rfl (by kernel_rfl) (by kernel_rfl) (by kernel_rfl) (fun _ _ _ h => h) (Or.inl ⟨by rfl, ?_⟩) hHeld ?_
  rotate_left
  · (intro w hSw; (try dsimp only at hSw); go_simp; try with_reducible rfl)
  try simp only [Act.put, List.setIfInBounds_toArray, List.set_cons_zero, List.set_cons_succ, List.getElem_toArray, List.getElem_cons_succ, List.getElem_cons_zero]
  refine wpAnyH_done (by kernel_rfl) ?_ _
  obtain ⟨ou, rw, p3, p2, p1, p0, bx⟩ := hHeld
  have BX := hid bx; have OU := hid ou; have SZ := hid (gb_size L14.out.2.2.2.g); clear ou rw p3 p2 p1 p0 bx
  go_wp2_with fail
  go_ret2
  exact ⟨_, rfl, OU.out.le SZ.out, BX.out.g⟩
end Go.Proofs.Ytngfnigfkabihaa
end
section
set_option linter.unusedSimpArgs false
set_option linter.unusedVariables false
namespace Go.Proofs.Ytngfnigfkabihaa
set_option maxRecDepth 100000
open Go.RowKit

/-- a tag's bytes -/
def tagB (k0 k1 : BitVec 64) (l : List UInt8) : List UInt8 := put8 (sumOf k0 k1 l) ++ put8 (sumOf k1 (inv k0) l)
theorem tagB_length (k0 k1 : BitVec 64) (l : List UInt8) : (tagB k0 k1 l).length = 16 := rfl
def sealOf (k0 k1 : BitVec 64) (m : Mg) : List UInt8 := putOf m ++ tagB k0 k1 (putOf m)
theorem sealOf_length (k0 k1 : BitVec 64) (m : Mg) : (sealOf k0 k1 m).length = 48 := rfl

/-- the function's own blocks: the key and the message that came in; all else as it was, or new -/
structure KM (w : World) (k0 k1 : BitVec 64) (m : Mg) (w' : World) : Prop where
  key : w'.heap[w.heap.size]? = some (.cells #[.int .u64 (q k0), .int .u64 (q k1)] 61)
  msg : w'.heap[w.heap.size + 1]? = some (.cells m.cells 46)
  g : w.grownBy w' none
theorem KM.grown {w : World} {k0 k1 : BitVec 64} {m : Mg} {w1 w2 : World} (h : KM w k0 k1 m w1) (hg : w1.grownBy w2 none) : KM w k0 k1 m w2 := ⟨at_grown h.key hg (by simp), at_grown h.msg hg (by simp), gb_trans h.g hg (.inl rfl)⟩
theorem km_new (w : World) (k0 k1 : BitVec 64) (m : Mg) : KM w k0 k1 m ((w.alloc (.cells #[.int .u64 (q k0), .int .u64 (q k1)] 61)).alloc (.cells m.cells 46)) :=
  ⟨at_alloc (at_new w _) _, by rw [← size_alloc w (.cells #[.int .u64 (q k0), .int .u64 (q k1)] 61)]; exact at_new _ _, gb_alloc (gb_alloc (.refl w none) _) _⟩

set_option maxHeartbeats 1600000 in
theorem seal_bad (k0 k1 : BitVec 64) (m : Mg) (hm : mayOf m = false) (w : World) :
    Calls Try.prog 37 #[pair k0 k1, mg m] w fun e w' => e = .returned (.tuple #[.slice none 0 0, .int .i64 1]) ∧ w.grownBy w' none := by
  have C := hid (fun w => wput_bad m hm w)
  have K := hid (km_new w k0 k1 m)
  clear hm
  go_enter Try.func37, Try.ntmps37
  go_wp2_with (refine wpList_row K.out.msg Try.underlying46 rfl (by kernel_rfl) rfl rfl rfl rfl ?_)
  refine (C.out _).mono ?_
  rintro e w1 ⟨rfl, hg⟩
  have G := hid (gb_trans K.out.g hg (.inl rfl)); clear hg
  go_wp2_with fail
  go_ret2
  exact ⟨rfl, G.out⟩

set_option maxHeartbeats 3200000 in
theorem seal_good (k0 k1 : BitVec 64) (m : Mg) (hm : mayOf m = true) (w : World) :
    Calls Try.prog 37 #[pair k0 k1, mg m] w fun e w' => ∃ v, e = .returned (.tuple #[v, .int .i64 0]) ∧ OwnB w.heap.size w' v (sealOf k0 k1 m) ∧ w.grownBy w' none := by
  have C := hid (fun w => wput_good m hm w)
  have K := hid (km_new w k0 k1 m)
  clear hm
  obtain ⟨l, hl⟩ : ∃ l, putOf m = l := ⟨_, rfl⟩
  have hll : l.length = 32 := by rw [← hl]; rfl
  unfold sealOf tagB
  rw [hl] at C ⊢
  have LL := hid hll; clear hl hll
  obtain ⟨a, ha⟩ : ∃ a, sumOf k0 k1 l = a := ⟨_, rfl⟩
  obtain ⟨b, hb⟩ : ∃ b, sumOf k1 (inv k0) l = b := ⟨_, rfl⟩
  have T := hid (fun v w h => tag_any k0 k1 v l w h)
  rw [ha, hb] at T ⊢
  clear ha hb
  go_enter Try.func37, Try.ntmps37
  go_wp2_with (refine wpList_row K.out.msg Try.underlying46 rfl (by kernel_rfl) rfl rfl rfl rfl ?_)
  refine (C.out _).mono ?_
  rintro e w1 ⟨v, rfl, ho, hg⟩
  have ho' := ho.le (gb_size K.out.g)
  have K1 := hid (K.out.grown hg); have O1 := hid ho'; clear ho ho' hg K
  obtain ⟨c0, c1⟩ := pair_cells K1.out.key
  go_wp2_with fail
  clear c0 c1
  refine (T.out _ _ O1.out.bytes).mono ?_
  rintro e w2 ⟨rfl, hg⟩
  have K2 := hid (K1.out.grown hg); have O2 := hid (O1.out.grown hg (by simp)); clear hg K1 O1
  go_wp2_with fail
  refine (bytes_any a b _).mono ?_
  rintro e w3 ⟨u, rfl, hu, hg⟩
  have K3 := hid (K2.out.grown hg); have O3 := hid (O2.out.grown hg (by simp)); have U3 := hid hu.bytes; clear hg K2 O2 hu
  have hs : w.heap.size ≤ w3.heap.size := gb_size K3.out.g
  go_wp2_with (refine append_bytes rfl _ _ rfl w.heap.size _ _ rfl O3.out _ _ rfl U3.out (by rw [LL.out]; simp [put8_length]) hs ?_; intro u1 w4 o4 g4 a4)
  go_ret2
  exact ⟨_, rfl, o4, gb_own K3.out.g O3.out (Nat.le_refl _) g4⟩

set_option maxHeartbeats 1600000 in
/-- bytes in a slice that is not nil, copied -/
theorem clone_some (a : Addr) (n c : Nat) (l : List UInt8) (hn : l.length = n) (h1 : n ≤ 100000) (w : World) (hl : BytesAt w (.slice (some a) n c) l) :
    Calls Try.prog 50 #[.slice (some a) n c] w fun e w' => ∃ v, e = .returned v ∧ OwnB w.heap.size w' v l ∧ w.grownBy w' none := by
  have HL := hid hl; have HN := hid hn; clear hl hn
  have hnil := Lib.run_eql_slice_nil w 29 5 (some a) n c 0 0 Try.underlying29
  have he := OwnB.empty w
  have HE := hid he; clear he
  have BA := hid (HL.out.alloc (.cells #[] 5))
  go_enter Try.func50, Try.ntmps50
  go_wp2_with (refine append_bytes rfl _ _ rfl w.heap.size _ [] rfl HE.out _ l rfl BA.out (by rw [HN.out]; simp; omega) (gb_size (gb_alloc (.refl w none) _)) ?_; intro u1 w4 o4 g4 a4)
  go_ret
  exact ⟨_, rfl, by simpa using o4, gb_own (gb_alloc (.refl w none) _) HE.out (Nat.le_refl _) g4⟩
end Go.Proofs.Ytngfnigfkabihaa
end
