/-
  Contracts for the program's hash with a key: a hash is made under a key; the sum of bytes under a key at once: it is the sum that the plain functions say. No condition but that the bytes read as bytes. And 5 texts more that this one stands on. No condition.
-/
import Derived.Test.YtgpdcapnnejdeaaGreatY3
import Derived.Laws.AppendOwnNone
import Derived.Maps.AppendAt
section
namespace Go.Proofs.YtgpdcapnnejdeaaGreat
set_option maxRecDepth 100000
open Go.RowKit

def St.new (k0 k1 : BitVec 64) : St := ⟨keyed k0 k1, 0, 0⟩
def sumOf (k0 k1 : BitVec 64) (l : List UInt8) : BitVec 64 := (l.foldl St.add (St.new k0 k1)).sum

theorem size_alloc (w : World) (o : Obj) : (w.alloc o).heap.size = w.heap.size + 1 := by show (w.heap.push o).size = _; simp
theorem at_new2 (w : World) (o o' : Obj) : ((w.alloc o).alloc o').heap[w.heap.size + 1]? = some o' := by
 have := at_new (w.alloc o) o'
 rwa [show (w.alloc o).heap.size = w.heap.size + 1 from by show (w.heap.push o).size = _; simp] at this

set_option maxHeartbeats 800000 in
theorem new_any (k0 k1 : BitVec 64) (w : World) :
  Calls Tryz.prog 115 #[.agg #[.int .u64 (q k0), .int .u64 (q k1)]] w fun e w' => e = .returned (.pointer (some ⟨w.heap.size + 1, 0, none⟩)) ∧ w'.heap[w.heap.size + 1]? = some (St.new k0 k1).obj ∧ w.grownBy w' none := by
 go_enter Tryz.func115, Tryz.ntmps115
 go_wp2_with fail
 refine (begin_first (w.heap.size + 1) k0 k1 0 0 0 0 0 0 _ (at_new2 w _ _)).mono ?_
 rintro e w1 ⟨rfl, h1, h2⟩
 have H1 := hid h1; have H2 := hid h2; clear h1 h2
 go_wp2_with fail
 go_ret
 exact ⟨rfl, H1.out, gb_trans (gb_alloc (gb_alloc (.refl w none) _) _) H2.out (.inr (.inr ⟨_, rfl, by omega⟩))⟩

set_option maxHeartbeats 800000 in
theorem sum_any (k0 k1 : BitVec 64) (l : List UInt8) (v : Value) (w : World) (hl : BytesAt w v l) :
  Calls Tryz.prog 85 #[.agg #[.int .u64 (q k0), .int .u64 (q k1)], v] w fun e w' => e = .returned (.int .u64 (q (sumOf k0 k1 l))) ∧ w.grownBy w' none := by
 have HL := hid hl; have HT := hid hl.lt; clear hl
 go_enter Tryz.func85, Tryz.ntmps85
 go_wp2_with fail
 refine (new_any k0 k1 _).mono ?_
 rintro e w1 ⟨rfl, h1, h2⟩
 have h1' : w1.heap[w.heap.size + 1 + 1]? = some (St.new k0 k1).obj := by rw [size_alloc] at h1; exact h1
 have H1 := hid h1'; have H2 := hid (gb_trans (gb_alloc (.refl w none) _) h2 (.inl rfl)); clear h1 h2 h1'
 go_wp2_with fail
 have hl1 := HL.out.grown H2.out (by simp)
 refine (write_any _ _ l _ _ H1.out hl1 (HT.out.elim .inl fun h => .inr fun a n c e => by have := h a n c e; omega)).mono ?_
 rintro e w2 ⟨rfl, h3, h4⟩
 have H3 := hid h3; have H4 := hid h4; clear h3 h4 hl1
 go_wp2_with fail
 refine (hsum_any _ _ _ H3.out).mono ?_
 rintro e w3 ⟨rfl, h5⟩
 have H5 := hid h5; clear h5
 go_wp2_with fail
 go_ret
 exact ⟨rfl, gb_trans (gb_trans H2.out H4.out (.inr (.inr ⟨_, rfl, by omega⟩))) H5.out (.inl rfl)⟩
end Go.Proofs.YtgpdcapnnejdeaaGreat
end
section
namespace Go.Proofs.YtgpdcapnnejdeaaGreat
set_option maxRecDepth 100000
open Go.RowKit

def putByte (n : BitVec 64) (i : Nat) : UInt8 := UInt8.ofNat (n >>> (8 * i)).toNat
def put8 (n : BitVec 64) : List UInt8 := [putByte n 0, putByte n 1, putByte n 2, putByte n 3, putByte n 4, putByte n 5, putByte n 6, putByte n 7]
theorem put8_length (n : BitVec 64) : (put8 n).length = 8 := rfl
def putArr (n : BitVec 64) (k : Nat) : Array Value := Array.ofFn (n := 8) fun j => .int .u8 (if j.val < k then ((putByte n j.val).toNat : Int) else 0)
theorem putArr_full (n : BitVec 64) : putArr n 8 = ((put8 n).map fun c => Value.int .u8 (c.toNat : Int)).toArray := rfl
theorem putArr_cell (n : BitVec 64) (k j : Nat) (h : j < 8) : (putArr n k)[j]? = some (.int .u8 (if j < k then ((putByte n j).toNat : Int) else 0)) := by
 unfold putArr; rw [Array.getElem?_ofFn]; simp [h]
theorem putArr_set (n : BitVec 64) (k : Nat) (h : k < 8) : (putArr n k).setIfInBounds k (.int .u8 ((putByte n k).toNat : Int)) = putArr n (k + 1) := by
 apply Array.ext_getElem?
 intro j
 rw [Array.getElem?_setIfInBounds]
 have hs : (putArr n k).size = 8 := by unfold putArr; simp
 by_cases hj : j < 8
 ·rw [putArr_cell n k j hj, putArr_cell n (k + 1) j hj]
  by_cases e : k = j
  ·subst e; simp [hs, h]
  ·by_cases h1 : j < k
   ·simp [e, h1]; omega
   ·simp [e, h1]; omega
 ·have h1 : (putArr n k)[j]? = none := Array.getElem?_eq_none (by omega)
  have hs' : (putArr n (k + 1)).size = 8 := by unfold putArr; simp
  have h2 : (putArr n (k + 1))[j]? = none := Array.getElem?_eq_none (by omega)
  rw [h1, h2]
  by_cases e : k = j
  ·omega
  ·simp [e]
theorem byte_wrap (x : BitVec 64) : IntKind.u8.wrap (q x) = ((UInt8.ofNat x.toNat).toNat : Int) := by
 unfold q
 simp [IntKind.wrap, IntKind.bits, IntKind.signed]

theorem mk8 (w : World) : (Instr.makeSlice 40 (.int .i64 8) (.int .i64 8)).run Tryz.prog w = .ok (.slice (some ⟨w.heap.size, 0, none⟩) 8 8) (w.alloc (.cells #[.int .u8 0, .int .u8 0, .int .u8 0, .int .u8 0, .int .u8 0, .int .u8 0, .int .u8 0, .int .u8 0] 5)) := by kernel_rfl

set_option maxHeartbeats 800000 in
theorem put_any (n : BitVec 64) (w : World) :
  Calls Tryz.prog 83 #[.int .u64 (q n)] w fun e w' => e = .returned (.slice (some ⟨w.heap.size, 0, none⟩) 8 8) ∧ w'.heap[w.heap.size]? = some (.cells (putArr n 8) 5) ∧ w.grownBy w' none := by
 have hm := mk8 w
 go_enter Tryz.func83, Tryz.ntmps83
 go_wp2_with fail
 clear hm
 go_loopw [8] (fun i wr => ∃ k : Nat, k ≤ 8 ∧ i = .int .i64 (k : Int) ∧ wr.heap[w.heap.size]? = some (.cells (putArr n k) 5) ∧ w.grownBy wr none) (fun i _ => 8 - (intOf i).toNat)
 case atStart => exact ⟨0, by omega, rfl, at_new w _, gb_alloc (.refl w none) _⟩
 case round =>
  obtain ⟨k, hk, rfl, hb, hg⟩ := hrel
  have HB := hid hb; have HG := hid hg; clear hb hg
  by_cases hlt : k < 8
  ·have c0 : wr.cell? ⟨w.heap.size, k, none⟩ = some (.int .u8 0) := by rw [at_cell HB.out k, putArr_cell n k k hlt]; simp
   have f0 : wr.frozen? ⟨w.heap.size, k, none⟩ = false := at_free HB.out k
   have hk0 : (0 : Int) ≤ (k : Int) := by omega
   have hk1 : (k : Int) < 8 := by omega
   have hbw := byte_wrap (n >>> (8 * k))
   go_wp2_with fail
   go_roundw
   case rel => exact ⟨k + 1, by omega, by go_num, by rw [← putArr_set n k hlt]; exact at_set HB.out k _, gb_new HG.out (Nat.le_refl _) _⟩
   case measure => simp [intOf]; omega
  ·have hk8 : k = 8 := by omega
   subst hk8
   go_wp2_with fail
   go_ret
   exact ⟨rfl, HB.out, HG.out⟩

theorem putArr_at (n : BitVec 64) {w : World} {b : Nat} (h : w.heap[b]? = some (.cells (putArr n 8) 5)) (j : Nat) (hj : j < (put8 n).length) : w.cell? ((⟨b, 0, none⟩ : Addr).add j) = some (.int .u8 (((put8 n)[j]).toNat : Int)) := by
 have e : (⟨b, 0, none⟩ : Addr).add j = ⟨b, j, none⟩ := by unfold Addr.add; split <;> simp_all
 rw [e, at_cell h j, putArr_full]
 simp [List.getElem?_map, List.getElem?_eq_getElem hj]

set_option maxHeartbeats 800000 in
theorem refput_any (n : BitVec 64) (w : World) :
  Calls Tryz.prog 90 #[.int .u64 (q n)] w fun e w' => e = .returned (.string ⟨(put8 n).toArray⟩) ∧ w.grownBy w' none := by
 have hm := mk8 w
 go_enter Tryz.func90, Tryz.ntmps90
 go_wp2_with fail
 clear hm
 go_loopw [4] (fun i wr => ∃ k : Nat, k ≤ 8 ∧ i = .int .i64 (k : Int) ∧ wr.heap[w.heap.size]? = some (.cells (putArr n k) 5) ∧ w.grownBy wr none) (fun i _ => 8 - (intOf i).toNat)
 case atStart => exact ⟨0, by omega, rfl, at_new w _, gb_alloc (.refl w none) _⟩
 case round =>
  obtain ⟨k, hk, rfl, hb, hg⟩ := hrel
  have HB := hid hb; have HG := hid hg; clear hb hg
  by_cases hlt : k < 8
  ·have c0 : wr.cell? ⟨w.heap.size, k, none⟩ = some (.int .u8 0) := by rw [at_cell HB.out k, putArr_cell n k k hlt]; simp
   have f0 : wr.frozen? ⟨w.heap.size, k, none⟩ = false := at_free HB.out k
   have hk0 : (0 : Int) ≤ (k : Int) := by omega
   have hk1 : (k : Int) < 8 := by omega
   have hbw := byte_wrap (n >>> (8 * k))
   go_wp2_with fail
   go_roundw
   case rel => exact ⟨k + 1, by omega, by go_num, by rw [← putArr_set n k hlt]; exact at_set HB.out k _, gb_new HG.out (Nat.le_refl _) _⟩
   case measure => simp [intOf]; omega
  ·have hk8 : k = 8 := by omega
   subst hk8
   have hcv : (convert 40 9 (.slice (some ⟨w.heap.size, 0, none⟩) 8 8)).run Tryz.prog wr = .ok (.string ⟨(put8 n).toArray⟩) wr :=
    run_convert_bytes_back wr 40 9 5 ⟨w.heap.size, 0, none⟩ 8 (put8 n) Tryz.underlying40 Tryz.underlying5 Tryz.underlying9 (putArr_at n HB.out)
   go_wp2_with fail
   go_ret
   exact ⟨rfl, HG.out⟩
end Go.Proofs.YtgpdcapnnejdeaaGreat
end
section
namespace Go.Proofs.YtgpdcapnnejdeaaGreat
set_option maxRecDepth 100000
open Go.RowKit

def byteAt (l : List UInt8) (i : Nat) : UInt8 := l.getD i 0
theorem byteAt_eq {l : List UInt8} {i : Nat} (h : i < l.length) : byteAt l i = l[i] := by simp [byteAt, h]
def wordAt (l : List UInt8) (m : Nat) : Nat → BitVec 64
 | 0 => 0
 | k + 1 => wordAt l m k ||| (BitVec.ofNat 64 (byteAt l (m + k)).toNat <<< (8 * k))

theorem wordAt_succ (l : List UInt8) (m k : Nat) : wordAt l m k ||| (BitVec.ofNat 64 (byteAt l (m + k)).toNat <<< (8 * k)) = wordAt l m (k + 1) := rfl
set_option maxHeartbeats 800000 in
theorem get_in (l : List UInt8) (v : Value) (m : Nat) (w : World) (hl : BytesAt w v l) (hm : m + 8 ≤ l.length) :
  Calls Tryz.prog 125 #[v, .int .i64 (m : Int)] w fun e w' => e = .returned (.tuple #[.int .u64 (q (wordAt l m 8)), .int .i64 0]) ∧ w = w' := by
 have hle := hl.le
 unfold maxLen at hle
 obtain ⟨ab, ao, cap, rfl, hc⟩ := hl.cells (by omega)
 have hcap : l.length ≤ cap := by
  rcases hl with ⟨h, _⟩ | ⟨_, _, h, h2, _⟩
  ·cases h
  ·cases h; exact h2
 have HC := hid hc; clear hc
 have hm0 : (0 : Int) ≤ (m : Int) := by omega
 have hm1 : (m : Int) + 8 ≤ (l.length : Int) := by omega
 have hm2 : (m : Int) + 8 ≤ (cap : Int) := by omega
 have hd1 : decide ((m : Int) < 0) = false := by simp
 have hd2 : decide ((l.length : Int) - 8 < (m : Int)) = false := by simp; omega
 clear hl
 go_enter Tryz.func125, Tryz.ntmps125
 go_wp2_with fail
 go_loop [24, 6] (fun i n => ∃ k : Nat, k ≤ 8 ∧ i = .int .i64 (k : Int) ∧ n = .int .u64 (q (wordAt l m k))) (fun i _ => 8 - (intOf i).toNat)
 case atStart => exact ⟨0, by omega, rfl, rfl⟩
 case round =>
  obtain ⟨k, hk, rfl, rfl⟩ := hrel
  by_cases hlt : k < 8
  ·have c0 : w.cell? ⟨ab, ao + m + k, none⟩ = some (.int .u8 (((byteAt l (m + k)).toNat : Nat) : Int)) := by
    have := HC.out (m + k) (by omega)
    rw [show ao + m + k = ao + (m + k) by omega, this]
    rw [byteAt_eq (show m + k < l.length by omega)]
   have hk0 : (0 : Int) ≤ (k : Int) := by omega
   have hk1 : (k : Int) < 8 := by omega
   have hk2 : k < m + 8 - m := by omega
   have hbq := byte_q (byteAt l (m + k))
   have hwd := wordAt_succ l m k
   go_wp2_with fail
   go_round
   case rel => exact ⟨k + 1, by omega, by go_num, rfl⟩
   case measure => simp [intOf]; omega
  ·have hk8 : k = 8 := by omega
   subst hk8
   go_wp2_with fail
   go_ret2
   exact ⟨rfl, rfl⟩

theorem byteAt_bytes (s : ByteArray) (i : Nat) (h : i < s.size) : byteAt s.data.toList i = s[i] := by
 rw [byteAt_eq (by simpa using h)]; rfl

set_option maxHeartbeats 800000 in
theorem refget_in (s : ByteArray) (m : Nat) (w : World) (hn : s.size ≤ maxLen) (hm : m + 8 ≤ s.size) :
  Calls Tryz.prog 98 #[.string s, .int .i64 (m : Int)] w fun e w' => e = .returned (.tuple #[.int .u64 (q (wordAt s.data.toList m 8)), .int .i64 0]) ∧ w = w' := by
 unfold maxLen at hn
 have hm0 : (0 : Int) ≤ (m : Int) := by omega
 have hm1 : (m : Int) + 8 ≤ (s.size : Int) := by omega
 have hd1 : decide ((m : Int) < 0) = false := by simp
 have hd2 : decide (s.size < m) = false := by simp; omega
 have hd3 : decide ((s.size : Int) - (m : Int) < 8) = false := by simp; omega
 go_enter Tryz.func98, Tryz.ntmps98
 go_wp2_with fail
 go_loop [7, 6] (fun i n => ∃ k : Nat, k ≤ 8 ∧ i = .int .i64 (k : Int) ∧ n = .int .u64 (q (wordAt s.data.toList m k))) (fun i _ => 8 - (intOf i).toNat)
 case atStart => exact ⟨0, by omega, rfl, rfl⟩
 case round =>
  obtain ⟨k, hk, rfl, rfl⟩ := hrel
  by_cases hlt : k < 8
  ·have hk0 : (0 : Int) ≤ (k : Int) := by omega
   have hk1 : (k : Int) < 8 := by omega
   have hk2 : m + k < s.size := by omega
   have hb := byteAt_bytes s (m + k) hk2
   have hbq := byte_q s[m + k]
   have hwd := wordAt_succ s.data.toList m k
   rw [hb] at hwd
   clear hb
   go_wp2_with fail
   go_round
   case rel => exact ⟨k + 1, by omega, by go_num, rfl⟩
   case measure => simp [intOf]; omega
  ·have hk8 : k = 8 := by omega
   subst hk8
   go_wp2_with fail
   go_ret2
   exact ⟨rfl, rfl⟩
end Go.Proofs.YtgpdcapnnejdeaaGreat
end
section
namespace Go.Proofs.YtgpdcapnnejdeaaGreat
set_option maxRecDepth 100000
open Go.RowKit

def bv (c : UInt8) : Value := .int .u8 (c.toNat : Int)
def OwnB (base : Nat) (w : World) (v : Value) (l : List UInt8) : Prop := w.ownsRow base 5 1 v l.length (l.map bv)

theorem OwnB.bytes {base : Nat} {w : World} {v : Value} {l : List UInt8} (h : OwnB base w v l) : BytesAt w v l := by
 obtain ⟨_, h | ⟨g, cap, cur, rfl, _, hh, h1, h2, h3, h4⟩⟩ := h
 ·exact .inl ⟨h.1, by simpa using h.2⟩
 ·refine .inr ⟨_, cap, rfl, h1, h2, fun i hi => ?_⟩
  have e : (⟨g, 0, none⟩ : Addr).add i = ⟨g, i, none⟩ := by unfold Addr.add; split <;> simp_all
  rw [e, at_cell hh i]
  have hc : cur.toList[i]? = (l.map bv)[i]? := by
   rw [← h4, Nat.mul_one, List.getElem?_take]; simp [hi]
  rw [← Array.getElem?_toList, hc]
  simp [List.getElem?_map, List.getElem?_eq_getElem hi, bv]
theorem OwnB.form {base : Nat} {w : World} {v : Value} {l : List UInt8} (h : OwnB base w v l) : ∃ p c, v = .slice p l.length c := by
 obtain ⟨_, h | ⟨g, cap, cur, rfl, _⟩⟩ := h
 ·exact ⟨none, 0, by rw [h.1, h.2]⟩
 ·exact ⟨_, _, rfl⟩
theorem OwnB.at {base : Nat} {w : World} {v : Value} {l : List UInt8} (h : OwnB base w v l) : ∀ a n c, v = .slice (some a) n c → base ≤ a.block ∧ a.block < w.heap.size := by
 intro a n c e
 obtain ⟨_, h | ⟨g, cap, cur, rfl, hb, hh, _⟩⟩ := h
 ·rw [h.1] at e; cases e
 ·cases e; exact ⟨hb, at_lt hh⟩
theorem OwnB.grown {base : Nat} {w w1 : World} {v : Value} {l : List UInt8} {r : Option Nat} (h : OwnB base w v l) (hg : w.grownBy w1 r) (hr : ∀ g, v.ownBlock = some g → some g ≠ r) : OwnB base w1 v l := by
 obtain ⟨h0, h | ⟨g, cap, cur, rfl, hb, hh, h1⟩⟩ := h
 ·exact ⟨h0, .inl h⟩
 ·exact ⟨h0, .inr ⟨g, cap, cur, rfl, hb, at_grown hh hg (hr g rfl), h1⟩⟩
theorem OwnB.empty (w : World) : OwnB w.heap.size (w.alloc (.cells #[] 5)) (.slice (some ⟨w.heap.size, 0, none⟩) 0 0) [] :=
 ⟨rfl, .inr ⟨w.heap.size, 0, #[], rfl, Nat.le_refl _, at_new w _, Nat.le_refl _, Nat.zero_le _, rfl, rfl⟩⟩
theorem OwnB.nil (base : Nat) (w : World) : OwnB base w (.slice none 0 0) [] := ⟨rfl, .inl ⟨rfl, rfl⟩⟩
theorem OwnB.le {base base' : Nat} {w : World} {v : Value} {l : List UInt8} (h : OwnB base w v l) (hb : base' ≤ base) : OwnB base' w v l := by
 obtain ⟨h0, h | ⟨g, cap, cur, rfl, hb', h1⟩⟩ := h
 ·exact ⟨h0, .inl h⟩
 ·exact ⟨h0, .inr ⟨g, cap, cur, rfl, Nat.le_trans hb hb', h1⟩⟩

theorem info_u8 : (Tryz.prog.info? 5).map (fun i => (i.zero, i.size, i.bytes)) = some (some (.int .u8 0), 1, 1) := by kernel_rfl
theorem append_bytes {w : World} {ops : Array Oper} {rest : List Oper} {o : Oper} {a : Act} {Q : Exit → Act → World → Prop} (hgd : o.guard = none) (s x : Operand)
  (ho : o.op = .call { callee := .builtin .append, args := #[s, x], argTypes := #[40, 40] })
  (base : Nat) (v : Value) (l : List UInt8) (hs : a.eval s = v) (hown : OwnB base w v l) (u : Value) (r : List UInt8) (hx : a.eval x = u) (hr : BytesAt w u r)
  (hlen : l.length + r.length ≤ 1000000) (hbase : base ≤ w.heap.size)
  (h : ∀ v' w', OwnB base w' v' (l ++ r) → w.grownBy w' v.ownBlock → (v'.ownBlock = v.ownBlock ∨ v'.ownBlock = some w.heap.size) → wpList Tryz.prog ops Q rest (a.put o.dst v') w') : wpList Tryz.prog ops Q (o :: rest) a w := by
 obtain ⟨i, hi, hz0, hz1, hz2⟩ := info_parts info_u8
 rcases hr with ⟨rfl, rfl⟩ | ⟨ad, c, rfl, _, _, hc⟩
 ·refine wpList_append_own_none hgd s x 40 ho base 5 i 1 Tryz.underlying40 hi v l.length (l.map bv) hs hown hx ?_
  exact h v w (by simpa using hown) (.refl _ _) (.inl rfl)
 ·refine wpList_append_own_at w hgd s x 40 ho base 5 i (.int .u8 0) 1 1 Tryz.underlying40 hi hz0 hz1 hz2 rfl (by omega) v l.length (l.map bv) hs hown ad r.length c (r.map bv) hx (by simp)
   (fun j y hj => by
    rw [List.getElem?_map] at hj
    by_cases hlt : j < r.length
    ·rw [List.getElem?_eq_getElem hlt] at hj
     cases hj
     exact hc j hlt
    ·rw [List.getElem?_eq_none (by omega)] at hj; cases hj)
   (fun y hy => by
    obtain ⟨c, _, rfl⟩ := List.mem_map.1 hy
    rfl)
   (by unfold maxLen; omega) (by omega) hbase ?_
  intro v' w' h1 h2 _ h3
  exact h v' w' (by unfold OwnB; rw [List.length_append, List.map_append]; exact h1) h2 h3

theorem conv_bytes {u : World} {v : Value} {l : List UInt8} (h : BytesAt u v l) : (convert 40 9 v).run Tryz.prog u = .ok (.string ⟨l.toArray⟩) u := by
 rcases h with ⟨rfl, rfl⟩ | ⟨a, cap, rfl, _, _, hc⟩
 ·exact run_convert_bytes_nil u 40 5 Tryz.underlying40 Tryz.underlying5 0 0 9 Tryz.underlying9
 ·exact run_convert_bytes_back u 40 9 5 a cap l Tryz.underlying40 Tryz.underlying5 Tryz.underlying9 hc
theorem BytesAt.drew {w : World} {v : Value} {l : List UInt8} (h : BytesAt w v l) : BytesAt w.drew v l := h
theorem BytesAt.alloc {w : World} {v : Value} {l : List UInt8} (h : BytesAt w v l) (o : Obj) : BytesAt (w.alloc o) v l := h.grown (World.grownBy_alloc w o none) (by simp)
theorem OwnB.alloc {base : Nat} {w : World} {v : Value} {l : List UInt8} (h : OwnB base w v l) (o : Obj) : OwnB base (w.alloc o) v l := h.grown (World.grownBy_alloc w o none) (by simp)
theorem own_block {w : World} {b base : Nat} (l : List UInt8) (h : w.heap[b]? = some (.cells (l.map bv).toArray 5)) (hl : l.length ≤ maxLen) (hb : base ≤ b) : OwnB base w (.slice (some ⟨b, 0, none⟩) l.length l.length) l :=
 ⟨by simp, .inr ⟨b, l.length, (l.map bv).toArray, rfl, hb, h, Nat.le_refl _, hl, by simp, by rw [Nat.mul_one]; exact List.take_of_length_le (by simp)⟩⟩
theorem gb_own {w w5 wc : World} {base : Nat} {v : Value} {l : List UInt8} (h : w.grownBy w5 none) (ho : OwnB base w5 v l) (hb : w.heap.size ≤ base) (hg : w5.grownBy wc v.ownBlock) : w.grownBy wc none :=
 gb_trans h hg (by
  cases hv : v.ownBlock with
  | none => exact .inl rfl
  | some g =>
   obtain ⟨p, c, rfl⟩ := ho.form
   cases p with
   | none => cases hv
   | some a => exact .inr (.inr ⟨g, rfl, by have := (ho.at a _ _ rfl).1; cases hv; exact Nat.le_trans hb this⟩))
theorem at_own {w5 wc : World} {base b : Nat} {v : Value} {l : List UInt8} {o : Obj} (h : w5.heap[b]? = some o) (ho : OwnB base w5 v l) (hb : b < base) (hg : w5.grownBy wc v.ownBlock) : wc.heap[b]? = some o :=
 at_grown h hg (by
  intro e
  obtain ⟨p, c, rfl⟩ := ho.form
  cases p with
  | none => cases e
  | some a => have h1 := (ho.at a _ _ rfl).1; cases e; exact absurd h1 (Nat.not_le.2 hb))
end Go.Proofs.YtgpdcapnnejdeaaGreat
end
section
namespace Go.Proofs.YtgpdcapnnejdeaaGreat
set_option maxRecDepth 100000
open Go.RowKit

theorem byte_mask (n : BitVec 64) (i : Nat) : BitVec.ofNat 64 (putByte n i).toNat <<< (8 * i) = n &&& (255#64 <<< (8 * i)) := by
 have hb : BitVec.ofNat 64 (putByte n i).toNat = (n >>> (8 * i)) &&& 255#64 := by
  apply BitVec.eq_of_toNat_eq
  unfold putByte
  rw [BitVec.toNat_ofNat, BitVec.toNat_and]
  have e : (255#64).toNat = 2 ^ 8 - 1 := by decide
  rw [e, Nat.and_two_pow_sub_one_eq_mod]
  simp
  omega
 rw [hb]
 apply BitVec.eq_of_getLsbD_eq
 intro j hj
 rw [BitVec.getLsbD_shiftLeft, BitVec.getLsbD_and, BitVec.getLsbD_and, BitVec.getLsbD_ushiftRight, BitVec.getLsbD_shiftLeft]
 by_cases h1 : j < 8 * i
 ·simp [h1]
 ·rw [show 8 * i + (j - 8 * i) = j by omega]
  cases n.getLsbD j <;> simp
theorem mask_all : (255#64 <<< (8 * 0)) ||| (255#64 <<< (8 * 1)) ||| (255#64 <<< (8 * 2)) ||| (255#64 <<< (8 * 3)) ||| (255#64 <<< (8 * 4)) ||| (255#64 <<< (8 * 5)) ||| (255#64 <<< (8 * 6)) ||| (255#64 <<< (8 * 7)) = BitVec.allOnes 64 := by decide
theorem wordAt_put (l : List UInt8) (m : Nat) (n : BitVec 64) (h : ∀ i, i < 8 → byteAt l (m + i) = putByte n i) : wordAt l m 8 = n := by
 simp only [wordAt]
 rw [h 0 (by omega), h 1 (by omega), h 2 (by omega), h 3 (by omega), h 4 (by omega), h 5 (by omega), h 6 (by omega), h 7 (by omega)]
 rw [byte_mask n 0, byte_mask n 1, byte_mask n 2, byte_mask n 3, byte_mask n 4, byte_mask n 5, byte_mask n 6, byte_mask n 7]
 have z : ∀ x : BitVec 64, 0 ||| x = x := fun x => BitVec.zero_or
 rw [z, ← BitVec.and_or_distrib_left, ← BitVec.and_or_distrib_left, ← BitVec.and_or_distrib_left, ← BitVec.and_or_distrib_left, ← BitVec.and_or_distrib_left, ← BitVec.and_or_distrib_left, ← BitVec.and_or_distrib_left]
 rw [mask_all]
 exact BitVec.and_allOnes
def putAll (l : List (BitVec 64)) : List UInt8 := l.flatMap put8
theorem putAll_length (l : List (BitVec 64)) : (putAll l).length = 8 * l.length := by
 induction l with
 | nil => rfl
 | cons n l ih => simp only [putAll, List.flatMap_cons, List.length_append, put8_length, List.length_cons] at ih ⊢; rw [ih]; omega
theorem put8_byte (n : BitVec 64) (i : Nat) (h : i < 8) : byteAt (put8 n) i = putByte n i := by
 match i, h with
 | 0, _ => rfl
 | 1, _ => rfl
 | 2, _ => rfl
 | 3, _ => rfl
 | 4, _ => rfl
 | 5, _ => rfl
 | 6, _ => rfl
 | 7, _ => rfl
theorem byteAt_right (l r : List UInt8) (i : Nat) (h : i < r.length) : byteAt (l ++ r) (l.length + i) = byteAt r i := by
 rw [byteAt_eq (by simp; omega), byteAt_eq h, List.getElem_append_right (by omega)]
 congr 1
 omega
theorem byteAt_first (l r : List UInt8) (i : Nat) (h : i < l.length) : byteAt (l ++ r) i = byteAt l i := by
 rw [byteAt_eq h, byteAt_eq (by simp; omega), List.getElem_append_left h]
theorem putAll_byte (l : List (BitVec 64)) (k i : Nat) (hk : k < l.length) (hi : i < 8) : byteAt (putAll l) (8 * k + i) = putByte l[k] i := by
 induction l generalizing k with
 | nil => cases hk
 | cons n l ih =>
  have e : putAll (n :: l) = put8 n ++ putAll l := by simp [putAll]
  rw [e]
  cases k with
  | zero => rw [show 8 * 0 + i = i by omega, byteAt_first _ _ _ (by rw [put8_length]; exact hi)]; exact put8_byte n i hi
  | succ k =>
   have hk' : k < l.length := by simpa using hk
   rw [show 8 * (k + 1) + i = (put8 n).length + (8 * k + i) by rw [put8_length]; omega, byteAt_right _ _ _ (by rw [putAll_length]; omega)]
   exact ih k hk'
theorem wordAt_all (a : List UInt8) (l : List (BitVec 64)) (k : Nat) (hk : k < l.length) : wordAt (a ++ putAll l) (a.length + 8 * k) 8 = l[k] := by
 apply wordAt_put
 intro i hi
 rw [Nat.add_assoc, byteAt_right _ _ _ (by rw [putAll_length]; omega)]
 exact putAll_byte l k i hk hi

def NumsAt (w : World) (v : Value) (l : List (BitVec 64)) : Prop :=
 (v = .slice none 0 0 ∧ l = []) ∨
 ∃ a cap, v = .slice (some a) l.length cap ∧ l.length ≤ cap ∧ cap ≤ maxLen ∧ ∀ i, (h : i < l.length) → w.cell? (a.add i) = some (.int .u64 (q l[i]))
theorem NumsAt.grown {w w1 : World} {v : Value} {l : List (BitVec 64)} (h : NumsAt w v l) (hg : w.grownBy w1 none) : NumsAt w1 v l := by
 rcases h with h | ⟨a, cap, rfl, h1, h2, h3⟩
 ·exact .inl h
 ·exact .inr ⟨a, cap, rfl, h1, h2, fun i hi => hg.cell (h3 i hi) (by simp)⟩
theorem NumsAt.cells {w : World} {v : Value} {l : List (BitVec 64)} (h : NumsAt w v l) (hp : 0 < l.length) :
  ∃ ab ao cap, v = .slice (some ⟨ab, ao, none⟩) l.length cap ∧ ∀ i, (h : i < l.length) → w.cell? ⟨ab, ao + i, none⟩ = some (.int .u64 (q l[i])) := by
 rcases h with ⟨_, rfl⟩ | ⟨⟨ab, ao, asp⟩, cap, rfl, _, _, h3⟩
 ·cases hp
 ·have h0 := h3 0 hp
  have hsp : asp = none := by simpa [Addr.add] using World.cell?_spot h0
  subst hsp
  refine ⟨ab, ao, cap, rfl, fun i hi => ?_⟩
  have := h3 i hi
  unfold Addr.add at this
  split at this
  ·next h => subst h; simpa using this
  ·simpa using this
end Go.Proofs.YtgpdcapnnejdeaaGreat
end
section
set_option linter.unusedSimpArgs false
namespace Go.Proofs.YtgpdcapnnejdeaaGreat
set_option maxRecDepth 100000
open Go.RowKit

theorem word_bit (l : List UInt8) (m : Nat) : ∀ (k : Nat), k ≤ 8 → ∀ t, (wordAt l m k).getLsbD t = (decide (t < 8 * k) && (byteAt l (m + t / 8)).toNat.testBit (t % 8))
 | 0, _, t => by simp [wordAt]
 | k + 1, hk, t => by
  have ih := word_bit l m k (by omega) t
  have hb : (byteAt l (m + k)).toNat < 2 ^ 8 := (byteAt l (m + k)).toNat_lt
  unfold wordAt
  rw [BitVec.getLsbD_or, ih, BitVec.getLsbD_shiftLeft, BitVec.getLsbD_ofNat]
  by_cases h1 : t < 8 * k
  ·simp [h1, show t < 8 * (k + 1) by omega]
  ·by_cases h2 : t < 8 * (k + 1)
   ·have e1 : t / 8 = k := by omega
    have e2 : t % 8 = t - 8 * k := by omega
    simp [h1, h2, e1, e2, show t < 64 by omega, show t - 8 * k < 64 by omega]
   ·have h3 : (byteAt l (m + k)).toNat.testBit (t - 8 * k) = false := Nat.testBit_lt_two_pow (Nat.lt_of_lt_of_le hb (Nat.pow_le_pow_right (by decide) (by omega)))
    simp [h1, h2, h3]
theorem word_byte (l : List UInt8) (m i : Nat) (hi : i < 8) : putByte (wordAt l m 8) i = byteAt l (m + i) := by
 apply UInt8.toNat_inj.1
 apply Nat.eq_of_testBit_eq
 intro k
 unfold putByte
 rw [UInt8.toNat_ofNat']
 rw [show (2 : Nat) ^ 8 = 2 ^ 8 from rfl, Nat.testBit_mod_two_pow]
 have h1 : (wordAt l m 8 >>> (8 * i)).toNat.testBit k = (wordAt l m 8).getLsbD (8 * i + k) := by
  rw [← BitVec.getLsbD_ushiftRight]; rfl
 rw [h1, word_bit l m 8 (Nat.le_refl 8)]
 by_cases hk : k < 8
 ·have e1 : (8 * i + k) / 8 = i := by omega
  have e2 : (8 * i + k) % 8 = k := by omega
  simp [hk, e1, e2, show 8 * i + k < 64 by omega]
 ·have h3 : (byteAt l (m + i)).toNat.testBit k = false := Nat.testBit_lt_two_pow (Nat.lt_of_lt_of_le (byteAt l (m + i)).toNat_lt (Nat.pow_le_pow_right (by decide) (by omega)))
  simp [hk, h3]
theorem put_words (l : List UInt8) (h : l.length = 16) : put8 (wordAt l 0 8) ++ put8 (wordAt l 8 8) = l := by
 match l, h with
 | [b0, b1, b2, b3, b4, b5, b6, b7, b8, b9, b10, b11, b12, b13, b14, b15], _ =>
  simp only [put8, word_byte _ _ _ (show 0 < 8 by decide), word_byte _ _ _ (show 1 < 8 by decide), word_byte _ _ _ (show 2 < 8 by decide), word_byte _ _ _ (show 3 < 8 by decide), word_byte _ _ _ (show 4 < 8 by decide), word_byte _ _ _ (show 5 < 8 by decide), word_byte _ _ _ (show 6 < 8 by decide), word_byte _ _ _ (show 7 < 8 by decide)]
  rfl
end Go.Proofs.YtgpdcapnnejdeaaGreat
end
