/-
  Contracts for numbers as bytes: a number is put into eight bytes, the lowest first, by the program and by the document's own answer. No condition.
  Contracts for numbers out of bytes: the number whose eight bytes stand at a place, or the code for bytes that are wrong, by the program and by the document's own answer. No condition but that the bytes read as bytes.
  Numbers that were taken, as the greatest and bits below it: the plain part, and contracts for package replay. The condition of a call: the object lies there; or it is nil.
  Contracts for what tells who is out: with nobody to ask, and with the one that names collector 2; and for the count of a holder's turns. No condition.
  Plain lists of samples in the order of their places (epoch, metric, who): what a table holds. No condition. Nothing of the program is named here.
  Samples as cells. No condition. Nothing of the program is named here.
  Rows of structs in a block known whole: several cells stored one behind the other; one struct of them stored; the last ones made zero; a row moved down by one. No condition. Nothing of the program's functions is named here.
-/
import Derived.Test.YtecggbndlbkhdaaGreatY1
import Derived.LoopTactic
import Derived.WalkSpells
import Derived.WalkLawsBesides
import Derived.Test.YtecggbndlbkhdaaGreatRows
import Derived.WalkKit
import Derived.Defers
import Derived.Recover
import Derived.Laws.Pointers
import Derived.Laws.LoneSync
import Derived.Laws.IdiomCopy
import Derived.Lib.SliceRun
section
namespace Go.Proofs.YtecggbndlbkhdaaGreat
set_option maxRecDepth 100000
open Go.RowKit

/-- byte i of a number -/
def putByte (n : BitVec 64) (i : Nat) : UInt8 := UInt8.ofNat (n >>> (8 * i)).toNat
/-- a number in eight bytes, the lowest first -/
def put8 (n : BitVec 64) : List UInt8 := [putByte n 0, putByte n 1, putByte n 2, putByte n 3, putByte n 4, putByte n 5, putByte n 6, putByte n 7]
theorem put8_length (n : BitVec 64) : (put8 n).length = 8 := rfl
/-- k bytes of a number, and noughts -/
def putArr (n : BitVec 64) (k : Nat) : Array Value := Array.ofFn (n := 8) fun j => .int .u8 (if j.val < k then ((putByte n j.val).toNat : Int) else 0)
theorem putArr_full (n : BitVec 64) : putArr n 8 = ((put8 n).map fun c => Value.int .u8 (c.toNat : Int)).toArray := rfl
theorem putArr_cell (n : BitVec 64) (k j : Nat) (h : j < 8) : (putArr n k)[j]? = some (.int .u8 (if j < k then ((putByte n j).toNat : Int) else 0)) := by
  unfold putArr; rw [Array.getElem?_ofFn]; simp [h]
theorem putArr_set (n : BitVec 64) (k : Nat) (h : k < 8) : (putArr n k).setIfInBounds k (.int .u8 ((putByte n k).toNat : Int)) = putArr n (k + 1) := by
  apply Array.ext_getElem?
  intro j
  rw [Array.getElem?_setIfInBounds]
  have hs : (putArr n k).size = 8 := by unfold putArr; simp
  by_cases hj : j < 8
  · rw [putArr_cell n k j hj, putArr_cell n (k + 1) j hj]
    by_cases e : k = j
    · subst e; simp [hs, h]
    · by_cases h1 : j < k
      · simp [e, h1]; omega
      · simp [e, h1]; omega
  · have h1 : (putArr n k)[j]? = none := Array.getElem?_eq_none (by omega)
    have hs' : (putArr n (k + 1)).size = 8 := by unfold putArr; simp
    have h2 : (putArr n (k + 1))[j]? = none := Array.getElem?_eq_none (by omega)
    rw [h1, h2]
    by_cases e : k = j
    · omega
    · simp [e]
theorem byte_wrap (x : BitVec 64) : IntKind.u8.wrap (q x) = ((UInt8.ofNat x.toNat).toNat : Int) := by
  unfold q
  simp [IntKind.wrap, IntKind.bits, IntKind.signed]

theorem mk8 (w : World) : (Instr.makeSlice 53 (.int .i64 8) (.int .i64 8)).run Tryz.prog w = .ok (.slice (some ⟨w.heap.size, 0, none⟩) 8 8) (w.alloc (.cells #[.int .u8 0, .int .u8 0, .int .u8 0, .int .u8 0, .int .u8 0, .int .u8 0, .int .u8 0, .int .u8 0] 5)) := by kernel_rfl

set_option maxHeartbeats 800000 in
theorem put_any (n : BitVec 64) (w : World) :
    Calls Tryz.prog 183 #[.int .u64 (q n)] w fun e w' => e = .returned (.slice (some ⟨w.heap.size, 0, none⟩) 8 8) ∧ w'.heap[w.heap.size]? = some (.cells (putArr n 8) 5) ∧ w.grownBy w' none := by
  have hm := mk8 w
  go_enter Tryz.func183, Tryz.ntmps183
  go_wp2_with fail
  clear hm
  go_loopw [8] (fun i wr => ∃ k : Nat, k ≤ 8 ∧ i = .int .i64 (k : Int) ∧ wr.heap[w.heap.size]? = some (.cells (putArr n k) 5) ∧ w.grownBy wr none) (fun i _ => 8 - (intOf i).toNat)
  case atStart => exact ⟨0, by omega, rfl, at_new w _, gb_alloc (.refl w none) _⟩
  case round =>
    obtain ⟨k, hk, rfl, hb, hg⟩ := hrel
    have HB := hid hb; have HG := hid hg; clear hb hg
    by_cases hlt : k < 8
    · have c0 : wr.cell? ⟨w.heap.size, k, none⟩ = some (.int .u8 0) := by rw [at_cell HB.out k, putArr_cell n k k hlt]; simp
      have f0 : wr.frozen? ⟨w.heap.size, k, none⟩ = false := at_free HB.out k
      have hk0 : (0 : Int) ≤ (k : Int) := by omega
      have hk1 : (k : Int) < 8 := by omega
      have hbw := byte_wrap (n >>> (8 * k))
      go_wp2_with fail
      go_roundw
      case rel => exact ⟨k + 1, by omega, by go_num, by rw [← putArr_set n k hlt]; exact at_set HB.out k _, gb_new HG.out (Nat.le_refl _) _⟩
      case measure => simp [intOf]; omega
    · have hk8 : k = 8 := by omega
      subst hk8
      go_wp2_with fail
      go_ret
      exact ⟨rfl, HB.out, HG.out⟩

end Go.Proofs.YtecggbndlbkhdaaGreat
end
section
namespace Go.Proofs.YtecggbndlbkhdaaGreat
set_option maxRecDepth 100000
open Go.RowKit

/-- the number of k bytes from a place on, the lowest first -/
def wordAt (l : List UInt8) (m : Nat) : Nat → BitVec 64
  | 0 => 0
  | k + 1 => wordAt l m k ||| (BitVec.ofNat 64 (byteAt l (m + k)).toNat <<< (8 * k))

theorem wordAt_succ (l : List UInt8) (m k : Nat) : wordAt l m k ||| (BitVec.ofNat 64 (byteAt l (m + k)).toNat <<< (8 * k)) = wordAt l m (k + 1) := rfl
theorem get_high (p : Option Addr) (n c : Nat) (hn : n ≤ maxLen) (a : Int) (h0 : 0 ≤ a) (ha : (n : Int) - 8 < a) (w : World) :
    Calls Tryz.prog 263 #[.slice p n c, .int .i64 a] w fun e w' => e = .returned (.tuple #[.int .u64 0, .int .i64 2]) ∧ w = w' := by
  unfold maxLen at hn
  go_enter Tryz.func263, Tryz.ntmps263
  go_wp2_with fail
  go_ret2
  exact ⟨rfl, rfl⟩

set_option maxHeartbeats 800000 in
theorem get_in (l : List UInt8) (v : Value) (m : Nat) (w : World) (hl : BytesAt w v l) (hm : m + 8 ≤ l.length) :
    Calls Tryz.prog 263 #[v, .int .i64 (m : Int)] w fun e w' => e = .returned (.tuple #[.int .u64 (q (wordAt l m 8)), .int .i64 0]) ∧ w = w' := by
  have hle := hl.le
  unfold maxLen at hle
  obtain ⟨ab, ao, cap, rfl, hc⟩ := hl.cells (by omega)
  have hcap : l.length ≤ cap := by
    rcases hl with ⟨h, _⟩ | ⟨_, _, h, h2, _⟩
    · cases h
    · cases h; exact h2
  have HC := hid hc; clear hc
  have hm0 : (0 : Int) ≤ (m : Int) := by omega
  have hm1 : (m : Int) + 8 ≤ (l.length : Int) := by omega
  have hm2 : (m : Int) + 8 ≤ (cap : Int) := by omega
  have hd1 : decide ((m : Int) < 0) = false := by simp
  have hd2 : decide ((l.length : Int) - 8 < (m : Int)) = false := by simp; omega
  clear hl
  go_enter Tryz.func263, Tryz.ntmps263
  go_wp2_with fail
  go_loop [24, 6] (fun i n => ∃ k : Nat, k ≤ 8 ∧ i = .int .i64 (k : Int) ∧ n = .int .u64 (q (wordAt l m k))) (fun i _ => 8 - (intOf i).toNat)
  case atStart => exact ⟨0, by omega, rfl, rfl⟩
  case round =>
    obtain ⟨k, hk, rfl, rfl⟩ := hrel
    by_cases hlt : k < 8
    · have c0 : w.cell? ⟨ab, ao + m + k, none⟩ = some (.int .u8 (((byteAt l (m + k)).toNat : Nat) : Int)) := by
        have := HC.out (m + k) (by omega)
        rw [show ao + m + k = ao + (m + k) by omega, this]
        rw [byteAt_eq (show m + k < l.length by omega)]
      have hk0 : (0 : Int) ≤ (k : Int) := by omega
      have hk1 : (k : Int) < 8 := by omega
      have hk2 : k < m + 8 - m := by omega
      have hbq := byte_q (byteAt l (m + k))
      have hwd := wordAt_succ l m k
      go_wp2_with fail
      go_round
      case rel => exact ⟨k + 1, by omega, by go_num, rfl⟩
      case measure => simp [intOf]; omega
    · have hk8 : k = 8 := by omega
      subst hk8
      go_wp2_with fail
      go_ret2
      exact ⟨rfl, rfl⟩

end Go.Proofs.YtecggbndlbkhdaaGreat
end
section
set_option linter.unusedSimpArgs false
set_option linter.unusedVariables false
namespace Go.Proofs.YtecggbndlbkhdaaGreat
set_option maxRecDepth 100000
open Go.RowKit

/-- the n lowest bits -/
def low (n : Nat) : BitVec 64 := (1#64 <<< n) - 1#64
theorem low_bit (n i : Nat) (hn : n ≤ 64) : (low n).getLsbD i = (decide (i < n) && decide (i < 64)) := by
  by_cases h : n = 64
  · subst h
    have e : low 64 = BitVec.allOnes 64 := by decide
    rw [e, BitVec.getLsbD_allOnes]; simp
  · have hlt : n < 64 := by omega
    have e : (low n).toNat = 2 ^ n - 1 := by
      unfold low
      have h1 : 2 ^ n < 2 ^ 64 := Nat.pow_lt_pow_right (by decide) hlt
      have h2 : 0 < 2 ^ n := Nat.two_pow_pos n
      rw [BitVec.toNat_sub, BitVec.toNat_shiftLeft]
      simp only [BitVec.toNat_ofNat, Nat.one_shiftLeft, Nat.shiftLeft_eq]
      rw [show (1 % 2 ^ 64 : Nat) = 1 from rfl, Nat.one_mul, Nat.mod_eq_of_lt h1]
      omega
    rw [← BitVec.testBit_toNat, e, Nat.testBit_two_pow_sub_one]
    by_cases hi : i < n
    · have : i < 64 := by omega
      simp [hi, this]
    · simp [hi]
theorem one_bit (k i : Nat) : (1#64 <<< k).getLsbD i = (decide (i = k) && decide (i < 64)) := by
  rw [BitVec.getLsbD_shiftLeft]
  by_cases h : i = k
  · subst h; simp
  · by_cases h2 : i < k
    · simp [h, h2]
    · have : i - k ≠ 0 := by omega
      simp [h, h2, this]
theorem shr_bit (x : BitVec 64) (k : Nat) : ((x >>> k) &&& 1#64 = 0#64) ↔ x.getLsbD k = false := by
  constructor
  · intro h
    have h0 : ((x >>> k) &&& 1#64).getLsbD 0 = (0#64).getLsbD 0 := by rw [h]
    simpa using h0
  · intro h
    apply BitVec.eq_of_getLsbD_eq
    intro i hi
    by_cases h0 : i = 0
    · subst h0; simpa using h
    · simp [h0]

structure Rp where
  win : Nat
  top : Int
  bits : BitVec 64
structure Rp.Ok (r : Rp) : Prop where
  w1 : 1 ≤ r.win
  w2 : r.win ≤ 64
  t0 : 0 ≤ r.top
  t1 : r.top ≤ 1099511627776
  bs : ∀ i, r.bits.getLsbD i = true → i < r.win ∧ (i : Int) < r.top
  b0 : 0 < r.top → r.bits.getLsbD 0 = true
def Rp.new (win : Nat) : Rp := ⟨win, 0, 0#64⟩
theorem rp_new_ok {n : Nat} (h1 : 1 ≤ n) (h2 : n ≤ 64) : (Rp.new n).Ok :=
  ⟨h1, h2, Int.le_refl _, by show (0 : Int) ≤ _; decide, fun i h => by simp [Rp.new] at h, fun h => absurd h (Int.lt_irrefl _)⟩
/-- may a number be taken? -/
def Rp.may (r : Rp) (n : Int) : Bool := decide (1 ≤ n ∧ n ≤ 1099511627776 ∧ (r.top < n ∨ (r.top - n < r.win ∧ r.bits.getLsbD (r.top - n).toNat = false)))
def Rp.put (r : Rp) (n : Int) : Rp :=
  if r.top < n then ⟨r.win, n, (r.bits <<< (n - r.top).toNat &&& low r.win) ||| 1#64⟩ else ⟨r.win, r.top, r.bits ||| 1#64 <<< (r.top - n).toNat⟩
def Rp.take (r : Rp) (n : Int) : Int × Rp := if r.may n = true then (0, r.put n) else (6, r)
def Rp.can (r : Rp) (t : Int) (b : BitVec 64) : Bool := decide (0 ≤ t ∧ t ≤ 1099511627776 ∧ (b &&& ~~~ low (min t r.win).toNat) = 0#64 ∧ (0 < t → b.getLsbD 0 = true))
def Rp.set (r : Rp) (t : Int) (b : BitVec 64) : Int × Rp := if r.can t b = true then (0, ⟨r.win, t, b⟩) else (1, r)
theorem Rp.Ok.put {r : Rp} (h : r.Ok) {n : Int} (hm : r.may n = true) : (r.put n).Ok := by
  unfold Rp.may at hm
  obtain ⟨h1, h2, h3⟩ := of_decide_eq_true hm
  obtain ⟨w1, w2, t0, t1, bs, b0⟩ := h
  unfold Rp.put
  split
  · next hl =>
    refine ⟨w1, w2, by show 0 ≤ n; omega, h2, fun i hi => ?_, fun _ => ?_⟩
    · simp only [BitVec.getLsbD_or, BitVec.getLsbD_and, low_bit _ _ w2, Bool.or_eq_true, Bool.and_eq_true, decide_eq_true_eq] at hi
      show i < r.win ∧ (i : Int) < n
      rcases hi with ⟨h4, h5, h6⟩ | h4
      · refine ⟨h5, ?_⟩
        rw [BitVec.getLsbD_shiftLeft] at h4
        simp only [Bool.and_eq_true, decide_eq_true_eq, Bool.not_eq_true', decide_eq_false_iff_not] at h4
        have := (bs _ h4.2).2
        omega
      · have e : i = 0 := by
          by_cases e : i = 0
          · exact e
          · simp [BitVec.getLsbD_one, e] at h4
        subst e; exact ⟨w1, by omega⟩
    · simp
  · next hl =>
    rcases h3 with h3 | ⟨h3, h4⟩
    · exact absurd h3 hl
    refine ⟨w1, w2, t0, t1, fun i hi => ?_, fun ht => ?_⟩
    · simp only [BitVec.getLsbD_or, one_bit, Bool.or_eq_true, Bool.and_eq_true, decide_eq_true_eq] at hi
      rcases hi with hi | ⟨hi, _⟩
      · exact bs i hi
      · show i < r.win ∧ (i : Int) < r.top
        subst hi; omega
    · show (r.bits ||| _).getLsbD 0 = true
      rw [BitVec.getLsbD_or, b0 ht, Bool.true_or]
theorem Rp.Ok.take {r : Rp} (h : r.Ok) (n : Int) : (r.take n).2.Ok := by
  unfold Rp.take
  split
  · next hm => exact h.put hm
  · exact h
theorem low_none (b : BitVec 64) (n : Nat) (hn : n ≤ 64) : (b &&& ~~~ low n) = 0#64 ↔ ∀ i, b.getLsbD i = true → i < n := by
  constructor
  · intro h i hi
    have h0 : (b &&& ~~~ low n).getLsbD i = (0#64).getLsbD i := by rw [h]
    have hi64 : i < 64 := by
      rcases Nat.lt_or_ge i 64 with h | h
      · exact h
      · rw [BitVec.getLsbD_of_ge _ _ h] at hi; cases hi
    rw [BitVec.getLsbD_and, BitVec.getLsbD_not, hi, low_bit _ _ hn] at h0
    simpa [hi64] using h0
  · intro h
    apply BitVec.eq_of_getLsbD_eq
    intro i hi
    by_cases hb : b.getLsbD i = true
    · have := h i hb
      simp [low_bit _ _ hn, this, hi]
    · simp at hb; simp [hb]
theorem rp_can {r : Rp} (h : r.Ok) {t : Int} {b : BitVec 64} (hc : r.can t b = true) : Rp.Ok ⟨r.win, t, b⟩ := by
  unfold Rp.can at hc
  obtain ⟨h1, h2, h3, h4⟩ := of_decide_eq_true hc
  have w2 := h.w2
  rw [low_none _ _ (by omega)] at h3
  exact ⟨h.w1, h.w2, h1, h2, fun i hi => by have := h3 i hi; show i < r.win ∧ (i : Int) < t; omega, h4⟩
theorem Rp.Ok.set {r : Rp} (h : r.Ok) (t : Int) (b : BitVec 64) : (r.set t b).2.Ok := by
  unfold Rp.set
  split
  · next hm => exact rp_can h hm
  · exact h
end Go.Proofs.YtecggbndlbkhdaaGreat
end
section
set_option linter.unusedSimpArgs false
namespace Go.Proofs.YtecggbndlbkhdaaGreat
set_option maxRecDepth 100000
open Go.RowKit

/-- sync/atomic's Uint32 -/
theorem load_u32 (a : Addr) (x : Int) (w : World) (hc : w.cell? a = some (.int .u32 x)) :
    Calls Tryz.prog 338 #[.pointer (some a)] w fun e w' => e = .returned (.int .u32 x) ∧ w = w' := by
  have hl := run_call_load (P := Tryz.prog) Tryz.func376 (by kernel_rfl) (by kernel_rfl) (by kernel_rfl) .u32 (by kernel_rfl) hc
  go_enter Tryz.func338, Tryz.ntmps338
  go_wp2
  go_ret
  exact ⟨rfl, rfl⟩
end Go.Proofs.YtecggbndlbkhdaaGreat
end
section
set_option linter.unusedSimpArgs false
set_option linter.unusedVariables false
namespace Go.Proofs.YtecggbndlbkhdaaGreat
set_option maxRecDepth 100000

structure Sm where
  who : Int
  met : Int
  ep : Int
  val : Int
theorem Sm.eq_of {a b : Sm} (h1 : a.who = b.who) (h2 : a.met = b.met) (h3 : a.ep = b.ep) (h4 : a.val = b.val) : a = b := by
  cases a; cases b; simp_all
/-- a place: epoch, metric, who -/
abbrev Pc := Int × Int × Int
def Sm.pl (s : Sm) : Pc := (s.ep, s.met, s.who)
def PlLt (a b : Pc) : Prop := a.1 < b.1 ∨ a.1 = b.1 ∧ (a.2.1 < b.2.1 ∨ a.2.1 = b.2.1 ∧ a.2.2 < b.2.2)
instance (a b : Pc) : Decidable (PlLt a b) := by unfold PlLt; infer_instance
theorem plLt_irrefl (a : Pc) : ¬ PlLt a a := by unfold PlLt; omega
theorem plLt_trans {a b c : Pc} (h : PlLt a b) (k : PlLt b c) : PlLt a c := by unfold PlLt at *; omega
theorem plLt_total {a b : Pc} (h : a ≠ b) : PlLt a b ∨ PlLt b a := by
  obtain ⟨a1, a2, a3⟩ := a
  obtain ⟨b1, b2, b3⟩ := b
  have : ¬ (a1 = b1 ∧ a2 = b2 ∧ a3 = b3) := fun ⟨h1, h2, h3⟩ => h (by rw [h1, h2, h3])
  unfold PlLt
  simp only
  omega
/-- in the order of places, no place twice -/
def Srt (L : List Sm) : Prop := L.Pairwise fun a b => PlLt a.pl b.pl
theorem Srt.nil : Srt [] := List.Pairwise.nil
theorem Srt.filter {L : List Sm} (h : Srt L) (f : Sm → Bool) : Srt (L.filter f) := List.Pairwise.filter f h
theorem Srt.ne {L : List Sm} (h : Srt L) : L.Pairwise fun a b => a.pl ≠ b.pl := by
  unfold Srt at h
  refine h.imp ?_
  intro a b k e
  rw [e] at k
  exact plLt_irrefl _ k
theorem Srt.nodup {L : List Sm} (h : Srt L) : L.Nodup := by
  unfold Srt at h
  refine h.imp ?_
  intro a b k e
  rw [e] at k
  exact plLt_irrefl _ k
theorem Srt.places {L : List Sm} (h : Srt L) : (L.map Sm.pl).Nodup := List.pairwise_map.2 h.ne
theorem Srt.perm_eq {A B : List Sm} (ha : Srt A) (hb : Srt B) (hp : A.Perm B) : A = B :=
  List.Perm.eq_of_pairwise (le := fun a b : Sm => PlLt a.pl b.pl) (fun a b _ _ h1 h2 => absurd (plLt_trans h1 h2) (plLt_irrefl _)) ha hb hp
theorem Srt.ext {A B : List Sm} (ha : Srt A) (hb : Srt B) (h : ∀ x, x ∈ A ↔ x ∈ B) : A = B :=
  ha.perm_eq hb ((List.perm_ext_iff_of_nodup ha.nodup hb.nodup).2 h)
/-- a place has one sample -/
theorem Srt.one {L : List Sm} (h : Srt L) {x y : Sm} (hx : x ∈ L) (hy : y ∈ L) (e : x.pl = y.pl) : x = y := by
  obtain ⟨i, hi, rfl⟩ := List.getElem_of_mem hx
  obtain ⟨j, hj, rfl⟩ := List.getElem_of_mem hy
  have h' := List.pairwise_iff_getElem.1 h
  rcases Nat.lt_trichotomy i j with hij | rfl | hij
  · have := h' i j hi hj hij; rw [e] at this; exact absurd this (plLt_irrefl _)
  · rfl
  · have := h' j i hj hi hij; rw [e] at this; exact absurd this (plLt_irrefl _)
/-- is there a sample of this place? -/
def There (L : List Sm) (p : Pc) : Prop := ∃ x ∈ L, x.pl = p
instance (L : List Sm) (p : Pc) : Decidable (There L p) := by unfold There; exact inferInstanceAs (Decidable (∃ x ∈ L, x.pl = p))
/-- one sample more -/
def ins (s : Sm) : List Sm → List Sm
  | [] => [s]
  | x :: r => if PlLt s.pl x.pl then s :: x :: r else x :: ins s r
theorem ins_perm (s : Sm) : ∀ L : List Sm, (ins s L).Perm (s :: L)
  | [] => .refl _
  | x :: r => by
    unfold ins
    split
    · exact .refl _
    · exact ((ins_perm s r).cons x).trans (List.Perm.swap s x r)
theorem mem_ins {s y : Sm} {L : List Sm} : y ∈ ins s L ↔ y = s ∨ y ∈ L := by rw [(ins_perm s L).mem_iff]; simp
theorem length_ins (s : Sm) (L : List Sm) : (ins s L).length = L.length + 1 := by rw [(ins_perm s L).length_eq]; simp
theorem Srt.ins {s : Sm} : ∀ {L : List Sm}, Srt L → ¬ There L s.pl → Srt (ins s L)
  | [], _, _ => by unfold Go.Proofs.YtecggbndlbkhdaaGreat.ins; exact List.pairwise_singleton _ _
  | x :: r, h, hn => by
    obtain ⟨h1, h2⟩ := List.pairwise_cons.1 h
    unfold Go.Proofs.YtecggbndlbkhdaaGreat.ins
    split
    · next hl => exact List.pairwise_cons.2 ⟨fun y hy => by
        rcases List.mem_cons.1 hy with rfl | hy
        · exact hl
        · exact plLt_trans hl (h1 y hy), h⟩
    · next hl =>
      have hx : PlLt x.pl s.pl := by
        rcases plLt_total (fun e => hn ⟨x, by simp, e⟩ : x.pl ≠ s.pl) with k | k
        · exact k
        · exact absurd k hl
      refine List.pairwise_cons.2 ⟨fun y hy => ?_, Srt.ins h2 (fun ⟨z, hz, e⟩ => hn ⟨z, by simp [hz], e⟩)⟩
      rcases mem_ins.1 hy with rfl | hy
      · exact hx
      · exact h1 y hy
/-- what is laid between: the way to put one in from behind -/
theorem ins_at {L : List Sm} (h : Srt L) {s : Sm} (hn : ¬ There L s.pl) {k : Nat} (hk : k ≤ L.length) (hhi : ∀ i, (hi : i < L.length) → k ≤ i → PlLt s.pl L[i].pl) (hlo : ∀ i, (hi : i < L.length) → i < k → PlLt L[i].pl s.pl) :
    L.take k ++ s :: L.drop k = ins s L := by
  refine Srt.perm_eq ?_ (h.ins hn) ?_
  · refine List.pairwise_append.2 ⟨h.sublist (List.take_sublist _ _), List.pairwise_cons.2 ⟨fun y hy => ?_, h.sublist (List.drop_sublist _ _)⟩, fun x hx y hy => ?_⟩
    · obtain ⟨i, hi, rfl⟩ := List.getElem_of_mem hy
      rw [List.getElem_drop]
      exact hhi _ (by simp at hi; omega) (by omega)
    · obtain ⟨i, hi, rfl⟩ := List.getElem_of_mem hx
      rw [List.getElem_take]
      have hi' : i < L.length := by simp at hi; omega
      have h1 : PlLt L[i].pl s.pl := hlo i hi' (by simp at hi; omega)
      rcases List.mem_cons.1 hy with rfl | hy
      · exact h1
      · obtain ⟨j, hj, rfl⟩ := List.getElem_of_mem hy
        rw [List.getElem_drop]
        exact plLt_trans h1 (hhi _ (by simp at hj; omega) (by omega))
  · refine (List.perm_middle).trans (List.Perm.trans ?_ (ins_perm s L).symm)
    rw [List.take_append_drop]
/-- what May tells -/
def mayT (n m f : Int) (L : List Sm) (s : Sm) (now : Int) : Int :=
  if ¬ (0 ≤ s.who ∧ s.who < n ∧ 0 ≤ s.met ∧ s.met < m ∧ 0 ≤ s.val ∧ s.val ≤ 1099511627776) then 1
  else if ¬ (now ≤ s.ep ∧ s.ep - now < f) then 7
  else if There L s.pl then 8 else 0
def putT (n m f : Int) (L : List Sm) (s : Sm) (now : Int) : List Sm := if mayT n m f L s now = 0 then ins s L else L
def ofT (L : List Sm) (e m : Int) : List Sm := L.filter fun s => decide (s.ep = e ∧ s.met = m)
def dropT (L : List Sm) (e : Int) : List Sm := L.filter fun s => decide (e < s.ep)
theorem mayT_none {n m f now : Int} {L : List Sm} {s : Sm} (h : mayT n m f L s now = 0) :
    (0 ≤ s.who ∧ s.who < n ∧ 0 ≤ s.met ∧ s.met < m ∧ 0 ≤ s.val ∧ s.val ≤ 1099511627776) ∧ (now ≤ s.ep ∧ s.ep - now < f) ∧ ¬ There L s.pl := by
  unfold mayT at h
  split at h
  · cases h
  · next h1 =>
    split at h
    · cases h
    · next h2 =>
      split at h
      · cases h
      · next h3 => exact ⟨Classical.not_not.1 h1, Classical.not_not.1 h2, h3⟩
/-- samples of a table of n collectors -/
structure FineT (n : Int) (L : List Sm) : Prop where
  srt : Srt L
  who : ∀ s ∈ L, 0 ≤ s.who ∧ s.who < n
  fit : ∀ s ∈ L, (-9223372036854775808 ≤ s.ep ∧ s.ep ≤ 9223372036854775807) ∧ (0 ≤ s.met ∧ s.met < 4) ∧ (0 ≤ s.who ∧ s.who < 16) ∧ (0 ≤ s.val ∧ s.val ≤ 1099511627776)
theorem FineT.nil (n : Int) : FineT n [] := ⟨Srt.nil, by simp, by simp⟩
theorem FineT.sub {n : Int} {L : List Sm} (h : FineT n L) (f : Sm → Bool) : FineT n (L.filter f) :=
  ⟨h.srt.filter f, fun s hs => h.who s (List.mem_filter.1 hs).1, fun s hs => h.fit s (List.mem_filter.1 hs).1⟩
theorem FineT.put {n m f now : Int} {L : List Sm} {s : Sm} (h : FineT n L) (hn : n ≤ 16) (hm : m ≤ 4) (he : -9223372036854775808 ≤ s.ep ∧ s.ep ≤ 9223372036854775807) : FineT n (putT n m f L s now) := by
  unfold putT
  split
  · next h0 =>
    obtain ⟨h1, h2, h3⟩ := mayT_none h0
    refine ⟨h.srt.ins h3, fun x hx => ?_, fun x hx => ?_⟩
    · rcases mem_ins.1 hx with rfl | hx
      · omega
      · exact h.who x hx
    · rcases mem_ins.1 hx with rfl | hx
      · omega
      · exact h.fit x hx
  · exact h
theorem putT_len (n m f : Int) (L : List Sm) (s : Sm) (now : Int) : (putT n m f L s now).length ≤ L.length + 1 := by
  unfold putT; split
  · rw [length_ins]; exact Nat.le_refl _
  · omega
/-- an epoch's metric, the collectors below k -/
def upT (L : List Sm) (e m : Int) (k : Nat) : List Sm := L.filter fun s => decide (s.ep = e ∧ s.met = m ∧ s.who < k)
theorem upT_zero {n : Int} {L : List Sm} (h : FineT n L) (e m : Int) : upT L e m 0 = [] := by
  refine List.filter_eq_nil_iff.2 fun s hs => ?_
  have := (h.who s hs).1
  simp only [decide_eq_true_eq]; omega
theorem upT_all {n : Int} {L : List Sm} (h : FineT n L) (e m : Int) {k : Nat} (hk : n ≤ k) : upT L e m k = ofT L e m := by
  refine List.filter_congr fun s hs => ?_
  have := (h.who s hs).2
  simp only [decide_eq_decide]; omega
theorem upT_miss {n : Int} {L : List Sm} (h : FineT n L) (e m : Int) {k : Nat} (hn : ¬ There L (e, m, k)) : upT L e m (k + 1) = upT L e m k := by
  refine List.filter_congr fun s hs => ?_
  simp only [decide_eq_decide]
  constructor
  · rintro ⟨h1, h2, h3⟩
    refine ⟨h1, h2, ?_⟩
    by_cases hw : s.who = k
    · exact absurd ⟨s, hs, by unfold Sm.pl; rw [h1, h2, hw]⟩ hn
    · omega
  · rintro ⟨h1, h2, h3⟩
    exact ⟨h1, h2, by omega⟩
theorem upT_hit {n : Int} {L : List Sm} (h : FineT n L) {e m v : Int} {k : Nat} (hm : (⟨k, m, e, v⟩ : Sm) ∈ L) : upT L e m (k + 1) = upT L e m k ++ [⟨k, m, e, v⟩] := by
  refine Srt.ext (h.srt.filter _) ?_ fun x => ?_
  · refine List.pairwise_append.2 ⟨h.srt.filter _, List.pairwise_singleton _ _, fun x hx y hy => ?_⟩
    have h1 := (List.mem_filter.1 hx).2
    simp only [List.mem_singleton] at hy
    subst hy
    simp only [decide_eq_true_eq] at h1
    unfold PlLt Sm.pl
    simp only
    omega
  · simp only [upT, List.mem_append, List.mem_filter, decide_eq_true_eq, List.mem_singleton]
    constructor
    · rintro ⟨hx, h1, h2, h3⟩
      by_cases hw : x.who = k
      · exact .inr (h.srt.one hx hm (by unfold Sm.pl; simp [h1, h2, hw]))
      · exact .inl ⟨hx, h1, h2, by omega⟩
    · rintro (⟨hx, h1, h2, h3⟩ | rfl)
      · exact ⟨hx, h1, h2, by omega⟩
      · exact ⟨hm, rfl, rfl, by simp only; omega⟩
theorem ofT_len (L : List Sm) (e m : Int) : (ofT L e m).length ≤ L.length := List.length_filter_le _ _
end Go.Proofs.YtecggbndlbkhdaaGreat
end
section
namespace Go.Proofs.YtecggbndlbkhdaaGreat
set_option maxRecDepth 100000
open Go.RowKit

def cellsS (s : Sm) : List Value := [.int .i64 s.who, .int .i64 s.met, .int .i64 s.ep, .int .i64 s.val]
def wf64 (n : Int) : Prop := -9223372036854775808 ≤ n ∧ n ≤ 9223372036854775807
theorem wf64_iff (n : Int) : (Lit.int .i64 n).wf = true ↔ wf64 n := by
  simp [Lit.wf, IntKind.min, IntKind.max, IntKind.signed, IntKind.bits, wf64]
end Go.Proofs.YtecggbndlbkhdaaGreat
end
section
set_option linter.unusedSimpArgs false
set_option linter.unusedVariables false
namespace Go.Proofs.YtecggbndlbkhdaaGreat
set_option maxRecDepth 100000
open Go.RowKit

/-- a list with others written over a part of it -/
def overV (L l : List Value) (o : Nat) : List Value := L.take o ++ l ++ L.drop (o + l.length)
theorem overV_len {L l : List Value} {o : Nat} (h : o + l.length ≤ L.length) : (overV L l o).length = L.length := by
  unfold overV; rw [List.length_append, List.length_append, List.length_take, List.length_drop]; omega
theorem overV_nil (L : List Value) (o : Nat) : overV L [] o = L := by
  unfold overV; simp
theorem overV_cons {L l : List Value} {o : Nat} {v : Value} (h : o + (v :: l).length ≤ L.length) : overV (L.set o v) l (o + 1) = overV L (v :: l) o := by
  unfold overV
  simp only [List.length_cons] at *
  have e1 : (L.set o v).take (o + 1) = L.take o ++ [v] := by
    rw [List.take_set, List.take_succ_eq_append_getElem (by omega), List.set_append_right _ _ (by rw [List.length_take]; omega)]
    congr 1
    rw [List.length_take, Nat.min_eq_left (by omega), Nat.sub_self]
    rfl
  have e2 : (L.set o v).drop (o + 1 + l.length) = L.drop (o + (l.length + 1)) := by
    rw [List.drop_set_of_lt (by omega), show o + 1 + l.length = o + (l.length + 1) by omega]
  rw [e1, e2]
  simp [List.append_assoc]
theorem set_arr {L : List Value} {i : Nat} {v : Value} : (L.toArray).setIfInBounds i v = (L.set i v).toArray := by simp
/-- several cells stored into a block known whole -/
theorem at_setCells {b : Nat} {T : TypeId} {fz : Nat × Nat} : ∀ (vs : List Value) (o : Nat) (w : World) (L : List Value), w.heap[b]? = some (.cells L.toArray T fz) → o + vs.length ≤ L.length → (w.setCells b o vs).heap[b]? = some (.cells (overV L vs o).toArray T fz)
  | [], o, w, L, h, _ => by rw [overV_nil]; exact h
  | v :: r, o, w, L, h, hl => by
    have h1 := at_set h o v
    rw [set_arr] at h1
    have := at_setCells r (o + 1) (w.setCell ⟨b, o, none⟩ v) (L.set o v) h1 (by simp only [List.length_cons] at hl; simp; omega)
    rw [overV_cons hl] at this
    exact this
theorem chg_setCells {b : Nat} : ∀ (vs : List Value) (o : Nat) (w : World), Chg [b] w (w.setCells b o vs)
  | [], o, w => chg_refl w _
  | v :: r, o, w => ((chg_refl w _).set (.inl (by simp)) v).then (chg_setCells r (o + 1) _)
section
variable {α : Type} {k : Nat} (enc : α → List Value) (hk : ∀ a, (enc a).length = k)
include hk
theorem flat_len (l : List α) : (l.flatMap enc).length = l.length * k := by
  induction l with
  | nil => simp
  | cons a r ih => rw [List.flatMap_cons, List.length_append, ih, hk, List.length_cons, Nat.succ_mul]; omega
theorem flat_take (l : List α) (i : Nat) : (l.flatMap enc).take (i * k) = (l.take i).flatMap enc := by
  induction l generalizing i with
  | nil => simp
  | cons a r ih =>
    cases i with
    | zero => simp
    | succ i =>
      rw [List.flatMap_cons, List.take_succ_cons, List.flatMap_cons, List.take_append, hk, show (i + 1) * k - k = i * k by rw [Nat.succ_mul]; omega, ih, List.take_of_length_le (by rw [hk, Nat.succ_mul]; omega)]
theorem flat_drop (l : List α) (i : Nat) : (l.flatMap enc).drop (i * k) = (l.drop i).flatMap enc := by
  induction l generalizing i with
  | nil => simp
  | cons a r ih =>
    cases i with
    | zero => simp
    | succ i =>
      rw [List.flatMap_cons, List.drop_succ_cons, List.drop_append, hk, show (i + 1) * k - k = i * k by rw [Nat.succ_mul]; omega, ih, List.drop_of_length_le (by rw [hk, Nat.succ_mul]; omega), List.nil_append]
/-- one of them stored -/
theorem flat_over (l : List α) (i : Nat) (hi : i < l.length) (a : α) (R : List Value) : overV (l.flatMap enc ++ R) (enc a) (i * k) = (l.set i a).flatMap enc ++ R := by
  have hl := flat_len enc hk l
  have h1 : (i + 1) * k ≤ l.length * k := Nat.mul_le_mul_right k hi
  rw [Nat.succ_mul] at h1
  unfold overV
  rw [hk, List.take_append_of_le_length (by omega), List.drop_append_of_le_length (by omega), flat_take enc hk, show i * k + k = (i + 1) * k by rw [Nat.succ_mul], flat_drop enc hk, List.set_eq_take_append_cons_drop, if_pos hi]
  simp [List.flatMap_append, List.append_assoc]
/-- all from one on overwritten by as many -/
theorem flat_tail (l m : List α) (i : Nat) (hi : i + m.length = l.length) (R : List Value) : overV (l.flatMap enc ++ R) (m.flatMap enc) (i * k) = (l.take i ++ m).flatMap enc ++ R := by
  have hl := flat_len enc hk l
  have hm := flat_len enc hk m
  have h1 : i * k + m.length * k = l.length * k := by rw [← Nat.add_mul, hi]
  unfold overV
  rw [List.take_append_of_le_length (by omega), flat_take enc hk, hm, h1, ← hl, List.drop_left', List.flatMap_append]
  rfl
/-- some of them overwritten by as many -/
theorem flat_mid (l m : List α) (i : Nat) (hi : i + m.length ≤ l.length) (R : List Value) : overV (l.flatMap enc ++ R) (m.flatMap enc) (i * k) = (l.take i ++ m ++ l.drop (i + m.length)).flatMap enc ++ R := by
  have hl := flat_len enc hk l
  have hm := flat_len enc hk m
  have h1 : (i + m.length) * k ≤ l.length * k := Nat.mul_le_mul_right k hi
  unfold overV
  rw [Nat.add_mul] at h1
  rw [List.take_append_of_le_length (by omega), List.drop_append_of_le_length (by omega), flat_take enc hk, hm, ← Nat.add_mul, flat_drop enc hk]
  simp [List.flatMap_append, List.append_assoc]
end
theorem rep_len (zs : List Value) (n : Nat) : ((List.replicate n zs).flatMap id).length = n * zs.length := by
  induction n with
  | zero => simp
  | succ n ih => rw [List.replicate_succ, List.flatMap_cons, List.length_append, ih, Nat.succ_mul]; show zs.length + _ = _; omega
theorem rep_at {zs : List Value} (hp : 0 < zs.length) (n i : Nat) (hi : i < n * zs.length) : ((List.replicate n zs).flatMap id)[i]? = zs[i % zs.length]? := by
  induction n generalizing i with
  | zero => omega
  | succ n ih =>
    rw [List.replicate_succ, List.flatMap_cons]
    show (zs ++ _)[i]? = _
    by_cases h : i < zs.length
    · rw [List.getElem?_append_left h, Nat.mod_eq_of_lt h]
    · rw [Nat.succ_mul] at hi
      rw [List.getElem?_append_right (by omega), ih _ (by omega), ← Nat.mod_eq_sub_mod (by omega)]
/-- 'clear' of the last ones: a struct's zero in each -/
theorem run_clear_rows {P : Program} {w : World} (t e ty : TypeId) (z : Value) (zs : List Value) (ht : P.underlying t = some (.slice e)) (hv : ∀ w, (zeroValue e).run P w = .ok z w) (hz : z.cells = zs.toArray) (hz0 : zs ≠ []) (h1 : ∀ u ∈ zs, u.oneCell' = true) (b o n c : Nat) (hn : 0 < n)
    (hc : ∀ j, j < n * zs.length → (w.cell? ⟨b, o + j, none⟩).isSome = true) (hf : ∀ j, j < n * zs.length → w.frozen? ⟨b, o + j, none⟩ = false) :
    (Builtin.clear_ #[t] ty #[.slice (some ⟨b, o, none⟩) n c]).run P w = .ok (.tuple #[]) (w.setCells b o ((List.replicate n zs).flatMap id)) := by
  have hl := rep_len zs n
  have hzc : (Builtin.zeroCells z.cells n).toList = (List.replicate n zs).flatMap id := by
    rw [hz]
    have hp : 0 < zs.length := List.length_pos_iff.2 hz0
    refine List.ext_getElem? fun i => ?_
    by_cases hi : i < n * zs.length
    · rw [rep_at hp n i hi]
      have hm : i % zs.length < zs.length := Nat.mod_lt _ hp
      simp [Builtin.zeroCells, hi, hm]
    · rw [List.getElem?_eq_none (by simp [Builtin.zeroCells]; omega), List.getElem?_eq_none (by rw [hl]; omega)]
  have hst := run_storeCells_cells (P := P) b o ((List.replicate n zs).flatMap id) 0 w (by rw [hl]; simpa using hc) (by rw [hl]; simpa using hf) (by
    intro v hv'
    obtain ⟨x, hx, hxv⟩ := List.mem_flatMap.1 hv'
    rw [List.eq_of_mem_replicate hx] at hxv
    exact h1 v hxv)
  simp only [Nat.add_zero] at hst
  obtain ⟨m, rfl⟩ : ∃ m, n = m + 1 := ⟨n - 1, by omega⟩
  rw [show ((List.replicate (m + 1) zs).flatMap id) = (List.replicate (m + 1) zs).flatten by simp] at hst hzc ⊢
  simp [Builtin.clear_, run_underlying ht, hv, hzc, hst]
end Go.Proofs.YtecggbndlbkhdaaGreat
end
