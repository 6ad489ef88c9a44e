/-
  Plain mathematics: a number comes back from its eight bytes, wherever these stand. And slices of words that came in. No condition. Nothing of the program's functions is named here.
  Eight bytes come back from the number that they make. No condition but on the length. Nothing of the program is named here.
  Contracts for package mac: the second key, tags. The condition of a tag: the bytes read as bytes.
  Contracts for package mac: a tag's bytes, whether two tags are the same. No condition.
  Contracts for package mac: a tag out of bytes. The condition: the bytes read as bytes.
  For a region that leaves its order open: the condition that is held may be made stronger on the way. No condition. Nothing of the program is named here.
  Contract for the reader of a message's numbers: the next number, of eight bytes. The condition: the reader's block is as the program makes it, so many bytes are there, elsewhere.
  A configuration of the law's own, in a block. No condition.
  Places as keys of a map: what such a key reads as; maps whose entries are the samples of a list. No condition.
-/
import Derived.Test.YtecggbndlbkhdaaGreatY3
import Derived.Test.YtecggbndlbkhdaaGreatY10
import Derived.Test.YtecggbndlbkhdaaGreatY6
import Derived.WalkKit
import Derived.Deep.RegionHeld3
import Derived.Test.YtecggbndlbkhdaaGreatY2
import Derived.Test.YtecggbndlbkhdaaGreatY20
import Derived.DeepKeys5
import Derived.Maps.RangeWalk
import Derived.Maps.OwnSet
import Derived.Lib.SlMapFilter
section
namespace Go.Proofs.YtecggbndlbkhdaaGreat
set_option maxRecDepth 100000
open Go.RowKit

theorem byte_mask (n : BitVec 64) (i : Nat) : BitVec.ofNat 64 (putByte n i).toNat <<< (8 * i) = n &&& (255#64 <<< (8 * i)) := by
  have hb : BitVec.ofNat 64 (putByte n i).toNat = (n >>> (8 * i)) &&& 255#64 := by
    apply BitVec.eq_of_toNat_eq
    unfold putByte
    rw [BitVec.toNat_ofNat, BitVec.toNat_and]
    have e : (255#64).toNat = 2 ^ 8 - 1 := by decide
    rw [e, Nat.and_two_pow_sub_one_eq_mod]
    simp
    omega
  rw [hb]
  apply BitVec.eq_of_getLsbD_eq
  intro j hj
  rw [BitVec.getLsbD_shiftLeft, BitVec.getLsbD_and, BitVec.getLsbD_and, BitVec.getLsbD_ushiftRight, BitVec.getLsbD_shiftLeft]
  by_cases h1 : j < 8 * i
  · simp [h1]
  · rw [show 8 * i + (j - 8 * i) = j by omega]
    cases n.getLsbD j <;> simp
theorem mask_all : (255#64 <<< (8 * 0)) ||| (255#64 <<< (8 * 1)) ||| (255#64 <<< (8 * 2)) ||| (255#64 <<< (8 * 3)) ||| (255#64 <<< (8 * 4)) ||| (255#64 <<< (8 * 5)) ||| (255#64 <<< (8 * 6)) ||| (255#64 <<< (8 * 7)) = BitVec.allOnes 64 := by decide
/-- a number comes back from its bytes -/
theorem wordAt_put (l : List UInt8) (m : Nat) (n : BitVec 64) (h : ∀ i, i < 8 → byteAt l (m + i) = putByte n i) : wordAt l m 8 = n := by
  simp only [wordAt]
  rw [h 0 (by omega), h 1 (by omega), h 2 (by omega), h 3 (by omega), h 4 (by omega), h 5 (by omega), h 6 (by omega), h 7 (by omega)]
  rw [byte_mask n 0, byte_mask n 1, byte_mask n 2, byte_mask n 3, byte_mask n 4, byte_mask n 5, byte_mask n 6, byte_mask n 7]
  have z : ∀ x : BitVec 64, 0 ||| x = x := fun x => BitVec.zero_or
  rw [z, ← BitVec.and_or_distrib_left, ← BitVec.and_or_distrib_left, ← BitVec.and_or_distrib_left, ← BitVec.and_or_distrib_left, ← BitVec.and_or_distrib_left, ← BitVec.and_or_distrib_left, ← BitVec.and_or_distrib_left]
  rw [mask_all]
  exact BitVec.and_allOnes
/-- numbers, each in its eight bytes -/
def putAll (l : List (BitVec 64)) : List UInt8 := l.flatMap put8
theorem putAll_length (l : List (BitVec 64)) : (putAll l).length = 8 * l.length := by
  induction l with
  | nil => rfl
  | cons n l ih => simp only [putAll, List.flatMap_cons, List.length_append, put8_length, List.length_cons] at ih ⊢; rw [ih]; omega
theorem put8_byte (n : BitVec 64) (i : Nat) (h : i < 8) : byteAt (put8 n) i = putByte n i := by
  match i, h with
  | 0, _ => rfl
  | 1, _ => rfl
  | 2, _ => rfl
  | 3, _ => rfl
  | 4, _ => rfl
  | 5, _ => rfl
  | 6, _ => rfl
  | 7, _ => rfl
theorem byteAt_right (l r : List UInt8) (i : Nat) (h : i < r.length) : byteAt (l ++ r) (l.length + i) = byteAt r i := by
  rw [byteAt_eq (by simp; omega), byteAt_eq h, List.getElem_append_right (by omega)]
  congr 1
  omega
theorem byteAt_first (l r : List UInt8) (i : Nat) (h : i < l.length) : byteAt (l ++ r) i = byteAt l i := by
  rw [byteAt_eq h, byteAt_eq (by simp; omega), List.getElem_append_left h]
theorem putAll_byte (l : List (BitVec 64)) (k i : Nat) (hk : k < l.length) (hi : i < 8) : byteAt (putAll l) (8 * k + i) = putByte l[k] i := by
  induction l generalizing k with
  | nil => cases hk
  | cons n l ih =>
    have e : putAll (n :: l) = put8 n ++ putAll l := by simp [putAll]
    rw [e]
    cases k with
    | zero => rw [show 8 * 0 + i = i by omega, byteAt_first _ _ _ (by rw [put8_length]; exact hi)]; exact put8_byte n i hi
    | succ k =>
      have hk' : k < l.length := by simpa using hk
      rw [show 8 * (k + 1) + i = (put8 n).length + (8 * k + i) by rw [put8_length]; omega, byteAt_right _ _ _ (by rw [putAll_length]; omega)]
      exact ih k hk'
/-- each number of those behind bytes ahead -/
theorem wordAt_all (a : List UInt8) (l : List (BitVec 64)) (k : Nat) (hk : k < l.length) : wordAt (a ++ putAll l) (a.length + 8 * k) 8 = l[k] := by
  apply wordAt_put
  intro i hi
  rw [Nat.add_assoc, byteAt_right _ _ _ (by rw [putAll_length]; omega)]
  exact putAll_byte l k i hk hi

/-- a slice that reads as these words -/
def NumsAt (w : World) (v : Value) (l : List (BitVec 64)) : Prop :=
  (v = .slice none 0 0 ∧ l = []) ∨
  ∃ a cap, v = .slice (some a) l.length cap ∧ l.length ≤ cap ∧ cap ≤ maxLen ∧ ∀ i, (h : i < l.length) → w.cell? (a.add i) = some (.int .u64 (q l[i]))
theorem NumsAt.grown {w w1 : World} {v : Value} {l : List (BitVec 64)} (h : NumsAt w v l) (hg : w.grownBy w1 none) : NumsAt w1 v l := by
  rcases h with h | ⟨a, cap, rfl, h1, h2, h3⟩
  · exact .inl h
  · exact .inr ⟨a, cap, rfl, h1, h2, fun i hi => hg.cell (h3 i hi) (by simp)⟩
theorem NumsAt.cells {w : World} {v : Value} {l : List (BitVec 64)} (h : NumsAt w v l) (hp : 0 < l.length) :
    ∃ ab ao cap, v = .slice (some ⟨ab, ao, none⟩) l.length cap ∧ ∀ i, (h : i < l.length) → w.cell? ⟨ab, ao + i, none⟩ = some (.int .u64 (q l[i])) := by
  rcases h with ⟨_, rfl⟩ | ⟨⟨ab, ao, asp⟩, cap, rfl, _, _, h3⟩
  · cases hp
  · have h0 := h3 0 hp
    have hsp : asp = none := by simpa [Addr.add] using World.cell?_spot h0
    subst hsp
    refine ⟨ab, ao, cap, rfl, fun i hi => ?_⟩
    have := h3 i hi
    unfold Addr.add at this
    split at this
    · next h => subst h; simpa using this
    · simpa using this
end Go.Proofs.YtecggbndlbkhdaaGreat
end
section
set_option linter.unusedSimpArgs false
namespace Go.Proofs.YtecggbndlbkhdaaGreat
set_option maxRecDepth 100000
open Go.RowKit

/-- bit t of the number that k bytes make -/
theorem word_bit (l : List UInt8) (m : Nat) : ∀ (k : Nat), k ≤ 8 → ∀ t, (wordAt l m k).getLsbD t = (decide (t < 8 * k) && (byteAt l (m + t / 8)).toNat.testBit (t % 8))
  | 0, _, t => by simp [wordAt]
  | k + 1, hk, t => by
    have ih := word_bit l m k (by omega) t
    have hb : (byteAt l (m + k)).toNat < 2 ^ 8 := (byteAt l (m + k)).toNat_lt
    unfold wordAt
    rw [BitVec.getLsbD_or, ih, BitVec.getLsbD_shiftLeft, BitVec.getLsbD_ofNat]
    by_cases h1 : t < 8 * k
    · simp [h1, show t < 8 * (k + 1) by omega]
    · by_cases h2 : t < 8 * (k + 1)
      · have e1 : t / 8 = k := by omega
        have e2 : t % 8 = t - 8 * k := by omega
        simp [h1, h2, e1, e2, show t < 64 by omega, show t - 8 * k < 64 by omega]
      · have h3 : (byteAt l (m + k)).toNat.testBit (t - 8 * k) = false := Nat.testBit_lt_two_pow (Nat.lt_of_lt_of_le hb (Nat.pow_le_pow_right (by decide) (by omega)))
        simp [h1, h2, h3]
theorem word_byte (l : List UInt8) (m i : Nat) (hi : i < 8) : putByte (wordAt l m 8) i = byteAt l (m + i) := by
  apply UInt8.toNat_inj.1
  apply Nat.eq_of_testBit_eq
  intro k
  unfold putByte
  rw [UInt8.toNat_ofNat']
  rw [show (2 : Nat) ^ 8 = 2 ^ 8 from rfl, Nat.testBit_mod_two_pow]
  have h1 : (wordAt l m 8 >>> (8 * i)).toNat.testBit k = (wordAt l m 8).getLsbD (8 * i + k) := by
    rw [← BitVec.getLsbD_ushiftRight]; rfl
  rw [h1, word_bit l m 8 (Nat.le_refl 8)]
  by_cases hk : k < 8
  · have e1 : (8 * i + k) / 8 = i := by omega
    have e2 : (8 * i + k) % 8 = k := by omega
    simp [hk, e1, e2, show 8 * i + k < 64 by omega]
  · have h3 : (byteAt l (m + i)).toNat.testBit k = false := Nat.testBit_lt_two_pow (Nat.lt_of_lt_of_le (byteAt l (m + i)).toNat_lt (Nat.pow_le_pow_right (by decide) (by omega)))
    simp [hk, h3]
end Go.Proofs.YtecggbndlbkhdaaGreat
end
section
set_option linter.unusedSimpArgs false
namespace Go.Proofs.YtecggbndlbkhdaaGreat
set_option maxRecDepth 100000
open Go.RowKit

/-- a pair of numbers -/
abbrev pair (a b : BitVec 64) : Value := .agg #[.int .u64 (q a), .int .u64 (q b)]
def inv (x : BitVec 64) : BitVec 64 := x ^^^ BitVec.allOnes 64
/-- the function's own two blocks: what came in, what goes out; all else as it was, or new -/
structure Box (w : World) (k0 k1 : BitVec 64) (t t' : TypeId) (w' : World) : Prop where
  box : w'.heap[w.heap.size]? = some (.cells #[.int .u64 (q k0), .int .u64 (q k1)] t)
  ans : ∃ x y, w'.heap[w.heap.size + 1]? = some (.cells #[x, y] t')
  g : w.grownBy w' none
theorem Box.grown {w : World} {k0 k1 : BitVec 64} {t t' : TypeId} {w1 w2 : World} (h : Box w k0 k1 t t' w1) (hg : w1.grownBy w2 none) : Box w k0 k1 t t' w2 :=
  ⟨at_grown h.box hg (by simp), by obtain ⟨x, y, h⟩ := h.ans; exact ⟨x, y, at_grown h hg (by simp)⟩, gb_trans h.g hg (.inl rfl)⟩
theorem Box.drew {w : World} {k0 k1 : BitVec 64} {t t' : TypeId} {w1 : World} (h : Box w k0 k1 t t' w1) : Box w k0 k1 t t' w1.drew := ⟨h.box, h.ans, gb_drew h.g⟩
theorem Box.alloc {w : World} {k0 k1 : BitVec 64} {t t' : TypeId} {w1 : World} (h : Box w k0 k1 t t' w1) (o : Obj) : Box w k0 k1 t t' (w1.alloc o) := h.grown (World.grownBy_alloc w1 o none)
theorem Box.set0 {w : World} {k0 k1 : BitVec 64} {t t' : TypeId} {w1 : World} (h : Box w k0 k1 t t' w1) (v : Value) : Box w k0 k1 t t' (w1.setCell ⟨w.heap.size + 1, 0, none⟩ v) :=
  ⟨at_set_other h.box (by simp) v, by obtain ⟨x, y, hxy⟩ := h.ans; exact ⟨v, y, at_set hxy 0 v⟩, gb_new h.g (by simp) v⟩
theorem Box.set1 {w : World} {k0 k1 : BitVec 64} {t t' : TypeId} {w1 : World} (h : Box w k0 k1 t t' w1) (v : Value) : Box w k0 k1 t t' (w1.setCell ⟨w.heap.size + 1, 1, none⟩ v) :=
  ⟨at_set_other h.box (by simp) v, by obtain ⟨x, y, hxy⟩ := h.ans; exact ⟨x, v, at_set hxy 1 v⟩, gb_new h.g (by simp) v⟩
theorem Box.store {w : World} {k0 k1 : BitVec 64} {t t' : TypeId} {w1 : World} (h : Box w k0 k1 t t' w1) (a b : Value) :
    ((w1.setCell ⟨w.heap.size + 1, 0, none⟩ a).setCell ⟨w.heap.size + 1, 1, none⟩ b).heap[w.heap.size + 1]? = some (.cells #[a, b] t') ∧ w.grownBy ((w1.setCell ⟨w.heap.size + 1, 0, none⟩ a).setCell ⟨w.heap.size + 1, 1, none⟩ b) none := by
  obtain ⟨x, y, hxy⟩ := h.ans
  exact ⟨at_set (at_set hxy 0 a) 1 b, ((h.set0 a).set1 b).g⟩
theorem Box.keep {w : World} {k0 k1 : BitVec 64} {t t' : TypeId} {w' : World} (h : Box w k0 k1 t t' w') :
    w'.cell? ⟨w.heap.size, 0, none⟩ = some (.int .u64 (q k0)) ∧ w'.cell? ⟨w.heap.size, 1, none⟩ = some (.int .u64 (q k1)) ∧ Box w k0 k1 t t' w' := ⟨at_cell h.box 0, at_cell h.box 1, h⟩
section
variable {P Q : Prop} {w wc : World} {k0 k1 : BitVec 64} {t t' : TypeId} {v : Value} {l : List UInt8}
end

end Go.Proofs.YtecggbndlbkhdaaGreat
end
section
set_option linter.unusedSimpArgs false
namespace Go.Proofs.YtecggbndlbkhdaaGreat
set_option maxRecDepth 100000
open Go.RowKit

/-- the function's own block: what came in; all else as it was, or new -/
structure Boxb (w : World) (x y : BitVec 64) (t : TypeId) (w' : World) : Prop where
  box : w'.heap[w.heap.size]? = some (.cells #[.int .u64 (q x), .int .u64 (q y)] t)
  g : w.grownBy w' none
theorem Boxb.grown {w : World} {x y : BitVec 64} {t : TypeId} {w1 w2 : World} (h : Boxb w x y t w1) (hg : w1.grownBy w2 none) : Boxb w x y t w2 := ⟨at_grown h.box hg (by simp), gb_trans h.g hg (.inl rfl)⟩
theorem Boxb.drew {w : World} {x y : BitVec 64} {t : TypeId} {w1 : World} (h : Boxb w x y t w1) : Boxb w x y t w1.drew := ⟨h.box, gb_drew h.g⟩
theorem Boxb.size {w : World} {x y : BitVec 64} {t : TypeId} {w1 : World} (h : Boxb w x y t w1) : w.heap.size + 1 ≤ w1.heap.size := at_lt h.box
theorem Boxb.own {w : World} {x y : BitVec 64} {t : TypeId} {w1 w2 : World} {v : Value} {l : List UInt8} (h : Boxb w x y t w1) (ho : OwnB (w.heap.size + 1) w1 v l) (hg : w1.grownBy w2 v.ownBlock) : Boxb w x y t w2 :=
  ⟨at_own h.box ho (by omega) hg, gb_own h.g ho (by omega) hg⟩
theorem Boxb.keep {w : World} {x y : BitVec 64} {t : TypeId} {w' : World} (h : Boxb w x y t w') :
    w'.cell? ⟨w.heap.size, 0, none⟩ = some (.int .u64 (q x)) ∧ w'.cell? ⟨w.heap.size, 1, none⟩ = some (.int .u64 (q y)) ∧ Boxb w x y t w' := ⟨at_cell h.box 0, at_cell h.box 1, h⟩
section
variable {P Q : Prop} {w wc : World} {x y : BitVec 64} {t : TypeId}
end

end Go.Proofs.YtecggbndlbkhdaaGreat
end
section
set_option linter.unusedSimpArgs false
namespace Go.Proofs.YtecggbndlbkhdaaGreat
set_option maxRecDepth 100000
open Go.RowKit

end Go.Proofs.YtecggbndlbkhdaaGreat
end
section
namespace Go.Proofs.YtecggbndlbkhdaaGreat
set_option maxRecDepth 100000
open Go.RowKit
theorem held_stronger {P : Program} {md : Region.Mode} {ops : Array Oper} {Q : Exit → Act → World → Prop} {S S' : World → Prop} (hS : ∀ w, S' w → S w) :
    ∀ (fuel : Nat) (listed : Array Bool) (a : Act) (w : World), wpAnyH P md ops Q S' fuel listed a w → wpAnyH P md ops Q S fuel listed a w
  | 0, _, _, _, h => h
  | fuel + 1, _, _, _, h => ⟨h.1, fun i hi => wpOp_mono (fun a' w' h' => ⟨hS _ h'.1, held_stronger hS fuel _ a' w' h'.2⟩) (h.2 i hi)⟩
end Go.Proofs.YtecggbndlbkhdaaGreat
end
section
set_option linter.unusedSimpArgs false
set_option linter.unusedVariables false
namespace Go.Proofs.YtecggbndlbkhdaaGreat
set_option maxRecDepth 100000
open Go.RowKit

@[reducible] def rdObj (v : Value) (k : Int) : Obj := .cells #[v, .int .i64 k] 414
end Go.Proofs.YtecggbndlbkhdaaGreat
end
section
set_option linter.unusedSimpArgs false
namespace Go.Proofs.YtecggbndlbkhdaaGreat
set_option maxRecDepth 100000
open Go.RowKit

/-- the block x holds the configuration c; all else as it was, or new -/
structure Cfx (w0 : World) (x : Nat) (c : Conf) (w : World) : Prop where
  box : w.heap[x]? = some (.cells c.cells 27)
  g : w0.grownBy w none
theorem Cfx.grown {w0 : World} {x : Nat} {c : Conf} {w1 w2 : World} (h : Cfx w0 x c w1) (hg : w1.grownBy w2 none) : Cfx w0 x c w2 := ⟨at_grown h.box hg (by simp), gb_trans h.g hg (.inl rfl)⟩
theorem Cfx.drew {w0 : World} {x : Nat} {c : Conf} {w1 : World} (h : Cfx w0 x c w1) : Cfx w0 x c w1.drew := ⟨h.box, gb_drew h.g⟩
theorem cfx_new {w0 w1 : World} (c : Conf) (h : w0.grownBy w1 none) : Cfx w0 w1.heap.size c (w1.alloc (.cells c.cells 27)) := ⟨at_new w1 _, gb_alloc h _⟩

/-- a number out of 'int(uint(x) % m)' -/
theorem mod_small (x : Int) {m : Int} (h0 : 0 < m) (h1 : m ≤ 4611686018427387904) : 0 ≤ wrap64 ((IntKind.u64.wrap x).tmod m) ∧ wrap64 ((IntKind.u64.wrap x).tmod m) < m := by
  have h : 0 ≤ IntKind.u64.wrap x := by
    show 0 ≤ x % _
    exact Int.emod_nonneg _ (by decide)
  rw [Int.tmod_eq_emod_of_nonneg h]
  have a := Int.emod_nonneg (IntKind.u64.wrap x) (Int.ne_of_gt h0)
  have b := Int.emod_lt_of_pos (IntKind.u64.wrap x) h0
  rw [wrap_small (by omega) (by omega)]
  exact ⟨a, b⟩
end Go.Proofs.YtecggbndlbkhdaaGreat
end
section
set_option linter.unusedSimpArgs false
set_option linter.unusedVariables false
namespace Go.Proofs.YtecggbndlbkhdaaGreat
set_option maxRecDepth 100000
open Go.RowKit Go.Maps

def cellsP (p : Pc) : List Value := [.int .i64 p.1, .int .i64 p.2.1, .int .i64 p.2.2]
def encP (p : Pc) : Value := .agg #[.int .i64 p.1, .int .i64 p.2.1, .int .i64 p.2.2]
def FitP (p : Pc) : Prop := wf64 p.1 ∧ wf64 p.2.1 ∧ wf64 p.2.2
theorem encP_inj {p r : Pc} (h : encP p = encP r) : p = r := by
  obtain ⟨a, b, c⟩ := p
  obtain ⟨a', b', c'⟩ := r
  simpa [encP] using h
def pkL (p : Pc) : Lit := .string (keyBytes [.int .i64 p.1, .int .i64 p.2.1, .int .i64 p.2.2])
theorem tsz : 2 ≤ Tryz.prog.types.size := Nat.le_of_ble_eq_true (by kernel_rfl)
theorem tsz2 : Tryz.prog.types.size + 2 ≤ 10000 := Nat.le_of_ble_eq_true (by kernel_rfl)
theorem tsz3 : 317 < Tryz.prog.types.size := Nat.le_of_ble_eq_true (by kernel_rfl)
theorem keyLaw : WideMaps.KeyLaw Tryz.prog 317 := deep_law_gate laidOut tsz2 tsz3 (by kernel_rfl) (by kernel_rfl)
theorem keyedT : Keyed Tryz.prog 317 := .of_law keyLaw
theorem ktP : Tryz.prog.keyType 317 = true := by kernel_rfl
theorem cellsOfP : Tryz.prog.cellsOf 317 = 3 := by kernel_rfl
theorem cellsOfI : Tryz.prog.cellsOf 3 = 1 := by kernel_rfl
theorem cellsOfI6 : Tryz.prog.cellsOf 2 = 1 := by kernel_rfl
theorem lits_i (d : Nat) (cs : List Value) (ls : List Lit) (h : Tryz.prog.keyLits (d + 1) 3 cs = some ls) : ∃ n, cs = [.int .i64 n] ∧ ls = [.int .i64 n] ∧ wf64 n := by
  unfold Program.keyLits at h
  simp only [Tryz.underlying3] at h
  match cs, h with
  | [.int q n], h =>
    simp only at h
    split at h
    · next hq => obtain ⟨rfl, hw⟩ := hq; cases h; exact ⟨n, rfl, rfl, (wf64_iff n).1 hw⟩
    · cases h
theorem lits_i6 (d : Nat) (cs : List Value) (ls : List Lit) (h : Tryz.prog.keyLits (d + 1) 2 cs = some ls) : ∃ n, cs = [.int .i64 n] ∧ ls = [.int .i64 n] ∧ wf64 n := by
  unfold Program.keyLits at h
  simp only [Tryz.underlying2] at h
  match cs, h with
  | [.int q n], h =>
    simp only at h
    split at h
    · next hq => obtain ⟨rfl, hw⟩ := hq; cases h; exact ⟨n, rfl, rfl, (wf64_iff n).1 hw⟩
    · cases h
theorem mk_i (d : Nat) {n : Int} (h : wf64 n) : Tryz.prog.keyLits (d + 1) 3 [.int .i64 n] = some [.int .i64 n] := by
  unfold Program.keyLits
  simp [Tryz.underlying3, (wf64_iff n).2 h]
theorem mk_i6 (d : Nat) {n : Int} (h : wf64 n) : Tryz.prog.keyLits (d + 1) 2 [.int .i64 n] = some [.int .i64 n] := by
  unfold Program.keyLits
  simp [Tryz.underlying2, (wf64_iff n).2 h]
theorem keyOf_pl {p : Pc} (h : FitP p) : Go.keyOf Tryz.prog 317 (encP p) = some (pkL p) := by
  obtain ⟨h1, h2, h3⟩ := h
  obtain ⟨d, hd⟩ : ∃ d, Tryz.prog.types.size = d + 2 := ⟨Tryz.prog.types.size - 2, by have := tsz; omega⟩
  unfold Go.keyOf
  simp only [Tryz.underlying317, ktP]
  have hf : (encP p).formed Tryz.prog 317 = true := by
    simp [encP, Value.formed, Tryz.underlying317, cellsOfP]
  rw [hf, hd]
  simp only [Bool.and_self, if_true]
  have hl : Tryz.prog.keyLits (d + 2 + 1) 317 (encP p).cells.toList = some [.int .i64 p.1, .int .i64 p.2.1, .int .i64 p.2.2] := by
    unfold Program.keyLits
    simp only [Tryz.underlying317, encP, Value.cells]
    simp [cellsOfP, cellsOfI, cellsOfI6, mk_i (d + 1) h2, mk_i (d + 1) h3, mk_i6 (d + 1) h1]
  rw [hl]
  rfl
theorem keyOf_inv {v : Value} {kl : Lit} (h : Go.keyOf Tryz.prog 317 v = some kl) : ∃ p, v = encP p ∧ kl = pkL p ∧ FitP p := by
  obtain ⟨d, hd⟩ : ∃ d, Tryz.prog.types.size = d + 2 := ⟨Tryz.prog.types.size - 2, by have := tsz; omega⟩
  unfold Go.keyOf at h
  simp only [Tryz.underlying317, ktP, hd] at h
  split at h
  · next hf =>
    simp only [Bool.true_and] at hf
    cases v <;> simp only [Value.formed, Tryz.underlying317, Bool.false_eq_true] at hf
    next cs =>
    rw [Option.map_eq_some_iff] at h
    obtain ⟨ls, hl, rfl⟩ := h
    rw [cellsOfP, beq_iff_eq] at hf
    obtain ⟨⟨x, y, z, rfl⟩⟩ : Nonempty (∃ x y z, cs = #[x, y, z]) := by
      obtain ⟨l⟩ := cs
      match l, hf with
      | [x, y, z], _ => exact ⟨⟨x, y, z, rfl⟩⟩
    unfold Program.keyLits at hl
    simp only [Tryz.underlying317, Value.cells] at hl
    simp [cellsOfP, cellsOfI, cellsOfI6] at hl
    cases ex : Tryz.prog.keyLits (d + 2) 2 [x] with
    | none => rw [ex] at hl; simp at hl
    | some lx =>
    cases ey : Tryz.prog.keyLits (d + 2) 3 [y] with
    | none => rw [ex, ey] at hl; simp at hl
    | some ly =>
    cases ez : Tryz.prog.keyLits (d + 2) 3 [z] with
    | none => rw [ex, ey, ez] at hl; simp at hl
    | some lz =>
    rw [ex, ey, ez] at hl
    obtain ⟨n1, c1, rfl, w1⟩ := lits_i6 (d + 1) _ _ ex
    obtain ⟨n2, c2, rfl, w2⟩ := lits_i (d + 1) _ _ ey
    obtain ⟨n3, c3, rfl, w3⟩ := lits_i (d + 1) _ _ ez
    cases c1
    cases c2
    cases c3
    simp at hl
    subst hl
    exact ⟨(n1, n2, n3), rfl, rfl, w1, w2, w3⟩
  · cases h
theorem pkL_inj {p r : Pc} (hp : FitP p) (hr : FitP r) (h : pkL p = pkL r) : p = r :=
  encP_inj (keyedT.inj (keyOf_pl hp) (by rw [h]; exact keyOf_pl hr))
theorem pkL_key (p : Pc) : WideAt.IsKeyLit (pkL p) := trivial
theorem pkL_same (p : Pc) : (pkL p).sameKey (pkL p) = true := WideAt.sameKey_self (pkL_key p)

section
variable {H : Type} {D : DataW H} {L : List Sm} {left : Lit → Bool} {ps : List Pc} {p : Pc} {s : Sm}
/-- a sample as a map's entry -/
def ent (H : Type) (s : Sm) : Lit × DataW H := (pkL s.pl, .lit (.int .i64 s.val))
/-- the map's entries are the samples -/
def MapIs (D : DataW H) (L : List Sm) : Prop := ∃ es, D = .map es ∧ es.Perm (L.map (ent H))
def FitsT (L : List Sm) : Prop := ∀ s ∈ L, FitP s.pl
theorem MapIs.nil : MapIs (.map [] : DataW H) [] := ⟨[], rfl, .refl _⟩
theorem MapIs.size (h : MapIs D L) : Maps.size D = L.length := by
  obtain ⟨es, rfl, hp⟩ := h
  show es.length = _
  rw [hp.length_eq, List.length_map]
theorem MapIs.has_iff (h : MapIs D L) (hL : FitsT L) (hp : FitP p) : Maps.has D (pkL p) = true ↔ There L p := by
  obtain ⟨es, rfl, hpm⟩ := h
  rw [Maps.has_eq, List.any_eq_true]
  constructor
  · rintro ⟨x, hx, hk⟩
    obtain ⟨s, hs, rfl⟩ := List.mem_map.1 (hpm.mem_iff.1 hx)
    exact ⟨s, hs, pkL_inj (hL s hs) hp (WideAt.sameKey_eq hk)⟩
  · rintro ⟨s, hs, rfl⟩
    exact ⟨_, hpm.mem_iff.2 (List.mem_map_of_mem hs), pkL_same _⟩
theorem MapIs.has_not (h : MapIs D L) (hL : FitsT L) (hp : FitP p) (hn : ¬ There L p) : Maps.has D (pkL p) = false := by
  cases e : Maps.has D (pkL p)
  · rfl
  · exact absurd ((h.has_iff hL hp).1 e) hn
theorem MapIs.at (h : MapIs D L) (hS : Srt L) (hL : FitsT L) (hs : s ∈ L) (z : DataW H) : D.atKey (pkL s.pl) z = .lit (.int .i64 s.val) := by
  obtain ⟨es, rfl, hpm⟩ := h
  have hne : es.Pairwise fun p q => p.1 ≠ q.1 := by
    refine (hpm.pairwise_iff (fun {a b} (k : a.1 ≠ b.1) => k.symm)).2 (List.pairwise_map.2 (hS.ne.imp_of_mem fun {a b} ha hb hab e => hab (pkL_inj (hL a ha) (hL b hb) e)))
  exact WideAt.atKey_mem z (pkL_key _) hne (hpm.mem_iff.2 (List.mem_map_of_mem hs))
theorem MapIs.put (h : MapIs D L) (hL : FitsT L) (hs : FitP s.pl) (hn : ¬ There L s.pl) : MapIs (D.put (pkL s.pl) (.lit (.int .i64 s.val))) (ins s L) := by
  have h0 := h.has_not hL hs hn
  obtain ⟨es, rfl, hpm⟩ := h
  refine ⟨DataW.insert (pkL s.pl, .lit (.int .i64 s.val)) (es.filter fun p => !p.1.sameKey (pkL s.pl)), rfl, ?_⟩
  have hf : es.filter (fun p => !p.1.sameKey (pkL s.pl)) = es := List.filter_eq_self.2 fun x hx => by simpa using (List.any_eq_false.1 h0) x hx
  rw [hf]
  refine (WideShapes.insert_perm _ _).trans (List.Perm.trans ?_ ((ins_perm s L).map _).symm)
  exact hpm.cons _
theorem MapIs.drop (h : MapIs D L) {pd : Lit → DataW H → Bool} {e : Int} (hL : FitsT L) (hpd : ∀ p d, FitP p → pd (pkL p) d = decide (p.1 ≤ e)) : MapIs (Lib.deleteFuncD pd D) (dropT L e) := by
  obtain ⟨es, rfl, hpm⟩ := h
  refine ⟨_, rfl, (hpm.filter _).trans ?_⟩
  unfold dropT
  rw [List.filter_map]
  refine .of_eq ?_
  congr 1
  refine List.filter_congr fun x hx => ?_
  have := hpd x.pl (.lit (.int .i64 x.val)) (hL x hx)
  simp only [Function.comp, ent, this]
  by_cases he : e < x.ep
  · have h2 : ¬ x.ep ≤ e := by omega
    simp [he, h2, Sm.pl]
  · have h2 : x.ep ≤ e := by omega
    simp [he, h2, Sm.pl]
theorem pd_of (H : Type) (e : Int) : ∃ pd : Lit → DataW H → Bool, ∀ p d, FitP p → pd (pkL p) d = decide (p.1 ≤ e) := by
  refine ⟨fun kl _ => @decide (∃ p : Pc, FitP p ∧ pkL p = kl ∧ p.1 ≤ e) (Classical.propDecidable _), fun p d hp => ?_⟩
  by_cases h : p.1 ≤ e
  · rw [decide_eq_true h]
    exact @decide_eq_true _ (Classical.propDecidable _) ⟨p, hp, rfl, h⟩
  · rw [decide_eq_false h]
    refine @decide_eq_false _ (Classical.propDecidable _) ?_
    rintro ⟨r, hr, e2, h2⟩
    rw [pkL_inj hr hp e2] at h2
    exact h h2
/-- which places have come, ranging over a map -/
structure Coll (D : DataW H) (left : Lit → Bool) (ps : List Pc) : Prop where
  nd : ps.Nodup
  fit : ∀ p ∈ ps, FitP p
  mem : ∀ p, FitP p → (p ∈ ps ↔ (Maps.has D (pkL p) = true ∧ left (pkL p) = false))
theorem Coll.start (D : DataW H) : Coll D (Maps.has D) [] := ⟨List.nodup_nil, by simp, fun p _ => by cases Maps.has D (pkL p) <;> simp⟩
theorem Coll.step (h : Coll D left ps) (hp : FitP p) {y : DataW H} (hlk : left (pkL p) = true) (hat : ∀ z, D.atKey (pkL p) z = y) : Coll D (fun z => left z && !z.sameKey (pkL p)) (ps ++ [p]) := by
  have hhas : Maps.has D (pkL p) = true := Maps.has_true_of_atKey hat
  have hnew : p ∉ ps := fun hx => by have := ((h.mem p hp).1 hx).2; rw [hlk] at this; cases this
  refine ⟨List.nodup_append.2 ⟨h.nd, by simp, fun a ha b hb => ?_⟩, fun r hr => ?_, fun r hr => ?_⟩
  · simp only [List.mem_singleton] at hb
    subst hb
    exact fun e => hnew (by rw [← e]; exact ha)
  · rcases List.mem_append.1 hr with hr | hr
    · exact h.fit r hr
    · simp only [List.mem_singleton] at hr
      subst hr
      exact hp
  · by_cases e : r = p
    · subst e
      simp [hhas, pkL_same]
    · have hs : (pkL r).sameKey (pkL p) = false := Maps.sameKey_ne fun k => e (pkL_inj hr hp k)
      simp [h.mem r hr, e, hs]
theorem Coll.perm (h : Coll D left ps) (hM : MapIs D L) (hS : Srt L) (hL : FitsT L) (hl : ∀ kl, left kl = false) : ps.Perm (L.map Sm.pl) := by
  refine (List.perm_ext_iff_of_nodup h.nd hS.places).2 fun p => ?_
  constructor
  · intro hp
    obtain ⟨x, hx, rfl⟩ := (hM.has_iff hL (h.fit p hp)).1 ((h.mem p (h.fit p hp)).1 hp).1
    exact List.mem_map_of_mem hx
  · intro hp
    obtain ⟨x, hx, rfl⟩ := List.mem_map.1 hp
    exact (h.mem _ (hL x hx)).2 ⟨(hM.has_iff hL (hL x hx)).2 ⟨x, hx, rfl⟩, hl _⟩
theorem FitsT.filter (h : FitsT L) (f : Sm → Bool) : FitsT (L.filter f) := fun s hs => h s (List.mem_filter.1 hs).1
theorem FineT.fits {n : Int} (h : FineT n L) : FitsT L := fun s hs => by
  have := h.fit s hs
  unfold FitP wf64 Sm.pl
  simp only
  omega
end
/-- an element that reads as a number is that number -/
theorem elem_i64 {H : Type} {v : Value} {z : DataW H × List MemPlace} (h : plainElem Tryz.prog 2 v = some z) : ∃ a, v = .int .i64 a ∧ z = (.lit (.int .i64 a), []) := by
  obtain ⟨a, h1, h2, _⟩ := plainElem_int_inv Tryz.underlying2 h
  exact ⟨a, h1, h2⟩
end Go.Proofs.YtecggbndlbkhdaaGreat
end
