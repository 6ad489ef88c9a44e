/-
  Small lemmas on the library's relation 'grownBy' (a world that has new blocks, and writes to one old block at the most): new blocks, draws and stores keep it; what a block holds behind such steps. No condition. Nothing of the program is named here. And 1 texts more that this one stands on. No condition.
-/
import Derived.WalkKit
section
namespace Go.Proofs.YtgpdcapnnejdeaaGreat
set_option maxRecDepth 100000
open Go.RowKit

theorem hid {p : Prop} (h : p) : Hid p := h
theorem gb_trans {a b c : World} {r r' : Option Nat} (h : a.grownBy b r) (k : b.grownBy c r') (hr : r' = none ∨ r' = r ∨ ∃ j, r' = some j ∧ a.heap.size ≤ j) : a.grownBy c r :=
 ⟨k.os.trans h.os, k.tape.trans h.tape, k.output.trans h.output, Nat.le_trans h.size k.size, fun i hi hn => by
  have h1 := h.size
  rw [k.block i (by omega) (by
   rcases hr with e | e | ⟨j, e, hj⟩
   ·rw [e]; simp
   ·rw [e]; exact hn
   ·rw [e]; intro h2; cases h2; omega)]
  exact h.block i hi hn⟩
theorem gb_alloc {w w1 : World} {r : Option Nat} (h : w.grownBy w1 r) (o : Obj) : w.grownBy (w1.alloc o) r := gb_trans h (World.grownBy_alloc w1 o none) (.inl rfl)
theorem gb_drew {w w1 : World} {r : Option Nat} (h : w.grownBy w1 r) : w.grownBy w1.drew r :=
 ⟨h.os, h.tape, h.output, h.size, h.block⟩
theorem gb_new {w w1 : World} {r : Option Nat} (h : w.grownBy w1 r) {p : Addr} (hp : w.heap.size ≤ p.block) (v : Value) : w.grownBy (w1.setCell p v) r :=
 ⟨h.os, h.tape, h.output, by simpa [World.setCell] using h.size, fun k hk hr => by
  rw [Below.heap_setCell _ _ _ _ (by omega)]; exact h.block k hk hr⟩
theorem gb_row {w w1 : World} {b : Nat} (h : w.grownBy w1 (some b)) {p : Addr} (hp : p.block = b) (v : Value) : w.grownBy (w1.setCell p v) (some b) :=
 ⟨h.os, h.tape, h.output, by simpa [World.setCell] using h.size, fun k hk hr => by
  rw [Below.heap_setCell _ _ _ _ (by intro e; apply hr; rw [e, hp])]; exact h.block k hk hr⟩
theorem gb_below {w w1 : World} (h : w.grownBy w1 none) : Below w.heap.size w w1 :=
 ⟨h.os, h.tape, h.output, h.size, fun k hk => h.block k hk (by simp)⟩
theorem gb_size {w w1 : World} {r : Option Nat} (h : w.grownBy w1 r) : w.heap.size ≤ w1.heap.size := h.size
theorem at_set {w : World} {b : Nat} {c : Array Value} {t : TypeId} {f : Nat × Nat} (h : w.heap[b]? = some (.cells c t f)) (i : Nat) (v : Value) :
  (w.setCell ⟨b, i, none⟩ v).heap[b]? = some (.cells (c.setIfInBounds i v) t f) := by
 simp [World.setCell, Array.getElem?_modify, h]
theorem at_set_other {w : World} {b : Nat} {o : Option Obj} (h : w.heap[b]? = o) {p : Addr} (hp : b ≠ p.block) (v : Value) : (w.setCell p v).heap[b]? = o := by
 rw [Below.heap_setCell _ _ _ _ hp]; exact h
theorem at_alloc {w : World} {b : Nat} {o : Obj} (h : w.heap[b]? = some o) (o' : Obj) : (w.alloc o').heap[b]? = some o := by
 have hb : b < w.heap.size := by
  rcases Nat.lt_or_ge b w.heap.size with hb | hb
  ·exact hb
  ·rw [Array.getElem?_eq_none hb] at h; cases h
 rw [Below.heap_alloc _ _ _ hb]; exact h
theorem at_drew {w : World} {b : Nat} {o : Obj} (h : w.heap[b]? = some o) : w.drew.heap[b]? = some o := h
theorem at_lt {w : World} {b : Nat} {o : Obj} (h : w.heap[b]? = some o) : b < w.heap.size := by
 rcases Nat.lt_or_ge b w.heap.size with hb | hb
 ·exact hb
 ·rw [Array.getElem?_eq_none hb] at h; cases h
theorem at_new (w : World) (o : Obj) : (w.alloc o).heap[w.heap.size]? = some o := by
 show (w.heap.push o)[w.heap.size]? = some o
 simp
theorem at_grown {w w1 : World} {r : Option Nat} {b : Nat} {o : Obj} (h : w.heap[b]? = some o) (hg : w.grownBy w1 r) (hr : some b ≠ r) : w1.heap[b]? = some o := by
 rw [hg.block b (at_lt h) hr]; exact h
theorem at_cell {w : World} {b : Nat} {c : Array Value} {t : TypeId} {f : Nat × Nat} (h : w.heap[b]? = some (.cells c t f)) (i : Nat) : w.cell? ⟨b, i, none⟩ = c[i]? := by
 simp [World.cell?, h]
theorem at_free {w : World} {b : Nat} {c : Array Value} {t : TypeId} (h : w.heap[b]? = some (.cells c t (0, 0))) (i : Nat) : w.frozen? ⟨b, i, none⟩ = false := by
 simp [World.frozen?, h]
theorem exit_gen {K : Act → World → Prop} {Q : Exit → Act → World → Prop} {x : Exit} {a : Act} {w : World} (P : World → Prop) (h : P w) (k : ∀ wx, P wx → Exit.then K Q x a wx) : Exit.then K Q x a w := k w h
end Go.Proofs.YtgpdcapnnejdeaaGreat
end
section
namespace Go.Proofs.YtgpdcapnnejdeaaGreat
set_option maxRecDepth 100000
open Go.RowKit

def q (x : BitVec 64) : Int := (x.toNat : Int)
theorem q_inj {x y : BitVec 64} (h : q x = q y) : x = y := by
 unfold q at h; exact BitVec.eq_of_toNat_eq (by omega)
theorem q_inj_iff (x y : BitVec 64) : q x = q y ↔ x = y := ⟨q_inj, fun h => by rw [h]⟩
theorem q_beq (x y : BitVec 64) : (q x == q y) = (x == y) := by
 rw [Bool.eq_iff_iff]; simp [q_inj_iff]
theorem q_ofInt (x : BitVec 64) : BitVec.ofInt 64 (q x) = x := by
 unfold q; rw [BitVec.ofInt_natCast, BitVec.ofNat_toNat]; simp
theorem wrap_toNat (x : BitVec 64) : IntKind.u64.wrap (x.toNat : Int) = q x := by
 rw [IntKind.wrap_u64]; unfold q; have := x.isLt; omega
theorem q_xor (x y : BitVec 64) : bits .xor .u64 (q x) (q y) = q (x ^^^ y) := by
 show IntKind.u64.wrap ((BitVec.ofInt 64 (q x) ^^^ BitVec.ofInt 64 (q y)).toNat : Int) = _
 rw [q_ofInt, q_ofInt]; exact wrap_toNat _
theorem q_or (x y : BitVec 64) : bits .or .u64 (q x) (q y) = q (x ||| y) := by
 show IntKind.u64.wrap ((BitVec.ofInt 64 (q x) ||| BitVec.ofInt 64 (q y)).toNat : Int) = _
 rw [q_ofInt, q_ofInt]; exact wrap_toNat _
theorem q_and (x y : BitVec 64) : bits .and .u64 (q x) (q y) = q (x &&& y) := by
 show IntKind.u64.wrap ((BitVec.ofInt 64 (q x) &&& BitVec.ofInt 64 (q y)).toNat : Int) = _
 rw [q_ofInt, q_ofInt]; exact wrap_toNat _
theorem q_xor_num (x : BitVec 64) (n : Int) : bits .xor .u64 (q x) n = q (x ^^^ BitVec.ofInt 64 n) := by
 show IntKind.u64.wrap ((BitVec.ofInt 64 (q x) ^^^ BitVec.ofInt 64 n).toNat : Int) = _
 rw [q_ofInt]; exact wrap_toNat _
theorem q_add (x y : BitVec 64) : IntKind.u64.wrap (q x + q y) = q (x + y) := by
 rw [IntKind.wrap_u64]; unfold q; rw [BitVec.toNat_add]; omega
theorem q_shl (x : BitVec 64) (n : Nat) : IntKind.u64.wrap (q x * 2 ^ n) = q (x <<< n) := by
 rw [IntKind.wrap_u64]
 unfold q
 rw [BitVec.toNat_shiftLeft, Nat.shiftLeft_eq]
 simp
theorem q_shr (x : BitVec 64) (n : Nat) : q x / 2 ^ n = q (x >>> n) := by
 unfold q
 rw [BitVec.toNat_ushiftRight, Nat.shiftRight_eq_div_pow]
 simp
attribute [go_sem ↓] q_xor q_or q_and q_add q_shl q_shr
theorem q_lit (n : Int) : IntKind.u64.wrap n = q (BitVec.ofInt 64 n) := by
 rw [IntKind.wrap_u64]; unfold q; rw [BitVec.toNat_ofInt]; omega
end Go.Proofs.YtgpdcapnnejdeaaGreat
end
