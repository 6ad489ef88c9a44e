/-
  Small lemmas on the library's relation 'grownBy' (a world that has new blocks, and writes to one old block at the most): new blocks, draws and stores keep it; what a block holds behind such steps. No condition. Nothing of the program is named here.
  Plain arithmetic for the walks: 64-bit words stand in the model as integers: 'q x' is the word x as that integer. Each operation of the model on such integers (sum, xor, or, shifts) is the operation of 64-bit words. No condition. Nothing of the program is named here.
  A relation on worlds: all is as it was but for some blocks that are named, and for new ones. No condition. Nothing of the program is named here.
  Slices of bytes: what a slice reads as; slices that the call itself makes and appends to; bytes as a string. No condition. Nothing of the program's functions is named here.
  Slices of numbers (int64) that the call itself makes and appends to: what they hold. No condition. Nothing of the program's functions is named here.
-/
import Derived.WalkKit
import Derived.Test.YtecggbndlbkhdaaGreatRows
import Derived.Laws.AppendOwnNone
import Derived.Maps.AppendAt
section
namespace Go.Proofs.YtecggbndlbkhdaaGreat
set_option maxRecDepth 100000
open Go.RowKit

theorem hid {p : Prop} (h : p) : Hid p := h
theorem gb_trans {a b c : World} {r r' : Option Nat} (h : a.grownBy b r) (k : b.grownBy c r') (hr : r' = none ∨ r' = r ∨ ∃ j, r' = some j ∧ a.heap.size ≤ j) : a.grownBy c r :=
  ⟨k.os.trans h.os, k.tape.trans h.tape, k.output.trans h.output, Nat.le_trans h.size k.size, fun i hi hn => by
    have h1 := h.size
    rw [k.block i (by omega) (by
      rcases hr with e | e | ⟨j, e, hj⟩
      · rw [e]; simp
      · rw [e]; exact hn
      · rw [e]; intro h2; cases h2; omega)]
    exact h.block i hi hn⟩
theorem gb_alloc {w w1 : World} {r : Option Nat} (h : w.grownBy w1 r) (o : Obj) : w.grownBy (w1.alloc o) r := gb_trans h (World.grownBy_alloc w1 o none) (.inl rfl)
theorem gb_drew {w w1 : World} {r : Option Nat} (h : w.grownBy w1 r) : w.grownBy w1.drew r :=
  ⟨h.os, h.tape, h.output, h.size, h.block⟩
theorem gb_new {w w1 : World} {r : Option Nat} (h : w.grownBy w1 r) {p : Addr} (hp : w.heap.size ≤ p.block) (v : Value) : w.grownBy (w1.setCell p v) r :=
  ⟨h.os, h.tape, h.output, by simpa [World.setCell] using h.size, fun k hk hr => by
    rw [Below.heap_setCell _ _ _ _ (by omega)]; exact h.block k hk hr⟩
theorem gb_row {w w1 : World} {b : Nat} (h : w.grownBy w1 (some b)) {p : Addr} (hp : p.block = b) (v : Value) : w.grownBy (w1.setCell p v) (some b) :=
  ⟨h.os, h.tape, h.output, by simpa [World.setCell] using h.size, fun k hk hr => by
    rw [Below.heap_setCell _ _ _ _ (by intro e; apply hr; rw [e, hp])]; exact h.block k hk hr⟩
theorem gb_below {w w1 : World} (h : w.grownBy w1 none) : Below w.heap.size w w1 :=
  ⟨h.os, h.tape, h.output, h.size, fun k hk => h.block k hk (by simp)⟩
theorem gb_size {w w1 : World} {r : Option Nat} (h : w.grownBy w1 r) : w.heap.size ≤ w1.heap.size := h.size
/-- a block behind a store into it -/
theorem at_set {w : World} {b : Nat} {c : Array Value} {t : TypeId} {f : Nat × Nat} (h : w.heap[b]? = some (.cells c t f)) (i : Nat) (v : Value) :
    (w.setCell ⟨b, i, none⟩ v).heap[b]? = some (.cells (c.setIfInBounds i v) t f) := by
  simp [World.setCell, Array.getElem?_modify, h]
theorem at_set_other {w : World} {b : Nat} {o : Option Obj} (h : w.heap[b]? = o) {p : Addr} (hp : b ≠ p.block) (v : Value) : (w.setCell p v).heap[b]? = o := by
  rw [Below.heap_setCell _ _ _ _ hp]; exact h
theorem at_alloc {w : World} {b : Nat} {o : Obj} (h : w.heap[b]? = some o) (o' : Obj) : (w.alloc o').heap[b]? = some o := by
  have hb : b < w.heap.size := by
    rcases Nat.lt_or_ge b w.heap.size with hb | hb
    · exact hb
    · rw [Array.getElem?_eq_none hb] at h; cases h
  rw [Below.heap_alloc _ _ _ hb]; exact h
theorem at_drew {w : World} {b : Nat} {o : Obj} (h : w.heap[b]? = some o) : w.drew.heap[b]? = some o := h
theorem at_lt {w : World} {b : Nat} {o : Obj} (h : w.heap[b]? = some o) : b < w.heap.size := by
  rcases Nat.lt_or_ge b w.heap.size with hb | hb
  · exact hb
  · rw [Array.getElem?_eq_none hb] at h; cases h
theorem at_new (w : World) (o : Obj) : (w.alloc o).heap[w.heap.size]? = some o := by
  show (w.heap.push o)[w.heap.size]? = some o
  simp
theorem at_grown {w w1 : World} {r : Option Nat} {b : Nat} {o : Obj} (h : w.heap[b]? = some o) (hg : w.grownBy w1 r) (hr : some b ≠ r) : w1.heap[b]? = some o := by
  rw [hg.block b (at_lt h) hr]; exact h
theorem at_cell {w : World} {b : Nat} {c : Array Value} {t : TypeId} {f : Nat × Nat} (h : w.heap[b]? = some (.cells c t f)) (i : Nat) : w.cell? ⟨b, i, none⟩ = c[i]? := by
  simp [World.cell?, h]
theorem at_free {w : World} {b : Nat} {c : Array Value} {t : TypeId} (h : w.heap[b]? = some (.cells c t (0, 0))) (i : Nat) : w.frozen? ⟨b, i, none⟩ = false := by
  simp [World.frozen?, h]
/-- behind a region: of the world keep just what is said -/
theorem exit_gen {K : Act → World → Prop} {Q : Exit → Act → World → Prop} {x : Exit} {a : Act} {w : World} (P : World → Prop) (h : P w) (k : ∀ wx, P wx → Exit.then K Q x a wx) : Exit.then K Q x a w := k w h
end Go.Proofs.YtecggbndlbkhdaaGreat
end
section
namespace Go.Proofs.YtecggbndlbkhdaaGreat
set_option maxRecDepth 100000
open Go.RowKit

/-- a 64-bit word as the model's integer -/
def q (x : BitVec 64) : Int := (x.toNat : Int)
/-- a byte as the model's integer -/
def qb (c : BitVec 8) : Int := (c.toNat : Int)

theorem q_inj {x y : BitVec 64} (h : q x = q y) : x = y := by
  unfold q at h; exact BitVec.eq_of_toNat_eq (by omega)
theorem q_inj_iff (x y : BitVec 64) : q x = q y ↔ x = y := ⟨q_inj, fun h => by rw [h]⟩
theorem q_beq (x y : BitVec 64) : (q x == q y) = (x == y) := by
  rw [Bool.eq_iff_iff]; simp [q_inj_iff]
theorem q_ofInt (x : BitVec 64) : BitVec.ofInt 64 (q x) = x := by
  unfold q; rw [BitVec.ofInt_natCast, BitVec.ofNat_toNat]; simp
theorem wrap_toNat (x : BitVec 64) : IntKind.u64.wrap (x.toNat : Int) = q x := by
  rw [IntKind.wrap_u64]; unfold q; have := x.isLt; omega
theorem q_xor (x y : BitVec 64) : bits .xor .u64 (q x) (q y) = q (x ^^^ y) := by
  show IntKind.u64.wrap ((BitVec.ofInt 64 (q x) ^^^ BitVec.ofInt 64 (q y)).toNat : Int) = _
  rw [q_ofInt, q_ofInt]; exact wrap_toNat _
theorem q_or (x y : BitVec 64) : bits .or .u64 (q x) (q y) = q (x ||| y) := by
  show IntKind.u64.wrap ((BitVec.ofInt 64 (q x) ||| BitVec.ofInt 64 (q y)).toNat : Int) = _
  rw [q_ofInt, q_ofInt]; exact wrap_toNat _
theorem q_and (x y : BitVec 64) : bits .and .u64 (q x) (q y) = q (x &&& y) := by
  show IntKind.u64.wrap ((BitVec.ofInt 64 (q x) &&& BitVec.ofInt 64 (q y)).toNat : Int) = _
  rw [q_ofInt, q_ofInt]; exact wrap_toNat _
theorem q_xor_num (x : BitVec 64) (n : Int) : bits .xor .u64 (q x) n = q (x ^^^ BitVec.ofInt 64 n) := by
  show IntKind.u64.wrap ((BitVec.ofInt 64 (q x) ^^^ BitVec.ofInt 64 n).toNat : Int) = _
  rw [q_ofInt]; exact wrap_toNat _
theorem q_add (x y : BitVec 64) : IntKind.u64.wrap (q x + q y) = q (x + y) := by
  rw [IntKind.wrap_u64]; unfold q; rw [BitVec.toNat_add]; omega
theorem q_shl (x : BitVec 64) (n : Nat) : IntKind.u64.wrap (q x * 2 ^ n) = q (x <<< n) := by
  rw [IntKind.wrap_u64]
  unfold q
  rw [BitVec.toNat_shiftLeft, Nat.shiftLeft_eq]
  simp
theorem q_shr (x : BitVec 64) (n : Nat) : q x / 2 ^ n = q (x >>> n) := by
  unfold q
  rw [BitVec.toNat_ushiftRight, Nat.shiftRight_eq_div_pow]
  simp
attribute [go_sem ↓] q_xor q_or q_and q_add q_shl q_shr
theorem byte_q (x : UInt8) : IntKind.u64.wrap (x.toNat : Int) = q (BitVec.ofNat 64 x.toNat) := by
  rw [IntKind.wrap_u64]; unfold q; rw [BitVec.toNat_ofNat]; omega
end Go.Proofs.YtecggbndlbkhdaaGreat
end
section
namespace Go.Proofs.YtecggbndlbkhdaaGreat
set_option maxRecDepth 100000
open Go.RowKit

structure Chg (F : List Nat) (w w' : World) : Prop where
  os : w'.os = w.os
  tape : w'.tape = w.tape
  output : w'.output = w.output
  size : w.heap.size ≤ w'.heap.size
  block : ∀ k, k < w.heap.size → k ∉ F → w'.heap[k]? = w.heap[k]?
section
variable {F G : List Nat} {a b c w w1 w2 : World} {x : Nat} {o : Obj}
theorem chg_refl (w : World) (F : List Nat) : Chg F w w := ⟨rfl, rfl, rfl, Nat.le_refl _, fun _ _ _ => rfl⟩
theorem Chg.trans (h : Chg F a b) (k : Chg G b c) (hg : ∀ x ∈ G, x ∈ F ∨ a.heap.size ≤ x) : Chg F a c :=
  ⟨k.os.trans h.os, k.tape.trans h.tape, k.output.trans h.output, Nat.le_trans h.size k.size, fun i hi hn => by
    have h1 := h.size
    rw [k.block i (by omega) (fun hm => by
      rcases hg i hm with e | e
      · exact hn e
      · omega)]
    exact h.block i hi hn⟩
theorem chg_grown (h : a.grownBy b none) (F : List Nat) : Chg F a b := ⟨h.os, h.tape, h.output, h.size, fun i hi _ => h.block i hi (by simp)⟩
theorem chg_row (h : a.grownBy b (some x)) : Chg [x] a b := ⟨h.os, h.tape, h.output, h.size, fun i hi hn => h.block i hi (by intro e; cases e; exact hn (by simp))⟩
theorem Chg.then (h : Chg F a b) (k : Chg F b c) : Chg F a c := h.trans k fun _ hx => .inl hx
theorem Chg.more (h : Chg F a b) (hs : ∀ x ∈ F, x ∈ G) : Chg G a b := ⟨h.os, h.tape, h.output, h.size, fun i hi hn => h.block i hi fun hm => hn (hs _ hm)⟩
theorem Chg.grown (h : Chg F a b) (k : b.grownBy c none) : Chg F a c := h.then (chg_grown k F)
theorem Chg.alloc (h : Chg F a b) (o : Obj) : Chg F a (b.alloc o) := h.grown (World.grownBy_alloc b o none)
theorem Chg.drew (h : Chg F a b) : Chg F a b.drew := ⟨h.os, h.tape, h.output, h.size, h.block⟩
theorem Chg.set (h : Chg F a b) {p : Addr} (hp : p.block ∈ F ∨ a.heap.size ≤ p.block) (v : Value) : Chg F a (b.setCell p v) :=
  ⟨h.os, h.tape, h.output, by simpa [World.setCell] using h.size, fun k hk hn => by
    rw [Below.heap_setCell _ _ _ _ (by intro e; rcases hp with hp | hp; exact hn (by rw [e]; exact hp); omega)]; exact h.block k hk hn⟩
theorem Chg.at (h : Chg F a b) (hx : a.heap[x]? = some o) (hn : x ∉ F) : b.heap[x]? = some o := by
  rw [h.block x (at_lt hx) hn]; exact hx
theorem Chg.free (h : Chg F a b) (hF : ∀ x ∈ F, a.heap.size ≤ x) : a.grownBy b none :=
  ⟨h.os, h.tape, h.output, h.size, fun i hi _ => h.block i hi fun hm => by have := hF i hm; omega⟩
theorem Chg.cell (h : Chg F a b) {p : Addr} {v : Value} (hx : a.cell? p = some v) (hn : p.block ∉ F) : b.cell? p = some v := by
  have hlt : p.block < a.heap.size := by
    rcases Nat.lt_or_ge p.block a.heap.size with hb | hb
    · exact hb
    · simp [World.cell?, Array.getElem?_eq_none hb] at hx
  rw [World.cell?_of_block (h.block _ hlt hn)]; exact hx
end
end Go.Proofs.YtecggbndlbkhdaaGreat
end
section
namespace Go.Proofs.YtecggbndlbkhdaaGreat
set_option maxRecDepth 100000
open Go.RowKit

/-- byte i of a list -/
def byteAt (l : List UInt8) (i : Nat) : UInt8 := l.getD i 0
theorem byteAt_eq {l : List UInt8} {i : Nat} (h : i < l.length) : byteAt l i = l[i] := by simp [byteAt, h]
/-- a slice that reads as these bytes -/
def BytesAt (w : World) (v : Value) (l : List UInt8) : Prop :=
  (v = .slice none 0 0 ∧ l = []) ∨
  ∃ a cap, v = .slice (some a) l.length cap ∧ l.length ≤ cap ∧ cap ≤ maxLen ∧ ∀ i, (h : i < l.length) → w.cell? (a.add i) = some (.int .u8 ((l[i]).toNat : Int))

theorem BytesAt.le {w : World} {v : Value} {l : List UInt8} (h : BytesAt w v l) : l.length ≤ maxLen := by
  rcases h with ⟨_, rfl⟩ | ⟨a, cap, _, h1, h2, _⟩
  · simp
  · omega
theorem cell_lt {w : World} {p : Addr} {x : Value} (h : w.cell? p = some x) : p.block < w.heap.size := by
  unfold World.cell? at h
  rcases Nat.lt_or_ge p.block w.heap.size with hb | hb
  · exact hb
  · rw [Array.getElem?_eq_none hb] at h; cases h
theorem add_block (a : Addr) (i : Nat) : (a.add i).block = a.block := by unfold Addr.add; split <;> rfl
/-- where there is a byte, the slice's block is there -/
theorem BytesAt.lt {w : World} {v : Value} {l : List UInt8} (h : BytesAt w v l) : l = [] ∨ ∀ a n c, v = .slice (some a) n c → a.block < w.heap.size := by
  rcases h with ⟨_, rfl⟩ | ⟨a, cap, rfl, _, _, h3⟩
  · exact .inl rfl
  · cases l with
    | nil => exact .inl rfl
    | cons x l =>
      refine .inr fun a' n c e => ?_
      cases e
      have := cell_lt (h3 0 (by simp))
      rwa [add_block] at this
theorem BytesAt.grown {w w1 : World} {v : Value} {l : List UInt8} {r : Option Nat} (h : BytesAt w v l) (hg : w.grownBy w1 r) (hr : ∀ k, r = some k → w.heap.size ≤ k ∨ l = [] ∨ ∀ a n c, v = .slice (some a) n c → a.block ≠ k) : BytesAt w1 v l := by
  rcases h with h | ⟨a, cap, rfl, h1, h2, h3⟩
  · exact .inl h
  · refine .inr ⟨a, cap, rfl, h1, h2, fun i hi => hg.cell (h3 i hi) ?_⟩
    have hlt := cell_lt (h3 i hi)
    rw [add_block] at hlt ⊢
    intro e
    rcases hr _ e.symm with h4 | h4 | h4
    · omega
    · rw [h4] at hi; cases hi
    · exact h4 a _ _ rfl rfl
theorem BytesAt.cells {w : World} {v : Value} {l : List UInt8} (h : BytesAt w v l) (hp : 0 < l.length) :
    ∃ ab ao cap, v = .slice (some ⟨ab, ao, none⟩) l.length cap ∧ ∀ i, (h : i < l.length) → w.cell? ⟨ab, ao + i, none⟩ = some (.int .u8 ((l[i]).toNat : Int)) := by
  rcases h with ⟨_, rfl⟩ | ⟨⟨ab, ao, asp⟩, cap, rfl, _, _, h3⟩
  · cases hp
  · have h0 := h3 0 hp
    have hsp : asp = none := by simpa [Addr.add] using World.cell?_spot h0
    subst hsp
    refine ⟨ab, ao, cap, rfl, fun i hi => ?_⟩
    have := h3 i hi
    unfold Addr.add at this
    split at this
    · next h => subst h; simpa using this
    · simpa using this
/-- a byte as a value -/
def bv (c : UInt8) : Value := .int .u8 (c.toNat : Int)
/-- a slice of the call's own, in a block from 'base' on, that holds these bytes -/
def OwnB (base : Nat) (w : World) (v : Value) (l : List UInt8) : Prop := w.ownsRow base 5 1 v l.length (l.map bv)

theorem OwnB.bytes {base : Nat} {w : World} {v : Value} {l : List UInt8} (h : OwnB base w v l) : BytesAt w v l := by
  obtain ⟨_, h | ⟨g, cap, cur, rfl, _, hh, h1, h2, h3, h4⟩⟩ := h
  · exact .inl ⟨h.1, by simpa using h.2⟩
  · refine .inr ⟨_, cap, rfl, h1, h2, fun i hi => ?_⟩
    have e : (⟨g, 0, none⟩ : Addr).add i = ⟨g, i, none⟩ := by unfold Addr.add; split <;> simp_all
    rw [e, at_cell hh i]
    have hc : cur.toList[i]? = (l.map bv)[i]? := by
      rw [← h4, Nat.mul_one, List.getElem?_take]; simp [hi]
    rw [← Array.getElem?_toList, hc]
    simp [List.getElem?_map, List.getElem?_eq_getElem hi, bv]
theorem OwnB.form {base : Nat} {w : World} {v : Value} {l : List UInt8} (h : OwnB base w v l) : ∃ p c, v = .slice p l.length c := by
  obtain ⟨_, h | ⟨g, cap, cur, rfl, _⟩⟩ := h
  · exact ⟨none, 0, by rw [h.1, h.2]⟩
  · exact ⟨_, _, rfl⟩
theorem OwnB.at {base : Nat} {w : World} {v : Value} {l : List UInt8} (h : OwnB base w v l) : ∀ a n c, v = .slice (some a) n c → base ≤ a.block ∧ a.block < w.heap.size := by
  intro a n c e
  obtain ⟨_, h | ⟨g, cap, cur, rfl, hb, hh, _⟩⟩ := h
  · rw [h.1] at e; cases e
  · cases e; exact ⟨hb, at_lt hh⟩
theorem OwnB.grown {base : Nat} {w w1 : World} {v : Value} {l : List UInt8} {r : Option Nat} (h : OwnB base w v l) (hg : w.grownBy w1 r) (hr : ∀ g, v.ownBlock = some g → some g ≠ r) : OwnB base w1 v l := by
  obtain ⟨h0, h | ⟨g, cap, cur, rfl, hb, hh, h1⟩⟩ := h
  · exact ⟨h0, .inl h⟩
  · exact ⟨h0, .inr ⟨g, cap, cur, rfl, hb, at_grown hh hg (hr g rfl), h1⟩⟩
theorem OwnB.empty (w : World) : OwnB w.heap.size (w.alloc (.cells #[] 5)) (.slice (some ⟨w.heap.size, 0, none⟩) 0 0) [] :=
  ⟨rfl, .inr ⟨w.heap.size, 0, #[], rfl, Nat.le_refl _, at_new w _, Nat.le_refl _, Nat.zero_le _, rfl, rfl⟩⟩
theorem OwnB.nil (base : Nat) (w : World) : OwnB base w (.slice none 0 0) [] := ⟨rfl, .inl ⟨rfl, rfl⟩⟩
theorem OwnB.le {base base' : Nat} {w : World} {v : Value} {l : List UInt8} (h : OwnB base w v l) (hb : base' ≤ base) : OwnB base' w v l := by
  obtain ⟨h0, h | ⟨g, cap, cur, rfl, hb', h1⟩⟩ := h
  · exact ⟨h0, .inl h⟩
  · exact ⟨h0, .inr ⟨g, cap, cur, rfl, Nat.le_trans hb hb', h1⟩⟩

theorem info_u8 : (Tryz.prog.info? 5).map (fun i => (i.zero, i.size, i.bytes)) = some (some (.int .u8 0), 1, 1) := by kernel_rfl
/-- bytes as a string -/
theorem conv_bytes {u : World} {v : Value} {l : List UInt8} (h : BytesAt u v l) : (convert 53 9 v).run Tryz.prog u = .ok (.string ⟨l.toArray⟩) u := by
  rcases h with ⟨rfl, rfl⟩ | ⟨a, cap, rfl, _, _, hc⟩
  · exact run_convert_bytes_nil u 53 5 Tryz.underlying53 Tryz.underlying5 0 0 9 Tryz.underlying9
  · exact run_convert_bytes_back u 53 9 5 a cap l Tryz.underlying53 Tryz.underlying5 Tryz.underlying9 hc
theorem BytesAt.drew {w : World} {v : Value} {l : List UInt8} (h : BytesAt w v l) : BytesAt w.drew v l := h
theorem BytesAt.alloc {w : World} {v : Value} {l : List UInt8} (h : BytesAt w v l) (o : Obj) : BytesAt (w.alloc o) v l := h.grown (World.grownBy_alloc w o none) (by simp)
theorem OwnB.alloc {base : Nat} {w : World} {v : Value} {l : List UInt8} (h : OwnB base w v l) (o : Obj) : OwnB base (w.alloc o) v l := h.grown (World.grownBy_alloc w o none) (by simp)
theorem gb_own {w w5 wc : World} {base : Nat} {v : Value} {l : List UInt8} (h : w.grownBy w5 none) (ho : OwnB base w5 v l) (hb : w.heap.size ≤ base) (hg : w5.grownBy wc v.ownBlock) : w.grownBy wc none :=
  gb_trans h hg (by
    cases hv : v.ownBlock with
    | none => exact .inl rfl
    | some g =>
      obtain ⟨p, c, rfl⟩ := ho.form
      cases p with
      | none => cases hv
      | some a => exact .inr (.inr ⟨g, rfl, by have := (ho.at a _ _ rfl).1; cases hv; exact Nat.le_trans hb this⟩))
theorem at_own {w5 wc : World} {base b : Nat} {v : Value} {l : List UInt8} {o : Obj} (h : w5.heap[b]? = some o) (ho : OwnB base w5 v l) (hb : b < base) (hg : w5.grownBy wc v.ownBlock) : wc.heap[b]? = some o :=
  at_grown h hg (by
    intro e
    obtain ⟨p, c, rfl⟩ := ho.form
    cases p with
    | none => cases e
    | some a => have h1 := (ho.at a _ _ rfl).1; cases e; exact absurd h1 (Nat.not_le.2 hb))
theorem BytesAt.form {w : World} {v : Value} {l : List UInt8} (h : BytesAt w v l) : ∃ p c, v = .slice p l.length c := by
  rcases h with ⟨rfl, rfl⟩ | ⟨a, cap, rfl, _, _, _⟩
  · exact ⟨none, 0, rfl⟩
  · exact ⟨some a, cap, rfl⟩
theorem BytesAt.chg {w w1 : World} {F : List Nat} {v : Value} {l : List UInt8} (h : BytesAt w v l) (hc : Chg F w w1) (hF : ∀ a n c, v = .slice (some a) n c → a.block ∉ F) : BytesAt w1 v l := by
  rcases h with h | ⟨a, cap, rfl, h1, h2, h3⟩
  · exact .inl h
  · exact .inr ⟨a, cap, rfl, h1, h2, fun i hi => hc.cell (h3 i hi) (by rw [add_block]; exact hF a _ _ rfl)⟩
end Go.Proofs.YtecggbndlbkhdaaGreat
end
section
set_option linter.unusedSimpArgs false
namespace Go.Proofs.YtecggbndlbkhdaaGreat
set_option maxRecDepth 100000
open Go.RowKit

def iv (n : Int) : Value := .int .i64 n
def OwnI (base : Nat) (w : World) (v : Value) (l : List Int) : Prop := w.ownsRow base 2 1 v l.length (l.map iv)
/-- the block of a slice of the call's own -/
def ownL (v : Value) : List Nat := v.ownBlock.toList
theorem OwnI.form {base : Nat} {w : World} {v : Value} {l : List Int} (h : OwnI base w v l) : ∃ p c, v = .slice p l.length c := by
  obtain ⟨_, h | ⟨g, cap, cur, rfl, _⟩⟩ := h
  · exact ⟨none, 0, by rw [h.1, h.2]⟩
  · exact ⟨_, _, rfl⟩
theorem OwnI.at {base : Nat} {w : World} {v : Value} {l : List Int} (h : OwnI base w v l) : ∀ g, g ∈ ownL v → base ≤ g ∧ g < w.heap.size := by
  intro g hg
  obtain ⟨_, h | ⟨g', cap, cur, rfl, hb, hh, _⟩⟩ := h
  · rw [h.1] at hg; simp [ownL, Value.ownBlock] at hg
  · simp [ownL, Value.ownBlock] at hg
    subst hg
    exact ⟨hb, at_lt hh⟩
theorem OwnI.cells {base : Nat} {w : World} {v : Value} {l : List Int} (h : OwnI base w v l) {i : Nat} (hi : i < l.length) :
    ∃ g c, v = .slice (some ⟨g, 0, none⟩) l.length c ∧ l.length ≤ c ∧ ∀ j, (h : j < l.length) → w.cell? ⟨g, j, none⟩ = some (.int .i64 l[j]) := by
  obtain ⟨_, h | ⟨g, cap, cur, rfl, _, hh, h1, h2, h3, h4⟩⟩ := h
  · exact absurd hi (by rw [h.2]; simp)
  · refine ⟨g, cap, rfl, h1, fun j hj => ?_⟩
    rw [at_cell hh j]
    have hc : cur.toList[j]? = (l.map iv)[j]? := by
      rw [← h4, Nat.mul_one, List.getElem?_take]; simp [hj]
    rw [← Array.getElem?_toList, hc]
    simp [List.getElem?_map, List.getElem?_eq_getElem hj, iv]
theorem OwnI.chg {base : Nat} {w w1 : World} {F : List Nat} {v : Value} {l : List Int} (h : OwnI base w v l) (hg : Chg F w w1) (hr : ∀ g, g ∈ ownL v → g ∉ F) : OwnI base w1 v l := by
  obtain ⟨h0, h | ⟨g, cap, cur, rfl, hb, hh, h1⟩⟩ := h
  · exact ⟨h0, .inl h⟩
  · exact ⟨h0, .inr ⟨g, cap, cur, rfl, hb, hg.at hh (hr g (by simp [ownL, Value.ownBlock])), h1⟩⟩
theorem OwnI.nil (base : Nat) (w : World) : OwnI base w (.slice none 0 0) [] := ⟨rfl, .inl ⟨rfl, rfl⟩⟩
theorem OwnI.le {base base' : Nat} {w : World} {v : Value} {l : List Int} (h : OwnI base w v l) (hb : base' ≤ base) : OwnI base' w v l := by
  obtain ⟨h0, h | ⟨g, cap, cur, rfl, hb', h1⟩⟩ := h
  · exact ⟨h0, .inl h⟩
  · exact ⟨h0, .inr ⟨g, cap, cur, rfl, Nat.le_trans hb hb', h1⟩⟩
theorem info_i64 : (Tryz.prog.info? 2).map (fun i => (i.zero, i.size, i.bytes)) = some (some (.int .i64 0), 1, 8) := by kernel_rfl
/-- append of one number to a slice of the call's own -/
theorem append_int {w : World} {ops : Array Oper} {rest : List Oper} {o : Oper} {a : Act} {Q : Exit → Act → World → Prop} (hgd : o.guard = none) (s x : Operand)
    (ho : o.op = .call { callee := .builtin .append, args := #[s, x], argTypes := #[73, 73] })
    (base : Nat) (v : Value) (l : List Int) (hs : a.eval s = v) (hown : OwnI base w v l) (g : Nat) (n : Int) (hx : a.eval x = .slice (some ⟨g, 0, none⟩) 1 1) (hr : w.cell? ⟨g, 0, none⟩ = some (.int .i64 n))
    (hlen : l.length + 1 ≤ 1000000) (hbase : base ≤ w.heap.size)
    (h : ∀ v' w', OwnI base w' v' (l ++ [n]) → w.grownBy w' v.ownBlock → (v'.ownBlock = v.ownBlock ∨ v'.ownBlock = some w.heap.size) → wpList Tryz.prog ops Q rest (a.put o.dst v') w') : wpList Tryz.prog ops Q (o :: rest) a w := by
  obtain ⟨i, hi, hz0, hz1, hz2⟩ := info_parts info_i64
  refine wpList_append_own_at w hgd s x 73 ho base 2 i (.int .i64 0) 1 8 Tryz.underlying73 hi hz0 hz1 hz2 rfl (by omega) v l.length (l.map iv) hs hown ⟨g, 0, none⟩ 1 1 [iv n] hx (by simp)
    (fun j y hj => by
      cases j with
      | zero => cases hj; exact hr
      | succ j => cases hj)
    (fun y hy => by simp at hy; subst hy; rfl)
    (by unfold maxLen; omega) (by omega) hbase ?_
  intro v' w' h1 h2 _ h3
  refine h v' w' ?_ h2 h3
  unfold OwnI
  rw [List.length_append, List.map_append]
  exact h1
end Go.Proofs.YtecggbndlbkhdaaGreat
end
