/-
  Small lemmas on the library's relation 'grownBy' (a world that has new blocks, and writes to one old block at the most): new blocks, draws and stores keep it; what a block holds behind such steps. No condition. Nothing of the program is named here.
  A relation on worlds: all is as it was but for some blocks that are named, and for new ones. No condition. Nothing of the program is named here.
  Contracts for sync/atomic's Int64: Load, Add, Store of a number that lies in a cell that may be stored to.
  Plain arithmetic for the walks: 64-bit words stand in the model as integers: 'q x' is the word x as that integer. Each operation of the model on such integers (sum, xor, or, shifts) is the operation of 64-bit words. No condition. Nothing of the program is named here.
  Contracts for sync.Once as the program uses it, in one goroutine: the lock that is free is taken and given back; what was not yet done is done once. The conditions are told of the cells: the lock's word is 0.
  Contracts for package ring: what a ring is, and its calls but Key. The condition of a call: the ring lies there; or it is nil.
  Contracts of the functions that only compute with words: a turn to the left by the counts that the program uses, and a round, of the program and of the document's own answer: each is the same function of words. No condition.
  Contracts of the two methods of the program's four words: so many rounds; a number stirred in. Each gives back the words that the plain functions here say; it makes memory of its own and changes nothing that was there. No condition but that the count of rounds is at most a thousand.
  Contracts for the program's 'begin': the words of a hash are made from the key at the first call, and are left as they are at each later one. The condition: the hash's block is as the program makes it, its lock free.
  Contracts for the program's hash with a key: a byte is added; bytes are written; the sum is told; a hash is made. Each does to the hash's block what the plain functions here say, and changes nothing else that was there. The condition: the block is a hash under way, as 'New' makes it.
  Contracts for the program's hash with a key: bytes are written, the sum is told, a hash is made, the sum of bytes at once. Each does to the hash's block what the plain functions say, and changes nothing else that was there. The conditions: the block is a hash under way, as 'New' makes it; the bytes lie elsewhere.
  Contracts for the program's hash with a key: the sum of all that was written is told, and the hash goes on as it was; a hash is made; the sum of bytes at once. The conditions: the block is a hash under way, as 'New' makes it; the bytes lie elsewhere.
  Contracts for the program's hash with a key: a hash is made under a key; the sum of bytes under a key at once: it is the sum that the plain functions say. No condition but that the bytes read as bytes.
  Contracts for numbers as bytes: a number is put into eight bytes, the lowest first, by the program and by the document's own answer. No condition.
  Contracts for numbers out of bytes: the number whose eight bytes stand at a place, or the code for bytes that are wrong, by the program and by the document's own answer. No condition but that the bytes read as bytes.
  Slices of bytes that the call itself makes and appends to: what they hold, and that they read as bytes; bytes as a string. No condition. Nothing of the program's functions is named here.
  Of a world keep just what is said: small lemmas for the walks. No condition. Nothing of the program is named here.
  Contracts for package mac: the second key, tags. The condition of a tag: the bytes read as bytes.
  Append of bytes to a slice of the call's own, at a step of a region that leaves its order open. No condition. Nothing of the program's functions is named here.
  Contracts for package mac: a tag's bytes, whether two tags are the same. No condition.
  Contracts for package mac: a tag out of bytes. The condition: the bytes read as bytes.
  Contracts for package mac: a derived key's next word. No condition but on the block of the derivation under way.
  Contracts for package mac: the root's key, a collector's key of a generation. No condition.
  Contracts for package ring's calls. The condition of a call: the ring lies there; or it is nil.
-/
import Derived.WalkKit
import Derived.Test.YtfhifnhnkgdnlaaGreatRows
import Derived.WalkSpells
import Derived.WalkLawsBesides
import Derived.Defers
import Derived.Laws.Pointers
import Derived.Laws.LoneSync
import Derived.RegionTactic
import Derived.RegionCalls
import Derived.ChangeAlike
import Derived.Deep.RegionHeld3
import Derived.Laws.AppendOwnNone
import Derived.Maps.AppendAt
section
namespace Go.Proofs.YtfhifnhnkgdnlaaGreat
set_option maxRecDepth 100000
open Go.RowKit

theorem hid {p : Prop} (h : p) : Hid p := h
theorem gb_trans {a b c : World} {r r' : Option Nat} (h : a.grownBy b r) (k : b.grownBy c r') (hr : r' = none ∨ r' = r ∨ ∃ j, r' = some j ∧ a.heap.size ≤ j) : a.grownBy c r :=
  ⟨k.os.trans h.os, k.tape.trans h.tape, k.output.trans h.output, Nat.le_trans h.size k.size, fun i hi hn => by
    have h1 := h.size
    rw [k.block i (by omega) (by
      rcases hr with e | e | ⟨j, e, hj⟩
      · rw [e]; simp
      · rw [e]; exact hn
      · rw [e]; intro h2; cases h2; omega)]
    exact h.block i hi hn⟩
theorem gb_alloc {w w1 : World} {r : Option Nat} (h : w.grownBy w1 r) (o : Obj) : w.grownBy (w1.alloc o) r := gb_trans h (World.grownBy_alloc w1 o none) (.inl rfl)
theorem gb_drew {w w1 : World} {r : Option Nat} (h : w.grownBy w1 r) : w.grownBy w1.drew r :=
  ⟨h.os, h.tape, h.output, h.size, h.block⟩
theorem gb_new {w w1 : World} {r : Option Nat} (h : w.grownBy w1 r) {p : Addr} (hp : w.heap.size ≤ p.block) (v : Value) : w.grownBy (w1.setCell p v) r :=
  ⟨h.os, h.tape, h.output, by simpa [World.setCell] using h.size, fun k hk hr => by
    rw [Below.heap_setCell _ _ _ _ (by omega)]; exact h.block k hk hr⟩
theorem gb_row {w w1 : World} {b : Nat} (h : w.grownBy w1 (some b)) {p : Addr} (hp : p.block = b) (v : Value) : w.grownBy (w1.setCell p v) (some b) :=
  ⟨h.os, h.tape, h.output, by simpa [World.setCell] using h.size, fun k hk hr => by
    rw [Below.heap_setCell _ _ _ _ (by intro e; apply hr; rw [e, hp])]; exact h.block k hk hr⟩
theorem gb_below {w w1 : World} (h : w.grownBy w1 none) : Below w.heap.size w w1 :=
  ⟨h.os, h.tape, h.output, h.size, fun k hk => h.block k hk (by simp)⟩
theorem gb_size {w w1 : World} {r : Option Nat} (h : w.grownBy w1 r) : w.heap.size ≤ w1.heap.size := h.size
/-- a block behind a store into it -/
theorem at_set {w : World} {b : Nat} {c : Array Value} {t : TypeId} {f : Nat × Nat} (h : w.heap[b]? = some (.cells c t f)) (i : Nat) (v : Value) :
    (w.setCell ⟨b, i, none⟩ v).heap[b]? = some (.cells (c.setIfInBounds i v) t f) := by
  simp [World.setCell, Array.getElem?_modify, h]
theorem at_set_other {w : World} {b : Nat} {o : Option Obj} (h : w.heap[b]? = o) {p : Addr} (hp : b ≠ p.block) (v : Value) : (w.setCell p v).heap[b]? = o := by
  rw [Below.heap_setCell _ _ _ _ hp]; exact h
theorem at_alloc {w : World} {b : Nat} {o : Obj} (h : w.heap[b]? = some o) (o' : Obj) : (w.alloc o').heap[b]? = some o := by
  have hb : b < w.heap.size := by
    rcases Nat.lt_or_ge b w.heap.size with hb | hb
    · exact hb
    · rw [Array.getElem?_eq_none hb] at h; cases h
  rw [Below.heap_alloc _ _ _ hb]; exact h
theorem at_drew {w : World} {b : Nat} {o : Obj} (h : w.heap[b]? = some o) : w.drew.heap[b]? = some o := h
theorem at_lt {w : World} {b : Nat} {o : Obj} (h : w.heap[b]? = some o) : b < w.heap.size := by
  rcases Nat.lt_or_ge b w.heap.size with hb | hb
  · exact hb
  · rw [Array.getElem?_eq_none hb] at h; cases h
theorem at_new (w : World) (o : Obj) : (w.alloc o).heap[w.heap.size]? = some o := by
  show (w.heap.push o)[w.heap.size]? = some o
  simp
theorem at_grown {w w1 : World} {r : Option Nat} {b : Nat} {o : Obj} (h : w.heap[b]? = some o) (hg : w.grownBy w1 r) (hr : some b ≠ r) : w1.heap[b]? = some o := by
  rw [hg.block b (at_lt h) hr]; exact h
theorem at_cell {w : World} {b : Nat} {c : Array Value} {t : TypeId} {f : Nat × Nat} (h : w.heap[b]? = some (.cells c t f)) (i : Nat) : w.cell? ⟨b, i, none⟩ = c[i]? := by
  simp [World.cell?, h]
theorem at_free {w : World} {b : Nat} {c : Array Value} {t : TypeId} (h : w.heap[b]? = some (.cells c t (0, 0))) (i : Nat) : w.frozen? ⟨b, i, none⟩ = false := by
  simp [World.frozen?, h]
/-- behind a region: of the world keep just what is said -/
theorem exit_gen {K : Act → World → Prop} {Q : Exit → Act → World → Prop} {x : Exit} {a : Act} {w : World} (P : World → Prop) (h : P w) (k : ∀ wx, P wx → Exit.then K Q x a wx) : Exit.then K Q x a w := k w h
end Go.Proofs.YtfhifnhnkgdnlaaGreat
end
section
namespace Go.Proofs.YtfhifnhnkgdnlaaGreat
set_option maxRecDepth 100000
open Go.RowKit

structure Chg (F : List Nat) (w w' : World) : Prop where
  os : w'.os = w.os
  tape : w'.tape = w.tape
  output : w'.output = w.output
  size : w.heap.size ≤ w'.heap.size
  block : ∀ k, k < w.heap.size → k ∉ F → w'.heap[k]? = w.heap[k]?
section
variable {F G : List Nat} {a b c w w1 w2 : World} {x : Nat} {o : Obj}
theorem chg_refl (w : World) (F : List Nat) : Chg F w w := ⟨rfl, rfl, rfl, Nat.le_refl _, fun _ _ _ => rfl⟩
theorem Chg.trans (h : Chg F a b) (k : Chg G b c) (hg : ∀ x ∈ G, x ∈ F ∨ a.heap.size ≤ x) : Chg F a c :=
  ⟨k.os.trans h.os, k.tape.trans h.tape, k.output.trans h.output, Nat.le_trans h.size k.size, fun i hi hn => by
    have h1 := h.size
    rw [k.block i (by omega) (fun hm => by
      rcases hg i hm with e | e
      · exact hn e
      · omega)]
    exact h.block i hi hn⟩
theorem chg_grown (h : a.grownBy b none) (F : List Nat) : Chg F a b := ⟨h.os, h.tape, h.output, h.size, fun i hi _ => h.block i hi (by simp)⟩
theorem chg_row (h : a.grownBy b (some x)) : Chg [x] a b := ⟨h.os, h.tape, h.output, h.size, fun i hi hn => h.block i hi (by intro e; cases e; exact hn (by simp))⟩
theorem Chg.then (h : Chg F a b) (k : Chg F b c) : Chg F a c := h.trans k fun _ hx => .inl hx
theorem Chg.more (h : Chg F a b) (hs : ∀ x ∈ F, x ∈ G) : Chg G a b := ⟨h.os, h.tape, h.output, h.size, fun i hi hn => h.block i hi fun hm => hn (hs _ hm)⟩
theorem Chg.grown (h : Chg F a b) (k : b.grownBy c none) : Chg F a c := h.then (chg_grown k F)
theorem Chg.alloc (h : Chg F a b) (o : Obj) : Chg F a (b.alloc o) := h.grown (World.grownBy_alloc b o none)
theorem Chg.drew (h : Chg F a b) : Chg F a b.drew := ⟨h.os, h.tape, h.output, h.size, h.block⟩
theorem Chg.set (h : Chg F a b) {p : Addr} (hp : p.block ∈ F ∨ a.heap.size ≤ p.block) (v : Value) : Chg F a (b.setCell p v) :=
  ⟨h.os, h.tape, h.output, by simpa [World.setCell] using h.size, fun k hk hn => by
    rw [Below.heap_setCell _ _ _ _ (by intro e; rcases hp with hp | hp; exact hn (by rw [e]; exact hp); omega)]; exact h.block k hk hn⟩
theorem Chg.at (h : Chg F a b) (hx : a.heap[x]? = some o) (hn : x ∉ F) : b.heap[x]? = some o := by
  rw [h.block x (at_lt hx) hn]; exact hx
theorem Chg.free (h : Chg F a b) (hF : ∀ x ∈ F, a.heap.size ≤ x) : a.grownBy b none :=
  ⟨h.os, h.tape, h.output, h.size, fun i hi _ => h.block i hi fun hm => by have := hF i hm; omega⟩
theorem Chg.cell (h : Chg F a b) {p : Addr} {v : Value} (hx : a.cell? p = some v) (hn : p.block ∉ F) : b.cell? p = some v := by
  have hlt : p.block < a.heap.size := by
    rcases Nat.lt_or_ge p.block a.heap.size with hb | hb
    · exact hb
    · simp [World.cell?, Array.getElem?_eq_none hb] at hx
  rw [World.cell?_of_block (h.block _ hlt hn)]; exact hx
end
end Go.Proofs.YtfhifnhnkgdnlaaGreat
end
section
set_option linter.unusedSimpArgs false
namespace Go.Proofs.YtfhifnhnkgdnlaaGreat
set_option maxRecDepth 100000
open Go.RowKit

/-- sync/atomic's Int64 -/
theorem load_i64 (a : Addr) (x : Int) (w : World) (hc : w.cell? a = some (.int .i64 x)) :
    Calls Tryz.prog 73 #[.pointer (some a)] w fun e w' => e = .returned (.int .i64 x) ∧ w = w' := by
  have hl := run_call_load (P := Tryz.prog) Tryz.func109 (by kernel_rfl) (by kernel_rfl) (by kernel_rfl) .i64 (by kernel_rfl) hc
  go_enter Tryz.func73, Tryz.ntmps73
  go_wp2
  go_ret
  exact ⟨rfl, rfl⟩
theorem addn_i64 (a : Addr) (x y s : Int) (w : World) (hc : w.cell? a = some (.int .i64 x)) (hz : w.frozen? a = false) (hs : IntKind.i64.wrap (x + y) = s) :
    Calls Tryz.prog 77 #[.pointer (some a), .int .i64 y] w fun e w' => e = .returned (.int .i64 s) ∧ w' = w.setCell a (.int .i64 s) := by
  have hadd := run_call_add (P := Tryz.prog) Tryz.func111 (by kernel_rfl) (by kernel_rfl) (by kernel_rfl) .i64 (by kernel_rfl) (y := y) (s := s) hc hz (by rw [show Op.intArith .add .i64 x y = pure (.int .i64 (IntKind.i64.wrap (x + y))) from rfl, hs]; rfl)
  clear hs
  go_enter Tryz.func77, Tryz.ntmps77
  go_wp2
  go_ret
  exact ⟨rfl, rfl⟩
theorem store_i64 (a : Addr) (y : Int) (u : Value) (w : World) (hc : w.cell? a = some u) (hz : w.frozen? a = false) :
    Calls Tryz.prog 78 #[.pointer (some a), .int .i64 y] w fun e w' => e = .returned (.tuple #[]) ∧ w' = w.setCell a (.int .i64 y) := by
  have hs := run_call_store (P := Tryz.prog) Tryz.func112 (by kernel_rfl) (by kernel_rfl) (by kernel_rfl) (by kernel_rfl) (k := .i64) (y := y) hc hz
  go_enter Tryz.func78, Tryz.ntmps78
  go_wp2
  go_end0
  exact ⟨rfl, rfl⟩
theorem add_i64 (a : Addr) (x : Int) (w : World) (hc : w.cell? a = some (.int .i64 x)) (hz : w.frozen? a = false) (h0 : 0 ≤ x) (h1 : x < 1000000000000000000) :
    Calls Tryz.prog 77 #[.pointer (some a), .int .i64 1] w fun e w' => e = .returned (.int .i64 (x + 1)) ∧ w' = w.setCell a (.int .i64 (x + 1)) := by
  have hadd := run_call_add (P := Tryz.prog) Tryz.func111 (by kernel_rfl) (by kernel_rfl) (by kernel_rfl) .i64 (by kernel_rfl) (y := 1) (s := x + 1) hc hz (by simp [go_sem, IntKind.wrap, IntKind.bits, IntKind.signed]; omega)
  go_enter Tryz.func77, Tryz.ntmps77
  go_wp2
  go_ret
  exact ⟨rfl, rfl⟩
theorem still_of {f : FuncId} {args : Array Value} {w : World} {v : Value} (h : Calls Tryz.prog f args w fun e w' => e = .returned v ∧ w = w') : Calls Tryz.prog f args w fun e w' => e = .returned v ∧ w' = w := h.mono fun _ _ ⟨h1, h2⟩ => ⟨h1, h2.symm⟩
end Go.Proofs.YtfhifnhnkgdnlaaGreat
end
section
namespace Go.Proofs.YtfhifnhnkgdnlaaGreat
set_option maxRecDepth 100000
open Go.RowKit

/-- a 64-bit word as the model's integer -/
def q (x : BitVec 64) : Int := (x.toNat : Int)
/-- a byte as the model's integer -/
def qb (c : BitVec 8) : Int := (c.toNat : Int)

theorem q_inj {x y : BitVec 64} (h : q x = q y) : x = y := by
  unfold q at h; exact BitVec.eq_of_toNat_eq (by omega)
theorem q_inj_iff (x y : BitVec 64) : q x = q y ↔ x = y := ⟨q_inj, fun h => by rw [h]⟩
theorem q_beq (x y : BitVec 64) : (q x == q y) = (x == y) := by
  rw [Bool.eq_iff_iff]; simp [q_inj_iff]
theorem q_ofInt (x : BitVec 64) : BitVec.ofInt 64 (q x) = x := by
  unfold q; rw [BitVec.ofInt_natCast, BitVec.ofNat_toNat]; simp
theorem wrap_toNat (x : BitVec 64) : IntKind.u64.wrap (x.toNat : Int) = q x := by
  rw [IntKind.wrap_u64]; unfold q; have := x.isLt; omega
theorem q_xor (x y : BitVec 64) : bits .xor .u64 (q x) (q y) = q (x ^^^ y) := by
  show IntKind.u64.wrap ((BitVec.ofInt 64 (q x) ^^^ BitVec.ofInt 64 (q y)).toNat : Int) = _
  rw [q_ofInt, q_ofInt]; exact wrap_toNat _
theorem q_or (x y : BitVec 64) : bits .or .u64 (q x) (q y) = q (x ||| y) := by
  show IntKind.u64.wrap ((BitVec.ofInt 64 (q x) ||| BitVec.ofInt 64 (q y)).toNat : Int) = _
  rw [q_ofInt, q_ofInt]; exact wrap_toNat _
theorem q_and (x y : BitVec 64) : bits .and .u64 (q x) (q y) = q (x &&& y) := by
  show IntKind.u64.wrap ((BitVec.ofInt 64 (q x) &&& BitVec.ofInt 64 (q y)).toNat : Int) = _
  rw [q_ofInt, q_ofInt]; exact wrap_toNat _
theorem q_xor_num (x : BitVec 64) (n : Int) : bits .xor .u64 (q x) n = q (x ^^^ BitVec.ofInt 64 n) := by
  show IntKind.u64.wrap ((BitVec.ofInt 64 (q x) ^^^ BitVec.ofInt 64 n).toNat : Int) = _
  rw [q_ofInt]; exact wrap_toNat _
theorem q_add (x y : BitVec 64) : IntKind.u64.wrap (q x + q y) = q (x + y) := by
  rw [IntKind.wrap_u64]; unfold q; rw [BitVec.toNat_add]; omega
theorem q_shl (x : BitVec 64) (n : Nat) : IntKind.u64.wrap (q x * 2 ^ n) = q (x <<< n) := by
  rw [IntKind.wrap_u64]
  unfold q
  rw [BitVec.toNat_shiftLeft, Nat.shiftLeft_eq]
  simp
theorem q_shr (x : BitVec 64) (n : Nat) : q x / 2 ^ n = q (x >>> n) := by
  unfold q
  rw [BitVec.toNat_ushiftRight, Nat.shiftRight_eq_div_pow]
  simp
attribute [go_sem ↓] q_xor q_or q_and q_add q_shl q_shr
theorem q_lit (n : Int) : IntKind.u64.wrap n = q (BitVec.ofInt 64 n) := by
  rw [IntKind.wrap_u64]; unfold q; rw [BitVec.toNat_ofInt]; omega
end Go.Proofs.YtfhifnhnkgdnlaaGreat
end
section
namespace Go.Proofs.YtfhifnhnkgdnlaaGreat
set_option maxRecDepth 100000
open Go.RowKit

theorem disable (w : World) : (callFunc 148 #[]).run Tryz.prog w = .ok (.value (.tuple #[])) w := run_call_mark0 Tryz.func148 (by kernel_rfl) (by kernel_rfl) (by kernel_rfl) .disable (by kernel_rfl) w
theorem enable (w : World) : (callFunc 150 #[]).run Tryz.prog w = .ok (.value (.tuple #[])) w := run_call_mark0 Tryz.func150 (by kernel_rfl) (by kernel_rfl) (by kernel_rfl) .enable (by kernel_rfl) w
theorem acquire (a : Addr) (w : World) : (callFunc 151 #[.pointer (some a)]).run Tryz.prog w = .ok (.value (.tuple #[])) w := run_call_marked Tryz.func151 (by kernel_rfl) (by kernel_rfl) (by kernel_rfl) .acquire (by kernel_rfl) a w
theorem releaseMerge (a : Addr) (w : World) : (callFunc 153 #[.pointer (some a)]).run Tryz.prog w = .ok (.value (.tuple #[])) w := run_call_marked Tryz.func153 (by kernel_rfl) (by kernel_rfl) (by kernel_rfl) .releaseMerge (by kernel_rfl) a w

/-- '(*sync/atomic.Bool).Store(true)', entered as a deferred call: the cell holds 1. -/
theorem store_deferred (a : Addr) (x : Value) (u : FrameMode) (w : World) (hc : w.cell? a = some x) (hz : w.frozen? a = false) :
    CallsD Tryz.prog 143 #[.pointer (some a), .bool true] u w fun e u' w' => u' = u ∧ (e = .returned (.tuple #[]) ∧ w' = w.drew.setCell a (.int .u32 1)) := by
  have hc' : w.drew.cell? a = some x := by go_simp
  have hz' : w.drew.frozen? a = false := by go_simp
  have hst := run_call_store (P := Tryz.prog) Tryz.func146 (by kernel_rfl) (by kernel_rfl) (by kernel_rfl) (by kernel_rfl) (k := .u32) (y := 1) hc' hz'
  go_enter_d Tryz.func143, Tryz.ntmps143
  go_wp2
  go_region_calls
  all_goals (go_end0; exact ⟨rfl, rfl⟩)

/-- '(*sync.Mutex).Unlock', entered as a deferred call, the lock held and nobody waiting (state 1): state 0. -/
theorem unlock_deferred (a : Addr) (u : FrameMode) (w : World) (hc : w.cell? a = some (.int .i32 1)) (hz : w.frozen? a = false) :
    CallsD Tryz.prog 142 #[.pointer (some a)] u w fun e u' w' => u' = u ∧ (e = .returned (.tuple #[]) ∧ w' = w.setCell a (.int .i32 0)) := by
  have hd := disable
  have he := enable
  have hr := releaseMerge
  have hadd := run_call_add (P := Tryz.prog) Tryz.func154 (by kernel_rfl) (by kernel_rfl) (by kernel_rfl) .i32 (by kernel_rfl) (y := -1) (s := 0) hc hz (by simp [go_sem]; rfl)
  have hcv := run_convert_to_unsafe (P := Tryz.prog) (src := 230) (dst := 234) Tryz.underlying230 Tryz.underlying234 (by kernel_rfl) hc
  go_enter_d Tryz.func142, Tryz.ntmps142
  go_wp2
  go_end0
  go_wp2
  go_end0
  exact ⟨rfl, rfl⟩

/-- '(*sync.Mutex).Lock', the lock free (state 0): state 1. -/
theorem lock_free (a : Addr) (w : World) (hc : w.cell? a = some (.int .i32 0)) (hz : w.frozen? a = false) :
    Calls Tryz.prog 141 #[.pointer (some a)] w fun e w' => e = .returned (.tuple #[]) ∧ w' = w.setCell a (.int .i32 1) := by
  have hd := disable
  have he := enable
  have ha := acquire
  have hcas := run_call_cas_hit (P := Tryz.prog) Tryz.func149 (by kernel_rfl) (by kernel_rfl) (by kernel_rfl) .i32 (by kernel_rfl) (y := 1) hc hz
  have hc' : (w.setCell a (.int .i32 1)).cell? a = some (.int .i32 1) := World.cell?_setCell_same w a _ hc
  have hcv := run_convert_to_unsafe (P := Tryz.prog) (src := 230) (dst := 234) Tryz.underlying230 Tryz.underlying234 (by kernel_rfl) hc'
  go_enter Tryz.func141, Tryz.ntmps141
  go_wp2
  first | go_end0 | (simp only [Exit.inBlock, Exit.then]; refine bodyPost_ret (results_none rfl _ _ _) rfl ?_) | refine bodyPost_ret (results_none rfl _ _ _) rfl ?_
  go_wp2
  go_end0
  exact ⟨rfl, rfl⟩

/-- '(*sync.Once).Do', done already: the function is not called. -/
theorem do_done (a : Addr) (d : Int) (hd : ¬ d = 0) (fv : Value) (w : World) (h0 : w.cell? a = some (.int .u32 d)) :
    Calls Tryz.prog 133 #[.pointer (some a), fv] w fun e w' => e = .returned (.tuple #[]) ∧ w' = w := by
  have hl := run_call_load (P := Tryz.prog) Tryz.func128 (by kernel_rfl) (by kernel_rfl) (by kernel_rfl) .u32 (by kernel_rfl) h0
  have hnot : ∀ (x : Bool) (w : World), (Op.unary .not (.bool x)).run Tryz.prog w = .ok (.bool (!x)) w := fun _ _ => rfl
  have hd' : (d != 0) = true := by simp [hd]
  go_enter Tryz.func133, Tryz.ntmps133
  go_wp2
  go_end0
  exact ⟨rfl, rfl⟩
end Go.Proofs.YtfhifnhnkgdnlaaGreat
end
section
set_option linter.unusedSimpArgs false
namespace Go.Proofs.YtfhifnhnkgdnlaaGreat
set_option maxRecDepth 100000
open Go.RowKit

/-- generations of keys -/
structure Rg where
  seed : BitVec 64
  n : Nat
  grace : Nat
  gen : Nat → Int
  since : Nat → Int
structure Rg.Ok (r : Rg) : Prop where
  n1 : 1 ≤ r.n
  n2 : r.n ≤ 16
  g1 : 1 ≤ r.grace
  g2 : r.grace ≤ 100
  e0 : ∀ i, 0 ≤ r.gen i
  e1 : ∀ i, r.gen i ≤ 60000
  s0 : ∀ i, 0 ≤ r.since i
  s1 : ∀ i, r.since i ≤ 1099511627776
def Rg.new (seed : BitVec 64) (n grace : Nat) : Rg := ⟨seed, n, grace, fun _ => 0, fun _ => 0⟩
def Rg.put (r : Rg) (i : Nat) (g s : Int) : Rg := { r with gen := fun j => if j = i then g else r.gen j, since := fun j => if j = i then s else r.since j }
theorem rg_new_ok (seed : BitVec 64) {n grace : Nat} (h1 : 1 ≤ n) (h2 : n ≤ 16) (h3 : 1 ≤ grace) (h4 : grace ≤ 100) : (Rg.new seed n grace).Ok :=
  ⟨h1, h2, h3, h4, fun _ => Int.le_refl _, fun _ => by show (0 : Int) ≤ _; decide, fun _ => Int.le_refl _, fun _ => by show (0 : Int) ≤ _; decide⟩
theorem Rg.Ok.put {r : Rg} (h : r.Ok) (i : Nat) {g s : Int} (g0 : 0 ≤ g) (g1 : g ≤ 60000) (s0 : 0 ≤ s) (s1 : s ≤ 1099511627776) : (r.put i g s).Ok :=
  ⟨h.n1, h.n2, h.g1, h.g2, fun j => by simp only [Rg.put]; split; exact g0; exact h.e0 j, fun j => by simp only [Rg.put]; split; exact g1; exact h.e1 j,
    fun j => by simp only [Rg.put]; split; exact s0; exact h.s0 j, fun j => by simp only [Rg.put]; split; exact s1; exact h.s1 j⟩

/-- a ring of the program's -/
structure RgAt (w : World) (b h : Nat) (r : Rg) : Prop where
  top : w.heap[b]? = some (.cells #[.int .u64 (q r.seed), .int .i64 (r.grace : Int), .slice (some ⟨h, 0, none⟩) r.n r.n] 158)
  row : ∃ cs : Array Value, w.heap[h]? = some (.cells cs 141) ∧ ∀ i, i < r.n → cs[i * 2]? = some (.int .i64 (r.gen i)) ∧ cs[i * 2 + 1]? = some (.int .i64 (r.since i))
  ne : b ≠ h
  ok : r.Ok
theorem RgAt.chg {w w' : World} {F : List Nat} {b h : Nat} {r : Rg} (H : RgAt w b h r) (hc : Chg F w w') (hb : b ∉ F) (hh : h ∉ F) : RgAt w' b h r :=
  ⟨hc.at H.top hb, by obtain ⟨cs, h1, h2⟩ := H.row; exact ⟨cs, hc.at h1 hh, h2⟩, H.ne, H.ok⟩
theorem RgAt.grown {w w' : World} {b h : Nat} {r : Rg} (H : RgAt w b h r) (hg : w.grownBy w' none) : RgAt w' b h r := H.chg (chg_grown hg []) (by simp) (by simp)
theorem RgAt.drew {w : World} {b h : Nat} {r : Rg} (H : RgAt w b h r) : RgAt w.drew b h r := ⟨H.top, H.row, H.ne, H.ok⟩
theorem RgAt.tops {w : World} {b h : Nat} {r : Rg} (H : RgAt w b h r) : w.cell? ⟨b, 0, none⟩ = some (.int .u64 (q r.seed)) ∧ w.cell? ⟨b, 1, none⟩ = some (.int .i64 (r.grace : Int)) ∧ w.cell? ⟨b, 2, none⟩ = some (.slice (some ⟨h, 0, none⟩) r.n r.n) :=
  ⟨at_cell H.top 0, at_cell H.top 1, at_cell H.top 2⟩
theorem RgAt.cells {w : World} {b h : Nat} {r : Rg} (H : RgAt w b h r) {i : Nat} (hi : i < r.n) : w.cell? ⟨h, i * 2, none⟩ = some (.int .i64 (r.gen i)) ∧ w.cell? ⟨h, i * 2 + 1, none⟩ = some (.int .i64 (r.since i)) ∧ w.frozen? ⟨h, i * 2, none⟩ = false ∧ w.frozen? ⟨h, i * 2 + 1, none⟩ = false := by
  obtain ⟨cs, h1, h2⟩ := H.row
  exact ⟨(at_cell h1 _).trans (h2 i hi).1, (at_cell h1 _).trans (h2 i hi).2, at_free h1 _, at_free h1 _⟩
theorem RgAt.lt {w : World} {b h : Nat} {r : Rg} (H : RgAt w b h r) : b < w.heap.size ∧ h < w.heap.size := ⟨at_lt H.top, by obtain ⟨_, h1, _⟩ := H.row; exact at_lt h1⟩
theorem RgAt.put {w : World} {b h : Nat} {r : Rg} (H : RgAt w b h r) {i : Nat} (hi : i < r.n) {g s : Int} (g0 : 0 ≤ g) (g1 : g ≤ 60000) (s0 : 0 ≤ s) (s1 : s ≤ 1099511627776) :
    RgAt ((w.setCell ⟨h, i * 2, none⟩ (.int .i64 g)).setCell ⟨h, i * 2 + 1, none⟩ (.int .i64 s)) b h (r.put i g s) := by
  obtain ⟨cs, h1, h2⟩ := H.row
  have b0 := at_lt H.top
  refine ⟨at_set_other (at_set_other H.top H.ne _) H.ne _, ⟨_, at_set (at_set h1 _ _) _ _, fun j hj => ?_⟩, H.ne, H.ok.put i g0 g1 s0 s1⟩
  obtain ⟨k1, k2⟩ := h2 j hj
  obtain ⟨m1, m2⟩ := h2 i hi
  have z1 : i * 2 < cs.size := (Array.getElem?_eq_some_iff.1 m1).1
  have z2 : i * 2 + 1 < cs.size := (Array.getElem?_eq_some_iff.1 m2).1
  have n1 : ¬ i * 2 + 1 = j * 2 := by omega
  have n2 : ¬ i * 2 = j * 2 + 1 := by omega
  simp only [Rg.put]
  by_cases e : j = i
  · subst e
    rw [if_pos rfl, if_pos rfl]
    constructor
    · rw [Array.getElem?_setIfInBounds, if_neg n1, Array.getElem?_setIfInBounds, if_pos rfl, if_pos z1]
    · rw [Array.getElem?_setIfInBounds, if_pos rfl, if_pos (by simpa using z2)]
  · have n3 : ¬ i * 2 = j * 2 := by omega
    have n4 : ¬ i * 2 + 1 = j * 2 + 1 := by omega
    rw [if_neg e, if_neg e]
    constructor
    · rw [Array.getElem?_setIfInBounds, if_neg n1, Array.getElem?_setIfInBounds, if_neg n3]; exact k1
    · rw [Array.getElem?_setIfInBounds, if_neg n4, Array.getElem?_setIfInBounds, if_neg n2]; exact k2

theorem within_in (x lo hi : Int) (h0 : lo ≤ x) (h1 : x ≤ hi) (w : World) :
    Calls Tryz.prog 88 #[.int .i64 x, .int .i64 lo, .int .i64 hi] w fun e w' => e = .returned (.bool true) ∧ w = w' := by
  go_enter Tryz.func88, Tryz.ntmps88
  go_wp2
  go_ret
  exact ⟨rfl, rfl⟩
theorem within_out (x lo hi : Int) (h : x < lo ∨ hi < x) (w : World) :
    Calls Tryz.prog 88 #[.int .i64 x, .int .i64 lo, .int .i64 hi] w fun e w' => e = .returned (.bool false) ∧ w = w' := by
  by_cases h0 : lo ≤ x
  · have hd : decide (x ≤ hi) = false := by simp; omega
    go_enter Tryz.func88, Tryz.ntmps88
    go_wp2
    go_ret
    exact ⟨rfl, rfl⟩
  · go_enter Tryz.func88, Tryz.ntmps88
    go_wp2
    go_ret
    exact ⟨rfl, rfl⟩
theorem within64_in (x lo hi : Int) (h0 : lo ≤ x) (h1 : x ≤ hi) (w : World) :
    Calls Tryz.prog 105 #[.int .i64 x, .int .i64 lo, .int .i64 hi] w fun e w' => e = .returned (.bool true) ∧ w = w' := by
  go_enter Tryz.func105, Tryz.ntmps105
  go_wp2
  go_ret
  exact ⟨rfl, rfl⟩
/-- sync/atomic's Int64 -/
theorem has_at (a : Addr) (ha : a.spot = none) (x : Int) (w : World) (hc : w.cell? a = some (.int .i64 x)) :
    Calls Tryz.prog 72 #[.pointer (some a)] w fun e w' => e = .returned (.int .i64 x) ∧ w = w' := by
  obtain ⟨b, i, s⟩ := a
  obtain rfl : s = none := ha
  go_enter Tryz.func72, Tryz.ntmps72
  go_wp2_with fail
  refine (load_i64 _ x _ hc).mono ?_
  rintro e w' ⟨rfl, rfl⟩
  go_wp2_with fail
  go_ret
  exact ⟨rfl, rfl⟩

theorem find_out {b h : Nat} {r : Rg} (x : Int) (w : World) (H : RgAt w b h r) (hx : x < 0 ∨ (r.n : Int) ≤ x) :
    Calls Tryz.prog 71 #[.pointer (some ⟨b, 0, none⟩), .int .i64 x] w fun e w' => e = .returned (.tuple #[.pointer none, .int .i64 3]) ∧ w = w' := by
  obtain ⟨c0, c1, c2⟩ := H.tops
  have n1 := H.ok.n1
  have n2 := H.ok.n2
  clear H
  generalize r.n = n at *
  go_enter Tryz.func71, Tryz.ntmps71
  go_wp2_with fail
  refine (within_out x 0 _ (by omega) _).mono ?_
  rintro e w' ⟨rfl, rfl⟩
  go_wp2_with fail
  go_ret2
  exact ⟨rfl, rfl⟩
theorem find_in {b h : Nat} {r : Rg} (i : Nat) (w : World) (H : RgAt w b h r) (hi : i < r.n) :
    Calls Tryz.prog 71 #[.pointer (some ⟨b, 0, none⟩), .int .i64 (i : Int)] w fun e w' => e = .returned (.tuple #[.pointer (some ⟨h, i * 2, none⟩), .int .i64 0]) ∧ w = w' := by
  obtain ⟨c0, c1, c2⟩ := H.tops
  have n1 := H.ok.n1
  have n2 := H.ok.n2
  clear H
  generalize r.n = n at *
  go_enter Tryz.func71, Tryz.ntmps71
  go_wp2_with fail
  refine (within_in (i : Int) 0 _ (by omega) (by omega) _).mono ?_
  rintro e w' ⟨rfl, rfl⟩
  go_wp2_with fail
  go_ret2
  exact ⟨rfl, rfl⟩
end Go.Proofs.YtfhifnhnkgdnlaaGreat
end
section
namespace Go.Proofs.YtfhifnhnkgdnlaaGreat
set_option maxRecDepth 100000
open Go.RowKit

/-- a word turned to the left -/
def rotl (x : BitVec 64) (n : Nat) : BitVec 64 := (x <<< n) ||| (x >>> (64 - n))

theorem and63 (n : Int) (h0 : 0 ≤ n) (h1 : n < 64) : bits .and .u64 n 63 = n := by
  obtain ⟨m, rfl⟩ := Int.eq_ofNat_of_zero_le h0
  have hm : m < 64 := by omega
  show IntKind.u64.wrap ((BitVec.ofInt 64 (m : Int) &&& BitVec.ofInt 64 63).toNat : Int) = _
  rw [wrap_toNat]; unfold q
  rw [BitVec.toNat_and, BitVec.ofInt_natCast, BitVec.toNat_ofNat]
  have e : (BitVec.ofInt 64 63).toNat = 2 ^ 6 - 1 := by decide
  rw [e, Nat.and_two_pow_sub_one_eq_mod]
  omega

set_option maxHeartbeats 400000 in
theorem rot_any (x : BitVec 64) (n : Nat) (h0 : 1 ≤ n) (h1 : n < 64) (w : World) :
    Calls Tryz.prog 140 #[.int .u64 (q x), .int .i64 (n : Int)] w fun e w' => e = .returned (.int .u64 (q (rotl x n))) ∧ w = w' := by
  have ha := and63 (n : Int) (by omega) (by omega)
  have hs : IntKind.u64.wrap (64 - (n : Int)) = 64 - (n : Int) := by rw [IntKind.wrap_u64]; omega
  have hs1 : (64 - (n : Int)).toNat = 64 - n := by omega
  have hs0 : 0 ≤ 64 - (n : Int) := by omega
  go_enter Tryz.func140, Tryz.ntmps140
  go_wp2_with fail
  go_ret
  exact ⟨rfl, rfl⟩

theorem rot_int (x : BitVec 64) (n : Int) (h0 : 1 ≤ n) (h1 : n < 64) (w : World) :
    Calls Tryz.prog 140 #[.int .u64 (q x), .int .i64 n] w fun e w' => e = .returned (.int .u64 (q (rotl x n.toNat))) ∧ w = w' := by
  obtain ⟨m, rfl⟩ := Int.eq_ofNat_of_zero_le (show 0 ≤ n by omega)
  exact rot_any x m (by omega) (by omega) w

/-- a round on four words -/
def rnd (a b c d : BitVec 64) : BitVec 64 × BitVec 64 × BitVec 64 × BitVec 64 :=
  let a1 := a + b
  let b1 := rotl b 13 ^^^ a1
  let a2 := rotl a1 32
  let c1 := c + d
  let d1 := rotl d 16 ^^^ c1
  let a3 := a2 + d1
  let d2 := rotl d1 21 ^^^ a3
  let c2 := c1 + b1
  let b2 := rotl b1 17 ^^^ c2
  (a3, b2, rotl c2 32, d2)

/-- four words as the model's tuple -/
@[reducible] def q4 (r : BitVec 64 × BitVec 64 × BitVec 64 × BitVec 64) : Value :=
  .tuple #[.int .u64 (q r.1), .int .u64 (q r.2.1), .int .u64 (q r.2.2.1), .int .u64 (q r.2.2.2)]

set_option maxHeartbeats 400000 in
theorem round_any (a b c d : BitVec 64) (w : World) :
    Calls Tryz.prog 137 #[.int .u64 (q a), .int .u64 (q b), .int .u64 (q c), .int .u64 (q d)] w fun e w' => e = .returned (q4 (rnd a b c d)) ∧ w = w' := by
  go_enter Tryz.func137, Tryz.ntmps137
  go_wp2_with (go_at_call 140; (with_reducible refine (rot_int _ _ (by omega) (by omega) _).mono ?_); rintro e w' ⟨rfl, rfl⟩)
  refine bodyPost_ret (v := q4 (rnd a b c d)) (by simp [results, Tryz.results137, go_sem, q4, rnd]) rfl ⟨rfl, rfl⟩

set_option maxHeartbeats 400000 in
theorem turn_any (x : BitVec 64) (n : Nat) (h0 : 1 ≤ n) (h1 : n < 64) (w : World) :
    Calls Tryz.prog 135 #[.int .u64 (q x), .int .u64 (n : Int)] w fun e w' => e = .returned (.int .u64 (q (rotl x n))) ∧ w = w' := by
  have hs : IntKind.u64.wrap (64 - (n : Int)) = 64 - (n : Int) := by rw [IntKind.wrap_u64]; omega
  have hs1 : (64 - (n : Int)).toNat = 64 - n := by omega
  have hs0 : 0 ≤ 64 - (n : Int) := by omega
  go_enter Tryz.func135, Tryz.ntmps135
  go_wp2_with fail
  go_ret
  exact ⟨rfl, rfl⟩
theorem turn_int (x : BitVec 64) (n : Int) (h0 : 1 ≤ n) (h1 : n < 64) (w : World) :
    Calls Tryz.prog 135 #[.int .u64 (q x), .int .u64 n] w fun e w' => e = .returned (.int .u64 (q (rotl x n.toNat))) ∧ w = w' := by
  obtain ⟨m, rfl⟩ := Int.eq_ofNat_of_zero_le (show 0 ≤ n by omega)
  exact turn_any x m (by omega) (by omega) w

set_option maxHeartbeats 400000 in
theorem refround_any (a b c d : BitVec 64) (w : World) :
    Calls Tryz.prog 123 #[.int .u64 (q a), .int .u64 (q b), .int .u64 (q c), .int .u64 (q d)] w fun e w' => e = .returned (q4 (rnd a b c d)) ∧ w = w' := by
  go_enter Tryz.func123, Tryz.ntmps123
  go_wp2_with (go_at_call 135; (with_reducible refine (turn_int _ _ (by omega) (by omega) _).mono ?_); rintro e w' ⟨rfl, rfl⟩)
  refine bodyPost_ret (v := q4 (rnd a b c d)) (by simp [results, Tryz.results123, go_sem, q4, rnd]) rfl ⟨rfl, rfl⟩
end Go.Proofs.YtfhifnhnkgdnlaaGreat
end
section
namespace Go.Proofs.YtfhifnhnkgdnlaaGreat
set_option maxRecDepth 100000
open Go.RowKit

/-- four words -/
structure W4 where
  a : BitVec 64
  b : BitVec 64
  c : BitVec 64
  d : BitVec 64
def W4.of (r : BitVec 64 × BitVec 64 × BitVec 64 × BitVec 64) : W4 := ⟨r.1, r.2.1, r.2.2.1, r.2.2.2⟩
@[reducible] def W4.val (v : W4) : Value := .agg #[.int .u64 (q v.a), .int .u64 (q v.b), .int .u64 (q v.c), .int .u64 (q v.d)]
def rnds : Nat → W4 → W4
  | 0, v => v
  | n + 1, v => W4.of (rnd (rnds n v).a (rnds n v).b (rnds n v).c (rnds n v).d)
def stirred (v : W4) (m : BitVec 64) : W4 :=
  let r := rnds 2 ⟨v.a, v.b, v.c, v.d ^^^ m⟩
  ⟨r.a ^^^ m, r.b, r.c, r.d⟩

set_option maxHeartbeats 400000 in
theorem rounds_any (v : W4) (n : Nat) (hn : n ≤ 1000) (w : World) :
    Calls Tryz.prog 132 #[.agg #[.int .u64 (q v.a), .int .u64 (q v.b), .int .u64 (q v.c), .int .u64 (q v.d)], .int .i64 (n : Int)] w fun e w' => e = .returned (rnds n v).val ∧ w.grownBy w' none := by
  go_enter Tryz.func132, Tryz.ntmps132
  go_wp2_with fail
  go_loopw [6, 8] (fun i _ wr => ∃ k : Nat, k ≤ n ∧ i = .int .i64 (k : Int) ∧ wr = (w.alloc (.cells #[.int .u64 (q (rnds k v).a), .int .u64 (q (rnds k v).b), .int .u64 (q (rnds k v).c), .int .u64 (q (rnds k v).d)] 212)).alloc (.cells #[.int .u64 0, .int .u64 0, .int .u64 0, .int .u64 0] 212)) (fun i _ _ => n - (intOf i).toNat)
  case atStart => exact ⟨0, Nat.zero_le _, rfl, rfl⟩
  case round =>
    obtain ⟨k, hk, rfl, rfl⟩ := hrel
    by_cases hlt : k < n
    · go_wp2_with (go_at_call 137; (with_reducible refine (round_any _ _ _ _ _).mono ?_); rintro e w' ⟨rfl, rfl⟩)
      go_roundw
      case rel => exact ⟨k + 1, by omega, by go_num, rfl⟩
      case measure => simp [intOf]; omega
    · have hkn : k = n := by omega
      subst hkn
      go_wp2_with fail
      exact bodyPost_ret (v := (rnds k v).val) (by simp [results, Tryz.results132, go_sem, W4.val]) rfl ⟨rfl, gb_alloc (gb_alloc (.refl _ _) _) _⟩

set_option maxHeartbeats 400000 in
theorem stir_any (v : W4) (m : BitVec 64) (w : World) :
    Calls Tryz.prog 131 #[.agg #[.int .u64 (q v.a), .int .u64 (q v.b), .int .u64 (q v.c), .int .u64 (q v.d)], .int .u64 (q m)] w fun e w' => e = .returned (stirred v m).val ∧ w.grownBy w' none := by
  go_enter Tryz.func131, Tryz.ntmps131
  go_wp2_with (fail)
  refine (rounds_any ⟨v.a, v.b, v.c, v.d ^^^ m⟩ 2 (by omega) _).mono ?_
  rintro e w' ⟨rfl, hg⟩
  have hb0 := at_grown (at_alloc (at_new w _) _) hg (by simp)
  have hb1 : w'.heap[w.heap.size + 1]? = _ := at_grown (b := w.heap.size + 1) (by simpa using at_new (w.alloc _) _) hg (by simp)
  have c0 : w'.cell? ⟨w.heap.size, 0, none⟩ = some (.int .u64 (q v.a)) := at_cell hb0 0
  have c1 : w'.cell? ⟨w.heap.size, 1, none⟩ = some (.int .u64 (q v.b)) := at_cell hb0 1
  have c2 : w'.cell? ⟨w.heap.size, 2, none⟩ = some (.int .u64 (q v.c)) := at_cell hb0 2
  have c3 : w'.cell? ⟨w.heap.size, 3, none⟩ = some (.int .u64 (q (v.d ^^^ m))) := at_cell hb0 3
  have f0 := fun i => at_free hb0 i
  have d0 : w'.cell? ⟨w.heap.size + 1, 0, none⟩ = some (.int .u64 0) := at_cell hb1 0
  have d1 : w'.cell? ⟨w.heap.size + 1, 1, none⟩ = some (.int .u64 0) := at_cell hb1 1
  have d2 : w'.cell? ⟨w.heap.size + 1, 2, none⟩ = some (.int .u64 0) := at_cell hb1 2
  have d3 : w'.cell? ⟨w.heap.size + 1, 3, none⟩ = some (.int .u64 0) := at_cell hb1 3
  have f1 := fun i => at_free hb1 i
  clear hb0 hb1
  go_wp2_with fail
  refine bodyPost_ret (v := (stirred v m).val) (by simp [results, Tryz.results131, go_sem, stirred, d0, d1, d2, d3]) rfl ⟨rfl, ?_⟩
  have hg1 := gb_trans (gb_alloc (gb_alloc (.refl w none) _) _) hg (.inl rfl)
  exact gb_new (gb_new (gb_new (gb_new (gb_new (gb_new (gb_new (gb_new (gb_new hg1 (by simp) _) (by simp) _) (by simp) _) (by simp) _) (by simp) _) (by simp) _) (by simp) _) (by simp) _) (by simp) _
end Go.Proofs.YtfhifnhnkgdnlaaGreat
end
section
namespace Go.Proofs.YtfhifnhnkgdnlaaGreat
open Go.RowKit

/-- the words that a key makes -/
def keyed (k0 k1 : BitVec 64) : W4 := ⟨k0 ^^^ 8317987319222330741#64, k1 ^^^ 7237128888997146477#64, k0 ^^^ 7816392313619706465#64, k1 ^^^ 8387220255154660723#64⟩

theorem xk0 (x : BitVec 64) : bits .xor .u64 (q x) 8317987319222330741 = q (x ^^^ 8317987319222330741#64) := q_xor_num x _
theorem xk1 (x : BitVec 64) : bits .xor .u64 (q x) 7237128888997146477 = q (x ^^^ 7237128888997146477#64) := q_xor_num x _
theorem xk2 (x : BitVec 64) : bits .xor .u64 (q x) 7816392313619706465 = q (x ^^^ 7816392313619706465#64) := q_xor_num x _
theorem xk3 (x : BitVec 64) : bits .xor .u64 (q x) 8387220255154660723 = q (x ^^^ 8387220255154660723#64) := q_xor_num x _
attribute [go_sem ↓] xk0 xk1 xk2 xk3

/-- a block that is a hash -/
@[reducible] def hashObj (done : Int) (a b c d rest : BitVec 64) (size : Int) : Obj :=
  .cells #[.int .u32 done, .int .i32 0, .int .u32 0, .int .u64 (q a), .int .u64 (q b), .int .u64 (q c), .int .u64 (q d), .int .u64 (q rest), .int .u8 size] 214

set_option maxRecDepth 100000 in
set_option maxHeartbeats 1600000 in
theorem slow_any (b kb pb : Nat) (hk : b ≠ kb) (hp : b ≠ pb) (k0 k1 v0 v1 v2 v3 r : BitVec 64) (s : Int) (w : World)
    (hb : w.heap[b]? = some (hashObj 0 v0 v1 v2 v3 r s))
    (hkb : w.heap[kb]? = some (.cells #[.int .u64 (q k0), .int .u64 (q k1)] 49))
    (hpb : w.heap[pb]? = some (.cells #[.pointer (some ⟨b, 0, none⟩)] 184)) :
    Calls Tryz.prog 139 #[.pointer (some ⟨b, 0, none⟩), .func (.func 136) #[] #[.pointer (some ⟨kb, 0, none⟩), .pointer (some ⟨pb, 0, none⟩)]] w fun e w' => e = .returned (.tuple #[]) ∧
      w'.heap[b]? = some (hashObj 1 (keyed k0 k1).a (keyed k0 k1).b (keyed k0 k1).c (keyed k0 k1).d r s) ∧ w.grownBy w' (some b) := by
  -- the world in which the lock is held
  have hb1 := at_set hb 1 (.int .i32 1)
  have hkb1 := at_set_other (p := ⟨b, 1, none⟩) hkb (fun h => hk h.symm) (.int .i32 1)
  have hpb1 := at_set_other (p := ⟨b, 1, none⟩) hpb (fun h => hp h.symm) (.int .i32 1)
  have c1 : w.cell? ⟨b, 1, none⟩ = some (.int .i32 0) := at_cell hb 1
  have f1 : w.frozen? ⟨b, 1, none⟩ = false := at_free hb 1
  have hl := run_call_load (P := Tryz.prog) Tryz.func128 (by kernel_rfl) (by kernel_rfl) (by kernel_rfl) .u32 (by kernel_rfl) (w := w.setCell ⟨b, 1, none⟩ (.int .i32 1)) (a := ⟨b, 0, none⟩) (x := 0) (at_cell hb1 0)
  have hnot : ∀ (x : Bool) (w : World), (Op.unary .not (.bool x)).run Tryz.prog w = .ok (.bool (!x)) w := fun _ _ => rfl
  have p0 : (w.setCell ⟨b, 1, none⟩ (.int .i32 1)).cell? ⟨pb, 0, none⟩ = some (.pointer (some ⟨b, 0, none⟩)) := at_cell hpb1 0
  have q0 : (w.setCell ⟨b, 1, none⟩ (.int .i32 1)).cell? ⟨kb, 0, none⟩ = some (.int .u64 (q k0)) := at_cell hkb1 0
  have q1 : (w.setCell ⟨b, 1, none⟩ (.int .i32 1)).cell? ⟨kb, 1, none⟩ = some (.int .u64 (q k1)) := at_cell hkb1 1
  have x3 : (w.setCell ⟨b, 1, none⟩ (.int .i32 1)).cell? ⟨b, 3, none⟩ = some (.int .u64 (q v0)) := at_cell hb1 3
  have x4 : (w.setCell ⟨b, 1, none⟩ (.int .i32 1)).cell? ⟨b, 4, none⟩ = some (.int .u64 (q v1)) := at_cell hb1 4
  have x5 : (w.setCell ⟨b, 1, none⟩ (.int .i32 1)).cell? ⟨b, 5, none⟩ = some (.int .u64 (q v2)) := at_cell hb1 5
  have x6 : (w.setCell ⟨b, 1, none⟩ (.int .i32 1)).cell? ⟨b, 6, none⟩ = some (.int .u64 (q v3)) := at_cell hb1 6
  have fz : ∀ i, w.frozen? ⟨b, i, none⟩ = false := fun i => at_free hb i
  have HB := hid hb; have HB1 := hid hb1
  clear hb hkb hpb hb1 hkb1 hpb1
  go_enter_defers Tryz.func139, Tryz.ntmps139
  go_wp2_with (go_at_call 141; refine (lock_free ⟨b, 1, none⟩ _ (by go_simp) (by go_simp)).mono ?_; rintro e w' ⟨rfl, rfl⟩)
  go_wp2
  go_end0
  go_wp2
  have hb3 := at_set (at_set (at_set (at_set HB1.out 3 (.int .u64 (q (keyed k0 k1).a))) 4 (.int .u64 (q (keyed k0 k1).b))) 5 (.int .u64 (q (keyed k0 k1).c))) 6 (.int .u64 (q (keyed k0 k1).d))
  have hb4 := at_set (at_drew hb3) 0 (.int .u32 1)
  have hb5 := at_set hb4 1 (.int .i32 0)
  have hg3 := gb_row (gb_row (gb_row (gb_row (gb_row (.refl w (some b)) (p := ⟨b, 1, none⟩) rfl (.int .i32 1)) (p := ⟨b, 3, none⟩) rfl (.int .u64 (q (keyed k0 k1).a))) (p := ⟨b, 4, none⟩) rfl (.int .u64 (q (keyed k0 k1).b))) (p := ⟨b, 5, none⟩) rfl (.int .u64 (q (keyed k0 k1).c))) (p := ⟨b, 6, none⟩) rfl (.int .u64 (q (keyed k0 k1).d))
  have hg5 := gb_row (gb_row (gb_drew hg3) (p := ⟨b, 0, none⟩) rfl (.int .u32 1)) (p := ⟨b, 1, none⟩) rfl (.int .i32 0)
  -- the door: two deferred calls, the last laid first
  refine leaves_cons (f := 143) (args := #[.pointer (some ⟨b, 0, none⟩), .bool true]) (by simp) (by simp [go_sem]) ?_
  refine (store_deferred ⟨b, 0, none⟩ (.int .u32 0) .returning _ (at_cell hb3 0) (at_free hb3 0)).mono ?_
  rintro e u' w'' ⟨rfl, rfl, rfl⟩
  refine leaves_cons (f := 142) (args := #[.pointer (some ⟨b, 1, none⟩)]) (by simp [settle]) (by simp [go_sem]) ?_
  refine (unlock_deferred ⟨b, 1, none⟩ _ _ (at_cell hb4 1) (at_free hb4 1)).mono ?_
  rintro e u' w'' ⟨rfl, rfl, rfl⟩
  clear hb3 hb4 hg3 x3 x4 x5 x6 p0 q0 q1 hl HB HB1 fz c1 f1 hnot
  have H5 := hid hb5; have G5 := hid hg5; clear hb5 hg5
  simp [Go.Leaves, settle, results, Tryz.results139]
  exact ⟨H5.out, G5.out⟩

set_option maxHeartbeats 800000 in
/-- '(*sync.Once).Do', not yet done, the lock free. -/
theorem do_first (b kb pb : Nat) (hk : b ≠ kb) (hp : b ≠ pb) (k0 k1 v0 v1 v2 v3 r : BitVec 64) (s : Int) (w : World)
    (hb : w.heap[b]? = some (hashObj 0 v0 v1 v2 v3 r s))
    (hkb : w.heap[kb]? = some (.cells #[.int .u64 (q k0), .int .u64 (q k1)] 49))
    (hpb : w.heap[pb]? = some (.cells #[.pointer (some ⟨b, 0, none⟩)] 184)) :
    Calls Tryz.prog 133 #[.pointer (some ⟨b, 0, none⟩), .func (.func 136) #[] #[.pointer (some ⟨kb, 0, none⟩), .pointer (some ⟨pb, 0, none⟩)]] w fun e w' => e = .returned (.tuple #[]) ∧
      w'.heap[b]? = some (hashObj 1 (keyed k0 k1).a (keyed k0 k1).b (keyed k0 k1).c (keyed k0 k1).d r s) ∧ w.grownBy w' (some b) := by
  have hl := run_call_load (P := Tryz.prog) Tryz.func128 (by kernel_rfl) (by kernel_rfl) (by kernel_rfl) .u32 (by kernel_rfl) (w := w) (a := ⟨b, 0, none⟩) (x := 0) (at_cell hb 0)
  have hnot : ∀ (x : Bool) (w : World), (Op.unary .not (.bool x)).run Tryz.prog w = .ok (.bool (!x)) w := fun _ _ => rfl
  have HB := hid hb; have HK := hid hkb; have HP := hid hpb
  clear hb hkb hpb
  go_enter Tryz.func133, Tryz.ntmps133
  go_wp2_with (go_at_call 138; go_in)
  refine (slow_any b kb pb hk hp k0 k1 v0 v1 v2 v3 r s _ HB.out HK.out HP.out).mono ?_
  rintro e w' ⟨rfl, h1, h2⟩
  have H1 := hid h1; clear h1
  go_wp2
  go_end0
  exact ⟨rfl, H1.out, h2⟩

set_option maxHeartbeats 800000 in
/-- 'begin', not yet done. -/
theorem begin_first (b : Nat) (k0 k1 v0 v1 v2 v3 r : BitVec 64) (s : Int) (w : World)
    (hb : w.heap[b]? = some (hashObj 0 v0 v1 v2 v3 r s)) :
    Calls Tryz.prog 129 #[.pointer (some ⟨b, 0, none⟩), .agg #[.int .u64 (q k0), .int .u64 (q k1)]] w fun e w' => e = .returned (.tuple #[]) ∧
      w'.heap[b]? = some (hashObj 1 (keyed k0 k1).a (keyed k0 k1).b (keyed k0 k1).c (keyed k0 k1).d r s) ∧ w.grownBy w' (some b) := by
  have hmf : ∀ (fn : Fn) (first cap : Array Value) (w : World), (Instr.makeFunc fn first cap).run Tryz.prog w = .ok (.func fn first cap) w := fun _ _ _ _ => rfl
  have hlt := at_lt hb
  have HB := hid hb
  clear hb
  go_enter Tryz.func129, Tryz.ntmps129
  go_wp2_with fail
  refine (do_first b (w.heap.size + 1) w.heap.size (by omega) (by omega) k0 k1 v0 v1 v2 v3 r s _ (at_alloc (at_alloc HB.out _) _) (by simpa using at_new (w.alloc _) _) (at_alloc (at_new w _) _)).mono ?_
  rintro e w' ⟨rfl, h1, h2⟩
  have H1 := hid h1; clear h1
  go_wp2
  go_end0
  exact ⟨rfl, H1.out, gb_trans (gb_alloc (gb_alloc (.refl _ _) _) _) h2 (.inr (.inl rfl))⟩

set_option maxHeartbeats 800000 in
/-- 'begin', done already. -/
theorem begin_done (b : Nat) (k0 k1 v0 v1 v2 v3 r : BitVec 64) (s : Int) (w : World)
    (hb : w.heap[b]? = some (hashObj 1 v0 v1 v2 v3 r s)) :
    Calls Tryz.prog 129 #[.pointer (some ⟨b, 0, none⟩), .agg #[.int .u64 (q k0), .int .u64 (q k1)]] w fun e w' => e = .returned (.tuple #[]) ∧ w.grownBy w' none := by
  have hmf : ∀ (fn : Fn) (first cap : Array Value) (w : World), (Instr.makeFunc fn first cap).run Tryz.prog w = .ok (.func fn first cap) w := fun _ _ _ _ => rfl
  have HB := hid hb
  clear hb
  go_enter Tryz.func129, Tryz.ntmps129
  go_wp2_with fail
  refine (do_done ⟨b, 0, none⟩ 1 (by decide) _ _ (at_cell (at_alloc (at_alloc HB.out _) _) 0)).mono ?_
  rintro e w' ⟨rfl, rfl⟩
  go_wp2
  go_end0
  exact ⟨rfl, gb_alloc (gb_alloc (.refl _ _) _) _⟩
end Go.Proofs.YtfhifnhnkgdnlaaGreat
end
section
namespace Go.Proofs.YtfhifnhnkgdnlaaGreat
set_option maxRecDepth 100000
open Go.RowKit

/-- a hash under way: its words, the bytes since the last whole number, how many bytes there were -/
structure St where
  v : W4
  rest : BitVec 64
  n : Nat
/-- one byte more -/
def St.add (s : St) (x : UInt8) : St :=
  let r := s.rest ||| (BitVec.ofNat 64 x.toNat <<< (s.n % 8 * 8))
  if s.n % 8 = 7 then ⟨stirred s.v r, 0, s.n + 1⟩ else ⟨s.v, r, s.n + 1⟩
/-- the sum of all so far -/
def St.sum (s : St) : BitVec 64 :=
  let v := stirred s.v (s.rest ||| (BitVec.ofNat 64 (s.n % 256) <<< 56))
  let r := rnds 4 ⟨v.a, v.b, v.c ^^^ 255#64, v.d⟩
  r.a ^^^ r.b ^^^ r.c ^^^ r.d
/-- a hash under way, in its block -/
@[reducible] def St.obj (s : St) : Obj := hashObj 1 s.v.a s.v.b s.v.c s.v.d s.rest ((s.n % 256 : Nat) : Int)

theorem byte_q (x : UInt8) : IntKind.u64.wrap (x.toNat : Int) = q (BitVec.ofNat 64 x.toNat) := by
  rw [IntKind.wrap_u64]; unfold q; rw [BitVec.toNat_ofNat]; omega
theorem size_up (n : Nat) : IntKind.u8.wrap ((n : Int) % 256 + 1) = ((n : Int) + 1) % 256 := by
  simp [IntKind.wrap, IntKind.bits, IntKind.signed]
theorem St.add_mid (s : St) (x : UInt8) (hn : s.n % 8 ≠ 7) : s.add x = ⟨s.v, s.rest ||| (BitVec.ofNat 64 x.toNat <<< (s.n % 8 * 8)), s.n + 1⟩ := by
  unfold St.add; simp [hn]
theorem St.add_end (s : St) (x : UInt8) (hn : s.n % 8 = 7) : s.add x = ⟨stirred s.v (s.rest ||| (BitVec.ofNat 64 x.toNat <<< (s.n % 8 * 8))), 0, s.n + 1⟩ := by
  unfold St.add; simp [hn]

theorem hash_cells {w : World} {b : Nat} {dn : Int} {x3 x4 x5 x6 x7 : BitVec 64} {sz : Int} (hb : w.heap[b]? = some (hashObj dn x3 x4 x5 x6 x7 sz)) :
    w.cell? ⟨b, 3, none⟩ = some (.int .u64 (q x3)) ∧ w.cell? ⟨b, 4, none⟩ = some (.int .u64 (q x4)) ∧ w.cell? ⟨b, 5, none⟩ = some (.int .u64 (q x5)) ∧ w.cell? ⟨b, 6, none⟩ = some (.int .u64 (q x6)) ∧ w.cell? ⟨b, 7, none⟩ = some (.int .u64 (q x7)) ∧
      w.frozen? ⟨b, 3, none⟩ = false ∧ w.frozen? ⟨b, 4, none⟩ = false ∧ w.frozen? ⟨b, 5, none⟩ = false ∧ w.frozen? ⟨b, 6, none⟩ = false ∧ w.frozen? ⟨b, 7, none⟩ = false :=
  ⟨at_cell hb 3, at_cell hb 4, at_cell hb 5, at_cell hb 6, at_cell hb 7, at_free hb 3, at_free hb 4, at_free hb 5, at_free hb 6, at_free hb 7⟩

set_option maxHeartbeats 800000 in
theorem add_mid (b : Nat) (s : St) (x : UInt8) (hn : s.n % 8 ≠ 7) (w : World) (hb : w.heap[b]? = some s.obj) :
    Calls Tryz.prog 130 #[.pointer (some ⟨b, 0, none⟩), .int .u8 (x.toNat : Int)] w fun e w' => e = .returned (.tuple #[]) ∧ w'.heap[b]? = some (s.add x).obj ∧ w.grownBy w' (some b) := by
  have HB := hid hb
  have c7 : w.cell? ⟨b, 7, none⟩ = some (.int .u64 (q s.rest)) := at_cell hb 7
  have c8 : w.cell? ⟨b, 8, none⟩ = some (.int .u8 ((s.n % 256 : Nat) : Int)) := at_cell hb 8
  have f7 : w.frozen? ⟨b, 7, none⟩ = false := at_free hb 7
  have f8 : w.frozen? ⟨b, 8, none⟩ = false := at_free hb 8
  clear hb
  have hx := byte_q x
  have hu := size_up s.n
  have ht : (((s.n : Int) + 1) % 8 == 0) = false := by simp; omega
  go_enter Tryz.func130, Tryz.ntmps130
  go_wp2
  go_region
  all_goals
    go_wp2
    go_end0
    refine ⟨rfl, ?_, ?_⟩
    · rw [St.add_mid s x hn]
      have h1 := at_set (at_drew (at_set HB.out 7 (.int .u64 (q (s.rest ||| (BitVec.ofNat 64 x.toNat <<< (s.n % 8 * 8))))))) 8 (.int .u8 (((s.n : Int) + 1) % 256))
      exact h1
    · exact gb_row (gb_drew (gb_row (.refl w (some b)) (p := ⟨b, 7, none⟩) rfl _)) (p := ⟨b, 8, none⟩) rfl _

set_option maxHeartbeats 1600000 in
theorem add_end (b : Nat) (s : St) (x : UInt8) (hn : s.n % 8 = 7) (w : World) (hb : w.heap[b]? = some s.obj) :
    Calls Tryz.prog 130 #[.pointer (some ⟨b, 0, none⟩), .int .u8 (x.toNat : Int)] w fun e w' => e = .returned (.tuple #[]) ∧ w'.heap[b]? = some (s.add x).obj ∧ w.grownBy w' (some b) := by
  have HB := hid hb
  have c7 : w.cell? ⟨b, 7, none⟩ = some (.int .u64 (q s.rest)) := at_cell hb 7
  have c8 : w.cell? ⟨b, 8, none⟩ = some (.int .u8 ((s.n % 256 : Nat) : Int)) := at_cell hb 8
  have f7 : w.frozen? ⟨b, 7, none⟩ = false := at_free hb 7
  have f8 : w.frozen? ⟨b, 8, none⟩ = false := at_free hb 8
  clear hb
  have hx := byte_q x
  have hu := size_up s.n
  have ht : (((s.n : Int) + 1) % 8 == 0) = true := by simp; omega
  have hn7 := hid hn; clear hn
  go_enter Tryz.func130, Tryz.ntmps130
  go_wp2
  go_region
  go_wp2
  have hb1 := at_set (at_drew (at_set HB.out 7 (.int .u64 (q (s.rest ||| (BitVec.ofNat 64 x.toNat <<< (s.n % 8 * 8))))))) 8 (.int .u8 (((s.n : Int) + 1) % 256))
  have hg1 := gb_row (gb_drew (gb_row (.refl w (some b)) (p := ⟨b, 7, none⟩) rfl (.int .u64 (q (s.rest ||| (BitVec.ofNat 64 x.toNat <<< (s.n % 8 * 8)))))) ) (p := ⟨b, 8, none⟩) rfl (.int .u8 (((s.n : Int) + 1) % 256))
  generalize hR : (s.rest ||| (BitVec.ofNat 64 x.toNat <<< (s.n % 8 * 8))) = r at *
  generalize hW : (((w.setCell ⟨b, 7, none⟩ (.int .u64 (q r))).setCell ⟨b, 8, none⟩ (.int .u8 (((s.n : Int) + 1) % 256))).drew) = w1
  replace hb1 : w1.heap[b]? = some (hashObj 1 s.v.a s.v.b s.v.c s.v.d r (((s.n : Int) + 1) % 256)) := by rw [← hW]; exact hb1
  replace hg1 : w.grownBy w1 (some b) := by rw [← hW]; exact hg1
  have HB1 := hid hb1
  have HR := hid hR
  have d := hash_cells hb1
  obtain ⟨d3, d4, d5, d6, d7, e3, e4, e5, e6, e7⟩ := d
  clear hb1 hW hR c7 c8 f7 f8 hx hu ht HB
  go_region_with ((go_at_call 131; refine (stir_any s.v r _).mono ?_; rintro e w2 ⟨rfl, hg⟩; obtain ⟨d3', d4', d5', d6', d7', e3', e4', e5', e6', e7'⟩ := hash_cells (at_grown (at_drew HB1.out) hg (by simp))))
  all_goals
    go_wp2
    go_end0
    refine ⟨rfl, ?_, ?_⟩
    · rw [St.add_end s x hn7.out, HR.out]
      have h2 := at_set (at_set (at_set (at_set (at_grown (at_drew HB1.out) hg (by simp)) 3 (.int .u64 (q (stirred s.v r).a))) 4 (.int .u64 (q (stirred s.v r).b))) 5 (.int .u64 (q (stirred s.v r).c))) 6 (.int .u64 (q (stirred s.v r).d))
      exact at_set h2 7 (.int .u64 0)
    · exact gb_row (gb_row (gb_row (gb_row (gb_row (gb_trans (gb_drew hg1) hg (.inl rfl)) rfl _) rfl _) rfl _) rfl _) rfl _
end Go.Proofs.YtfhifnhnkgdnlaaGreat
end
section
namespace Go.Proofs.YtfhifnhnkgdnlaaGreat
set_option maxRecDepth 100000
open Go.RowKit

/-- a slice that reads as these bytes -/
def BytesAt (w : World) (v : Value) (l : List UInt8) : Prop :=
  (v = .slice none 0 0 ∧ l = []) ∨
  ∃ a cap, v = .slice (some a) l.length cap ∧ l.length ≤ cap ∧ cap ≤ maxLen ∧ ∀ i, (h : i < l.length) → w.cell? (a.add i) = some (.int .u8 ((l[i]).toNat : Int))

theorem BytesAt.le {w : World} {v : Value} {l : List UInt8} (h : BytesAt w v l) : l.length ≤ maxLen := by
  rcases h with ⟨_, rfl⟩ | ⟨a, cap, _, h1, h2, _⟩
  · simp
  · omega
theorem cell_lt {w : World} {p : Addr} {x : Value} (h : w.cell? p = some x) : p.block < w.heap.size := by
  unfold World.cell? at h
  rcases Nat.lt_or_ge p.block w.heap.size with hb | hb
  · exact hb
  · rw [Array.getElem?_eq_none hb] at h; cases h
theorem add_block (a : Addr) (i : Nat) : (a.add i).block = a.block := by unfold Addr.add; split <;> rfl
/-- where there is a byte, the slice's block is there -/
theorem BytesAt.lt {w : World} {v : Value} {l : List UInt8} (h : BytesAt w v l) : l = [] ∨ ∀ a n c, v = .slice (some a) n c → a.block < w.heap.size := by
  rcases h with ⟨_, rfl⟩ | ⟨a, cap, rfl, _, _, h3⟩
  · exact .inl rfl
  · cases l with
    | nil => exact .inl rfl
    | cons x l =>
      refine .inr fun a' n c e => ?_
      cases e
      have := cell_lt (h3 0 (by simp))
      rwa [add_block] at this
theorem BytesAt.grown {w w1 : World} {v : Value} {l : List UInt8} {r : Option Nat} (h : BytesAt w v l) (hg : w.grownBy w1 r) (hr : ∀ k, r = some k → w.heap.size ≤ k ∨ l = [] ∨ ∀ a n c, v = .slice (some a) n c → a.block ≠ k) : BytesAt w1 v l := by
  rcases h with h | ⟨a, cap, rfl, h1, h2, h3⟩
  · exact .inl h
  · refine .inr ⟨a, cap, rfl, h1, h2, fun i hi => hg.cell (h3 i hi) ?_⟩
    have hlt := cell_lt (h3 i hi)
    rw [add_block] at hlt ⊢
    intro e
    rcases hr _ e.symm with h4 | h4 | h4
    · omega
    · rw [h4] at hi; cases hi
    · exact h4 a _ _ rfl rfl
theorem BytesAt.cells {w : World} {v : Value} {l : List UInt8} (h : BytesAt w v l) (hp : 0 < l.length) :
    ∃ ab ao cap, v = .slice (some ⟨ab, ao, none⟩) l.length cap ∧ ∀ i, (h : i < l.length) → w.cell? ⟨ab, ao + i, none⟩ = some (.int .u8 ((l[i]).toNat : Int)) := by
  rcases h with ⟨_, rfl⟩ | ⟨⟨ab, ao, asp⟩, cap, rfl, _, _, h3⟩
  · cases hp
  · have h0 := h3 0 hp
    have hsp : asp = none := by simpa [Addr.add] using World.cell?_spot h0
    subst hsp
    refine ⟨ab, ao, cap, rfl, fun i hi => ?_⟩
    have := h3 i hi
    unfold Addr.add at this
    split at this
    · next h => subst h; simpa using this
    · simpa using this
theorem gb_some {w w1 : World} (h : w.grownBy w1 none) (b : Nat) : w.grownBy w1 (some b) := ⟨h.os, h.tape, h.output, h.size, fun k hk _ => h.block k hk (by simp)⟩

theorem add_any (b : Nat) (s : St) (x : UInt8) (w : World) (hb : w.heap[b]? = some s.obj) :
    Calls Tryz.prog 130 #[.pointer (some ⟨b, 0, none⟩), .int .u8 (x.toNat : Int)] w fun e w' => e = .returned (.tuple #[]) ∧ w'.heap[b]? = some (s.add x).obj ∧ w.grownBy w' (some b) := by
  by_cases hn : s.n % 8 = 7
  · exact add_end b s x hn w hb
  · exact add_mid b s x hn w hb

set_option maxHeartbeats 1600000 in
theorem write_any (b : Nat) (s : St) (l : List UInt8) (v : Value) (w : World) (hb : w.heap[b]? = some s.obj) (hl : BytesAt w v l) (hne : l = [] ∨ ∀ a n c, v = .slice (some a) n c → a.block ≠ b) :
    Calls Tryz.prog 116 #[.pointer (some ⟨b, 0, none⟩), v] w fun e w' => e = .returned (.int .i64 (l.length : Int)) ∧ w'.heap[b]? = some (l.foldl St.add s).obj ∧ w.grownBy w' (some b) := by
  have hle := hl.le
  unfold maxLen at hle
  have HB := hid hb; clear hb
  have HL := hid hl
  obtain ⟨p, cap, rfl⟩ : ∃ p cap, v = .slice p l.length cap := by
    rcases hl with ⟨rfl, rfl⟩ | ⟨a, cap, rfl, _, _, _⟩
    · exact ⟨none, 0, rfl⟩
    · exact ⟨some a, cap, rfl⟩
  clear hl
  go_enter Tryz.func116, Tryz.ntmps116
  go_wp2_with fail
  refine (begin_done b 0 0 _ _ _ _ _ _ _ HB.out).mono ?_
  rintro e w1 ⟨rfl, hg⟩
  go_wp2_with fail
  have hb1 := at_grown HB.out hg (by simp)
  have HB1 := hid hb1; have HG := hid hg; clear hb1 hg
  go_loopw [14] (fun i wr => ∃ k : Nat, k ≤ l.length ∧ i = .int .i64 (k : Int) ∧ wr.heap[b]? = some ((l.take k).foldl St.add s).obj ∧ w.grownBy wr (some b)) (fun i _ => l.length - (intOf i).toNat)
  case atStart => exact ⟨0, Nat.zero_le _, rfl, HB1.out, gb_some HG.out b⟩
  case round =>
    obtain ⟨k, hk, rfl, hbk, hgk⟩ := hrel
    have HBK := hid hbk; have HGK := hid hgk; clear hbk hgk
    by_cases hlt : k < l.length
    · obtain ⟨ab, ao, cap', hp, hcs⟩ := (HL.out.grown HGK.out (fun k hk => by cases hk; exact .inr hne)).cells (by omega)
      cases hp
      have hc := hcs k hlt
      clear hcs
      have hk0 : (0 : Int) ≤ (k : Int) := by omega
      have hk1 : (k : Int) < (l.length : Int) := by omega
      go_wp2_with fail
      refine (add_any b _ _ _ HBK.out).mono ?_
      rintro e w2 ⟨rfl, h1, h2⟩
      have H1 := hid h1; have H2 := hid h2; clear h1 h2
      go_wp2_with fail
      go_roundw
      case rel => exact ⟨k + 1, by omega, by go_num, by rw [List.take_succ_eq_append_getElem hlt, List.foldl_append]; exact H1.out, gb_trans HGK.out H2.out (.inr (.inl rfl))⟩
      case measure => simp [intOf]; omega
    · have hkn : k = l.length := by omega
      subst hkn
      go_wp2_with fail
      go_ret
      exact ⟨rfl, by have := HBK.out; rwa [List.take_of_length_le (Nat.le_refl _)] at this, HGK.out⟩
end Go.Proofs.YtfhifnhnkgdnlaaGreat
end
section
namespace Go.Proofs.YtfhifnhnkgdnlaaGreat
set_option maxRecDepth 100000
open Go.RowKit

theorem hash_cell8 {w : World} {b : Nat} {dn : Int} {x3 x4 x5 x6 x7 : BitVec 64} {sz : Int} (hb : w.heap[b]? = some (hashObj dn x3 x4 x5 x6 x7 sz)) :
    w.cell? ⟨b, 3, none⟩ = some (.int .u64 (q x3)) ∧ w.cell? ⟨b, 4, none⟩ = some (.int .u64 (q x4)) ∧ w.cell? ⟨b, 5, none⟩ = some (.int .u64 (q x5)) ∧ w.cell? ⟨b, 6, none⟩ = some (.int .u64 (q x6)) ∧ w.cell? ⟨b, 7, none⟩ = some (.int .u64 (q x7)) ∧ w.cell? ⟨b, 8, none⟩ = some (.int .u8 sz) :=
  ⟨at_cell hb 3, at_cell hb 4, at_cell hb 5, at_cell hb 6, at_cell hb 7, at_cell hb 8⟩
theorem size_q (n : Nat) : IntKind.u64.wrap ((n : Int) % 256) = q (BitVec.ofNat 64 (n % 256)) := by
  rw [IntKind.wrap_u64]; unfold q; rw [BitVec.toNat_ofNat]; omega

/-- a block that is four words -/
@[reducible] def wordsObj (v : W4) : Obj := .cells #[.int .u64 (q v.a), .int .u64 (q v.b), .int .u64 (q v.c), .int .u64 (q v.d)] 212
theorem x255 (x : BitVec 64) : bits .xor .u64 (q x) 255 = q (x ^^^ 255#64) := q_xor_num x _
attribute [go_sem ↓] x255
theorem words_cells {w : World} {b : Nat} {x0 x1 x2 x3 : BitVec 64} (hb : w.heap[b]? = some (.cells #[.int .u64 (q x0), .int .u64 (q x1), .int .u64 (q x2), .int .u64 (q x3)] 212)) :
    w.cell? ⟨b, 0, none⟩ = some (.int .u64 (q x0)) ∧ w.cell? ⟨b, 1, none⟩ = some (.int .u64 (q x1)) ∧ w.cell? ⟨b, 2, none⟩ = some (.int .u64 (q x2)) ∧ w.cell? ⟨b, 3, none⟩ = some (.int .u64 (q x3)) ∧
      w.frozen? ⟨b, 0, none⟩ = false ∧ w.frozen? ⟨b, 1, none⟩ = false ∧ w.frozen? ⟨b, 2, none⟩ = false ∧ w.frozen? ⟨b, 3, none⟩ = false :=
  ⟨at_cell hb 0, at_cell hb 1, at_cell hb 2, at_cell hb 3, at_free hb 0, at_free hb 1, at_free hb 2, at_free hb 3⟩

theorem stir_behind (v : W4) (m : BitVec 64) (w : World) :
    Calls Tryz.prog 131 #[.agg #[.int .u64 (q v.a), .int .u64 (q v.b), .int .u64 (q v.c), .int .u64 (q v.d)], .int .u64 (q m)] (w.alloc (.cells #[.int .u64 0, .int .u64 0, .int .u64 0, .int .u64 0] 212)).drew fun e w' => e = .returned (stirred v m).val ∧
      (w.alloc (.cells #[.int .u64 0, .int .u64 0, .int .u64 0, .int .u64 0] 212)).drew.grownBy w' none ∧
      w'.cell? ⟨w.heap.size, 0, none⟩ = some (.int .u64 0) ∧ w'.cell? ⟨w.heap.size, 1, none⟩ = some (.int .u64 0) ∧ w'.cell? ⟨w.heap.size, 2, none⟩ = some (.int .u64 0) ∧ w'.cell? ⟨w.heap.size, 3, none⟩ = some (.int .u64 0) ∧
      w'.frozen? ⟨w.heap.size, 0, none⟩ = false ∧ w'.frozen? ⟨w.heap.size, 1, none⟩ = false ∧ w'.frozen? ⟨w.heap.size, 2, none⟩ = false ∧ w'.frozen? ⟨w.heap.size, 3, none⟩ = false :=
  (stir_any v m _).mono fun _ _ ⟨h1, h2⟩ => ⟨h1, h2, words_cells (x0 := 0) (x1 := 0) (x2 := 0) (x3 := 0) (at_grown (at_drew (at_new w _)) h2 (by simp))⟩

set_option maxHeartbeats 1600000 in
theorem hsum_any (b : Nat) (s : St) (w : World) (hb : w.heap[b]? = some s.obj) :
    Calls Tryz.prog 117 #[.pointer (some ⟨b, 0, none⟩)] w fun e w' => e = .returned (.int .u64 (q s.sum)) ∧ w.grownBy w' none := by
  have HB := hid hb; clear hb
  have hs := size_q s.n
  go_enter Tryz.func117, Tryz.ntmps117
  go_wp2_with fail
  refine (begin_done b 0 0 _ _ _ _ _ _ _ HB.out).mono ?_
  rintro e w1 ⟨rfl, hg⟩
  have hb1 := at_grown HB.out hg (by simp)
  have HB1 := hid hb1; have HG := hid hg; clear hb1 hg
  obtain ⟨d3, d4, d5, d6, d7, d8⟩ := hash_cell8 HB1.out
  go_wp2_with fail
  have hblt := at_lt HB1.out
  go_region_held3 (fun w' => w'.cell? ⟨b, 3, none⟩ = some (.int .u64 (q s.v.a)) ∧ w'.cell? ⟨b, 4, none⟩ = some (.int .u64 (q s.v.b)) ∧ w'.cell? ⟨b, 5, none⟩ = some (.int .u64 (q s.v.c)) ∧ w'.cell? ⟨b, 6, none⟩ = some (.int .u64 (q s.v.d)) ∧ w'.cell? ⟨b, 7, none⟩ = some (.int .u64 (q s.rest)) ∧ w'.cell? ⟨b, 8, none⟩ = some (.int .u8 ((s.n % 256 : Nat) : Int)))
    ((refine hash_cell8 (dn := 1) ?_; repeat (first | with_reducible exact HB1.out | with_reducible refine at_drew ?_ | with_reducible refine at_alloc ?_ _ | with_reducible refine at_grown ?_ hg (by simp) | with_reducible refine at_set_other ?_ (by simp; omega) _)))
    (first
      | (go_at_call 131; (with_reducible refine (stir_behind s.v (s.rest ||| (BitVec.ofNat 64 (s.n % 256) <<< 56)) _).mono ?_); rintro e w2 ⟨rfl, hg, n0, n1, n2, n3, m0, m1, m2, m3⟩)
      | (go_at_call 131; (with_reducible refine (stir_any s.v (s.rest ||| (BitVec.ofNat 64 (s.n % 256) <<< 56)) _).mono ?_); rintro e w2 ⟨rfl, hg⟩))
  · have hnb : Hid (w.heap.size ≤ w2.heap.size) := hid (by have h1 := gb_size HG.out; have h2 := gb_size hg; exact Nat.le_trans h1 h2)
    refine exit_gen (fun wx => wx.heap[w2.heap.size]? = some (wordsObj (stirred s.v (s.rest ||| (BitVec.ofNat 64 (s.n % 256) <<< 56)))) ∧ w.grownBy wx none) ⟨?_, ?_⟩ ?_
    · exact at_new w2 _
    · exact gb_alloc (gb_trans (gb_drew HG.out) hg (.inl rfl)) _
    · intro wx hx
      obtain ⟨hN, hgN⟩ := hx
      have HN := hid hN; have HGN := hid hgN; clear hN hgN
      generalize hv : (stirred s.v (s.rest ||| (BitVec.ofNat 64 (s.n % 256) <<< 56))) = v at *
      have HV := hid hv; clear hv
      obtain ⟨n0, n1, n2, n3, m0, m1, m2, m3⟩ := words_cells HN.out
      go_wp2_with fail
      refine (rounds_any ⟨v.a, v.b, v.c ^^^ 255#64, v.d⟩ 4 (by omega) _).mono ?_
      rintro e w3 ⟨rfl, hg3⟩
      obtain ⟨n0', n1', n2', n3', m0', m1', m2', m3'⟩ := words_cells (x0 := v.a) (x1 := v.b) (x2 := v.c ^^^ 255#64) (x3 := v.d) (at_grown (at_set HN.out 2 _) hg3 (by simp))
      go_wp2_with fail
      go_ret
      refine ⟨by rw [← HV.out]; rfl, ?_⟩
      exact gb_new (gb_new (gb_new (gb_new (gb_trans (gb_new HGN.out (hnb.out) _) hg3 (.inl rfl)) hnb.out _) hnb.out _) hnb.out _) hnb.out _
  · have hnb : Hid (w.heap.size ≤ w1.heap.size) := hid (gb_size HG.out)
    refine exit_gen (fun wx => wx.heap[w1.heap.size]? = some (wordsObj (stirred s.v (s.rest ||| (BitVec.ofNat 64 (s.n % 256) <<< 56)))) ∧ w.grownBy wx none) ⟨?_, ?_⟩ ?_
    · exact at_set (at_set (at_set (at_set (at_grown (at_drew (at_new w1 _)) hg (by simp)) 0 _) 1 _) 2 _) 3 _
    · exact gb_new (gb_new (gb_new (gb_new (gb_trans (gb_drew (gb_alloc HG.out _)) hg (.inl rfl)) (gb_size HG.out) _) (gb_size HG.out) _) (gb_size HG.out) _) (gb_size HG.out) _
    · intro wx hx
      obtain ⟨hN, hgN⟩ := hx
      have HN := hid hN; have HGN := hid hgN; clear hN hgN
      generalize hv : (stirred s.v (s.rest ||| (BitVec.ofNat 64 (s.n % 256) <<< 56))) = v at *
      have HV := hid hv; clear hv
      obtain ⟨n0, n1, n2, n3, m0, m1, m2, m3⟩ := words_cells HN.out
      go_wp2_with fail
      refine (rounds_any ⟨v.a, v.b, v.c ^^^ 255#64, v.d⟩ 4 (by omega) _).mono ?_
      rintro e w3 ⟨rfl, hg3⟩
      obtain ⟨n0', n1', n2', n3', m0', m1', m2', m3'⟩ := words_cells (x0 := v.a) (x1 := v.b) (x2 := v.c ^^^ 255#64) (x3 := v.d) (at_grown (at_set HN.out 2 _) hg3 (by simp))
      go_wp2_with fail
      go_ret
      refine ⟨by rw [← HV.out]; rfl, ?_⟩
      exact gb_new (gb_new (gb_new (gb_new (gb_trans (gb_new HGN.out (hnb.out) _) hg3 (.inl rfl)) hnb.out _) hnb.out _) hnb.out _) hnb.out _
end Go.Proofs.YtfhifnhnkgdnlaaGreat
end
section
namespace Go.Proofs.YtfhifnhnkgdnlaaGreat
set_option maxRecDepth 100000
open Go.RowKit

/-- a hash under a key to which nothing was written -/
def St.new (k0 k1 : BitVec 64) : St := ⟨keyed k0 k1, 0, 0⟩
/-- the sum of bytes under a key -/
def sumOf (k0 k1 : BitVec 64) (l : List UInt8) : BitVec 64 := (l.foldl St.add (St.new k0 k1)).sum

theorem size_alloc (w : World) (o : Obj) : (w.alloc o).heap.size = w.heap.size + 1 := by show (w.heap.push o).size = _; simp
theorem at_new2 (w : World) (o o' : Obj) : ((w.alloc o).alloc o').heap[w.heap.size + 1]? = some o' := by
  have := at_new (w.alloc o) o'
  rwa [show (w.alloc o).heap.size = w.heap.size + 1 from by show (w.heap.push o).size = _; simp] at this

set_option maxHeartbeats 800000 in
theorem new_any (k0 k1 : BitVec 64) (w : World) :
    Calls Tryz.prog 115 #[.agg #[.int .u64 (q k0), .int .u64 (q k1)]] w fun e w' => e = .returned (.pointer (some ⟨w.heap.size + 1, 0, none⟩)) ∧ w'.heap[w.heap.size + 1]? = some (St.new k0 k1).obj ∧ w.grownBy w' none := by
  go_enter Tryz.func115, Tryz.ntmps115
  go_wp2_with fail
  refine (begin_first (w.heap.size + 1) k0 k1 0 0 0 0 0 0 _ (at_new2 w _ _)).mono ?_
  rintro e w1 ⟨rfl, h1, h2⟩
  have H1 := hid h1; have H2 := hid h2; clear h1 h2
  go_wp2_with fail
  go_ret
  exact ⟨rfl, H1.out, gb_trans (gb_alloc (gb_alloc (.refl w none) _) _) H2.out (.inr (.inr ⟨_, rfl, by omega⟩))⟩

set_option maxHeartbeats 800000 in
theorem sum_any (k0 k1 : BitVec 64) (l : List UInt8) (v : Value) (w : World) (hl : BytesAt w v l) :
    Calls Tryz.prog 85 #[.agg #[.int .u64 (q k0), .int .u64 (q k1)], v] w fun e w' => e = .returned (.int .u64 (q (sumOf k0 k1 l))) ∧ w.grownBy w' none := by
  have HL := hid hl; have HT := hid hl.lt; clear hl
  go_enter Tryz.func85, Tryz.ntmps85
  go_wp2_with fail
  refine (new_any k0 k1 _).mono ?_
  rintro e w1 ⟨rfl, h1, h2⟩
  have h1' : w1.heap[w.heap.size + 1 + 1]? = some (St.new k0 k1).obj := by rw [size_alloc] at h1; exact h1
  have H1 := hid h1'; have H2 := hid (gb_trans (gb_alloc (.refl w none) _) h2 (.inl rfl)); clear h1 h2 h1'
  go_wp2_with fail
  have hl1 := HL.out.grown H2.out (by simp)
  refine (write_any _ _ l _ _ H1.out hl1 (HT.out.elim .inl fun h => .inr fun a n c e => by have := h a n c e; omega)).mono ?_
  rintro e w2 ⟨rfl, h3, h4⟩
  have H3 := hid h3; have H4 := hid h4; clear h3 h4 hl1
  go_wp2_with fail
  refine (hsum_any _ _ _ H3.out).mono ?_
  rintro e w3 ⟨rfl, h5⟩
  have H5 := hid h5; clear h5
  go_wp2_with fail
  go_ret
  exact ⟨rfl, gb_trans (gb_trans H2.out H4.out (.inr (.inr ⟨_, rfl, by omega⟩))) H5.out (.inl rfl)⟩
end Go.Proofs.YtfhifnhnkgdnlaaGreat
end
section
namespace Go.Proofs.YtfhifnhnkgdnlaaGreat
set_option maxRecDepth 100000
open Go.RowKit

/-- byte i of a number -/
def putByte (n : BitVec 64) (i : Nat) : UInt8 := UInt8.ofNat (n >>> (8 * i)).toNat
/-- a number in eight bytes, the lowest first -/
def put8 (n : BitVec 64) : List UInt8 := [putByte n 0, putByte n 1, putByte n 2, putByte n 3, putByte n 4, putByte n 5, putByte n 6, putByte n 7]
theorem put8_length (n : BitVec 64) : (put8 n).length = 8 := rfl
/-- k bytes of a number, and noughts -/
def putArr (n : BitVec 64) (k : Nat) : Array Value := Array.ofFn (n := 8) fun j => .int .u8 (if j.val < k then ((putByte n j.val).toNat : Int) else 0)
theorem putArr_full (n : BitVec 64) : putArr n 8 = ((put8 n).map fun c => Value.int .u8 (c.toNat : Int)).toArray := rfl
theorem putArr_cell (n : BitVec 64) (k j : Nat) (h : j < 8) : (putArr n k)[j]? = some (.int .u8 (if j < k then ((putByte n j).toNat : Int) else 0)) := by
  unfold putArr; rw [Array.getElem?_ofFn]; simp [h]
theorem putArr_set (n : BitVec 64) (k : Nat) (h : k < 8) : (putArr n k).setIfInBounds k (.int .u8 ((putByte n k).toNat : Int)) = putArr n (k + 1) := by
  apply Array.ext_getElem?
  intro j
  rw [Array.getElem?_setIfInBounds]
  have hs : (putArr n k).size = 8 := by unfold putArr; simp
  by_cases hj : j < 8
  · rw [putArr_cell n k j hj, putArr_cell n (k + 1) j hj]
    by_cases e : k = j
    · subst e; simp [hs, h]
    · by_cases h1 : j < k
      · simp [e, h1]; omega
      · simp [e, h1]; omega
  · have h1 : (putArr n k)[j]? = none := Array.getElem?_eq_none (by omega)
    have hs' : (putArr n (k + 1)).size = 8 := by unfold putArr; simp
    have h2 : (putArr n (k + 1))[j]? = none := Array.getElem?_eq_none (by omega)
    rw [h1, h2]
    by_cases e : k = j
    · omega
    · simp [e]
theorem byte_wrap (x : BitVec 64) : IntKind.u8.wrap (q x) = ((UInt8.ofNat x.toNat).toNat : Int) := by
  unfold q
  simp [IntKind.wrap, IntKind.bits, IntKind.signed]

theorem mk8 (w : World) : (Instr.makeSlice 40 (.int .i64 8) (.int .i64 8)).run Tryz.prog w = .ok (.slice (some ⟨w.heap.size, 0, none⟩) 8 8) (w.alloc (.cells #[.int .u8 0, .int .u8 0, .int .u8 0, .int .u8 0, .int .u8 0, .int .u8 0, .int .u8 0, .int .u8 0] 5)) := by kernel_rfl

set_option maxHeartbeats 800000 in
theorem put_any (n : BitVec 64) (w : World) :
    Calls Tryz.prog 83 #[.int .u64 (q n)] w fun e w' => e = .returned (.slice (some ⟨w.heap.size, 0, none⟩) 8 8) ∧ w'.heap[w.heap.size]? = some (.cells (putArr n 8) 5) ∧ w.grownBy w' none := by
  have hm := mk8 w
  go_enter Tryz.func83, Tryz.ntmps83
  go_wp2_with fail
  clear hm
  go_loopw [8] (fun i wr => ∃ k : Nat, k ≤ 8 ∧ i = .int .i64 (k : Int) ∧ wr.heap[w.heap.size]? = some (.cells (putArr n k) 5) ∧ w.grownBy wr none) (fun i _ => 8 - (intOf i).toNat)
  case atStart => exact ⟨0, by omega, rfl, at_new w _, gb_alloc (.refl w none) _⟩
  case round =>
    obtain ⟨k, hk, rfl, hb, hg⟩ := hrel
    have HB := hid hb; have HG := hid hg; clear hb hg
    by_cases hlt : k < 8
    · have c0 : wr.cell? ⟨w.heap.size, k, none⟩ = some (.int .u8 0) := by rw [at_cell HB.out k, putArr_cell n k k hlt]; simp
      have f0 : wr.frozen? ⟨w.heap.size, k, none⟩ = false := at_free HB.out k
      have hk0 : (0 : Int) ≤ (k : Int) := by omega
      have hk1 : (k : Int) < 8 := by omega
      have hbw := byte_wrap (n >>> (8 * k))
      go_wp2_with fail
      go_roundw
      case rel => exact ⟨k + 1, by omega, by go_num, by rw [← putArr_set n k hlt]; exact at_set HB.out k _, gb_new HG.out (Nat.le_refl _) _⟩
      case measure => simp [intOf]; omega
    · have hk8 : k = 8 := by omega
      subst hk8
      go_wp2_with fail
      go_ret
      exact ⟨rfl, HB.out, HG.out⟩

theorem putArr_at (n : BitVec 64) {w : World} {b : Nat} (h : w.heap[b]? = some (.cells (putArr n 8) 5)) (j : Nat) (hj : j < (put8 n).length) : w.cell? ((⟨b, 0, none⟩ : Addr).add j) = some (.int .u8 (((put8 n)[j]).toNat : Int)) := by
  have e : (⟨b, 0, none⟩ : Addr).add j = ⟨b, j, none⟩ := by unfold Addr.add; split <;> simp_all
  rw [e, at_cell h j, putArr_full]
  simp [List.getElem?_map, List.getElem?_eq_getElem hj]

set_option maxHeartbeats 800000 in
theorem refput_any (n : BitVec 64) (w : World) :
    Calls Tryz.prog 90 #[.int .u64 (q n)] w fun e w' => e = .returned (.string ⟨(put8 n).toArray⟩) ∧ w.grownBy w' none := by
  have hm := mk8 w
  go_enter Tryz.func90, Tryz.ntmps90
  go_wp2_with fail
  clear hm
  go_loopw [4] (fun i wr => ∃ k : Nat, k ≤ 8 ∧ i = .int .i64 (k : Int) ∧ wr.heap[w.heap.size]? = some (.cells (putArr n k) 5) ∧ w.grownBy wr none) (fun i _ => 8 - (intOf i).toNat)
  case atStart => exact ⟨0, by omega, rfl, at_new w _, gb_alloc (.refl w none) _⟩
  case round =>
    obtain ⟨k, hk, rfl, hb, hg⟩ := hrel
    have HB := hid hb; have HG := hid hg; clear hb hg
    by_cases hlt : k < 8
    · have c0 : wr.cell? ⟨w.heap.size, k, none⟩ = some (.int .u8 0) := by rw [at_cell HB.out k, putArr_cell n k k hlt]; simp
      have f0 : wr.frozen? ⟨w.heap.size, k, none⟩ = false := at_free HB.out k
      have hk0 : (0 : Int) ≤ (k : Int) := by omega
      have hk1 : (k : Int) < 8 := by omega
      have hbw := byte_wrap (n >>> (8 * k))
      go_wp2_with fail
      go_roundw
      case rel => exact ⟨k + 1, by omega, by go_num, by rw [← putArr_set n k hlt]; exact at_set HB.out k _, gb_new HG.out (Nat.le_refl _) _⟩
      case measure => simp [intOf]; omega
    · have hk8 : k = 8 := by omega
      subst hk8
      have hcv : (convert 40 9 (.slice (some ⟨w.heap.size, 0, none⟩) 8 8)).run Tryz.prog wr = .ok (.string ⟨(put8 n).toArray⟩) wr :=
        run_convert_bytes_back wr 40 9 5 ⟨w.heap.size, 0, none⟩ 8 (put8 n) Tryz.underlying40 Tryz.underlying5 Tryz.underlying9 (putArr_at n HB.out)
      go_wp2_with fail
      go_ret
      exact ⟨rfl, HG.out⟩
end Go.Proofs.YtfhifnhnkgdnlaaGreat
end
section
namespace Go.Proofs.YtfhifnhnkgdnlaaGreat
set_option maxRecDepth 100000
open Go.RowKit

/-- byte i of a list -/
def byteAt (l : List UInt8) (i : Nat) : UInt8 := l.getD i 0
theorem byteAt_eq {l : List UInt8} {i : Nat} (h : i < l.length) : byteAt l i = l[i] := by simp [byteAt, h]
/-- the number of k bytes from a place on, the lowest first -/
def wordAt (l : List UInt8) (m : Nat) : Nat → BitVec 64
  | 0 => 0
  | k + 1 => wordAt l m k ||| (BitVec.ofNat 64 (byteAt l (m + k)).toNat <<< (8 * k))

theorem wordAt_succ (l : List UInt8) (m k : Nat) : wordAt l m k ||| (BitVec.ofNat 64 (byteAt l (m + k)).toNat <<< (8 * k)) = wordAt l m (k + 1) := rfl
set_option maxHeartbeats 800000 in
theorem get_in (l : List UInt8) (v : Value) (m : Nat) (w : World) (hl : BytesAt w v l) (hm : m + 8 ≤ l.length) :
    Calls Tryz.prog 125 #[v, .int .i64 (m : Int)] w fun e w' => e = .returned (.tuple #[.int .u64 (q (wordAt l m 8)), .int .i64 0]) ∧ w = w' := by
  have hle := hl.le
  unfold maxLen at hle
  obtain ⟨ab, ao, cap, rfl, hc⟩ := hl.cells (by omega)
  have hcap : l.length ≤ cap := by
    rcases hl with ⟨h, _⟩ | ⟨_, _, h, h2, _⟩
    · cases h
    · cases h; exact h2
  have HC := hid hc; clear hc
  have hm0 : (0 : Int) ≤ (m : Int) := by omega
  have hm1 : (m : Int) + 8 ≤ (l.length : Int) := by omega
  have hm2 : (m : Int) + 8 ≤ (cap : Int) := by omega
  have hd1 : decide ((m : Int) < 0) = false := by simp
  have hd2 : decide ((l.length : Int) - 8 < (m : Int)) = false := by simp; omega
  clear hl
  go_enter Tryz.func125, Tryz.ntmps125
  go_wp2_with fail
  go_loop [24, 6] (fun i n => ∃ k : Nat, k ≤ 8 ∧ i = .int .i64 (k : Int) ∧ n = .int .u64 (q (wordAt l m k))) (fun i _ => 8 - (intOf i).toNat)
  case atStart => exact ⟨0, by omega, rfl, rfl⟩
  case round =>
    obtain ⟨k, hk, rfl, rfl⟩ := hrel
    by_cases hlt : k < 8
    · have c0 : w.cell? ⟨ab, ao + m + k, none⟩ = some (.int .u8 (((byteAt l (m + k)).toNat : Nat) : Int)) := by
        have := HC.out (m + k) (by omega)
        rw [show ao + m + k = ao + (m + k) by omega, this]
        rw [byteAt_eq (show m + k < l.length by omega)]
      have hk0 : (0 : Int) ≤ (k : Int) := by omega
      have hk1 : (k : Int) < 8 := by omega
      have hk2 : k < m + 8 - m := by omega
      have hbq := byte_q (byteAt l (m + k))
      have hwd := wordAt_succ l m k
      go_wp2_with fail
      go_round
      case rel => exact ⟨k + 1, by omega, by go_num, rfl⟩
      case measure => simp [intOf]; omega
    · have hk8 : k = 8 := by omega
      subst hk8
      go_wp2_with fail
      go_ret2
      exact ⟨rfl, rfl⟩

theorem byteAt_bytes (s : ByteArray) (i : Nat) (h : i < s.size) : byteAt s.data.toList i = s[i] := by
  rw [byteAt_eq (by simpa using h)]; rfl

set_option maxHeartbeats 800000 in
theorem refget_in (s : ByteArray) (m : Nat) (w : World) (hn : s.size ≤ maxLen) (hm : m + 8 ≤ s.size) :
    Calls Tryz.prog 98 #[.string s, .int .i64 (m : Int)] w fun e w' => e = .returned (.tuple #[.int .u64 (q (wordAt s.data.toList m 8)), .int .i64 0]) ∧ w = w' := by
  unfold maxLen at hn
  have hm0 : (0 : Int) ≤ (m : Int) := by omega
  have hm1 : (m : Int) + 8 ≤ (s.size : Int) := by omega
  have hd1 : decide ((m : Int) < 0) = false := by simp
  have hd2 : decide (s.size < m) = false := by simp; omega
  have hd3 : decide ((s.size : Int) - (m : Int) < 8) = false := by simp; omega
  go_enter Tryz.func98, Tryz.ntmps98
  go_wp2_with fail
  go_loop [7, 6] (fun i n => ∃ k : Nat, k ≤ 8 ∧ i = .int .i64 (k : Int) ∧ n = .int .u64 (q (wordAt s.data.toList m k))) (fun i _ => 8 - (intOf i).toNat)
  case atStart => exact ⟨0, by omega, rfl, rfl⟩
  case round =>
    obtain ⟨k, hk, rfl, rfl⟩ := hrel
    by_cases hlt : k < 8
    · have hk0 : (0 : Int) ≤ (k : Int) := by omega
      have hk1 : (k : Int) < 8 := by omega
      have hk2 : m + k < s.size := by omega
      have hb := byteAt_bytes s (m + k) hk2
      have hbq := byte_q s[m + k]
      have hwd := wordAt_succ s.data.toList m k
      rw [hb] at hwd
      clear hb
      go_wp2_with fail
      go_round
      case rel => exact ⟨k + 1, by omega, by go_num, rfl⟩
      case measure => simp [intOf]; omega
    · have hk8 : k = 8 := by omega
      subst hk8
      go_wp2_with fail
      go_ret2
      exact ⟨rfl, rfl⟩
end Go.Proofs.YtfhifnhnkgdnlaaGreat
end
section
namespace Go.Proofs.YtfhifnhnkgdnlaaGreat
set_option maxRecDepth 100000
open Go.RowKit

/-- a byte as a value -/
def bv (c : UInt8) : Value := .int .u8 (c.toNat : Int)
/-- a slice of the call's own, in a block from 'base' on, that holds these bytes -/
def OwnB (base : Nat) (w : World) (v : Value) (l : List UInt8) : Prop := w.ownsRow base 5 1 v l.length (l.map bv)

theorem OwnB.bytes {base : Nat} {w : World} {v : Value} {l : List UInt8} (h : OwnB base w v l) : BytesAt w v l := by
  obtain ⟨_, h | ⟨g, cap, cur, rfl, _, hh, h1, h2, h3, h4⟩⟩ := h
  · exact .inl ⟨h.1, by simpa using h.2⟩
  · refine .inr ⟨_, cap, rfl, h1, h2, fun i hi => ?_⟩
    have e : (⟨g, 0, none⟩ : Addr).add i = ⟨g, i, none⟩ := by unfold Addr.add; split <;> simp_all
    rw [e, at_cell hh i]
    have hc : cur.toList[i]? = (l.map bv)[i]? := by
      rw [← h4, Nat.mul_one, List.getElem?_take]; simp [hi]
    rw [← Array.getElem?_toList, hc]
    simp [List.getElem?_map, List.getElem?_eq_getElem hi, bv]
theorem OwnB.form {base : Nat} {w : World} {v : Value} {l : List UInt8} (h : OwnB base w v l) : ∃ p c, v = .slice p l.length c := by
  obtain ⟨_, h | ⟨g, cap, cur, rfl, _⟩⟩ := h
  · exact ⟨none, 0, by rw [h.1, h.2]⟩
  · exact ⟨_, _, rfl⟩
theorem OwnB.at {base : Nat} {w : World} {v : Value} {l : List UInt8} (h : OwnB base w v l) : ∀ a n c, v = .slice (some a) n c → base ≤ a.block ∧ a.block < w.heap.size := by
  intro a n c e
  obtain ⟨_, h | ⟨g, cap, cur, rfl, hb, hh, _⟩⟩ := h
  · rw [h.1] at e; cases e
  · cases e; exact ⟨hb, at_lt hh⟩
theorem OwnB.grown {base : Nat} {w w1 : World} {v : Value} {l : List UInt8} {r : Option Nat} (h : OwnB base w v l) (hg : w.grownBy w1 r) (hr : ∀ g, v.ownBlock = some g → some g ≠ r) : OwnB base w1 v l := by
  obtain ⟨h0, h | ⟨g, cap, cur, rfl, hb, hh, h1⟩⟩ := h
  · exact ⟨h0, .inl h⟩
  · exact ⟨h0, .inr ⟨g, cap, cur, rfl, hb, at_grown hh hg (hr g rfl), h1⟩⟩
theorem OwnB.empty (w : World) : OwnB w.heap.size (w.alloc (.cells #[] 5)) (.slice (some ⟨w.heap.size, 0, none⟩) 0 0) [] :=
  ⟨rfl, .inr ⟨w.heap.size, 0, #[], rfl, Nat.le_refl _, at_new w _, Nat.le_refl _, Nat.zero_le _, rfl, rfl⟩⟩
theorem OwnB.nil (base : Nat) (w : World) : OwnB base w (.slice none 0 0) [] := ⟨rfl, .inl ⟨rfl, rfl⟩⟩
theorem OwnB.le {base base' : Nat} {w : World} {v : Value} {l : List UInt8} (h : OwnB base w v l) (hb : base' ≤ base) : OwnB base' w v l := by
  obtain ⟨h0, h | ⟨g, cap, cur, rfl, hb', h1⟩⟩ := h
  · exact ⟨h0, .inl h⟩
  · exact ⟨h0, .inr ⟨g, cap, cur, rfl, Nat.le_trans hb hb', h1⟩⟩

theorem info_u8 : (Tryz.prog.info? 5).map (fun i => (i.zero, i.size, i.bytes)) = some (some (.int .u8 0), 1, 1) := by kernel_rfl
/-- append of bytes to a slice of the call's own -/
theorem append_bytes {w : World} {ops : Array Oper} {rest : List Oper} {o : Oper} {a : Act} {Q : Exit → Act → World → Prop} (hgd : o.guard = none) (s x : Operand)
    (ho : o.op = .call { callee := .builtin .append, args := #[s, x], argTypes := #[40, 40] })
    (base : Nat) (v : Value) (l : List UInt8) (hs : a.eval s = v) (hown : OwnB base w v l) (u : Value) (r : List UInt8) (hx : a.eval x = u) (hr : BytesAt w u r)
    (hlen : l.length + r.length ≤ 1000000) (hbase : base ≤ w.heap.size)
    (h : ∀ v' w', OwnB base w' v' (l ++ r) → w.grownBy w' v.ownBlock → (v'.ownBlock = v.ownBlock ∨ v'.ownBlock = some w.heap.size) → wpList Tryz.prog ops Q rest (a.put o.dst v') w') : wpList Tryz.prog ops Q (o :: rest) a w := by
  obtain ⟨i, hi, hz0, hz1, hz2⟩ := info_parts info_u8
  rcases hr with ⟨rfl, rfl⟩ | ⟨ad, c, rfl, _, _, hc⟩
  · refine wpList_append_own_none hgd s x 40 ho base 5 i 1 Tryz.underlying40 hi v l.length (l.map bv) hs hown hx ?_
    exact h v w (by simpa using hown) (.refl _ _) (.inl rfl)
  · refine wpList_append_own_at w hgd s x 40 ho base 5 i (.int .u8 0) 1 1 Tryz.underlying40 hi hz0 hz1 hz2 rfl (by omega) v l.length (l.map bv) hs hown ad r.length c (r.map bv) hx (by simp)
      (fun j y hj => by
        rw [List.getElem?_map] at hj
        by_cases hlt : j < r.length
        · rw [List.getElem?_eq_getElem hlt] at hj
          cases hj
          exact hc j hlt
        · rw [List.getElem?_eq_none (by omega)] at hj; cases hj)
      (fun y hy => by
        obtain ⟨c, _, rfl⟩ := List.mem_map.1 hy
        rfl)
      (by unfold maxLen; omega) (by omega) hbase ?_
    intro v' w' h1 h2 _ h3
    exact h v' w' (by unfold OwnB; rw [List.length_append, List.map_append]; exact h1) h2 h3

/-- bytes as a string -/
theorem conv_bytes {u : World} {v : Value} {l : List UInt8} (h : BytesAt u v l) : (convert 40 9 v).run Tryz.prog u = .ok (.string ⟨l.toArray⟩) u := by
  rcases h with ⟨rfl, rfl⟩ | ⟨a, cap, rfl, _, _, hc⟩
  · exact run_convert_bytes_nil u 40 5 Tryz.underlying40 Tryz.underlying5 0 0 9 Tryz.underlying9
  · exact run_convert_bytes_back u 40 9 5 a cap l Tryz.underlying40 Tryz.underlying5 Tryz.underlying9 hc
theorem BytesAt.drew {w : World} {v : Value} {l : List UInt8} (h : BytesAt w v l) : BytesAt w.drew v l := h
theorem BytesAt.alloc {w : World} {v : Value} {l : List UInt8} (h : BytesAt w v l) (o : Obj) : BytesAt (w.alloc o) v l := h.grown (World.grownBy_alloc w o none) (by simp)
theorem OwnB.alloc {base : Nat} {w : World} {v : Value} {l : List UInt8} (h : OwnB base w v l) (o : Obj) : OwnB base (w.alloc o) v l := h.grown (World.grownBy_alloc w o none) (by simp)
theorem own_block {w : World} {b base : Nat} (l : List UInt8) (h : w.heap[b]? = some (.cells (l.map bv).toArray 5)) (hl : l.length ≤ maxLen) (hb : base ≤ b) : OwnB base w (.slice (some ⟨b, 0, none⟩) l.length l.length) l :=
  ⟨by simp, .inr ⟨b, l.length, (l.map bv).toArray, rfl, hb, h, Nat.le_refl _, hl, by simp, by rw [Nat.mul_one]; exact List.take_of_length_le (by simp)⟩⟩
theorem gb_own {w w5 wc : World} {base : Nat} {v : Value} {l : List UInt8} (h : w.grownBy w5 none) (ho : OwnB base w5 v l) (hb : w.heap.size ≤ base) (hg : w5.grownBy wc v.ownBlock) : w.grownBy wc none :=
  gb_trans h hg (by
    cases hv : v.ownBlock with
    | none => exact .inl rfl
    | some g =>
      obtain ⟨p, c, rfl⟩ := ho.form
      cases p with
      | none => cases hv
      | some a => exact .inr (.inr ⟨g, rfl, by have := (ho.at a _ _ rfl).1; cases hv; exact Nat.le_trans hb this⟩))
theorem at_own {w5 wc : World} {base b : Nat} {v : Value} {l : List UInt8} {o : Obj} (h : w5.heap[b]? = some o) (ho : OwnB base w5 v l) (hb : b < base) (hg : w5.grownBy wc v.ownBlock) : wc.heap[b]? = some o :=
  at_grown h hg (by
    intro e
    obtain ⟨p, c, rfl⟩ := ho.form
    cases p with
    | none => cases e
    | some a => have h1 := (ho.at a _ _ rfl).1; cases e; exact absurd h1 (Nat.not_le.2 hb))
end Go.Proofs.YtfhifnhnkgdnlaaGreat
end
section
namespace Go.Proofs.YtfhifnhnkgdnlaaGreat
set_option maxRecDepth 100000
open Go.RowKit
theorem wp_gen {C : Program} {c : Code} {Q : Exit → Act → World → Prop} {a : Act} {w : World} (P : World → Prop) (h : P w) (k : ∀ wx, P wx → Code.wp C c Q a wx) : Code.wp C c Q a w := k w h
end Go.Proofs.YtfhifnhnkgdnlaaGreat
end
section
set_option linter.unusedSimpArgs false
namespace Go.Proofs.YtfhifnhnkgdnlaaGreat
set_option maxRecDepth 100000
open Go.RowKit

/-- a pair of numbers -/
abbrev pair (a b : BitVec 64) : Value := .agg #[.int .u64 (q a), .int .u64 (q b)]
def inv (x : BitVec 64) : BitVec 64 := x ^^^ BitVec.allOnes 64
theorem q_inv (x : BitVec 64) : bits .xor .u64 IntKind.u64.max (q x) = q (inv x) := by
  rw [show IntKind.u64.max = q (BitVec.allOnes 64) by decide +kernel, q_xor, BitVec.xor_comm]; rfl

set_option maxHeartbeats 800000 in
theorem second_any (k0 k1 : BitVec 64) (w : World) :
    Calls Tryz.prog 86 #[pair k0 k1] w fun e w' => e = .returned (pair k1 (inv k0)) ∧ w.grownBy w' none := by
  rw [pair, inv]
  go_enter Tryz.func86, Tryz.ntmps86
  go_wp2_with fail
  exact bodyPost_ret (v := pair k1 (inv k0)) (by rw [q_inv]; simp [results, Tryz.results86, go_sem]) rfl ⟨rfl, gb_alloc (gb_alloc (.refl w none) _) _⟩

theorem pair_cells {w : World} {b : Nat} {t : TypeId} {x y : BitVec 64} (h : w.heap[b]? = some (.cells #[.int .u64 (q x), .int .u64 (q y)] t)) :
    w.cell? ⟨b, 0, none⟩ = some (.int .u64 (q x)) ∧ w.cell? ⟨b, 1, none⟩ = some (.int .u64 (q y)) := ⟨at_cell h 0, at_cell h 1⟩

/-- the function's own two blocks: what came in, what goes out; all else as it was, or new -/
structure Box (w : World) (k0 k1 : BitVec 64) (t t' : TypeId) (w' : World) : Prop where
  box : w'.heap[w.heap.size]? = some (.cells #[.int .u64 (q k0), .int .u64 (q k1)] t)
  ans : ∃ x y, w'.heap[w.heap.size + 1]? = some (.cells #[x, y] t')
  g : w.grownBy w' none
theorem Box.grown {w : World} {k0 k1 : BitVec 64} {t t' : TypeId} {w1 w2 : World} (h : Box w k0 k1 t t' w1) (hg : w1.grownBy w2 none) : Box w k0 k1 t t' w2 :=
  ⟨at_grown h.box hg (by simp), by obtain ⟨x, y, h⟩ := h.ans; exact ⟨x, y, at_grown h hg (by simp)⟩, gb_trans h.g hg (.inl rfl)⟩
theorem Box.drew {w : World} {k0 k1 : BitVec 64} {t t' : TypeId} {w1 : World} (h : Box w k0 k1 t t' w1) : Box w k0 k1 t t' w1.drew := ⟨h.box, h.ans, gb_drew h.g⟩
theorem Box.alloc {w : World} {k0 k1 : BitVec 64} {t t' : TypeId} {w1 : World} (h : Box w k0 k1 t t' w1) (o : Obj) : Box w k0 k1 t t' (w1.alloc o) := h.grown (World.grownBy_alloc w1 o none)
theorem Box.set0 {w : World} {k0 k1 : BitVec 64} {t t' : TypeId} {w1 : World} (h : Box w k0 k1 t t' w1) (v : Value) : Box w k0 k1 t t' (w1.setCell ⟨w.heap.size + 1, 0, none⟩ v) :=
  ⟨at_set_other h.box (by simp) v, by obtain ⟨x, y, hxy⟩ := h.ans; exact ⟨v, y, at_set hxy 0 v⟩, gb_new h.g (by simp) v⟩
theorem Box.set1 {w : World} {k0 k1 : BitVec 64} {t t' : TypeId} {w1 : World} (h : Box w k0 k1 t t' w1) (v : Value) : Box w k0 k1 t t' (w1.setCell ⟨w.heap.size + 1, 1, none⟩ v) :=
  ⟨at_set_other h.box (by simp) v, by obtain ⟨x, y, hxy⟩ := h.ans; exact ⟨x, v, at_set hxy 1 v⟩, gb_new h.g (by simp) v⟩
theorem Box.store {w : World} {k0 k1 : BitVec 64} {t t' : TypeId} {w1 : World} (h : Box w k0 k1 t t' w1) (a b : Value) :
    ((w1.setCell ⟨w.heap.size + 1, 0, none⟩ a).setCell ⟨w.heap.size + 1, 1, none⟩ b).heap[w.heap.size + 1]? = some (.cells #[a, b] t') ∧ w.grownBy ((w1.setCell ⟨w.heap.size + 1, 0, none⟩ a).setCell ⟨w.heap.size + 1, 1, none⟩ b) none := by
  obtain ⟨x, y, hxy⟩ := h.ans
  exact ⟨at_set (at_set hxy 0 a) 1 b, ((h.set0 a).set1 b).g⟩
theorem Box.keep {w : World} {k0 k1 : BitVec 64} {t t' : TypeId} {w' : World} (h : Box w k0 k1 t t' w') :
    w'.cell? ⟨w.heap.size, 0, none⟩ = some (.int .u64 (q k0)) ∧ w'.cell? ⟨w.heap.size, 1, none⟩ = some (.int .u64 (q k1)) ∧ Box w k0 k1 t t' w' := ⟨at_cell h.box 0, at_cell h.box 1, h⟩
section
variable {P Q : Prop} {w wc : World} {k0 k1 : BitVec 64} {t t' : TypeId} {v : Value} {l : List UInt8}
theorem box_bytes (h : P ∧ Q ∧ Box w k0 k1 t t' wc) (hx : BytesAt w v l) : BytesAt wc v l := hx.grown h.2.2.g (by simp)
theorem box_box (h : P ∧ Q ∧ Box w k0 k1 t t' wc) : Box w k0 k1 t t' wc := h.2.2
theorem box_ans {w2 : World} (h : P ∧ Q ∧ Box w k0 k1 t t' wc) (hg : wc.grownBy w2 none) : ∃ x y, w2.cell? ⟨w.heap.size + 1, 0, none⟩ = some x ∧ w2.cell? ⟨w.heap.size + 1, 1, none⟩ = some y ∧ w2.frozen? ⟨w.heap.size + 1, 0, none⟩ = false ∧ w2.frozen? ⟨w.heap.size + 1, 1, none⟩ = false := by
  obtain ⟨x, y, hxy⟩ := (h.2.2.grown hg).ans
  exact ⟨x, y, at_cell hxy 0, at_cell hxy 1, at_free hxy 0, at_free hxy 1⟩
end

set_option maxHeartbeats 1600000 in
theorem tag_any (k0 k1 : BitVec 64) (v : Value) (l : List UInt8) (w : World) (hl : BytesAt w v l) :
    Calls Tryz.prog 37 #[pair k0 k1, v] w fun e w' => e = .returned (pair (sumOf k0 k1 l) (sumOf k1 (inv k0) l)) ∧ w.grownBy w' none := by
  have HL := hid hl; clear hl
  go_enter Tryz.func37, Tryz.ntmps37
  go_wp2_with fail
  have hb : Box w k0 k1 49 83 ((w.alloc (.cells #[.int .u64 (q k0), .int .u64 (q k1)] 49)).alloc (.cells #[.int .u64 0, .int .u64 0] 83)) :=
    ⟨at_alloc (at_new w _) _, ⟨_, _, at_new2 w _ _⟩, gb_alloc (gb_alloc (.refl w none) _) _⟩
  have HB := hid hb; clear hb
  have hh := HB.out.keep
  go_region_held3 (fun w' => w'.cell? ⟨w.heap.size, 0, none⟩ = some (.int .u64 (q k0)) ∧ w'.cell? ⟨w.heap.size, 1, none⟩ = some (.int .u64 (q k1)) ∧ Box w k0 k1 49 83 w')
    ((refine Box.keep (t := 49) (t' := 83) ?_; (repeat (first | assumption | with_reducible exact HB.out | with_reducible refine Box.drew ?_ | with_reducible refine Box.set1 ?_ _ | with_reducible refine Box.set0 ?_ _ | exact box_box (by assumption) | with_reducible refine Box.grown ?_ (by assumption)))))
    (first
      | (go_at_call 86; (with_reducible refine (second_any k0 k1 _).mono ?_); rintro e w1 ⟨rfl, hg1⟩)
      | (go_at_call 85; (with_reducible refine (sum_any k0 k1 l v _ (box_bytes (by assumption) HL.out)).mono ?_); rintro e wa ⟨rfl, hga⟩)
      | (go_at_call 85; (with_reducible refine (sum_any k1 (inv k0) l v _ (box_bytes (by assumption) HL.out)).mono ?_); rintro e wb ⟨rfl, hgb⟩; obtain ⟨x, y, c0, c1, f0, f1⟩ := box_ans (by assumption) hgb; have hB := Box.grown (box_box (by assumption)) hgb))
  refine exit_gen (fun wx => wx.heap[w.heap.size + 1]? = some (.cells #[.int .u64 (q (sumOf k0 k1 l)), .int .u64 (q (sumOf k1 (inv k0) l))] 83) ∧ w.grownBy wx none) (hB.store _ _) ?_
  clear hB c0 c1 f0 f1 hga hg1 hgb hh
  intro wx ⟨hA, hG⟩
  have HA := hid hA; have HG := hid hG; clear hA hG
  obtain ⟨d0, d1⟩ := pair_cells HA.out
  go_wp2_with fail
  exact bodyPost_ret (v := pair (sumOf k0 k1 l) (sumOf k1 (inv k0) l)) (by simp [results, Tryz.results37, go_sem, d0, d1]) rfl ⟨rfl, HG.out⟩
end Go.Proofs.YtfhifnhnkgdnlaaGreat
end
section
namespace Go.Proofs.YtfhifnhnkgdnlaaGreat
set_option maxRecDepth 100000
open Go.RowKit

theorem run_append_bytes {w : World} {ty : TypeId} (base : Nat) (v : Value) (l : List UInt8) (hown : OwnB base w v l) (u : Value) (r : List UInt8) (hr : BytesAt w u r) (hlen : l.length + r.length ≤ 1000000) (hbase : base ≤ w.heap.size) :
    ∃ v' w', (Builtin.append_ #[40, 40] ty #[v, u]).run Tryz.prog w = .ok v' w' ∧ OwnB base w' v' (l ++ r) ∧ w.grownBy w' v.ownBlock ∧ (v'.ownBlock = v.ownBlock ∨ v'.ownBlock = some w.heap.size) := by
  obtain ⟨i, hi, hz0, hz1, hz2⟩ := info_parts info_u8
  rcases hr with ⟨rfl, rfl⟩ | ⟨ad, c, rfl, _, _, hc⟩
  · exact ⟨v, w, run_append_owned_none (P := Tryz.prog) (w := w) base 40 ty 5 i 1 Tryz.underlying40 hi v l.length (l.map bv) hown, by simpa using hown, .refl _ _, .inl rfl⟩
  · obtain ⟨v', w', h0, h1, h2, _, h3⟩ := run_append_own_at (P := Tryz.prog) w base 40 ty 5 i (.int .u8 0) 1 1 Tryz.underlying40 hi hz0 hz1 hz2 rfl (by omega) v l.length (l.map bv) hown ad r.length c (r.map bv) (by simp)
      (fun j y hj => by
        rw [List.getElem?_map] at hj
        by_cases hlt : j < r.length
        · rw [List.getElem?_eq_getElem hlt] at hj
          cases hj
          exact hc j hlt
        · rw [List.getElem?_eq_none (by omega)] at hj; cases hj)
      (fun y hy => by
        obtain ⟨c, _, rfl⟩ := List.mem_map.1 hy
        rfl)
      (by unfold maxLen; omega) (by omega) hbase
    exact ⟨v', w', h0, by unfold OwnB; rw [List.length_append, List.map_append]; exact h1, h2, h3⟩

theorem wp_append_bytes {w : World} {o : Oper} {a : Act} {K : Act → World → Prop} {Q : Exit → Act → World → Prop} (s x : Operand)
    (ho : o.op = .call { callee := .builtin .append, args := #[s, x], argTypes := #[40, 40] })
    (base : Nat) (v : Value) (l : List UInt8) (hs : a.eval s = v) (hown : OwnB base w v l) (u : Value) (r : List UInt8) (hx : a.eval x = u) (hr : BytesAt w u r)
    (hlen : l.length + r.length ≤ 1000000) (hbase : base ≤ w.heap.size)
    (h : ∀ v' w', OwnB base w' v' (l ++ r) → w.grownBy w' v.ownBlock → (v'.ownBlock = v.ownBlock ∨ v'.ownBlock = some w.heap.size) → K (a.put o.dst v') w') : o.wp Tryz.prog a w K Q := by
  obtain ⟨v', w', hrun, h1, h2, h3⟩ := run_append_bytes (ty := o.type) base v l hown u r hr hlen hbase
  unfold Oper.wp execOp
  simp only [ho, resolve, invoke, builtin, Sem.run_bind, Sem.run_pure, Result.andThen_ok, List.map_toArray, List.map_cons, List.map_nil, hs, hx, hrun]
  exact h v' w' h1 h2 h3

theorem step_append_bytes {w : World} {ops : Array Oper} {o : Oper} {a : Act} {K : Act → World → Prop} {Q : Exit → Act → World → Prop} {E : Prop} (hw : Region.wanted o (yielded ops a.tmps) = true) (s x : Operand)
    (ho : o.op = .call { callee := .builtin .append, args := #[s, x], argTypes := #[40, 40] })
    (base : Nat) (v : Value) (l : List UInt8) (hs : a.eval s = v) (hown : OwnB base w v l) (u : Value) (r : List UInt8) (hx : a.eval x = u) (hr : BytesAt w u r)
    (hlen : l.length + r.length ≤ 1000000) (hbase : base ≤ w.heap.size)
    (h : ∀ v' w', OwnB base w' v' (l ++ r) → w.grownBy w' v.ownBlock → (v'.ownBlock = v.ownBlock ∨ v'.ownBlock = some w.heap.size) → K (a.put o.dst v') w') :
    if Region.wanted o (yielded ops a.tmps) = true then Oper.wp Tryz.prog o a w K Q else E := by
  rw [if_pos hw]
  exact wp_append_bytes s x ho base v l hs hown u r hx hr hlen hbase h
end Go.Proofs.YtfhifnhnkgdnlaaGreat
end
section
set_option linter.unusedSimpArgs false
namespace Go.Proofs.YtfhifnhnkgdnlaaGreat
set_option maxRecDepth 100000
open Go.RowKit

theorem own_put {w : World} {b base : Nat} (n : BitVec 64) (h : w.heap[b]? = some (.cells (putArr n 8) 5)) (hb : base ≤ b) : OwnB base w (.slice (some ⟨b, 0, none⟩) 8 8) (put8 n) :=
  own_block (put8 n) (by rw [h, putArr_full]; rfl) (by rw [put8_length]; unfold maxLen; decide) hb
/-- the function's own block: what came in; all else as it was, or new -/
structure Boxb (w : World) (x y : BitVec 64) (t : TypeId) (w' : World) : Prop where
  box : w'.heap[w.heap.size]? = some (.cells #[.int .u64 (q x), .int .u64 (q y)] t)
  g : w.grownBy w' none
theorem Boxb.grown {w : World} {x y : BitVec 64} {t : TypeId} {w1 w2 : World} (h : Boxb w x y t w1) (hg : w1.grownBy w2 none) : Boxb w x y t w2 := ⟨at_grown h.box hg (by simp), gb_trans h.g hg (.inl rfl)⟩
theorem Boxb.drew {w : World} {x y : BitVec 64} {t : TypeId} {w1 : World} (h : Boxb w x y t w1) : Boxb w x y t w1.drew := ⟨h.box, gb_drew h.g⟩
theorem Boxb.size {w : World} {x y : BitVec 64} {t : TypeId} {w1 : World} (h : Boxb w x y t w1) : w.heap.size + 1 ≤ w1.heap.size := at_lt h.box
theorem Boxb.own {w : World} {x y : BitVec 64} {t : TypeId} {w1 w2 : World} {v : Value} {l : List UInt8} (h : Boxb w x y t w1) (ho : OwnB (w.heap.size + 1) w1 v l) (hg : w1.grownBy w2 v.ownBlock) : Boxb w x y t w2 :=
  ⟨at_own h.box ho (by omega) hg, gb_own h.g ho (by omega) hg⟩
theorem Boxb.keep {w : World} {x y : BitVec 64} {t : TypeId} {w' : World} (h : Boxb w x y t w') :
    w'.cell? ⟨w.heap.size, 0, none⟩ = some (.int .u64 (q x)) ∧ w'.cell? ⟨w.heap.size, 1, none⟩ = some (.int .u64 (q y)) ∧ Boxb w x y t w' := ⟨at_cell h.box 0, at_cell h.box 1, h⟩
section
variable {P Q : Prop} {w wc : World} {x y : BitVec 64} {t : TypeId}
theorem boxb_box (h : P ∧ Q ∧ Boxb w x y t wc) : Boxb w x y t wc := h.2.2
end

set_option maxHeartbeats 1600000 in
theorem bytes_any (t0 t1 : BitVec 64) (w : World) :
    Calls Tryz.prog 79 #[pair t0 t1] w fun e w' => ∃ v, e = .returned v ∧ OwnB w.heap.size w' v (put8 t0 ++ put8 t1) ∧ w.grownBy w' none := by
  go_enter Tryz.func79, Tryz.ntmps79
  go_wp2_with fail
  have hb : Boxb w t0 t1 83 (w.alloc (.cells #[.int .u64 (q t0), .int .u64 (q t1)] 83)) := ⟨at_new w _, gb_alloc (.refl w none) _⟩
  have HB := hid hb
  obtain ⟨k0, k1, _⟩ := hb.keep
  clear hb
  have hs : (w.alloc (.cells #[.int .u64 (q t0), .int .u64 (q t1)] 83)).drew.heap.size = w.heap.size + 1 := size_alloc _ _
  go_region_held3 (fun w' => w'.cell? ⟨w.heap.size, 0, none⟩ = some (.int .u64 (q t0)) ∧ w'.cell? ⟨w.heap.size, 1, none⟩ = some (.int .u64 (q t1)) ∧ Boxb w t0 t1 83 w')
    ((refine Boxb.keep (t := 83) ?_; (repeat (first | assumption | with_reducible exact HB.out | with_reducible refine Boxb.drew ?_ | exact boxb_box (by assumption) | with_reducible refine Boxb.grown ?_ (by assumption)))))
    (first
      | (go_at_call 83; (with_reducible refine (put_any t0 _).mono ?_); rintro e wa ⟨rfl, ha, hga⟩; rw [hs] at ha; have oa := own_put t0 ha (Nat.le_refl _))
      | (go_at_call 83; (with_reducible refine (put_any t1 _).mono ?_); rintro e wb ⟨rfl, hb, hgb⟩; have ob := own_put t1 hb (Boxb.size (boxb_box (by assumption))))
      | (refine step_append_bytes (by rfl) _ _ (by rfl) (w.heap.size + 1) _ (put8 t0) (by rfl) (by first | assumption | exact OwnB.grown (by assumption) (by assumption) (by simp)) _ (put8 t1) (by rfl) (OwnB.bytes (by assumption)) (by simp [put8_length]) (Boxb.size (boxb_box (by assumption))) ?_; intro v1 w6 hown1 hgrow1 hat1; have g6 := Boxb.own (boxb_box (by assumption)) (by first | assumption | exact OwnB.grown (by assumption) (by assumption) (by simp)) hgrow1))
  clear hs k0 k1 HB
  go_wp2_with fail
  go_ret
  exact ⟨v1, rfl, hown1.le (by omega), g6.g⟩

theorem same_bits (t0 t1 u0 u1 : BitVec 64) : (q (t0 ^^^ u0 ||| t1 ^^^ u1) == 0) = (t0 == u0 && t1 == u1) := by
  rw [show (0 : Int) = q 0#64 by decide +kernel, q_beq]
  by_cases h0 : t0 = u0
  · by_cases h1 : t1 = u1
    · subst h0; subst h1; simp
    · subst h0
      have : ¬ (t1 ^^^ u1 = 0#64) := fun e => h1 (BitVec.xor_eq_zero_iff.1 e)
      rw [BitVec.xor_self, BitVec.zero_or, beq_eq_false_iff_ne.2 this, beq_eq_false_iff_ne.2 h1]; simp
  · have : ¬ (t0 ^^^ u0 = 0#64) := fun e => h0 (BitVec.xor_eq_zero_iff.1 e)
    have h2 : ¬ ((t0 ^^^ u0) ||| (t1 ^^^ u1) = 0#64) := fun e => this (BitVec.or_eq_zero_iff.1 e).1
    rw [beq_eq_false_iff_ne.2 h2]; simp [h0]

set_option maxHeartbeats 1600000 in
theorem same_any (t0 t1 u0 u1 : BitVec 64) (w : World) :
    Calls Tryz.prog 36 #[pair t0 t1, pair u0 u1] w fun e w' => e = .returned (.bool (t0 == u0 && t1 == u1)) ∧ w.grownBy w' none := by
  rw [← same_bits]
  go_enter Tryz.func36, Tryz.ntmps36
  go_wp2_with fail
  go_ret
  exact ⟨rfl, gb_alloc (gb_alloc (.refl w none) _) _⟩
end Go.Proofs.YtfhifnhnkgdnlaaGreat
end
section
set_option linter.unusedSimpArgs false
namespace Go.Proofs.YtfhifnhnkgdnlaaGreat
set_option maxRecDepth 100000
open Go.RowKit

/-- the words of a tag that were taken out so far -/
def half (a b : BitVec 64) (k : Nat) : Array Value := #[.int .u64 (if 0 < k then q a else 0), .int .u64 (if 1 < k then q b else 0)]
theorem get_0 (l : List UInt8) (v : Value) (a : BitVec 64) (ha : wordAt l 0 8 = a) (w : World) (hl : BytesAt w v l) (hn : l.length = 16) :
    Calls Tryz.prog 125 #[v, .int .i64 0] w fun e w' => e = .returned (.tuple #[.int .u64 (q a), .int .i64 0]) ∧ w = w' := by
  subst ha; exact get_in l v 0 w hl (by omega)
theorem get_8 (l : List UInt8) (v : Value) (a : BitVec 64) (ha : wordAt l 8 8 = a) (w : World) (hl : BytesAt w v l) (hn : l.length = 16) :
    Calls Tryz.prog 125 #[v, .int .i64 8] w fun e w' => e = .returned (.tuple #[.int .u64 (q a), .int .i64 0]) ∧ w = w' := by
  subst ha; exact get_in l v 8 w hl (by omega)

set_option maxHeartbeats 1600000 in
theorem from_words (l : List UInt8) (a b : BitVec 64) (hwa : wordAt l 0 8 = a) (hwb : wordAt l 8 8 = b) (p : Option Addr) (c : Nat) (hn : l.length = 16) (w : World) (hl : BytesAt w (.slice p 16 c) l) :
    Calls Tryz.prog 93 #[.slice p 16 c] w fun e w' => e = .returned (.tuple #[pair a b, .int .i64 0]) ∧ w.grownBy w' none := by
  have HL := hid hl; have HWA := hid hwa; have HWB := hid hwb; clear hl hwa hwb
  have HN := hid hn; clear hn
  go_enter Tryz.func93, Tryz.ntmps93
  go_wp2_with fail
  go_loopw [10] (fun i wr => ∃ k : Nat, (k = 0 ∨ k = 1 ∨ k = 2) ∧ i = .int .i64 (k : Int) ∧ wr.heap[w.heap.size + 1]? = some (.cells (half a b k) 83) ∧ wr.heap[w.heap.size]? = some (.cells #[.int .u64 0, .int .u64 0] 83) ∧ w.grownBy wr none) (fun i _ => 2 - (intOf i).toNat)
  case atStart => exact ⟨0, .inl rfl, rfl, at_new2 w _ _, at_alloc (at_new w _) _, gb_alloc (gb_alloc (.refl w none) _) _⟩
  case round =>
    obtain ⟨k, hk, rfl, hb, ha, hg⟩ := hrel
    have HB := hid hb; have HA := hid ha; have HG := hid hg; clear hb ha hg
    have c0 : wr.cell? ⟨w.heap.size + 1, 0, none⟩ = some _ := at_cell HB.out 0
    have c1 : wr.cell? ⟨w.heap.size + 1, 1, none⟩ = some _ := at_cell HB.out 1
    have f0 : wr.frozen? ⟨w.heap.size + 1, 0, none⟩ = false := at_free HB.out 0
    have f1 : wr.frozen? ⟨w.heap.size + 1, 1, none⟩ = false := at_free HB.out 1
    rcases hk with rfl | rfl | rfl
    · go_wp2_with fail
      with_reducible refine (get_0 l _ a HWA.out _ (HL.out.grown HG.out (by simp)) HN.out).mono ?_
      rintro e w1 ⟨rfl, rfl⟩
      go_wp2_with fail
      go_roundw
      case rel => exact ⟨1, by simp, by go_num, at_set HB.out 0 _, at_set_other HA.out (by simp) _, gb_new HG.out (by simp) _⟩
      case measure => simp [intOf]
    · go_wp2_with fail
      with_reducible refine (get_8 l _ b HWB.out _ (HL.out.grown HG.out (by simp)) HN.out).mono ?_
      rintro e w1 ⟨rfl, rfl⟩
      go_wp2_with fail
      go_roundw
      case rel => exact ⟨2, by simp, by go_num, at_set HB.out 1 _, at_set_other HA.out (by simp) _, gb_new HG.out (by simp) _⟩
      case measure => simp [intOf]
    · clear c0 c1
      have c0 : wr.cell? ⟨w.heap.size + 1, 0, none⟩ = some (.int .u64 (q a)) := at_cell HB.out 0
      have c1 : wr.cell? ⟨w.heap.size + 1, 1, none⟩ = some (.int .u64 (q b)) := at_cell HB.out 1
      have a0 : wr.cell? ⟨w.heap.size, 0, none⟩ = some (.int .u64 0) := at_cell HA.out 0
      have a1 : wr.cell? ⟨w.heap.size, 1, none⟩ = some (.int .u64 0) := at_cell HA.out 1
      have g0 : wr.frozen? ⟨w.heap.size, 0, none⟩ = false := at_free HA.out 0
      have g1 : wr.frozen? ⟨w.heap.size, 1, none⟩ = false := at_free HA.out 1
      go_wp2_with fail
      have hr := at_set (at_set HA.out 0 (.int .u64 (q a))) 1 (.int .u64 (q b))
      have hg2 : w.grownBy _ none := gb_new (gb_new HG.out (p := ⟨w.heap.size, 0, none⟩) (by simp) (.int .u64 (q a))) (p := ⟨w.heap.size, 1, none⟩) (by simp) (.int .u64 (q b))
      generalize (wr.setCell ⟨w.heap.size, 0, none⟩ (.int .u64 (q a))).setCell ⟨w.heap.size, 1, none⟩ (.int .u64 (q b)) = wx at hr hg2 ⊢
      obtain ⟨r0, r1⟩ := pair_cells hr
      exact bodyPost_ret (v := .tuple #[pair a b, .int .i64 0]) (by simp [results, Tryz.results93, go_sem, r0, r1]) rfl ⟨rfl, hg2⟩

end Go.Proofs.YtfhifnhnkgdnlaaGreat
end
section
set_option linter.unusedSimpArgs false
namespace Go.Proofs.YtfhifnhnkgdnlaaGreat
set_option maxRecDepth 100000
open Go.RowKit

theorem add_u32 (a : Addr) (x x1 : Int) (he : x + 1 = x1) (w : World) (hc : w.cell? a = some (.int .u32 x)) (hz : w.frozen? a = false) (h0 : 0 ≤ x) (h1 : x < 100) :
    Calls Tryz.prog 106 #[.pointer (some a), .int .u32 1] w fun e w' => e = .returned (.int .u32 x1) ∧ w' = w.setCell a (.int .u32 x1) := by
  subst he
  have hadd := run_call_add (P := Tryz.prog) Tryz.func127 (by kernel_rfl) (by kernel_rfl) (by kernel_rfl) .u32 (by kernel_rfl) (y := 1) (s := x + 1) hc hz (by simp [go_sem, IntKind.wrap, IntKind.bits, IntKind.signed]; omega)
  go_enter Tryz.func106, Tryz.ntmps106
  go_wp2
  go_ret
  exact ⟨rfl, rfl⟩

/-- a derivation under way: m words were told -/
def derObj (k0 k1 : BitVec 64) (s : ByteArray) (n : BitVec 64) (m : Int) : Obj := .cells #[.int .u64 (q k0), .int .u64 (q k1), .string s, .int .u64 (q n), .int .u32 m] 181
theorem der_cells {w : World} {b : Nat} {k0 k1 : BitVec 64} {s : ByteArray} {n : BitVec 64} {m : Int} (h : w.heap[b]? = some (derObj k0 k1 s n m)) :
    w.cell? ⟨b, 0, none⟩ = some (.int .u64 (q k0)) ∧ w.cell? ⟨b, 1, none⟩ = some (.int .u64 (q k1)) ∧ w.cell? ⟨b, 2, none⟩ = some (.string s) ∧ w.cell? ⟨b, 3, none⟩ = some (.int .u64 (q n)) ∧ w.cell? ⟨b, 4, none⟩ = some (.int .u32 m) ∧ w.frozen? ⟨b, 4, none⟩ = false :=
  ⟨at_cell h 0, at_cell h 1, at_cell h 2, at_cell h 3, at_cell h 4, at_free h 4⟩
/-- '[]byte(s)': the string's bytes, in a block of their own -/
theorem conv_string (s : ByteArray) (hs : s.size ≤ 100000) (w : World) :
    ∃ c w', (convert 9 40 (.string s)).run Tryz.prog w = .ok (.slice (some ⟨w.heap.size, 0, none⟩) s.size c) w' ∧ BytesAt w' (.slice (some ⟨w.heap.size, 0, none⟩) s.size c) s.data.toList ∧ w.grownBy w' none := by
  refine ⟨_, _, run_bytes_of_string w 9 40 5 s Tryz.underlying9 Tryz.underlying40 Tryz.underlying5, ?_, gb_alloc (gb_drew (.refl w none)) _⟩
  have hl : s.data.toList.length = s.size := by simp
  refine .inr ⟨_, _, by rw [hl], by rw [hl]; exact grownCap_ge _ _ _ _, grownCap_le_maxLen _ _ _ _ (by unfold maxLen; omega), fun i hi => ?_⟩
  have e : (⟨w.heap.size, 0, none⟩ : Addr).add i = ⟨w.heap.size, i, none⟩ := by unfold Addr.add; split <;> simp_all
  rw [e, at_cell (b := w.heap.size) (at_new w.drew _) i, bytesRow_at s _ i (by simpa using hi)]
  simp

theorem Box.row {w : World} {k0 k1 : BitVec 64} {t t' : TypeId} {w1 w2 : World} (h : Box w k0 k1 t t' w1) (hg : w1.grownBy w2 (some (w.heap.size + 1 + 1))) : Box w k0 k1 t t' w2 :=
  ⟨at_grown h.box hg (by simp; omega), by obtain ⟨x, y, h⟩ := h.ans; exact ⟨x, y, at_grown h hg (by simp)⟩, gb_trans h.g hg (.inr (.inr ⟨_, rfl, by omega⟩))⟩

/-- a block of bytes -/
theorem bytes_of_cells {w : World} {b : Nat} {t : TypeId} {f : Nat × Nat} (l : List UInt8) (h : w.heap[b]? = some (.cells (l.map fun c => Value.int .u8 (c.toNat : Int)).toArray t f)) (hl : l.length ≤ maxLen) : BytesAt w (.slice (some ⟨b, 0, none⟩) l.length l.length) l := by
  refine .inr ⟨_, _, rfl, Nat.le_refl _, hl, fun i hi => ?_⟩
  have e : (⟨b, 0, none⟩ : Addr).add i = ⟨b, i, none⟩ := by unfold Addr.add; split <;> simp_all
  rw [e, at_cell h i]
  simp [List.getElem?_map, List.getElem?_eq_getElem hi]

/-- a hash under way behind a derivation under way -/
structure Nx (w : World) (b : Nat) (k0 k1 : BitVec 64) (s : ByteArray) (n : BitVec 64) (m : Int) (st : St) (wc : World) : Prop where
  lt : b < w.heap.size
  hh : wc.heap[w.heap.size + 1]? = some st.obj
  hb : wc.heap[b]? = some (derObj k0 k1 s n m)
  g : w.grownBy wc (some b)
theorem Nx.grown {w : World} {b : Nat} {k0 k1 : BitVec 64} {s : ByteArray} {n : BitVec 64} {m : Int} {st : St} {wc wd : World} (h : Nx w b k0 k1 s n m st wc) (hg : wc.grownBy wd none) : Nx w b k0 k1 s n m st wd :=
  ⟨h.lt, at_grown h.hh hg (by simp), at_grown h.hb hg (by simp), gb_trans h.g hg (.inl rfl)⟩
theorem Nx.write {w : World} {b : Nat} {k0 k1 : BitVec 64} {s : ByteArray} {n : BitVec 64} {m : Int} {st st' : St} {wc wd : World} (h : Nx w b k0 k1 s n m st wc) (hh : wd.heap[w.heap.size + 1]? = some st'.obj) (hg : wc.grownBy wd (some (w.heap.size + 1))) : Nx w b k0 k1 s n m st' wd :=
  ⟨h.lt, hh, at_grown h.hb hg (by have := h.lt; simp; omega), gb_trans h.g hg (.inr (.inr ⟨_, rfl, by omega⟩))⟩
theorem Nx.told {w : World} {b : Nat} {k0 k1 : BitVec 64} {s : ByteArray} {n : BitVec 64} {m : Int} {st : St} {wc : World} (h : Nx w b k0 k1 s n m st wc) (m1 : Int) : Nx w b k0 k1 s n m1 st (wc.setCell ⟨b, 4, none⟩ (.int .u32 m1)) :=
  ⟨h.lt, at_set_other h.hh (by have := h.lt; simp; omega) _, at_set h.hb 4 _, gb_row h.g rfl _⟩
theorem Nx.size {w : World} {b : Nat} {k0 k1 : BitVec 64} {s : ByteArray} {n : BitVec 64} {m : Int} {st : St} {wc : World} (h : Nx w b k0 k1 s n m st wc) : w.heap.size + 1 < wc.heap.size := at_lt h.hh

set_option maxHeartbeats 3200000 in
theorem next_at (b : Nat) (k0 k1 : BitVec 64) (s : ByteArray) (n : BitVec 64) (m m1 : Int) (mb : UInt8) (he : m + 1 = m1) (h0 : 0 ≤ m) (h1 : m < 100) (hw : IntKind.u8.wrap m1 = (mb.toNat : Int)) (hs : s.size ≤ 100000) (w : World) (hb : w.heap[b]? = some (derObj k0 k1 s n m)) :
    Calls Tryz.prog 113 #[.pointer (some ⟨b, 0, none⟩)] w fun e w' => e = .returned (.int .u64 (q (sumOf k0 k1 (s.data.toList ++ [mb] ++ put8 n)))) ∧ w'.heap[b]? = some (derObj k0 k1 s n m1) ∧ w.grownBy w' (some b) := by
  obtain ⟨l, hl⟩ : ∃ l, s.data.toList = l := ⟨_, rfl⟩
  rw [hl]
  have hbl := at_lt hb
  have HLL := hid hl; clear hl
  have HB := hid hb; have HE := hid he; clear hb he
  obtain ⟨c0, c1, c2, c3, c4, f4⟩ := der_cells HB.out
  go_enter Tryz.func113, Tryz.ntmps113
  go_wp2_with fail
  clear c0 c1 c2 c3 c4 f4
  refine (new_any k0 k1 _).mono ?_
  rintro e w1 ⟨rfl, h1, hg1⟩
  have N1 := hid (show Nx w b k0 k1 s n m _ w1 from ⟨hbl, h1, at_grown HB.out hg1 (by simp), gb_some hg1 b⟩); clear h1 hg1
  obtain ⟨c0, c1, c2, c3, c4, f4⟩ := der_cells N1.out.hb
  obtain ⟨c, w2, hcv, hv2, hg2⟩ := conv_string s hs w1
  rw [HLL.out] at hv2
  have HV := hid hv2; have N2 := hid (N1.out.grown hg2); clear hv2 hg2
  go_wp2_with fail
  clear hcv c0 c1 c2 c3 c4 f4
  refine (write_any _ _ l _ _ N2.out.hh HV.out (.inr fun _ _ _ h e => by have := N1.out.size; cases h; simp at e; omega)).mono ?_
  rintro e w3 ⟨rfl, h3, hg3⟩
  have N3 := hid (N2.out.write h3 hg3); clear h3 hg3
  obtain ⟨c0, c1, c2, c3, c4, f4⟩ := der_cells N3.out.hb
  go_wp2_with fail
  refine (add_u32 _ m m1 HE.out _ c4 f4 h0 (by assumption)).mono ?_
  rintro e w4 ⟨rfl, rfl⟩
  clear c0 c1 c2 c3 c4 f4
  have n4 := N3.out.told m1
  generalize w3.setCell ⟨b, 4, none⟩ (.int .u32 m1) = w4 at n4 ⊢
  have N4 := hid n4; clear n4
  go_wp2_with fail
  have hb5 : BytesAt (w4.alloc (.cells #[.int .u8 (mb.toNat : Int)] 5)) (.slice (some ⟨w4.heap.size, 0, none⟩) 1 1) [mb] := bytes_of_cells [mb] (at_new w4 _) (by unfold maxLen; simp)
  have hn5 : ([mb] : List UInt8) = [] ∨ ∀ a n c, Value.slice (some ⟨w4.heap.size, 0, none⟩) 1 1 = .slice (some a) n c → a.block ≠ w.heap.size + 1 := .inr fun _ _ _ h e => by have := N4.out.size; cases h; simp at e; omega
  have A5 := hid (N4.out.grown (gb_alloc (.refl w4 none) (.cells #[.int .u8 (mb.toNat : Int)] 5)))
  with_reducible refine (write_any _ _ [mb] _ _ A5.out.hh hb5 hn5).mono ?_
  clear hb5 hn5
  rintro e w5 ⟨rfl, h5, hg5⟩
  have N5 := hid (A5.out.write h5 hg5); clear h5 hg5
  obtain ⟨c0, c1, c2, c3, c4, f4⟩ := der_cells N5.out.hb
  go_wp2_with fail
  clear c0 c1 c2 c3 c4 f4
  refine (put_any n _).mono ?_
  rintro e w6 ⟨rfl, h6, hg6⟩
  have N6 := hid (N5.out.grown hg6); have O6 := hid (own_put n h6 (Nat.le_refl _)).bytes; clear h6 hg6
  go_wp2_with fail
  refine (write_any _ _ (put8 n) _ _ N6.out.hh O6.out (.inr fun _ _ _ h e => by have := N5.out.size; cases h; simp at e; omega)).mono ?_
  rintro e w7 ⟨rfl, h7, hg7⟩
  have N7 := hid (N6.out.write h7 hg7); clear h7 hg7
  go_wp2_with fail
  refine (hsum_any _ _ _ N7.out.hh).mono ?_
  rintro e w8 ⟨rfl, hg8⟩
  have N8 := hid (N7.out.grown hg8); clear hg8
  go_wp2_with fail
  go_ret
  have hsum : (List.foldl St.add ((List.foldl St.add (St.new k0 k1) l).add mb) (put8 n)).sum = sumOf k0 k1 (l ++ [mb] ++ put8 n) := by simp only [sumOf, List.foldl_append, List.foldl_cons, List.foldl_nil]
  rw [← hsum]
  exact ⟨rfl, N8.out.hb, N8.out.g⟩

/-- what a derived key's words are -/
def derived (k0 k1 : BitVec 64) (s : ByteArray) (n : BitVec 64) (mb : UInt8) : BitVec 64 := sumOf k0 k1 (s.data.toList ++ [mb] ++ put8 n)

set_option maxHeartbeats 3200000 in
theorem derive_any (k0 k1 : BitVec 64) (s : ByteArray) (hs : s.size ≤ 100000) (n : BitVec 64) (w : World) :
    Calls Tryz.prog 80 #[pair k0 k1, .string s, .int .u64 (q n)] w fun e w' => e = .returned (pair (derived k0 k1 s n 1) (derived k0 k1 s n 2)) ∧ w.grownBy w' none := by
  obtain ⟨a, ha⟩ : ∃ a, derived k0 k1 s n 1 = a := ⟨_, rfl⟩
  obtain ⟨b, hb⟩ : ∃ b, derived k0 k1 s n 2 = b := ⟨_, rfl⟩
  rw [ha, hb]
  have HA := hid ha; have HB := hid hb; clear ha hb
  go_enter Tryz.func80, Tryz.ntmps80
  go_wp2_with fail
  have d0 : (((w.alloc (.cells #[.int .u64 (q k0), .int .u64 (q k1)] 49)).alloc (.cells #[.int .u64 0, .int .u64 0] 49)).alloc (derObj k0 k1 s n 0)).heap[w.heap.size + 1 + 1]? = some (derObj k0 k1 s n 0) := by
    have := at_new ((w.alloc (.cells #[.int .u64 (q k0), .int .u64 (q k1)] 49)).alloc (.cells #[.int .u64 0, .int .u64 0] 49)) (derObj k0 k1 s n 0)
    rwa [size_alloc, size_alloc] at this
  have b0 : Box w k0 k1 49 49 (((w.alloc (.cells #[.int .u64 (q k0), .int .u64 (q k1)] 49)).alloc (.cells #[.int .u64 0, .int .u64 0] 49)).alloc (derObj k0 k1 s n 0)) :=
    ⟨at_alloc (at_alloc (at_new w _) _) _, ⟨_, _, at_alloc (at_new2 w _ _) _⟩, gb_alloc (gb_alloc (gb_alloc (.refl w none) _) _) _⟩
  have D0 := hid d0; have B0 := hid b0; clear d0 b0
  refine (next_at _ k0 k1 s n 0 1 1 rfl (by decide) (by decide) (by decide) hs _ D0.out).mono ?_
  rintro e w1 ⟨rfl, h1, hg1⟩
  rw [show sumOf k0 k1 (s.data.toList ++ [1] ++ put8 n) = a from HA.out]
  have D1 := hid h1
  have B1 := hid (B0.out.row hg1); clear h1 hg1
  go_wp2_with fail
  refine (next_at _ k0 k1 s n 1 2 2 rfl (by decide) (by decide) (by decide) hs _ D1.out).mono ?_
  rintro e w2 ⟨rfl, h1, hg1⟩
  rw [show sumOf k0 k1 (s.data.toList ++ [2] ++ put8 n) = b from HB.out]
  have B2 := hid (B1.out.row hg1); clear h1 hg1
  obtain ⟨x, y, hxy⟩ := B2.out.ans
  have c0 := at_cell hxy 0
  have c1 := at_cell hxy 1
  have f0 := at_free hxy 0
  have f1 := at_free hxy 1
  clear hxy
  go_wp2_with fail
  clear c0 c1 f0 f1
  have hst := B2.out.store (.int .u64 (q a)) (.int .u64 (q b))
  generalize (w2.setCell ⟨w.heap.size + 1, 0, none⟩ (.int .u64 (q a))).setCell ⟨w.heap.size + 1, 1, none⟩ (.int .u64 (q b)) = wx at hst ⊢
  obtain ⟨r0, r1⟩ := pair_cells hst.1
  exact bodyPost_ret (v := pair a b) (by simp [results, Tryz.results80, go_sem, r0, r1]) rfl ⟨rfl, hst.2⟩
end Go.Proofs.YtfhifnhnkgdnlaaGreat
end
section
set_option linter.unusedSimpArgs false
namespace Go.Proofs.YtfhifnhnkgdnlaaGreat
set_option maxRecDepth 100000
open Go.RowKit

/-- the answer's block, under way -/
structure Ans (w : World) (t : TypeId) (w' : World) : Prop where
  ans : ∃ x y, w'.heap[w.heap.size]? = some (.cells #[x, y] t)
  g : w.grownBy w' none
theorem Ans.new (w : World) (t : TypeId) (x y : Value) : Ans w t (w.alloc (.cells #[x, y] t)) := ⟨⟨x, y, at_new w _⟩, gb_alloc (.refl w none) _⟩
theorem Ans.grown {w : World} {t : TypeId} {w1 w2 : World} (h : Ans w t w1) (hg : w1.grownBy w2 none) : Ans w t w2 :=
  ⟨by obtain ⟨x, y, h⟩ := h.ans; exact ⟨x, y, at_grown h hg (by simp)⟩, gb_trans h.g hg (.inl rfl)⟩
theorem Ans.drew {w : World} {t : TypeId} {w1 : World} (h : Ans w t w1) : Ans w t w1.drew := ⟨h.ans, gb_drew h.g⟩
theorem Ans.cells {w : World} {t : TypeId} {w1 : World} (h : Ans w t w1) : ∃ x y, w1.cell? ⟨w.heap.size, 0, none⟩ = some x ∧ w1.cell? ⟨w.heap.size, 1, none⟩ = some y ∧ w1.frozen? ⟨w.heap.size, 0, none⟩ = false ∧ w1.frozen? ⟨w.heap.size, 1, none⟩ = false := by
  obtain ⟨x, y, h⟩ := h.ans
  exact ⟨x, y, at_cell h 0, at_cell h 1, at_free h 0, at_free h 1⟩
theorem Ans.store {w : World} {t : TypeId} {w1 : World} (h : Ans w t w1) (a b : Value) :
    ((w1.setCell ⟨w.heap.size, 0, none⟩ a).setCell ⟨w.heap.size, 1, none⟩ b).heap[w.heap.size]? = some (.cells #[a, b] t) ∧ w.grownBy ((w1.setCell ⟨w.heap.size, 0, none⟩ a).setCell ⟨w.heap.size, 1, none⟩ b) none := by
  obtain ⟨x, y, hxy⟩ := h.ans
  exact ⟨at_set (at_set hxy 0 a) 1 b, gb_new (gb_new h.g (by simp) a) (by simp) b⟩

/-- a pair of words -/
structure Two64 where
  a : BitVec 64
  b : BitVec 64
def Two64.val (k : Two64) : Value := pair k.a k.b
/-- a derived key -/
def keyOf (k : Two64) (s : ByteArray) (n : BitVec 64) : Two64 := ⟨derived k.a k.b s n 1, derived k.a k.b s n 2⟩
def rootOf (seed : BitVec 64) : Two64 := keyOf ⟨seed, seed + 1⟩ ⟨#[114, 111, 111, 116]⟩ 0
def ofOf (seed : BitVec 64) (who gen : Int) : Two64 := keyOf (keyOf (rootOf seed) ⟨#[119, 104, 111]⟩ (BitVec.ofInt 64 who)) ⟨#[103, 101, 110]⟩ (BitVec.ofInt 64 gen)

theorem key_derive (k : Two64) (s : ByteArray) (hs : s.size ≤ 100000) (n : BitVec 64) (w : World) :
    Calls Tryz.prog 80 #[.agg #[.int .u64 (q k.a), .int .u64 (q k.b)], .string s, .int .u64 (q n)] w fun e w' => e = .returned (.agg #[.int .u64 (q (keyOf k s n).a), .int .u64 (q (keyOf k s n).b)]) ∧ w.grownBy w' none := derive_any k.a k.b s hs n w

theorem q_succ (x : BitVec 64) : IntKind.u64.wrap (q x + 1) = q (x + 1) := q_add x 1#64

set_option maxHeartbeats 1600000 in
theorem root_any (seed : BitVec 64) (w : World) :
    Calls Tryz.prog 81 #[.int .u64 (q seed)] w fun e w' => e = .returned (.agg #[.int .u64 (q (rootOf seed).a), .int .u64 (q (rootOf seed).b)]) ∧ w.grownBy w' none := by
  have hq := q_succ seed
  have hd := key_derive ⟨seed, seed + 1⟩ ⟨#[114, 111, 111, 116]⟩ (by decide) 0 (w.alloc (.cells #[.int .u64 0, .int .u64 0] 49))
  change Calls _ _ _ _ (fun e w' => e = .returned (.agg #[.int .u64 (q (rootOf seed).a), .int .u64 (q (rootOf seed).b)]) ∧ _) at hd
  generalize rootOf seed = r at hd ⊢
  have A0 := hid (Ans.new w 49 (.int .u64 0) (.int .u64 0))
  have HD := hid hd; clear hd
  go_enter Tryz.func81, Tryz.ntmps81
  go_wp2_with fail
  refine HD.out.mono ?_
  rintro e w1 ⟨rfl, hg⟩
  have A1 := hid (A0.out.grown hg); clear hg HD
  obtain ⟨x, y, c0, c1, f0, f1⟩ := A1.out.cells
  go_wp2_with fail
  clear c0 c1 f0 f1
  have hst := A1.out.store (.int .u64 (q r.a)) (.int .u64 (q r.b))
  generalize (w1.setCell ⟨w.heap.size, 0, none⟩ (.int .u64 (q r.a))).setCell ⟨w.heap.size, 1, none⟩ (.int .u64 (q r.b)) = wx at hst ⊢
  obtain ⟨r0, r1⟩ := pair_cells hst.1
  exact bodyPost_ret (v := .agg #[.int .u64 (q r.a), .int .u64 (q r.b)]) (by simp [results, Tryz.results81, go_sem, r0, r1]) rfl ⟨rfl, hst.2⟩

theorem wrap_i64 (x : Int) : IntKind.u64.wrap x = q (BitVec.ofInt 64 x) := q_lit x

set_option maxHeartbeats 1600000 in
theorem of_any (seed : BitVec 64) (who gen : Int) (w : World) :
    Calls Tryz.prog 34 #[.int .u64 (q seed), .int .i64 who, .int .i64 gen] w fun e w' => e = .returned (.agg #[.int .u64 (q (ofOf seed who gen).a), .int .u64 (q (ofOf seed who gen).b)]) ∧ w.grownBy w' none := by
  have hq1 := wrap_i64 who
  have hq2 := wrap_i64 gen
  have hd := fun w => root_any seed w
  unfold ofOf
  generalize rootOf seed = r at hd ⊢
  have hd1 := fun w => key_derive r ⟨#[119, 104, 111]⟩ (by decide) (BitVec.ofInt 64 who) w
  generalize keyOf r ⟨#[119, 104, 111]⟩ (BitVec.ofInt 64 who) = k1 at hd1 ⊢
  have hd2 := fun w => key_derive k1 ⟨#[103, 101, 110]⟩ (by decide) (BitVec.ofInt 64 gen) w
  generalize keyOf k1 ⟨#[103, 101, 110]⟩ (BitVec.ofInt 64 gen) = k2 at hd2 ⊢
  have HD := hid hd; have HD1 := hid hd1; have HD2 := hid hd2; clear hd hd1 hd2
  have A0 := hid (Ans.new w 49 (.int .u64 0) (.int .u64 0))
  go_enter Tryz.func34, Tryz.ntmps34
  go_wp2_with fail
  refine (HD.out _).mono ?_
  rintro e w1 ⟨rfl, hg⟩
  have A1 := hid (A0.out.grown hg); clear hg
  go_wp2_with fail
  refine (HD1.out _).mono ?_
  rintro e w2 ⟨rfl, hg⟩
  have A2 := hid (A1.out.grown hg); clear hg
  go_wp2_with fail
  refine (HD2.out _).mono ?_
  rintro e w3 ⟨rfl, hg⟩
  have A3 := hid (A2.out.grown hg); clear hg
  obtain ⟨x, y, c0, c1, f0, f1⟩ := A3.out.cells
  go_wp2_with fail
  clear c0 c1 f0 f1
  have hst := A3.out.store (.int .u64 (q k2.a)) (.int .u64 (q k2.b))
  generalize (w3.setCell ⟨w.heap.size, 0, none⟩ (.int .u64 (q k2.a))).setCell ⟨w.heap.size, 1, none⟩ (.int .u64 (q k2.b)) = wx at hst ⊢
  obtain ⟨r0, r1⟩ := pair_cells hst.1
  exact bodyPost_ret (v := .agg #[.int .u64 (q k2.a), .int .u64 (q k2.b)]) (by simp [results, Tryz.results34, go_sem, r0, r1]) rfl ⟨rfl, hst.2⟩
end Go.Proofs.YtfhifnhnkgdnlaaGreat
end
section
set_option linter.unusedSimpArgs false
set_option linter.unusedVariables false
namespace Go.Proofs.YtfhifnhnkgdnlaaGreat
set_option maxRecDepth 100000
open Go.RowKit

/-- is the old key still there? -/
theorem spares_yes (h k : Nat) (g s gr now : Int) (w : World) (c0 : w.cell? ⟨h, k, none⟩ = some (.int .i64 g)) (c1 : w.cell? ⟨h, k + 1, none⟩ = some (.int .i64 s))
    (g0 : 1 ≤ g) (g1 : g ≤ 60000) (s0 : 0 ≤ s) (s1 : s ≤ 1099511627776) (r0 : 0 ≤ gr) (r1 : gr ≤ 100) (hn : now < s + gr) :
    Calls Tryz.prog 126 #[.pointer (some ⟨h, k, none⟩), .int .i64 (g - 1), .int .i64 now, .int .i64 gr] w fun e w' => e = .returned (.bool true) ∧ w = w' := by
  have d0 : (0 : Int) ≤ g - 1 := by omega
  go_enter Tryz.func126, Tryz.ntmps126
  go_wp2_with fail
  refine (has_at _ rfl g _ c0).mono ?_
  rintro e w' ⟨rfl, rfl⟩
  go_wp2_with fail
  go_ret
  exact ⟨rfl, rfl⟩
theorem spares_no (h k : Nat) (g s gr gen now : Int) (w : World) (c0 : w.cell? ⟨h, k, none⟩ = some (.int .i64 g)) (c1 : w.cell? ⟨h, k + 1, none⟩ = some (.int .i64 s))
    (g0 : 0 ≤ g) (g1 : g ≤ 60000) (s0 : 0 ≤ s) (s1 : s ≤ 1099511627776) (r0 : 0 ≤ gr) (r1 : gr ≤ 100) (hn : gen < 0 ∨ gen ≠ g - 1 ∨ s + gr ≤ now) :
    Calls Tryz.prog 126 #[.pointer (some ⟨h, k, none⟩), .int .i64 gen, .int .i64 now, .int .i64 gr] w fun e w' => e = .returned (.bool false) ∧ w = w' := by
  by_cases h0 : gen < 0
  · have d0 : decide (0 ≤ gen) = false := by simp; omega
    go_enter Tryz.func126, Tryz.ntmps126
    go_wp2_with fail
    go_ret
    exact ⟨rfl, rfl⟩
  · have d0 : decide (0 ≤ gen) = true := by simp; omega
    have d1 : (0 : Int) ≤ gen := by omega
    by_cases h1 : gen = g - 1
    · subst h1
      have d2 : decide (now < s + gr) = false := by simp; omega
      go_enter Tryz.func126, Tryz.ntmps126
      go_wp2_with fail
      refine (has_at _ rfl g _ c0).mono ?_
      rintro e w' ⟨rfl, rfl⟩
      go_wp2_with fail
      go_ret
      exact ⟨rfl, rfl⟩
    · have d2 : (gen == g - 1) = false := by simpa using h1
      go_enter Tryz.func126, Tryz.ntmps126
      go_wp2_with fail
      refine (has_at _ rfl g _ c0).mono ?_
      rintro e w' ⟨rfl, rfl⟩
      go_wp2_with fail
      go_ret
      exact ⟨rfl, rfl⟩

/-- which keys there are -/
def Rg.keyIs (r : Rg) (i : Nat) (gen now : Int) : Prop := 0 ≤ gen ∧ (gen = r.gen i ∨ gen = r.gen i - 1 ∧ now < r.since i + (r.grace : Int))
instance (r : Rg) (i : Nat) (gen now : Int) : Decidable (r.keyIs i gen now) := by unfold Rg.keyIs; infer_instance

/-- a call that has its answer's block, and a ring that came in -/
structure AnsR (w : World) (b h : Nat) (r : Rg) (w' : World) : Prop where
  a : Ans w 49 w'
  r : RgAt w' b h r
theorem AnsR.new {w : World} {b h : Nat} {r : Rg} (H : RgAt w b h r) : AnsR w b h r (w.alloc (.cells #[.int .u64 0, .int .u64 0] 49)) := ⟨.new w _ _ _, H.grown (World.grownBy_alloc w _ none)⟩
theorem AnsR.grown {w w1 w2 : World} {b h : Nat} {r : Rg} (A : AnsR w b h r w1) (hg : w1.grownBy w2 none) : AnsR w b h r w2 := ⟨A.a.grown hg, A.r.grown hg⟩


set_option maxHeartbeats 1600000 in
theorem rkey_now {b h : Nat} {r : Rg} (i : Nat) (now : Int) (w : World) (H : RgAt w b h r) (hi : i < r.n) :
    Calls Tryz.prog 96 #[.pointer (some ⟨b, 0, none⟩), .int .i64 (i : Int), .int .i64 (r.gen i), .int .i64 now] w fun e w' => e = .returned (.tuple #[.agg #[.int .u64 (q (ofOf r.seed i (r.gen i)).a), .int .u64 (q (ofOf r.seed i (r.gen i)).b)], .int .i64 0]) ∧ w.grownBy w' none := by
  have hf := fun w (A : AnsR w b h r w) => A
  have A0 := hid (AnsR.new H)
  clear hf H
  have HO := hid (fun w => of_any r.seed (i : Int) (r.gen i) w)
  generalize ofOf r.seed i (r.gen i) = k at HO ⊢
  have hC := fun w' (A : AnsR w b h r w') => find_in i w' A.r hi
  have hH := fun w' (A : AnsR w b h r w') => A.r.cells hi
  have hT := fun w' (A : AnsR w b h r w') => A.r.tops
  generalize r.gen i = g at *
  generalize r.seed = sd at *
  have HC := hid hC; have HH := hid hH; have HT := hid hT; clear hC hH hT
  go_enter Tryz.func96, Tryz.ntmps96
  go_wp2_with fail
  refine (HC.out _ A0.out).mono ?_
  rintro e w1 ⟨rfl, hw⟩
  have A1 := hid (show AnsR w b h r w1 from hw ▸ A0.out); clear hw A0
  obtain ⟨c0, c1, f0, f1⟩ := HH.out _ A1.out
  go_wp2_with fail
  refine (has_at _ rfl g _ c0).mono ?_
  rintro e w2 ⟨rfl, hw⟩
  have A2 := hid (show AnsR w b h r w2 from hw ▸ A1.out); clear hw A1 c0 c1 f0 f1
  obtain ⟨t0, t1, t2⟩ := HT.out _ A2.out
  go_wp2_with fail
  refine (HO.out _).mono ?_
  rintro e w3 ⟨rfl, hg⟩
  have A3 := hid (A2.out.grown hg); clear hg t0 t1 t2 A2
  obtain ⟨x, y, c0, c1, f0, f1⟩ := A3.out.a.cells
  go_wp2_with fail
  clear c0 c1 f0 f1
  have hst := A3.out.a.store (.int .u64 (q k.a)) (.int .u64 (q k.b))
  generalize (w3.setCell ⟨w.heap.size, 0, none⟩ (.int .u64 (q k.a))).setCell ⟨w.heap.size, 1, none⟩ (.int .u64 (q k.b)) = wx at hst ⊢
  obtain ⟨r0, r1⟩ := pair_cells hst.1
  exact bodyPost_ret (v := .tuple #[pair k.a k.b, .int .i64 0]) (by simp [results, Tryz.results96, go_sem, r0, r1]) rfl ⟨rfl, hst.2⟩
end Go.Proofs.YtfhifnhnkgdnlaaGreat
end
