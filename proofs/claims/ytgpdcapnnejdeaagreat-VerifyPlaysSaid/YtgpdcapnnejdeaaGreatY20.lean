/-
  A relation on worlds: all is as it was but for some blocks that are named, and for new ones. No condition. Nothing of the program is named here. And 5 texts more that this one stands on. No condition.
-/
import Derived.Test.YtgpdcapnnejdeaaGreatY1
import Derived.Test.YtgpdcapnnejdeaaGreatRows
import Derived.WalkSpells
import Derived.WalkLawsBesides
import Derived.Test.YtgpdcapnnejdeaaGreatNOnce
import Derived.Laws.AppendOwnNone
import Derived.Maps.AppendAt
import Derived.Test.YtgpdcapnnejdeaaGreatY2
section
namespace Go.Proofs.YtgpdcapnnejdeaaGreat
set_option maxRecDepth 100000
open Go.RowKit

structure Chg (F : List Nat) (w w' : World) : Prop where
 os : w'.os = w.os
 tape : w'.tape = w.tape
 output : w'.output = w.output
 size : w.heap.size ≤ w'.heap.size
 block : ∀ k, k < w.heap.size → k ∉ F → w'.heap[k]? = w.heap[k]?
section
variable {F G : List Nat} {a b c w w1 w2 : World} {x : Nat} {o : Obj}
theorem chg_refl (w : World) (F : List Nat) : Chg F w w := ⟨rfl, rfl, rfl, Nat.le_refl _, fun _ _ _ => rfl⟩
theorem Chg.trans (h : Chg F a b) (k : Chg G b c) (hg : ∀ x ∈ G, x ∈ F ∨ a.heap.size ≤ x) : Chg F a c :=
 ⟨k.os.trans h.os, k.tape.trans h.tape, k.output.trans h.output, Nat.le_trans h.size k.size, fun i hi hn => by
  have h1 := h.size
  rw [k.block i (by omega) (fun hm => by
   rcases hg i hm with e | e
   ·exact hn e
   ·omega)]
  exact h.block i hi hn⟩
theorem chg_grown (h : a.grownBy b none) (F : List Nat) : Chg F a b := ⟨h.os, h.tape, h.output, h.size, fun i hi _ => h.block i hi (by simp)⟩
theorem chg_row (h : a.grownBy b (some x)) : Chg [x] a b := ⟨h.os, h.tape, h.output, h.size, fun i hi hn => h.block i hi (by intro e; cases e; exact hn (by simp))⟩
theorem Chg.then (h : Chg F a b) (k : Chg F b c) : Chg F a c := h.trans k fun _ hx => .inl hx
theorem Chg.more (h : Chg F a b) (hs : ∀ x ∈ F, x ∈ G) : Chg G a b := ⟨h.os, h.tape, h.output, h.size, fun i hi hn => h.block i hi fun hm => hn (hs _ hm)⟩
theorem Chg.grown (h : Chg F a b) (k : b.grownBy c none) : Chg F a c := h.then (chg_grown k F)
theorem Chg.alloc (h : Chg F a b) (o : Obj) : Chg F a (b.alloc o) := h.grown (World.grownBy_alloc b o none)
theorem Chg.drew (h : Chg F a b) : Chg F a b.drew := ⟨h.os, h.tape, h.output, h.size, h.block⟩
theorem Chg.set (h : Chg F a b) {p : Addr} (hp : p.block ∈ F ∨ a.heap.size ≤ p.block) (v : Value) : Chg F a (b.setCell p v) :=
 ⟨h.os, h.tape, h.output, by simpa [World.setCell] using h.size, fun k hk hn => by
  rw [Below.heap_setCell _ _ _ _ (by intro e; rcases hp with hp | hp; exact hn (by rw [e]; exact hp); omega)]; exact h.block k hk hn⟩
theorem Chg.at (h : Chg F a b) (hx : a.heap[x]? = some o) (hn : x ∉ F) : b.heap[x]? = some o := by
 rw [h.block x (at_lt hx) hn]; exact hx
theorem Chg.free (h : Chg F a b) (hF : ∀ x ∈ F, a.heap.size ≤ x) : a.grownBy b none :=
 ⟨h.os, h.tape, h.output, h.size, fun i hi _ => h.block i hi fun hm => by have := hF i hm; omega⟩
theorem Chg.cell (h : Chg F a b) {p : Addr} {v : Value} (hx : a.cell? p = some v) (hn : p.block ∉ F) : b.cell? p = some v := by
 have hlt : p.block < a.heap.size := by
  rcases Nat.lt_or_ge p.block a.heap.size with hb | hb
  ·exact hb
  ·simp [World.cell?, Array.getElem?_eq_none hb] at hx
 rw [World.cell?_of_block (h.block _ hlt hn)]; exact hx
end
end Go.Proofs.YtgpdcapnnejdeaaGreat
end
section
set_option linter.unusedSimpArgs false
namespace Go.Proofs.YtgpdcapnnejdeaaGreat
set_option maxRecDepth 100000
open Go.RowKit

theorem load_i64 (a : Addr) (x : Int) (w : World) (hc : w.cell? a = some (.int .i64 x)) :
  Calls Tryz.prog 73 #[.pointer (some a)] w fun e w' => e = .returned (.int .i64 x) ∧ w = w' := by
 have hl := run_call_load (P := Tryz.prog) Tryz.func109 (by kernel_rfl) (by kernel_rfl) (by kernel_rfl) .i64 (by kernel_rfl) hc
 go_enter Tryz.func73, Tryz.ntmps73
 go_wp2
 go_ret
 exact ⟨rfl, rfl⟩
theorem addn_i64 (a : Addr) (x y s : Int) (w : World) (hc : w.cell? a = some (.int .i64 x)) (hz : w.frozen? a = false) (hs : IntKind.i64.wrap (x + y) = s) :
  Calls Tryz.prog 77 #[.pointer (some a), .int .i64 y] w fun e w' => e = .returned (.int .i64 s) ∧ w' = w.setCell a (.int .i64 s) := by
 have hadd := run_call_add (P := Tryz.prog) Tryz.func111 (by kernel_rfl) (by kernel_rfl) (by kernel_rfl) .i64 (by kernel_rfl) (y := y) (s := s) hc hz (by rw [show Op.intArith .add .i64 x y = pure (.int .i64 (IntKind.i64.wrap (x + y))) from rfl, hs]; rfl)
 clear hs
 go_enter Tryz.func77, Tryz.ntmps77
 go_wp2
 go_ret
 exact ⟨rfl, rfl⟩
theorem store_i64 (a : Addr) (y : Int) (u : Value) (w : World) (hc : w.cell? a = some u) (hz : w.frozen? a = false) :
  Calls Tryz.prog 78 #[.pointer (some a), .int .i64 y] w fun e w' => e = .returned (.tuple #[]) ∧ w' = w.setCell a (.int .i64 y) := by
 have hs := run_call_store (P := Tryz.prog) Tryz.func112 (by kernel_rfl) (by kernel_rfl) (by kernel_rfl) (by kernel_rfl) (k := .i64) (y := y) hc hz
 go_enter Tryz.func78, Tryz.ntmps78
 go_wp2
 go_end0
 exact ⟨rfl, rfl⟩
theorem add_i64 (a : Addr) (x : Int) (w : World) (hc : w.cell? a = some (.int .i64 x)) (hz : w.frozen? a = false) (h0 : 0 ≤ x) (h1 : x < 1000000000000000000) :
  Calls Tryz.prog 77 #[.pointer (some a), .int .i64 1] w fun e w' => e = .returned (.int .i64 (x + 1)) ∧ w' = w.setCell a (.int .i64 (x + 1)) := by
 have hadd := run_call_add (P := Tryz.prog) Tryz.func111 (by kernel_rfl) (by kernel_rfl) (by kernel_rfl) .i64 (by kernel_rfl) (y := 1) (s := x + 1) hc hz (by simp [go_sem, IntKind.wrap, IntKind.bits, IntKind.signed]; omega)
 go_enter Tryz.func77, Tryz.ntmps77
 go_wp2
 go_ret
 exact ⟨rfl, rfl⟩
theorem still_of {f : FuncId} {args : Array Value} {w : World} {v : Value} (h : Calls Tryz.prog f args w fun e w' => e = .returned v ∧ w = w') : Calls Tryz.prog f args w fun e w' => e = .returned v ∧ w' = w := h.mono fun _ _ ⟨h1, h2⟩ => ⟨h1, h2.symm⟩
end Go.Proofs.YtgpdcapnnejdeaaGreat
end
section
set_option linter.unusedSimpArgs false
namespace Go.Proofs.YtgpdcapnnejdeaaGreat
set_option maxRecDepth 100000
open Go.RowKit

structure Rg where
 seed : BitVec 64
 n : Nat
 grace : Nat
 gen : Nat → Int
 since : Nat → Int
structure Rg.Ok (r : Rg) : Prop where
 n1 : 1 ≤ r.n
 n2 : r.n ≤ 16
 g1 : 1 ≤ r.grace
 g2 : r.grace ≤ 100
 e0 : ∀ i, 0 ≤ r.gen i
 e1 : ∀ i, r.gen i ≤ 60000
 s0 : ∀ i, 0 ≤ r.since i
 s1 : ∀ i, r.since i ≤ 1099511627776
def Rg.new (seed : BitVec 64) (n grace : Nat) : Rg := ⟨seed, n, grace, fun _ => 0, fun _ => 0⟩
def Rg.put (r : Rg) (i : Nat) (g s : Int) : Rg := { r with gen := fun j => if j = i then g else r.gen j, since := fun j => if j = i then s else r.since j }
theorem rg_new_ok (seed : BitVec 64) {n grace : Nat} (h1 : 1 ≤ n) (h2 : n ≤ 16) (h3 : 1 ≤ grace) (h4 : grace ≤ 100) : (Rg.new seed n grace).Ok :=
 ⟨h1, h2, h3, h4, fun _ => Int.le_refl _, fun _ => by show (0 : Int) ≤ _; decide, fun _ => Int.le_refl _, fun _ => by show (0 : Int) ≤ _; decide⟩
theorem Rg.Ok.put {r : Rg} (h : r.Ok) (i : Nat) {g s : Int} (g0 : 0 ≤ g) (g1 : g ≤ 60000) (s0 : 0 ≤ s) (s1 : s ≤ 1099511627776) : (r.put i g s).Ok :=
 ⟨h.n1, h.n2, h.g1, h.g2, fun j => by simp only [Rg.put]; split; exact g0; exact h.e0 j, fun j => by simp only [Rg.put]; split; exact g1; exact h.e1 j,
  fun j => by simp only [Rg.put]; split; exact s0; exact h.s0 j, fun j => by simp only [Rg.put]; split; exact s1; exact h.s1 j⟩

structure RgAt (w : World) (b h : Nat) (r : Rg) : Prop where
 top : w.heap[b]? = some (.cells #[.int .u64 (q r.seed), .int .i64 (r.grace : Int), .slice (some ⟨h, 0, none⟩) r.n r.n] 158)
 row : ∃ cs : Array Value, w.heap[h]? = some (.cells cs 141) ∧ ∀ i, i < r.n → cs[i * 2]? = some (.int .i64 (r.gen i)) ∧ cs[i * 2 + 1]? = some (.int .i64 (r.since i))
 ne : b ≠ h
 ok : r.Ok
theorem RgAt.chg {w w' : World} {F : List Nat} {b h : Nat} {r : Rg} (H : RgAt w b h r) (hc : Chg F w w') (hb : b ∉ F) (hh : h ∉ F) : RgAt w' b h r :=
 ⟨hc.at H.top hb, by obtain ⟨cs, h1, h2⟩ := H.row; exact ⟨cs, hc.at h1 hh, h2⟩, H.ne, H.ok⟩
theorem RgAt.grown {w w' : World} {b h : Nat} {r : Rg} (H : RgAt w b h r) (hg : w.grownBy w' none) : RgAt w' b h r := H.chg (chg_grown hg []) (by simp) (by simp)
theorem RgAt.drew {w : World} {b h : Nat} {r : Rg} (H : RgAt w b h r) : RgAt w.drew b h r := ⟨H.top, H.row, H.ne, H.ok⟩
theorem RgAt.tops {w : World} {b h : Nat} {r : Rg} (H : RgAt w b h r) : w.cell? ⟨b, 0, none⟩ = some (.int .u64 (q r.seed)) ∧ w.cell? ⟨b, 1, none⟩ = some (.int .i64 (r.grace : Int)) ∧ w.cell? ⟨b, 2, none⟩ = some (.slice (some ⟨h, 0, none⟩) r.n r.n) :=
 ⟨at_cell H.top 0, at_cell H.top 1, at_cell H.top 2⟩
theorem RgAt.cells {w : World} {b h : Nat} {r : Rg} (H : RgAt w b h r) {i : Nat} (hi : i < r.n) : w.cell? ⟨h, i * 2, none⟩ = some (.int .i64 (r.gen i)) ∧ w.cell? ⟨h, i * 2 + 1, none⟩ = some (.int .i64 (r.since i)) ∧ w.frozen? ⟨h, i * 2, none⟩ = false ∧ w.frozen? ⟨h, i * 2 + 1, none⟩ = false := by
 obtain ⟨cs, h1, h2⟩ := H.row
 exact ⟨(at_cell h1 _).trans (h2 i hi).1, (at_cell h1 _).trans (h2 i hi).2, at_free h1 _, at_free h1 _⟩
theorem RgAt.lt {w : World} {b h : Nat} {r : Rg} (H : RgAt w b h r) : b < w.heap.size ∧ h < w.heap.size := ⟨at_lt H.top, by obtain ⟨_, h1, _⟩ := H.row; exact at_lt h1⟩
theorem RgAt.put {w : World} {b h : Nat} {r : Rg} (H : RgAt w b h r) {i : Nat} (hi : i < r.n) {g s : Int} (g0 : 0 ≤ g) (g1 : g ≤ 60000) (s0 : 0 ≤ s) (s1 : s ≤ 1099511627776) :
  RgAt ((w.setCell ⟨h, i * 2, none⟩ (.int .i64 g)).setCell ⟨h, i * 2 + 1, none⟩ (.int .i64 s)) b h (r.put i g s) := by
 obtain ⟨cs, h1, h2⟩ := H.row
 have b0 := at_lt H.top
 refine ⟨at_set_other (at_set_other H.top H.ne _) H.ne _, ⟨_, at_set (at_set h1 _ _) _ _, fun j hj => ?_⟩, H.ne, H.ok.put i g0 g1 s0 s1⟩
 obtain ⟨k1, k2⟩ := h2 j hj
 obtain ⟨m1, m2⟩ := h2 i hi
 have z1 : i * 2 < cs.size := (Array.getElem?_eq_some_iff.1 m1).1
 have z2 : i * 2 + 1 < cs.size := (Array.getElem?_eq_some_iff.1 m2).1
 have n1 : ¬ i * 2 + 1 = j * 2 := by omega
 have n2 : ¬ i * 2 = j * 2 + 1 := by omega
 simp only [Rg.put]
 by_cases e : j = i
 ·subst e
  rw [if_pos rfl, if_pos rfl]
  constructor
  ·rw [Array.getElem?_setIfInBounds, if_neg n1, Array.getElem?_setIfInBounds, if_pos rfl, if_pos z1]
  ·rw [Array.getElem?_setIfInBounds, if_pos rfl, if_pos (by simpa using z2)]
 ·have n3 : ¬ i * 2 = j * 2 := by omega
  have n4 : ¬ i * 2 + 1 = j * 2 + 1 := by omega
  rw [if_neg e, if_neg e]
  constructor
  ·rw [Array.getElem?_setIfInBounds, if_neg n1, Array.getElem?_setIfInBounds, if_neg n3]; exact k1
  ·rw [Array.getElem?_setIfInBounds, if_neg n4, Array.getElem?_setIfInBounds, if_neg n2]; exact k2

theorem within_in (x lo hi : Int) (h0 : lo ≤ x) (h1 : x ≤ hi) (w : World) :
  Calls Tryz.prog 88 #[.int .i64 x, .int .i64 lo, .int .i64 hi] w fun e w' => e = .returned (.bool true) ∧ w = w' := by
 go_enter Tryz.func88, Tryz.ntmps88
 go_wp2
 go_ret
 exact ⟨rfl, rfl⟩
theorem within_out (x lo hi : Int) (h : x < lo ∨ hi < x) (w : World) :
  Calls Tryz.prog 88 #[.int .i64 x, .int .i64 lo, .int .i64 hi] w fun e w' => e = .returned (.bool false) ∧ w = w' := by
 by_cases h0 : lo ≤ x
 ·have hd : decide (x ≤ hi) = false := by simp; omega
  go_enter Tryz.func88, Tryz.ntmps88
  go_wp2
  go_ret
  exact ⟨rfl, rfl⟩
 ·go_enter Tryz.func88, Tryz.ntmps88
  go_wp2
  go_ret
  exact ⟨rfl, rfl⟩
theorem within64_in (x lo hi : Int) (h0 : lo ≤ x) (h1 : x ≤ hi) (w : World) :
  Calls Tryz.prog 105 #[.int .i64 x, .int .i64 lo, .int .i64 hi] w fun e w' => e = .returned (.bool true) ∧ w = w' := by
 go_enter Tryz.func105, Tryz.ntmps105
 go_wp2
 go_ret
 exact ⟨rfl, rfl⟩
theorem has_at (a : Addr) (ha : a.spot = none) (x : Int) (w : World) (hc : w.cell? a = some (.int .i64 x)) :
  Calls Tryz.prog 72 #[.pointer (some a)] w fun e w' => e = .returned (.int .i64 x) ∧ w = w' := by
 obtain ⟨b, i, s⟩ := a
 obtain rfl : s = none := ha
 go_enter Tryz.func72, Tryz.ntmps72
 go_wp2_with fail
 refine (load_i64 _ x _ hc).mono ?_
 rintro e w' ⟨rfl, rfl⟩
 go_wp2_with fail
 go_ret
 exact ⟨rfl, rfl⟩

theorem find_out {b h : Nat} {r : Rg} (x : Int) (w : World) (H : RgAt w b h r) (hx : x < 0 ∨ (r.n : Int) ≤ x) :
  Calls Tryz.prog 71 #[.pointer (some ⟨b, 0, none⟩), .int .i64 x] w fun e w' => e = .returned (.tuple #[.pointer none, .int .i64 3]) ∧ w = w' := by
 obtain ⟨c0, c1, c2⟩ := H.tops
 have n1 := H.ok.n1
 have n2 := H.ok.n2
 clear H
 generalize r.n = n at *
 go_enter Tryz.func71, Tryz.ntmps71
 go_wp2_with fail
 refine (within_out x 0 _ (by omega) _).mono ?_
 rintro e w' ⟨rfl, rfl⟩
 go_wp2_with fail
 go_ret2
 exact ⟨rfl, rfl⟩
theorem find_in {b h : Nat} {r : Rg} (i : Nat) (w : World) (H : RgAt w b h r) (hi : i < r.n) :
  Calls Tryz.prog 71 #[.pointer (some ⟨b, 0, none⟩), .int .i64 (i : Int)] w fun e w' => e = .returned (.tuple #[.pointer (some ⟨h, i * 2, none⟩), .int .i64 0]) ∧ w = w' := by
 obtain ⟨c0, c1, c2⟩ := H.tops
 have n1 := H.ok.n1
 have n2 := H.ok.n2
 clear H
 generalize r.n = n at *
 go_enter Tryz.func71, Tryz.ntmps71
 go_wp2_with fail
 refine (within_in (i : Int) 0 _ (by omega) (by omega) _).mono ?_
 rintro e w' ⟨rfl, rfl⟩
 go_wp2_with fail
 go_ret2
 exact ⟨rfl, rfl⟩
end Go.Proofs.YtgpdcapnnejdeaaGreat
end
section
set_option linter.unusedSimpArgs false
set_option linter.unusedVariables false
namespace Go.Proofs.YtgpdcapnnejdeaaGreat
set_option maxRecDepth 100000
open Go.RowKit

def low (n : Nat) : BitVec 64 := (1#64 <<< n) - 1#64
theorem low_bit (n i : Nat) (hn : n ≤ 64) : (low n).getLsbD i = (decide (i < n) && decide (i < 64)) := by
 by_cases h : n = 64
 ·subst h
  have e : low 64 = BitVec.allOnes 64 := by decide
  rw [e, BitVec.getLsbD_allOnes]; simp
 ·have hlt : n < 64 := by omega
  have e : (low n).toNat = 2 ^ n - 1 := by
   unfold low
   have h1 : 2 ^ n < 2 ^ 64 := Nat.pow_lt_pow_right (by decide) hlt
   have h2 : 0 < 2 ^ n := Nat.two_pow_pos n
   rw [BitVec.toNat_sub, BitVec.toNat_shiftLeft]
   simp only [BitVec.toNat_ofNat, Nat.one_shiftLeft, Nat.shiftLeft_eq]
   rw [show (1 % 2 ^ 64 : Nat) = 1 from rfl, Nat.one_mul, Nat.mod_eq_of_lt h1]
   omega
  rw [← BitVec.testBit_toNat, e, Nat.testBit_two_pow_sub_one]
  by_cases hi : i < n
  ·have : i < 64 := by omega
   simp [hi, this]
  ·simp [hi]
theorem one_bit (k i : Nat) : (1#64 <<< k).getLsbD i = (decide (i = k) && decide (i < 64)) := by
 rw [BitVec.getLsbD_shiftLeft]
 by_cases h : i = k
 ·subst h; simp
 ·by_cases h2 : i < k
  ·simp [h, h2]
  ·have : i - k ≠ 0 := by omega
   simp [h, h2, this]
theorem shr_bit (x : BitVec 64) (k : Nat) : ((x >>> k) &&& 1#64 = 0#64) ↔ x.getLsbD k = false := by
 constructor
 ·intro h
  have h0 : ((x >>> k) &&& 1#64).getLsbD 0 = (0#64).getLsbD 0 := by rw [h]
  simpa using h0
 ·intro h
  apply BitVec.eq_of_getLsbD_eq
  intro i hi
  by_cases h0 : i = 0
  ·subst h0; simpa using h
  ·simp [h0]

structure Rp where
 win : Nat
 top : Int
 bits : BitVec 64
structure Rp.Ok (r : Rp) : Prop where
 w1 : 1 ≤ r.win
 w2 : r.win ≤ 64
 t0 : 0 ≤ r.top
 t1 : r.top ≤ 1099511627776
 bs : ∀ i, r.bits.getLsbD i = true → i < r.win ∧ (i : Int) < r.top
 b0 : 0 < r.top → r.bits.getLsbD 0 = true
def Rp.new (win : Nat) : Rp := ⟨win, 0, 0#64⟩
theorem rp_new_ok {n : Nat} (h1 : 1 ≤ n) (h2 : n ≤ 64) : (Rp.new n).Ok :=
 ⟨h1, h2, Int.le_refl _, by show (0 : Int) ≤ _; decide, fun i h => by simp [Rp.new] at h, fun h => absurd h (Int.lt_irrefl _)⟩
def Rp.may (r : Rp) (n : Int) : Bool := decide (1 ≤ n ∧ n ≤ 1099511627776 ∧ (r.top < n ∨ (r.top - n < r.win ∧ r.bits.getLsbD (r.top - n).toNat = false)))
def Rp.put (r : Rp) (n : Int) : Rp :=
 if r.top < n then ⟨r.win, n, (r.bits <<< (n - r.top).toNat &&& low r.win) ||| 1#64⟩ else ⟨r.win, r.top, r.bits ||| 1#64 <<< (r.top - n).toNat⟩
def Rp.take (r : Rp) (n : Int) : Int × Rp := if r.may n = true then (0, r.put n) else (6, r)
def Rp.can (r : Rp) (t : Int) (b : BitVec 64) : Bool := decide (0 ≤ t ∧ t ≤ 1099511627776 ∧ (b &&& ~~~ low (min t r.win).toNat) = 0#64 ∧ (0 < t → b.getLsbD 0 = true))
def Rp.set (r : Rp) (t : Int) (b : BitVec 64) : Int × Rp := if r.can t b = true then (0, ⟨r.win, t, b⟩) else (1, r)
theorem Rp.Ok.put {r : Rp} (h : r.Ok) {n : Int} (hm : r.may n = true) : (r.put n).Ok := by
 unfold Rp.may at hm
 obtain ⟨h1, h2, h3⟩ := of_decide_eq_true hm
 obtain ⟨w1, w2, t0, t1, bs, b0⟩ := h
 unfold Rp.put
 split
 ·next hl =>
  refine ⟨w1, w2, by show 0 ≤ n; omega, h2, fun i hi => ?_, fun _ => ?_⟩
  ·simp only [BitVec.getLsbD_or, BitVec.getLsbD_and, low_bit _ _ w2, Bool.or_eq_true, Bool.and_eq_true, decide_eq_true_eq] at hi
   show i < r.win ∧ (i : Int) < n
   rcases hi with ⟨h4, h5, h6⟩ | h4
   ·refine ⟨h5, ?_⟩
    rw [BitVec.getLsbD_shiftLeft] at h4
    simp only [Bool.and_eq_true, decide_eq_true_eq, Bool.not_eq_true', decide_eq_false_iff_not] at h4
    have := (bs _ h4.2).2
    omega
   ·have e : i = 0 := by
     by_cases e : i = 0
     ·exact e
     ·simp [BitVec.getLsbD_one, e] at h4
    subst e; exact ⟨w1, by omega⟩
  ·simp
 ·next hl =>
  rcases h3 with h3 | ⟨h3, h4⟩
  ·exact absurd h3 hl
  refine ⟨w1, w2, t0, t1, fun i hi => ?_, fun ht => ?_⟩
  ·simp only [BitVec.getLsbD_or, one_bit, Bool.or_eq_true, Bool.and_eq_true, decide_eq_true_eq] at hi
   rcases hi with hi | ⟨hi, _⟩
   ·exact bs i hi
   ·show i < r.win ∧ (i : Int) < r.top
    subst hi; omega
  ·show (r.bits ||| _).getLsbD 0 = true
   rw [BitVec.getLsbD_or, b0 ht, Bool.true_or]
theorem Rp.Ok.take {r : Rp} (h : r.Ok) (n : Int) : (r.take n).2.Ok := by
 unfold Rp.take
 split
 ·next hm => exact h.put hm
 ·exact h
theorem low_none (b : BitVec 64) (n : Nat) (hn : n ≤ 64) : (b &&& ~~~ low n) = 0#64 ↔ ∀ i, b.getLsbD i = true → i < n := by
 constructor
 ·intro h i hi
  have h0 : (b &&& ~~~ low n).getLsbD i = (0#64).getLsbD i := by rw [h]
  have hi64 : i < 64 := by
   rcases Nat.lt_or_ge i 64 with h | h
   ·exact h
   ·rw [BitVec.getLsbD_of_ge _ _ h] at hi; cases hi
  rw [BitVec.getLsbD_and, BitVec.getLsbD_not, hi, low_bit _ _ hn] at h0
  simpa [hi64] using h0
 ·intro h
  apply BitVec.eq_of_getLsbD_eq
  intro i hi
  by_cases hb : b.getLsbD i = true
  ·have := h i hb
   simp [low_bit _ _ hn, this, hi]
  ·simp at hb; simp [hb]
theorem rp_can {r : Rp} (h : r.Ok) {t : Int} {b : BitVec 64} (hc : r.can t b = true) : Rp.Ok ⟨r.win, t, b⟩ := by
 unfold Rp.can at hc
 obtain ⟨h1, h2, h3, h4⟩ := of_decide_eq_true hc
 have w2 := h.w2
 rw [low_none _ _ (by omega)] at h3
 exact ⟨h.w1, h.w2, h1, h2, fun i hi => by have := h3 i hi; show i < r.win ∧ (i : Int) < t; omega, h4⟩
theorem Rp.Ok.set {r : Rp} (h : r.Ok) (t : Int) (b : BitVec 64) : (r.set t b).2.Ok := by
 unfold Rp.set
 split
 ·next hm => exact rp_can h hm
 ·exact h
theorem take_win (r : Rp) (n : Int) : (r.take n).2.win = r.win := by unfold Rp.take Rp.put; split; split; all_goals rfl
end Go.Proofs.YtgpdcapnnejdeaaGreat
end
section
set_option linter.unusedSimpArgs false
namespace Go.Proofs.YtgpdcapnnejdeaaGreat
set_option maxRecDepth 100000
open Go.RowKit

def iv (n : Int) : Value := .int .i64 n
def OwnI (base : Nat) (w : World) (v : Value) (l : List Int) : Prop := w.ownsRow base 2 1 v l.length (l.map iv)
def ownL (v : Value) : List Nat := v.ownBlock.toList
theorem OwnI.form {base : Nat} {w : World} {v : Value} {l : List Int} (h : OwnI base w v l) : ∃ p c, v = .slice p l.length c := by
 obtain ⟨_, h | ⟨g, cap, cur, rfl, _⟩⟩ := h
 ·exact ⟨none, 0, by rw [h.1, h.2]⟩
 ·exact ⟨_, _, rfl⟩
theorem OwnI.at {base : Nat} {w : World} {v : Value} {l : List Int} (h : OwnI base w v l) : ∀ g, g ∈ ownL v → base ≤ g ∧ g < w.heap.size := by
 intro g hg
 obtain ⟨_, h | ⟨g', cap, cur, rfl, hb, hh, _⟩⟩ := h
 ·rw [h.1] at hg; simp [ownL, Value.ownBlock] at hg
 ·simp [ownL, Value.ownBlock] at hg
  subst hg
  exact ⟨hb, at_lt hh⟩
theorem OwnI.cells {base : Nat} {w : World} {v : Value} {l : List Int} (h : OwnI base w v l) {i : Nat} (hi : i < l.length) :
  ∃ g c, v = .slice (some ⟨g, 0, none⟩) l.length c ∧ l.length ≤ c ∧ ∀ j, (h : j < l.length) → w.cell? ⟨g, j, none⟩ = some (.int .i64 l[j]) := by
 obtain ⟨_, h | ⟨g, cap, cur, rfl, _, hh, h1, h2, h3, h4⟩⟩ := h
 ·exact absurd hi (by rw [h.2]; simp)
 ·refine ⟨g, cap, rfl, h1, fun j hj => ?_⟩
  rw [at_cell hh j]
  have hc : cur.toList[j]? = (l.map iv)[j]? := by
   rw [← h4, Nat.mul_one, List.getElem?_take]; simp [hj]
  rw [← Array.getElem?_toList, hc]
  simp [List.getElem?_map, List.getElem?_eq_getElem hj, iv]
theorem OwnI.chg {base : Nat} {w w1 : World} {F : List Nat} {v : Value} {l : List Int} (h : OwnI base w v l) (hg : Chg F w w1) (hr : ∀ g, g ∈ ownL v → g ∉ F) : OwnI base w1 v l := by
 obtain ⟨h0, h | ⟨g, cap, cur, rfl, hb, hh, h1⟩⟩ := h
 ·exact ⟨h0, .inl h⟩
 ·exact ⟨h0, .inr ⟨g, cap, cur, rfl, hb, hg.at hh (hr g (by simp [ownL, Value.ownBlock])), h1⟩⟩
theorem OwnI.nil (base : Nat) (w : World) : OwnI base w (.slice none 0 0) [] := ⟨rfl, .inl ⟨rfl, rfl⟩⟩
theorem OwnI.le {base base' : Nat} {w : World} {v : Value} {l : List Int} (h : OwnI base w v l) (hb : base' ≤ base) : OwnI base' w v l := by
 obtain ⟨h0, h | ⟨g, cap, cur, rfl, hb', h1⟩⟩ := h
 ·exact ⟨h0, .inl h⟩
 ·exact ⟨h0, .inr ⟨g, cap, cur, rfl, Nat.le_trans hb hb', h1⟩⟩
theorem info_i64 : (Tryz.prog.info? 2).map (fun i => (i.zero, i.size, i.bytes)) = some (some (.int .i64 0), 1, 8) := by kernel_rfl
theorem append_int {w : World} {ops : Array Oper} {rest : List Oper} {o : Oper} {a : Act} {Q : Exit → Act → World → Prop} (hgd : o.guard = none) (s x : Operand)
  (ho : o.op = .call { callee := .builtin .append, args := #[s, x], argTypes := #[60, 60] })
  (base : Nat) (v : Value) (l : List Int) (hs : a.eval s = v) (hown : OwnI base w v l) (g : Nat) (n : Int) (hx : a.eval x = .slice (some ⟨g, 0, none⟩) 1 1) (hr : w.cell? ⟨g, 0, none⟩ = some (.int .i64 n))
  (hlen : l.length + 1 ≤ 1000000) (hbase : base ≤ w.heap.size)
  (h : ∀ v' w', OwnI base w' v' (l ++ [n]) → w.grownBy w' v.ownBlock → (v'.ownBlock = v.ownBlock ∨ v'.ownBlock = some w.heap.size) → wpList Tryz.prog ops Q rest (a.put o.dst v') w') : wpList Tryz.prog ops Q (o :: rest) a w := by
 obtain ⟨i, hi, hz0, hz1, hz2⟩ := info_parts info_i64
 refine wpList_append_own_at w hgd s x 60 ho base 2 i (.int .i64 0) 1 8 Tryz.underlying60 hi hz0 hz1 hz2 rfl (by omega) v l.length (l.map iv) hs hown ⟨g, 0, none⟩ 1 1 [iv n] hx (by simp)
  (fun j y hj => by
   cases j with
   | zero => cases hj; exact hr
   | succ j => cases hj)
  (fun y hy => by simp at hy; subst hy; rfl)
  (by unfold maxLen; omega) (by omega) hbase ?_
 intro v' w' h1 h2 _ h3
 refine h v' w' ?_ h2 h3
 unfold OwnI
 rw [List.length_append, List.map_append]
 exact h1
end Go.Proofs.YtgpdcapnnejdeaaGreat
end
section
set_option linter.unusedSimpArgs false
namespace Go.Proofs.YtgpdcapnnejdeaaGreat
set_option maxRecDepth 100000
open Go.RowKit

@[reducible] def ansObj (done : Int) (s : ByteArray) : Obj := .cells #[.int .u32 done, .int .i32 0, .int .u32 0, .string s] 196
@[reducible] def told1 : Option ByteArray → Obj
 | none => ansObj 0 ⟨#[]⟩
 | some s => ansObj 1 s
def ask1 (st : Option ByteArray) (s : ByteArray) (may : Bool) : Option ByteArray :=
 match st with
 | some r => some r
 | none => if may then none else some s

set_option maxHeartbeats 1600000 in
theorem cslow_any (b nb pb : Nat) (hk : b ≠ nb) (hp : b ≠ pb) (s : ByteArray) (w : World)
  (hb : w.heap[b]? = some (ansObj 0 ⟨#[]⟩))
  (hnb : w.heap[nb]? = some (.cells #[.string s] 9))
  (hpb : w.heap[pb]? = some (.cells #[.pointer (some ⟨b, 0, none⟩)] 219)) :
  Calls Tryz.prog 139 #[.pointer (some ⟨b, 0, none⟩), .func (.func 134) #[] #[.pointer (some ⟨nb, 0, none⟩), .pointer (some ⟨pb, 0, none⟩)]] w fun e w' => e = .returned (.tuple #[]) ∧
   w'.heap[b]? = some (ansObj 1 s) ∧ w.grownBy w' (some b) := by
 -- the world in which the lock is held
 have hb1 := at_set hb 1 (.int .i32 1)
 have hnb1 := at_set_other (p := ⟨b, 1, none⟩) hnb (fun h => hk h.symm) (.int .i32 1)
 have hpb1 := at_set_other (p := ⟨b, 1, none⟩) hpb (fun h => hp h.symm) (.int .i32 1)
 have c1 : w.cell? ⟨b, 1, none⟩ = some (.int .i32 0) := at_cell hb 1
 have f1 : w.frozen? ⟨b, 1, none⟩ = false := at_free hb 1
 have hl := run_call_load (P := Tryz.prog) Tryz.func128 (by kernel_rfl) (by kernel_rfl) (by kernel_rfl) .u32 (by kernel_rfl) (w := w.setCell ⟨b, 1, none⟩ (.int .i32 1)) (a := ⟨b, 0, none⟩) (x := 0) (at_cell hb1 0)
 have hnot : ∀ (x : Bool) (w : World), (Op.unary .not (.bool x)).run Tryz.prog w = .ok (.bool (!x)) w := fun _ _ => rfl
 have p0 : (w.setCell ⟨b, 1, none⟩ (.int .i32 1)).cell? ⟨pb, 0, none⟩ = some (.pointer (some ⟨b, 0, none⟩)) := at_cell hpb1 0
 have q0 : (w.setCell ⟨b, 1, none⟩ (.int .i32 1)).cell? ⟨nb, 0, none⟩ = some (.string s) := at_cell hnb1 0
 have x3 : (w.setCell ⟨b, 1, none⟩ (.int .i32 1)).cell? ⟨b, 3, none⟩ = some (.string ⟨#[]⟩) := at_cell hb1 3
 have fz : ∀ i, w.frozen? ⟨b, i, none⟩ = false := fun i => at_free hb i
 have HB := hid hb; have HB1 := hid hb1
 clear hb hnb hpb hb1 hnb1 hpb1
 go_enter_defers Tryz.func139, Tryz.ntmps139
 go_wp2_with (go_at_call 141; refine (lock_free ⟨b, 1, none⟩ _ (by go_simp) (by go_simp)).mono ?_; rintro e w' ⟨rfl, rfl⟩)
 go_wp2
 go_end0
 go_wp2
 have hb3 := at_set HB1.out 3 (.string s)
 have hb4 := at_set (at_drew hb3) 0 (.int .u32 1)
 have hb5 := at_set hb4 1 (.int .i32 0)
 have hg3 := gb_row (gb_row (.refl w (some b)) (p := ⟨b, 1, none⟩) rfl (.int .i32 1)) (p := ⟨b, 3, none⟩) rfl (.string s)
 have hg5 := gb_row (gb_row (gb_drew hg3) (p := ⟨b, 0, none⟩) rfl (.int .u32 1)) (p := ⟨b, 1, none⟩) rfl (.int .i32 0)
 -- the door: two deferred calls, the last laid first
 refine leaves_cons (f := 143) (args := #[.pointer (some ⟨b, 0, none⟩), .bool true]) (by simp) (by simp [go_sem]) ?_
 refine (store_deferred ⟨b, 0, none⟩ (.int .u32 0) .returning _ (at_cell hb3 0) (at_free hb3 0)).mono ?_
 rintro e u' w'' ⟨rfl, rfl, rfl⟩
 refine leaves_cons (f := 142) (args := #[.pointer (some ⟨b, 1, none⟩)]) (by simp [settle]) (by simp [go_sem]) ?_
 refine (unlock_deferred ⟨b, 1, none⟩ _ _ (at_cell hb4 1) (at_free hb4 1)).mono ?_
 rintro e u' w'' ⟨rfl, rfl, rfl⟩
 clear hb3 hb4 hg3 x3 p0 q0 hl HB HB1 fz c1 f1 hnot
 have H5 := hid hb5; have G5 := hid hg5; clear hb5 hg5
 simp [Go.Leaves, settle, results, Tryz.results139]
 exact ⟨H5.out, G5.out⟩

set_option maxHeartbeats 800000 in
theorem cdo_first (b nb pb : Nat) (hk : b ≠ nb) (hp : b ≠ pb) (s : ByteArray) (w : World)
  (hb : w.heap[b]? = some (ansObj 0 ⟨#[]⟩))
  (hnb : w.heap[nb]? = some (.cells #[.string s] 9))
  (hpb : w.heap[pb]? = some (.cells #[.pointer (some ⟨b, 0, none⟩)] 219)) :
  Calls Tryz.prog 133 #[.pointer (some ⟨b, 0, none⟩), .func (.func 134) #[] #[.pointer (some ⟨nb, 0, none⟩), .pointer (some ⟨pb, 0, none⟩)]] w fun e w' => e = .returned (.tuple #[]) ∧
   w'.heap[b]? = some (ansObj 1 s) ∧ w.grownBy w' (some b) := by
 have hl := run_call_load (P := Tryz.prog) Tryz.func128 (by kernel_rfl) (by kernel_rfl) (by kernel_rfl) .u32 (by kernel_rfl) (w := w) (a := ⟨b, 0, none⟩) (x := 0) (at_cell hb 0)
 have hnot : ∀ (x : Bool) (w : World), (Op.unary .not (.bool x)).run Tryz.prog w = .ok (.bool (!x)) w := fun _ _ => rfl
 have HB := hid hb; have HK := hid hnb; have HP := hid hpb
 clear hb hnb hpb
 go_enter Tryz.func133, Tryz.ntmps133
 go_wp2_with (go_at_call 138; go_in)
 refine (cslow_any b nb pb hk hp s _ HB.out HK.out HP.out).mono ?_
 rintro e w' ⟨rfl, h1, h2⟩
 have H1 := hid h1; clear h1
 go_wp2
 go_end0
 exact ⟨rfl, H1.out, h2⟩

set_option maxHeartbeats 800000 in
theorem ask_may (b : Nat) (s : ByteArray) (w : World) :
  Calls Tryz.prog 118 #[.pointer (some ⟨b, 0, none⟩), .string s, .bool true] w fun e w' => e = .returned (.tuple #[]) ∧ w.grownBy w' none := by
 have hnot : ∀ (x : Bool) (w : World), (Op.unary .not (.bool x)).run Tryz.prog w = .ok (.bool (!x)) w := fun _ _ => rfl
 go_enter Tryz.func118, Tryz.ntmps118
 go_wp2_with fail
 go_end0
 exact ⟨rfl, gb_alloc (gb_alloc (.refl _ _) _) _⟩

set_option maxHeartbeats 800000 in
theorem ask_first (b : Nat) (s : ByteArray) (w : World) (hb : w.heap[b]? = some (ansObj 0 ⟨#[]⟩)) :
  Calls Tryz.prog 118 #[.pointer (some ⟨b, 0, none⟩), .string s, .bool false] w fun e w' => e = .returned (.tuple #[]) ∧
   w'.heap[b]? = some (ansObj 1 s) ∧ w.grownBy w' (some b) := by
 have hmf : ∀ (fn : Fn) (first cap : Array Value) (w : World), (Instr.makeFunc fn first cap).run Tryz.prog w = .ok (.func fn first cap) w := fun _ _ _ _ => rfl
 have hnot : ∀ (x : Bool) (w : World), (Op.unary .not (.bool x)).run Tryz.prog w = .ok (.bool (!x)) w := fun _ _ => rfl
 have hlt := at_lt hb
 have HB := hid hb
 clear hb
 go_enter Tryz.func118, Tryz.ntmps118
 go_wp2_with fail
 refine (cdo_first b (w.heap.size + 1) w.heap.size (by omega) (by omega) s _ (at_alloc (at_alloc HB.out _) _) (by simpa using at_new (w.alloc _) _) (at_alloc (at_new w _) _)).mono ?_
 rintro e w' ⟨rfl, h1, h2⟩
 have H1 := hid h1; clear h1
 go_wp2
 go_end0
 exact ⟨rfl, H1.out, gb_trans (gb_alloc (gb_alloc (.refl _ _) _) _) h2 (.inr (.inl rfl))⟩

set_option maxHeartbeats 800000 in
theorem ask_later (b : Nat) (s r : ByteArray) (w : World) (hb : w.heap[b]? = some (ansObj 1 r)) :
  Calls Tryz.prog 118 #[.pointer (some ⟨b, 0, none⟩), .string s, .bool false] w fun e w' => e = .returned (.tuple #[]) ∧ w.grownBy w' none := by
 have hmf : ∀ (fn : Fn) (first cap : Array Value) (w : World), (Instr.makeFunc fn first cap).run Tryz.prog w = .ok (.func fn first cap) w := fun _ _ _ _ => rfl
 have hnot : ∀ (x : Bool) (w : World), (Op.unary .not (.bool x)).run Tryz.prog w = .ok (.bool (!x)) w := fun _ _ => rfl
 have HB := hid hb
 clear hb
 go_enter Tryz.func118, Tryz.ntmps118
 go_wp2_with fail
 refine (do_done ⟨b, 0, none⟩ 1 (by decide) _ _ (at_cell (at_alloc (at_alloc HB.out _) _) 0)).mono ?_
 rintro e w' ⟨rfl, rfl⟩
 go_wp2
 go_end0
 exact ⟨rfl, gb_alloc (gb_alloc (.refl _ _) _) _⟩

theorem ask_any (b : Nat) (s : ByteArray) (may : Bool) (st : Option ByteArray) (w : World) (hb : w.heap[b]? = some (told1 st)) :
  Calls Tryz.prog 118 #[.pointer (some ⟨b, 0, none⟩), .string s, .bool may] w fun e w' => e = .returned (.tuple #[]) ∧
   w'.heap[b]? = some (told1 (ask1 st s may)) ∧ w.grownBy w' (some b) := by
 have weak : ∀ {a c : World}, a.grownBy c none → a.grownBy c (some b) := fun h => ⟨h.os, h.tape, h.output, h.size, fun i hi _ => h.block i hi (by simp)⟩
 cases may with
 | true =>
  refine (ask_may b s w).mono ?_
  rintro e w' ⟨rfl, hg⟩
  refine ⟨rfl, ?_, weak hg⟩
  rw [at_grown hb hg (by simp)]
  cases st <;> rfl
 | false =>
  cases st with
  | none => exact ask_first b s w hb
  | some r =>
   refine (ask_later b s r w hb).mono ?_
   rintro e w' ⟨rfl, hg⟩
   exact ⟨rfl, at_grown hb hg (by simp), weak hg⟩
end Go.Proofs.YtgpdcapnnejdeaaGreat
end
