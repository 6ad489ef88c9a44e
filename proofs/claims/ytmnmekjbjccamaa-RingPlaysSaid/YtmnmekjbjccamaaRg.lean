/-
  Contracts for package ring: what a ring is, and its calls but Key. The condition of a call: the ring lies there; or it is nil.
-/
import Derived.Test.YtmnmekjbjccamaaChg
import Derived.Test.YtmnmekjbjccamaaQ
import Derived.Test.YtmnmekjbjccamaaOnce
set_option linter.unusedSimpArgs false
namespace Go.Proofs.Ytmnmekjbjccamaa
set_option maxRecDepth 100000
open Go.RowKit

/-- generations of keys -/
structure Rg where
  seed : BitVec 64
  n : Nat
  grace : Nat
  gen : Nat → Int
  since : Nat → Int
structure Rg.Ok (r : Rg) : Prop where
  n1 : 1 ≤ r.n
  n2 : r.n ≤ 16
  g1 : 1 ≤ r.grace
  g2 : r.grace ≤ 100
  e0 : ∀ i, 0 ≤ r.gen i
  e1 : ∀ i, r.gen i ≤ 60000
  s0 : ∀ i, 0 ≤ r.since i
  s1 : ∀ i, r.since i ≤ 1099511627776
def Rg.new (seed : BitVec 64) (n grace : Nat) : Rg := ⟨seed, n, grace, fun _ => 0, fun _ => 0⟩
def Rg.put (r : Rg) (i : Nat) (g s : Int) : Rg := { r with gen := fun j => if j = i then g else r.gen j, since := fun j => if j = i then s else r.since j }
theorem rg_new_ok (seed : BitVec 64) {n grace : Nat} (h1 : 1 ≤ n) (h2 : n ≤ 16) (h3 : 1 ≤ grace) (h4 : grace ≤ 100) : (Rg.new seed n grace).Ok :=
  ⟨h1, h2, h3, h4, fun _ => Int.le_refl _, fun _ => by show (0 : Int) ≤ _; decide, fun _ => Int.le_refl _, fun _ => by show (0 : Int) ≤ _; decide⟩
theorem Rg.Ok.put {r : Rg} (h : r.Ok) (i : Nat) {g s : Int} (g0 : 0 ≤ g) (g1 : g ≤ 60000) (s0 : 0 ≤ s) (s1 : s ≤ 1099511627776) : (r.put i g s).Ok :=
  ⟨h.n1, h.n2, h.g1, h.g2, fun j => by simp only [Rg.put]; split; exact g0; exact h.e0 j, fun j => by simp only [Rg.put]; split; exact g1; exact h.e1 j,
    fun j => by simp only [Rg.put]; split; exact s0; exact h.s0 j, fun j => by simp only [Rg.put]; split; exact s1; exact h.s1 j⟩

/-- a ring of the program's -/
structure RgAt (w : World) (b h : Nat) (r : Rg) : Prop where
  top : w.heap[b]? = some (.cells #[.int .u64 (q r.seed), .int .i64 (r.grace : Int), .slice (some ⟨h, 0, none⟩) r.n r.n] 76)
  row : ∃ cs : Array Value, w.heap[h]? = some (.cells cs 86) ∧ ∀ i, i < r.n → cs[i * 2]? = some (.int .i64 (r.gen i)) ∧ cs[i * 2 + 1]? = some (.int .i64 (r.since i))
  ne : b ≠ h
  ok : r.Ok
theorem RgAt.chg {w w' : World} {F : List Nat} {b h : Nat} {r : Rg} (H : RgAt w b h r) (hc : Chg F w w') (hb : b ∉ F) (hh : h ∉ F) : RgAt w' b h r :=
  ⟨hc.at H.top hb, by obtain ⟨cs, h1, h2⟩ := H.row; exact ⟨cs, hc.at h1 hh, h2⟩, H.ne, H.ok⟩
theorem RgAt.grown {w w' : World} {b h : Nat} {r : Rg} (H : RgAt w b h r) (hg : w.grownBy w' none) : RgAt w' b h r := H.chg (chg_grown hg []) (by simp) (by simp)
theorem RgAt.drew {w : World} {b h : Nat} {r : Rg} (H : RgAt w b h r) : RgAt w.drew b h r := ⟨H.top, H.row, H.ne, H.ok⟩
theorem RgAt.tops {w : World} {b h : Nat} {r : Rg} (H : RgAt w b h r) : w.cell? ⟨b, 0, none⟩ = some (.int .u64 (q r.seed)) ∧ w.cell? ⟨b, 1, none⟩ = some (.int .i64 (r.grace : Int)) ∧ w.cell? ⟨b, 2, none⟩ = some (.slice (some ⟨h, 0, none⟩) r.n r.n) :=
  ⟨at_cell H.top 0, at_cell H.top 1, at_cell H.top 2⟩
theorem RgAt.cells {w : World} {b h : Nat} {r : Rg} (H : RgAt w b h r) {i : Nat} (hi : i < r.n) : w.cell? ⟨h, i * 2, none⟩ = some (.int .i64 (r.gen i)) ∧ w.cell? ⟨h, i * 2 + 1, none⟩ = some (.int .i64 (r.since i)) ∧ w.frozen? ⟨h, i * 2, none⟩ = false ∧ w.frozen? ⟨h, i * 2 + 1, none⟩ = false := by
  obtain ⟨cs, h1, h2⟩ := H.row
  exact ⟨(at_cell h1 _).trans (h2 i hi).1, (at_cell h1 _).trans (h2 i hi).2, at_free h1 _, at_free h1 _⟩
theorem RgAt.lt {w : World} {b h : Nat} {r : Rg} (H : RgAt w b h r) : b < w.heap.size ∧ h < w.heap.size := ⟨at_lt H.top, by obtain ⟨_, h1, _⟩ := H.row; exact at_lt h1⟩
theorem RgAt.put {w : World} {b h : Nat} {r : Rg} (H : RgAt w b h r) {i : Nat} (hi : i < r.n) {g s : Int} (g0 : 0 ≤ g) (g1 : g ≤ 60000) (s0 : 0 ≤ s) (s1 : s ≤ 1099511627776) :
    RgAt ((w.setCell ⟨h, i * 2, none⟩ (.int .i64 g)).setCell ⟨h, i * 2 + 1, none⟩ (.int .i64 s)) b h (r.put i g s) := by
  obtain ⟨cs, h1, h2⟩ := H.row
  have b0 := at_lt H.top
  refine ⟨at_set_other (at_set_other H.top H.ne _) H.ne _, ⟨_, at_set (at_set h1 _ _) _ _, fun j hj => ?_⟩, H.ne, H.ok.put i g0 g1 s0 s1⟩
  obtain ⟨k1, k2⟩ := h2 j hj
  obtain ⟨m1, m2⟩ := h2 i hi
  have z1 : i * 2 < cs.size := (Array.getElem?_eq_some_iff.1 m1).1
  have z2 : i * 2 + 1 < cs.size := (Array.getElem?_eq_some_iff.1 m2).1
  have n1 : ¬ i * 2 + 1 = j * 2 := by omega
  have n2 : ¬ i * 2 = j * 2 + 1 := by omega
  simp only [Rg.put]
  by_cases e : j = i
  · subst e
    rw [if_pos rfl, if_pos rfl]
    constructor
    · rw [Array.getElem?_setIfInBounds, if_neg n1, Array.getElem?_setIfInBounds, if_pos rfl, if_pos z1]
    · rw [Array.getElem?_setIfInBounds, if_pos rfl, if_pos (by simpa using z2)]
  · have n3 : ¬ i * 2 = j * 2 := by omega
    have n4 : ¬ i * 2 + 1 = j * 2 + 1 := by omega
    rw [if_neg e, if_neg e]
    constructor
    · rw [Array.getElem?_setIfInBounds, if_neg n1, Array.getElem?_setIfInBounds, if_neg n3]; exact k1
    · rw [Array.getElem?_setIfInBounds, if_neg n4, Array.getElem?_setIfInBounds, if_neg n2]; exact k2

theorem within_in (x lo hi : Int) (h0 : lo ≤ x) (h1 : x ≤ hi) (w : World) :
    Calls Try.prog 38 #[.int .i64 x, .int .i64 lo, .int .i64 hi] w fun e w' => e = .returned (.bool true) ∧ w = w' := by
  go_enter Try.func38, Try.ntmps38
  go_wp2
  go_ret
  exact ⟨rfl, rfl⟩
theorem within_out (x lo hi : Int) (h : x < lo ∨ hi < x) (w : World) :
    Calls Try.prog 38 #[.int .i64 x, .int .i64 lo, .int .i64 hi] w fun e w' => e = .returned (.bool false) ∧ w = w' := by
  by_cases h0 : lo ≤ x
  · have hd : decide (x ≤ hi) = false := by simp; omega
    go_enter Try.func38, Try.ntmps38
    go_wp2
    go_ret
    exact ⟨rfl, rfl⟩
  · go_enter Try.func38, Try.ntmps38
    go_wp2
    go_ret
    exact ⟨rfl, rfl⟩
theorem within64_in (x lo hi : Int) (h0 : lo ≤ x) (h1 : x ≤ hi) (w : World) :
    Calls Try.prog 41 #[.int .i64 x, .int .i64 lo, .int .i64 hi] w fun e w' => e = .returned (.bool true) ∧ w = w' := by
  go_enter Try.func41, Try.ntmps41
  go_wp2
  go_ret
  exact ⟨rfl, rfl⟩
theorem within64_out (x lo hi : Int) (h : x < lo ∨ hi < x) (w : World) :
    Calls Try.prog 41 #[.int .i64 x, .int .i64 lo, .int .i64 hi] w fun e w' => e = .returned (.bool false) ∧ w = w' := by
  by_cases h0 : lo ≤ x
  · have hd : decide (x ≤ hi) = false := by simp; omega
    go_enter Try.func41, Try.ntmps41
    go_wp2
    go_ret
    exact ⟨rfl, rfl⟩
  · go_enter Try.func41, Try.ntmps41
    go_wp2
    go_ret
    exact ⟨rfl, rfl⟩

/-- sync/atomic's Int64 -/
theorem load_i64 (a : Addr) (x : Int) (w : World) (hc : w.cell? a = some (.int .i64 x)) :
    Calls Try.prog 52 #[.pointer (some a)] w fun e w' => e = .returned (.int .i64 x) ∧ w = w' := by
  have hl := run_call_load (P := Try.prog) Try.func61 (by kernel_rfl) (by kernel_rfl) (by kernel_rfl) .i64 (by kernel_rfl) hc
  go_enter Try.func52, Try.ntmps52
  go_wp2
  go_ret
  exact ⟨rfl, rfl⟩
theorem add_i64 (a : Addr) (x : Int) (w : World) (hc : w.cell? a = some (.int .i64 x)) (hz : w.frozen? a = false) (h0 : 0 ≤ x) (h1 : x < 1000000000000000000) :
    Calls Try.prog 42 #[.pointer (some a), .int .i64 1] w fun e w' => e = .returned (.int .i64 (x + 1)) ∧ w' = w.setCell a (.int .i64 (x + 1)) := by
  have hadd := run_call_add (P := Try.prog) Try.func53 (by kernel_rfl) (by kernel_rfl) (by kernel_rfl) .i64 (by kernel_rfl) (y := 1) (s := x + 1) hc hz (by simp [go_sem, IntKind.wrap, IntKind.bits, IntKind.signed]; omega)
  go_enter Try.func42, Try.ntmps42
  go_wp2
  go_ret
  exact ⟨rfl, rfl⟩
theorem store_i64 (a : Addr) (y : Int) (u : Value) (w : World) (hc : w.cell? a = some u) (hz : w.frozen? a = false) :
    Calls Try.prog 43 #[.pointer (some a), .int .i64 y] w fun e w' => e = .returned (.tuple #[]) ∧ w' = w.setCell a (.int .i64 y) := by
  have hs := run_call_store (P := Try.prog) Try.func54 (by kernel_rfl) (by kernel_rfl) (by kernel_rfl) (by kernel_rfl) (k := .i64) (y := y) hc hz
  go_enter Try.func43, Try.ntmps43
  go_wp2
  go_end0
  exact ⟨rfl, rfl⟩

theorem has_at (a : Addr) (ha : a.spot = none) (x : Int) (w : World) (hc : w.cell? a = some (.int .i64 x)) :
    Calls Try.prog 40 #[.pointer (some a)] w fun e w' => e = .returned (.int .i64 x) ∧ w = w' := by
  obtain ⟨b, i, s⟩ := a
  obtain rfl : s = none := ha
  go_enter Try.func40, Try.ntmps40
  go_wp2_with fail
  refine (load_i64 _ x _ hc).mono ?_
  rintro e w' ⟨rfl, rfl⟩
  go_wp2_with fail
  go_ret
  exact ⟨rfl, rfl⟩

theorem find_nil (x : Int) (w : World) :
    Calls Try.prog 39 #[.pointer none, .int .i64 x] w fun e w' => e = .returned (.tuple #[.pointer none, .int .i64 1]) ∧ w = w' := by
  go_enter Try.func39, Try.ntmps39
  go_wp2
  go_ret2
  exact ⟨rfl, rfl⟩
theorem find_out {b h : Nat} {r : Rg} (x : Int) (w : World) (H : RgAt w b h r) (hx : x < 0 ∨ (r.n : Int) ≤ x) :
    Calls Try.prog 39 #[.pointer (some ⟨b, 0, none⟩), .int .i64 x] w fun e w' => e = .returned (.tuple #[.pointer none, .int .i64 3]) ∧ w = w' := by
  obtain ⟨c0, c1, c2⟩ := H.tops
  have n1 := H.ok.n1
  have n2 := H.ok.n2
  clear H
  generalize r.n = n at *
  go_enter Try.func39, Try.ntmps39
  go_wp2_with fail
  refine (within_out x 0 _ (by omega) _).mono ?_
  rintro e w' ⟨rfl, rfl⟩
  go_wp2_with fail
  go_ret2
  exact ⟨rfl, rfl⟩
theorem find_in {b h : Nat} {r : Rg} (i : Nat) (w : World) (H : RgAt w b h r) (hi : i < r.n) :
    Calls Try.prog 39 #[.pointer (some ⟨b, 0, none⟩), .int .i64 (i : Int)] w fun e w' => e = .returned (.tuple #[.pointer (some ⟨h, i * 2, none⟩), .int .i64 0]) ∧ w = w' := by
  obtain ⟨c0, c1, c2⟩ := H.tops
  have n1 := H.ok.n1
  have n2 := H.ok.n2
  clear H
  generalize r.n = n at *
  go_enter Try.func39, Try.ntmps39
  go_wp2_with fail
  refine (within_in (i : Int) 0 _ (by omega) (by omega) _).mono ?_
  rintro e w' ⟨rfl, rfl⟩
  go_wp2_with fail
  go_ret2
  exact ⟨rfl, rfl⟩
end Go.Proofs.Ytmnmekjbjccamaa
