/-
  Contracts for package wire and the document's own answer: which messages may be, a message's first eight bytes as a number. No condition.
-/
import Derived.Test.YtjmcjkmfpcphnaaWPure
import Derived.Test.YtjmcjkmfpcphnaaMacB
import Derived.Test.YtjmcjkmfpcphnaaOps
set_option linter.unusedSimpArgs false
namespace Go.Proofs.Ytjmcjkmfpcphnaa
set_option maxRecDepth 100000
open Go.RowKit

@[reducible] def Mg.cells (m : Mg) : Array Value := #[.int .i64 m.kind, .int .i64 m.who, .int .i64 m.gen, .int .i64 m.seq, .int .i64 m.epoch, .int .i64 m.value, .int .i64 m.metric]
@[reducible] def mg (m : Mg) : Value := .agg m.cells

def within (n lo hi : Int) : Bool := decide (lo ≤ n) && decide (n ≤ hi)
theorem within_any (n lo hi : Int) (w : World) :
    Calls Try.prog 32 #[.int .i64 n, .int .i64 lo, .int .i64 hi] w fun e w' => e = .returned (.bool (within n lo hi)) ∧ w' = w := by
  unfold within
  by_cases h1 : lo ≤ n <;> by_cases h2 : n ≤ hi <;> (
  go_enter Try.func32, Try.ntmps32
  go_wp2_with fail
  go_ret
  simp [h1, h2])
theorem within64_any (n lo hi : Int) (w : World) :
    Calls Try.prog 33 #[.int .i64 n, .int .i64 lo, .int .i64 hi] w fun e w' => e = .returned (.bool (within n lo hi)) ∧ w' = w := by
  unfold within
  by_cases h1 : lo ≤ n <;> by_cases h2 : n ≤ hi <;> (
  go_enter Try.func33, Try.ntmps33
  go_wp2_with fail
  go_ret
  simp [h1, h2])
theorem in_any (n lo hi : Int) (w : World) :
    Calls Try.prog 35 #[.int .i64 n, .int .i64 lo, .int .i64 hi] w fun e w' => e = .returned (.bool (within n lo hi)) ∧ w' = w := by
  unfold within
  by_cases h1 : lo ≤ n <;> by_cases h2 : n ≤ hi <;> (
  go_enter Try.func35, Try.ntmps35
  go_wp2_with fail
  go_ret
  simp [h1, h2])

/-- the function's own block: the message that came in; all else as it was, or new -/
structure BoxM (w : World) (m : Mg) (w' : World) : Prop where
  box : w'.heap[w.heap.size]? = some (.cells m.cells 23)
  g : w.grownBy w' none
theorem BoxM.grown {w : World} {m : Mg} {w1 w2 : World} (h : BoxM w m w1) (hg : w1.grownBy w2 none) : BoxM w m w2 := ⟨at_grown h.box hg (by simp), gb_trans h.g hg (.inl rfl)⟩
theorem BoxM.drew {w : World} {m : Mg} {w1 : World} (h : BoxM w m w1) : BoxM w m w1.drew := ⟨h.box, gb_drew h.g⟩
theorem boxm_new (w : World) (m : Mg) : BoxM w m (w.alloc (.cells m.cells 23)) := ⟨at_new w _, gb_alloc (.refl w none) _⟩
theorem msg_cells {w : World} {b : Nat} {m : Mg} {t : TypeId} {fr : Nat × Nat} (h : w.heap[b]? = some (.cells m.cells t fr)) :
    w.cell? ⟨b, 0, none⟩ = some (.int .i64 m.kind) ∧ w.cell? ⟨b, 1, none⟩ = some (.int .i64 m.who) ∧ w.cell? ⟨b, 2, none⟩ = some (.int .i64 m.gen) ∧ w.cell? ⟨b, 3, none⟩ = some (.int .i64 m.seq) ∧ w.cell? ⟨b, 4, none⟩ = some (.int .i64 m.epoch) ∧ w.cell? ⟨b, 5, none⟩ = some (.int .i64 m.value) ∧ w.cell? ⟨b, 6, none⟩ = some (.int .i64 m.metric) :=
  ⟨at_cell h 0, at_cell h 1, at_cell h 2, at_cell h 3, at_cell h 4, at_cell h 5, at_cell h 6⟩

def measB (m : Mg) : Bool := if m.kind = 1 then within m.metric 0 3 && within m.value 0 1099511627776 else decide (m.metric = 0) && decide (m.value = 0)
set_option maxHeartbeats 1600000 in
theorem measures_any (m : Mg) (w : World) :
    Calls Try.prog 34 #[mg m] w fun e w' => e = .returned (.bool (measB m)) ∧ w.grownBy w' none := by
  unfold measB
  by_cases hk : m.kind = 1
  · have HK := hid hk
    obtain ⟨x, hx⟩ : ∃ x, within m.metric 0 3 = x := ⟨_, rfl⟩
    obtain ⟨y, hy⟩ : ∃ y, within m.value 0 1099511627776 = y := ⟨_, rfl⟩
    have h1 := fun w => within_any m.metric 0 3 w
    have h2 := fun w => within64_any m.value 0 1099511627776 w
    rw [hx] at h1; rw [hy] at h2
    rw [if_pos hk, hx, hy]
    clear hx hy
    have C1 := hid h1; have C2 := hid h2; clear h1 h2
    cases x <;> (
    go_enter Try.func34, Try.ntmps34
    go_wp2_with (first | (go_at_call 32; (with_reducible refine (C1.out _).mono ?_); rintro e w1 ⟨rfl, rfl⟩) | (go_at_call 33; (with_reducible refine (C2.out _).mono ?_); rintro e w2 ⟨rfl, rfl⟩))
    go_ret
    exact ⟨rfl, gb_alloc (.refl w none) _⟩)
  · rw [if_neg hk]
    by_cases h1 : m.metric = 0 <;> by_cases h2 : m.value = 0 <;> (
    go_enter Try.func34, Try.ntmps34
    go_wp2_with fail
    go_ret
    refine ⟨by simp [h1, h2], gb_alloc (.refl w none) _⟩)
theorem may_bool (m : Mg) : mayOf m = (within m.kind 1 3 && within m.who 0 15 && within m.gen 0 60000 && within m.seq 1 1099511627776 && within m.epoch 0 1099511627776 && measB m) := by
  rw [Bool.eq_iff_iff]
  unfold mayOf May measB within
  by_cases h : m.kind = 1 <;> simp [h, and_assoc]
end Go.Proofs.Ytjmcjkmfpcphnaa
