/-
  Contracts for the answer of package conf, which is made once: a part that may not be makes it, if no part ahead of it did. The condition: the answer's block is as the program makes it, its lock free.
-/
import Derived.Test.YtabfeaifbjfdoaaOnce
import Derived.Test.YtabfeaifbjfdoaaCf
set_option linter.unusedSimpArgs false
namespace Go.Proofs.Ytabfeaifbjfdoaa
set_option maxRecDepth 100000
open Go.RowKit

/-- a block that is an answer: not made, or made with a name -/
@[reducible] def ansObj (done : Int) (s : ByteArray) : Obj := .cells #[.int .u32 done, .int .i32 0, .int .u32 0, .string s] 53
/-- which name, if one -/
@[reducible] def told1 : Option ByteArray → Obj
  | none => ansObj 0 ⟨#[]⟩
  | some s => ansObj 1 s
def ask1 (st : Option ByteArray) (s : ByteArray) (may : Bool) : Option ByteArray :=
  match st with
  | some r => some r
  | none => if may then none else some s

set_option maxHeartbeats 1600000 in
theorem slow_any (b nb pb : Nat) (hk : b ≠ nb) (hp : b ≠ pb) (s : ByteArray) (w : World)
    (hb : w.heap[b]? = some (ansObj 0 ⟨#[]⟩))
    (hnb : w.heap[nb]? = some (.cells #[.string s] 9))
    (hpb : w.heap[pb]? = some (.cells #[.pointer (some ⟨b, 0, none⟩)] 58)) :
    Calls Try.prog 25 #[.pointer (some ⟨b, 0, none⟩), .func (.func 23) #[] #[.pointer (some ⟨nb, 0, none⟩), .pointer (some ⟨pb, 0, none⟩)]] w fun e w' => e = .returned (.tuple #[]) ∧
      w'.heap[b]? = some (ansObj 1 s) ∧ w.grownBy w' (some b) := by
  -- the world in which the lock is held
  have hb1 := at_set hb 1 (.int .i32 1)
  have hnb1 := at_set_other (p := ⟨b, 1, none⟩) hnb (fun h => hk h.symm) (.int .i32 1)
  have hpb1 := at_set_other (p := ⟨b, 1, none⟩) hpb (fun h => hp h.symm) (.int .i32 1)
  have c1 : w.cell? ⟨b, 1, none⟩ = some (.int .i32 0) := at_cell hb 1
  have f1 : w.frozen? ⟨b, 1, none⟩ = false := at_free hb 1
  have hl := run_call_load (P := Try.prog) Try.func26 (by kernel_rfl) (by kernel_rfl) (by kernel_rfl) .u32 (by kernel_rfl) (w := w.setCell ⟨b, 1, none⟩ (.int .i32 1)) (a := ⟨b, 0, none⟩) (x := 0) (at_cell hb1 0)
  have hnot : ∀ (x : Bool) (w : World), (Op.unary .not (.bool x)).run Try.prog w = .ok (.bool (!x)) w := fun _ _ => rfl
  have p0 : (w.setCell ⟨b, 1, none⟩ (.int .i32 1)).cell? ⟨pb, 0, none⟩ = some (.pointer (some ⟨b, 0, none⟩)) := at_cell hpb1 0
  have q0 : (w.setCell ⟨b, 1, none⟩ (.int .i32 1)).cell? ⟨nb, 0, none⟩ = some (.string s) := at_cell hnb1 0
  have x3 : (w.setCell ⟨b, 1, none⟩ (.int .i32 1)).cell? ⟨b, 3, none⟩ = some (.string ⟨#[]⟩) := at_cell hb1 3
  have fz : ∀ i, w.frozen? ⟨b, i, none⟩ = false := fun i => at_free hb i
  have HB := hid hb; have HB1 := hid hb1
  clear hb hnb hpb hb1 hnb1 hpb1
  go_enter_defers Try.func25, Try.ntmps25
  go_wp2_with (go_at_call 27; refine (lock_free ⟨b, 1, none⟩ _ (by go_simp) (by go_simp)).mono ?_; rintro e w' ⟨rfl, rfl⟩)
  go_wp2
  go_end0
  go_wp2
  have hb3 := at_set HB1.out 3 (.string s)
  have hb4 := at_set (at_drew hb3) 0 (.int .u32 1)
  have hb5 := at_set hb4 1 (.int .i32 0)
  have hg3 := gb_row (gb_row (.refl w (some b)) (p := ⟨b, 1, none⟩) rfl (.int .i32 1)) (p := ⟨b, 3, none⟩) rfl (.string s)
  have hg5 := gb_row (gb_row (gb_drew hg3) (p := ⟨b, 0, none⟩) rfl (.int .u32 1)) (p := ⟨b, 1, none⟩) rfl (.int .i32 0)
  -- the door: two deferred calls, the last laid first
  refine leaves_cons (f := 29) (args := #[.pointer (some ⟨b, 0, none⟩), .bool true]) (by simp) (by simp [go_sem]) ?_
  refine (store_deferred ⟨b, 0, none⟩ (.int .u32 0) .returning _ (at_cell hb3 0) (at_free hb3 0)).mono ?_
  rintro e u' w'' ⟨rfl, rfl, rfl⟩
  refine leaves_cons (f := 28) (args := #[.pointer (some ⟨b, 1, none⟩)]) (by simp [settle]) (by simp [go_sem]) ?_
  refine (unlock_deferred ⟨b, 1, none⟩ _ _ (at_cell hb4 1) (at_free hb4 1)).mono ?_
  rintro e u' w'' ⟨rfl, rfl, rfl⟩
  clear hb3 hb4 hg3 x3 p0 q0 hl HB HB1 fz c1 f1 hnot
  have H5 := hid hb5; have G5 := hid hg5; clear hb5 hg5
  simp [Leaves, settle, results, Try.results25]
  exact ⟨H5.out, G5.out⟩

set_option maxHeartbeats 800000 in
theorem do_first (b nb pb : Nat) (hk : b ≠ nb) (hp : b ≠ pb) (s : ByteArray) (w : World)
    (hb : w.heap[b]? = some (ansObj 0 ⟨#[]⟩))
    (hnb : w.heap[nb]? = some (.cells #[.string s] 9))
    (hpb : w.heap[pb]? = some (.cells #[.pointer (some ⟨b, 0, none⟩)] 58)) :
    Calls Try.prog 22 #[.pointer (some ⟨b, 0, none⟩), .func (.func 23) #[] #[.pointer (some ⟨nb, 0, none⟩), .pointer (some ⟨pb, 0, none⟩)]] w fun e w' => e = .returned (.tuple #[]) ∧
      w'.heap[b]? = some (ansObj 1 s) ∧ w.grownBy w' (some b) := by
  have hl := run_call_load (P := Try.prog) Try.func26 (by kernel_rfl) (by kernel_rfl) (by kernel_rfl) .u32 (by kernel_rfl) (w := w) (a := ⟨b, 0, none⟩) (x := 0) (at_cell hb 0)
  have hnot : ∀ (x : Bool) (w : World), (Op.unary .not (.bool x)).run Try.prog w = .ok (.bool (!x)) w := fun _ _ => rfl
  have HB := hid hb; have HK := hid hnb; have HP := hid hpb
  clear hb hnb hpb
  go_enter Try.func22, Try.ntmps22
  go_wp2_with (go_at_call 24; go_in)
  refine (slow_any b nb pb hk hp s _ HB.out HK.out HP.out).mono ?_
  rintro e w' ⟨rfl, h1, h2⟩
  have H1 := hid h1; clear h1
  go_wp2
  go_end0
  exact ⟨rfl, H1.out, h2⟩

set_option maxHeartbeats 800000 in
/-- a part that may be -/
theorem ask_may (b : Nat) (s : ByteArray) (w : World) :
    Calls Try.prog 16 #[.pointer (some ⟨b, 0, none⟩), .string s, .bool true] w fun e w' => e = .returned (.tuple #[]) ∧ w.grownBy w' none := by
  have hnot : ∀ (x : Bool) (w : World), (Op.unary .not (.bool x)).run Try.prog w = .ok (.bool (!x)) w := fun _ _ => rfl
  go_enter Try.func16, Try.ntmps16
  go_wp2_with fail
  go_end0
  exact ⟨rfl, gb_alloc (gb_alloc (.refl _ _) _) _⟩

set_option maxHeartbeats 800000 in
/-- the first part that may not be -/
theorem ask_first (b : Nat) (s : ByteArray) (w : World) (hb : w.heap[b]? = some (ansObj 0 ⟨#[]⟩)) :
    Calls Try.prog 16 #[.pointer (some ⟨b, 0, none⟩), .string s, .bool false] w fun e w' => e = .returned (.tuple #[]) ∧
      w'.heap[b]? = some (ansObj 1 s) ∧ w.grownBy w' (some b) := by
  have hmf : ∀ (fn : Fn) (first cap : Array Value) (w : World), (Instr.makeFunc fn first cap).run Try.prog w = .ok (.func fn first cap) w := fun _ _ _ _ => rfl
  have hnot : ∀ (x : Bool) (w : World), (Op.unary .not (.bool x)).run Try.prog w = .ok (.bool (!x)) w := fun _ _ => rfl
  have hlt := at_lt hb
  have HB := hid hb
  clear hb
  go_enter Try.func16, Try.ntmps16
  go_wp2_with fail
  refine (do_first b (w.heap.size + 1) w.heap.size (by omega) (by omega) s _ (at_alloc (at_alloc HB.out _) _) (by simpa using at_new (w.alloc _) _) (at_alloc (at_new w _) _)).mono ?_
  rintro e w' ⟨rfl, h1, h2⟩
  have H1 := hid h1; clear h1
  go_wp2
  go_end0
  exact ⟨rfl, H1.out, gb_trans (gb_alloc (gb_alloc (.refl _ _) _) _) h2 (.inr (.inl rfl))⟩

set_option maxHeartbeats 800000 in
/-- a later part that may not be -/
theorem ask_later (b : Nat) (s r : ByteArray) (w : World) (hb : w.heap[b]? = some (ansObj 1 r)) :
    Calls Try.prog 16 #[.pointer (some ⟨b, 0, none⟩), .string s, .bool false] w fun e w' => e = .returned (.tuple #[]) ∧ w.grownBy w' none := by
  have hmf : ∀ (fn : Fn) (first cap : Array Value) (w : World), (Instr.makeFunc fn first cap).run Try.prog w = .ok (.func fn first cap) w := fun _ _ _ _ => rfl
  have hnot : ∀ (x : Bool) (w : World), (Op.unary .not (.bool x)).run Try.prog w = .ok (.bool (!x)) w := fun _ _ => rfl
  have HB := hid hb
  clear hb
  go_enter Try.func16, Try.ntmps16
  go_wp2_with fail
  refine (do_done ⟨b, 0, none⟩ 1 (by decide) _ _ (at_cell (at_alloc (at_alloc HB.out _) _) 0)).mono ?_
  rintro e w' ⟨rfl, rfl⟩
  go_wp2
  go_end0
  exact ⟨rfl, gb_alloc (gb_alloc (.refl _ _) _) _⟩

/-- a part is asked -/
theorem ask_any (b : Nat) (s : ByteArray) (may : Bool) (st : Option ByteArray) (w : World) (hb : w.heap[b]? = some (told1 st)) :
    Calls Try.prog 16 #[.pointer (some ⟨b, 0, none⟩), .string s, .bool may] w fun e w' => e = .returned (.tuple #[]) ∧
      w'.heap[b]? = some (told1 (ask1 st s may)) ∧ w.grownBy w' (some b) := by
  have weak : ∀ {a c : World}, a.grownBy c none → a.grownBy c (some b) := fun h => ⟨h.os, h.tape, h.output, h.size, fun i hi _ => h.block i hi (by simp)⟩
  cases may with
  | true =>
    refine (ask_may b s w).mono ?_
    rintro e w' ⟨rfl, hg⟩
    refine ⟨rfl, ?_, weak hg⟩
    rw [at_grown hb hg (by simp)]
    cases st <;> rfl
  | false =>
    cases st with
    | none => exact ask_first b s w hb
    | some r =>
      refine (ask_later b s r w hb).mono ?_
      rintro e w' ⟨rfl, hg⟩
      exact ⟨rfl, at_grown hb hg (by simp), weak hg⟩
end Go.Proofs.Ytabfeaifbjfdoaa
