/-
  Contracts for numbers as bytes: a number is put into eight bytes, the lowest first, by the program and by the document's own answer. No condition.
-/
import Derived.Test.YtjebmlmjbnaghaaByt
import Derived.LoopTactic
import Derived.WalkSpells
import Derived.WalkLawsBesides
namespace Go.Proofs.Ytjebmlmjbnaghaa
set_option maxRecDepth 100000
open Go.RowKit

/-- byte i of a number -/
def putByte (n : BitVec 64) (i : Nat) : UInt8 := UInt8.ofNat (n >>> (8 * i)).toNat
/-- a number in eight bytes, the lowest first -/
def put8 (n : BitVec 64) : List UInt8 := [putByte n 0, putByte n 1, putByte n 2, putByte n 3, putByte n 4, putByte n 5, putByte n 6, putByte n 7]
theorem put8_length (n : BitVec 64) : (put8 n).length = 8 := rfl
/-- k bytes of a number, and noughts -/
def putArr (n : BitVec 64) (k : Nat) : Array Value := Array.ofFn (n := 8) fun j => .int .u8 (if j.val < k then ((putByte n j.val).toNat : Int) else 0)
theorem putArr_zero (n : BitVec 64) : putArr n 0 = #[.int .u8 0, .int .u8 0, .int .u8 0, .int .u8 0, .int .u8 0, .int .u8 0, .int .u8 0, .int .u8 0] := rfl
theorem putArr_full (n : BitVec 64) : putArr n 8 = ((put8 n).map fun c => Value.int .u8 (c.toNat : Int)).toArray := rfl
theorem putArr_cell (n : BitVec 64) (k j : Nat) (h : j < 8) : (putArr n k)[j]? = some (.int .u8 (if j < k then ((putByte n j).toNat : Int) else 0)) := by
  unfold putArr; rw [Array.getElem?_ofFn]; simp [h]
theorem putArr_set (n : BitVec 64) (k : Nat) (h : k < 8) : (putArr n k).setIfInBounds k (.int .u8 ((putByte n k).toNat : Int)) = putArr n (k + 1) := by
  apply Array.ext_getElem?
  intro j
  rw [Array.getElem?_setIfInBounds]
  have hs : (putArr n k).size = 8 := by unfold putArr; simp
  by_cases hj : j < 8
  · rw [putArr_cell n k j hj, putArr_cell n (k + 1) j hj]
    by_cases e : k = j
    · subst e; simp [hs, h]
    · by_cases h1 : j < k
      · simp [e, h1]; omega
      · simp [e, h1]; omega
  · have h1 : (putArr n k)[j]? = none := Array.getElem?_eq_none (by omega)
    have hs' : (putArr n (k + 1)).size = 8 := by unfold putArr; simp
    have h2 : (putArr n (k + 1))[j]? = none := Array.getElem?_eq_none (by omega)
    rw [h1, h2]
    by_cases e : k = j
    · omega
    · simp [e]
theorem byte_wrap (x : BitVec 64) : IntKind.u8.wrap (q x) = ((UInt8.ofNat x.toNat).toNat : Int) := by
  unfold q
  simp [IntKind.wrap, IntKind.bits, IntKind.signed]

theorem mk8 (w : World) : (Instr.makeSlice 23 (.int .i64 8) (.int .i64 8)).run Try.prog w = .ok (.slice (some ⟨w.heap.size, 0, none⟩) 8 8) (w.alloc (.cells #[.int .u8 0, .int .u8 0, .int .u8 0, .int .u8 0, .int .u8 0, .int .u8 0, .int .u8 0, .int .u8 0] 5)) := by kernel_rfl

set_option maxHeartbeats 800000 in
theorem put_any (n : BitVec 64) (w : World) :
    Calls Try.prog 22 #[.int .u64 (q n)] w fun e w' => e = .returned (.slice (some ⟨w.heap.size, 0, none⟩) 8 8) ∧ w'.heap[w.heap.size]? = some (.cells (putArr n 8) 5) ∧ w.grownBy w' none := by
  have hm := mk8 w
  go_enter Try.func22, Try.ntmps22
  go_wp2_with fail
  clear hm
  go_loopw [8] (fun i wr => ∃ k : Nat, k ≤ 8 ∧ i = .int .i64 (k : Int) ∧ wr.heap[w.heap.size]? = some (.cells (putArr n k) 5) ∧ w.grownBy wr none) (fun i _ => 8 - (intOf i).toNat)
  case atStart => exact ⟨0, by omega, rfl, at_new w _, gb_alloc (.refl w none) _⟩
  case round =>
    obtain ⟨k, hk, rfl, hb, hg⟩ := hrel
    have HB := hid hb; have HG := hid hg; clear hb hg
    by_cases hlt : k < 8
    · have c0 : wr.cell? ⟨w.heap.size, k, none⟩ = some (.int .u8 0) := by rw [at_cell HB.out k, putArr_cell n k k hlt]; simp
      have f0 : wr.frozen? ⟨w.heap.size, k, none⟩ = false := at_free HB.out k
      have hk0 : (0 : Int) ≤ (k : Int) := by omega
      have hk1 : (k : Int) < 8 := by omega
      have hbw := byte_wrap (n >>> (8 * k))
      go_wp2_with fail
      go_roundw
      case rel => exact ⟨k + 1, by omega, by go_num, by rw [← putArr_set n k hlt]; exact at_set HB.out k _, gb_new HG.out (Nat.le_refl _) _⟩
      case measure => simp [intOf]; omega
    · have hk8 : k = 8 := by omega
      subst hk8
      go_wp2_with fail
      go_ret
      exact ⟨rfl, HB.out, HG.out⟩

theorem putArr_at (n : BitVec 64) {w : World} {b : Nat} (h : w.heap[b]? = some (.cells (putArr n 8) 5)) (j : Nat) (hj : j < (put8 n).length) : w.cell? ((⟨b, 0, none⟩ : Addr).add j) = some (.int .u8 (((put8 n)[j]).toNat : Int)) := by
  have e : (⟨b, 0, none⟩ : Addr).add j = ⟨b, j, none⟩ := by unfold Addr.add; split <;> simp_all
  rw [e, at_cell h j, putArr_full]
  simp [List.getElem?_map, List.getElem?_eq_getElem hj]

set_option maxHeartbeats 800000 in
theorem refput_any (n : BitVec 64) (w : World) :
    Calls Try.prog 25 #[.int .u64 (q n)] w fun e w' => e = .returned (.string ⟨(put8 n).toArray⟩) ∧ w.grownBy w' none := by
  have hm := mk8 w
  go_enter Try.func25, Try.ntmps25
  go_wp2_with fail
  clear hm
  go_loopw [4] (fun i wr => ∃ k : Nat, k ≤ 8 ∧ i = .int .i64 (k : Int) ∧ wr.heap[w.heap.size]? = some (.cells (putArr n k) 5) ∧ w.grownBy wr none) (fun i _ => 8 - (intOf i).toNat)
  case atStart => exact ⟨0, by omega, rfl, at_new w _, gb_alloc (.refl w none) _⟩
  case round =>
    obtain ⟨k, hk, rfl, hb, hg⟩ := hrel
    have HB := hid hb; have HG := hid hg; clear hb hg
    by_cases hlt : k < 8
    · have c0 : wr.cell? ⟨w.heap.size, k, none⟩ = some (.int .u8 0) := by rw [at_cell HB.out k, putArr_cell n k k hlt]; simp
      have f0 : wr.frozen? ⟨w.heap.size, k, none⟩ = false := at_free HB.out k
      have hk0 : (0 : Int) ≤ (k : Int) := by omega
      have hk1 : (k : Int) < 8 := by omega
      have hbw := byte_wrap (n >>> (8 * k))
      go_wp2_with fail
      go_roundw
      case rel => exact ⟨k + 1, by omega, by go_num, by rw [← putArr_set n k hlt]; exact at_set HB.out k _, gb_new HG.out (Nat.le_refl _) _⟩
      case measure => simp [intOf]; omega
    · have hk8 : k = 8 := by omega
      subst hk8
      have hcv : (convert 23 9 (.slice (some ⟨w.heap.size, 0, none⟩) 8 8)).run Try.prog wr = .ok (.string ⟨(put8 n).toArray⟩) wr :=
        run_convert_bytes_back wr 23 9 5 ⟨w.heap.size, 0, none⟩ 8 (put8 n) Try.underlying23 Try.underlying5 Try.underlying9 (putArr_at n HB.out)
      go_wp2_with fail
      go_ret
      exact ⟨rfl, HG.out⟩
end Go.Proofs.Ytjebmlmjbnaghaa
