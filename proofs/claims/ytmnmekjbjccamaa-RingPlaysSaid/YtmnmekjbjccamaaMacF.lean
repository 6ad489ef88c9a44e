/-
  Contracts for package mac: a tag out of bytes. The condition: the bytes read as bytes.
-/
import Derived.Test.YtmnmekjbjccamaaMacB
set_option linter.unusedSimpArgs false
namespace Go.Proofs.Ytmnmekjbjccamaa
set_option maxRecDepth 100000
open Go.RowKit

set_option maxHeartbeats 1600000 in
theorem from_bad (p : Option Addr) (n c : Nat) (hn : n ≠ 16) (w : World) :
    Calls Try.prog 31 #[.slice p n c] w fun e w' => e = .returned (.tuple #[pair 0 0, .int .i64 2]) ∧ w.grownBy w' none := by
  have h1 : (n : Int) ≠ 16 := by omega
  go_enter Try.func31, Try.ntmps31
  go_wp2_with fail
  exact bodyPost_ret (v := .tuple #[pair 0 0, .int .i64 2]) (by simp [results, Try.results31, go_sem]; rfl) rfl ⟨rfl, gb_alloc (.refl w none) _⟩

/-- the words of a tag that were taken out so far -/
def half (a b : BitVec 64) (k : Nat) : Array Value := #[.int .u64 (if 0 < k then q a else 0), .int .u64 (if 1 < k then q b else 0)]
theorem get_0 (l : List UInt8) (v : Value) (a : BitVec 64) (ha : wordAt l 0 8 = a) (w : World) (hl : BytesAt w v l) (hn : l.length = 16) :
    Calls Try.prog 45 #[v, .int .i64 0] w fun e w' => e = .returned (.tuple #[.int .u64 (q a), .int .i64 0]) ∧ w = w' := by
  subst ha; exact get_in l v 0 w hl (by omega)
theorem get_8 (l : List UInt8) (v : Value) (a : BitVec 64) (ha : wordAt l 8 8 = a) (w : World) (hl : BytesAt w v l) (hn : l.length = 16) :
    Calls Try.prog 45 #[v, .int .i64 8] w fun e w' => e = .returned (.tuple #[.int .u64 (q a), .int .i64 0]) ∧ w = w' := by
  subst ha; exact get_in l v 8 w hl (by omega)

set_option maxHeartbeats 1600000 in
theorem from_words (l : List UInt8) (a b : BitVec 64) (hwa : wordAt l 0 8 = a) (hwb : wordAt l 8 8 = b) (p : Option Addr) (c : Nat) (hn : l.length = 16) (w : World) (hl : BytesAt w (.slice p 16 c) l) :
    Calls Try.prog 31 #[.slice p 16 c] w fun e w' => e = .returned (.tuple #[pair a b, .int .i64 0]) ∧ w.grownBy w' none := by
  have HL := hid hl; have HWA := hid hwa; have HWB := hid hwb; clear hl hwa hwb
  have HN := hid hn; clear hn
  go_enter Try.func31, Try.ntmps31
  go_wp2_with fail
  go_loopw [10] (fun i wr => ∃ k : Nat, (k = 0 ∨ k = 1 ∨ k = 2) ∧ i = .int .i64 (k : Int) ∧ wr.heap[w.heap.size + 1]? = some (.cells (half a b k) 30) ∧ wr.heap[w.heap.size]? = some (.cells #[.int .u64 0, .int .u64 0] 30) ∧ w.grownBy wr none) (fun i _ => 2 - (intOf i).toNat)
  case atStart => exact ⟨0, .inl rfl, rfl, at_new2 w _ _, at_alloc (at_new w _) _, gb_alloc (gb_alloc (.refl w none) _) _⟩
  case round =>
    obtain ⟨k, hk, rfl, hb, ha, hg⟩ := hrel
    have HB := hid hb; have HA := hid ha; have HG := hid hg; clear hb ha hg
    have c0 : wr.cell? ⟨w.heap.size + 1, 0, none⟩ = some _ := at_cell HB.out 0
    have c1 : wr.cell? ⟨w.heap.size + 1, 1, none⟩ = some _ := at_cell HB.out 1
    have f0 : wr.frozen? ⟨w.heap.size + 1, 0, none⟩ = false := at_free HB.out 0
    have f1 : wr.frozen? ⟨w.heap.size + 1, 1, none⟩ = false := at_free HB.out 1
    rcases hk with rfl | rfl | rfl
    · go_wp2_with fail
      with_reducible refine (get_0 l _ a HWA.out _ (HL.out.grown HG.out (by simp)) HN.out).mono ?_
      rintro e w1 ⟨rfl, rfl⟩
      go_wp2_with fail
      go_roundw
      case rel => exact ⟨1, by simp, by go_num, at_set HB.out 0 _, at_set_other HA.out (by simp) _, gb_new HG.out (by simp) _⟩
      case measure => simp [intOf]
    · go_wp2_with fail
      with_reducible refine (get_8 l _ b HWB.out _ (HL.out.grown HG.out (by simp)) HN.out).mono ?_
      rintro e w1 ⟨rfl, rfl⟩
      go_wp2_with fail
      go_roundw
      case rel => exact ⟨2, by simp, by go_num, at_set HB.out 1 _, at_set_other HA.out (by simp) _, gb_new HG.out (by simp) _⟩
      case measure => simp [intOf]
    · clear c0 c1
      have c0 : wr.cell? ⟨w.heap.size + 1, 0, none⟩ = some (.int .u64 (q a)) := at_cell HB.out 0
      have c1 : wr.cell? ⟨w.heap.size + 1, 1, none⟩ = some (.int .u64 (q b)) := at_cell HB.out 1
      have a0 : wr.cell? ⟨w.heap.size, 0, none⟩ = some (.int .u64 0) := at_cell HA.out 0
      have a1 : wr.cell? ⟨w.heap.size, 1, none⟩ = some (.int .u64 0) := at_cell HA.out 1
      have g0 : wr.frozen? ⟨w.heap.size, 0, none⟩ = false := at_free HA.out 0
      have g1 : wr.frozen? ⟨w.heap.size, 1, none⟩ = false := at_free HA.out 1
      go_wp2_with fail
      have hr := at_set (at_set HA.out 0 (.int .u64 (q a))) 1 (.int .u64 (q b))
      have hg2 : w.grownBy _ none := gb_new (gb_new HG.out (p := ⟨w.heap.size, 0, none⟩) (by simp) (.int .u64 (q a))) (p := ⟨w.heap.size, 1, none⟩) (by simp) (.int .u64 (q b))
      generalize (wr.setCell ⟨w.heap.size, 0, none⟩ (.int .u64 (q a))).setCell ⟨w.heap.size, 1, none⟩ (.int .u64 (q b)) = wx at hr hg2 ⊢
      obtain ⟨r0, r1⟩ := pair_cells hr
      exact bodyPost_ret (v := .tuple #[pair a b, .int .i64 0]) (by simp [results, Try.results31, go_sem, r0, r1]) rfl ⟨rfl, hg2⟩

/-- a tag out of just so many bytes -/
theorem from_good (l : List UInt8) (p : Option Addr) (c : Nat) (hn : l.length = 16) (w : World) (hl : BytesAt w (.slice p 16 c) l) :
    Calls Try.prog 31 #[.slice p 16 c] w fun e w' => e = .returned (.tuple #[pair (wordAt l 0 8) (wordAt l 8 8), .int .i64 0]) ∧ w.grownBy w' none := from_words l _ _ rfl rfl p c hn w hl
end Go.Proofs.Ytmnmekjbjccamaa
