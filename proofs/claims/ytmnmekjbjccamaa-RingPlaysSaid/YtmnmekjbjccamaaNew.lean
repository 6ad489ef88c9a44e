/-
  Contracts for the program's hash with a key: a hash is made under a key; the sum of bytes under a key at once: it is the sum that the plain functions say. No condition but that the bytes read as bytes.
-/
import Derived.Test.YtmnmekjbjccamaaSum
namespace Go.Proofs.Ytmnmekjbjccamaa
set_option maxRecDepth 100000
open Go.RowKit

/-- a hash under a key to which nothing was written -/
def St.new (k0 k1 : BitVec 64) : St := ⟨keyed k0 k1, 0, 0⟩
/-- the sum of bytes under a key -/
def sumOf (k0 k1 : BitVec 64) (l : List UInt8) : BitVec 64 := (l.foldl St.add (St.new k0 k1)).sum

theorem size_alloc (w : World) (o : Obj) : (w.alloc o).heap.size = w.heap.size + 1 := by show (w.heap.push o).size = _; simp
theorem at_new2 (w : World) (o o' : Obj) : ((w.alloc o).alloc o').heap[w.heap.size + 1]? = some o' := by
  have := at_new (w.alloc o) o'
  rwa [show (w.alloc o).heap.size = w.heap.size + 1 from by show (w.heap.push o).size = _; simp] at this

set_option maxHeartbeats 800000 in
theorem new_any (k0 k1 : BitVec 64) (w : World) :
    Calls Try.prog 46 #[.agg #[.int .u64 (q k0), .int .u64 (q k1)]] w fun e w' => e = .returned (.pointer (some ⟨w.heap.size + 1, 0, none⟩)) ∧ w'.heap[w.heap.size + 1]? = some (St.new k0 k1).obj ∧ w.grownBy w' none := by
  go_enter Try.func46, Try.ntmps46
  go_wp2_with fail
  refine (begin_first (w.heap.size + 1) k0 k1 0 0 0 0 0 0 _ (at_new2 w _ _)).mono ?_
  rintro e w1 ⟨rfl, h1, h2⟩
  have H1 := hid h1; have H2 := hid h2; clear h1 h2
  go_wp2_with fail
  go_ret
  exact ⟨rfl, H1.out, gb_trans (gb_alloc (gb_alloc (.refl w none) _) _) H2.out (.inr (.inr ⟨_, rfl, by omega⟩))⟩

set_option maxHeartbeats 800000 in
theorem sum_any (k0 k1 : BitVec 64) (l : List UInt8) (v : Value) (w : World) (hl : BytesAt w v l) :
    Calls Try.prog 32 #[.agg #[.int .u64 (q k0), .int .u64 (q k1)], v] w fun e w' => e = .returned (.int .u64 (q (sumOf k0 k1 l))) ∧ w.grownBy w' none := by
  have HL := hid hl; have HT := hid hl.lt; clear hl
  go_enter Try.func32, Try.ntmps32
  go_wp2_with fail
  refine (new_any k0 k1 _).mono ?_
  rintro e w1 ⟨rfl, h1, h2⟩
  have h1' : w1.heap[w.heap.size + 1 + 1]? = some (St.new k0 k1).obj := by rw [size_alloc] at h1; exact h1
  have H1 := hid h1'; have H2 := hid (gb_trans (gb_alloc (.refl w none) _) h2 (.inl rfl)); clear h1 h2 h1'
  go_wp2_with fail
  have hl1 := HL.out.grown H2.out (by simp)
  refine (write_any _ _ l _ _ H1.out hl1 (HT.out.elim .inl fun h => .inr fun a n c e => by have := h a n c e; omega)).mono ?_
  rintro e w2 ⟨rfl, h3, h4⟩
  have H3 := hid h3; have H4 := hid h4; clear h3 h4 hl1
  go_wp2_with fail
  refine (hsum_any _ _ _ H3.out).mono ?_
  rintro e w3 ⟨rfl, h5⟩
  have H5 := hid h5; clear h5
  go_wp2_with fail
  go_ret
  exact ⟨rfl, gb_trans (gb_trans H2.out H4.out (.inr (.inr ⟨_, rfl, by omega⟩))) H5.out (.inl rfl)⟩
end Go.Proofs.Ytmnmekjbjccamaa
