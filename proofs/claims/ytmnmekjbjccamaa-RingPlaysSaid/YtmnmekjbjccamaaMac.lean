/-
  Contracts for package mac: the second key, tags. The condition of a tag: the bytes read as bytes.
-/
import Derived.Test.YtmnmekjbjccamaaOwn
import Derived.Test.YtmnmekjbjccamaaGet
import Derived.Test.YtmnmekjbjccamaaGen
set_option linter.unusedSimpArgs false
namespace Go.Proofs.Ytmnmekjbjccamaa
set_option maxRecDepth 100000
open Go.RowKit

/-- a pair of numbers -/
abbrev pair (a b : BitVec 64) : Value := .agg #[.int .u64 (q a), .int .u64 (q b)]
def inv (x : BitVec 64) : BitVec 64 := x ^^^ BitVec.allOnes 64
theorem q_inv (x : BitVec 64) : bits .xor .u64 IntKind.u64.max (q x) = q (inv x) := by
  rw [show IntKind.u64.max = q (BitVec.allOnes 64) by decide +kernel, q_xor, BitVec.xor_comm]; rfl

set_option maxHeartbeats 800000 in
theorem second_any (k0 k1 : BitVec 64) (w : World) :
    Calls Try.prog 34 #[pair k0 k1] w fun e w' => e = .returned (pair k1 (inv k0)) ∧ w.grownBy w' none := by
  rw [pair, inv]
  go_enter Try.func34, Try.ntmps34
  go_wp2_with fail
  exact bodyPost_ret (v := pair k1 (inv k0)) (by rw [q_inv]; simp [results, Try.results34, go_sem]) rfl ⟨rfl, gb_alloc (gb_alloc (.refl w none) _) _⟩

theorem pair_cells {w : World} {b : Nat} {t : TypeId} {x y : BitVec 64} (h : w.heap[b]? = some (.cells #[.int .u64 (q x), .int .u64 (q y)] t)) :
    w.cell? ⟨b, 0, none⟩ = some (.int .u64 (q x)) ∧ w.cell? ⟨b, 1, none⟩ = some (.int .u64 (q y)) := ⟨at_cell h 0, at_cell h 1⟩

/-- the function's own two blocks: what came in, what goes out; all else as it was, or new -/
structure Box (w : World) (k0 k1 : BitVec 64) (t t' : TypeId) (w' : World) : Prop where
  box : w'.heap[w.heap.size]? = some (.cells #[.int .u64 (q k0), .int .u64 (q k1)] t)
  ans : ∃ x y, w'.heap[w.heap.size + 1]? = some (.cells #[x, y] t')
  g : w.grownBy w' none
theorem Box.grown {w : World} {k0 k1 : BitVec 64} {t t' : TypeId} {w1 w2 : World} (h : Box w k0 k1 t t' w1) (hg : w1.grownBy w2 none) : Box w k0 k1 t t' w2 :=
  ⟨at_grown h.box hg (by simp), by obtain ⟨x, y, h⟩ := h.ans; exact ⟨x, y, at_grown h hg (by simp)⟩, gb_trans h.g hg (.inl rfl)⟩
theorem Box.drew {w : World} {k0 k1 : BitVec 64} {t t' : TypeId} {w1 : World} (h : Box w k0 k1 t t' w1) : Box w k0 k1 t t' w1.drew := ⟨h.box, h.ans, gb_drew h.g⟩
theorem Box.alloc {w : World} {k0 k1 : BitVec 64} {t t' : TypeId} {w1 : World} (h : Box w k0 k1 t t' w1) (o : Obj) : Box w k0 k1 t t' (w1.alloc o) := h.grown (World.grownBy_alloc w1 o none)
theorem Box.set0 {w : World} {k0 k1 : BitVec 64} {t t' : TypeId} {w1 : World} (h : Box w k0 k1 t t' w1) (v : Value) : Box w k0 k1 t t' (w1.setCell ⟨w.heap.size + 1, 0, none⟩ v) :=
  ⟨at_set_other h.box (by simp) v, by obtain ⟨x, y, hxy⟩ := h.ans; exact ⟨v, y, at_set hxy 0 v⟩, gb_new h.g (by simp) v⟩
theorem Box.set1 {w : World} {k0 k1 : BitVec 64} {t t' : TypeId} {w1 : World} (h : Box w k0 k1 t t' w1) (v : Value) : Box w k0 k1 t t' (w1.setCell ⟨w.heap.size + 1, 1, none⟩ v) :=
  ⟨at_set_other h.box (by simp) v, by obtain ⟨x, y, hxy⟩ := h.ans; exact ⟨x, v, at_set hxy 1 v⟩, gb_new h.g (by simp) v⟩
theorem Box.store {w : World} {k0 k1 : BitVec 64} {t t' : TypeId} {w1 : World} (h : Box w k0 k1 t t' w1) (a b : Value) :
    ((w1.setCell ⟨w.heap.size + 1, 0, none⟩ a).setCell ⟨w.heap.size + 1, 1, none⟩ b).heap[w.heap.size + 1]? = some (.cells #[a, b] t') ∧ w.grownBy ((w1.setCell ⟨w.heap.size + 1, 0, none⟩ a).setCell ⟨w.heap.size + 1, 1, none⟩ b) none := by
  obtain ⟨x, y, hxy⟩ := h.ans
  exact ⟨at_set (at_set hxy 0 a) 1 b, ((h.set0 a).set1 b).g⟩
theorem Box.keep {w : World} {k0 k1 : BitVec 64} {t t' : TypeId} {w' : World} (h : Box w k0 k1 t t' w') :
    w'.cell? ⟨w.heap.size, 0, none⟩ = some (.int .u64 (q k0)) ∧ w'.cell? ⟨w.heap.size, 1, none⟩ = some (.int .u64 (q k1)) ∧ Box w k0 k1 t t' w' := ⟨at_cell h.box 0, at_cell h.box 1, h⟩
section
variable {P Q : Prop} {w wc : World} {k0 k1 : BitVec 64} {t t' : TypeId} {v : Value} {l : List UInt8}
theorem box_bytes (h : P ∧ Q ∧ Box w k0 k1 t t' wc) (hx : BytesAt w v l) : BytesAt wc v l := hx.grown h.2.2.g (by simp)
theorem box_box (h : P ∧ Q ∧ Box w k0 k1 t t' wc) : Box w k0 k1 t t' wc := h.2.2
theorem box_ans {w2 : World} (h : P ∧ Q ∧ Box w k0 k1 t t' wc) (hg : wc.grownBy w2 none) : ∃ x y, w2.cell? ⟨w.heap.size + 1, 0, none⟩ = some x ∧ w2.cell? ⟨w.heap.size + 1, 1, none⟩ = some y ∧ w2.frozen? ⟨w.heap.size + 1, 0, none⟩ = false ∧ w2.frozen? ⟨w.heap.size + 1, 1, none⟩ = false := by
  obtain ⟨x, y, hxy⟩ := (h.2.2.grown hg).ans
  exact ⟨x, y, at_cell hxy 0, at_cell hxy 1, at_free hxy 0, at_free hxy 1⟩
end

set_option maxHeartbeats 1600000 in
theorem tag_any (k0 k1 : BitVec 64) (v : Value) (l : List UInt8) (w : World) (hl : BytesAt w v l) :
    Calls Try.prog 11 #[pair k0 k1, v] w fun e w' => e = .returned (pair (sumOf k0 k1 l) (sumOf k1 (inv k0) l)) ∧ w.grownBy w' none := by
  have HL := hid hl; clear hl
  go_enter Try.func11, Try.ntmps11
  go_wp2_with fail
  have hb : Box w k0 k1 34 30 ((w.alloc (.cells #[.int .u64 (q k0), .int .u64 (q k1)] 34)).alloc (.cells #[.int .u64 0, .int .u64 0] 30)) :=
    ⟨at_alloc (at_new w _) _, ⟨_, _, at_new2 w _ _⟩, gb_alloc (gb_alloc (.refl w none) _) _⟩
  have HB := hid hb; clear hb
  have hh := HB.out.keep
  go_region_held3 (fun w' => w'.cell? ⟨w.heap.size, 0, none⟩ = some (.int .u64 (q k0)) ∧ w'.cell? ⟨w.heap.size, 1, none⟩ = some (.int .u64 (q k1)) ∧ Box w k0 k1 34 30 w')
    ((refine Box.keep (t := 34) (t' := 30) ?_; (repeat (first | assumption | with_reducible exact HB.out | with_reducible refine Box.drew ?_ | with_reducible refine Box.set1 ?_ _ | with_reducible refine Box.set0 ?_ _ | exact box_box (by assumption) | with_reducible refine Box.grown ?_ (by assumption)))))
    (first
      | (go_at_call 34; (with_reducible refine (second_any k0 k1 _).mono ?_); rintro e w1 ⟨rfl, hg1⟩)
      | (go_at_call 32; (with_reducible refine (sum_any k0 k1 l v _ (box_bytes (by assumption) HL.out)).mono ?_); rintro e wa ⟨rfl, hga⟩)
      | (go_at_call 32; (with_reducible refine (sum_any k1 (inv k0) l v _ (box_bytes (by assumption) HL.out)).mono ?_); rintro e wb ⟨rfl, hgb⟩; obtain ⟨x, y, c0, c1, f0, f1⟩ := box_ans (by assumption) hgb; have hB := Box.grown (box_box (by assumption)) hgb))
  refine exit_gen (fun wx => wx.heap[w.heap.size + 1]? = some (.cells #[.int .u64 (q (sumOf k0 k1 l)), .int .u64 (q (sumOf k1 (inv k0) l))] 30) ∧ w.grownBy wx none) (hB.store _ _) ?_
  clear hB c0 c1 f0 f1 hga hg1 hgb hh
  intro wx ⟨hA, hG⟩
  have HA := hid hA; have HG := hid hG; clear hA hG
  obtain ⟨d0, d1⟩ := pair_cells HA.out
  go_wp2_with fail
  exact bodyPost_ret (v := pair (sumOf k0 k1 l) (sumOf k1 (inv k0) l)) (by simp [results, Try.results11, go_sem, d0, d1]) rfl ⟨rfl, HG.out⟩
end Go.Proofs.Ytmnmekjbjccamaa
