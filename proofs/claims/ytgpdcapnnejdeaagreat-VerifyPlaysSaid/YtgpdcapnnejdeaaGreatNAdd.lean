/-
  Contracts for the program's hash with a key: a byte is added; bytes are written; the sum is told; a hash is made. Each does to the hash's block what the plain functions here say, and changes nothing else that was there. The condition: the block is a hash under way, as 'New' makes it.
-/
import Derived.Test.YtgpdcapnnejdeaaGreatNBegin
import Derived.Deep.RegionHeld3
namespace Go.Proofs.YtgpdcapnnejdeaaGreat
set_option maxRecDepth 100000
open Go.RowKit

structure St where
 v : W4
 rest : BitVec 64
 n : Nat
def St.add (s : St) (x : UInt8) : St :=
 let r := s.rest ||| (BitVec.ofNat 64 x.toNat <<< (s.n % 8 * 8))
 if s.n % 8 = 7 then ⟨stirred s.v r, 0, s.n + 1⟩ else ⟨s.v, r, s.n + 1⟩
def St.sum (s : St) : BitVec 64 :=
 let v := stirred s.v (s.rest ||| (BitVec.ofNat 64 (s.n % 256) <<< 56))
 let r := rnds 4 ⟨v.a, v.b, v.c ^^^ 255#64, v.d⟩
 r.a ^^^ r.b ^^^ r.c ^^^ r.d
@[reducible] def St.obj (s : St) : Obj := hashObj 1 s.v.a s.v.b s.v.c s.v.d s.rest ((s.n % 256 : Nat) : Int)

theorem byte_q (x : UInt8) : IntKind.u64.wrap (x.toNat : Int) = q (BitVec.ofNat 64 x.toNat) := by
 rw [IntKind.wrap_u64]; unfold q; rw [BitVec.toNat_ofNat]; omega
theorem size_up (n : Nat) : IntKind.u8.wrap ((n : Int) % 256 + 1) = ((n : Int) + 1) % 256 := by
 simp [IntKind.wrap, IntKind.bits, IntKind.signed]
theorem St.add_mid (s : St) (x : UInt8) (hn : s.n % 8 ≠ 7) : s.add x = ⟨s.v, s.rest ||| (BitVec.ofNat 64 x.toNat <<< (s.n % 8 * 8)), s.n + 1⟩ := by
 unfold St.add; simp [hn]
theorem St.add_end (s : St) (x : UInt8) (hn : s.n % 8 = 7) : s.add x = ⟨stirred s.v (s.rest ||| (BitVec.ofNat 64 x.toNat <<< (s.n % 8 * 8))), 0, s.n + 1⟩ := by
 unfold St.add; simp [hn]

theorem hash_cells {w : World} {b : Nat} {dn : Int} {x3 x4 x5 x6 x7 : BitVec 64} {sz : Int} (hb : w.heap[b]? = some (hashObj dn x3 x4 x5 x6 x7 sz)) :
  w.cell? ⟨b, 3, none⟩ = some (.int .u64 (q x3)) ∧ w.cell? ⟨b, 4, none⟩ = some (.int .u64 (q x4)) ∧ w.cell? ⟨b, 5, none⟩ = some (.int .u64 (q x5)) ∧ w.cell? ⟨b, 6, none⟩ = some (.int .u64 (q x6)) ∧ w.cell? ⟨b, 7, none⟩ = some (.int .u64 (q x7)) ∧
   w.frozen? ⟨b, 3, none⟩ = false ∧ w.frozen? ⟨b, 4, none⟩ = false ∧ w.frozen? ⟨b, 5, none⟩ = false ∧ w.frozen? ⟨b, 6, none⟩ = false ∧ w.frozen? ⟨b, 7, none⟩ = false :=
 ⟨at_cell hb 3, at_cell hb 4, at_cell hb 5, at_cell hb 6, at_cell hb 7, at_free hb 3, at_free hb 4, at_free hb 5, at_free hb 6, at_free hb 7⟩

set_option maxHeartbeats 800000 in
theorem add_mid (b : Nat) (s : St) (x : UInt8) (hn : s.n % 8 ≠ 7) (w : World) (hb : w.heap[b]? = some s.obj) :
  Calls Tryz.prog 130 #[.pointer (some ⟨b, 0, none⟩), .int .u8 (x.toNat : Int)] w fun e w' => e = .returned (.tuple #[]) ∧ w'.heap[b]? = some (s.add x).obj ∧ w.grownBy w' (some b) := by
 have HB := hid hb
 have c7 : w.cell? ⟨b, 7, none⟩ = some (.int .u64 (q s.rest)) := at_cell hb 7
 have c8 : w.cell? ⟨b, 8, none⟩ = some (.int .u8 ((s.n % 256 : Nat) : Int)) := at_cell hb 8
 have f7 : w.frozen? ⟨b, 7, none⟩ = false := at_free hb 7
 have f8 : w.frozen? ⟨b, 8, none⟩ = false := at_free hb 8
 clear hb
 have hx := byte_q x
 have hu := size_up s.n
 have ht : (((s.n : Int) + 1) % 8 == 0) = false := by simp; omega
 go_enter Tryz.func130, Tryz.ntmps130
 go_wp2
 go_region
 all_goals
  go_wp2
  go_end0
  refine ⟨rfl, ?_, ?_⟩
  ·rw [St.add_mid s x hn]
   have h1 := at_set (at_drew (at_set HB.out 7 (.int .u64 (q (s.rest ||| (BitVec.ofNat 64 x.toNat <<< (s.n % 8 * 8))))))) 8 (.int .u8 (((s.n : Int) + 1) % 256))
   exact h1
  ·exact gb_row (gb_drew (gb_row (.refl w (some b)) (p := ⟨b, 7, none⟩) rfl _)) (p := ⟨b, 8, none⟩) rfl _

set_option maxHeartbeats 1600000 in
theorem add_end (b : Nat) (s : St) (x : UInt8) (hn : s.n % 8 = 7) (w : World) (hb : w.heap[b]? = some s.obj) :
  Calls Tryz.prog 130 #[.pointer (some ⟨b, 0, none⟩), .int .u8 (x.toNat : Int)] w fun e w' => e = .returned (.tuple #[]) ∧ w'.heap[b]? = some (s.add x).obj ∧ w.grownBy w' (some b) := by
 have HB := hid hb
 have c7 : w.cell? ⟨b, 7, none⟩ = some (.int .u64 (q s.rest)) := at_cell hb 7
 have c8 : w.cell? ⟨b, 8, none⟩ = some (.int .u8 ((s.n % 256 : Nat) : Int)) := at_cell hb 8
 have f7 : w.frozen? ⟨b, 7, none⟩ = false := at_free hb 7
 have f8 : w.frozen? ⟨b, 8, none⟩ = false := at_free hb 8
 clear hb
 have hx := byte_q x
 have hu := size_up s.n
 have ht : (((s.n : Int) + 1) % 8 == 0) = true := by simp; omega
 have hn7 := hid hn; clear hn
 go_enter Tryz.func130, Tryz.ntmps130
 go_wp2
 go_region
 go_wp2
 have hb1 := at_set (at_drew (at_set HB.out 7 (.int .u64 (q (s.rest ||| (BitVec.ofNat 64 x.toNat <<< (s.n % 8 * 8))))))) 8 (.int .u8 (((s.n : Int) + 1) % 256))
 have hg1 := gb_row (gb_drew (gb_row (.refl w (some b)) (p := ⟨b, 7, none⟩) rfl (.int .u64 (q (s.rest ||| (BitVec.ofNat 64 x.toNat <<< (s.n % 8 * 8)))))) ) (p := ⟨b, 8, none⟩) rfl (.int .u8 (((s.n : Int) + 1) % 256))
 generalize hR : (s.rest ||| (BitVec.ofNat 64 x.toNat <<< (s.n % 8 * 8))) = r at *
 generalize hW : (((w.setCell ⟨b, 7, none⟩ (.int .u64 (q r))).setCell ⟨b, 8, none⟩ (.int .u8 (((s.n : Int) + 1) % 256))).drew) = w1
 replace hb1 : w1.heap[b]? = some (hashObj 1 s.v.a s.v.b s.v.c s.v.d r (((s.n : Int) + 1) % 256)) := by rw [← hW]; exact hb1
 replace hg1 : w.grownBy w1 (some b) := by rw [← hW]; exact hg1
 have HB1 := hid hb1
 have HR := hid hR
 have d := hash_cells hb1
 obtain ⟨d3, d4, d5, d6, d7, e3, e4, e5, e6, e7⟩ := d
 clear hb1 hW hR c7 c8 f7 f8 hx hu ht HB
 go_region_with ((go_at_call 131; refine (stir_any s.v r _).mono ?_; rintro e w2 ⟨rfl, hg⟩; obtain ⟨d3', d4', d5', d6', d7', e3', e4', e5', e6', e7'⟩ := hash_cells (at_grown (at_drew HB1.out) hg (by simp))))
 all_goals
  go_wp2
  go_end0
  refine ⟨rfl, ?_, ?_⟩
  ·rw [St.add_end s x hn7.out, HR.out]
   have h2 := at_set (at_set (at_set (at_set (at_grown (at_drew HB1.out) hg (by simp)) 3 (.int .u64 (q (stirred s.v r).a))) 4 (.int .u64 (q (stirred s.v r).b))) 5 (.int .u64 (q (stirred s.v r).c))) 6 (.int .u64 (q (stirred s.v r).d))
   exact at_set h2 7 (.int .u64 0)
  ·exact gb_row (gb_row (gb_row (gb_row (gb_row (gb_trans (gb_drew hg1) hg (.inl rfl)) rfl _) rfl _) rfl _) rfl _) rfl _
end Go.Proofs.YtgpdcapnnejdeaaGreat
