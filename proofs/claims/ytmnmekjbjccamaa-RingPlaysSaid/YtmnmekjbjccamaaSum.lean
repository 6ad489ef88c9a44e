/-
  Contracts for the program's hash with a key: the sum of all that was written is told, and the hash goes on as it was; a hash is made; the sum of bytes at once. The conditions: the block is a hash under way, as 'New' makes it; the bytes lie elsewhere.
-/
import Derived.Test.YtmnmekjbjccamaaWrite
namespace Go.Proofs.Ytmnmekjbjccamaa
set_option maxRecDepth 100000
open Go.RowKit

theorem hash_cell8 {w : World} {b : Nat} {dn : Int} {x3 x4 x5 x6 x7 : BitVec 64} {sz : Int} (hb : w.heap[b]? = some (hashObj dn x3 x4 x5 x6 x7 sz)) :
    w.cell? ⟨b, 3, none⟩ = some (.int .u64 (q x3)) ∧ w.cell? ⟨b, 4, none⟩ = some (.int .u64 (q x4)) ∧ w.cell? ⟨b, 5, none⟩ = some (.int .u64 (q x5)) ∧ w.cell? ⟨b, 6, none⟩ = some (.int .u64 (q x6)) ∧ w.cell? ⟨b, 7, none⟩ = some (.int .u64 (q x7)) ∧ w.cell? ⟨b, 8, none⟩ = some (.int .u8 sz) :=
  ⟨at_cell hb 3, at_cell hb 4, at_cell hb 5, at_cell hb 6, at_cell hb 7, at_cell hb 8⟩
theorem size_q (n : Nat) : IntKind.u64.wrap ((n : Int) % 256) = q (BitVec.ofNat 64 (n % 256)) := by
  rw [IntKind.wrap_u64]; unfold q; rw [BitVec.toNat_ofNat]; omega

/-- a block that is four words -/
@[reducible] def wordsObj (v : W4) : Obj := .cells #[.int .u64 (q v.a), .int .u64 (q v.b), .int .u64 (q v.c), .int .u64 (q v.d)] 115
theorem x255 (x : BitVec 64) : bits .xor .u64 (q x) 255 = q (x ^^^ 255#64) := q_xor_num x _
attribute [go_sem ↓] x255
theorem words_cells {w : World} {b : Nat} {x0 x1 x2 x3 : BitVec 64} (hb : w.heap[b]? = some (.cells #[.int .u64 (q x0), .int .u64 (q x1), .int .u64 (q x2), .int .u64 (q x3)] 115)) :
    w.cell? ⟨b, 0, none⟩ = some (.int .u64 (q x0)) ∧ w.cell? ⟨b, 1, none⟩ = some (.int .u64 (q x1)) ∧ w.cell? ⟨b, 2, none⟩ = some (.int .u64 (q x2)) ∧ w.cell? ⟨b, 3, none⟩ = some (.int .u64 (q x3)) ∧
      w.frozen? ⟨b, 0, none⟩ = false ∧ w.frozen? ⟨b, 1, none⟩ = false ∧ w.frozen? ⟨b, 2, none⟩ = false ∧ w.frozen? ⟨b, 3, none⟩ = false :=
  ⟨at_cell hb 0, at_cell hb 1, at_cell hb 2, at_cell hb 3, at_free hb 0, at_free hb 1, at_free hb 2, at_free hb 3⟩

theorem stir_behind (v : W4) (m : BitVec 64) (w : World) :
    Calls Try.prog 57 #[.agg #[.int .u64 (q v.a), .int .u64 (q v.b), .int .u64 (q v.c), .int .u64 (q v.d)], .int .u64 (q m)] (w.alloc (.cells #[.int .u64 0, .int .u64 0, .int .u64 0, .int .u64 0] 115)).drew fun e w' => e = .returned (stirred v m).val ∧
      (w.alloc (.cells #[.int .u64 0, .int .u64 0, .int .u64 0, .int .u64 0] 115)).drew.grownBy w' none ∧
      w'.cell? ⟨w.heap.size, 0, none⟩ = some (.int .u64 0) ∧ w'.cell? ⟨w.heap.size, 1, none⟩ = some (.int .u64 0) ∧ w'.cell? ⟨w.heap.size, 2, none⟩ = some (.int .u64 0) ∧ w'.cell? ⟨w.heap.size, 3, none⟩ = some (.int .u64 0) ∧
      w'.frozen? ⟨w.heap.size, 0, none⟩ = false ∧ w'.frozen? ⟨w.heap.size, 1, none⟩ = false ∧ w'.frozen? ⟨w.heap.size, 2, none⟩ = false ∧ w'.frozen? ⟨w.heap.size, 3, none⟩ = false :=
  (stir_any v m _).mono fun _ _ ⟨h1, h2⟩ => ⟨h1, h2, words_cells (x0 := 0) (x1 := 0) (x2 := 0) (x3 := 0) (at_grown (at_drew (at_new w _)) h2 (by simp))⟩

set_option maxHeartbeats 1600000 in
theorem hsum_any (b : Nat) (s : St) (w : World) (hb : w.heap[b]? = some s.obj) :
    Calls Try.prog 48 #[.pointer (some ⟨b, 0, none⟩)] w fun e w' => e = .returned (.int .u64 (q s.sum)) ∧ w.grownBy w' none := by
  have HB := hid hb; clear hb
  have hs := size_q s.n
  go_enter Try.func48, Try.ntmps48
  go_wp2_with fail
  refine (begin_done b 0 0 _ _ _ _ _ _ _ HB.out).mono ?_
  rintro e w1 ⟨rfl, hg⟩
  have hb1 := at_grown HB.out hg (by simp)
  have HB1 := hid hb1; have HG := hid hg; clear hb1 hg
  obtain ⟨d3, d4, d5, d6, d7, d8⟩ := hash_cell8 HB1.out
  go_wp2_with fail
  have hblt := at_lt HB1.out
  go_region_held3 (fun w' => w'.cell? ⟨b, 3, none⟩ = some (.int .u64 (q s.v.a)) ∧ w'.cell? ⟨b, 4, none⟩ = some (.int .u64 (q s.v.b)) ∧ w'.cell? ⟨b, 5, none⟩ = some (.int .u64 (q s.v.c)) ∧ w'.cell? ⟨b, 6, none⟩ = some (.int .u64 (q s.v.d)) ∧ w'.cell? ⟨b, 7, none⟩ = some (.int .u64 (q s.rest)) ∧ w'.cell? ⟨b, 8, none⟩ = some (.int .u8 ((s.n % 256 : Nat) : Int)))
    ((refine hash_cell8 (dn := 1) ?_; repeat (first | with_reducible exact HB1.out | with_reducible refine at_drew ?_ | with_reducible refine at_alloc ?_ _ | with_reducible refine at_grown ?_ hg (by simp) | with_reducible refine at_set_other ?_ (by simp; omega) _)))
    (first
      | (go_at_call 57; (with_reducible refine (stir_behind s.v (s.rest ||| (BitVec.ofNat 64 (s.n % 256) <<< 56)) _).mono ?_); rintro e w2 ⟨rfl, hg, n0, n1, n2, n3, m0, m1, m2, m3⟩)
      | (go_at_call 57; (with_reducible refine (stir_any s.v (s.rest ||| (BitVec.ofNat 64 (s.n % 256) <<< 56)) _).mono ?_); rintro e w2 ⟨rfl, hg⟩))
  · have hnb : Hid (w.heap.size ≤ w2.heap.size) := hid (by have h1 := gb_size HG.out; have h2 := gb_size hg; exact Nat.le_trans h1 h2)
    refine exit_gen (fun wx => wx.heap[w2.heap.size]? = some (wordsObj (stirred s.v (s.rest ||| (BitVec.ofNat 64 (s.n % 256) <<< 56)))) ∧ w.grownBy wx none) ⟨?_, ?_⟩ ?_
    · exact at_new w2 _
    · exact gb_alloc (gb_trans (gb_drew HG.out) hg (.inl rfl)) _
    · intro wx hx
      obtain ⟨hN, hgN⟩ := hx
      have HN := hid hN; have HGN := hid hgN; clear hN hgN
      generalize hv : (stirred s.v (s.rest ||| (BitVec.ofNat 64 (s.n % 256) <<< 56))) = v at *
      have HV := hid hv; clear hv
      obtain ⟨n0, n1, n2, n3, m0, m1, m2, m3⟩ := words_cells HN.out
      go_wp2_with fail
      refine (rounds_any ⟨v.a, v.b, v.c ^^^ 255#64, v.d⟩ 4 (by omega) _).mono ?_
      rintro e w3 ⟨rfl, hg3⟩
      obtain ⟨n0', n1', n2', n3', m0', m1', m2', m3'⟩ := words_cells (x0 := v.a) (x1 := v.b) (x2 := v.c ^^^ 255#64) (x3 := v.d) (at_grown (at_set HN.out 2 _) hg3 (by simp))
      go_wp2_with fail
      go_ret
      refine ⟨by rw [← HV.out]; rfl, ?_⟩
      exact gb_new (gb_new (gb_new (gb_new (gb_trans (gb_new HGN.out (hnb.out) _) hg3 (.inl rfl)) hnb.out _) hnb.out _) hnb.out _) hnb.out _
  · have hnb : Hid (w.heap.size ≤ w1.heap.size) := hid (gb_size HG.out)
    refine exit_gen (fun wx => wx.heap[w1.heap.size]? = some (wordsObj (stirred s.v (s.rest ||| (BitVec.ofNat 64 (s.n % 256) <<< 56)))) ∧ w.grownBy wx none) ⟨?_, ?_⟩ ?_
    · exact at_set (at_set (at_set (at_set (at_grown (at_drew (at_new w1 _)) hg (by simp)) 0 _) 1 _) 2 _) 3 _
    · exact gb_new (gb_new (gb_new (gb_new (gb_trans (gb_drew (gb_alloc HG.out _)) hg (.inl rfl)) (gb_size HG.out) _) (gb_size HG.out) _) (gb_size HG.out) _) (gb_size HG.out) _
    · intro wx hx
      obtain ⟨hN, hgN⟩ := hx
      have HN := hid hN; have HGN := hid hgN; clear hN hgN
      generalize hv : (stirred s.v (s.rest ||| (BitVec.ofNat 64 (s.n % 256) <<< 56))) = v at *
      have HV := hid hv; clear hv
      obtain ⟨n0, n1, n2, n3, m0, m1, m2, m3⟩ := words_cells HN.out
      go_wp2_with fail
      refine (rounds_any ⟨v.a, v.b, v.c ^^^ 255#64, v.d⟩ 4 (by omega) _).mono ?_
      rintro e w3 ⟨rfl, hg3⟩
      obtain ⟨n0', n1', n2', n3', m0', m1', m2', m3'⟩ := words_cells (x0 := v.a) (x1 := v.b) (x2 := v.c ^^^ 255#64) (x3 := v.d) (at_grown (at_set HN.out 2 _) hg3 (by simp))
      go_wp2_with fail
      go_ret
      refine ⟨by rw [← HV.out]; rfl, ?_⟩
      exact gb_new (gb_new (gb_new (gb_new (gb_trans (gb_new HGN.out (hnb.out) _) hg3 (.inl rfl)) hnb.out _) hnb.out _) hnb.out _) hnb.out _
end Go.Proofs.Ytmnmekjbjccamaa
