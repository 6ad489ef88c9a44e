/-
  Contracts for the program's hash with a key: bytes are written, the sum is told, a hash is made, the sum of bytes at once. Each does to the hash's block what the plain functions say, and changes nothing else that was there. The conditions: the block is a hash under way, as 'New' makes it; the bytes lie elsewhere. And 1 texts more that this one stands on. No condition.
-/
import Derived.Test.YtgpdcapnnejdeaaGreatNAdd
section
namespace Go.Proofs.YtgpdcapnnejdeaaGreat
set_option maxRecDepth 100000
open Go.RowKit

def BytesAt (w : World) (v : Value) (l : List UInt8) : Prop :=
 (v = .slice none 0 0 ∧ l = []) ∨
 ∃ a cap, v = .slice (some a) l.length cap ∧ l.length ≤ cap ∧ cap ≤ maxLen ∧ ∀ i, (h : i < l.length) → w.cell? (a.add i) = some (.int .u8 ((l[i]).toNat : Int))

theorem BytesAt.le {w : World} {v : Value} {l : List UInt8} (h : BytesAt w v l) : l.length ≤ maxLen := by
 rcases h with ⟨_, rfl⟩ | ⟨a, cap, _, h1, h2, _⟩
 ·simp
 ·omega
theorem cell_lt {w : World} {p : Addr} {x : Value} (h : w.cell? p = some x) : p.block < w.heap.size := by
 unfold World.cell? at h
 rcases Nat.lt_or_ge p.block w.heap.size with hb | hb
 ·exact hb
 ·rw [Array.getElem?_eq_none hb] at h; cases h
theorem add_block (a : Addr) (i : Nat) : (a.add i).block = a.block := by unfold Addr.add; split <;> rfl
theorem BytesAt.lt {w : World} {v : Value} {l : List UInt8} (h : BytesAt w v l) : l = [] ∨ ∀ a n c, v = .slice (some a) n c → a.block < w.heap.size := by
 rcases h with ⟨_, rfl⟩ | ⟨a, cap, rfl, _, _, h3⟩
 ·exact .inl rfl
 ·cases l with
  | nil => exact .inl rfl
  | cons x l =>
   refine .inr fun a' n c e => ?_
   cases e
   have := cell_lt (h3 0 (by simp))
   rwa [add_block] at this
theorem BytesAt.grown {w w1 : World} {v : Value} {l : List UInt8} {r : Option Nat} (h : BytesAt w v l) (hg : w.grownBy w1 r) (hr : ∀ k, r = some k → w.heap.size ≤ k ∨ l = [] ∨ ∀ a n c, v = .slice (some a) n c → a.block ≠ k) : BytesAt w1 v l := by
 rcases h with h | ⟨a, cap, rfl, h1, h2, h3⟩
 ·exact .inl h
 ·refine .inr ⟨a, cap, rfl, h1, h2, fun i hi => hg.cell (h3 i hi) ?_⟩
  have hlt := cell_lt (h3 i hi)
  rw [add_block] at hlt ⊢
  intro e
  rcases hr _ e.symm with h4 | h4 | h4
  ·omega
  ·rw [h4] at hi; cases hi
  ·exact h4 a _ _ rfl rfl
theorem BytesAt.cells {w : World} {v : Value} {l : List UInt8} (h : BytesAt w v l) (hp : 0 < l.length) :
  ∃ ab ao cap, v = .slice (some ⟨ab, ao, none⟩) l.length cap ∧ ∀ i, (h : i < l.length) → w.cell? ⟨ab, ao + i, none⟩ = some (.int .u8 ((l[i]).toNat : Int)) := by
 rcases h with ⟨_, rfl⟩ | ⟨⟨ab, ao, asp⟩, cap, rfl, _, _, h3⟩
 ·cases hp
 ·have h0 := h3 0 hp
  have hsp : asp = none := by simpa [Addr.add] using World.cell?_spot h0
  subst hsp
  refine ⟨ab, ao, cap, rfl, fun i hi => ?_⟩
  have := h3 i hi
  unfold Addr.add at this
  split at this
  ·next h => subst h; simpa using this
  ·simpa using this
theorem gb_some {w w1 : World} (h : w.grownBy w1 none) (b : Nat) : w.grownBy w1 (some b) := ⟨h.os, h.tape, h.output, h.size, fun k hk _ => h.block k hk (by simp)⟩

theorem add_any (b : Nat) (s : St) (x : UInt8) (w : World) (hb : w.heap[b]? = some s.obj) :
  Calls Tryz.prog 130 #[.pointer (some ⟨b, 0, none⟩), .int .u8 (x.toNat : Int)] w fun e w' => e = .returned (.tuple #[]) ∧ w'.heap[b]? = some (s.add x).obj ∧ w.grownBy w' (some b) := by
 by_cases hn : s.n % 8 = 7
 ·exact add_end b s x hn w hb
 ·exact add_mid b s x hn w hb

set_option maxHeartbeats 1600000 in
theorem write_any (b : Nat) (s : St) (l : List UInt8) (v : Value) (w : World) (hb : w.heap[b]? = some s.obj) (hl : BytesAt w v l) (hne : l = [] ∨ ∀ a n c, v = .slice (some a) n c → a.block ≠ b) :
  Calls Tryz.prog 116 #[.pointer (some ⟨b, 0, none⟩), v] w fun e w' => e = .returned (.int .i64 (l.length : Int)) ∧ w'.heap[b]? = some (l.foldl St.add s).obj ∧ w.grownBy w' (some b) := by
 have hle := hl.le
 unfold maxLen at hle
 have HB := hid hb; clear hb
 have HL := hid hl
 obtain ⟨p, cap, rfl⟩ : ∃ p cap, v = .slice p l.length cap := by
  rcases hl with ⟨rfl, rfl⟩ | ⟨a, cap, rfl, _, _, _⟩
  ·exact ⟨none, 0, rfl⟩
  ·exact ⟨some a, cap, rfl⟩
 clear hl
 go_enter Tryz.func116, Tryz.ntmps116
 go_wp2_with fail
 refine (begin_done b 0 0 _ _ _ _ _ _ _ HB.out).mono ?_
 rintro e w1 ⟨rfl, hg⟩
 go_wp2_with fail
 have hb1 := at_grown HB.out hg (by simp)
 have HB1 := hid hb1; have HG := hid hg; clear hb1 hg
 go_loopw [14] (fun i wr => ∃ k : Nat, k ≤ l.length ∧ i = .int .i64 (k : Int) ∧ wr.heap[b]? = some ((l.take k).foldl St.add s).obj ∧ w.grownBy wr (some b)) (fun i _ => l.length - (intOf i).toNat)
 case atStart => exact ⟨0, Nat.zero_le _, rfl, HB1.out, gb_some HG.out b⟩
 case round =>
  obtain ⟨k, hk, rfl, hbk, hgk⟩ := hrel
  have HBK := hid hbk; have HGK := hid hgk; clear hbk hgk
  by_cases hlt : k < l.length
  ·obtain ⟨ab, ao, cap', hp, hcs⟩ := (HL.out.grown HGK.out (fun k hk => by cases hk; exact .inr hne)).cells (by omega)
   cases hp
   have hc := hcs k hlt
   clear hcs
   have hk0 : (0 : Int) ≤ (k : Int) := by omega
   have hk1 : (k : Int) < (l.length : Int) := by omega
   go_wp2_with fail
   refine (add_any b _ _ _ HBK.out).mono ?_
   rintro e w2 ⟨rfl, h1, h2⟩
   have H1 := hid h1; have H2 := hid h2; clear h1 h2
   go_wp2_with fail
   go_roundw
   case rel => exact ⟨k + 1, by omega, by go_num, by rw [List.take_succ_eq_append_getElem hlt, List.foldl_append]; exact H1.out, gb_trans HGK.out H2.out (.inr (.inl rfl))⟩
   case measure => simp [intOf]; omega
  ·have hkn : k = l.length := by omega
   subst hkn
   go_wp2_with fail
   go_ret
   exact ⟨rfl, by have := HBK.out; rwa [List.take_of_length_le (Nat.le_refl _)] at this, HGK.out⟩
end Go.Proofs.YtgpdcapnnejdeaaGreat
end
section
namespace Go.Proofs.YtgpdcapnnejdeaaGreat
set_option maxRecDepth 100000
open Go.RowKit

theorem hash_cell8 {w : World} {b : Nat} {dn : Int} {x3 x4 x5 x6 x7 : BitVec 64} {sz : Int} (hb : w.heap[b]? = some (hashObj dn x3 x4 x5 x6 x7 sz)) :
  w.cell? ⟨b, 3, none⟩ = some (.int .u64 (q x3)) ∧ w.cell? ⟨b, 4, none⟩ = some (.int .u64 (q x4)) ∧ w.cell? ⟨b, 5, none⟩ = some (.int .u64 (q x5)) ∧ w.cell? ⟨b, 6, none⟩ = some (.int .u64 (q x6)) ∧ w.cell? ⟨b, 7, none⟩ = some (.int .u64 (q x7)) ∧ w.cell? ⟨b, 8, none⟩ = some (.int .u8 sz) :=
 ⟨at_cell hb 3, at_cell hb 4, at_cell hb 5, at_cell hb 6, at_cell hb 7, at_cell hb 8⟩
theorem size_q (n : Nat) : IntKind.u64.wrap ((n : Int) % 256) = q (BitVec.ofNat 64 (n % 256)) := by
 rw [IntKind.wrap_u64]; unfold q; rw [BitVec.toNat_ofNat]; omega

@[reducible] def wordsObj (v : W4) : Obj := .cells #[.int .u64 (q v.a), .int .u64 (q v.b), .int .u64 (q v.c), .int .u64 (q v.d)] 212
theorem x255 (x : BitVec 64) : bits .xor .u64 (q x) 255 = q (x ^^^ 255#64) := q_xor_num x _
attribute [go_sem ↓] x255
theorem words_cells {w : World} {b : Nat} {x0 x1 x2 x3 : BitVec 64} (hb : w.heap[b]? = some (.cells #[.int .u64 (q x0), .int .u64 (q x1), .int .u64 (q x2), .int .u64 (q x3)] 212)) :
  w.cell? ⟨b, 0, none⟩ = some (.int .u64 (q x0)) ∧ w.cell? ⟨b, 1, none⟩ = some (.int .u64 (q x1)) ∧ w.cell? ⟨b, 2, none⟩ = some (.int .u64 (q x2)) ∧ w.cell? ⟨b, 3, none⟩ = some (.int .u64 (q x3)) ∧
   w.frozen? ⟨b, 0, none⟩ = false ∧ w.frozen? ⟨b, 1, none⟩ = false ∧ w.frozen? ⟨b, 2, none⟩ = false ∧ w.frozen? ⟨b, 3, none⟩ = false :=
 ⟨at_cell hb 0, at_cell hb 1, at_cell hb 2, at_cell hb 3, at_free hb 0, at_free hb 1, at_free hb 2, at_free hb 3⟩

theorem stir_behind (v : W4) (m : BitVec 64) (w : World) :
  Calls Tryz.prog 131 #[.agg #[.int .u64 (q v.a), .int .u64 (q v.b), .int .u64 (q v.c), .int .u64 (q v.d)], .int .u64 (q m)] (w.alloc (.cells #[.int .u64 0, .int .u64 0, .int .u64 0, .int .u64 0] 212)).drew fun e w' => e = .returned (stirred v m).val ∧
   (w.alloc (.cells #[.int .u64 0, .int .u64 0, .int .u64 0, .int .u64 0] 212)).drew.grownBy w' none ∧
   w'.cell? ⟨w.heap.size, 0, none⟩ = some (.int .u64 0) ∧ w'.cell? ⟨w.heap.size, 1, none⟩ = some (.int .u64 0) ∧ w'.cell? ⟨w.heap.size, 2, none⟩ = some (.int .u64 0) ∧ w'.cell? ⟨w.heap.size, 3, none⟩ = some (.int .u64 0) ∧
   w'.frozen? ⟨w.heap.size, 0, none⟩ = false ∧ w'.frozen? ⟨w.heap.size, 1, none⟩ = false ∧ w'.frozen? ⟨w.heap.size, 2, none⟩ = false ∧ w'.frozen? ⟨w.heap.size, 3, none⟩ = false :=
 (stir_any v m _).mono fun _ _ ⟨h1, h2⟩ => ⟨h1, h2, words_cells (x0 := 0) (x1 := 0) (x2 := 0) (x3 := 0) (at_grown (at_drew (at_new w _)) h2 (by simp))⟩

set_option maxHeartbeats 1600000 in
theorem hsum_any (b : Nat) (s : St) (w : World) (hb : w.heap[b]? = some s.obj) :
  Calls Tryz.prog 117 #[.pointer (some ⟨b, 0, none⟩)] w fun e w' => e = .returned (.int .u64 (q s.sum)) ∧ w.grownBy w' none := by
 have HB := hid hb; clear hb
 have hs := size_q s.n
 go_enter Tryz.func117, Tryz.ntmps117
 go_wp2_with fail
 refine (begin_done b 0 0 _ _ _ _ _ _ _ HB.out).mono ?_
 rintro e w1 ⟨rfl, hg⟩
 have hb1 := at_grown HB.out hg (by simp)
 have HB1 := hid hb1; have HG := hid hg; clear hb1 hg
 obtain ⟨d3, d4, d5, d6, d7, d8⟩ := hash_cell8 HB1.out
 go_wp2_with fail
 have hblt := at_lt HB1.out
 go_region_held3 (fun w' => w'.cell? ⟨b, 3, none⟩ = some (.int .u64 (q s.v.a)) ∧ w'.cell? ⟨b, 4, none⟩ = some (.int .u64 (q s.v.b)) ∧ w'.cell? ⟨b, 5, none⟩ = some (.int .u64 (q s.v.c)) ∧ w'.cell? ⟨b, 6, none⟩ = some (.int .u64 (q s.v.d)) ∧ w'.cell? ⟨b, 7, none⟩ = some (.int .u64 (q s.rest)) ∧ w'.cell? ⟨b, 8, none⟩ = some (.int .u8 ((s.n % 256 : Nat) : Int)))
  ((refine hash_cell8 (dn := 1) ?_; repeat (first | with_reducible exact HB1.out | with_reducible refine at_drew ?_ | with_reducible refine at_alloc ?_ _ | with_reducible refine at_grown ?_ hg (by simp) | with_reducible refine at_set_other ?_ (by simp; omega) _)))
  (first
   | (go_at_call 131; (with_reducible refine (stir_behind s.v (s.rest ||| (BitVec.ofNat 64 (s.n % 256) <<< 56)) _).mono ?_); rintro e w2 ⟨rfl, hg, n0, n1, n2, n3, m0, m1, m2, m3⟩)
   | (go_at_call 131; (with_reducible refine (stir_any s.v (s.rest ||| (BitVec.ofNat 64 (s.n % 256) <<< 56)) _).mono ?_); rintro e w2 ⟨rfl, hg⟩))
 ·have hnb : Hid (w.heap.size ≤ w2.heap.size) := hid (by have h1 := gb_size HG.out; have h2 := gb_size hg; exact Nat.le_trans h1 h2)
  refine exit_gen (fun wx => wx.heap[w2.heap.size]? = some (wordsObj (stirred s.v (s.rest ||| (BitVec.ofNat 64 (s.n % 256) <<< 56)))) ∧ w.grownBy wx none) ⟨?_, ?_⟩ ?_
  ·exact at_new w2 _
  ·exact gb_alloc (gb_trans (gb_drew HG.out) hg (.inl rfl)) _
  ·intro wx hx
   obtain ⟨hN, hgN⟩ := hx
   have HN := hid hN; have HGN := hid hgN; clear hN hgN
   generalize hv : (stirred s.v (s.rest ||| (BitVec.ofNat 64 (s.n % 256) <<< 56))) = v at *
   have HV := hid hv; clear hv
   obtain ⟨n0, n1, n2, n3, m0, m1, m2, m3⟩ := words_cells HN.out
   go_wp2_with fail
   refine (rounds_any ⟨v.a, v.b, v.c ^^^ 255#64, v.d⟩ 4 (by omega) _).mono ?_
   rintro e w3 ⟨rfl, hg3⟩
   obtain ⟨n0', n1', n2', n3', m0', m1', m2', m3'⟩ := words_cells (x0 := v.a) (x1 := v.b) (x2 := v.c ^^^ 255#64) (x3 := v.d) (at_grown (at_set HN.out 2 _) hg3 (by simp))
   go_wp2_with fail
   go_ret
   refine ⟨by rw [← HV.out]; rfl, ?_⟩
   exact gb_new (gb_new (gb_new (gb_new (gb_trans (gb_new HGN.out (hnb.out) _) hg3 (.inl rfl)) hnb.out _) hnb.out _) hnb.out _) hnb.out _
 ·have hnb : Hid (w.heap.size ≤ w1.heap.size) := hid (gb_size HG.out)
  refine exit_gen (fun wx => wx.heap[w1.heap.size]? = some (wordsObj (stirred s.v (s.rest ||| (BitVec.ofNat 64 (s.n % 256) <<< 56)))) ∧ w.grownBy wx none) ⟨?_, ?_⟩ ?_
  ·exact at_set (at_set (at_set (at_set (at_grown (at_drew (at_new w1 _)) hg (by simp)) 0 _) 1 _) 2 _) 3 _
  ·exact gb_new (gb_new (gb_new (gb_new (gb_trans (gb_drew (gb_alloc HG.out _)) hg (.inl rfl)) (gb_size HG.out) _) (gb_size HG.out) _) (gb_size HG.out) _) (gb_size HG.out) _
  ·intro wx hx
   obtain ⟨hN, hgN⟩ := hx
   have HN := hid hN; have HGN := hid hgN; clear hN hgN
   generalize hv : (stirred s.v (s.rest ||| (BitVec.ofNat 64 (s.n % 256) <<< 56))) = v at *
   have HV := hid hv; clear hv
   obtain ⟨n0, n1, n2, n3, m0, m1, m2, m3⟩ := words_cells HN.out
   go_wp2_with fail
   refine (rounds_any ⟨v.a, v.b, v.c ^^^ 255#64, v.d⟩ 4 (by omega) _).mono ?_
   rintro e w3 ⟨rfl, hg3⟩
   obtain ⟨n0', n1', n2', n3', m0', m1', m2', m3'⟩ := words_cells (x0 := v.a) (x1 := v.b) (x2 := v.c ^^^ 255#64) (x3 := v.d) (at_grown (at_set HN.out 2 _) hg3 (by simp))
   go_wp2_with fail
   go_ret
   refine ⟨by rw [← HV.out]; rfl, ?_⟩
   exact gb_new (gb_new (gb_new (gb_new (gb_trans (gb_new HGN.out (hnb.out) _) hg3 (.inl rfl)) hnb.out _) hnb.out _) hnb.out _) hnb.out _
end Go.Proofs.YtgpdcapnnejdeaaGreat
end
