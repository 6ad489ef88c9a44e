/-
  Contracts for package wire and the document's own answer: which messages may be, a message's first eight bytes as a number. No condition. And 3 texts more that this one stands on. No condition.
-/
import Derived.Test.YtgpdcapnnejdeaaGreatNWPure
import Derived.Test.YtgpdcapnnejdeaaGreatY5
import Derived.Test.YtgpdcapnnejdeaaGreatY2
import Derived.Test.YtgpdcapnnejdeaaGreatY4
import Derived.Test.YtgpdcapnnejdeaaGreatY8
import Derived.Lib.AppendZerosOnto
import Derived.Lib.AppendZeros
import Derived.ChangeKeysEq
section
set_option linter.unusedSimpArgs false
namespace Go.Proofs.YtgpdcapnnejdeaaGreat
set_option maxRecDepth 100000
open Go.RowKit

@[reducible] def Mg.cells (m : Mg) : Array Value := #[.int .i64 m.kind, .int .i64 m.who, .int .i64 m.gen, .int .i64 m.seq, .int .i64 m.epoch, .int .i64 m.value, .int .i64 m.metric]
@[reducible] def mg (m : Mg) : Value := .agg m.cells

def within (n lo hi : Int) : Bool := decide (lo ≤ n) && decide (n ≤ hi)
theorem within_any (n lo hi : Int) (w : World) :
  Calls Tryz.prog 101 #[.int .i64 n, .int .i64 lo, .int .i64 hi] w fun e w' => e = .returned (.bool (within n lo hi)) ∧ w' = w := by
 unfold within
 by_cases h1 : lo ≤ n <;> by_cases h2 : n ≤ hi <;> (
 go_enter Tryz.func101, Tryz.ntmps101
 go_wp2_with fail
 go_ret
 simp [h1, h2])
theorem within64_any (n lo hi : Int) (w : World) :
  Calls Tryz.prog 102 #[.int .i64 n, .int .i64 lo, .int .i64 hi] w fun e w' => e = .returned (.bool (within n lo hi)) ∧ w' = w := by
 unfold within
 by_cases h1 : lo ≤ n <;> by_cases h2 : n ≤ hi <;> (
 go_enter Tryz.func102, Tryz.ntmps102
 go_wp2_with fail
 go_ret
 simp [h1, h2])
theorem in_any (n lo hi : Int) (w : World) :
  Calls Tryz.prog 107 #[.int .i64 n, .int .i64 lo, .int .i64 hi] w fun e w' => e = .returned (.bool (within n lo hi)) ∧ w' = w := by
 unfold within
 by_cases h1 : lo ≤ n <;> by_cases h2 : n ≤ hi <;> (
 go_enter Tryz.func107, Tryz.ntmps107
 go_wp2_with fail
 go_ret
 simp [h1, h2])

structure BoxM (w : World) (m : Mg) (w' : World) : Prop where
 box : w'.heap[w.heap.size]? = some (.cells m.cells 39)
 g : w.grownBy w' none
theorem BoxM.grown {w : World} {m : Mg} {w1 w2 : World} (h : BoxM w m w1) (hg : w1.grownBy w2 none) : BoxM w m w2 := ⟨at_grown h.box hg (by simp), gb_trans h.g hg (.inl rfl)⟩
theorem BoxM.drew {w : World} {m : Mg} {w1 : World} (h : BoxM w m w1) : BoxM w m w1.drew := ⟨h.box, gb_drew h.g⟩
theorem boxm_new (w : World) (m : Mg) : BoxM w m (w.alloc (.cells m.cells 39)) := ⟨at_new w _, gb_alloc (.refl w none) _⟩
theorem msg_cells {w : World} {b : Nat} {m : Mg} {t : TypeId} {fr : Nat × Nat} (h : w.heap[b]? = some (.cells m.cells t fr)) :
  w.cell? ⟨b, 0, none⟩ = some (.int .i64 m.kind) ∧ w.cell? ⟨b, 1, none⟩ = some (.int .i64 m.who) ∧ w.cell? ⟨b, 2, none⟩ = some (.int .i64 m.gen) ∧ w.cell? ⟨b, 3, none⟩ = some (.int .i64 m.seq) ∧ w.cell? ⟨b, 4, none⟩ = some (.int .i64 m.epoch) ∧ w.cell? ⟨b, 5, none⟩ = some (.int .i64 m.value) ∧ w.cell? ⟨b, 6, none⟩ = some (.int .i64 m.metric) :=
 ⟨at_cell h 0, at_cell h 1, at_cell h 2, at_cell h 3, at_cell h 4, at_cell h 5, at_cell h 6⟩

def measB (m : Mg) : Bool := if m.kind = 1 then within m.metric 0 3 && within m.value 0 1099511627776 else decide (m.metric = 0) && decide (m.value = 0)
set_option maxHeartbeats 1600000 in
theorem measures_any (m : Mg) (w : World) :
  Calls Tryz.prog 103 #[mg m] w fun e w' => e = .returned (.bool (measB m)) ∧ w.grownBy w' none := by
 unfold measB
 by_cases hk : m.kind = 1
 ·have HK := hid hk
  obtain ⟨x, hx⟩ : ∃ x, within m.metric 0 3 = x := ⟨_, rfl⟩
  obtain ⟨y, hy⟩ : ∃ y, within m.value 0 1099511627776 = y := ⟨_, rfl⟩
  have h1 := fun w => within_any m.metric 0 3 w
  have h2 := fun w => within64_any m.value 0 1099511627776 w
  rw [hx] at h1; rw [hy] at h2
  rw [if_pos hk, hx, hy]
  clear hx hy
  have C1 := hid h1; have C2 := hid h2; clear h1 h2
  cases x <;> (
  go_enter Tryz.func103, Tryz.ntmps103
  go_wp2_with (first | (go_at_call 101; (with_reducible refine (C1.out _).mono ?_); rintro e w1 ⟨rfl, rfl⟩) | (go_at_call 102; (with_reducible refine (C2.out _).mono ?_); rintro e w2 ⟨rfl, rfl⟩))
  go_ret
  exact ⟨rfl, gb_alloc (.refl w none) _⟩)
 ·rw [if_neg hk]
  by_cases h1 : m.metric = 0 <;> by_cases h2 : m.value = 0 <;> (
  go_enter Tryz.func103, Tryz.ntmps103
  go_wp2_with fail
  go_ret
  refine ⟨by simp [h1, h2], gb_alloc (.refl w none) _⟩)
theorem may_bool (m : Mg) : mayOf m = (within m.kind 1 3 && within m.who 0 15 && within m.gen 0 60000 && within m.seq 1 1099511627776 && within m.epoch 0 1099511627776 && measB m) := by
 rw [Bool.eq_iff_iff]
 unfold mayOf May measB within
 by_cases h : m.kind = 1 <;> simp [h, and_assoc]
end Go.Proofs.YtgpdcapnnejdeaaGreat
end
section
namespace Go.Proofs.YtgpdcapnnejdeaaGreat
set_option maxRecDepth 100000
open Go.RowKit
def RowsAt (w : World) (v : Value) (ls : List (Value × List UInt8)) : Prop :=
 (v = .slice none 0 0 ∧ ls = []) ∨
 ∃ a cap, v = .slice (some a) ls.length cap ∧ ls.length ≤ cap ∧ cap ≤ maxLen ∧ ∀ i, (h : i < ls.length) → w.cell? (a.add i) = some ls[i].1 ∧ BytesAt w ls[i].1 ls[i].2
theorem RowsAt.grown {w w1 : World} {v : Value} {l : List (Value × List UInt8)} (h : RowsAt w v l) (hg : w.grownBy w1 none) : RowsAt w1 v l := by
 rcases h with h | ⟨a, cap, rfl, h1, h2, h3⟩
 ·exact .inl h
 ·exact .inr ⟨a, cap, rfl, h1, h2, fun i hi => ⟨hg.cell (h3 i hi).1 (by simp), (h3 i hi).2.grown hg (by simp)⟩⟩
theorem RowsAt.cells {w : World} {v : Value} {l : List (Value × List UInt8)} (h : RowsAt w v l) (hp : 0 < l.length) :
  ∃ ab ao cap, v = .slice (some ⟨ab, ao, none⟩) l.length cap ∧ ∀ i, (h : i < l.length) → w.cell? ⟨ab, ao + i, none⟩ = some l[i].1 ∧ BytesAt w l[i].1 l[i].2 := by
 rcases h with ⟨_, rfl⟩ | ⟨⟨ab, ao, asp⟩, cap, rfl, _, _, h3⟩
 ·cases hp
 ·have h0 := (h3 0 hp).1
  have hsp : asp = none := by simpa [Addr.add] using World.cell?_spot h0
  subst hsp
  refine ⟨ab, ao, cap, rfl, fun i hi => ?_⟩
  have := h3 i hi
  unfold Addr.add at this
  split at this
  ·next h => subst h; simpa using this
  ·simpa using this
theorem BytesAt.form {w : World} {v : Value} {l : List UInt8} (h : BytesAt w v l) : ∃ p c, v = .slice p l.length c := by
 rcases h with ⟨rfl, rfl⟩ | ⟨a, cap, rfl, _, _, _⟩
 ·exact ⟨none, 0, rfl⟩
 ·exact ⟨some a, cap, rfl⟩
end Go.Proofs.YtgpdcapnnejdeaaGreat
end
section
set_option linter.unusedSimpArgs false
namespace Go.Proofs.YtgpdcapnnejdeaaGreat
set_option maxRecDepth 100000
open Go.RowKit

def flatB (ls : List (Value × List UInt8)) : List UInt8 := ls.flatMap (·.2)
theorem flatB_take (ls : List (Value × List UInt8)) (k : Nat) (h : k < ls.length) : flatB (ls.take (k + 1)) = flatB (ls.take k) ++ ls[k].2 := by
 unfold flatB; rw [List.take_succ_eq_append_getElem h, List.flatMap_append]; simp only [List.flatMap_cons, List.flatMap_nil, List.append_nil]
theorem flatB_le (ls : List (Value × List UInt8)) (k : Nat) : (flatB (ls.take k)).length ≤ (flatB ls).length := by
 have e : flatB ls = flatB (ls.take k) ++ flatB (ls.drop k) := by
  unfold flatB; rw [← List.flatMap_append, List.take_append_drop]
 rw [e, List.length_append]; omega

set_option maxHeartbeats 1600000 in
theorem grow_nil (n : Nat) (h0 : 0 < n) (h1 : n ≤ 1000000) (w : World) :
  Calls Tryz.prog 114 #[.slice none 0 0, .int .i64 (n : Int)] w fun e w' => ∃ v, e = .returned v ∧ OwnB w.heap.size w' v [] ∧ w.grownBy w' none := by
 obtain ⟨i, hi, hz0, hz1, hz2⟩ := info_parts info_u8
 have hr : ∀ ty, (Builtin.append_ #[40, 3] ty #[.slice none 0 0, .int .i64 (n : Int)]).run Tryz.prog w = .ok (.slice (some ⟨w.heap.size, 0, none⟩) n (grownCap w n 0 5)) (w.drew.alloc (.cells (#[] ++ Builtin.zeroCells (Value.int .u8 0).cells n ++ Builtin.zeroCells (Value.int .u8 0).cells (grownCap w n 0 5 - n)) 5)) := fun ty => by
  have h := Lib.run_append_grow_zeros w 40 3 ty 5 i (.int .u8 0) .i64 .i64 Tryz.underlying40 Tryz.underlying3 hi hz0 none 0 0 []
   (by rw [hz1]; exact run_firstCells_none w.drew 1 0 0 0) n h0 (by omega) (by omega) (by omega) (by rw [hz2]; omega) (by rw [hz2]; exact growslice_fits (by omega) (by omega))
  rw [Nat.zero_add] at h
  exact h
 have hG := grownCap_ge w n 0 5
 have hM := grownCap_le_maxLen w n 0 5 (by unfold maxLen; omega)
 have hc : (#[] ++ Builtin.zeroCells (Value.int .u8 0).cells n ++ Builtin.zeroCells (Value.int .u8 0).cells (grownCap w n 0 5 - n)).size = grownCap w n 0 5 := by
  simp [Builtin.zeroCells, Value.cells]; omega
 generalize #[] ++ Builtin.zeroCells (Value.int .u8 0).cells n ++ Builtin.zeroCells (Value.int .u8 0).cells (grownCap w n 0 5 - n) = cs at hr hc
 obtain ⟨G, hGe⟩ : ∃ G, G = grownCap w n 0 5 := ⟨_, rfl⟩
 rw [← hGe] at hr hG hM hc
 clear hGe
 have HM := hid hM; have HC := hid hc; clear hM hc
 have hb : (G : Int) ≤ 9223372036854775807 := by have := HM.out; unfold maxLen at this; omega
 go_enter Tryz.func114, Tryz.ntmps114
 go_wp2_with (at_builtin; refine Lib.wpList_append_run _ rfl _ _ _ _ rfl _ _ rfl rfl _ _ (hr _) ?_)
 go_ret
 exact ⟨_, rfl, ⟨rfl, .inr ⟨w.heap.size, G, cs, rfl, Nat.le_refl _, at_new w.drew _, Nat.zero_le _, HM.out, by rw [HC.out, Nat.mul_one], rfl⟩⟩, gb_alloc (gb_drew (.refl w none)) _⟩

def lenK (ls : List (Value × List UInt8)) (k : Nat) : Nat := (flatB (ls.take k)).length
theorem lenK_succ (ls : List (Value × List UInt8)) (k : Nat) (h : k < ls.length) : lenK ls (k + 1) = lenK ls k + ls[k].2.length := by
 unfold lenK; rw [flatB_take ls k h, List.length_append]
theorem lenK_le (ls : List (Value × List UInt8)) (k : Nat) : lenK ls k ≤ (flatB ls).length := flatB_le ls k

set_option maxHeartbeats 3200000 in
theorem concat_any (ls : List (Value × List UInt8)) (v : Value) (w : World) (h : RowsAt w v ls) (h0 : 0 < (flatB ls).length) (h1 : (flatB ls).length ≤ 1000000) :
  Calls Tryz.prog 82 #[v] w fun e w' => ∃ u, e = .returned u ∧ OwnB w.heap.size w' u (flatB ls) ∧ w.grownBy w' none := by
 have hp : 0 < ls.length := by
  rcases Nat.eq_zero_or_pos ls.length with e | e
  ·rw [List.length_eq_zero_iff.1 e] at h0; simp [flatB] at h0
  ·exact e
 have hn : (ls.length : Int) ≤ 9223372036854775807 := by
  rcases h with ⟨_, e⟩ | ⟨_, c, _, k1, k2, _⟩
  ·rw [e]; simp
  ·unfold maxLen at k2; omega
 obtain ⟨ab, ao, cap, rfl, hc⟩ := h.cells hp
 have HR := hid h; have HC := hid hc; have H0 := hid h0; have H1 := hid h1; clear h hc h0 h1
 obtain ⟨N, hN⟩ : ∃ N, N = ls.length := ⟨_, rfl⟩
 rw [← hN] at hp hn ⊢
 have HN := hid hN; clear hN
 have hfull : lenK ls N = (flatB ls).length := by unfold lenK; rw [HN.out, List.take_length]
 have HF := hid hfull; clear hfull
 go_enter Tryz.func82, Tryz.ntmps82
 go_wp2_with fail
 go_loop [3, 5, 11] (fun s _ i => ∃ k : Nat, k ≤ N ∧ i = .int .i64 (k : Int) ∧ s = .int .i64 (lenK ls k : Int)) (fun _ _ i => N - (intOf i).toNat)
 case atStart => exact ⟨0, Nat.zero_le _, rfl, rfl⟩
 case round =>
  obtain ⟨k, hk, rfl, rfl⟩ := hrel
  by_cases hlt : k < N
  ·obtain ⟨cell, hby⟩ := HC.out k (by rw [← HN.out]; exact hlt)
   have hs := lenK_succ ls k (by rw [← HN.out]; exact hlt)
   have hl := lenK_le ls (k + 1)
   have H1' := H1.out
   generalize ls[k]'(by rw [← HN.out]; exact hlt) = vk at cell hby hs
   obtain ⟨vv, bk⟩ := vk
   obtain ⟨p, c, hf⟩ := hby.form
   dsimp only at hf cell hs
   rw [hf] at cell
   have hb1 : (0 : Int) ≤ (lenK ls k : Int) := by omega
   have hb2 : (lenK ls k : Int) + (bk.length : Int) ≤ 1000000 := by omega
   have hb3 : (0 : Int) ≤ (bk.length : Int) := by omega
   have HS := hid hs; clear hs hf hl H1' hby
   go_wp2_with fail
   go_round
   case rel => exact ⟨k + 1, by omega, by go_num, by rw [HS.out]; push_cast; rfl⟩
   case measure => simp [intOf]; omega
  ·obtain rfl : k = N := by omega
   have HFk := hid (show (lenK ls k : Int) = ((flatB ls).length : Int) by rw [HF.out])
   rw [HF.out]
   go_wp2_with fail
   refine (grow_nil _ H0.out H1.out _).mono ?_
   rintro e w1 ⟨v0, rfl, ho, hg⟩
   have HO := hid ho; have HG := hid hg; clear ho hg
   go_wp2_with fail
   go_loopw [6, 8, 27] (fun u _ i wr => ∃ j : Nat, j ≤ k ∧ i = .int .i64 (j : Int) ∧ OwnB w.heap.size wr u (flatB (ls.take j)) ∧ w.grownBy wr none) (fun _ _ i _ => k - (intOf i).toNat)
   case atStart => exact ⟨0, Nat.zero_le _, rfl, by simpa [flatB] using HO.out, HG.out⟩
   case round =>
    obtain ⟨j, hj, rfl, hown, hgr⟩ := hrel
    have HOW := hid hown; have HGR := hid hgr; clear hown hgr
    by_cases hjl : j < k
    ·have hjl' : j < ls.length := by rw [← HN.out]; exact hjl
     obtain ⟨cell, hby⟩ := HC.out j hjl'
     have hs := flatB_take ls j hjl'
     have hl := flatB_le ls (j + 1)
     rw [hs, List.length_append] at hl
     have cell' := HGR.out.cell cell (by simp)
     have hby' := hby.grown HGR.out (by simp)
     generalize ls[j] = vk at cell' hby' hs hl
     clear cell hby
     obtain ⟨vv, bk⟩ := vk
     have HB := hid hby'; have HS := hid hs; have HL := hid hl; clear hby' hs hl
     dsimp only at cell'
     have hsz := gb_size HGR.out
     go_wp2_with (refine append_bytes rfl _ _ rfl w.heap.size _ _ rfl HOW.out _ _ rfl HB.out (by have := H1.out; have := HL.out; dsimp only at this ⊢; omega) hsz ?_; intro u1 w2 o1 g1 a1)
     go_roundw
     case rel => exact ⟨j + 1, by omega, by go_num, by rw [HS.out]; exact o1, gb_own HGR.out HOW.out (Nat.le_refl _) g1⟩
     case measure => simp [intOf]; omega
    ·obtain rfl : j = k := by omega
     go_wp2_with fail
     go_ret
     refine ⟨_, rfl, ?_, HGR.out⟩
     have := HOW.out
     rwa [HN.out, List.take_length] at this
end Go.Proofs.YtgpdcapnnejdeaaGreat
end
section
set_option linter.unusedSimpArgs false
namespace Go.Proofs.YtgpdcapnnejdeaaGreat
set_option maxRecDepth 100000
open Go.RowKit

theorem pair_equal {t : TypeId} {i : TypeInfo} (hu : Tryz.prog.underlying t = some (.array 2 25)) (hi : Tryz.prog.info? 25 = some i) (hc : Tryz.prog.cellsOf 25 = 1) (a b c d : BitVec 64) (w : World) :
  (Op.equalIn 10000 t (.agg #[.int .u64 (q a), .int .u64 (q b)]) (.agg #[.int .u64 (q c), .int .u64 (q d)])).run Tryz.prog w = .ok (a == c && b == d) w := by
 have hp : ∀ (x y : BitVec 64), (part 25 #[Value.int .u64 (q x), .int .u64 (q y)] 0).run Tryz.prog w = .ok (.int .u64 (q x)) w ∧ (part 25 #[Value.int .u64 (q x), .int .u64 (q y)] 1).run Tryz.prog w = .ok (.int .u64 (q y)) w := fun x y => by
  simp [part, isAgg, run_underlying Tryz.underlying25]
 have he : ∀ (x y : BitVec 64), (Op.equalIn 9999 25 (.int .u64 (q x)) (.int .u64 (q y))).run Tryz.prog w = .ok (x == y) w := fun x y => by
  rw [run_equalIn_int w 9998 25 .u64 .u64 _ _ Tryz.underlying25, q_beq]
 rw [run_equalIn_array w 9999 _ _ hu hi, hc]
 simp only [show List.range 2 = [0, 1] from rfl, Op.eqItems, Sem.run_bind, Nat.zero_mul, Nat.one_mul, (hp _ _).1, he, Result.andThen_ok]
 cases h1 : (a == c)
 ·simp
 ·simp only [Bool.not_true, Bool.false_eq_true, if_false, Sem.run_bind, (hp _ _).2, he, Result.andThen_ok]
  cases h2 : (b == d) <;> simp
theorem tag_equal (a b c d : BitVec 64) (w : World) :
  (Op.equalIn 10000 83 (.agg #[.int .u64 (q a), .int .u64 (q b)]) (.agg #[.int .u64 (q c), .int .u64 (q d)])).run Tryz.prog w = .ok (a == c && b == d) w := by
 obtain ⟨i, hi⟩ := Option.isSome_iff_exists.1 (show (Tryz.prog.info? 25).isSome = true by kernel_rfl)
 exact pair_equal Tryz.underlying83 hi (by kernel_rfl) a b c d w
end Go.Proofs.YtgpdcapnnejdeaaGreat
end
