/-
  A contract of the document's own answer for the sum of bytes: it is the sum of the padded bytes, eight at a time. The condition: the string has at most a hundred thousand bytes. And 3 texts more that this one stands on. No condition.
-/
import Derived.Test.YtgpdcapnnejdeaaGreatY4
import Derived.Test.YtgpdcapnnejdeaaGreatY8
import Derived.RegionTactic
import Derived.BigRegion
import Derived.Deep.DeepCutAuto
import Derived.Test.YtgpdcapnnejdeaaGreatY1
import Derived.Test.YtgpdcapnnejdeaaGreatRows
import Derived.ProofKit
import Derived.OpenShut
import Derived.ChangeOld
import Derived.Below
section
namespace Go.Proofs.YtgpdcapnnejdeaaGreat
open Go.RowKit

def padded (s : ByteArray) : ByteArray := s ++ ⟨(List.replicate (7 - s.size % 8) (0 : UInt8)).toArray⟩ ++ ⟨[UInt8.ofNat s.size].toArray⟩
def blocks (l : List UInt8) (v : W4) : Nat → W4
 | 0 => v
 | i + 1 => stirred (blocks l v i) (wordAt l (8 * i) 8)
def refSumOf (k0 k1 : BitVec 64) (s : ByteArray) : BitVec 64 :=
 let v := blocks (padded s).data.toList (keyed k0 k1) (s.size / 8 + 1)
 let r := rnds 4 ⟨v.a, v.b, v.c ^^^ 255#64, v.d⟩
 r.a ^^^ r.b ^^^ r.c ^^^ r.d

theorem padded_size (s : ByteArray) : (padded s).size = 8 * (s.size / 8 + 1) := by
 unfold padded
 rw [ByteArray.size_append, ByteArray.size_append]
 have e1 : (⟨(List.replicate (7 - s.size % 8) (0 : UInt8)).toArray⟩ : ByteArray).size = 7 - s.size % 8 := by show (List.replicate (7 - s.size % 8) (0 : UInt8)).toArray.size = _; simp
 have e2 : (⟨[UInt8.ofNat s.size].toArray⟩ : ByteArray).size = 1 := rfl
 rw [e1, e2]
 omega

@[reducible] def arrObj (v : W4) : Obj := .cells #[.int .u64 (q v.a), .int .u64 (q v.b), .int .u64 (q v.c), .int .u64 (q v.d)] 199
theorem arr_cells {w : World} {b : Nat} {v : W4} (hb : w.heap[b]? = some (arrObj v)) :
  w.cell? ⟨b, 0, none⟩ = some (.int .u64 (q v.a)) ∧ w.cell? ⟨b, 1, none⟩ = some (.int .u64 (q v.b)) ∧ w.cell? ⟨b, 2, none⟩ = some (.int .u64 (q v.c)) ∧ w.cell? ⟨b, 3, none⟩ = some (.int .u64 (q v.d)) ∧
   w.frozen? ⟨b, 0, none⟩ = false ∧ w.frozen? ⟨b, 1, none⟩ = false ∧ w.frozen? ⟨b, 2, none⟩ = false ∧ w.frozen? ⟨b, 3, none⟩ = false :=
 ⟨at_cell hb 0, at_cell hb 1, at_cell hb 2, at_cell hb 3, at_free hb 0, at_free hb 1, at_free hb 2, at_free hb 3⟩

def zeros (s : ByteArray) : Array Value := madeCells #[.int .u8 0] (7 - s.size % 8)
@[reducible] def lastOne (s : ByteArray) : Array Value := #[.int .u8 ((s.size : Int) % 256)]
theorem info5 : (Tryz.prog.info? 5).map (fun i => (i.zero, i.size, i.bytes)) = some (some (.int .u8 0), 1, 1) := by kernel_rfl
theorem mkz (s : ByteArray) (u : World) : (Instr.makeSlice 40 (.int .i64 (7 - (s.size : Int) % 8)) (.int .i64 (7 - (s.size : Int) % 8))).run Tryz.prog u =
  .ok (.slice (some ⟨u.heap.size, 0, none⟩) (7 - s.size % 8) (7 - s.size % 8)) (u.alloc (.cells (zeros s) 5)) := by
 obtain ⟨i, hi, hz0, hz1, hz2⟩ := info_parts info5
 have e : (7 - (s.size : Int) % 8) = ((7 - s.size % 8 : Nat) : Int) := by omega
 have := run_makeSlice (P := Tryz.prog) u 40 5 i (.int .u8 0) Tryz.underlying40 hi hz0 .i64 .i64 (7 - (s.size : Int) % 8) (7 - (s.size : Int) % 8) (by omega) (Int.le_refl _) (by rw [hz1]; omega) (by rw [hz2]; omega) (by omega)
 rw [this, hz1, e]
 simp [zeros, Value.cells]
theorem made_get (n j : Nat) (h : j < n) : (madeCells #[.int .u8 0] n)[j]? = some (.int .u8 0) := by
 rw [← Array.getElem?_toList, toList_madeCells_one, List.getElem?_replicate, if_pos h]
theorem conv_z (s : ByteArray) (u : World) (g : Nat) (h : u.heap[g]? = some (.cells (zeros s) 5)) : (convert 40 9 (.slice (some ⟨g, 0, none⟩) (7 - s.size % 8) (7 - s.size % 8))).run Tryz.prog u = .ok (.string ⟨(List.replicate (7 - s.size % 8) (0 : UInt8)).toArray⟩) u := by
 have := run_convert_bytes_back u 40 9 5 ⟨g, 0, none⟩ (7 - s.size % 8) (List.replicate (7 - s.size % 8) (0 : UInt8)) Tryz.underlying40 Tryz.underlying5 Tryz.underlying9 (fun j hj => by
  have e : (⟨g, 0, none⟩ : Addr).add j = ⟨g, j, none⟩ := by unfold Addr.add; split <;> simp_all
  rw [e, at_cell h j, zeros, made_get _ _ (by simpa using hj)]
  simp)
 simpa using this
theorem conv_b (s : ByteArray) (u : World) (g : Nat) (h : u.heap[g]? = some (.cells (lastOne s) 5)) : (convert 40 9 (.slice (some ⟨g, 0, none⟩) 1 1)).run Tryz.prog u = .ok (.string ⟨[UInt8.ofNat s.size].toArray⟩) u :=
 run_convert_bytes_back u 40 9 5 ⟨g, 0, none⟩ 1 [UInt8.ofNat s.size] Tryz.underlying40 Tryz.underlying5 Tryz.underlying9 (fun j hj => by
  obtain rfl : j = 0 := by simpa using hj
  have e : (⟨g, 0, none⟩ : Addr).add 0 = ⟨g, 0, none⟩ := rfl
  rw [e, at_cell h 0]
  simp [lastOne])

set_option maxRecDepth 100000 in
set_option maxHeartbeats 3200000 in
theorem refsum_any (k0 k1 : BitVec 64) (s : ByteArray) (hs : s.size ≤ 100000) (w : World) :
  Calls Tryz.prog 91 #[.agg #[.int .u64 (q k0), .int .u64 (q k1)], .string s] w fun e w' => e = .returned (.int .u64 (q (refSumOf k0 k1 s))) ∧ w.grownBy w' none := by
 go_enter Tryz.func91, Tryz.ntmps91
 go_upto_region 2 with fail
 refine wp_gen (fun wx => wx.heap[w.heap.size + 1]? = some (arrObj (keyed k0 k1)) ∧ w.grownBy wx none) ⟨at_new2 w _ _, gb_alloc (gb_alloc (.refl w none) _) _⟩ ?_
 intro w1 hx
 obtain ⟨h1, g1⟩ := hx
 have H1 := hid h1; have G1 := hid g1
 clear h1 g1
 go_cut [6] (fun s6 wx => s6 = .string (padded s) ∧ wx.heap[w.heap.size + 1]? = some (arrObj (keyed k0 k1)) ∧ w.grownBy wx none)
 case first =>
  have hmk := mkz s
  have z1 := conv_z s (w1.alloc (.cells (zeros s) 5)).drew w1.heap.size (at_drew (at_new w1 _))
  have z2 := conv_z s ((w1.alloc (.cells (zeros s) 5)).alloc (.cells (lastOne s) 5)).drew w1.heap.size (at_drew (at_alloc (at_new w1 _) _))
  have z3 := conv_z s ((w1.alloc (.cells (lastOne s) 5)).alloc (.cells (zeros s) 5)).drew (w1.heap.size + 1) (at_drew (at_new2 w1 _ _))
  have b1 := conv_b s (w1.alloc (.cells (lastOne s) 5)).drew w1.heap.size (at_drew (at_new w1 _))
  have b2 := conv_b s ((w1.alloc (.cells (lastOne s) 5)).alloc (.cells (zeros s) 5)).drew w1.heap.size (at_drew (at_alloc (at_new w1 _) _))
  have b3 := conv_b s ((w1.alloc (.cells (zeros s) 5)).alloc (.cells (lastOne s) 5)).drew (w1.heap.size + 1) (at_drew (at_new2 w1 _ _))
  go_region
  all_goals
   go_wp2_with fail
   go_meet
   exact ⟨by simp [padded], at_drew (at_alloc (at_alloc H1.out _) _), gb_drew (gb_alloc (gb_alloc G1.out _) _)⟩
 case rest =>
  obtain ⟨rfl, h2, g2⟩ := hcut
  have H2 := hid h2; have G2 := hid g2; clear h2 g2 H1 G1
  have hp := padded_size s
  have hple : (padded s).size ≤ maxLen := by unfold maxLen; omega
  have HPL := hid hple
  have HP := hid hp
  clear hple hp
  generalize hS : padded s = S at *
  have hS0 : S.size ≤ 200000 := by have := HP.out; omega
  go_wp2_with fail

  go_loopw [7] (fun at_ wr => ∃ m : Nat, m ≤ S.size ∧ m % 8 = 0 ∧ at_ = .int .i64 (m : Int) ∧ wr.heap[w.heap.size + 1]? = some (arrObj (blocks S.data.toList (keyed k0 k1) (m / 8))) ∧ w.grownBy wr none) (fun at_ _ => S.size - (intOf at_).toNat)
  case atStart => exact ⟨0, Nat.zero_le _, rfl, rfl, H2.out, G2.out⟩
  case round =>
   obtain ⟨m, hm, hm8, rfl, hb, hg⟩ := hrel
   have HB := hid hb; have HG := hid hg; have HM := hid hm8; clear hb hg hm8 H2 G2
   by_cases hlt : m < S.size
   ·have hm9 : m + 8 ≤ S.size := by have := HP.out; have := HM.out; omega
    go_wp2_with fail
    refine (refget_in S m _ HPL.out hm9).mono ?_
    rintro e w2 ⟨rfl, rfl⟩
    obtain ⟨c0, c1, c2, c3, f0, f1, f2, f3⟩ := arr_cells HB.out
    go_wp2_with fail
    have hb3 := at_set HB.out 3 (.int .u64 (q ((blocks S.data.toList (keyed k0 k1) (m / 8)).d ^^^ wordAt S.data.toList m 8)))
    have hg3 := gb_new HG.out (p := ⟨w.heap.size + 1, 3, none⟩) (by simp) (.int .u64 (q ((blocks S.data.toList (keyed k0 k1) (m / 8)).d ^^^ wordAt S.data.toList m 8)))
    generalize hV : blocks S.data.toList (keyed k0 k1) (m / 8) = V at *
    generalize hX : wordAt S.data.toList m 8 = X at *
    have HV := hid hV; have HX := hid hX; have HB3 := hid hb3; have HG3 := hid hg3
    clear hV hX hb3 hg3 c0 c1 c2 c3 f0 f1 f2 f3
    go_loopw [10] (fun i wi => ∃ j : Nat, j ≤ 2 ∧ i = .int .i64 (j : Int) ∧ wi.heap[w.heap.size + 1]? = some (arrObj (rnds j ⟨V.a, V.b, V.c, V.d ^^^ X⟩)) ∧ w.grownBy wi none) (fun i _ => 2 - (intOf i).toNat)
    case atStart => exact ⟨0, by omega, rfl, HB3.out, HG3.out⟩
    case round =>
     obtain ⟨j, hj, rfl, hbi, hgi⟩ := hrel
     have HBI := hid hbi; have HGI := hid hgi; clear hbi hgi
     obtain ⟨c0, c1, c2, c3, f0, f1, f2, f3⟩ := arr_cells HBI.out
     by_cases hjl : j < 2
     ·go_wp2_with (go_at_call 123; (with_reducible refine (refround_any _ _ _ _ _).mono ?_); rintro e w' ⟨rfl, rfl⟩)
      go_roundw
      case rel => exact ⟨j + 1, by omega, by go_num, at_set (at_set (at_set (at_set HBI.out 0 _) 1 _) 2 _) 3 _, gb_new (gb_new (gb_new (gb_new HGI.out (by simp) _) (by simp) _) (by simp) _) (by simp) _⟩
      case measure => simp [intOf]; omega
     ·have hj2 : j = 2 := by omega
      subst hj2
      go_wp2_with fail
      go_roundw
      case rel => exact ⟨m + 8, by omega, by have := HM.out; omega, by go_num, by
       have h8 : (m + 8) / 8 = m / 8 + 1 := by omega
       have h9 : 8 * (m / 8) = m := by have := HM.out; omega
       rw [h8, blocks, h9, HV.out, HX.out]
       exact at_set HBI.out 0 _, gb_new HGI.out (by simp) _⟩
      case measure => simp [intOf]; omega
   ·have hme : m = S.size := by omega
    obtain ⟨c0, c1, c2, c3, f0, f1, f2, f3⟩ := arr_cells HB.out
    have hfin : refSumOf k0 k1 s = ((rnds 4 ⟨(blocks S.data.toList (keyed k0 k1) (m / 8)).a, (blocks S.data.toList (keyed k0 k1) (m / 8)).b, (blocks S.data.toList (keyed k0 k1) (m / 8)).c ^^^ 255#64, (blocks S.data.toList (keyed k0 k1) (m / 8)).d⟩).a ^^^ (rnds 4 ⟨(blocks S.data.toList (keyed k0 k1) (m / 8)).a, (blocks S.data.toList (keyed k0 k1) (m / 8)).b, (blocks S.data.toList (keyed k0 k1) (m / 8)).c ^^^ 255#64, (blocks S.data.toList (keyed k0 k1) (m / 8)).d⟩).b ^^^ (rnds 4 ⟨(blocks S.data.toList (keyed k0 k1) (m / 8)).a, (blocks S.data.toList (keyed k0 k1) (m / 8)).b, (blocks S.data.toList (keyed k0 k1) (m / 8)).c ^^^ 255#64, (blocks S.data.toList (keyed k0 k1) (m / 8)).d⟩).c ^^^ (rnds 4 ⟨(blocks S.data.toList (keyed k0 k1) (m / 8)).a, (blocks S.data.toList (keyed k0 k1) (m / 8)).b, (blocks S.data.toList (keyed k0 k1) (m / 8)).c ^^^ 255#64, (blocks S.data.toList (keyed k0 k1) (m / 8)).d⟩).d) := by
     have h8 : m / 8 = s.size / 8 + 1 := by have := HP.out; omega
     unfold refSumOf
     rw [hS, h8]
    have HF := hid hfin
    clear hfin hme
    have hb3 := at_set HB.out 2 (.int .u64 (q ((blocks S.data.toList (keyed k0 k1) (m / 8)).c ^^^ 255#64)))
    have hg3 := gb_new HG.out (p := ⟨w.heap.size + 1, 2, none⟩) (by simp) (.int .u64 (q ((blocks S.data.toList (keyed k0 k1) (m / 8)).c ^^^ 255#64)))
    go_wp2_with fail
    generalize hV : blocks S.data.toList (keyed k0 k1) (m / 8) = V at *
    have HB3 := hid hb3; have HG3 := hid hg3
    clear hV hb3 hg3 c0 c1 c2 c3 f0 f1 f2 f3 hlt
    go_loopw [11] (fun i wi => ∃ j : Nat, j ≤ 4 ∧ i = .int .i64 (j : Int) ∧ wi.heap[w.heap.size + 1]? = some (arrObj (rnds j ⟨V.a, V.b, V.c ^^^ 255#64, V.d⟩)) ∧ w.grownBy wi none) (fun i _ => 4 - (intOf i).toNat)
    case atStart => exact ⟨0, by omega, rfl, HB3.out, HG3.out⟩
    case round =>
     obtain ⟨j, hj, rfl, hbi, hgi⟩ := hrel
     have HBI := hid hbi; have HGI := hid hgi; clear hbi hgi
     obtain ⟨c0, c1, c2, c3, f0, f1, f2, f3⟩ := arr_cells HBI.out
     by_cases hjl : j < 4
     ·go_wp2_with (go_at_call 123; (with_reducible refine (refround_any _ _ _ _ _).mono ?_); rintro e w' ⟨rfl, rfl⟩)
      go_roundw
      case rel => exact ⟨j + 1, by omega, by go_num, at_set (at_set (at_set (at_set HBI.out 0 _) 1 _) 2 _) 3 _, gb_new (gb_new (gb_new (gb_new HGI.out (by simp) _) (by simp) _) (by simp) _) (by simp) _⟩
      case measure => simp [intOf]; omega
     ·have hj2 : j = 4 := by omega
      subst hj2
      go_wp2_with fail
      go_ret
      exact ⟨by rw [HF.out]; rfl, HGI.out⟩
end Go.Proofs.YtgpdcapnnejdeaaGreat
end
section
namespace Go.Proofs.YtgpdcapnnejdeaaGreat
set_option maxRecDepth 100000

def stAt (k0 k1 : BitVec 64) (l : List UInt8) (i : Nat) : St := ⟨blocks l (keyed k0 k1) (i / 8), wordAt l (8 * (i / 8)) (i % 8), i⟩
theorem stAt_step (k0 k1 : BitVec 64) (l : List UInt8) (i : Nat) (h : i < l.length) : (stAt k0 k1 l i).add l[i] = stAt k0 k1 l (i + 1) := by
 have hb : byteAt l (8 * (i / 8) + i % 8) = l[i] := by
  rw [show 8 * (i / 8) + i % 8 = i by omega]; exact byteAt_eq h
 have hw : wordAt l (8 * (i / 8)) (i % 8 + 1) = wordAt l (8 * (i / 8)) (i % 8) ||| (BitVec.ofNat 64 (l[i]).toNat <<< (i % 8 * 8)) := by
  rw [wordAt, hb, Nat.mul_comm 8 (i % 8)]
 by_cases h7 : i % 8 = 7
 ·rw [St.add_end _ _ (by simpa [stAt] using h7)]
  have e1 : (i + 1) / 8 = i / 8 + 1 := by omega
  have e2 : (i + 1) % 8 = 0 := by omega
  have hw8 : wordAt l (8 * (i / 8)) 8 = wordAt l (8 * (i / 8)) (i % 8) ||| (BitVec.ofNat 64 (l[i]).toNat <<< (i % 8 * 8)) := by
   rw [← hw, h7]
  simp only [stAt, e1, e2, blocks, hw8]
  rfl
 ·rw [St.add_mid _ _ (by simpa [stAt] using h7)]
  have e1 : (i + 1) / 8 = i / 8 := by omega
  have e2 : (i + 1) % 8 = i % 8 + 1 := by omega
  simp only [stAt, e1, e2, hw]
theorem stAt_take (k0 k1 : BitVec 64) (l : List UInt8) (i : Nat) (h : i ≤ l.length) : (l.take i).foldl St.add (St.new k0 k1) = stAt k0 k1 l i := by
 induction i with
 | zero => rfl
 | succ i ih =>
  rw [List.take_succ_eq_append_getElem (by omega), List.foldl_append, ih (by omega)]
  exact stAt_step k0 k1 l i (by omega)
theorem stAt_all (k0 k1 : BitVec 64) (l : List UInt8) : l.foldl St.add (St.new k0 k1) = stAt k0 k1 l l.length := by
 have := stAt_take k0 k1 l l.length (Nat.le_refl _)
 rwa [List.take_of_length_le (Nat.le_refl _)] at this

theorem byteAt_left (l r : List UInt8) (i : Nat) (h : i < l.length) : byteAt (l ++ r) i = byteAt l i := by
 rw [byteAt_eq h, byteAt_eq (by simp; omega), List.getElem_append_left h]
theorem wordAt_left (l r : List UInt8) (m k : Nat) (h : m + k ≤ l.length) : wordAt (l ++ r) m k = wordAt l m k := by
 induction k with
 | zero => rfl
 | succ k ih => rw [wordAt, wordAt, ih (by omega), byteAt_left l r _ (by omega)]
theorem blocks_left (l r : List UInt8) (v : W4) (j : Nat) (h : 8 * j ≤ l.length) : blocks (l ++ r) v j = blocks l v j := by
 induction j with
 | zero => rfl
 | succ j ih => rw [blocks, blocks, ih (by omega), wordAt_left l r _ _ (by omega)]
theorem wordAt_zeros (l : List UInt8) (m k j : Nat) (h : ∀ i, k ≤ i → i < k + j → byteAt l (m + i) = 0) : wordAt l m (k + j) = wordAt l m k := by
 induction j with
 | zero => rfl
 | succ j ih =>
  rw [← Nat.add_assoc, wordAt, ih (fun i h1 h2 => h i h1 (by omega)), h (k + j) (by omega) (by omega)]
  simp
theorem padded_list (s : ByteArray) : (padded s).data.toList = s.data.toList ++ (List.replicate (7 - s.size % 8) (0 : UInt8) ++ [UInt8.ofNat s.size]) := by
 unfold padded
 rw [ByteArray.data_append, ByteArray.data_append]
 simp

theorem refSum_eq (k0 k1 : BitVec 64) (s : ByteArray) : refSumOf k0 k1 s = sumOf k0 k1 s.data.toList := by
 have hlen : s.data.toList.length = s.size := by rw [Array.length_toList]; rfl
 unfold refSumOf sumOf
 rw [stAt_all, padded_list]
 generalize hl : s.data.toList = l at *
 have hb : blocks (l ++ (List.replicate (7 - s.size % 8) (0 : UInt8) ++ [UInt8.ofNat s.size])) (keyed k0 k1) (s.size / 8 + 1)
   = stirred (blocks l (keyed k0 k1) (l.length / 8)) (wordAt l (8 * (l.length / 8)) (l.length % 8) ||| (BitVec.ofNat 64 (l.length % 256) <<< 56)) := by
  rw [blocks, blocks_left _ _ _ _ (by omega), ← hlen]
  congr 1
  have hlast : byteAt (l ++ (List.replicate (7 - l.length % 8) (0 : UInt8) ++ [UInt8.ofNat l.length])) (8 * (l.length / 8) + 7) = UInt8.ofNat l.length := by
   rw [byteAt_eq (by simp; omega), List.getElem_append_right (by omega), List.getElem_append_right (by simp; omega)]
   simp
  have hz : ∀ i, l.length % 8 ≤ i → i < l.length % 8 + (7 - l.length % 8) → byteAt (l ++ (List.replicate (7 - l.length % 8) (0 : UInt8) ++ [UInt8.ofNat l.length])) (8 * (l.length / 8) + i) = 0 := by
   intro i h1 h2
   rw [byteAt_eq (by simp; omega), List.getElem_append_right (by omega), List.getElem_append_left (by simp; omega)]
   simp
  have h7 := wordAt_zeros _ (8 * (l.length / 8)) (l.length % 8) (7 - l.length % 8) hz
  rw [show l.length % 8 + (7 - l.length % 8) = 7 by omega] at h7
  rw [wordAt, hlast, h7, wordAt_left _ _ _ _ (by omega)]
  have e : (UInt8.ofNat l.length).toNat = l.length % 256 := by simp
  rw [e]
 rw [hb]
 rfl
end Go.Proofs.YtgpdcapnnejdeaaGreat
end
section
set_option linter.unusedSimpArgs false
set_option linter.unusedVariables false
namespace Go.Proofs.YtgpdcapnnejdeaaGreat
set_option maxRecDepth 100000
open Go.RowKit

end Go.Proofs.YtgpdcapnnejdeaaGreat
end
section
namespace Go.Proofs.YtgpdcapnnejdeaaGreat
set_option maxRecDepth 100000
open Go.ChangeShapes Go.WideShapes Go.ChangeAt Go.RowKit

section
variable {H : Type} {enc : TypeId × Value → H} {P : Program} {w : World} {base : Nat} {spare : Nat → Bool} {held : Bool}
end
end Go.Proofs.YtgpdcapnnejdeaaGreat
end
