/-
  The walk of the statement SipBlocks: bytes, and the same with noughts behind, have each the sum that the document says. The condition: the bytes read as bytes.
-/
import Derived.Test.YtiamjgcmcjlopaaTold
import Derived.Test.YtiamjgcmcjlopaaSumEq
import Derived.Test.YtiamjgcmcjlopaaOwn
import Derived.Deep.RegionHeld3
namespace Go.Proofs.Ytiamjgcmcjlopaa.blocks
open Go.RowKit

theorem keep_of {w : World} {bx : Nat} {k0 k1 : BitVec 64} {v : Value} {l : List UInt8} (h : w.heap[bx]? = some (.cells #[.int .u64 (q k0), .int .u64 (q k1)] 23)) (hb : BytesAt w v l) :
    w.cell? ⟨bx, 0, none⟩ = some (.int .u64 (q k0)) ∧ w.cell? ⟨bx, 1, none⟩ = some (.int .u64 (q k1)) ∧ (convert 25 9 v).run Try.prog w = .ok (.string ⟨l.toArray⟩) w :=
  ⟨at_cell h 0, at_cell h 1, conv_bytes hb⟩

theorem sums_same (k0 k1 : BitVec 64) (l : List UInt8) : (q (sumOf k0 k1 l) != q (refSumOf k0 k1 ⟨l.toArray⟩)) = false := by
  rw [refSum_eq]; simp

set_option maxRecDepth 100000 in
set_option maxHeartbeats 1600000 in
theorem walk_long (k0 k1 : BitVec 64) (p : Option Addr) (n c : Nat) (hn : 40 < n) (x : Int) (w : World) :
    Calls Try.prog 7 #[.agg #[.int .u64 (q k0), .int .u64 (q k1)], .slice p n c, .int .i64 x] w fun e w' => e = .returned (.bool true) ∧ w.grownBy w' none := by
  have h1 : (40 : Int) < (n : Int) := by omega
  go_enter Try.func7, Try.ntmps7
  go_wp2_with fail
  refine (told_any _).mono ?_
  rintro e w1 ⟨rfl, hg⟩
  have HG := hid hg; clear hg
  go_wp2_with fail
  go_ret
  exact ⟨rfl, gb_trans (gb_alloc (.refl w none) _) HG.out (.inl rfl)⟩

set_option maxRecDepth 100000 in
set_option maxHeartbeats 1600000 in
theorem walk_short (k0 k1 : BitVec 64) (v : Value) (l : List UInt8) (x : Int) (m : Nat) (hx : (IntKind.u64.wrap x).tmod 21 = (m : Int)) (hm : m < 21) (w : World) (hl : BytesAt w v l) (hn : l.length ≤ 40) :
    Calls Try.prog 7 #[.agg #[.int .u64 (q k0), .int .u64 (q k1)], v, .int .i64 x] w fun e w' => e = .returned (.bool true) ∧ w.grownBy w' none := by
  have HL := hid hl
  obtain ⟨p, c, rfl⟩ : ∃ p c, v = .slice p l.length c := by
    rcases hl with ⟨rfl, rfl⟩ | ⟨a, cap, rfl, _, _, _⟩
    · exact ⟨none, 0, rfl⟩
    · exact ⟨some a, cap, rfl⟩
  have hle : (l.length : Int) ≤ 40 := by omega
  clear hl
  go_enter Try.func7, Try.ntmps7
  go_wp2_with (at_builtin; refine append_bytes rfl _ _ rfl (w.heap.size + 1) (.slice (some ⟨w.heap.size + 1, 0, none⟩) 0 0) [] rfl (by simpa using OwnB.empty (w.alloc (.cells #[.int .u64 (q k0), .int .u64 (q k1)] 23))) _ l rfl ((HL.out.alloc _).alloc _) (by simp; omega) (by simp) ?_; intro v1 w1 hown hgrow hat)
  have hbx : w1.heap[w.heap.size]? = some (.cells #[.int .u64 (q k0), .int .u64 (q k1)] 23) := at_grown (at_alloc (at_new w _) _) hgrow (by simp [Value.ownBlock])
  have hg1 : w.grownBy w1 none := gb_trans (gb_alloc (gb_alloc (.refl w none) _) _) hgrow (.inr (.inr ⟨_, rfl, by simp⟩))
  have HO := hid hown; have HB := hid hbx; have HG := hid hg1
  clear hown hgrow hat hbx hg1
  have h21 : IntKind.i64.wrap (m : Int) = (m : Int) := by simp [IntKind.wrap, IntKind.bits, IntKind.signed]; omega
  go_loopw [7, 8] (fun v i wr => ∃ j : Nat, j ≤ m ∧ i = .int .i64 (j : Int) ∧ OwnB (w.heap.size + 1) wr v (l ++ List.replicate j 0) ∧ wr.heap[w.heap.size]? = some (.cells #[.int .u64 (q k0), .int .u64 (q k1)] 23) ∧ w.grownBy wr none) (fun _ i _ => m - (intOf i).toNat)
  case atStart => exact ⟨0, Nat.zero_le _, rfl, by simpa using HO.out, HB.out, HG.out⟩
  case round =>
    obtain ⟨j, hj, rfl, ho, hb, hg⟩ := hrel
    have HO2 := hid ho; have HB2 := hid hb; have HG2 := hid hg
    obtain ⟨pv, cv, hform⟩ := ho.form
    have hat := ho.at
    subst hform
    clear ho hb hg HO HB HG HL
    by_cases hlt : j < m
    · have hsz := gb_size HG2.out
      have hbl := at_lt HB2.out
      have hj0 : (j : Int) < (m : Int) := by omega
      have HAT := hid hat; clear hat
      go_wp2_with (at_builtin; refine append_bytes rfl _ _ rfl (w.heap.size + 1) (.slice pv (l ++ List.replicate j 0).length cv) (l ++ List.replicate j 0) (by rfl) (HO2.out.alloc _) (.slice (some ⟨wr.heap.size, 0, none⟩) 1 1) [0] (by rfl) (bytes_of_block [0] (at_new wr _) (by unfold maxLen; decide)) (by simp; omega) (by simp; omega) ?_; intro v2 w2 hown hgrow hat2)
      have hown' : OwnB (w.heap.size + 1) w2 v2 (l ++ List.replicate (j + 1) 0) := by
        rw [List.replicate_succ', ← List.append_assoc]; exact hown
      have hne : ∀ g, (Value.slice pv (l ++ List.replicate j 0).length cv).ownBlock = some g → w.heap.size + 1 ≤ g := by
        intro g hgb
        cases pv with
        | none => cases hgb
        | some a =>
          have := (HAT.out a _ _ rfl).1
          cases hgb
          exact this
      have hb2 : w2.heap[w.heap.size]? = some (.cells #[.int .u64 (q k0), .int .u64 (q k1)] 23) := at_grown (at_alloc HB2.out _) hgrow (by
        intro e
        have := hne _ e.symm
        omega)
      have hg2 : w.grownBy w2 none := gb_trans (gb_alloc HG2.out _) hgrow (by
        cases hob : (Value.slice pv (l ++ List.replicate j 0).length cv).ownBlock with
        | none => exact .inl rfl
        | some g => exact .inr (.inr ⟨g, rfl, by have := hne g hob; omega⟩))
      have HO3 := hid hown'; have HB3 := hid hb2; have HG3 := hid hg2
      have hss := sums_same k0 k1 (l ++ List.replicate (j + 1) 0)
      have hlen : (l ++ List.replicate (j + 1) 0).length ≤ 100000 := by simp; omega
      have HLEN := hid hlen
      obtain ⟨pv2, cv2, hform2⟩ := hown'.form
      subst hform2
      clear hown hgrow hat2 hown' hne hb2 hg2 hlen
      generalize hL : l ++ List.replicate (j + 1) 0 = L at *
      have HL := hid hL; clear hL
      have ks := keep_of HB3.out HO3.out.bytes
      obtain ⟨ks1, ks2, ks3⟩ := ks
      have A3 : Hid ((⟨L.toArray⟩ : ByteArray).size ≤ 100000) := hid (by show L.toArray.size ≤ _; have := HLEN.out; simpa using this)
      have A1 : Hid (BytesAt w2.drew (.slice pv2 L.length cv2) L) := hid HO3.out.bytes
      go_region_held3 (fun w' => w'.cell? ⟨w.heap.size, 0, none⟩ = some (.int .u64 (q k0)) ∧ w'.cell? ⟨w.heap.size, 1, none⟩ = some (.int .u64 (q k1)) ∧ (convert 25 9 (.slice pv2 L.length cv2)).run Try.prog w' = .ok (.string ⟨L.toArray⟩) w')
        ((refine keep_of (k0 := k0) (k1 := k1) (l := L) ?_ ?_ <;> (repeat (first | with_reducible exact HB3.out | with_reducible exact HO3.out.bytes | with_reducible refine at_drew ?_ | with_reducible refine BytesAt.drew ?_ | with_reducible refine at_grown ?_ hg4 (by simp) | with_reducible refine BytesAt.grown ?_ hg4 (by simp) | with_reducible refine at_grown ?_ hg (by simp) | with_reducible refine BytesAt.grown ?_ hg (by simp)))))
        (first
          | (go_at_call 14; (with_reducible refine (sum_any k0 k1 L _ _ (by exact A1.out)).mono ?_); rintro e w3 ⟨rfl, hg⟩)
          | (go_at_call 15; (with_reducible refine (refsum_any k0 k1 ⟨L.toArray⟩ (by exact A3.out) _).mono ?_); rintro e w4 ⟨rfl, hg4⟩))
      go_wp2_with fail
      have hg5 := gb_trans (gb_trans (gb_drew HG3.out) hg (.inl rfl)) hg4 (.inl rfl)
      have hw := gb_trans (gb_trans (gb_drew (.refl w2 none)) hg (.inl rfl)) hg4 (.inl rfl)
      go_roundw
      case rel => exact ⟨j + 1, by omega, by go_num, by rw [HL.out]; exact HO3.out.grown hw (by simp), at_grown HB3.out hw (by simp), hg5⟩
      case measure => simp [intOf]; omega
    · have hjm : j = m := by omega
      subst hjm
      go_wp2_with fail
      refine (told_any _).mono ?_
      rintro e w3 ⟨rfl, hg⟩
      have HT := hid hg; clear hg
      go_wp2_with fail
      go_ret
      exact ⟨rfl, gb_trans HG2.out HT.out (.inl rfl)⟩

theorem walk (k0 k1 : BitVec 64) (l : List UInt8) {p : Option Addr} {c : Nat} {w : World} (hl : BytesAt w (.slice p l.length c) l) (x : Int) (_wf : (Lit.int .i64 x).wf = true) :
    Calls Try.prog 7 #[.agg #[.int .u64 (q k0), .int .u64 (q k1)], .slice p l.length c, .int .i64 x] w fun e w' => e = .returned (.bool true) ∧ w.grownBy w' none := by
  by_cases hn : 40 < l.length
  · exact walk_long k0 k1 p l.length c hn x w
  · have h0 := wrap_u64_nonneg x
    have hm : (IntKind.u64.wrap x).tmod 21 = IntKind.u64.wrap x % 21 := Int.tmod_eq_emod_of_nonneg h0
    exact walk_short k0 k1 _ l x (IntKind.u64.wrap x % 21).toNat (by omega) (by omega) w hl (by omega)
end Go.Proofs.Ytiamjgcmcjlopaa.blocks
