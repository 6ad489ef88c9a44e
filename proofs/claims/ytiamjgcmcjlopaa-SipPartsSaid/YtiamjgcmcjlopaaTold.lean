/-
  The law's own check of a few answers ('told') returns true, and changes nothing that was there. No condition.
-/
import Derived.Test.YtiamjgcmcjlopaaGet
namespace Go.Proofs.Ytiamjgcmcjlopaa
open Go.RowKit

def K0 : BitVec 64 := 506097522914230528#64
def K1 : BitVec 64 := 1084818905618843912#64
theorem K0_eq : (506097522914230528 : Int) = q K0 := by decide +kernel
theorem K1_eq : (1084818905618843912 : Int) = q K1 := by decide +kernel
theorem told_sum0 : (q (sumOf K0 K1 []) == 8246050544436514353) = true := by decide +kernel
theorem told_sum1 : (q (sumOf K0 K1 [0]) == 8428550223375919101) = true := by decide +kernel
theorem told_hash : (q ([0].foldl St.add (St.new K0 K1)).sum == 8428550223375919101) = true := by decide +kernel
theorem told_word : (q (wordAt [1, 2, 0, 0, 0, 0, 0, 0, 9] 0 8) == 513) = true := by decide +kernel

theorem key_any (w : World) :
    Calls Try.prog 21 #[] w fun e w' => e = .returned (.agg #[.int .u64 (q K0), .int .u64 (q K1)]) ∧ w.grownBy w' none := by
  rw [← K0_eq, ← K1_eq]
  go_enter Try.func21, Try.ntmps21
  go_wp2_with fail
  exact bodyPost_ret (v := .agg #[.int .u64 506097522914230528, .int .u64 1084818905618843912]) (by simp [results, Try.results21, go_sem]) rfl ⟨rfl, gb_alloc (.refl w none) _⟩

/-- a block of bytes -/
theorem bytes_of_block {w : World} {b : Nat} {t : TypeId} (l : List UInt8) (h : w.heap[b]? = some (.cells (l.map fun c => Value.int .u8 (c.toNat : Int)).toArray t)) (hl : l.length ≤ maxLen) : BytesAt w (.slice (some ⟨b, 0, none⟩) l.length l.length) l := by
  refine .inr ⟨_, _, rfl, Nat.le_refl _, hl, fun i hi => ?_⟩
  have e : (⟨b, 0, none⟩ : Addr).add i = ⟨b, i, none⟩ := by unfold Addr.add; split <;> simp_all
  rw [e, at_cell h i]
  simp [List.getElem?_map, List.getElem?_eq_getElem hi]

set_option maxHeartbeats 1600000 in
theorem told_any (w : World) :
    Calls Try.prog 9 #[] w fun e w' => e = .returned (.bool true) ∧ w.grownBy w' none := by
  have s0 := told_sum0
  have s1 := told_sum1
  have s2 := told_hash
  have s3 := told_word
  go_enter Try.func9, Try.ntmps9
  go_wp2_with fail
  refine (get_in [1, 2, 0, 0, 0, 0, 0, 0, 9] _ 0 _ (bytes_of_block _ (at_new w _) (by unfold maxLen; decide)) (by decide)).mono ?_
  rintro e w1 ⟨rfl, rfl⟩
  go_wp2_with fail
  refine (get_high _ _ _ (by unfold maxLen; decide) _ (by decide) (by decide) _).mono ?_
  rintro e w1 ⟨rfl, rfl⟩
  go_wp2_with fail
  refine (key_any _).mono ?_
  rintro e w1 ⟨rfl, hg⟩
  have H1 := hid (gb_trans (gb_alloc (gb_alloc (.refl w none) _) _) hg (.inl rfl)); clear hg
  go_wp2_with fail
  refine (new_any K0 K1 _).mono ?_
  rintro e w2 ⟨rfl, hb, hg⟩
  have H2 := hid (gb_trans H1.out hg (.inl rfl)); have B2 := hid hb; clear hg hb
  go_wp2_with fail
  refine (key_any _).mono ?_
  rintro e w3 ⟨rfl, hg⟩
  have H3 := hid (gb_trans H2.out hg (.inl rfl)); have B3 := hid (at_grown B2.out hg (by simp)); clear hg
  go_wp2_with fail
  refine (sum_any K0 K1 [] _ _ (.inl ⟨rfl, rfl⟩)).mono ?_
  rintro e w4 ⟨rfl, hg⟩
  have H4 := hid (gb_trans H3.out hg (.inl rfl)); have B4 := hid (at_grown B3.out hg (by simp)); clear hg
  go_wp2_with fail
  refine (key_any _).mono ?_
  rintro e w5 ⟨rfl, hg⟩
  have H5 := hid (gb_trans H4.out hg (.inl rfl)); have B5 := hid (at_grown B4.out hg (by simp)); clear hg
  go_wp2_with fail
  refine (sum_any K0 K1 [0] _ _ (bytes_of_block _ (at_new w5 _) (by unfold maxLen; decide))).mono ?_
  rintro e w6 ⟨rfl, hg⟩
  have H6 := hid (gb_trans (gb_alloc H5.out _) hg (.inl rfl)); have B6 := hid (at_grown (at_alloc B5.out _) hg (by simp)); clear hg
  go_wp2_with fail
  refine (write_any _ _ [0] _ _ (at_alloc B6.out _) (bytes_of_block _ (at_new w6 _) (by unfold maxLen; decide)) (.inr fun _ _ _ h e => by cases h; have := at_lt B6.out; simp at e; omega)).mono ?_
  rintro e w7 ⟨rfl, hb, hg⟩
  have H7 := hid (gb_trans (gb_alloc H6.out _) hg (.inr (.inr ⟨_, rfl, by have := gb_size H1.out; omega⟩))); have B7 := hid hb; clear hg hb
  go_wp2_with fail
  refine (hsum_any _ _ _ B7.out).mono ?_
  rintro e w8 ⟨rfl, hg⟩
  have H8 := hid (gb_trans H7.out hg (.inl rfl)); clear hg
  go_wp2_with fail
  refine (sum_nil _).mono ?_
  rintro e w9 ⟨rfl, rfl⟩
  go_wp2_with fail
  refine (write_nil _ _).mono ?_
  rintro e w9 ⟨rfl, rfl⟩
  go_wp2_with fail
  refine (put_any 5#64 _).mono ?_
  rintro e w9 ⟨rfl, hb, hg⟩
  have H9 := hid (gb_trans H8.out hg (.inl rfl)); clear hg hb
  go_wp2_with fail
  go_ret
  exact ⟨rfl, H9.out⟩
end Go.Proofs.Ytiamjgcmcjlopaa
