/-
  Contracts for the document's own PutCell for whatever comes; what GetCell reads, plainly: it is what the program reads. No condition.
-/
import Derived.Test.YtjebmlmjbnaghaaLgH
set_option linter.unusedSimpArgs false
set_option linter.unusedVariables false
namespace Go.Proofs.Ytjebmlmjbnaghaa
set_option maxRecDepth 100000
open Go.RowKit

set_option maxHeartbeats 1600000 in
theorem rcput_bad (p : Nat) (Q K : Int) (D : ByteArray) (hm : mayN p Q K D.size = false) (w : World) :
    Calls Try.prog 11 #[.agg #[.int .u32 (p : Int), .int .i64 Q, .int .i64 K, .string D]] w fun e w' => e = .returned (.tuple #[.string ⟨#[]⟩, .int .i64 1]) ∧ w.grownBy w' none := by
  have M := hid (fun w => rcmay_any p Q K D w)
  rw [hm] at M
  clear hm
  have B0 := hid (at_new w (.cells #[.int .u32 (p : Int), .int .i64 Q, .int .i64 K, .string D] 28))
  go_enter Try.func11, Try.ntmps11
  go_wp2_with (refine wpList_row B0.out Try.underlying28 rfl (by kernel_rfl) rfl rfl rfl rfl ?_)
  refine (M.out _).mono ?_
  rintro e w1 ⟨rfl, hg⟩
  have G := hid (gb_trans (gb_alloc (.refl w none) _) hg (.inl rfl)); clear hg
  go_wp2_with fail
  go_ret2
  exact ⟨rfl, G.out⟩
theorem put8_take4 {n : Nat} (h : n < 4294967296) : (put8 (BitVec.ofInt 64 (n : Int))).take 4 = b4 n := by
  have a := of_nat64 (n := n) (by omega)
  have e := fun i k h => byte_is (BitVec.ofInt 64 (n : Int)) i k h
  rw [a] at e
  show [_, _, _, _] = _
  unfold b4
  rw [e 0 n (by simp), e 1 (n / 256) (by simp), e 2 (n / 65536) (by simp), e 3 (n / 16777216) (by simp)]
theorem put8_take2 {n : Nat} (h : n < 65536) : (put8 (BitVec.ofInt 64 (n : Int))).take 2 = [u8 n, u8 (n / 256)] := by
  have a := of_nat64 (n := n) (by omega)
  have e := fun i k h => byte_is (BitVec.ofInt 64 (n : Int)) i k h
  rw [a] at e
  show [_, _] = _
  rw [e 0 n (by simp), e 1 (n / 256) (by simp)]
theorem ba_extract (l : List UInt8) (i : Nat) : (⟨l.toArray⟩ : ByteArray).extract 0 i = ⟨(l.take i).toArray⟩ := by
  apply ByteArray.ext; simp
theorem ba_part (l : List UInt8) (i k : Nat) : (⟨l.toArray⟩ : ByteArray).extract i (i + k) = ⟨((l.drop i).take k).toArray⟩ := by
  apply ByteArray.ext
  rw [show (⟨l.toArray⟩ : ByteArray).extract i (i + k) = ⟨l.toArray.extract i (i + k)⟩ from ByteArray.ext (by simp)]
  apply Array.ext'
  simp [List.take_drop]
theorem ba_append (l r : List UInt8) : (⟨l.toArray⟩ : ByteArray) ++ ⟨r.toArray⟩ = ⟨(l ++ r).toArray⟩ := by
  apply ByteArray.ext; simp
theorem u8_wrapN {n : Nat} (h : n < 256) : IntKind.u8.wrap (n : Int) = ((u8 n).toNat : Int) := by
  rw [IntKind.wrap_u8, u8_small h]; omega
theorem rcput_good (c : Cl) (hm : c.May) {Q K : Int} {D : ByteArray} (hQ : Q = (c.place : Int)) (hK : K = (c.kind : Int)) (hD : D = ⟨c.data.toArray⟩) (w : World) :
    Calls Try.prog 11 #[.agg #[.int .u32 (c.pass : Int), .int .i64 Q, .int .i64 K, .string D]] w fun e w' => e = .returned (.tuple #[.string ⟨(putL c).toArray⟩, .int .i64 0]) ∧ w.grownBy w' none := by
  subst hQ; subst hK; subst hD
  have h1 := hm.p1; have h2 := hm.p2; have h3 := hm.q; have h4 := hm.k2; have hd := hm.d
  have hs := sumN_small (l := body56 c) (by rw [body56_len hd]; decide)
  have hsz : (⟨c.data.toArray⟩ : ByteArray).size = c.data.length := rfl
  refine rcput_walk c.pass c.place c.kind ⟨c.data.toArray⟩ ⟨(put8 (BitVec.ofInt 64 (c.pass : Int))).toArray⟩ ⟨(put8 (BitVec.ofInt 64 (c.place : Int))).toArray⟩ ⟨(put8 (BitVec.ofInt 64 (sumN (body56 c) : Int))).toArray⟩ ⟨(body56 c).toArray⟩
    (sumN (body56 c)) (48 - c.data.length) (u8 c.kind) (u8 c.data.length) (u8 c.pass) (BitVec.ofInt 64 (c.pass : Int)) (BitVec.ofInt 64 (c.place : Int)) (BitVec.ofInt 64 (sumN (body56 c) : Int)) _
    (fun w => ?_) (fun w => refput_any _ w) (fun w => refput_any _ w) (fun w => ?_) (fun w => refput_any _ w) (fun w => ?_) (q_lit _) (q_lit _) (q_lit _) (u8_wrapN (by omega)) (by rw [hsz]; exact u8_wrapN (by omega)) (by rw [hsz]; omega) rfl rfl rfl
    (body56_len hd) ?_ ?_ w
  · have := rcmay_any c.pass c.place c.kind ⟨c.data.toArray⟩ w
    rwa [hsz, may_cl hm] at this
  · have := rsum_any ⟨(body56 c).toArray⟩ (by show (body56 c).length ≤ 100; rw [body56_len hd]; decide) w
    exact this.mono fun e w' h => ⟨h.1, h.2 ▸ .refl w none⟩
  · have := rmark_any c.pass w
    rw [markN_in h2] at this
    rw [u8_small (show c.pass < 256 by omega)]
    exact this.mono fun e w' h => ⟨h.1, h.2 ▸ .refl w none⟩
  · rw [ba_extract, ba_extract, put8_take4 (by omega), put8_take2 (by omega), ba_append, ba_append, ba_append, ba_append]
    unfold body56 head8 pad48
    simp
  · rw [ba_extract, put8_take4 hs, ba_append, ba_append]
    unfold putL tail8
    simp

/-- what the document reads is what the program reads, of a cell's bytes -/
def goodD (l : List UInt8) : Bool := mayN (cellOf l).pass (cellOf l).place (cellOf l).kind (cellOf l).data.length && (putL (cellOf l) == l)
theorem goodD_iff (l : List UInt8) : goodD l = true ↔ ∃ c : Cl, c.May ∧ l = putL c := by
  unfold goodD
  constructor
  · intro h
    simp only [Bool.and_eq_true, beq_iff_eq] at h
    exact ⟨_, may_of_cl h.1, h.2.symm⟩
  · rintro ⟨c, h, rfl⟩
    rw [cell_put h, may_cl h]; simp
theorem goodD_eq (l : List UInt8) : goodD l = goodL l := by rw [Bool.eq_iff_iff, goodD_iff, good_iff]
theorem cell_read {l : List UInt8} (h : goodL l = true) : cellOf l = readL l := by
  obtain ⟨c, hc, rfl⟩ := (good_iff l).1 h
  rw [cell_put hc, read_put hc]
theorem word8_nat (l : List UInt8) : (wordAt l 0 8).toNat = (l.getD 0 0).toNat + (l.getD 1 0).toNat * 256 + (l.getD 2 0).toNat * 65536 + (l.getD 3 0).toNat * 16777216 + (l.getD 4 0).toNat * 4294967296 + (l.getD 5 0).toNat * 1099511627776 + (l.getD 6 0).toNat * 281474976710656 + (l.getD 7 0).toNat * 72057594037927936 := by
  rw [(word_nat l 0 8 (Nat.le_refl _)).1]
  simp [wordN]
theorem pass_word (l : List UInt8) (hl : 4 ≤ l.length) : (wordAt (l.take 4 ++ [0, 0, 0, 0]) 0 8).toNat = passOf l := by
  have h4 : (l.take 4).length = 4 := by rw [List.length_take]; omega
  have ht : ∀ i, i < 4 → (l.take 4 ++ [0, 0, 0, 0]).getD i 0 = l.getD i 0 := fun i hi => by
    rw [getD_left (by omega), List.getD_eq_getElem?_getD, List.getElem?_take, if_pos hi, ← List.getD_eq_getElem?_getD]
  have hz : ∀ i, i < 4 → ((l.take 4 ++ [0, 0, 0, 0]).getD (4 + i) 0).toNat = 0 := fun i hi => by
    rw [getD_right (by omega), h4, show 4 + i - 4 = i by omega]
    have : i = 0 ∨ i = 1 ∨ i = 2 ∨ i = 3 := by omega
    rcases this with rfl | rfl | rfl | rfl <;> rfl
  have z4 := hz 0 (by omega); have z5 := hz 1 (by omega); have z6 := hz 2 (by omega); have z7 := hz 3 (by omega)
  have t0 := ht 0 (by omega); have t1 := ht 1 (by omega); have t2 := ht 2 (by omega); have t3 := ht 3 (by omega)
  have e := word8_nat (l.take 4 ++ [0, 0, 0, 0])
  generalize l.take 4 ++ [0, 0, 0, 0] = L at *
  rw [e, t0, t1, t2, t3]
  unfold passOf n4
  simp only [Nat.add_zero, Nat.reduceAdd] at z4 z5 z6 z7
  rw [z4, z5, z6, z7]
  simp only [Nat.zero_add]
  omega
end Go.Proofs.Ytjebmlmjbnaghaa
