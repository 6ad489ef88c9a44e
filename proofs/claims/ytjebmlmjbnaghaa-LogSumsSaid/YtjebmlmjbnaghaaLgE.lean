/-
  Contracts for package log: bytes.Equal; what a sector's bytes tell of a cell. The condition: the bytes read as bytes.
-/
import Derived.Test.YtjebmlmjbnaghaaLgD
import Derived.Test.YtjebmlmjbnaghaaCln
set_option linter.unusedSimpArgs false
set_option linter.unusedVariables false
namespace Go.Proofs.Ytjebmlmjbnaghaa
set_option maxRecDepth 100000
open Go.RowKit

theorem beq_bytes (l r : List UInt8) : ((⟨l.toArray⟩ : ByteArray).toList == (⟨r.toArray⟩ : ByteArray).toList) = (l == r) := by
  rw [ByteArray.toList_eq, ByteArray.toList_eq]
set_option maxHeartbeats 1600000 in
theorem bequal_any (u v : Value) (l r : List UInt8) (w : World) (hu : BytesAt w u l) (hv : BytesAt w v r) :
    Calls Try.prog 27 #[u, v] w fun e w' => e = .returned (.bool (l == r)) ∧ w = w' := by
  obtain ⟨p, c, rfl⟩ := hu.form
  obtain ⟨p', c', rfl⟩ := hv.form
  have c1 := conv_bytes hu
  have c2 := conv_bytes hv
  have hb := beq_bytes l r
  clear hu hv
  generalize (⟨l.toArray⟩ : ByteArray) = x at *
  generalize (⟨r.toArray⟩ : ByteArray) = y at *
  go_enter Try.func27, Try.ntmps27
  go_wp2_with fail
  go_ret
  exact ⟨rfl, rfl⟩
/-- a part of a slice of bytes -/
theorem BytesAt.part {w : World} {ab ao n c : Nat} {l : List UInt8} (h : BytesAt w (.slice (some ⟨ab, ao, none⟩) n c) l) {i k : Nat} (hk : i + k ≤ l.length) : BytesAt w (.slice (some ⟨ab, ao + i, none⟩) k (c - i)) ((l.drop i).take k) := by
  rcases h with ⟨h, _⟩ | ⟨a, c, e, h1, h2, h3⟩
  · cases h
  · cases e
    have hl : ((l.drop i).take k).length = k := by rw [List.length_take, List.length_drop]; omega
    refine .inr ⟨⟨ab, ao + i, none⟩, c - i, by rw [hl], by omega, by omega, fun j hj => ?_⟩
    rw [hl] at hj
    have e1 : (⟨ab, ao + i, none⟩ : Addr).add j = (⟨ab, ao, none⟩ : Addr).add (i + j) := by unfold Addr.add; split <;> split <;> simp_all <;> omega
    rw [e1, h3 (i + j) (by omega)]
    congr 3
    rw [List.getElem_take, List.getElem_drop]

/-- bytes as a number -/
def wordN (l : List UInt8) (m : Nat) : Nat → Nat
  | 0 => 0
  | k + 1 => wordN l m k + (l.getD (m + k) 0).toNat * 2 ^ (8 * k)
theorem word_nat (l : List UInt8) (m : Nat) : ∀ k, k ≤ 8 → (wordAt l m k).toNat = wordN l m k ∧ wordN l m k < 2 ^ (8 * k)
  | 0, _ => ⟨rfl, Nat.lt_of_lt_of_le Nat.zero_lt_one (Nat.le_refl 1)⟩
  | k + 1, h => by
    obtain ⟨h1, h2⟩ := word_nat l m k (by omega)
    have hb := (l.getD (m + k) 0).toNat_lt
    have hn : (BitVec.ofNat 64 (byteAt l (m + k)).toNat).toNat = (l.getD (m + k) 0).toNat := by
      rw [BitVec.toNat_ofNat]; unfold byteAt; omega
    have hp : (l.getD (m + k) 0).toNat * 2 ^ (8 * k) ≤ 255 * 2 ^ (8 * k) := Nat.mul_le_mul (by omega) (Nat.le_refl _)
    have h64 : 256 * 2 ^ (8 * k) ≤ 2 ^ 64 := by
      rw [show 256 = 2 ^ 8 from rfl, ← Nat.pow_add]; exact Nat.pow_le_pow_right (by decide) (by omega)
    have hs : 2 ^ (8 * (k + 1)) = 256 * 2 ^ (8 * k) := by rw [show 256 = 2 ^ 8 from rfl, ← Nat.pow_add]; congr 1; omega
    have e := or_shl (wordAt l m k) (BitVec.ofNat 64 (byteAt l (m + k)).toNat) (8 * k) (by rw [h1]; exact h2) (by rw [hn]; omega)
    rw [hn, h1] at e
    exact ⟨e, by show wordN l m k + _ < _; omega⟩
/-- what a sector's bytes tell of a cell, too many data among it -/
def readL (l : List UInt8) : Cl := ⟨passOf l, (l.getD 4 0).toNat + 256 * (l.getD 5 0).toNat, (l.getD 6 0).toNat, (l.drop 8).take (min (l.getD 7 0).toNat 56)⟩
theorem head_nat8 (l : List UInt8) : ∃ X : Nat, q (wordAt l 0 8) = (X : Int) ∧ X % 4294967296 = passOf l ∧ X / 4294967296 % 65536 = (readL l).place ∧ X / 281474976710656 % 256 = (readL l).kind ∧ X / 72057594037927936 = (l.getD 7 0).toNat ∧ X < 18446744073709551616 := by
  obtain ⟨h1, h2⟩ := word_nat l 0 8 (Nat.le_refl _)
  refine ⟨wordN l 0 8, by unfold q; rw [h1], ?_⟩
  have b0 := (l.getD 0 0).toNat_lt; have b1 := (l.getD 1 0).toNat_lt; have b2 := (l.getD 2 0).toNat_lt; have b3 := (l.getD 3 0).toNat_lt
  have b4 := (l.getD 4 0).toNat_lt; have b5 := (l.getD 5 0).toNat_lt; have b6 := (l.getD 6 0).toNat_lt; have b7 := (l.getD 7 0).toNat_lt
  have e : wordN l 0 8 = (l.getD 0 0).toNat + (l.getD 1 0).toNat * 256 + (l.getD 2 0).toNat * 65536 + (l.getD 3 0).toNat * 16777216 + (l.getD 4 0).toNat * 4294967296 + (l.getD 5 0).toNat * 1099511627776 + (l.getD 6 0).toNat * 281474976710656 + (l.getD 7 0).toNat * 72057594037927936 := by
    simp [wordN]
  unfold readL passOf n4
  dsimp only
  simp only [Nat.zero_add]
  rw [e]
  omega
theorem own_row {w1 : World} {b : Nat} {base : Nat} {v : Value} {l : List UInt8} {cs : Array Value} (h : OwnB base w1 v l) (hb : b < base) : OwnB base (w1.setRow b cs) v l :=
  h.grown (r := some b) (gb_setAt w1 b cs) fun g hg e => by
    cases e
    obtain ⟨p, c, rfl⟩ := h.form
    cases p with
    | none => cases hg
    | some a => have := (h.at a _ _ rfl).1; cases hg; omega
theorem shr_nat (W : BitVec 64) (i n : Nat) (h : 2 ^ i = n) : (W >>> i).toNat = W.toNat / n := by subst h; rw [BitVec.toNat_ushiftRight, Nat.shiftRight_eq_div_pow]
theorem read_parts (l : List UInt8) : ∃ B7 : Nat, B7 = (l.getD 7 0).toNat ∧ B7 < 256 ∧ q (wordAt l 0 8) % 4294967296 = ((readL l).pass : Int) ∧ IntKind.u16.wrap (q (wordAt l 0 8 >>> 32)) = ((readL l).place : Int) ∧ q (wordAt l 0 8 >>> 48) % 256 = ((readL l).kind : Int) ∧ wrap64 (q (wordAt l 0 8 >>> 56)) = (B7 : Int) ∧ (readL l).pass < 4294967296 ∧ (readL l).place < 65536 ∧ (readL l).kind < 256 := by
  obtain ⟨X, h0, h1, h2, h3, h4, h5⟩ := head_nat8 l
  have e : (wordAt l 0 8).toNat = X := by unfold q at h0; omega
  have hp : (readL l).pass = passOf l := rfl
  have h7 := (l.getD 7 0).toNat_lt
  refine ⟨_, rfl, h7, ?_, ?_, ?_, ?_, ?_, ?_, ?_⟩
  · rw [h0, hp]; omega
  · rw [IntKind.wrap_u16]; unfold q; rw [shr_nat _ 32 4294967296 rfl, e]; omega
  · unfold q; rw [shr_nat _ 48 281474976710656 rfl, e]; omega
  · unfold q wrap64; rw [shr_nat _ 56 72057594037927936 rfl, e]; omega
  · rw [hp]; omega
  · omega
  · omega
set_option maxHeartbeats 3200000 in
theorem lread_any (v : Value) (l : List UInt8) (hl : l.length = 64) (w : World) (hv : BytesAt w v l) :
    Calls Try.prog 26 #[v] w fun e w' => ∃ u, e = .returned (.agg #[.int .u32 ((readL l).pass : Int), .int .i64 ((readL l).place : Int), .int .i64 ((readL l).kind : Int), u]) ∧ OwnB w.heap.size w' u (readL l).data ∧ w.grownBy w' none := by
  obtain ⟨B7, hB, hB7, f0, f1, f2, f3, g0, g1, g2⟩ := read_parts l
  obtain ⟨ab, ao, c, hf, -⟩ := hv.cells (by omega)
  have hc : 64 ≤ c := by
    rcases hv with ⟨h, _⟩ | ⟨_, _, h, h2, _⟩
    · rw [h] at hf; cases hf
    · rw [h] at hf; cases hf; omega
  have hcm : c ≤ maxLen := by
    rcases hv with ⟨h, _⟩ | ⟨_, _, h, _, h2, _⟩
    · rw [h] at hf; cases hf
    · rw [h] at hf; cases hf; exact h2
  rw [hl] at hf
  subst hf
  have G := hid (get_in l (.slice (some ⟨ab, ao, none⟩) 64 c) 0)
  have HV := hid hv; have HL := hid hl; have HB := hid hB
  have hdata : (readL l).data = (l.drop 8).take (min B7 56) := by rw [hB]; rfl
  rw [hdata]
  obtain ⟨P, hP⟩ : ∃ P : Nat, (readL l).pass = P := ⟨_, rfl⟩
  obtain ⟨Q, hQ⟩ : ∃ Q : Nat, (readL l).place = Q := ⟨_, rfl⟩
  obtain ⟨K, hK⟩ : ∃ K : Nat, (readL l).kind = K := ⟨_, rfl⟩
  rw [hP] at f0 g0 ⊢; rw [hQ] at f1 g1 ⊢; rw [hK] at f2 g2 ⊢
  clear hP hQ hK hB hv hl hdata
  generalize wordAt l 0 8 = W at *
  have A0 := hid (at_new w (.cells #[.int .u32 0, .int .i64 0, .int .i64 0, .slice none 0 0] 31))
  unfold maxLen at hcm
  by_cases h56 : B7 ≤ 56
  · have hm : min (8 + (B7 : Int)) 64 = 8 + (B7 : Int) := by omega
    rw [show min B7 56 = B7 by omega]
    go_enter Try.func26, Try.ntmps26
    go_wp2_with fail
    refine (G.out _ (HV.out.alloc _) (by rw [HL.out]; decide)).mono ?_
    rintro e w1 ⟨rfl, rfl⟩
    go_wp2_with fail
    refine (clone_some ⟨ab, ao + 8, none⟩ B7 (c - 8) ((l.drop 8).take B7) (by rw [List.length_take, List.length_drop, HL.out]; omega) (by omega) _ ((HV.out.part (i := 8) (k := B7) (by rw [HL.out]; omega)).alloc _)).mono ?_
    rintro e w1 ⟨u, rfl, ho, hg⟩
    obtain ⟨p, cp, rfl⟩ := ho.form
    obtain ⟨NN, hN⟩ : ∃ NN, NN = ((l.drop 8).take B7).length := ⟨_, rfl⟩
    rw [← hN] at ho ⊢
    have HO := hid (ho.le (gb_size (gb_alloc (.refl w none) _)))
    have AN := hid (at_grown A0.out hg (by simp))
    have G1 := hid (gb_trans (gb_alloc (.refl w none) _) hg (.inl rfl))
    have HW := hid (own_row ho (show w.heap.size < (w.alloc (.cells #[.int .u32 0, .int .i64 0, .int .i64 0, .slice none 0 0] 31)).heap.size from at_lt A0.out) (cs := #[.int .u32 (P : Int), .int .i64 (Q : Int), .int .i64 (K : Int), .slice p NN cp]))
    clear ho hg hN
    have HZ := hid (at_setRow (cs := #[.int .u32 (P : Int), .int .i64 (Q : Int), .int .i64 (K : Int), .slice p NN cp]) AN.out)
    go_wp2_with (refine wpList_store_row (old := #[.int .u32 0, .int .i64 0, .int .i64 0, .slice none 0 0]) (cs := #[.int .u32 (P : Int), .int .i64 (Q : Int), .int .i64 (K : Int), .slice p NN cp]) AN.out (by kernel_rfl) (by kernel_rfl) (by kernel_rfl) rfl rfl rfl rfl rfl ?_)
    have d0 := at_cell HZ.out 0; have d1 := at_cell HZ.out 1; have d2 := at_cell HZ.out 2; have d3 := at_cell HZ.out 3
    exact bodyPost_ret (v := .agg #[.int .u32 (P : Int), .int .i64 (Q : Int), .int .i64 (K : Int), .slice p NN cp]) (by simp [results, Try.results26, go_sem, d0, d1, d2, d3]) rfl ⟨_, rfl, HW.out.le (gb_size (gb_alloc (.refl w none) _)), gb_setRow G1.out (Nat.le_refl _)⟩
  · have hm : min (8 + (B7 : Int)) 64 = 64 := by omega
    rw [show min B7 56 = 56 by omega]
    go_enter Try.func26, Try.ntmps26
    go_wp2_with fail
    refine (G.out _ (HV.out.alloc _) (by rw [HL.out]; decide)).mono ?_
    rintro e w1 ⟨rfl, rfl⟩
    go_wp2_with fail
    refine (clone_some ⟨ab, ao + 8, none⟩ 56 (c - 8) ((l.drop 8).take 56) (by rw [List.length_take, List.length_drop, HL.out]; omega) (by omega) _ ((HV.out.part (i := 8) (k := 56) (by rw [HL.out]; omega)).alloc _)).mono ?_
    rintro e w1 ⟨u, rfl, ho, hg⟩
    obtain ⟨p, cp, rfl⟩ := ho.form
    obtain ⟨NN, hN⟩ : ∃ NN, NN = ((l.drop 8).take 56).length := ⟨_, rfl⟩
    rw [← hN] at ho ⊢
    have HO := hid (ho.le (gb_size (gb_alloc (.refl w none) _)))
    have AN := hid (at_grown A0.out hg (by simp))
    have G1 := hid (gb_trans (gb_alloc (.refl w none) _) hg (.inl rfl))
    have HW := hid (own_row ho (show w.heap.size < (w.alloc (.cells #[.int .u32 0, .int .i64 0, .int .i64 0, .slice none 0 0] 31)).heap.size from at_lt A0.out) (cs := #[.int .u32 (P : Int), .int .i64 (Q : Int), .int .i64 (K : Int), .slice p NN cp]))
    clear ho hg hN
    have HZ := hid (at_setRow (cs := #[.int .u32 (P : Int), .int .i64 (Q : Int), .int .i64 (K : Int), .slice p NN cp]) AN.out)
    go_wp2_with (refine wpList_store_row (old := #[.int .u32 0, .int .i64 0, .int .i64 0, .slice none 0 0]) (cs := #[.int .u32 (P : Int), .int .i64 (Q : Int), .int .i64 (K : Int), .slice p NN cp]) AN.out (by kernel_rfl) (by kernel_rfl) (by kernel_rfl) rfl rfl rfl rfl rfl ?_)
    have d0 := at_cell HZ.out 0; have d1 := at_cell HZ.out 1; have d2 := at_cell HZ.out 2; have d3 := at_cell HZ.out 3
    exact bodyPost_ret (v := .agg #[.int .u32 (P : Int), .int .i64 (Q : Int), .int .i64 (K : Int), .slice p NN cp]) (by simp [results, Try.results26, go_sem, d0, d1, d2, d3]) rfl ⟨_, rfl, HW.out.le (gb_size (gb_alloc (.refl w none) _)), gb_setRow G1.out (Nat.le_refl _)⟩
end Go.Proofs.Ytjebmlmjbnaghaa
