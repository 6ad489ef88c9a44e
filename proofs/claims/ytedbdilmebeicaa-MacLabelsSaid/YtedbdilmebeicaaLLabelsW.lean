/-
  The walk of the statement MacLabels: a derived key's words are sums of the label, a byte and the number. The condition: a label of a modest length, or a long one.
-/
import Derived.Test.YtedbdilmebeicaaMTold
import Derived.Test.YtedbdilmebeicaaMark
import Derived.ChangeMaps5
set_option linter.unusedSimpArgs false
namespace Go.Proofs.Ytedbdilmebeicaa.labels
set_option maxRecDepth 100000
open Go.RowKit

set_option maxHeartbeats 1600000 in
theorem walk_long (k0 k1 : BitVec 64) (s : ByteArray) (hn : 30 < s.size) (n : BitVec 64) (w : World) :
    Calls Try.prog 6 #[.agg #[.int .u64 (q k0), .int .u64 (q k1)], .string s, .int .u64 (q n)] w fun e w' => e = .returned (.bool true) ∧ w.grownBy w' none := by
  have h1 : (30 : Int) < (s.size : Int) := by omega
  go_enter Try.func6, Try.ntmps6
  go_wp2_with fail
  refine (told_any _).mono ?_
  rintro e w1 ⟨rfl, hg⟩
  have HG := hid hg; clear hg
  go_wp2_with fail
  go_ret
  exact ⟨rfl, gb_trans (gb_alloc (.refl w none) _) HG.out (.inl rfl)⟩

/-- the key's box, and both lists of bytes -/
structure Lb (w0 : World) (k0 k1 : BitVec 64) (v1 v2 : Value) (l1 l2 : List UInt8) (w : World) : Prop where
  box : w.heap[w0.heap.size]? = some (.cells #[.int .u64 (q k0), .int .u64 (q k1)] 23)
  b1 : BytesAt w v1 l1
  b2 : BytesAt w v2 l2
  g : w0.grownBy w none
theorem Lb.grown {w0 : World} {k0 k1 : BitVec 64} {v1 v2 : Value} {l1 l2 : List UInt8} {w w1 : World} (h : Lb w0 k0 k1 v1 v2 l1 l2 w) (hg : w.grownBy w1 none) : Lb w0 k0 k1 v1 v2 l1 l2 w1 :=
  ⟨at_grown h.box hg (by simp), h.b1.grown hg (by simp), h.b2.grown hg (by simp), gb_trans h.g hg (.inl rfl)⟩
theorem Lb.drew {w0 : World} {k0 k1 : BitVec 64} {v1 v2 : Value} {l1 l2 : List UInt8} {w : World} (h : Lb w0 k0 k1 v1 v2 l1 l2 w) : Lb w0 k0 k1 v1 v2 l1 l2 w.drew := ⟨h.box, h.b1, h.b2, gb_drew h.g⟩
theorem Lb.keep {w0 : World} {k0 k1 : BitVec 64} {v1 v2 : Value} {l1 l2 : List UInt8} {w : World} (h : Lb w0 k0 k1 v1 v2 l1 l2 w) :
    w.cell? ⟨w0.heap.size, 0, none⟩ = some (.int .u64 (q k0)) ∧ w.cell? ⟨w0.heap.size, 1, none⟩ = some (.int .u64 (q k1)) ∧ Lb w0 k0 k1 v1 v2 l1 l2 w := ⟨at_cell h.box 0, at_cell h.box 1, h⟩
section
variable {P Q : Prop} {w0 wc : World} {k0 k1 : BitVec 64} {v1 v2 : Value} {l1 l2 : List UInt8}
theorem lb_lb (h : P ∧ Q ∧ Lb w0 k0 k1 v1 v2 l1 l2 wc) : Lb w0 k0 k1 v1 v2 l1 l2 wc := h.2.2
end
/-- the key's box, and one list of the call's own under way -/
structure La (w0 : World) (k0 k1 : BitVec 64) (base : Nat) (v : Value) (l : List UInt8) (w : World) : Prop where
  box : w.heap[w0.heap.size]? = some (.cells #[.int .u64 (q k0), .int .u64 (q k1)] 23)
  own : OwnM base w v l
  lt : w0.heap.size < base
  le : base ≤ w.heap.size
  g : w0.grownBy w none
theorem La.grown {w0 : World} {k0 k1 : BitVec 64} {base : Nat} {v : Value} {l : List UInt8} {w w1 : World} (h : La w0 k0 k1 base v l w) (hg : w.grownBy w1 none) : La w0 k0 k1 base v l w1 :=
  ⟨at_grown h.box hg (by simp), h.own.grown hg (by simp), h.lt, Nat.le_trans h.le (gb_size hg), gb_trans h.g hg (.inl rfl)⟩
theorem La.next {w0 : World} {k0 k1 : BitVec 64} {base : Nat} {v v' : Value} {l l' : List UInt8} {w w1 : World} (h : La w0 k0 k1 base v l w) (ho : OwnM base w1 v' l') (hg : w.grownBy w1 v.ownBlock) : La w0 k0 k1 base v' l' w1 :=
  ⟨h.own.keeps_at h.box h.lt hg, ho, h.lt, Nat.le_trans h.le (gb_size hg), h.own.keeps h.g (Nat.le_of_lt h.lt) hg⟩

/-- the second list of the call's own under way -/
structure Lc (w0 : World) (v : Value) (l : List UInt8) (w : World) : Prop where
  own : OwnM w0.heap.size w v l
  g : w0.grownBy w none
theorem Lc.grown {w0 : World} {v : Value} {l : List UInt8} {w w1 : World} (h : Lc w0 v l w) (hg : w.grownBy w1 none) : Lc w0 v l w1 := ⟨h.own.grown hg (by simp), gb_trans h.g hg (.inl rfl)⟩
theorem Lc.next {w0 : World} {v v' : Value} {l l' : List UInt8} {w w1 : World} (h : Lc w0 v l w) (ho : OwnM w0.heap.size w1 v' l') (hg : w.grownBy w1 v.ownBlock) : Lc w0 v' l' w1 := ⟨ho, h.own.keeps h.g (Nat.le_refl _) hg⟩

set_option maxHeartbeats 3200000 in
theorem walk_short (k0 k1 : BitVec 64) (s : ByteArray) (hn : s.size ≤ 30) (n : BitVec 64) (w : World) :
    Calls Try.prog 6 #[.agg #[.int .u64 (q k0), .int .u64 (q k1)], .string s, .int .u64 (q n)] w fun e w' => e = .returned (.bool true) ∧ w.grownBy w' none := by
  have h1 : (s.size : Int) ≤ 30 := by omega
  have hl : s.data.toList.length = s.size := by simp
  obtain ⟨L, hL⟩ : ∃ L, s.data.toList = L := ⟨_, rfl⟩
  have hd : ∀ w, Calls Try.prog 15 #[.agg #[.int .u64 (q k0), .int .u64 (q k1)], .string s, .int .u64 (q n)] w fun e w' => e = .returned (.agg #[.int .u64 (q (sumOf k0 k1 (L ++ [1] ++ put8 n))), .int .u64 (q (sumOf k0 k1 (L ++ [2] ++ put8 n)))]) ∧ w.grownBy w' none := fun w => by
    rw [← hL]; exact derive_any k0 k1 s (by omega) n w
  have hos := fun w base hb => own_string s (by omega) w base hb
  rw [hL] at hl
  have hll : L.length ≤ 30 := by omega
  have HD := hid hd
  have OS : Hid (∀ w base, base ≤ w.heap.size → ∃ c w', (convert 9 26 (.string s)).run Try.prog w = .ok (.slice (some ⟨w.heap.size, 0, none⟩) s.size c) w' ∧ OwnM base w' (.slice (some ⟨w.heap.size, 0, none⟩) s.size c) L ∧ w.grownBy w' none) := by
    rw [← hL]; exact hid hos
  have HL := hid hll
  have hp8 := put8_length n
  have HP8 := hid hp8
  clear hd hos hL hl hll hp8
  go_enter Try.func6, Try.ntmps6
  have hbx := at_new w (.cells #[.int .u64 (q k0), .int .u64 (q k1)] 23)
  obtain ⟨c, w1, hcv, hown, hg⟩ := OS.out (w.alloc (.cells #[.int .u64 (q k0), .int .u64 (q k1)] 23)) (w.heap.size + 1) (Nat.le_of_eq (size_alloc _ _).symm)
  rw [size_alloc] at hcv hown
  have A1 := hid (show La w k0 k1 (w.heap.size + 1) _ L w1 from ⟨at_grown hbx hg (by simp), hown, Nat.lt_succ_self _, by have h := gb_size hg; rwa [size_alloc] at h, gb_trans (gb_alloc (.refl w none) _) hg (.inl rfl)⟩)
  clear hown hbx hg
  have A2 := hid (A1.out.grown (gb_alloc (.refl w1 none) (.cells #[.int .u8 1] 5)))
  have B2 : Hid (BytesAt (w1.alloc (.cells #[.int .u8 1] 5)) (.slice (some ⟨w1.heap.size, 0, none⟩) [(1 : UInt8)].length 1) [1]) := hid (bytes_of_cells [1] (at_new w1 _) (by unfold maxLen; simp))
  go_wp2_with (at_builtin; refine append_marked rfl _ _ rfl (w.heap.size + 1) (.slice (some ⟨w.heap.size + 1, 0, none⟩) s.size c) L (by rfl) A2.out.own ⟨w1.heap.size, 0, none⟩ 1 [1] (by rfl) B2.out (by have := HL.out; simp; omega) A2.out.le ?_; intro v2 w2 hown hgrow hat)
  have A3 := hid (A2.out.next hown hgrow); clear hown hgrow hat hcv A1 A2 B2
  refine (put_any n _).mono ?_
  rintro e w3 ⟨rfl, h3, hg3⟩
  have A4 := hid (A3.out.grown hg3)
  have P4 : Hid (BytesAt w3 (.slice (some ⟨w2.heap.size, 0, none⟩) (put8 n).length 8) (put8 n)) := hid (own_put n h3 (Nat.le_refl _)).bytes
  clear h3 hg3 A3
  go_wp2_with (at_builtin; first
    | (refine append_marked rfl _ _ rfl (w.heap.size + 1) v2 (L ++ [1]) (by rfl) A4.out.own ⟨w2.heap.size, 0, none⟩ 8 (put8 n) (by rfl) P4.out (by have := HL.out; have := HP8.out; simp; omega) A4.out.le ?_; intro v3 w4 hown hgrow hat; have A5 := hid (A4.out.next hown hgrow); obtain ⟨c2, w5, hcv2, hown2, hg5⟩ := OS.out w4 w4.heap.size (Nat.le_refl _); have C5 := hid (Lc.mk hown2 hg5); have C6 := hid (C5.out.grown (gb_alloc (.refl w5 none) (.cells #[.int .u8 2] 5))); have B6 : Hid (BytesAt (w5.alloc (.cells #[.int .u8 2] 5)) (.slice (some ⟨w5.heap.size, 0, none⟩) [(2 : UInt8)].length 1) [2]) := hid (bytes_of_cells [2] (at_new w5 _) (by unfold maxLen; simp)); clear hown hgrow hat hown2 hg5)
    | (refine append_marked rfl _ _ rfl w4.heap.size (.slice (some ⟨w4.heap.size, 0, none⟩) s.size c2) L (by rfl) C6.out.own ⟨w5.heap.size, 0, none⟩ 1 [2] (by rfl) B6.out (by have := HL.out; simp; omega) (gb_size C6.out.g) ?_; intro v4 w6 hown hgrow hat; have C7 := hid (C6.out.next hown hgrow); clear hown hgrow hat))
  refine (put_any n _).mono ?_
  rintro e w7 ⟨rfl, h7, hg7⟩
  have C8 := hid (C7.out.grown hg7)
  have P8 : Hid (BytesAt w7 (.slice (some ⟨w6.heap.size, 0, none⟩) (put8 n).length 8) (put8 n)) := hid (own_put n h7 (Nat.le_refl _)).bytes
  clear h7 hg7 hcv2 A4 P4 C5 C6 B6 C7
  go_wp2_with (at_builtin; refine append_marked rfl _ _ rfl w4.heap.size v4 (L ++ [2]) (by rfl) C8.out.own ⟨w6.heap.size, 0, none⟩ 8 (put8 n) (by rfl) P8.out (by have := HL.out; have := HP8.out; simp; omega) (gb_size C8.out.g) ?_; intro v5 w8 hown hgrow hat; have C9 := hid (C8.out.next hown hgrow); clear hown hgrow hat)
  have h9 : Lb w k0 k1 v3 v5 (L ++ [1] ++ put8 n) (L ++ [2] ++ put8 n) w8 := ⟨at_grown A5.out.box C9.out.g (by simp), A5.out.own.bytes.grown C9.out.g (by simp), C9.out.own.bytes, gb_trans A5.out.g C9.out.g (.inl rfl)⟩
  have T9 := hid h9
  clear h9 A5 C8 P8 C9
  have hke := key_equal
  generalize hM1 : L ++ [1] ++ put8 n = M1 at *
  generalize hM2 : L ++ [2] ++ put8 n = M2 at *
  have hs1 : ∀ w, BytesAt w v3 M1 → Calls Try.prog 23 #[.agg #[.int .u64 (q k0), .int .u64 (q k1)], v3] w fun e w' => e = .returned (.int .u64 (q (sumOf k0 k1 M1))) ∧ w.grownBy w' none := fun w h => sum_any k0 k1 M1 v3 w h
  have hs2 : ∀ w, BytesAt w v5 M2 → Calls Try.prog 23 #[.agg #[.int .u64 (q k0), .int .u64 (q k1)], v5] w fun e w' => e = .returned (.int .u64 (q (sumOf k0 k1 M2))) ∧ w.grownBy w' none := fun w h => sum_any k0 k1 M2 v5 w h
  generalize sumOf k0 k1 M1 = a at *
  generalize sumOf k0 k1 M2 = b at *
  have S1 := hid hs1; have S2 := hid hs2; clear hs1 hs2 hM1 hM2
  go_region_held3 (fun w' => w'.cell? ⟨w.heap.size, 0, none⟩ = some (.int .u64 (q k0)) ∧ w'.cell? ⟨w.heap.size, 1, none⟩ = some (.int .u64 (q k1)) ∧ Lb w k0 k1 v3 v5 M1 M2 w')
    ((refine Lb.keep ?_; (repeat (first | assumption | with_reducible exact T9.out | with_reducible refine Lb.drew ?_ | exact lb_lb (by assumption) | with_reducible refine Lb.grown ?_ (by assumption)))))
    (first
      | (go_at_call 9; (with_reducible refine (told_any _).mono ?_); rintro e wt ⟨rfl, hgt⟩)
      | (go_at_call 15; (with_reducible refine (HD.out _).mono ?_); rintro e wd ⟨rfl, hgd⟩)
      | (go_at_call 23; (with_reducible refine (S1.out _ (Lb.b1 (lb_lb (by assumption)))).mono ?_); rintro e ws ⟨rfl, hgs⟩)
      | (go_at_call 23; (with_reducible refine (S2.out _ (Lb.b2 (lb_lb (by assumption)))).mono ?_); rintro e wz ⟨rfl, hgz⟩; have hZ := Lb.grown (lb_lb (by assumption)) hgz))
  go_wp2_with fail
  go_ret
  exact ⟨rfl, hZ.g⟩

theorem walk (k0 k1 : BitVec 64) (s : ByteArray) (n : BitVec 64) {w : World} :
    Calls Try.prog 6 #[.agg #[.int .u64 (q k0), .int .u64 (q k1)], .string s, .int .u64 (q n)] w fun e w' => e = .returned (.bool true) ∧ w.grownBy w' none := by
  by_cases h1 : 30 < s.size
  · exact walk_long k0 k1 s h1 n w
  · exact walk_short k0 k1 s (by omega) n w
end Go.Proofs.Ytedbdilmebeicaa.labels
