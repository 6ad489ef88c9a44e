/-
  Contracts for package mac: a derived key's next word. No condition but on the block of the derivation under way.
-/
import Derived.Test.YtmnmekjbjccamaaMacF
import Derived.Test.YtmnmekjbjccamaaSum
import Derived.Test.YtmnmekjbjccamaaOnce
set_option linter.unusedSimpArgs false
namespace Go.Proofs.Ytmnmekjbjccamaa
set_option maxRecDepth 100000
open Go.RowKit

theorem add_u32 (a : Addr) (x x1 : Int) (he : x + 1 = x1) (w : World) (hc : w.cell? a = some (.int .u32 x)) (hz : w.frozen? a = false) (h0 : 0 ≤ x) (h1 : x < 100) :
    Calls Try.prog 51 #[.pointer (some a), .int .u32 1] w fun e w' => e = .returned (.int .u32 x1) ∧ w' = w.setCell a (.int .u32 x1) := by
  subst he
  have hadd := run_call_add (P := Try.prog) Try.func60 (by kernel_rfl) (by kernel_rfl) (by kernel_rfl) .u32 (by kernel_rfl) (y := 1) (s := x + 1) hc hz (by simp [go_sem, IntKind.wrap, IntKind.bits, IntKind.signed]; omega)
  go_enter Try.func51, Try.ntmps51
  go_wp2
  go_ret
  exact ⟨rfl, rfl⟩

/-- a derivation under way: m words were told -/
def derObj (k0 k1 : BitVec 64) (s : ByteArray) (n : BitVec 64) (m : Int) : Obj := .cells #[.int .u64 (q k0), .int .u64 (q k1), .string s, .int .u64 (q n), .int .u32 m] 71
theorem der_cells {w : World} {b : Nat} {k0 k1 : BitVec 64} {s : ByteArray} {n : BitVec 64} {m : Int} (h : w.heap[b]? = some (derObj k0 k1 s n m)) :
    w.cell? ⟨b, 0, none⟩ = some (.int .u64 (q k0)) ∧ w.cell? ⟨b, 1, none⟩ = some (.int .u64 (q k1)) ∧ w.cell? ⟨b, 2, none⟩ = some (.string s) ∧ w.cell? ⟨b, 3, none⟩ = some (.int .u64 (q n)) ∧ w.cell? ⟨b, 4, none⟩ = some (.int .u32 m) ∧ w.frozen? ⟨b, 4, none⟩ = false :=
  ⟨at_cell h 0, at_cell h 1, at_cell h 2, at_cell h 3, at_cell h 4, at_free h 4⟩
/-- '[]byte(s)': the string's bytes, in a block of their own -/
theorem conv_string (s : ByteArray) (hs : s.size ≤ 100000) (w : World) :
    ∃ c w', (convert 9 26 (.string s)).run Try.prog w = .ok (.slice (some ⟨w.heap.size, 0, none⟩) s.size c) w' ∧ BytesAt w' (.slice (some ⟨w.heap.size, 0, none⟩) s.size c) s.data.toList ∧ w.grownBy w' none := by
  refine ⟨_, _, run_bytes_of_string w 9 26 5 s Try.underlying9 Try.underlying26 Try.underlying5, ?_, gb_alloc (gb_drew (.refl w none)) _⟩
  have hl : s.data.toList.length = s.size := by simp
  refine .inr ⟨_, _, by rw [hl], by rw [hl]; exact grownCap_ge _ _ _ _, grownCap_le_maxLen _ _ _ _ (by unfold maxLen; omega), fun i hi => ?_⟩
  have e : (⟨w.heap.size, 0, none⟩ : Addr).add i = ⟨w.heap.size, i, none⟩ := by unfold Addr.add; split <;> simp_all
  rw [e, at_cell (b := w.heap.size) (at_new w.drew _) i, bytesRow_at s _ i (by simpa using hi)]
  simp

theorem Box.row {w : World} {k0 k1 : BitVec 64} {t t' : TypeId} {w1 w2 : World} (h : Box w k0 k1 t t' w1) (hg : w1.grownBy w2 (some (w.heap.size + 1 + 1))) : Box w k0 k1 t t' w2 :=
  ⟨at_grown h.box hg (by simp; omega), by obtain ⟨x, y, h⟩ := h.ans; exact ⟨x, y, at_grown h hg (by simp)⟩, gb_trans h.g hg (.inr (.inr ⟨_, rfl, by omega⟩))⟩

/-- a block of bytes -/
theorem bytes_of_cells {w : World} {b : Nat} {t : TypeId} {f : Nat × Nat} (l : List UInt8) (h : w.heap[b]? = some (.cells (l.map fun c => Value.int .u8 (c.toNat : Int)).toArray t f)) (hl : l.length ≤ maxLen) : BytesAt w (.slice (some ⟨b, 0, none⟩) l.length l.length) l := by
  refine .inr ⟨_, _, rfl, Nat.le_refl _, hl, fun i hi => ?_⟩
  have e : (⟨b, 0, none⟩ : Addr).add i = ⟨b, i, none⟩ := by unfold Addr.add; split <;> simp_all
  rw [e, at_cell h i]
  simp [List.getElem?_map, List.getElem?_eq_getElem hi]

/-- a hash under way behind a derivation under way -/
structure Nx (w : World) (b : Nat) (k0 k1 : BitVec 64) (s : ByteArray) (n : BitVec 64) (m : Int) (st : St) (wc : World) : Prop where
  lt : b < w.heap.size
  hh : wc.heap[w.heap.size + 1]? = some st.obj
  hb : wc.heap[b]? = some (derObj k0 k1 s n m)
  g : w.grownBy wc (some b)
theorem Nx.grown {w : World} {b : Nat} {k0 k1 : BitVec 64} {s : ByteArray} {n : BitVec 64} {m : Int} {st : St} {wc wd : World} (h : Nx w b k0 k1 s n m st wc) (hg : wc.grownBy wd none) : Nx w b k0 k1 s n m st wd :=
  ⟨h.lt, at_grown h.hh hg (by simp), at_grown h.hb hg (by simp), gb_trans h.g hg (.inl rfl)⟩
theorem Nx.write {w : World} {b : Nat} {k0 k1 : BitVec 64} {s : ByteArray} {n : BitVec 64} {m : Int} {st st' : St} {wc wd : World} (h : Nx w b k0 k1 s n m st wc) (hh : wd.heap[w.heap.size + 1]? = some st'.obj) (hg : wc.grownBy wd (some (w.heap.size + 1))) : Nx w b k0 k1 s n m st' wd :=
  ⟨h.lt, hh, at_grown h.hb hg (by have := h.lt; simp; omega), gb_trans h.g hg (.inr (.inr ⟨_, rfl, by omega⟩))⟩
theorem Nx.told {w : World} {b : Nat} {k0 k1 : BitVec 64} {s : ByteArray} {n : BitVec 64} {m : Int} {st : St} {wc : World} (h : Nx w b k0 k1 s n m st wc) (m1 : Int) : Nx w b k0 k1 s n m1 st (wc.setCell ⟨b, 4, none⟩ (.int .u32 m1)) :=
  ⟨h.lt, at_set_other h.hh (by have := h.lt; simp; omega) _, at_set h.hb 4 _, gb_row h.g rfl _⟩
theorem Nx.size {w : World} {b : Nat} {k0 k1 : BitVec 64} {s : ByteArray} {n : BitVec 64} {m : Int} {st : St} {wc : World} (h : Nx w b k0 k1 s n m st wc) : w.heap.size + 1 < wc.heap.size := at_lt h.hh

set_option maxHeartbeats 3200000 in
theorem next_at (b : Nat) (k0 k1 : BitVec 64) (s : ByteArray) (n : BitVec 64) (m m1 : Int) (mb : UInt8) (he : m + 1 = m1) (h0 : 0 ≤ m) (h1 : m < 100) (hw : IntKind.u8.wrap m1 = (mb.toNat : Int)) (hs : s.size ≤ 100000) (w : World) (hb : w.heap[b]? = some (derObj k0 k1 s n m)) :
    Calls Try.prog 37 #[.pointer (some ⟨b, 0, none⟩)] w fun e w' => e = .returned (.int .u64 (q (sumOf k0 k1 (s.data.toList ++ [mb] ++ put8 n)))) ∧ w'.heap[b]? = some (derObj k0 k1 s n m1) ∧ w.grownBy w' (some b) := by
  obtain ⟨l, hl⟩ : ∃ l, s.data.toList = l := ⟨_, rfl⟩
  rw [hl]
  have hbl := at_lt hb
  have HLL := hid hl; clear hl
  have HB := hid hb; have HE := hid he; clear hb he
  obtain ⟨c0, c1, c2, c3, c4, f4⟩ := der_cells HB.out
  go_enter Try.func37, Try.ntmps37
  go_wp2_with fail
  clear c0 c1 c2 c3 c4 f4
  refine (new_any k0 k1 _).mono ?_
  rintro e w1 ⟨rfl, h1, hg1⟩
  have N1 := hid (show Nx w b k0 k1 s n m _ w1 from ⟨hbl, h1, at_grown HB.out hg1 (by simp), gb_some hg1 b⟩); clear h1 hg1
  obtain ⟨c0, c1, c2, c3, c4, f4⟩ := der_cells N1.out.hb
  obtain ⟨c, w2, hcv, hv2, hg2⟩ := conv_string s hs w1
  rw [HLL.out] at hv2
  have HV := hid hv2; have N2 := hid (N1.out.grown hg2); clear hv2 hg2
  go_wp2_with fail
  clear hcv c0 c1 c2 c3 c4 f4
  refine (write_any _ _ l _ _ N2.out.hh HV.out (.inr fun _ _ _ h e => by have := N1.out.size; cases h; simp at e; omega)).mono ?_
  rintro e w3 ⟨rfl, h3, hg3⟩
  have N3 := hid (N2.out.write h3 hg3); clear h3 hg3
  obtain ⟨c0, c1, c2, c3, c4, f4⟩ := der_cells N3.out.hb
  go_wp2_with fail
  refine (add_u32 _ m m1 HE.out _ c4 f4 h0 (by assumption)).mono ?_
  rintro e w4 ⟨rfl, rfl⟩
  clear c0 c1 c2 c3 c4 f4
  have n4 := N3.out.told m1
  generalize w3.setCell ⟨b, 4, none⟩ (.int .u32 m1) = w4 at n4 ⊢
  have N4 := hid n4; clear n4
  go_wp2_with fail
  have hb5 : BytesAt (w4.alloc (.cells #[.int .u8 (mb.toNat : Int)] 5)) (.slice (some ⟨w4.heap.size, 0, none⟩) 1 1) [mb] := bytes_of_cells [mb] (at_new w4 _) (by unfold maxLen; simp)
  have hn5 : ([mb] : List UInt8) = [] ∨ ∀ a n c, Value.slice (some ⟨w4.heap.size, 0, none⟩) 1 1 = .slice (some a) n c → a.block ≠ w.heap.size + 1 := .inr fun _ _ _ h e => by have := N4.out.size; cases h; simp at e; omega
  have A5 := hid (N4.out.grown (gb_alloc (.refl w4 none) (.cells #[.int .u8 (mb.toNat : Int)] 5)))
  with_reducible refine (write_any _ _ [mb] _ _ A5.out.hh hb5 hn5).mono ?_
  clear hb5 hn5
  rintro e w5 ⟨rfl, h5, hg5⟩
  have N5 := hid (A5.out.write h5 hg5); clear h5 hg5
  obtain ⟨c0, c1, c2, c3, c4, f4⟩ := der_cells N5.out.hb
  go_wp2_with fail
  clear c0 c1 c2 c3 c4 f4
  refine (put_any n _).mono ?_
  rintro e w6 ⟨rfl, h6, hg6⟩
  have N6 := hid (N5.out.grown hg6); have O6 := hid (own_put n h6 (Nat.le_refl _)).bytes; clear h6 hg6
  go_wp2_with fail
  refine (write_any _ _ (put8 n) _ _ N6.out.hh O6.out (.inr fun _ _ _ h e => by have := N5.out.size; cases h; simp at e; omega)).mono ?_
  rintro e w7 ⟨rfl, h7, hg7⟩
  have N7 := hid (N6.out.write h7 hg7); clear h7 hg7
  go_wp2_with fail
  refine (hsum_any _ _ _ N7.out.hh).mono ?_
  rintro e w8 ⟨rfl, hg8⟩
  have N8 := hid (N7.out.grown hg8); clear hg8
  go_wp2_with fail
  go_ret
  have hsum : (List.foldl St.add ((List.foldl St.add (St.new k0 k1) l).add mb) (put8 n)).sum = sumOf k0 k1 (l ++ [mb] ++ put8 n) := by simp only [sumOf, List.foldl_append, List.foldl_cons, List.foldl_nil]
  rw [← hsum]
  exact ⟨rfl, N8.out.hb, N8.out.g⟩

/-- what a derived key's words are -/
def derived (k0 k1 : BitVec 64) (s : ByteArray) (n : BitVec 64) (mb : UInt8) : BitVec 64 := sumOf k0 k1 (s.data.toList ++ [mb] ++ put8 n)

set_option maxHeartbeats 3200000 in
theorem derive_any (k0 k1 : BitVec 64) (s : ByteArray) (hs : s.size ≤ 100000) (n : BitVec 64) (w : World) :
    Calls Try.prog 14 #[pair k0 k1, .string s, .int .u64 (q n)] w fun e w' => e = .returned (pair (derived k0 k1 s n 1) (derived k0 k1 s n 2)) ∧ w.grownBy w' none := by
  obtain ⟨a, ha⟩ : ∃ a, derived k0 k1 s n 1 = a := ⟨_, rfl⟩
  obtain ⟨b, hb⟩ : ∃ b, derived k0 k1 s n 2 = b := ⟨_, rfl⟩
  rw [ha, hb]
  have HA := hid ha; have HB := hid hb; clear ha hb
  go_enter Try.func14, Try.ntmps14
  go_wp2_with fail
  have d0 : (((w.alloc (.cells #[.int .u64 (q k0), .int .u64 (q k1)] 34)).alloc (.cells #[.int .u64 0, .int .u64 0] 34)).alloc (derObj k0 k1 s n 0)).heap[w.heap.size + 1 + 1]? = some (derObj k0 k1 s n 0) := by
    have := at_new ((w.alloc (.cells #[.int .u64 (q k0), .int .u64 (q k1)] 34)).alloc (.cells #[.int .u64 0, .int .u64 0] 34)) (derObj k0 k1 s n 0)
    rwa [size_alloc, size_alloc] at this
  have b0 : Box w k0 k1 34 34 (((w.alloc (.cells #[.int .u64 (q k0), .int .u64 (q k1)] 34)).alloc (.cells #[.int .u64 0, .int .u64 0] 34)).alloc (derObj k0 k1 s n 0)) :=
    ⟨at_alloc (at_alloc (at_new w _) _) _, ⟨_, _, at_alloc (at_new2 w _ _) _⟩, gb_alloc (gb_alloc (gb_alloc (.refl w none) _) _) _⟩
  have D0 := hid d0; have B0 := hid b0; clear d0 b0
  refine (next_at _ k0 k1 s n 0 1 1 rfl (by decide) (by decide) (by decide) hs _ D0.out).mono ?_
  rintro e w1 ⟨rfl, h1, hg1⟩
  rw [show sumOf k0 k1 (s.data.toList ++ [1] ++ put8 n) = a from HA.out]
  have D1 := hid h1
  have B1 := hid (B0.out.row hg1); clear h1 hg1
  go_wp2_with fail
  refine (next_at _ k0 k1 s n 1 2 2 rfl (by decide) (by decide) (by decide) hs _ D1.out).mono ?_
  rintro e w2 ⟨rfl, h1, hg1⟩
  rw [show sumOf k0 k1 (s.data.toList ++ [2] ++ put8 n) = b from HB.out]
  have B2 := hid (B1.out.row hg1); clear h1 hg1
  obtain ⟨x, y, hxy⟩ := B2.out.ans
  have c0 := at_cell hxy 0
  have c1 := at_cell hxy 1
  have f0 := at_free hxy 0
  have f1 := at_free hxy 1
  clear hxy
  go_wp2_with fail
  clear c0 c1 f0 f1
  have hst := B2.out.store (.int .u64 (q a)) (.int .u64 (q b))
  generalize (w2.setCell ⟨w.heap.size + 1, 0, none⟩ (.int .u64 (q a))).setCell ⟨w.heap.size + 1, 1, none⟩ (.int .u64 (q b)) = wx at hst ⊢
  obtain ⟨r0, r1⟩ := pair_cells hst.1
  exact bodyPost_ret (v := pair a b) (by simp [results, Try.results14, go_sem, r0, r1]) rfl ⟨rfl, hst.2⟩
end Go.Proofs.Ytmnmekjbjccamaa
