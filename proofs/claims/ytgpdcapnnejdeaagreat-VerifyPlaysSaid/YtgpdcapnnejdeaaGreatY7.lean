/-
  Contracts for package mac: a derived key's next word. No condition but on the block of the derivation under way. And 3 texts more that this one stands on. No condition.
-/
import Derived.Test.YtgpdcapnnejdeaaGreatY6
import Derived.Test.YtgpdcapnnejdeaaGreatY3
import Derived.Test.YtgpdcapnnejdeaaGreatNOnce
import Derived.Test.YtgpdcapnnejdeaaGreatY20
section
set_option linter.unusedSimpArgs false
namespace Go.Proofs.YtgpdcapnnejdeaaGreat
set_option maxRecDepth 100000
open Go.RowKit

theorem add_u32 (a : Addr) (x x1 : Int) (he : x + 1 = x1) (w : World) (hc : w.cell? a = some (.int .u32 x)) (hz : w.frozen? a = false) (h0 : 0 ≤ x) (h1 : x < 100) :
  Calls Tryz.prog 106 #[.pointer (some a), .int .u32 1] w fun e w' => e = .returned (.int .u32 x1) ∧ w' = w.setCell a (.int .u32 x1) := by
 subst he
 have hadd := run_call_add (P := Tryz.prog) Tryz.func127 (by kernel_rfl) (by kernel_rfl) (by kernel_rfl) .u32 (by kernel_rfl) (y := 1) (s := x + 1) hc hz (by simp [go_sem, IntKind.wrap, IntKind.bits, IntKind.signed]; omega)
 go_enter Tryz.func106, Tryz.ntmps106
 go_wp2
 go_ret
 exact ⟨rfl, rfl⟩

def derObj (k0 k1 : BitVec 64) (s : ByteArray) (n : BitVec 64) (m : Int) : Obj := .cells #[.int .u64 (q k0), .int .u64 (q k1), .string s, .int .u64 (q n), .int .u32 m] 181
theorem der_cells {w : World} {b : Nat} {k0 k1 : BitVec 64} {s : ByteArray} {n : BitVec 64} {m : Int} (h : w.heap[b]? = some (derObj k0 k1 s n m)) :
  w.cell? ⟨b, 0, none⟩ = some (.int .u64 (q k0)) ∧ w.cell? ⟨b, 1, none⟩ = some (.int .u64 (q k1)) ∧ w.cell? ⟨b, 2, none⟩ = some (.string s) ∧ w.cell? ⟨b, 3, none⟩ = some (.int .u64 (q n)) ∧ w.cell? ⟨b, 4, none⟩ = some (.int .u32 m) ∧ w.frozen? ⟨b, 4, none⟩ = false :=
 ⟨at_cell h 0, at_cell h 1, at_cell h 2, at_cell h 3, at_cell h 4, at_free h 4⟩
theorem conv_string (s : ByteArray) (hs : s.size ≤ 100000) (w : World) :
  ∃ c w', (convert 9 40 (.string s)).run Tryz.prog w = .ok (.slice (some ⟨w.heap.size, 0, none⟩) s.size c) w' ∧ BytesAt w' (.slice (some ⟨w.heap.size, 0, none⟩) s.size c) s.data.toList ∧ w.grownBy w' none := by
 refine ⟨_, _, run_bytes_of_string w 9 40 5 s Tryz.underlying9 Tryz.underlying40 Tryz.underlying5, ?_, gb_alloc (gb_drew (.refl w none)) _⟩
 have hl : s.data.toList.length = s.size := by simp
 refine .inr ⟨_, _, by rw [hl], by rw [hl]; exact grownCap_ge _ _ _ _, grownCap_le_maxLen _ _ _ _ (by unfold maxLen; omega), fun i hi => ?_⟩
 have e : (⟨w.heap.size, 0, none⟩ : Addr).add i = ⟨w.heap.size, i, none⟩ := by unfold Addr.add; split <;> simp_all
 rw [e, at_cell (b := w.heap.size) (at_new w.drew _) i, bytesRow_at s _ i (by simpa using hi)]
 simp

theorem Box.row {w : World} {k0 k1 : BitVec 64} {t t' : TypeId} {w1 w2 : World} (h : Box w k0 k1 t t' w1) (hg : w1.grownBy w2 (some (w.heap.size + 1 + 1))) : Box w k0 k1 t t' w2 :=
 ⟨at_grown h.box hg (by simp; omega), by obtain ⟨x, y, h⟩ := h.ans; exact ⟨x, y, at_grown h hg (by simp)⟩, gb_trans h.g hg (.inr (.inr ⟨_, rfl, by omega⟩))⟩

theorem bytes_of_cells {w : World} {b : Nat} {t : TypeId} {f : Nat × Nat} (l : List UInt8) (h : w.heap[b]? = some (.cells (l.map fun c => Value.int .u8 (c.toNat : Int)).toArray t f)) (hl : l.length ≤ maxLen) : BytesAt w (.slice (some ⟨b, 0, none⟩) l.length l.length) l := by
 refine .inr ⟨_, _, rfl, Nat.le_refl _, hl, fun i hi => ?_⟩
 have e : (⟨b, 0, none⟩ : Addr).add i = ⟨b, i, none⟩ := by unfold Addr.add; split <;> simp_all
 rw [e, at_cell h i]
 simp [List.getElem?_map, List.getElem?_eq_getElem hi]

structure Nx (w : World) (b : Nat) (k0 k1 : BitVec 64) (s : ByteArray) (n : BitVec 64) (m : Int) (st : St) (wc : World) : Prop where
 lt : b < w.heap.size
 hh : wc.heap[w.heap.size + 1]? = some st.obj
 hb : wc.heap[b]? = some (derObj k0 k1 s n m)
 g : w.grownBy wc (some b)
theorem Nx.grown {w : World} {b : Nat} {k0 k1 : BitVec 64} {s : ByteArray} {n : BitVec 64} {m : Int} {st : St} {wc wd : World} (h : Nx w b k0 k1 s n m st wc) (hg : wc.grownBy wd none) : Nx w b k0 k1 s n m st wd :=
 ⟨h.lt, at_grown h.hh hg (by simp), at_grown h.hb hg (by simp), gb_trans h.g hg (.inl rfl)⟩
theorem Nx.write {w : World} {b : Nat} {k0 k1 : BitVec 64} {s : ByteArray} {n : BitVec 64} {m : Int} {st st' : St} {wc wd : World} (h : Nx w b k0 k1 s n m st wc) (hh : wd.heap[w.heap.size + 1]? = some st'.obj) (hg : wc.grownBy wd (some (w.heap.size + 1))) : Nx w b k0 k1 s n m st' wd :=
 ⟨h.lt, hh, at_grown h.hb hg (by have := h.lt; simp; omega), gb_trans h.g hg (.inr (.inr ⟨_, rfl, by omega⟩))⟩
theorem Nx.told {w : World} {b : Nat} {k0 k1 : BitVec 64} {s : ByteArray} {n : BitVec 64} {m : Int} {st : St} {wc : World} (h : Nx w b k0 k1 s n m st wc) (m1 : Int) : Nx w b k0 k1 s n m1 st (wc.setCell ⟨b, 4, none⟩ (.int .u32 m1)) :=
 ⟨h.lt, at_set_other h.hh (by have := h.lt; simp; omega) _, at_set h.hb 4 _, gb_row h.g rfl _⟩
theorem Nx.size {w : World} {b : Nat} {k0 k1 : BitVec 64} {s : ByteArray} {n : BitVec 64} {m : Int} {st : St} {wc : World} (h : Nx w b k0 k1 s n m st wc) : w.heap.size + 1 < wc.heap.size := at_lt h.hh

set_option maxHeartbeats 3200000 in
theorem next_at (b : Nat) (k0 k1 : BitVec 64) (s : ByteArray) (n : BitVec 64) (m m1 : Int) (mb : UInt8) (he : m + 1 = m1) (h0 : 0 ≤ m) (h1 : m < 100) (hw : IntKind.u8.wrap m1 = (mb.toNat : Int)) (hs : s.size ≤ 100000) (w : World) (hb : w.heap[b]? = some (derObj k0 k1 s n m)) :
  Calls Tryz.prog 113 #[.pointer (some ⟨b, 0, none⟩)] w fun e w' => e = .returned (.int .u64 (q (sumOf k0 k1 (s.data.toList ++ [mb] ++ put8 n)))) ∧ w'.heap[b]? = some (derObj k0 k1 s n m1) ∧ w.grownBy w' (some b) := by
 obtain ⟨l, hl⟩ : ∃ l, s.data.toList = l := ⟨_, rfl⟩
 rw [hl]
 have hbl := at_lt hb
 have HLL := hid hl; clear hl
 have HB := hid hb; have HE := hid he; clear hb he
 obtain ⟨c0, c1, c2, c3, c4, f4⟩ := der_cells HB.out
 go_enter Tryz.func113, Tryz.ntmps113
 go_wp2_with fail
 clear c0 c1 c2 c3 c4 f4
 refine (new_any k0 k1 _).mono ?_
 rintro e w1 ⟨rfl, h1, hg1⟩
 have N1 := hid (show Nx w b k0 k1 s n m _ w1 from ⟨hbl, h1, at_grown HB.out hg1 (by simp), gb_some hg1 b⟩); clear h1 hg1
 obtain ⟨c0, c1, c2, c3, c4, f4⟩ := der_cells N1.out.hb
 obtain ⟨c, w2, hcv, hv2, hg2⟩ := conv_string s hs w1
 rw [HLL.out] at hv2
 have HV := hid hv2; have N2 := hid (N1.out.grown hg2); clear hv2 hg2
 go_wp2_with fail
 clear hcv c0 c1 c2 c3 c4 f4
 refine (write_any _ _ l _ _ N2.out.hh HV.out (.inr fun _ _ _ h e => by have := N1.out.size; cases h; simp at e; omega)).mono ?_
 rintro e w3 ⟨rfl, h3, hg3⟩
 have N3 := hid (N2.out.write h3 hg3); clear h3 hg3
 obtain ⟨c0, c1, c2, c3, c4, f4⟩ := der_cells N3.out.hb
 go_wp2_with fail
 refine (add_u32 _ m m1 HE.out _ c4 f4 h0 (by assumption)).mono ?_
 rintro e w4 ⟨rfl, rfl⟩
 clear c0 c1 c2 c3 c4 f4
 have n4 := N3.out.told m1
 generalize w3.setCell ⟨b, 4, none⟩ (.int .u32 m1) = w4 at n4 ⊢
 have N4 := hid n4; clear n4
 go_wp2_with fail
 have hb5 : BytesAt (w4.alloc (.cells #[.int .u8 (mb.toNat : Int)] 5)) (.slice (some ⟨w4.heap.size, 0, none⟩) 1 1) [mb] := bytes_of_cells [mb] (at_new w4 _) (by unfold maxLen; simp)
 have hn5 : ([mb] : List UInt8) = [] ∨ ∀ a n c, Value.slice (some ⟨w4.heap.size, 0, none⟩) 1 1 = .slice (some a) n c → a.block ≠ w.heap.size + 1 := .inr fun _ _ _ h e => by have := N4.out.size; cases h; simp at e; omega
 have A5 := hid (N4.out.grown (gb_alloc (.refl w4 none) (.cells #[.int .u8 (mb.toNat : Int)] 5)))
 with_reducible refine (write_any _ _ [mb] _ _ A5.out.hh hb5 hn5).mono ?_
 clear hb5 hn5
 rintro e w5 ⟨rfl, h5, hg5⟩
 have N5 := hid (A5.out.write h5 hg5); clear h5 hg5
 obtain ⟨c0, c1, c2, c3, c4, f4⟩ := der_cells N5.out.hb
 go_wp2_with fail
 clear c0 c1 c2 c3 c4 f4
 refine (put_any n _).mono ?_
 rintro e w6 ⟨rfl, h6, hg6⟩
 have N6 := hid (N5.out.grown hg6); have O6 := hid (own_put n h6 (Nat.le_refl _)).bytes; clear h6 hg6
 go_wp2_with fail
 refine (write_any _ _ (put8 n) _ _ N6.out.hh O6.out (.inr fun _ _ _ h e => by have := N5.out.size; cases h; simp at e; omega)).mono ?_
 rintro e w7 ⟨rfl, h7, hg7⟩
 have N7 := hid (N6.out.write h7 hg7); clear h7 hg7
 go_wp2_with fail
 refine (hsum_any _ _ _ N7.out.hh).mono ?_
 rintro e w8 ⟨rfl, hg8⟩
 have N8 := hid (N7.out.grown hg8); clear hg8
 go_wp2_with fail
 go_ret
 have hsum : (List.foldl St.add ((List.foldl St.add (St.new k0 k1) l).add mb) (put8 n)).sum = sumOf k0 k1 (l ++ [mb] ++ put8 n) := by simp only [sumOf, List.foldl_append, List.foldl_cons, List.foldl_nil]
 rw [← hsum]
 exact ⟨rfl, N8.out.hb, N8.out.g⟩

def derived (k0 k1 : BitVec 64) (s : ByteArray) (n : BitVec 64) (mb : UInt8) : BitVec 64 := sumOf k0 k1 (s.data.toList ++ [mb] ++ put8 n)

set_option maxHeartbeats 3200000 in
theorem derive_any (k0 k1 : BitVec 64) (s : ByteArray) (hs : s.size ≤ 100000) (n : BitVec 64) (w : World) :
  Calls Tryz.prog 80 #[pair k0 k1, .string s, .int .u64 (q n)] w fun e w' => e = .returned (pair (derived k0 k1 s n 1) (derived k0 k1 s n 2)) ∧ w.grownBy w' none := by
 obtain ⟨a, ha⟩ : ∃ a, derived k0 k1 s n 1 = a := ⟨_, rfl⟩
 obtain ⟨b, hb⟩ : ∃ b, derived k0 k1 s n 2 = b := ⟨_, rfl⟩
 rw [ha, hb]
 have HA := hid ha; have HB := hid hb; clear ha hb
 go_enter Tryz.func80, Tryz.ntmps80
 go_wp2_with fail
 have d0 : (((w.alloc (.cells #[.int .u64 (q k0), .int .u64 (q k1)] 49)).alloc (.cells #[.int .u64 0, .int .u64 0] 49)).alloc (derObj k0 k1 s n 0)).heap[w.heap.size + 1 + 1]? = some (derObj k0 k1 s n 0) := by
  have := at_new ((w.alloc (.cells #[.int .u64 (q k0), .int .u64 (q k1)] 49)).alloc (.cells #[.int .u64 0, .int .u64 0] 49)) (derObj k0 k1 s n 0)
  rwa [size_alloc, size_alloc] at this
 have b0 : Box w k0 k1 49 49 (((w.alloc (.cells #[.int .u64 (q k0), .int .u64 (q k1)] 49)).alloc (.cells #[.int .u64 0, .int .u64 0] 49)).alloc (derObj k0 k1 s n 0)) :=
  ⟨at_alloc (at_alloc (at_new w _) _) _, ⟨_, _, at_alloc (at_new2 w _ _) _⟩, gb_alloc (gb_alloc (gb_alloc (.refl w none) _) _) _⟩
 have D0 := hid d0; have B0 := hid b0; clear d0 b0
 refine (next_at _ k0 k1 s n 0 1 1 rfl (by decide) (by decide) (by decide) hs _ D0.out).mono ?_
 rintro e w1 ⟨rfl, h1, hg1⟩
 rw [show sumOf k0 k1 (s.data.toList ++ [1] ++ put8 n) = a from HA.out]
 have D1 := hid h1
 have B1 := hid (B0.out.row hg1); clear h1 hg1
 go_wp2_with fail
 refine (next_at _ k0 k1 s n 1 2 2 rfl (by decide) (by decide) (by decide) hs _ D1.out).mono ?_
 rintro e w2 ⟨rfl, h1, hg1⟩
 rw [show sumOf k0 k1 (s.data.toList ++ [2] ++ put8 n) = b from HB.out]
 have B2 := hid (B1.out.row hg1); clear h1 hg1
 obtain ⟨x, y, hxy⟩ := B2.out.ans
 have c0 := at_cell hxy 0
 have c1 := at_cell hxy 1
 have f0 := at_free hxy 0
 have f1 := at_free hxy 1
 clear hxy
 go_wp2_with fail
 clear c0 c1 f0 f1
 have hst := B2.out.store (.int .u64 (q a)) (.int .u64 (q b))
 generalize (w2.setCell ⟨w.heap.size + 1, 0, none⟩ (.int .u64 (q a))).setCell ⟨w.heap.size + 1, 1, none⟩ (.int .u64 (q b)) = wx at hst ⊢
 obtain ⟨r0, r1⟩ := pair_cells hst.1
 exact bodyPost_ret (v := pair a b) (by simp [results, Tryz.results80, go_sem, r0, r1]) rfl ⟨rfl, hst.2⟩
end Go.Proofs.YtgpdcapnnejdeaaGreat
end
section
set_option linter.unusedSimpArgs false
namespace Go.Proofs.YtgpdcapnnejdeaaGreat
set_option maxRecDepth 100000
open Go.RowKit

structure Ans (w : World) (t : TypeId) (w' : World) : Prop where
 ans : ∃ x y, w'.heap[w.heap.size]? = some (.cells #[x, y] t)
 g : w.grownBy w' none
theorem Ans.new (w : World) (t : TypeId) (x y : Value) : Ans w t (w.alloc (.cells #[x, y] t)) := ⟨⟨x, y, at_new w _⟩, gb_alloc (.refl w none) _⟩
theorem Ans.grown {w : World} {t : TypeId} {w1 w2 : World} (h : Ans w t w1) (hg : w1.grownBy w2 none) : Ans w t w2 :=
 ⟨by obtain ⟨x, y, h⟩ := h.ans; exact ⟨x, y, at_grown h hg (by simp)⟩, gb_trans h.g hg (.inl rfl)⟩
theorem Ans.drew {w : World} {t : TypeId} {w1 : World} (h : Ans w t w1) : Ans w t w1.drew := ⟨h.ans, gb_drew h.g⟩
theorem Ans.cells {w : World} {t : TypeId} {w1 : World} (h : Ans w t w1) : ∃ x y, w1.cell? ⟨w.heap.size, 0, none⟩ = some x ∧ w1.cell? ⟨w.heap.size, 1, none⟩ = some y ∧ w1.frozen? ⟨w.heap.size, 0, none⟩ = false ∧ w1.frozen? ⟨w.heap.size, 1, none⟩ = false := by
 obtain ⟨x, y, h⟩ := h.ans
 exact ⟨x, y, at_cell h 0, at_cell h 1, at_free h 0, at_free h 1⟩
theorem Ans.store {w : World} {t : TypeId} {w1 : World} (h : Ans w t w1) (a b : Value) :
  ((w1.setCell ⟨w.heap.size, 0, none⟩ a).setCell ⟨w.heap.size, 1, none⟩ b).heap[w.heap.size]? = some (.cells #[a, b] t) ∧ w.grownBy ((w1.setCell ⟨w.heap.size, 0, none⟩ a).setCell ⟨w.heap.size, 1, none⟩ b) none := by
 obtain ⟨x, y, hxy⟩ := h.ans
 exact ⟨at_set (at_set hxy 0 a) 1 b, gb_new (gb_new h.g (by simp) a) (by simp) b⟩

structure Two64 where
 a : BitVec 64
 b : BitVec 64
def Two64.val (k : Two64) : Value := pair k.a k.b
def keyOf (k : Two64) (s : ByteArray) (n : BitVec 64) : Two64 := ⟨derived k.a k.b s n 1, derived k.a k.b s n 2⟩
def rootOf (seed : BitVec 64) : Two64 := keyOf ⟨seed, seed + 1⟩ ⟨#[114, 111, 111, 116]⟩ 0
def ofOf (seed : BitVec 64) (who gen : Int) : Two64 := keyOf (keyOf (rootOf seed) ⟨#[119, 104, 111]⟩ (BitVec.ofInt 64 who)) ⟨#[103, 101, 110]⟩ (BitVec.ofInt 64 gen)

theorem key_derive (k : Two64) (s : ByteArray) (hs : s.size ≤ 100000) (n : BitVec 64) (w : World) :
  Calls Tryz.prog 80 #[.agg #[.int .u64 (q k.a), .int .u64 (q k.b)], .string s, .int .u64 (q n)] w fun e w' => e = .returned (.agg #[.int .u64 (q (keyOf k s n).a), .int .u64 (q (keyOf k s n).b)]) ∧ w.grownBy w' none := derive_any k.a k.b s hs n w

theorem q_succ (x : BitVec 64) : IntKind.u64.wrap (q x + 1) = q (x + 1) := q_add x 1#64

set_option maxHeartbeats 1600000 in
theorem root_any (seed : BitVec 64) (w : World) :
  Calls Tryz.prog 81 #[.int .u64 (q seed)] w fun e w' => e = .returned (.agg #[.int .u64 (q (rootOf seed).a), .int .u64 (q (rootOf seed).b)]) ∧ w.grownBy w' none := by
 have hq := q_succ seed
 have hd := key_derive ⟨seed, seed + 1⟩ ⟨#[114, 111, 111, 116]⟩ (by decide) 0 (w.alloc (.cells #[.int .u64 0, .int .u64 0] 49))
 change Calls _ _ _ _ (fun e w' => e = .returned (.agg #[.int .u64 (q (rootOf seed).a), .int .u64 (q (rootOf seed).b)]) ∧ _) at hd
 generalize rootOf seed = r at hd ⊢
 have A0 := hid (Ans.new w 49 (.int .u64 0) (.int .u64 0))
 have HD := hid hd; clear hd
 go_enter Tryz.func81, Tryz.ntmps81
 go_wp2_with fail
 refine HD.out.mono ?_
 rintro e w1 ⟨rfl, hg⟩
 have A1 := hid (A0.out.grown hg); clear hg HD
 obtain ⟨x, y, c0, c1, f0, f1⟩ := A1.out.cells
 go_wp2_with fail
 clear c0 c1 f0 f1
 have hst := A1.out.store (.int .u64 (q r.a)) (.int .u64 (q r.b))
 generalize (w1.setCell ⟨w.heap.size, 0, none⟩ (.int .u64 (q r.a))).setCell ⟨w.heap.size, 1, none⟩ (.int .u64 (q r.b)) = wx at hst ⊢
 obtain ⟨r0, r1⟩ := pair_cells hst.1
 exact bodyPost_ret (v := .agg #[.int .u64 (q r.a), .int .u64 (q r.b)]) (by simp [results, Tryz.results81, go_sem, r0, r1]) rfl ⟨rfl, hst.2⟩

theorem wrap_i64 (x : Int) : IntKind.u64.wrap x = q (BitVec.ofInt 64 x) := q_lit x

set_option maxHeartbeats 1600000 in
theorem of_any (seed : BitVec 64) (who gen : Int) (w : World) :
  Calls Tryz.prog 34 #[.int .u64 (q seed), .int .i64 who, .int .i64 gen] w fun e w' => e = .returned (.agg #[.int .u64 (q (ofOf seed who gen).a), .int .u64 (q (ofOf seed who gen).b)]) ∧ w.grownBy w' none := by
 have hq1 := wrap_i64 who
 have hq2 := wrap_i64 gen
 have hd := fun w => root_any seed w
 unfold ofOf
 generalize rootOf seed = r at hd ⊢
 have hd1 := fun w => key_derive r ⟨#[119, 104, 111]⟩ (by decide) (BitVec.ofInt 64 who) w
 generalize keyOf r ⟨#[119, 104, 111]⟩ (BitVec.ofInt 64 who) = k1 at hd1 ⊢
 have hd2 := fun w => key_derive k1 ⟨#[103, 101, 110]⟩ (by decide) (BitVec.ofInt 64 gen) w
 generalize keyOf k1 ⟨#[103, 101, 110]⟩ (BitVec.ofInt 64 gen) = k2 at hd2 ⊢
 have HD := hid hd; have HD1 := hid hd1; have HD2 := hid hd2; clear hd hd1 hd2
 have A0 := hid (Ans.new w 49 (.int .u64 0) (.int .u64 0))
 go_enter Tryz.func34, Tryz.ntmps34
 go_wp2_with fail
 refine (HD.out _).mono ?_
 rintro e w1 ⟨rfl, hg⟩
 have A1 := hid (A0.out.grown hg); clear hg
 go_wp2_with fail
 refine (HD1.out _).mono ?_
 rintro e w2 ⟨rfl, hg⟩
 have A2 := hid (A1.out.grown hg); clear hg
 go_wp2_with fail
 refine (HD2.out _).mono ?_
 rintro e w3 ⟨rfl, hg⟩
 have A3 := hid (A2.out.grown hg); clear hg
 obtain ⟨x, y, c0, c1, f0, f1⟩ := A3.out.cells
 go_wp2_with fail
 clear c0 c1 f0 f1
 have hst := A3.out.store (.int .u64 (q k2.a)) (.int .u64 (q k2.b))
 generalize (w3.setCell ⟨w.heap.size, 0, none⟩ (.int .u64 (q k2.a))).setCell ⟨w.heap.size, 1, none⟩ (.int .u64 (q k2.b)) = wx at hst ⊢
 obtain ⟨r0, r1⟩ := pair_cells hst.1
 exact bodyPost_ret (v := .agg #[.int .u64 (q k2.a), .int .u64 (q k2.b)]) (by simp [results, Tryz.results34, go_sem, r0, r1]) rfl ⟨rfl, hst.2⟩
end Go.Proofs.YtgpdcapnnejdeaaGreat
end
section
set_option linter.unusedSimpArgs false
set_option linter.unusedVariables false
namespace Go.Proofs.YtgpdcapnnejdeaaGreat
set_option maxRecDepth 100000
open Go.RowKit

theorem spares_yes (h k : Nat) (g s gr now : Int) (w : World) (c0 : w.cell? ⟨h, k, none⟩ = some (.int .i64 g)) (c1 : w.cell? ⟨h, k + 1, none⟩ = some (.int .i64 s))
  (g0 : 1 ≤ g) (g1 : g ≤ 60000) (s0 : 0 ≤ s) (s1 : s ≤ 1099511627776) (r0 : 0 ≤ gr) (r1 : gr ≤ 100) (hn : now < s + gr) :
  Calls Tryz.prog 126 #[.pointer (some ⟨h, k, none⟩), .int .i64 (g - 1), .int .i64 now, .int .i64 gr] w fun e w' => e = .returned (.bool true) ∧ w = w' := by
 have d0 : (0 : Int) ≤ g - 1 := by omega
 go_enter Tryz.func126, Tryz.ntmps126
 go_wp2_with fail
 refine (has_at _ rfl g _ c0).mono ?_
 rintro e w' ⟨rfl, rfl⟩
 go_wp2_with fail
 go_ret
 exact ⟨rfl, rfl⟩
theorem spares_no (h k : Nat) (g s gr gen now : Int) (w : World) (c0 : w.cell? ⟨h, k, none⟩ = some (.int .i64 g)) (c1 : w.cell? ⟨h, k + 1, none⟩ = some (.int .i64 s))
  (g0 : 0 ≤ g) (g1 : g ≤ 60000) (s0 : 0 ≤ s) (s1 : s ≤ 1099511627776) (r0 : 0 ≤ gr) (r1 : gr ≤ 100) (hn : gen < 0 ∨ gen ≠ g - 1 ∨ s + gr ≤ now) :
  Calls Tryz.prog 126 #[.pointer (some ⟨h, k, none⟩), .int .i64 gen, .int .i64 now, .int .i64 gr] w fun e w' => e = .returned (.bool false) ∧ w = w' := by
 by_cases h0 : gen < 0
 ·have d0 : decide (0 ≤ gen) = false := by simp; omega
  go_enter Tryz.func126, Tryz.ntmps126
  go_wp2_with fail
  go_ret
  exact ⟨rfl, rfl⟩
 ·have d0 : decide (0 ≤ gen) = true := by simp; omega
  have d1 : (0 : Int) ≤ gen := by omega
  by_cases h1 : gen = g - 1
  ·subst h1
   have d2 : decide (now < s + gr) = false := by simp; omega
   go_enter Tryz.func126, Tryz.ntmps126
   go_wp2_with fail
   refine (has_at _ rfl g _ c0).mono ?_
   rintro e w' ⟨rfl, rfl⟩
   go_wp2_with fail
   go_ret
   exact ⟨rfl, rfl⟩
  ·have d2 : (gen == g - 1) = false := by simpa using h1
   go_enter Tryz.func126, Tryz.ntmps126
   go_wp2_with fail
   refine (has_at _ rfl g _ c0).mono ?_
   rintro e w' ⟨rfl, rfl⟩
   go_wp2_with fail
   go_ret
   exact ⟨rfl, rfl⟩

def Rg.keyIs (r : Rg) (i : Nat) (gen now : Int) : Prop := 0 ≤ gen ∧ (gen = r.gen i ∨ gen = r.gen i - 1 ∧ now < r.since i + (r.grace : Int))
instance (r : Rg) (i : Nat) (gen now : Int) : Decidable (r.keyIs i gen now) := by unfold Rg.keyIs; infer_instance

structure AnsR (w : World) (b h : Nat) (r : Rg) (w' : World) : Prop where
 a : Ans w 49 w'
 r : RgAt w' b h r
theorem AnsR.new {w : World} {b h : Nat} {r : Rg} (H : RgAt w b h r) : AnsR w b h r (w.alloc (.cells #[.int .u64 0, .int .u64 0] 49)) := ⟨.new w _ _ _, H.grown (World.grownBy_alloc w _ none)⟩
theorem AnsR.grown {w w1 w2 : World} {b h : Nat} {r : Rg} (A : AnsR w b h r w1) (hg : w1.grownBy w2 none) : AnsR w b h r w2 := ⟨A.a.grown hg, A.r.grown hg⟩


set_option maxHeartbeats 1600000 in
theorem rkey_now {b h : Nat} {r : Rg} (i : Nat) (now : Int) (w : World) (H : RgAt w b h r) (hi : i < r.n) :
  Calls Tryz.prog 96 #[.pointer (some ⟨b, 0, none⟩), .int .i64 (i : Int), .int .i64 (r.gen i), .int .i64 now] w fun e w' => e = .returned (.tuple #[.agg #[.int .u64 (q (ofOf r.seed i (r.gen i)).a), .int .u64 (q (ofOf r.seed i (r.gen i)).b)], .int .i64 0]) ∧ w.grownBy w' none := by
 have hf := fun w (A : AnsR w b h r w) => A
 have A0 := hid (AnsR.new H)
 clear hf H
 have HO := hid (fun w => of_any r.seed (i : Int) (r.gen i) w)
 generalize ofOf r.seed i (r.gen i) = k at HO ⊢
 have hC := fun w' (A : AnsR w b h r w') => find_in i w' A.r hi
 have hH := fun w' (A : AnsR w b h r w') => A.r.cells hi
 have hT := fun w' (A : AnsR w b h r w') => A.r.tops
 generalize r.gen i = g at *
 generalize r.seed = sd at *
 have HC := hid hC; have HH := hid hH; have HT := hid hT; clear hC hH hT
 go_enter Tryz.func96, Tryz.ntmps96
 go_wp2_with fail
 refine (HC.out _ A0.out).mono ?_
 rintro e w1 ⟨rfl, hw⟩
 have A1 := hid (show AnsR w b h r w1 from hw ▸ A0.out); clear hw A0
 obtain ⟨c0, c1, f0, f1⟩ := HH.out _ A1.out
 go_wp2_with fail
 refine (has_at _ rfl g _ c0).mono ?_
 rintro e w2 ⟨rfl, hw⟩
 have A2 := hid (show AnsR w b h r w2 from hw ▸ A1.out); clear hw A1 c0 c1 f0 f1
 obtain ⟨t0, t1, t2⟩ := HT.out _ A2.out
 go_wp2_with fail
 refine (HO.out _).mono ?_
 rintro e w3 ⟨rfl, hg⟩
 have A3 := hid (A2.out.grown hg); clear hg t0 t1 t2 A2
 obtain ⟨x, y, c0, c1, f0, f1⟩ := A3.out.a.cells
 go_wp2_with fail
 clear c0 c1 f0 f1
 have hst := A3.out.a.store (.int .u64 (q k.a)) (.int .u64 (q k.b))
 generalize (w3.setCell ⟨w.heap.size, 0, none⟩ (.int .u64 (q k.a))).setCell ⟨w.heap.size, 1, none⟩ (.int .u64 (q k.b)) = wx at hst ⊢
 obtain ⟨r0, r1⟩ := pair_cells hst.1
 exact bodyPost_ret (v := .tuple #[pair k.a k.b, .int .i64 0]) (by simp [results, Tryz.results96, go_sem, r0, r1]) rfl ⟨rfl, hst.2⟩
end Go.Proofs.YtgpdcapnnejdeaaGreat
end
section
set_option linter.unusedSimpArgs false
namespace Go.Proofs.YtgpdcapnnejdeaaGreat
set_option maxRecDepth 100000
open Go.RowKit

def labelled (s : ByteArray) (mb : UInt8) (n : BitVec 64) : ByteArray := s ++ ⟨[mb].toArray⟩ ++ ⟨(put8 n).toArray⟩
theorem labelled_size (s : ByteArray) (mb : UInt8) (n : BitVec 64) : (labelled s mb n).size = s.size + 9 := by
 simp [labelled, ByteArray.size_append]; rfl
theorem refsum_der (k0 k1 : BitVec 64) (s : ByteArray) (hs : s.size ≤ 1000) (mb : UInt8) (n : BitVec 64) (w : World) :
  Calls Tryz.prog 91 #[pair k0 k1, .string (s ++ ⟨[mb].toArray⟩ ++ ⟨(put8 n).toArray⟩)] w fun e w' => e = .returned (.int .u64 (q (derived k0 k1 s n mb))) ∧ w.grownBy w' none := by
 have h := refsum_str k0 k1 (labelled s mb n) (by rw [labelled_size]; omega) w
 have e : (labelled s mb n).data.toList = s.data.toList ++ [mb] ++ put8 n := by simp [labelled]
 rw [e] at h
 exact h
end Go.Proofs.YtgpdcapnnejdeaaGreat
end
