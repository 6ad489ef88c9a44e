/-
  Contract for the document's own GetCell: the cell that stands in a string, whether it is whole, or an error. No condition.
-/
import Derived.Test.YtjebmlmjbnaghaaLgI
import Derived.Test.YtjebmlmjbnaghaaI64
import Derived.BigQuiet
import Derived.BigRegion
import Derived.Deep.QuietTactic
set_option linter.unusedSimpArgs false
set_option linter.unusedVariables false
namespace Go.Proofs.Ytjebmlmjbnaghaa
set_option maxRecDepth 100000
open Go.RowKit

@[reducible] def clD (c : Cl) : Array Value := #[.int .u32 (c.pass : Int), .int .i64 (c.place : Int), .int .i64 (c.kind : Int), .string ⟨c.data.toArray⟩]
@[reducible] def zeroD : Array Value := #[.int .u32 0, .int .i64 0, .int .i64 0, .string ⟨#[]⟩]
theorem zero_clD : clD zeroC = zeroD := rfl
theorem an_zero {w W : World} {old : Array Value} {f : Nat × Nat} (h : W.heap[w.heap.size]? = some (.cells old 28 f)) {cs : Array Value} {a b d e : Value} (hc : cs = #[a, b, d, e]) : (W.setRow w.heap.size cs).cell? ⟨w.heap.size, 0, none⟩ = some a ∧ (W.setRow w.heap.size cs).cell? ⟨w.heap.size, 1, none⟩ = some b ∧ (W.setRow w.heap.size cs).cell? ⟨w.heap.size, 2, none⟩ = some d ∧ (W.setRow w.heap.size cs).cell? ⟨w.heap.size, 3, none⟩ = some e := by
  subst hc
  exact ⟨at_cell (at_setRow h) 0, at_cell (at_setRow h) 1, at_cell (at_setRow h) 2, at_cell (at_setRow h) 3⟩
set_option maxHeartbeats 1600000 in
theorem rcget_len (S : ByteArray) (hn : S.size ≠ 64) (w : World) :
    Calls Try.prog 13 #[.string S] w fun e w' => e = .returned (.tuple #[.agg zeroD, .bool false, .int .i64 1]) ∧ w.grownBy w' none := by
  have h1 : ¬ (S.size : Int) = 64 := by omega
  clear hn
  go_enter Try.func13, Try.ntmps13
  go_wp2_with fail
  exact bodyPost_ret (v := .tuple #[.agg zeroD, .bool false, .int .i64 1]) (by simp [results, Try.results13, go_sem]) rfl ⟨rfl, gb_alloc (.refl w none) _⟩
theorem rget_pass (l : List UInt8) (hl : l.length = 64) (w : World) :
    Calls Try.prog 28 #[.string ((⟨l.toArray⟩ : ByteArray).extract 0 4 ++ ⟨#[0, 0, 0, 0]⟩), .int .i64 0] w fun e w' => e = .returned (.tuple #[.int .u64 (passOf l : Int), .int .i64 0]) ∧ w = w' := by
  have e : (⟨l.toArray⟩ : ByteArray).extract 0 4 ++ ⟨#[0, 0, 0, 0]⟩ = ⟨(l.take 4 ++ [0, 0, 0, 0]).toArray⟩ := by
    rw [ba_extract]; exact ba_append _ _
  have hs : (⟨(l.take 4 ++ [0, 0, 0, 0]).toArray⟩ : ByteArray).size = 8 := by
    show (l.take 4 ++ [0, 0, 0, 0]).length = 8
    rw [List.length_append, List.length_take, hl]; rfl
  have h := refget_in ⟨(l.take 4 ++ [0, 0, 0, 0]).toArray⟩ 0 w (by rw [hs]; unfold maxLen; decide) (by rw [hs]; decide)
  have hq : q (wordAt (l.take 4 ++ [0, 0, 0, 0]) 0 8) = (passOf l : Int) := by unfold q; rw [pass_word l (by omega)]
  rw [e, ← hq]
  exact h
theorem passOf_lt (l : List UInt8) : passOf l < 4294967296 := by
  have := (read_parts l).choose_spec.2.2.2.2.2.2.1
  exact this
set_option maxHeartbeats 3200000 in
theorem rcget_p0 (S : ByteArray) (hz : S.size = 64)  (hG : ∀ w, Calls Try.prog 28 #[.string (S.extract 0 4 ++ ⟨#[0, 0, 0, 0]⟩), .int .i64 0] w fun e w' => e = .returned (.tuple #[.int .u64 0, .int .i64 0]) ∧ w = w') (w : World) :
    Calls Try.prog 13 #[.string S] w fun e w' => e = .returned (.tuple #[.agg zeroD, .bool false, .int .i64 0]) ∧ w.grownBy w' none := by
  have G := hid hG
  have A0 := hid (at_new w (.cells zeroD 28))
  clear hG
  skip
  go_enter Try.func13, Try.ntmps13
  go_wp2_with fail
  refine (G.out _).mono ?_
  rintro e w1 ⟨rfl, rfl⟩
  go_wp2_with fail
  go_quiet (fail)
  refine exit_gen (fun wx => w.grownBy wx none ∧ wx.heap[w.heap.size]? = some (.cells zeroD 28)) ⟨gb_trans (gb_alloc (.refl w none) (.cells zeroD 28)) ⟨rfl, rfl, rfl, Nat.le_refl _, fun _ _ _ => rfl⟩ (.inl rfl), A0.out⟩ (fun wx hx => ?_)
  have G2 := hid hx.1; have A2 := hid hx.2
  clear hx A0 G
  obtain ⟨z0, z1, z2, z3⟩ := an_zero (w := w) A2.out (cs := zeroD) rfl
  go_wp2_with (first | refine wpList_buildTo (cs := zeroD) rfl rfl rfl (by kernel_rfl) ?_ | refine wpList_store_row (old := zeroD) (cs := zeroD) A2.out (by kernel_rfl) (by kernel_rfl) (by kernel_rfl) rfl rfl rfl rfl rfl ?_)
  exact bodyPost_ret (v := .tuple #[.agg zeroD, .bool false, .int .i64 0]) (by simp [results, Try.results13, go_sem, z0, z1, z2, z3]) rfl ⟨rfl, gb_setRow G2.out (Nat.le_refl _)⟩
set_option maxHeartbeats 3200000 in
theorem rcget_p1 (S : ByteArray) (hz : S.size = 64) (P : Nat) (hp : 250 < P) (hG : ∀ w, Calls Try.prog 28 #[.string (S.extract 0 4 ++ ⟨#[0, 0, 0, 0]⟩), .int .i64 0] w fun e w' => e = .returned (.tuple #[.int .u64 (P : Int), .int .i64 0]) ∧ w = w') (w : World) :
    Calls Try.prog 13 #[.string S] w fun e w' => e = .returned (.tuple #[.agg zeroD, .bool false, .int .i64 0]) ∧ w.grownBy w' none := by
  have G := hid hG
  have A0 := hid (at_new w (.cells zeroD 28))
  clear hG
  have e0 : ¬ (P : Int) = 0 := by omega
  have e1 : ((P : Int) == 0) = false := by simpa using e0
  have e2 : decide ((250 : Int) < (P : Int)) = true := by simp; omega
  clear hp
  go_enter Try.func13, Try.ntmps13
  go_wp2_with fail
  refine (G.out _).mono ?_
  rintro e w1 ⟨rfl, rfl⟩
  go_wp2_with fail
  go_quiet (fail)
  refine exit_gen (fun wx => w.grownBy wx none ∧ wx.heap[w.heap.size]? = some (.cells zeroD 28)) ⟨gb_trans (gb_alloc (.refl w none) (.cells zeroD 28)) ⟨rfl, rfl, rfl, Nat.le_refl _, fun _ _ _ => rfl⟩ (.inl rfl), A0.out⟩ (fun wx hx => ?_)
  have G2 := hid hx.1; have A2 := hid hx.2
  clear hx A0 G
  obtain ⟨z0, z1, z2, z3⟩ := an_zero (w := w) A2.out (cs := zeroD) rfl
  go_wp2_with (first | refine wpList_buildTo (cs := zeroD) rfl rfl rfl (by kernel_rfl) ?_ | refine wpList_store_row (old := zeroD) (cs := zeroD) A2.out (by kernel_rfl) (by kernel_rfl) (by kernel_rfl) rfl rfl rfl rfl rfl ?_)
  exact bodyPost_ret (v := .tuple #[.agg zeroD, .bool false, .int .i64 0]) (by simp [results, Try.results13, go_sem, z0, z1, z2, z3]) rfl ⟨rfl, gb_setRow G2.out (Nat.le_refl _)⟩
set_option maxHeartbeats 3200000 in
theorem rcget_m1 (S : ByteArray) (hz : S.size = 64) (P b63 : Nat) (hp0 : ¬ P = 0) (hp : ¬ 250 < P) (c63 : (S[63]'(by rw [hz]; decide)).toNat = b63) (hm : ¬ b63 = P) (hG : ∀ w, Calls Try.prog 28 #[.string (S.extract 0 4 ++ ⟨#[0, 0, 0, 0]⟩), .int .i64 0] w fun e w' => e = .returned (.tuple #[.int .u64 (P : Int), .int .i64 0]) ∧ w = w') (w : World) :
    Calls Try.prog 13 #[.string S] w fun e w' => e = .returned (.tuple #[.agg zeroD, .bool false, .int .i64 0]) ∧ w.grownBy w' none := by
  have G := hid hG
  have A0 := hid (at_new w (.cells zeroD 28))
  clear hG
  have e0 : ¬ (P : Int) = 0 := by omega
  have e1 : ((P : Int) == 0) = false := by simpa using e0
  have e2 : decide ((250 : Int) < (P : Int)) = false := by simp; omega
  have e3 : IntKind.u32.wrap (P : Int) = (P : Int) := by rw [IntKind.wrap_u32]; omega
  have M := hid (fun w => rmark_any P w)
  rw [markN_in (by omega)] at M
  have e4 : ¬ (b63 : Int) = (P : Int) := by omega
  have e5 : ((b63 : Int) == (P : Int)) = false := by simpa using e4
  have e6 : ((b63 : Int) != (P : Int)) = true := by simpa using e4
  clear hm hp hp0
  go_enter Try.func13, Try.ntmps13
  go_wp2_with fail
  refine (G.out _).mono ?_
  rintro e w1 ⟨rfl, rfl⟩
  go_wp2_with fail
  go_quiet ((go_at_call 18; exact Calls.quiet_of_same (still_of (M.out _))))
  refine exit_gen (fun wx => w.grownBy wx none ∧ wx.heap[w.heap.size]? = some (.cells zeroD 28)) ⟨gb_trans (gb_alloc (.refl w none) (.cells zeroD 28)) ⟨rfl, rfl, rfl, Nat.le_refl _, fun _ _ _ => rfl⟩ (.inl rfl), A0.out⟩ (fun wx hx => ?_)
  have G2 := hid hx.1; have A2 := hid hx.2
  clear hx A0 G
  obtain ⟨z0, z1, z2, z3⟩ := an_zero (w := w) A2.out (cs := zeroD) rfl
  go_wp2_with (first | refine wpList_buildTo (cs := zeroD) rfl rfl rfl (by kernel_rfl) ?_ | refine wpList_store_row (old := zeroD) (cs := zeroD) A2.out (by kernel_rfl) (by kernel_rfl) (by kernel_rfl) rfl rfl rfl rfl rfl ?_)
  exact bodyPost_ret (v := .tuple #[.agg zeroD, .bool false, .int .i64 0]) (by simp [results, Try.results13, go_sem, z0, z1, z2, z3]) rfl ⟨rfl, gb_setRow G2.out (Nat.le_refl _)⟩
set_option maxHeartbeats 3200000 in
theorem rcget_bad (S : ByteArray) (hz : S.size = 64) (P b4 b5 b6 b7 : Nat) (hp0 : ¬ P = 0) (hp : ¬ 250 < P) (c63 : (S[63]'(by rw [hz]; decide)).toNat = P) (c4 : (S[4]'(by rw [hz]; decide)).toNat = b4) (c5 : (S[5]'(by rw [hz]; decide)).toNat = b5) (c6 : (S[6]'(by rw [hz]; decide)).toNat = b6) (c7 : (S[7]'(by rw [hz]; decide)).toNat = b7) (h4 : b4 < 256) (h5 : b5 < 256) (h6 : b6 < 256) (h7 : b7 < 256) (D R : ByteArray) (hD : S.extract 8 (8 + min (b7 : Int) 48).toNat = D) (hP : ∀ w, Calls Try.prog 11 #[.agg #[.int .u32 (P : Int), .int .i64 ((b4 : Int) + 256 * (b5 : Int)), .int .i64 (b6 : Int), .string D]] w fun e w' => e = .returned (.tuple #[.string ⟨#[]⟩, .int .i64 1]) ∧ w.grownBy w' none)  (hG : ∀ w, Calls Try.prog 28 #[.string (S.extract 0 4 ++ ⟨#[0, 0, 0, 0]⟩), .int .i64 0] w fun e w' => e = .returned (.tuple #[.int .u64 (P : Int), .int .i64 0]) ∧ w = w') (w : World) :
    Calls Try.prog 13 #[.string S] w fun e w' => e = .returned (.tuple #[.agg zeroD, .bool true, .int .i64 12]) ∧ w.grownBy w' none := by
  have G := hid hG
  have A0 := hid (at_new w (.cells zeroD 28))
  clear hG
  have e0 : ¬ (P : Int) = 0 := by omega
  have e1 : ((P : Int) == 0) = false := by simpa using e0
  have e2 : decide ((250 : Int) < (P : Int)) = false := by simp; omega
  have e3 : IntKind.u32.wrap (P : Int) = (P : Int) := by rw [IntKind.wrap_u32]; omega
  have M := hid (fun w => rmark_any P w)
  rw [markN_in (by omega)] at M
  have f4 : (b4 : Int) < 256 := by omega
  have f5 : (b5 : Int) < 256 := by omega
  have f6 : (b6 : Int) < 256 := by omega
  have f7 : (b7 : Int) < 256 := by omega
  clear hp hp0 h4 h5 h6 h7
  have HD := hid hD; have PC := hid hP
  clear hD hP

  go_enter Try.func13, Try.ntmps13
  go_wp2_with fail
  refine (G.out _).mono ?_
  rintro e w1 ⟨rfl, rfl⟩
  go_wp2_with fail
  go_quiet ((go_at_call 18; exact Calls.quiet_of_same (still_of (M.out _))))
  refine exit_gen (fun wx => w.grownBy wx none ∧ wx.heap[w.heap.size]? = some (.cells zeroD 28)) ⟨gb_trans (gb_alloc (.refl w none) (.cells zeroD 28)) ⟨rfl, rfl, rfl, Nat.le_refl _, fun _ _ _ => rfl⟩ (.inl rfl), A0.out⟩ (fun wx hx => ?_)
  have G2 := hid hx.1; have A2 := hid hx.2
  clear hx A0 G
  go_wp2_with fail
  go_region
  rw [HD.out]
  refine exit_gen (fun w3 => w.grownBy w3 none ∧ w3.heap[w.heap.size]? = some (.cells zeroD 28) ∧ w3.heap[wx.heap.size]? = some (.cells #[.int .u32 (P : Int), .int .i64 ((b4 : Int) + 256 * (b5 : Int)), .int .i64 (b6 : Int), .string D] 28)) ⟨gb_drew (gb_alloc G2.out (.cells #[.int .u32 (P : Int), .int .i64 ((b4 : Int) + 256 * (b5 : Int)), .int .i64 (b6 : Int), .string D] 28)), at_alloc A2.out (.cells #[.int .u32 (P : Int), .int .i64 ((b4 : Int) + 256 * (b5 : Int)), .int .i64 (b6 : Int), .string D] 28), at_new wx (.cells #[.int .u32 (P : Int), .int .i64 ((b4 : Int) + 256 * (b5 : Int)), .int .i64 (b6 : Int), .string D] 28)⟩ (fun w3 h3 => ?_)
  have G3 := hid h3.1; have A3 := hid h3.2.1; have X3 := hid h3.2.2
  clear h3 G2 A2
  go_wp2_with (first | refine wpList_row_w X3.out Try.underlying28 rfl (by kernel_rfl) rfl rfl rfl rfl ?_ | refine wpList_row X3.out Try.underlying28 rfl (by kernel_rfl) rfl rfl rfl rfl ?_)
  refine (PC.out _).mono ?_
  rintro e w4 ⟨rfl, hg⟩
  have G4 := hid (gb_trans G3.out hg (.inl rfl)); have A4 := hid (at_grown A3.out hg (by simp)); have X4 := hid (at_grown X3.out hg (by simp))
  clear hg G3 A3 X3
  obtain ⟨z0, z1, z2, z3⟩ := an_zero (w := w) A4.out (cs := zeroD) rfl
  go_wp2_with (first | refine wpList_buildTo (cs := zeroD) rfl rfl rfl (by kernel_rfl) ?_ | refine wpList_store_row (old := zeroD) (cs := zeroD) A4.out (by kernel_rfl) (by kernel_rfl) (by kernel_rfl) rfl rfl rfl rfl rfl ?_)
  exact bodyPost_ret (v := .tuple #[.agg zeroD, .bool true, .int .i64 12]) (by simp [results, Try.results13, go_sem, z0, z1, z2, z3]) rfl ⟨rfl, gb_setRow G4.out (Nat.le_refl _)⟩
set_option maxHeartbeats 3200000 in
theorem rcget_odd (S : ByteArray) (hz : S.size = 64) (P b4 b5 b6 b7 : Nat) (hp0 : ¬ P = 0) (hp : ¬ 250 < P) (c63 : (S[63]'(by rw [hz]; decide)).toNat = P) (c4 : (S[4]'(by rw [hz]; decide)).toNat = b4) (c5 : (S[5]'(by rw [hz]; decide)).toNat = b5) (c6 : (S[6]'(by rw [hz]; decide)).toNat = b6) (c7 : (S[7]'(by rw [hz]; decide)).toNat = b7) (h4 : b4 < 256) (h5 : b5 < 256) (h6 : b6 < 256) (h7 : b7 < 256) (D R : ByteArray) (hD : S.extract 8 (8 + min (b7 : Int) 48).toNat = D) (hP : ∀ w, Calls Try.prog 11 #[.agg #[.int .u32 (P : Int), .int .i64 ((b4 : Int) + 256 * (b5 : Int)), .int .i64 (b6 : Int), .string D]] w fun e w' => e = .returned (.tuple #[.string R, .int .i64 0]) ∧ w.grownBy w' none) (hR : (R.toList == S.toList) = false) (hG : ∀ w, Calls Try.prog 28 #[.string (S.extract 0 4 ++ ⟨#[0, 0, 0, 0]⟩), .int .i64 0] w fun e w' => e = .returned (.tuple #[.int .u64 (P : Int), .int .i64 0]) ∧ w = w') (w : World) :
    Calls Try.prog 13 #[.string S] w fun e w' => e = .returned (.tuple #[.agg zeroD, .bool true, .int .i64 12]) ∧ w.grownBy w' none := by
  have G := hid hG
  have A0 := hid (at_new w (.cells zeroD 28))
  clear hG
  have e0 : ¬ (P : Int) = 0 := by omega
  have e1 : ((P : Int) == 0) = false := by simpa using e0
  have e2 : decide ((250 : Int) < (P : Int)) = false := by simp; omega
  have e3 : IntKind.u32.wrap (P : Int) = (P : Int) := by rw [IntKind.wrap_u32]; omega
  have M := hid (fun w => rmark_any P w)
  rw [markN_in (by omega)] at M
  have f4 : (b4 : Int) < 256 := by omega
  have f5 : (b5 : Int) < 256 := by omega
  have f6 : (b6 : Int) < 256 := by omega
  have f7 : (b7 : Int) < 256 := by omega
  clear hp hp0 h4 h5 h6 h7
  have HD := hid hD; have PC := hid hP
  clear hD hP

  go_enter Try.func13, Try.ntmps13
  go_wp2_with fail
  refine (G.out _).mono ?_
  rintro e w1 ⟨rfl, rfl⟩
  go_wp2_with fail
  go_quiet ((go_at_call 18; exact Calls.quiet_of_same (still_of (M.out _))))
  refine exit_gen (fun wx => w.grownBy wx none ∧ wx.heap[w.heap.size]? = some (.cells zeroD 28)) ⟨gb_trans (gb_alloc (.refl w none) (.cells zeroD 28)) ⟨rfl, rfl, rfl, Nat.le_refl _, fun _ _ _ => rfl⟩ (.inl rfl), A0.out⟩ (fun wx hx => ?_)
  have G2 := hid hx.1; have A2 := hid hx.2
  clear hx A0 G
  go_wp2_with fail
  go_region
  rw [HD.out]
  refine exit_gen (fun w3 => w.grownBy w3 none ∧ w3.heap[w.heap.size]? = some (.cells zeroD 28) ∧ w3.heap[wx.heap.size]? = some (.cells #[.int .u32 (P : Int), .int .i64 ((b4 : Int) + 256 * (b5 : Int)), .int .i64 (b6 : Int), .string D] 28)) ⟨gb_drew (gb_alloc G2.out (.cells #[.int .u32 (P : Int), .int .i64 ((b4 : Int) + 256 * (b5 : Int)), .int .i64 (b6 : Int), .string D] 28)), at_alloc A2.out (.cells #[.int .u32 (P : Int), .int .i64 ((b4 : Int) + 256 * (b5 : Int)), .int .i64 (b6 : Int), .string D] 28), at_new wx (.cells #[.int .u32 (P : Int), .int .i64 ((b4 : Int) + 256 * (b5 : Int)), .int .i64 (b6 : Int), .string D] 28)⟩ (fun w3 h3 => ?_)
  have G3 := hid h3.1; have A3 := hid h3.2.1; have X3 := hid h3.2.2
  clear h3 G2 A2
  go_wp2_with (first | refine wpList_row_w X3.out Try.underlying28 rfl (by kernel_rfl) rfl rfl rfl rfl ?_ | refine wpList_row X3.out Try.underlying28 rfl (by kernel_rfl) rfl rfl rfl rfl ?_)
  refine (PC.out _).mono ?_
  rintro e w4 ⟨rfl, hg⟩
  have G4 := hid (gb_trans G3.out hg (.inl rfl)); have A4 := hid (at_grown A3.out hg (by simp)); have X4 := hid (at_grown X3.out hg (by simp))
  clear hg G3 A3 X3
  obtain ⟨z0, z1, z2, z3⟩ := an_zero (w := w) A4.out (cs := zeroD) rfl
  go_wp2_with (first | refine wpList_buildTo (cs := zeroD) rfl rfl rfl (by kernel_rfl) ?_ | refine wpList_store_row (old := zeroD) (cs := zeroD) A4.out (by kernel_rfl) (by kernel_rfl) (by kernel_rfl) rfl rfl rfl rfl rfl ?_)
  exact bodyPost_ret (v := .tuple #[.agg zeroD, .bool true, .int .i64 12]) (by simp [results, Try.results13, go_sem, z0, z1, z2, z3]) rfl ⟨rfl, gb_setRow G4.out (Nat.le_refl _)⟩
set_option maxHeartbeats 3200000 in
theorem rcget_yes (S : ByteArray) (hz : S.size = 64) (P b4 b5 b6 b7 : Nat) (hp0 : ¬ P = 0) (hp : ¬ 250 < P) (c63 : (S[63]'(by rw [hz]; decide)).toNat = P) (c4 : (S[4]'(by rw [hz]; decide)).toNat = b4) (c5 : (S[5]'(by rw [hz]; decide)).toNat = b5) (c6 : (S[6]'(by rw [hz]; decide)).toNat = b6) (c7 : (S[7]'(by rw [hz]; decide)).toNat = b7) (h4 : b4 < 256) (h5 : b5 < 256) (h6 : b6 < 256) (h7 : b7 < 256) (D R : ByteArray) (hD : S.extract 8 (8 + min (b7 : Int) 48).toNat = D) (hP : ∀ w, Calls Try.prog 11 #[.agg #[.int .u32 (P : Int), .int .i64 ((b4 : Int) + 256 * (b5 : Int)), .int .i64 (b6 : Int), .string D]] w fun e w' => e = .returned (.tuple #[.string R, .int .i64 0]) ∧ w.grownBy w' none) (hR : (R.toList == S.toList) = true) (hG : ∀ w, Calls Try.prog 28 #[.string (S.extract 0 4 ++ ⟨#[0, 0, 0, 0]⟩), .int .i64 0] w fun e w' => e = .returned (.tuple #[.int .u64 (P : Int), .int .i64 0]) ∧ w = w') (w : World) :
    Calls Try.prog 13 #[.string S] w fun e w' => e = .returned (.tuple #[.agg #[.int .u32 (P : Int), .int .i64 ((b4 : Int) + 256 * (b5 : Int)), .int .i64 (b6 : Int), .string D], .bool true, .int .i64 0]) ∧ w.grownBy w' none := by
  have G := hid hG
  have A0 := hid (at_new w (.cells zeroD 28))
  clear hG
  have e0 : ¬ (P : Int) = 0 := by omega
  have e1 : ((P : Int) == 0) = false := by simpa using e0
  have e2 : decide ((250 : Int) < (P : Int)) = false := by simp; omega
  have e3 : IntKind.u32.wrap (P : Int) = (P : Int) := by rw [IntKind.wrap_u32]; omega
  have M := hid (fun w => rmark_any P w)
  rw [markN_in (by omega)] at M
  have f4 : (b4 : Int) < 256 := by omega
  have f5 : (b5 : Int) < 256 := by omega
  have f6 : (b6 : Int) < 256 := by omega
  have f7 : (b7 : Int) < 256 := by omega
  clear hp hp0 h4 h5 h6 h7
  have HD := hid hD; have PC := hid hP
  clear hD hP

  go_enter Try.func13, Try.ntmps13
  go_wp2_with fail
  refine (G.out _).mono ?_
  rintro e w1 ⟨rfl, rfl⟩
  go_wp2_with fail
  go_quiet ((go_at_call 18; exact Calls.quiet_of_same (still_of (M.out _))))
  refine exit_gen (fun wx => w.grownBy wx none ∧ wx.heap[w.heap.size]? = some (.cells zeroD 28)) ⟨gb_trans (gb_alloc (.refl w none) (.cells zeroD 28)) ⟨rfl, rfl, rfl, Nat.le_refl _, fun _ _ _ => rfl⟩ (.inl rfl), A0.out⟩ (fun wx hx => ?_)
  have G2 := hid hx.1; have A2 := hid hx.2
  clear hx A0 G
  go_wp2_with fail
  go_region
  rw [HD.out]
  refine exit_gen (fun w3 => w.grownBy w3 none ∧ w3.heap[w.heap.size]? = some (.cells zeroD 28) ∧ w3.heap[wx.heap.size]? = some (.cells #[.int .u32 (P : Int), .int .i64 ((b4 : Int) + 256 * (b5 : Int)), .int .i64 (b6 : Int), .string D] 28)) ⟨gb_drew (gb_alloc G2.out (.cells #[.int .u32 (P : Int), .int .i64 ((b4 : Int) + 256 * (b5 : Int)), .int .i64 (b6 : Int), .string D] 28)), at_alloc A2.out (.cells #[.int .u32 (P : Int), .int .i64 ((b4 : Int) + 256 * (b5 : Int)), .int .i64 (b6 : Int), .string D] 28), at_new wx (.cells #[.int .u32 (P : Int), .int .i64 ((b4 : Int) + 256 * (b5 : Int)), .int .i64 (b6 : Int), .string D] 28)⟩ (fun w3 h3 => ?_)
  have G3 := hid h3.1; have A3 := hid h3.2.1; have X3 := hid h3.2.2
  clear h3 G2 A2
  go_wp2_with (first | refine wpList_row_w X3.out Try.underlying28 rfl (by kernel_rfl) rfl rfl rfl rfl ?_ | refine wpList_row X3.out Try.underlying28 rfl (by kernel_rfl) rfl rfl rfl rfl ?_)
  refine (PC.out _).mono ?_
  rintro e w4 ⟨rfl, hg⟩
  have G4 := hid (gb_trans G3.out hg (.inl rfl)); have A4 := hid (at_grown A3.out hg (by simp)); have X4 := hid (at_grown X3.out hg (by simp))
  clear hg G3 A3 X3
  obtain ⟨z0, z1, z2, z3⟩ := an_zero (w := w) A4.out (cs := #[.int .u32 (P : Int), .int .i64 ((b4 : Int) + 256 * (b5 : Int)), .int .i64 (b6 : Int), .string D]) rfl
  go_wp2_with (first | refine wpList_row_w X4.out Try.underlying28 rfl (by kernel_rfl) rfl rfl rfl rfl ?_ | refine wpList_row X4.out Try.underlying28 rfl (by kernel_rfl) rfl rfl rfl rfl ?_ | refine wpList_store_row (old := zeroD) (cs := #[.int .u32 (P : Int), .int .i64 ((b4 : Int) + 256 * (b5 : Int)), .int .i64 (b6 : Int), .string D]) A4.out (by kernel_rfl) (by kernel_rfl) (by kernel_rfl) rfl rfl rfl rfl rfl ?_)
  exact bodyPost_ret (v := .tuple #[.agg #[.int .u32 (P : Int), .int .i64 ((b4 : Int) + 256 * (b5 : Int)), .int .i64 (b6 : Int), .string D], .bool true, .int .i64 0]) (by simp [results, Try.results13, go_sem, z0, z1, z2, z3]) rfl ⟨rfl, gb_setRow G4.out (Nat.le_refl _)⟩
end Go.Proofs.Ytjebmlmjbnaghaa
