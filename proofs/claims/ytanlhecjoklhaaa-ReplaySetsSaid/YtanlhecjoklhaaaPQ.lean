/-
  A Replay of the program's and one of the document's under way. No condition.
-/
import Derived.Test.YtanlhecjoklhaaaLBackW
set_option linter.unusedSimpArgs false
set_option linter.unusedVariables false
namespace Go.Proofs.Ytanlhecjoklhaaa
set_option maxRecDepth 100000
open Go.RowKit
structure PQ (w0 : World) (b d K : Nat) (r s : Rp) (W : World) : Prop where
  tp : Tp w0 b r W
  rq : ∃ v, RqAt W d v K s ∧ b ∉ ownL v ∧ ∀ g, g ∈ ownL v → w0.heap.size ≤ g
  lo : w0.heap.size ≤ d
  ne : b ≠ d
section
variable {w0 W W' : World} {b d K : Nat} {r s : Rp}
theorem PQ.grown (T : PQ w0 b d K r s W) (hg : W.grownBy W' none) : PQ w0 b d K r s W' := ⟨T.tp.grown hg, by obtain ⟨v, h1, h2⟩ := T.rq; exact ⟨v, h1.grown hg, h2⟩, T.lo, T.ne⟩
theorem PQ.drew (T : PQ w0 b d K r s W) : PQ w0 b d K r s W.drew := T.grown (gb_drew (.refl W none))
theorem PQ.more {K' : Nat} (T : PQ w0 b d K r s W) (h : K ≤ K') : PQ w0 b d K' r s W := ⟨T.tp, by obtain ⟨v, h1, h2⟩ := T.rq; exact ⟨v, h1.more h, h2⟩, T.lo, T.ne⟩
theorem PQ.cell (T : PQ w0 b d K r s W) : W.cell? ⟨d, 1, none⟩ = some (.int .i64 s.top) := by obtain ⟨v, h1, _⟩ := T.rq; exact h1.tops.2.1
theorem PQ.ok (T : PQ w0 b d K r s W) : s.Ok := by obtain ⟨v, h1, _⟩ := T.rq; exact h1.ok
theorem PQ.leaveP {e : Ending} {z : Int × Rp} (T : PQ w0 b d K r s W) (L : LeavesP W b z e W') : PQ w0 b d K z.2 s W' :=
  ⟨T.tp.leave L, by
    obtain ⟨v, h1, h2, h3⟩ := T.rq
    exact ⟨v, h1.chg L.2.2 (by simpa using T.ne.symm) (fun g hg => by simp; intro e; subst e; exact h2 hg), h2, h3⟩, T.lo, T.ne⟩
theorem PQ.leaveQ {e : Ending} {z : Int × Rp} {K' : Nat} {v : Value} (T : PQ w0 b d K r s W) (h1 : RqAt W d v K s) (h2 : b ∉ ownL v) (h3 : ∀ g, g ∈ ownL v → w0.heap.size ≤ g) (L : LeavesQ W d v K' z e W') : PQ w0 b d K' r z.2 W' := by
  obtain ⟨_, v', L1, L2, L3⟩ := L
  have hb := T.tp.rp.lt
  have hs := gb_size T.tp.gr
  refine ⟨T.tp.chg L2 (fun x hx => ?_) (fun hm => ?_), ⟨v', L1, fun hm => ?_, fun g hg => ?_⟩, T.lo, T.ne⟩
  · rcases List.mem_cons.1 hx with rfl | hx
    · exact T.lo
    · exact h3 x hx
  · rcases List.mem_cons.1 hm with e | hm
    · exact T.ne e
    · exact h2 hm
  · rcases L3 b hm with h | h
    · exact h2 h
    · omega
  · rcases L3 g hg with h | h
    · exact h3 g h
    · omega
theorem PQ.mayP (T : PQ w0 b d K r s W) (n : Int) (z : Bool) (h : r.may n = z) : Calls Try.prog 11 #[.pointer (some ⟨b, 0, none⟩), .int .i64 n] W fun e w' => e = .returned (.bool z) ∧ PQ w0 b d K r s w' :=
  (pmay_any n W T.tp.rp).mono fun _ _ ⟨h1, h2⟩ => ⟨h ▸ h1, h2 ▸ T⟩
theorem PQ.mayQ (T : PQ w0 b d K r s W) (hK : K ≤ 1000000) (n : Int) (z : Bool) (h : s.may n = z) : Calls Try.prog 12 #[.pointer (some ⟨d, 0, none⟩), .int .i64 n] W fun e w' => e = .returned (.bool z) ∧ PQ w0 b d K r s w' := by
  obtain ⟨v, h1, _⟩ := T.rq
  exact (qmay_any n W h1 hK).mono fun _ _ ⟨k1, k2⟩ => ⟨h ▸ k1, T.grown k2⟩
theorem PQ.takeP (T : PQ w0 b d K r s W) (n k : Int) (r' : Rp) (h : r.take n = (k, r')) : Calls Try.prog 13 #[.pointer (some ⟨b, 0, none⟩), .int .i64 n] W fun e w' => e = .returned (.int .i64 k) ∧ PQ w0 b d K r' s w' :=
  (ptake_any n W T.tp.rp).mono fun _ _ L => by rw [h] at L; exact ⟨L.1, T.leaveP L⟩
theorem PQ.takeQ (T : PQ w0 b d K r s W) (hK : K ≤ 999999) (n k : Int) (s' : Rp) (h : s.take n = (k, s')) : Calls Try.prog 14 #[.pointer (some ⟨d, 0, none⟩), .int .i64 n] W fun e w' => e = .returned (.int .i64 k) ∧ PQ w0 b d (K + 1) r s' w' := by
  obtain ⟨v, h1, h2, h3⟩ := T.rq
  exact (qtake_any n W h1 hK).mono fun _ _ L => by rw [h] at L; exact ⟨L.1, T.leaveQ h1 h2 h3 L⟩
theorem PQ.setP (T : PQ w0 b d K r s W) (t : Int) (x : BitVec 64) (k : Int) (r' : Rp) (h : r.set t x = (k, r')) : Calls Try.prog 18 #[.pointer (some ⟨b, 0, none⟩), .int .i64 t, .int .u64 (q x)] W fun e w' => e = .returned (.int .i64 k) ∧ PQ w0 b d K r' s w' :=
  (pset_any t x W T.tp.rp).mono fun _ _ L => by rw [h] at L; exact ⟨L.1, T.leaveP L⟩
theorem PQ.setQ (T : PQ w0 b d K r s W) (t : Int) (x : BitVec 64) (k : Int) (s' : Rp) (h : s.set t x = (k, s')) : Calls Try.prog 19 #[.pointer (some ⟨d, 0, none⟩), .int .i64 t, .int .u64 (q x)] W fun e w' => e = .returned (.int .i64 k) ∧ PQ w0 b d (K + 64) r s' w' := by
  obtain ⟨v, h1, h2, h3⟩ := T.rq
  exact (qset_any t x W h1).mono fun _ _ L => by rw [h] at L; exact ⟨L.1, T.leaveQ h1 h2 h3 L⟩
theorem PQ.topP (T : PQ w0 b d K r s W) (x : Int) (h : r.top = x) : Calls Try.prog 15 #[.pointer (some ⟨b, 0, none⟩)] W fun e w' => e = .returned (.int .i64 x) ∧ PQ w0 b d K r s w' :=
  (ptop_any W T.tp.rp).mono fun _ _ ⟨h1, h2⟩ => ⟨h ▸ h1, h2 ▸ T⟩
theorem PQ.bitsP (T : PQ w0 b d K r s W) (x : Int) (h : q r.bits = x) : Calls Try.prog 16 #[.pointer (some ⟨b, 0, none⟩)] W fun e w' => e = .returned (.int .u64 x) ∧ PQ w0 b d K r s w' :=
  (pbits_any W T.tp.rp).mono fun _ _ ⟨h1, h2⟩ => ⟨h ▸ h1, h2 ▸ T⟩
theorem PQ.bitsQ (T : PQ w0 b d K r s W) (hK : K ≤ 1000000) (x : Int) (h : q s.bits = x) : Calls Try.prog 17 #[.pointer (some ⟨d, 0, none⟩)] W fun e w' => e = .returned (.int .u64 x) ∧ PQ w0 b d K r s w' := by
  obtain ⟨v, h1, _⟩ := T.rq
  exact (qbits_any W h1 hK).mono fun _ _ ⟨k1, k2⟩ => ⟨h ▸ k1, k2 ▸ T⟩
theorem pq_new (m : Int) (m0 : 1 ≤ m) (m1 : m ≤ 64) (T : Tp w0 b (.new m.toNat) W) : Calls Try.prog 9 #[.int .i64 m] W fun e w' => ∃ d, e = .returned (.pointer (some ⟨d, 0, none⟩)) ∧ PQ w0 b d 0 (.new m.toNat) (.new m.toNat) w' := by
  obtain ⟨k, rfl⟩ := Int.eq_ofNat_of_zero_le (show 0 ≤ m by omega)
  have hb := T.rp.lt
  have hs := gb_size T.gr
  exact (qnew_ok k (by omega) (by omega) W).mono fun _ _ ⟨d, e1, e2, e3, e4⟩ => ⟨d, e1, T.grown e3, ⟨_, e2, by simp [ownL, Value.ownBlock], by simp [ownL, Value.ownBlock]⟩, by omega, by omega⟩
end
end Go.Proofs.Ytanlhecjoklhaaa
