/-
  Contracts for package replay. The condition of a call: the object lies there; or it is nil.
-/
import Derived.Test.YtanlhecjoklhaaaRows
import Derived.Test.YtanlhecjoklhaaaRp
import Derived.WalkSpells
import Derived.WalkLawsBesides
import Derived.BigQuiet
import Derived.Deep.RegionHeld3
set_option linter.unusedSimpArgs false
set_option linter.unusedVariables false
namespace Go.Proofs.Ytanlhecjoklhaaa
set_option maxRecDepth 100000
open Go.RowKit

/-- sync/atomic's Int64 -/
theorem load_i64 (a : Addr) (x : Int) (w : World) (hc : w.cell? a = some (.int .i64 x)) :
    Calls Try.prog 20 #[.pointer (some a)] w fun e w' => e = .returned (.int .i64 x) ∧ w = w' := by
  have hl := run_call_load (P := Try.prog) Try.func25 (by kernel_rfl) (by kernel_rfl) (by kernel_rfl) .i64 (by kernel_rfl) hc
  go_enter Try.func20, Try.ntmps20
  go_wp2
  go_ret
  exact ⟨rfl, rfl⟩
theorem addn_i64 (a : Addr) (x y s : Int) (w : World) (hc : w.cell? a = some (.int .i64 x)) (hz : w.frozen? a = false) (hs : IntKind.i64.wrap (x + y) = s) :
    Calls Try.prog 22 #[.pointer (some a), .int .i64 y] w fun e w' => e = .returned (.int .i64 s) ∧ w' = w.setCell a (.int .i64 s) := by
  have hadd := run_call_add (P := Try.prog) Try.func26 (by kernel_rfl) (by kernel_rfl) (by kernel_rfl) .i64 (by kernel_rfl) (y := y) (s := s) hc hz (by rw [show Op.intArith .add .i64 x y = pure (.int .i64 (IntKind.i64.wrap (x + y))) from rfl, hs]; rfl)
  clear hs
  go_enter Try.func22, Try.ntmps22
  go_wp2
  go_ret
  exact ⟨rfl, rfl⟩
theorem store_i64 (a : Addr) (y : Int) (u : Value) (w : World) (hc : w.cell? a = some u) (hz : w.frozen? a = false) :
    Calls Try.prog 24 #[.pointer (some a), .int .i64 y] w fun e w' => e = .returned (.tuple #[]) ∧ w' = w.setCell a (.int .i64 y) := by
  have hs := run_call_store (P := Try.prog) Try.func27 (by kernel_rfl) (by kernel_rfl) (by kernel_rfl) (by kernel_rfl) (k := .i64) (y := y) hc hz
  go_enter Try.func24, Try.ntmps24
  go_wp2
  go_end0
  exact ⟨rfl, rfl⟩

theorem shl_any (x : BitVec 64) (yk : IntKind) (y : Int) (h : 0 ≤ y) : Op.shift .shl .u64 (q x) yk y = pure (.int .u64 (q (x <<< y.toNat))) := by
  have hm : min y.toNat 64 = if y.toNat ≤ 64 then y.toNat else 64 := by split <;> omega
  have h0 : ¬ y < 0 := by omega
  simp only [Op.shift, h0, if_false, IntKind.bits, hm]
  split
  · rw [q_shl]
  · next hg =>
    rw [q_shl]
    have e1 : x <<< 64 = 0#64 := BitVec.shiftLeft_eq_zero (Nat.le_refl _)
    have e2 : x <<< y.toNat = 0#64 := BitVec.shiftLeft_eq_zero (by omega)
    rw [e1, e2]
theorem shl_one (yk : IntKind) (y : Int) (h : 0 ≤ y) : Op.shift .shl .u64 1 yk y = pure (.int .u64 (q (1#64 <<< y.toNat))) := shl_any 1#64 yk y h
theorem q_sub_one (x : BitVec 64) : IntKind.u64.wrap (q x - 1) = q (x - 1#64) := by
  rw [IntKind.wrap_u64]; unfold q
  rw [BitVec.toNat_sub]
  have := x.isLt
  simp only [BitVec.toNat_ofNat]
  omega

theorem lowest_any (n : Nat) (w : World) :
    Calls Try.prog 23 #[.int .i64 (n : Int)] w fun e w' => e = .returned (.int .u64 (q (low n))) ∧ w = w' := by
  have h1 := shl_one .i64 (n : Int) (by omega)
  have h2 := q_sub_one (1#64 <<< (n : Int).toNat)
  unfold low
  rw [Int.toNat_natCast] at *
  generalize (1#64 <<< n) = z at *
  go_enter Try.func23, Try.ntmps23
  go_wp2
  go_ret
  exact ⟨rfl, rfl⟩

/-- what was taken, of the program's -/
structure RpAt (w : World) (b : Nat) (r : Rp) : Prop where
  top : w.heap[b]? = some (.cells #[.int .i64 (r.win : Int), .int .i64 r.top, .int .u64 (q r.bits)] 48)
  ok : r.Ok
section
variable {w w' : World} {F : List Nat} {b : Nat} {r : Rp}
theorem RpAt.chg (H : RpAt w b r) (hc : Chg F w w') (hb : b ∉ F) : RpAt w' b r := ⟨hc.at H.top hb, H.ok⟩
theorem RpAt.grown (H : RpAt w b r) (hg : w.grownBy w' none) : RpAt w' b r := H.chg (chg_grown hg []) (by simp)
theorem RpAt.drew (H : RpAt w b r) : RpAt w.drew b r := ⟨H.top, H.ok⟩
theorem RpAt.lt (H : RpAt w b r) : b < w.heap.size := at_lt H.top
theorem RpAt.cells (H : RpAt w b r) : w.cell? ⟨b, 0, none⟩ = some (.int .i64 (r.win : Int)) ∧ w.cell? ⟨b, 1, none⟩ = some (.int .i64 r.top) ∧ w.cell? ⟨b, 2, none⟩ = some (.int .u64 (q r.bits)) ∧ w.frozen? ⟨b, 1, none⟩ = false ∧ w.frozen? ⟨b, 2, none⟩ = false :=
  ⟨at_cell H.top 0, at_cell H.top 1, at_cell H.top 2, at_free H.top 1, at_free H.top 2⟩
end
/-- New -/
def MadeP (w : World) (r : Rp) (e : Ending) (w' : World) : Prop := ∃ b, e = .returned (.pointer (some ⟨b, 0, none⟩)) ∧ RpAt w' b r ∧ w.grownBy w' none ∧ w.heap.size ≤ b
theorem pnew_nil (n : Int) (h : n < 1 ∨ 64 < n) (w : World) :
    Calls Try.prog 8 #[.int .i64 n] w fun e w' => e = .returned (.pointer none) ∧ w = w' := by
  by_cases h1 : n < 1
  · have d1 : decide (n < 1) = true := by simpa using h1
    clear h
    go_enter Try.func8, Try.ntmps8
    go_wp2_with fail
    go_ret
    exact ⟨rfl, rfl⟩
  · have d1 : decide (n < 1) = false := by simpa using h1
    have d2 : decide (64 < n) = true := by simp; omega
    clear h
    go_enter Try.func8, Try.ntmps8
    go_wp2_with fail
    go_ret
    exact ⟨rfl, rfl⟩
set_option maxHeartbeats 1600000 in
theorem pnew_ok (n : Nat) (h1 : 1 ≤ n) (h2 : n ≤ 64) (w : World) :
    Calls Try.prog 8 #[.int .i64 (n : Int)] w (MadeP w (.new n)) := by
  have L : Hid (RpAt (w.alloc (.cells #[.int .i64 (n : Int), .int .i64 0, .int .u64 0] 48)) w.heap.size (.new n)) := hid ⟨at_new w _, rp_new_ok h1 h2⟩
  have d1 : decide ((n : Int) < 1) = false := by simp; omega
  have d2 : decide ((64 : Int) < (n : Int)) = false := by simp; omega
  go_enter Try.func8, Try.ntmps8
  go_wp2_with fail
  go_ret
  exact ⟨_, rfl, L.out, gb_alloc (.refl w none) _, Nat.le_refl _⟩

/-- May, of nil too -/
theorem pmay_nil (n : Int) (w : World) :
    Calls Try.prog 11 #[.pointer none, .int .i64 n] w fun e w' => e = .returned (.bool false) ∧ w = w' := by
  go_enter Try.func11, Try.ntmps11
  go_wp2_with fail
  go_ret
  exact ⟨rfl, rfl⟩
theorem pmay_out {b : Nat} {r : Rp} (n : Int) (w : World) (H : RpAt w b r) (h : n < 1 ∨ 1099511627776 < n) :
    Calls Try.prog 11 #[.pointer (some ⟨b, 0, none⟩), .int .i64 n] w fun e w' => e = .returned (.bool false) ∧ w = w' := by
  clear H
  by_cases h1 : n < 1
  · have d1 : decide (n < 1) = true := by simpa using h1
    clear h
    go_enter Try.func11, Try.ntmps11
    go_wp2_with fail
    go_ret
    exact ⟨rfl, rfl⟩
  · have d1 : decide (n < 1) = false := by simpa using h1
    have d2 : decide (1099511627776 < n) = true := by simp; omega
    clear h
    go_enter Try.func11, Try.ntmps11
    go_wp2_with fail
    go_ret
    exact ⟨rfl, rfl⟩
theorem pmay_above {b : Nat} {r : Rp} (n : Int) (w : World) (H : RpAt w b r) (h1 : 1 ≤ n) (h2 : n ≤ 1099511627776) (h3 : r.top < n) :
    Calls Try.prog 11 #[.pointer (some ⟨b, 0, none⟩), .int .i64 n] w fun e w' => e = .returned (.bool true) ∧ w = w' := by
  obtain ⟨c0, c1, c2, f1, f2⟩ := H.cells
  have t0 := H.ok.t0; have t1 := H.ok.t1
  clear H
  generalize r.top = t at *
  have d1 : decide (n < 1) = false := by simp; omega
  have d2 : decide (1099511627776 < n) = false := by simp; omega
  have d3 : decide (t - n < 0) = true := by simp; omega
  go_enter Try.func11, Try.ntmps11
  go_wp2_with fail
  refine (load_i64 _ t _ c1).mono ?_
  rintro e w1 ⟨rfl, rfl⟩
  go_wp2_with fail
  go_ret
  exact ⟨rfl, rfl⟩
theorem pmay_old {b : Nat} {r : Rp} (n : Int) (w : World) (H : RpAt w b r) (h1 : 1 ≤ n) (h2 : n ≤ 1099511627776) (h3 : n ≤ r.top) (h4 : (r.win : Int) ≤ r.top - n) :
    Calls Try.prog 11 #[.pointer (some ⟨b, 0, none⟩), .int .i64 n] w fun e w' => e = .returned (.bool false) ∧ w = w' := by
  obtain ⟨c0, c1, c2, f1, f2⟩ := H.cells
  have t0 := H.ok.t0; have t1 := H.ok.t1
  clear H
  generalize r.top = t at *
  have d1 : decide (n < 1) = false := by simp; omega
  have d2 : decide (1099511627776 < n) = false := by simp; omega
  have d3 : decide (t - n < 0) = false := by simp; omega
  have d4 : decide (t - n < (r.win : Int)) = false := by simp; omega
  go_enter Try.func11, Try.ntmps11
  go_wp2_with fail
  refine (load_i64 _ t _ c1).mono ?_
  rintro e w1 ⟨rfl, rfl⟩
  go_wp2_with fail
  go_ret
  exact ⟨rfl, rfl⟩
theorem q_and_one (x : BitVec 64) : bits .and .u64 (q x) 1 = q (x &&& 1#64) := q_and x 1#64
theorem q_zero (x : BitVec 64) : (q x == 0) = decide (x = 0#64) := by
  rw [show (0 : Int) = q 0#64 from rfl, q_beq, Bool.eq_iff_iff]; simp
theorem pmay_in {b : Nat} {r : Rp} (n : Int) (w : World) (H : RpAt w b r) (h1 : 1 ≤ n) (h2 : n ≤ 1099511627776) (h3 : n ≤ r.top) (h4 : r.top - n < (r.win : Int)) :
    Calls Try.prog 11 #[.pointer (some ⟨b, 0, none⟩), .int .i64 n] w fun e w' => e = .returned (.bool (!r.bits.getLsbD (r.top - n).toNat)) ∧ w = w' := by
  obtain ⟨c0, c1, c2, f1, f2⟩ := H.cells
  have t0 := H.ok.t0; have t1 := H.ok.t1; have w2 := H.ok.w2
  clear H
  generalize r.top = t at *
  have d1 : decide (n < 1) = false := by simp; omega
  have d2 : decide (1099511627776 < n) = false := by simp; omega
  have d3 : decide (t - n < 0) = false := by simp; omega
  have d4 : decide (t - n < (r.win : Int)) = true := by simp; omega
  have g1 := q_and_one (r.bits >>> (t - n).toNat)
  have g2 : (q ((r.bits >>> (t - n).toNat) &&& 1#64) == 0) = !r.bits.getLsbD (t - n).toNat := by
    rw [q_zero, Bool.eq_iff_iff, decide_eq_true_eq, shr_bit]; simp
  generalize r.bits.getLsbD (t - n).toNat = z at *
  have z0 : 0 ≤ t - n := by omega
  have z1 : t - n ≤ 64 := by omega
  go_enter Try.func11, Try.ntmps11
  go_wp2_with fail
  refine (load_i64 _ t _ c1).mono ?_
  rintro e w1 ⟨rfl, rfl⟩
  go_wp2_with fail
  go_ret
  exact ⟨rfl, rfl⟩
theorem pmay_any {b : Nat} {r : Rp} (n : Int) (w : World) (H : RpAt w b r) :
    Calls Try.prog 11 #[.pointer (some ⟨b, 0, none⟩), .int .i64 n] w fun e w' => e = .returned (.bool (r.may n)) ∧ w = w' := by
  by_cases h1 : 1 ≤ n ∧ n ≤ 1099511627776
  · by_cases h2 : r.top < n
    · have e : r.may n = true := decide_eq_true ⟨h1.1, h1.2, .inl h2⟩
      rw [e]; exact pmay_above n w H h1.1 h1.2 h2
    · by_cases h3 : r.top - n < r.win
      · have e : r.may n = !r.bits.getLsbD (r.top - n).toNat := by
          unfold Rp.may
          rw [Bool.eq_iff_iff, decide_eq_true_eq]
          simp [h1.1, h1.2, h2, h3]
        rw [e]; exact pmay_in n w H h1.1 h1.2 (by omega) h3
      · have e : r.may n = false := decide_eq_false (by omega)
        rw [e]; exact pmay_old n w H h1.1 h1.2 (by omega) (by omega)
  · have e : r.may n = false := decide_eq_false (by omega)
    rw [e]; exact pmay_out n w H (by omega)
/-- Top, Bits -/
theorem ptop_any {b : Nat} {r : Rp} (w : World) (H : RpAt w b r) :
    Calls Try.prog 15 #[.pointer (some ⟨b, 0, none⟩)] w fun e w' => e = .returned (.int .i64 r.top) ∧ w = w' := by
  obtain ⟨c0, c1, c2, f1, f2⟩ := H.cells
  clear H
  go_enter Try.func15, Try.ntmps15
  go_wp2_with fail
  refine (load_i64 _ r.top _ c1).mono ?_
  rintro e w1 ⟨rfl, rfl⟩
  go_wp2_with fail
  go_ret
  exact ⟨rfl, rfl⟩
theorem pbits_any {b : Nat} {r : Rp} (w : World) (H : RpAt w b r) :
    Calls Try.prog 16 #[.pointer (some ⟨b, 0, none⟩)] w fun e w' => e = .returned (.int .u64 (q r.bits)) ∧ w = w' := by
  obtain ⟨c0, c1, c2, f1, f2⟩ := H.cells
  clear H
  go_enter Try.func16, Try.ntmps16
  go_wp2_with fail
  go_ret
  exact ⟨rfl, rfl⟩
end Go.Proofs.Ytanlhecjoklhaaa
