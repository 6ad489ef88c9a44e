/-
  Plain arithmetic for the walks: 64-bit words stand in the model as integers: 'q x' is the word x as that integer. Each operation of the model on such integers (sum, xor, or, shifts) is the operation of 64-bit words. No condition. Nothing of the program is named here.
-/
import Derived.WalkKit
namespace Go.Proofs.Ytjebmlmjbnaghaa
set_option maxRecDepth 100000
open Go.RowKit

/-- a 64-bit word as the model's integer -/
def q (x : BitVec 64) : Int := (x.toNat : Int)
/-- a byte as the model's integer -/
def qb (c : BitVec 8) : Int := (c.toNat : Int)

theorem q_nonneg (x : BitVec 64) : 0 ≤ q x := by unfold q; omega
theorem q_lt (x : BitVec 64) : q x < 18446744073709551616 := by unfold q; have := x.isLt; omega
theorem q_inj {x y : BitVec 64} (h : q x = q y) : x = y := by
  unfold q at h; exact BitVec.eq_of_toNat_eq (by omega)
theorem q_inj_iff (x y : BitVec 64) : q x = q y ↔ x = y := ⟨q_inj, fun h => by rw [h]⟩
theorem q_beq (x y : BitVec 64) : (q x == q y) = (x == y) := by
  rw [Bool.eq_iff_iff]; simp [q_inj_iff]
theorem q_wf (x : BitVec 64) : (Lit.int .u64 (q x)).wf = true := by
  have h1 := q_nonneg x; have h2 := q_lt x
  simp [Lit.wf, IntKind.min, IntKind.max, IntKind.signed, IntKind.bits]; omega
theorem q_of {n : Int} (h : (Lit.int .u64 n).wf = true) : ∃ x : BitVec 64, n = q x := by
  have h' : 0 ≤ n ∧ n ≤ 18446744073709551615 := by simpa [Lit.wf, IntKind.min, IntKind.max, IntKind.signed, IntKind.bits] using h
  refine ⟨BitVec.ofNat 64 n.toNat, ?_⟩
  unfold q
  rw [BitVec.toNat_ofNat]
  omega
theorem qb_of {n : Int} (h : (Lit.int .u8 n).wf = true) : ∃ x : BitVec 8, n = qb x := by
  have h' : 0 ≤ n ∧ n ≤ 255 := by simpa [Lit.wf, IntKind.min, IntKind.max, IntKind.signed, IntKind.bits] using h
  refine ⟨BitVec.ofNat 8 n.toNat, ?_⟩
  unfold qb
  rw [BitVec.toNat_ofNat]
  omega
theorem qb_nonneg (x : BitVec 8) : 0 ≤ qb x := by unfold qb; omega
theorem qb_lt (x : BitVec 8) : qb x < 256 := by unfold qb; have := x.isLt; omega
theorem qb_wf (x : BitVec 8) : (Lit.int .u8 (qb x)).wf = true := by
  have h1 := qb_nonneg x; have h2 := qb_lt x
  simp [Lit.wf, IntKind.min, IntKind.max, IntKind.signed, IntKind.bits]; omega
theorem q_ofInt (x : BitVec 64) : BitVec.ofInt 64 (q x) = x := by
  unfold q; rw [BitVec.ofInt_natCast, BitVec.ofNat_toNat]; simp
theorem qb_ofInt (x : BitVec 8) : BitVec.ofInt 8 (qb x) = x := by
  unfold qb; rw [BitVec.ofInt_natCast, BitVec.ofNat_toNat]; simp
theorem wrap_toNat (x : BitVec 64) : IntKind.u64.wrap (x.toNat : Int) = q x := by
  rw [IntKind.wrap_u64]; unfold q; have := x.isLt; omega
theorem q_xor (x y : BitVec 64) : bits .xor .u64 (q x) (q y) = q (x ^^^ y) := by
  show IntKind.u64.wrap ((BitVec.ofInt 64 (q x) ^^^ BitVec.ofInt 64 (q y)).toNat : Int) = _
  rw [q_ofInt, q_ofInt]; exact wrap_toNat _
theorem q_or (x y : BitVec 64) : bits .or .u64 (q x) (q y) = q (x ||| y) := by
  show IntKind.u64.wrap ((BitVec.ofInt 64 (q x) ||| BitVec.ofInt 64 (q y)).toNat : Int) = _
  rw [q_ofInt, q_ofInt]; exact wrap_toNat _
theorem q_and (x y : BitVec 64) : bits .and .u64 (q x) (q y) = q (x &&& y) := by
  show IntKind.u64.wrap ((BitVec.ofInt 64 (q x) &&& BitVec.ofInt 64 (q y)).toNat : Int) = _
  rw [q_ofInt, q_ofInt]; exact wrap_toNat _
theorem q_xor_num (x : BitVec 64) (n : Int) : bits .xor .u64 (q x) n = q (x ^^^ BitVec.ofInt 64 n) := by
  show IntKind.u64.wrap ((BitVec.ofInt 64 (q x) ^^^ BitVec.ofInt 64 n).toNat : Int) = _
  rw [q_ofInt]; exact wrap_toNat _
theorem q_add (x y : BitVec 64) : IntKind.u64.wrap (q x + q y) = q (x + y) := by
  rw [IntKind.wrap_u64]; unfold q; rw [BitVec.toNat_add]; omega
theorem q_shl (x : BitVec 64) (n : Nat) : IntKind.u64.wrap (q x * 2 ^ n) = q (x <<< n) := by
  rw [IntKind.wrap_u64]
  unfold q
  rw [BitVec.toNat_shiftLeft, Nat.shiftLeft_eq]
  simp
theorem q_shr (x : BitVec 64) (n : Nat) : q x / 2 ^ n = q (x >>> n) := by
  unfold q
  rw [BitVec.toNat_ushiftRight, Nat.shiftRight_eq_div_pow]
  simp
attribute [go_sem ↓] q_xor q_or q_and q_add q_shl q_shr
theorem q_lit (n : Int) : IntKind.u64.wrap n = q (BitVec.ofInt 64 n) := by
  rw [IntKind.wrap_u64]; unfold q; rw [BitVec.toNat_ofInt]; omega
theorem byte_q (x : UInt8) : IntKind.u64.wrap (x.toNat : Int) = q (BitVec.ofNat 64 x.toNat) := by
  rw [IntKind.wrap_u64]; unfold q; rw [BitVec.toNat_ofNat]; omega
theorem byte_q' (x : UInt8) : (x.toNat : Int) = q (BitVec.ofNat 64 x.toNat) := by
  unfold q; rw [BitVec.toNat_ofNat]; have := x.toNat_lt; omega
end Go.Proofs.Ytjebmlmjbnaghaa
