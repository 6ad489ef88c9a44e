/-
  Numbers that were taken, as the greatest and bits below it: the plain part, and contracts for package replay. The condition of a call: the object lies there; or it is nil.
-/
import Derived.Test.YtanlhecjoklhaaaChg
import Derived.Test.YtanlhecjoklhaaaQ
set_option linter.unusedSimpArgs false
set_option linter.unusedVariables false
namespace Go.Proofs.Ytanlhecjoklhaaa
set_option maxRecDepth 100000
open Go.RowKit

/-- the n lowest bits -/
def low (n : Nat) : BitVec 64 := (1#64 <<< n) - 1#64
theorem low_bit (n i : Nat) (hn : n ≤ 64) : (low n).getLsbD i = (decide (i < n) && decide (i < 64)) := by
  by_cases h : n = 64
  · subst h
    have e : low 64 = BitVec.allOnes 64 := by decide
    rw [e, BitVec.getLsbD_allOnes]; simp
  · have hlt : n < 64 := by omega
    have e : (low n).toNat = 2 ^ n - 1 := by
      unfold low
      have h1 : 2 ^ n < 2 ^ 64 := Nat.pow_lt_pow_right (by decide) hlt
      have h2 : 0 < 2 ^ n := Nat.two_pow_pos n
      rw [BitVec.toNat_sub, BitVec.toNat_shiftLeft]
      simp only [BitVec.toNat_ofNat, Nat.one_shiftLeft, Nat.shiftLeft_eq]
      rw [show (1 % 2 ^ 64 : Nat) = 1 from rfl, Nat.one_mul, Nat.mod_eq_of_lt h1]
      omega
    rw [← BitVec.testBit_toNat, e, Nat.testBit_two_pow_sub_one]
    by_cases hi : i < n
    · have : i < 64 := by omega
      simp [hi, this]
    · simp [hi]
theorem one_bit (k i : Nat) : (1#64 <<< k).getLsbD i = (decide (i = k) && decide (i < 64)) := by
  rw [BitVec.getLsbD_shiftLeft]
  by_cases h : i = k
  · subst h; simp
  · by_cases h2 : i < k
    · simp [h, h2]
    · have : i - k ≠ 0 := by omega
      simp [h, h2, this]
theorem shr_bit (x : BitVec 64) (k : Nat) : ((x >>> k) &&& 1#64 = 0#64) ↔ x.getLsbD k = false := by
  constructor
  · intro h
    have h0 : ((x >>> k) &&& 1#64).getLsbD 0 = (0#64).getLsbD 0 := by rw [h]
    simpa using h0
  · intro h
    apply BitVec.eq_of_getLsbD_eq
    intro i hi
    by_cases h0 : i = 0
    · subst h0; simpa using h
    · simp [h0]

structure Rp where
  win : Nat
  top : Int
  bits : BitVec 64
structure Rp.Ok (r : Rp) : Prop where
  w1 : 1 ≤ r.win
  w2 : r.win ≤ 64
  t0 : 0 ≤ r.top
  t1 : r.top ≤ 1099511627776
  bs : ∀ i, r.bits.getLsbD i = true → i < r.win ∧ (i : Int) < r.top
  b0 : 0 < r.top → r.bits.getLsbD 0 = true
def Rp.new (win : Nat) : Rp := ⟨win, 0, 0#64⟩
theorem rp_new_ok {n : Nat} (h1 : 1 ≤ n) (h2 : n ≤ 64) : (Rp.new n).Ok :=
  ⟨h1, h2, Int.le_refl _, by show (0 : Int) ≤ _; decide, fun i h => by simp [Rp.new] at h, fun h => absurd h (Int.lt_irrefl _)⟩
/-- may a number be taken? -/
def Rp.may (r : Rp) (n : Int) : Bool := decide (1 ≤ n ∧ n ≤ 1099511627776 ∧ (r.top < n ∨ (r.top - n < r.win ∧ r.bits.getLsbD (r.top - n).toNat = false)))
def Rp.put (r : Rp) (n : Int) : Rp :=
  if r.top < n then ⟨r.win, n, (r.bits <<< (n - r.top).toNat &&& low r.win) ||| 1#64⟩ else ⟨r.win, r.top, r.bits ||| 1#64 <<< (r.top - n).toNat⟩
def Rp.take (r : Rp) (n : Int) : Int × Rp := if r.may n = true then (0, r.put n) else (6, r)
def Rp.can (r : Rp) (t : Int) (b : BitVec 64) : Bool := decide (0 ≤ t ∧ t ≤ 1099511627776 ∧ (b &&& ~~~ low (min t r.win).toNat) = 0#64 ∧ (0 < t → b.getLsbD 0 = true))
def Rp.set (r : Rp) (t : Int) (b : BitVec 64) : Int × Rp := if r.can t b = true then (0, ⟨r.win, t, b⟩) else (1, r)
theorem Rp.Ok.put {r : Rp} (h : r.Ok) {n : Int} (hm : r.may n = true) : (r.put n).Ok := by
  unfold Rp.may at hm
  obtain ⟨h1, h2, h3⟩ := of_decide_eq_true hm
  obtain ⟨w1, w2, t0, t1, bs, b0⟩ := h
  unfold Rp.put
  split
  · next hl =>
    refine ⟨w1, w2, by show 0 ≤ n; omega, h2, fun i hi => ?_, fun _ => ?_⟩
    · simp only [BitVec.getLsbD_or, BitVec.getLsbD_and, low_bit _ _ w2, Bool.or_eq_true, Bool.and_eq_true, decide_eq_true_eq] at hi
      show i < r.win ∧ (i : Int) < n
      rcases hi with ⟨h4, h5, h6⟩ | h4
      · refine ⟨h5, ?_⟩
        rw [BitVec.getLsbD_shiftLeft] at h4
        simp only [Bool.and_eq_true, decide_eq_true_eq, Bool.not_eq_true', decide_eq_false_iff_not] at h4
        have := (bs _ h4.2).2
        omega
      · have e : i = 0 := by
          by_cases e : i = 0
          · exact e
          · simp [BitVec.getLsbD_one, e] at h4
        subst e; exact ⟨w1, by omega⟩
    · simp
  · next hl =>
    rcases h3 with h3 | ⟨h3, h4⟩
    · exact absurd h3 hl
    refine ⟨w1, w2, t0, t1, fun i hi => ?_, fun ht => ?_⟩
    · simp only [BitVec.getLsbD_or, one_bit, Bool.or_eq_true, Bool.and_eq_true, decide_eq_true_eq] at hi
      rcases hi with hi | ⟨hi, _⟩
      · exact bs i hi
      · show i < r.win ∧ (i : Int) < r.top
        subst hi; omega
    · show (r.bits ||| _).getLsbD 0 = true
      rw [BitVec.getLsbD_or, b0 ht, Bool.true_or]
theorem Rp.Ok.take {r : Rp} (h : r.Ok) (n : Int) : (r.take n).2.Ok := by
  unfold Rp.take
  split
  · next hm => exact h.put hm
  · exact h
theorem low_none (b : BitVec 64) (n : Nat) (hn : n ≤ 64) : (b &&& ~~~ low n) = 0#64 ↔ ∀ i, b.getLsbD i = true → i < n := by
  constructor
  · intro h i hi
    have h0 : (b &&& ~~~ low n).getLsbD i = (0#64).getLsbD i := by rw [h]
    have hi64 : i < 64 := by
      rcases Nat.lt_or_ge i 64 with h | h
      · exact h
      · rw [BitVec.getLsbD_of_ge _ _ h] at hi; cases hi
    rw [BitVec.getLsbD_and, BitVec.getLsbD_not, hi, low_bit _ _ hn] at h0
    simpa [hi64] using h0
  · intro h
    apply BitVec.eq_of_getLsbD_eq
    intro i hi
    by_cases hb : b.getLsbD i = true
    · have := h i hb
      simp [low_bit _ _ hn, this, hi]
    · simp at hb; simp [hb]
theorem rp_can {r : Rp} (h : r.Ok) {t : Int} {b : BitVec 64} (hc : r.can t b = true) : Rp.Ok ⟨r.win, t, b⟩ := by
  unfold Rp.can at hc
  obtain ⟨h1, h2, h3, h4⟩ := of_decide_eq_true hc
  have w2 := h.w2
  rw [low_none _ _ (by omega)] at h3
  exact ⟨h.w1, h.w2, h1, h2, fun i hi => by have := h3 i hi; show i < r.win ∧ (i : Int) < t; omega, h4⟩
theorem Rp.Ok.set {r : Rp} (h : r.Ok) (t : Int) (b : BitVec 64) : (r.set t b).2.Ok := by
  unfold Rp.set
  split
  · next hm => exact rp_can h hm
  · exact h
theorem take_win (r : Rp) (n : Int) : (r.take n).2.win = r.win := by unfold Rp.take Rp.put; split; split; all_goals rfl
theorem set_win (r : Rp) (t : Int) (b : BitVec 64) : (r.set t b).2.win = r.win := by unfold Rp.set; split; all_goals rfl
end Go.Proofs.Ytanlhecjoklhaaa
