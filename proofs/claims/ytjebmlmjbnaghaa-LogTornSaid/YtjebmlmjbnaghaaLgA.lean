/-
  Contracts for package log and the document's own answer: Mark, which cells may be, a cell's first and last eight bytes as numbers. No condition.
-/
import Derived.Test.YtjebmlmjbnaghaaLgP
import Derived.Test.YtjebmlmjbnaghaaGet
set_option linter.unusedSimpArgs false
set_option linter.unusedVariables false
namespace Go.Proofs.Ytjebmlmjbnaghaa
set_option maxRecDepth 100000
open Go.RowKit

/-- a pass's mark -/
def markN (p : Nat) : Nat := if p ≤ 250 then p else 0
theorem markN_le (p : Nat) : markN p ≤ 250 := by unfold markN; split <;> omega
theorem markN_pos (p : Nat) : markN p = 0 ↔ ¬ (1 ≤ p ∧ p ≤ 250) := by unfold markN; split <;> omega
theorem markN_in {p : Nat} (h : p ≤ 250) : markN p = p := by unfold markN; rw [if_pos h]
theorem mark_any (p : Nat) (w : World) :
    Calls Try.prog 17 #[.int .u32 (p : Int)] w fun e w' => e = .returned (.int .u8 (markN p : Int)) ∧ w = w' := by
  unfold markN
  by_cases h : p ≤ 250
  · have d : decide ((250 : Int) < (p : Int)) = false := by simp; omega
    have hw : IntKind.u8.wrap (p : Int) = (p : Int) := by rw [IntKind.wrap_u8]; omega
    rw [if_pos h]
    clear h
    go_enter Try.func17, Try.ntmps17
    go_wp2_with fail
    go_ret
    exact ⟨rfl, rfl⟩
  · have d : decide ((250 : Int) < (p : Int)) = true := by simp; omega
    rw [if_neg h]
    clear h
    go_enter Try.func17, Try.ntmps17
    go_wp2_with fail
    go_ret
    exact ⟨rfl, rfl⟩
theorem rmark_any (p : Nat) (w : World) :
    Calls Try.prog 18 #[.int .u32 (p : Int)] w fun e w' => e = .returned (.int .u8 (markN p : Int)) ∧ w = w' := by
  unfold markN
  by_cases h : p ≤ 250
  · have d : decide ((250 : Int) < (p : Int)) = false := by simp; omega
    have hw : IntKind.u8.wrap (p : Int) = (p : Int) := by rw [IntKind.wrap_u8]; omega
    rw [if_pos h]
    clear h
    go_enter Try.func18, Try.ntmps18
    go_wp2_with fail
    go_ret
    exact ⟨rfl, rfl⟩
  · have d : decide ((250 : Int) < (p : Int)) = true := by simp; omega
    rw [if_neg h]
    clear h
    go_enter Try.func18, Try.ntmps18
    go_wp2_with fail
    go_ret
    exact ⟨rfl, rfl⟩

/-- which cells may be -/
def mayN (p : Nat) (Q K : Int) (n : Nat) : Bool := decide (1 ≤ p ∧ p ≤ 250) && decide (0 ≤ Q) && decide (Q ≤ 4096) && decide (1 ≤ K) && decide (K ≤ 3) && decide (n ≤ 48)
set_option maxHeartbeats 1600000 in
theorem lmay_m (p : Nat) (Q K : Int) (a : Option Addr) (n c : Nat) (hm : markN p = 0) (w : World) :
    Calls Try.prog 14 #[.agg #[.int .u32 (p : Int), .int .i64 Q, .int .i64 K, .slice a n c]] w fun e w' => e = .returned (.bool false) ∧ w.grownBy w' none := by
  have M := hid (fun w => mark_any p w)
  rw [hm] at M
  clear hm
  go_enter Try.func14, Try.ntmps14
  go_wp2_with fail
  refine (M.out _).mono ?_
  rintro e w1 ⟨rfl, rfl⟩
  go_wp2_with fail
  go_ret
  exact ⟨rfl, gb_alloc (.refl w none) _⟩
set_option maxHeartbeats 1600000 in
theorem lmay_0 (p : Nat) (Q K : Int) (a : Option Addr) (n c : Nat) (hm : ¬ markN p = 0) (h0 : ¬ 0 ≤ Q) (w : World) :
    Calls Try.prog 14 #[.agg #[.int .u32 (p : Int), .int .i64 Q, .int .i64 K, .slice a n c]] w fun e w' => e = .returned (.bool false) ∧ w.grownBy w' none := by
  have M := hid (fun w => mark_any p w)
  obtain ⟨m, hmm⟩ : ∃ m : Int, (markN p : Int) = m := ⟨_, rfl⟩
  have hm0 : ¬ m = 0 := by omega
  have hm1 : (m != 0) = true := by simpa using hm0
  rw [hmm] at M
  clear hm hmm
  have d0 : decide (0 ≤ Q) = false := by simpa using h0
  clear h0
  go_enter Try.func14, Try.ntmps14
  go_wp2_with fail
  refine (M.out _).mono ?_
  rintro e w1 ⟨rfl, rfl⟩
  go_wp2_with fail
  go_ret
  exact ⟨rfl, gb_alloc (.refl w none) _⟩
set_option maxHeartbeats 1600000 in
theorem lmay_1 (p : Nat) (Q K : Int) (a : Option Addr) (n c : Nat) (hm : ¬ markN p = 0) (h0 : 0 ≤ Q) (h1 : ¬ Q ≤ 4096) (w : World) :
    Calls Try.prog 14 #[.agg #[.int .u32 (p : Int), .int .i64 Q, .int .i64 K, .slice a n c]] w fun e w' => e = .returned (.bool false) ∧ w.grownBy w' none := by
  have M := hid (fun w => mark_any p w)
  obtain ⟨m, hmm⟩ : ∃ m : Int, (markN p : Int) = m := ⟨_, rfl⟩
  have hm0 : ¬ m = 0 := by omega
  have hm1 : (m != 0) = true := by simpa using hm0
  rw [hmm] at M
  clear hm hmm
  have d0 : decide (0 ≤ Q) = true := by simpa using h0
  have d1 : decide (Q ≤ 4096) = false := by simpa using h1
  clear h0 h1
  go_enter Try.func14, Try.ntmps14
  go_wp2_with fail
  refine (M.out _).mono ?_
  rintro e w1 ⟨rfl, rfl⟩
  go_wp2_with fail
  go_ret
  exact ⟨rfl, gb_alloc (.refl w none) _⟩
set_option maxHeartbeats 1600000 in
theorem lmay_2 (p : Nat) (Q K : Int) (a : Option Addr) (n c : Nat) (hm : ¬ markN p = 0) (h0 : 0 ≤ Q) (h1 : Q ≤ 4096) (h2 : ¬ 1 ≤ K) (w : World) :
    Calls Try.prog 14 #[.agg #[.int .u32 (p : Int), .int .i64 Q, .int .i64 K, .slice a n c]] w fun e w' => e = .returned (.bool false) ∧ w.grownBy w' none := by
  have M := hid (fun w => mark_any p w)
  obtain ⟨m, hmm⟩ : ∃ m : Int, (markN p : Int) = m := ⟨_, rfl⟩
  have hm0 : ¬ m = 0 := by omega
  have hm1 : (m != 0) = true := by simpa using hm0
  rw [hmm] at M
  clear hm hmm
  have d0 : decide (0 ≤ Q) = true := by simpa using h0
  have d1 : decide (Q ≤ 4096) = true := by simpa using h1
  have d2 : decide (1 ≤ K) = false := by simpa using h2
  clear h0 h1 h2
  go_enter Try.func14, Try.ntmps14
  go_wp2_with fail
  refine (M.out _).mono ?_
  rintro e w1 ⟨rfl, rfl⟩
  go_wp2_with fail
  go_ret
  exact ⟨rfl, gb_alloc (.refl w none) _⟩
set_option maxHeartbeats 1600000 in
theorem lmay_3 (p : Nat) (Q K : Int) (a : Option Addr) (n c : Nat) (hm : ¬ markN p = 0) (h0 : 0 ≤ Q) (h1 : Q ≤ 4096) (h2 : 1 ≤ K) (h3 : ¬ K ≤ 3) (w : World) :
    Calls Try.prog 14 #[.agg #[.int .u32 (p : Int), .int .i64 Q, .int .i64 K, .slice a n c]] w fun e w' => e = .returned (.bool false) ∧ w.grownBy w' none := by
  have M := hid (fun w => mark_any p w)
  obtain ⟨m, hmm⟩ : ∃ m : Int, (markN p : Int) = m := ⟨_, rfl⟩
  have hm0 : ¬ m = 0 := by omega
  have hm1 : (m != 0) = true := by simpa using hm0
  rw [hmm] at M
  clear hm hmm
  have d0 : decide (0 ≤ Q) = true := by simpa using h0
  have d1 : decide (Q ≤ 4096) = true := by simpa using h1
  have d2 : decide (1 ≤ K) = true := by simpa using h2
  have d3 : decide (K ≤ 3) = false := by simpa using h3
  clear h0 h1 h2 h3
  go_enter Try.func14, Try.ntmps14
  go_wp2_with fail
  refine (M.out _).mono ?_
  rintro e w1 ⟨rfl, rfl⟩
  go_wp2_with fail
  go_ret
  exact ⟨rfl, gb_alloc (.refl w none) _⟩
set_option maxHeartbeats 1600000 in
theorem lmay_4 (p : Nat) (Q K : Int) (a : Option Addr) (n c : Nat) (hm : ¬ markN p = 0) (h0 : 0 ≤ Q) (h1 : Q ≤ 4096) (h2 : 1 ≤ K) (h3 : K ≤ 3) (h4 : ¬ (n : Int) ≤ 48) (w : World) :
    Calls Try.prog 14 #[.agg #[.int .u32 (p : Int), .int .i64 Q, .int .i64 K, .slice a n c]] w fun e w' => e = .returned (.bool false) ∧ w.grownBy w' none := by
  have M := hid (fun w => mark_any p w)
  obtain ⟨m, hmm⟩ : ∃ m : Int, (markN p : Int) = m := ⟨_, rfl⟩
  have hm0 : ¬ m = 0 := by omega
  have hm1 : (m != 0) = true := by simpa using hm0
  rw [hmm] at M
  clear hm hmm
  have d0 : decide (0 ≤ Q) = true := by simpa using h0
  have d1 : decide (Q ≤ 4096) = true := by simpa using h1
  have d2 : decide (1 ≤ K) = true := by simpa using h2
  have d3 : decide (K ≤ 3) = true := by simpa using h3
  have d4 : decide ((n : Int) ≤ 48) = false := by simpa using h4
  clear h0 h1 h2 h3 h4
  go_enter Try.func14, Try.ntmps14
  go_wp2_with fail
  refine (M.out _).mono ?_
  rintro e w1 ⟨rfl, rfl⟩
  go_wp2_with fail
  go_ret
  exact ⟨rfl, gb_alloc (.refl w none) _⟩
set_option maxHeartbeats 1600000 in
theorem lmay_y (p : Nat) (Q K : Int) (a : Option Addr) (n c : Nat) (hm : ¬ markN p = 0) (h0 : 0 ≤ Q) (h1 : Q ≤ 4096) (h2 : 1 ≤ K) (h3 : K ≤ 3) (h4 : (n : Int) ≤ 48) (w : World) :
    Calls Try.prog 14 #[.agg #[.int .u32 (p : Int), .int .i64 Q, .int .i64 K, .slice a n c]] w fun e w' => e = .returned (.bool true) ∧ w.grownBy w' none := by
  have M := hid (fun w => mark_any p w)
  obtain ⟨m, hmm⟩ : ∃ m : Int, (markN p : Int) = m := ⟨_, rfl⟩
  have hm0 : ¬ m = 0 := by omega
  have hm1 : (m != 0) = true := by simpa using hm0
  rw [hmm] at M
  clear hm hmm
  have d0 : decide (0 ≤ Q) = true := by simpa using h0
  have d1 : decide (Q ≤ 4096) = true := by simpa using h1
  have d2 : decide (1 ≤ K) = true := by simpa using h2
  have d3 : decide (K ≤ 3) = true := by simpa using h3
  have d4 : decide ((n : Int) ≤ 48) = true := by simpa using h4
  clear h0 h1 h2 h3 h4
  go_enter Try.func14, Try.ntmps14
  go_wp2_with fail
  refine (M.out _).mono ?_
  rintro e w1 ⟨rfl, rfl⟩
  go_wp2_with fail
  go_ret
  exact ⟨rfl, gb_alloc (.refl w none) _⟩
theorem lmay_any (p : Nat) (Q K : Int) (a : Option Addr) (n c : Nat) (w : World) :
    Calls Try.prog 14 #[.agg #[.int .u32 (p : Int), .int .i64 Q, .int .i64 K, .slice a n c]] w fun e w' => e = .returned (.bool (mayN p Q K n)) ∧ w.grownBy w' none := by
  unfold mayN
  by_cases hm : markN p = 0
  · have := (markN_pos p).1 hm
    simpa [this] using lmay_m p Q K a n c hm w
  have hp : 1 ≤ p ∧ p ≤ 250 := Classical.not_not.1 fun h => hm ((markN_pos p).2 h)
  by_cases h0 : 0 ≤ Q
  case neg => simpa [hp, h0] using lmay_0 p Q K a n c hm h0 w
  by_cases h1 : Q ≤ 4096
  case neg => simpa [hp, h0, h1] using lmay_1 p Q K a n c hm h0 h1 w
  by_cases h2 : 1 ≤ K
  case neg => simpa [hp, h0, h1, h2] using lmay_2 p Q K a n c hm h0 h1 h2 w
  by_cases h3 : K ≤ 3
  case neg => simpa [hp, h0, h1, h2, h3] using lmay_3 p Q K a n c hm h0 h1 h2 h3 w
  by_cases h4 : (n : Int) ≤ 48
  case neg =>
    have h5 : ¬ n ≤ 48 := by omega
    simpa [hp, h0, h1, h2, h3, h5] using lmay_4 p Q K a n c hm h0 h1 h2 h3 h4 w
  have h5 : n ≤ 48 := by omega
  simpa [hp, h0, h1, h2, h3, h5] using lmay_y p Q K a n c hm h0 h1 h2 h3 h4 w
set_option maxHeartbeats 1600000 in
theorem rcmay_0 (p : Nat) (Q K : Int) (s : ByteArray) (h0 : ¬ (1 : Int) ≤ (p : Int)) (w : World) :
    Calls Try.prog 15 #[.agg #[.int .u32 (p : Int), .int .i64 Q, .int .i64 K, .string s]] w fun e w' => e = .returned (.bool false) ∧ w.grownBy w' none := by
  have d0 : decide ((1 : Int) ≤ (p : Int)) = false := by simpa using h0
  have e0 : decide (1 ≤ p) = false := by simp; omega
  clear h0
  go_enter Try.func15, Try.ntmps15
  go_wp2_with fail
  go_ret
  exact ⟨rfl, gb_alloc (.refl w none) _⟩
set_option maxHeartbeats 1600000 in
theorem rcmay_1 (p : Nat) (Q K : Int) (s : ByteArray) (h0 : (1 : Int) ≤ (p : Int)) (h1 : ¬ (p : Int) ≤ 250) (w : World) :
    Calls Try.prog 15 #[.agg #[.int .u32 (p : Int), .int .i64 Q, .int .i64 K, .string s]] w fun e w' => e = .returned (.bool false) ∧ w.grownBy w' none := by
  have d0 : decide ((1 : Int) ≤ (p : Int)) = true := by simpa using h0
  have e0 : decide (1 ≤ p) = true := by simp; omega
  have d1 : decide ((p : Int) ≤ 250) = false := by simpa using h1
  have e1 : decide (p ≤ 250) = false := by simp; omega
  clear h0 h1
  go_enter Try.func15, Try.ntmps15
  go_wp2_with fail
  go_ret
  exact ⟨rfl, gb_alloc (.refl w none) _⟩
set_option maxHeartbeats 1600000 in
theorem rcmay_2 (p : Nat) (Q K : Int) (s : ByteArray) (h0 : (1 : Int) ≤ (p : Int)) (h1 : (p : Int) ≤ 250) (h2 : ¬ 0 ≤ Q) (w : World) :
    Calls Try.prog 15 #[.agg #[.int .u32 (p : Int), .int .i64 Q, .int .i64 K, .string s]] w fun e w' => e = .returned (.bool false) ∧ w.grownBy w' none := by
  have d0 : decide ((1 : Int) ≤ (p : Int)) = true := by simpa using h0
  have e0 : decide (1 ≤ p) = true := by simp; omega
  have d1 : decide ((p : Int) ≤ 250) = true := by simpa using h1
  have e1 : decide (p ≤ 250) = true := by simp; omega
  have d2 : decide (0 ≤ Q) = false := by simpa using h2
  clear h0 h1 h2
  go_enter Try.func15, Try.ntmps15
  go_wp2_with fail
  go_ret
  exact ⟨rfl, gb_alloc (.refl w none) _⟩
set_option maxHeartbeats 1600000 in
theorem rcmay_3 (p : Nat) (Q K : Int) (s : ByteArray) (h0 : (1 : Int) ≤ (p : Int)) (h1 : (p : Int) ≤ 250) (h2 : 0 ≤ Q) (h3 : ¬ Q ≤ 4096) (w : World) :
    Calls Try.prog 15 #[.agg #[.int .u32 (p : Int), .int .i64 Q, .int .i64 K, .string s]] w fun e w' => e = .returned (.bool false) ∧ w.grownBy w' none := by
  have d0 : decide ((1 : Int) ≤ (p : Int)) = true := by simpa using h0
  have e0 : decide (1 ≤ p) = true := by simp; omega
  have d1 : decide ((p : Int) ≤ 250) = true := by simpa using h1
  have e1 : decide (p ≤ 250) = true := by simp; omega
  have d2 : decide (0 ≤ Q) = true := by simpa using h2
  have d3 : decide (Q ≤ 4096) = false := by simpa using h3
  clear h0 h1 h2 h3
  go_enter Try.func15, Try.ntmps15
  go_wp2_with fail
  go_ret
  exact ⟨rfl, gb_alloc (.refl w none) _⟩
set_option maxHeartbeats 1600000 in
theorem rcmay_4 (p : Nat) (Q K : Int) (s : ByteArray) (h0 : (1 : Int) ≤ (p : Int)) (h1 : (p : Int) ≤ 250) (h2 : 0 ≤ Q) (h3 : Q ≤ 4096) (h4 : ¬ 1 ≤ K) (w : World) :
    Calls Try.prog 15 #[.agg #[.int .u32 (p : Int), .int .i64 Q, .int .i64 K, .string s]] w fun e w' => e = .returned (.bool false) ∧ w.grownBy w' none := by
  have d0 : decide ((1 : Int) ≤ (p : Int)) = true := by simpa using h0
  have e0 : decide (1 ≤ p) = true := by simp; omega
  have d1 : decide ((p : Int) ≤ 250) = true := by simpa using h1
  have e1 : decide (p ≤ 250) = true := by simp; omega
  have d2 : decide (0 ≤ Q) = true := by simpa using h2
  have d3 : decide (Q ≤ 4096) = true := by simpa using h3
  have d4 : decide (1 ≤ K) = false := by simpa using h4
  clear h0 h1 h2 h3 h4
  go_enter Try.func15, Try.ntmps15
  go_wp2_with fail
  go_ret
  exact ⟨rfl, gb_alloc (.refl w none) _⟩
set_option maxHeartbeats 1600000 in
theorem rcmay_5 (p : Nat) (Q K : Int) (s : ByteArray) (h0 : (1 : Int) ≤ (p : Int)) (h1 : (p : Int) ≤ 250) (h2 : 0 ≤ Q) (h3 : Q ≤ 4096) (h4 : 1 ≤ K) (h5 : ¬ K ≤ 3) (w : World) :
    Calls Try.prog 15 #[.agg #[.int .u32 (p : Int), .int .i64 Q, .int .i64 K, .string s]] w fun e w' => e = .returned (.bool false) ∧ w.grownBy w' none := by
  have d0 : decide ((1 : Int) ≤ (p : Int)) = true := by simpa using h0
  have e0 : decide (1 ≤ p) = true := by simp; omega
  have d1 : decide ((p : Int) ≤ 250) = true := by simpa using h1
  have e1 : decide (p ≤ 250) = true := by simp; omega
  have d2 : decide (0 ≤ Q) = true := by simpa using h2
  have d3 : decide (Q ≤ 4096) = true := by simpa using h3
  have d4 : decide (1 ≤ K) = true := by simpa using h4
  have d5 : decide (K ≤ 3) = false := by simpa using h5
  clear h0 h1 h2 h3 h4 h5
  go_enter Try.func15, Try.ntmps15
  go_wp2_with fail
  go_ret
  exact ⟨rfl, gb_alloc (.refl w none) _⟩
set_option maxHeartbeats 1600000 in
theorem rcmay_6 (p : Nat) (Q K : Int) (s : ByteArray) (h0 : (1 : Int) ≤ (p : Int)) (h1 : (p : Int) ≤ 250) (h2 : 0 ≤ Q) (h3 : Q ≤ 4096) (h4 : 1 ≤ K) (h5 : K ≤ 3) (h6 : ¬ (s.size : Int) ≤ 48) (w : World) :
    Calls Try.prog 15 #[.agg #[.int .u32 (p : Int), .int .i64 Q, .int .i64 K, .string s]] w fun e w' => e = .returned (.bool false) ∧ w.grownBy w' none := by
  have d0 : decide ((1 : Int) ≤ (p : Int)) = true := by simpa using h0
  have e0 : decide (1 ≤ p) = true := by simp; omega
  have d1 : decide ((p : Int) ≤ 250) = true := by simpa using h1
  have e1 : decide (p ≤ 250) = true := by simp; omega
  have d2 : decide (0 ≤ Q) = true := by simpa using h2
  have d3 : decide (Q ≤ 4096) = true := by simpa using h3
  have d4 : decide (1 ≤ K) = true := by simpa using h4
  have d5 : decide (K ≤ 3) = true := by simpa using h5
  have d6 : decide ((s.size : Int) ≤ 48) = false := by simpa using h6
  have e6 : decide (s.size ≤ 48) = false := by simp; omega
  clear h0 h1 h2 h3 h4 h5 h6
  go_enter Try.func15, Try.ntmps15
  go_wp2_with fail
  go_ret
  exact ⟨rfl, gb_alloc (.refl w none) _⟩
set_option maxHeartbeats 1600000 in
theorem rcmay_y (p : Nat) (Q K : Int) (s : ByteArray) (h0 : (1 : Int) ≤ (p : Int)) (h1 : (p : Int) ≤ 250) (h2 : 0 ≤ Q) (h3 : Q ≤ 4096) (h4 : 1 ≤ K) (h5 : K ≤ 3) (h6 : (s.size : Int) ≤ 48) (w : World) :
    Calls Try.prog 15 #[.agg #[.int .u32 (p : Int), .int .i64 Q, .int .i64 K, .string s]] w fun e w' => e = .returned (.bool true) ∧ w.grownBy w' none := by
  have d0 : decide ((1 : Int) ≤ (p : Int)) = true := by simpa using h0
  have e0 : decide (1 ≤ p) = true := by simp; omega
  have d1 : decide ((p : Int) ≤ 250) = true := by simpa using h1
  have e1 : decide (p ≤ 250) = true := by simp; omega
  have d2 : decide (0 ≤ Q) = true := by simpa using h2
  have d3 : decide (Q ≤ 4096) = true := by simpa using h3
  have d4 : decide (1 ≤ K) = true := by simpa using h4
  have d5 : decide (K ≤ 3) = true := by simpa using h5
  have d6 : decide ((s.size : Int) ≤ 48) = true := by simpa using h6
  have e6 : decide (s.size ≤ 48) = true := by simp; omega
  clear h0 h1 h2 h3 h4 h5 h6
  go_enter Try.func15, Try.ntmps15
  go_wp2_with fail
  go_ret
  exact ⟨rfl, gb_alloc (.refl w none) _⟩
theorem rcmay_any (p : Nat) (Q K : Int) (s : ByteArray) (w : World) :
    Calls Try.prog 15 #[.agg #[.int .u32 (p : Int), .int .i64 Q, .int .i64 K, .string s]] w fun e w' => e = .returned (.bool (mayN p Q K s.size)) ∧ w.grownBy w' none := by
  unfold mayN
  by_cases h0 : (1 : Int) ≤ (p : Int)
  case neg =>
    have g : ¬ (1 ≤ p ∧ p ≤ 250) := by omega
    simpa [g] using rcmay_0 p Q K s h0 w
  by_cases h1 : (p : Int) ≤ 250
  case neg =>
    have g : ¬ (1 ≤ p ∧ p ≤ 250) := by omega
    simpa [g] using rcmay_1 p Q K s h0 h1 w
  have g : 1 ≤ p ∧ p ≤ 250 := by omega
  by_cases h2 : 0 ≤ Q
  case neg => simpa [g, h2] using rcmay_2 p Q K s h0 h1 h2 w
  by_cases h3 : Q ≤ 4096
  case neg => simpa [g, h2, h3] using rcmay_3 p Q K s h0 h1 h2 h3 w
  by_cases h4 : 1 ≤ K
  case neg => simpa [g, h2, h3, h4] using rcmay_4 p Q K s h0 h1 h2 h3 h4 w
  by_cases h5 : K ≤ 3
  case neg => simpa [g, h2, h3, h4, h5] using rcmay_5 p Q K s h0 h1 h2 h3 h4 h5 w
  by_cases h6 : (s.size : Int) ≤ 48
  case neg =>
    have h7 : ¬ s.size ≤ 48 := by omega
    simpa [g, h2, h3, h4, h5, h7] using rcmay_6 p Q K s h0 h1 h2 h3 h4 h5 h6 w
  have h7 : s.size ≤ 48 := by omega
  simpa [g, h2, h3, h4, h5, h7] using rcmay_y p Q K s h0 h1 h2 h3 h4 h5 h6 w
/-- a cell's first eight bytes as a number; its last eight -/
def headW (p Q K n : Int) : BitVec 64 := BitVec.ofInt 64 p ||| BitVec.ofInt 64 Q <<< 32 ||| BitVec.ofInt 64 K <<< 48 ||| BitVec.ofInt 64 n <<< 56
def tailW (s m : Int) : BitVec 64 := BitVec.ofInt 64 s ||| BitVec.ofInt 64 m <<< 56
set_option maxHeartbeats 1600000 in
theorem lhead_any (p : Nat) (Q K : Int) (a : Option Addr) (n c : Nat) (w : World) :
    Calls Try.prog 23 #[.agg #[.int .u32 (p : Int), .int .i64 Q, .int .i64 K, .slice a n c]] w fun e w' => e = .returned (.int .u64 (q (headW p Q K n))) ∧ w.grownBy w' none := by
  have h1 := q_lit (p : Int); have h2 := q_lit Q; have h3 := q_lit K; have h4 := q_lit (n : Int)
  unfold headW
  generalize BitVec.ofInt 64 (p : Int) = P at *; generalize BitVec.ofInt 64 Q = A at *; generalize BitVec.ofInt 64 K = B at *; generalize BitVec.ofInt 64 (n : Int) = D at *
  go_enter Try.func23, Try.ntmps23
  go_wp2_with fail
  go_ret
  exact ⟨rfl, gb_alloc (.refl w none) _⟩
set_option maxHeartbeats 1600000 in
theorem ltail_any (p s : Nat) (w : World) :
    Calls Try.prog 24 #[.int .u32 (p : Int), .int .u32 (s : Int)] w fun e w' => e = .returned (.int .u64 (q (tailW s (markN p)))) ∧ w = w' := by
  have M := hid (fun w => mark_any p w)
  have h1 := q_lit (s : Int); have h2 := q_lit (markN p : Int)
  unfold tailW
  generalize BitVec.ofInt 64 (s : Int) = P at *; generalize BitVec.ofInt 64 (markN p : Int) = A at *
  generalize (markN p : Int) = m at *
  go_enter Try.func24, Try.ntmps24
  go_wp2_with fail
  refine (M.out _).mono ?_
  rintro e w1 ⟨rfl, rfl⟩
  go_wp2_with fail
  go_ret
  exact ⟨rfl, rfl⟩
end Go.Proofs.Ytjebmlmjbnaghaa
