/-
  What the law LogAsks has in common on both sides: cells put and told; the law's own comparison of two cells that are the same. No condition.
-/
import Derived.Test.YtjebmlmjbnaghaaLgN
set_option linter.unusedSimpArgs false
set_option linter.unusedVariables false
namespace Go.Proofs.Ytjebmlmjbnaghaa
set_option maxRecDepth 100000
open Go.RowKit

set_option maxHeartbeats 1600000 in
theorem lsame_walk (P : Int) (Q K : Int) (p : Option Addr) (n k : Nat) (X : ByteArray) (w : World)
    (hx : ∀ W, w.grownBy W none → (convert 23 9 (.slice p n k)).run Try.prog W = .ok (.string X) W) :
    Calls Try.prog 16 #[.agg #[.int .u32 P, .int .i64 Q, .int .i64 K, .slice p n k], .agg #[.int .u32 P, .int .i64 Q, .int .i64 K, .string X]] w fun e w' => e = .returned (.bool true) ∧ w.grownBy w' none := by
  have g0 := hid (show w.grownBy ((w.alloc (.cells #[.int .u32 P, .int .i64 Q, .int .i64 K, .slice p n k] 31)).alloc (.cells #[.int .u32 P, .int .i64 Q, .int .i64 K, .string X] 28)) none from gb_alloc (gb_alloc (.refl w none) _) _)
  have cv := hx _ g0.out
  clear hx
  go_enter Try.func16, Try.ntmps16
  go_wp2_with fail
  go_ret
  exact ⟨rfl, g0.out⟩
theorem lsame_yes (g : Cl) {p : Option Addr} {n k : Nat} (w : World) (hb : BytesAt w (.slice p n k) g.data) :
    Calls Try.prog 16 #[.agg (clV g (.slice p n k)), .agg (clD g)] w fun e w' => e = .returned (.bool true) ∧ w.grownBy w' none :=
  lsame_walk _ _ _ p n k _ w (fun W hg => conv_bytes (hb.grown hg (by simp)))
/-- Put on both sides -/
theorem put_both (p : Nat) (Q K : Int) (l : List UInt8) : ∃ (PL : List UInt8) (Z : Int),
    (∀ (v : Value) (W : World), BytesAt W v l → Calls Try.prog 10 #[.agg #[.int .u32 (p : Int), .int .i64 Q, .int .i64 K, v]] W fun e w' => ∃ a n c, e = .returned (.tuple #[.slice a n c, .int .i64 Z]) ∧ BytesAt w' (.slice a n c) PL ∧ W.grownBy w' none) ∧
    (∀ W : World, Calls Try.prog 11 #[.agg #[.int .u32 (p : Int), .int .i64 Q, .int .i64 K, .string ⟨l.toArray⟩]] W fun e w' => e = .returned (.tuple #[.string ⟨PL.toArray⟩, .int .i64 Z]) ∧ W.grownBy w' none) := by
  cases h : mayN p Q K l.length with
  | false =>
    refine ⟨[], 1, fun v W hv => ?_, fun W => ?_⟩
    · obtain ⟨a, c, rfl⟩ := hv.form
      refine (lput_bad p Q K a l.length c h W).mono ?_
      rintro e w' ⟨rfl, hg⟩
      exact ⟨none, 0, 0, rfl, .inl ⟨rfl, rfl⟩, hg⟩
    · exact rcput_bad p Q K ⟨l.toArray⟩ h W
  | true =>
    have h' := h
    unfold mayN at h'
    simp only [Bool.and_eq_true, decide_eq_true_eq] at h'
    obtain ⟨q, rfl⟩ : ∃ q : Nat, Q = (q : Int) := ⟨Q.toNat, by omega⟩
    obtain ⟨k, rfl⟩ : ∃ k : Nat, K = (k : Int) := ⟨K.toNat, by omega⟩
    have hm : (⟨p, q, k, l⟩ : Cl).May := may_of_cl h
    refine ⟨putL ⟨p, q, k, l⟩, 0, fun v W hv => ?_, fun W => rcput_good ⟨p, q, k, l⟩ hm rfl rfl rfl W⟩
    refine (lput_good ⟨p, q, k, l⟩ hm v W hv).mono ?_
    rintro e w' ⟨u, rfl, ho, hg⟩
    obtain ⟨a, c, rfl⟩ := ho.form
    exact ⟨a, _, c, rfl, ho.bytes, hg⟩
end Go.Proofs.Ytjebmlmjbnaghaa
