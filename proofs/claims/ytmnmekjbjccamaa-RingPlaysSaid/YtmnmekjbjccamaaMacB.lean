/-
  Contracts for package mac: a tag's bytes, whether two tags are the same. No condition.
-/
import Derived.Test.YtmnmekjbjccamaaMac
import Derived.Test.YtmnmekjbjccamaaPut
import Derived.Test.YtmnmekjbjccamaaStep
set_option linter.unusedSimpArgs false
namespace Go.Proofs.Ytmnmekjbjccamaa
set_option maxRecDepth 100000
open Go.RowKit

theorem own_put {w : World} {b base : Nat} (n : BitVec 64) (h : w.heap[b]? = some (.cells (putArr n 8) 5)) (hb : base ≤ b) : OwnB base w (.slice (some ⟨b, 0, none⟩) 8 8) (put8 n) :=
  own_block (put8 n) (by rw [h, putArr_full]; rfl) (by rw [put8_length]; unfold maxLen; decide) hb
/-- the function's own block: what came in; all else as it was, or new -/
structure Boxb (w : World) (x y : BitVec 64) (t : TypeId) (w' : World) : Prop where
  box : w'.heap[w.heap.size]? = some (.cells #[.int .u64 (q x), .int .u64 (q y)] t)
  g : w.grownBy w' none
theorem Boxb.grown {w : World} {x y : BitVec 64} {t : TypeId} {w1 w2 : World} (h : Boxb w x y t w1) (hg : w1.grownBy w2 none) : Boxb w x y t w2 := ⟨at_grown h.box hg (by simp), gb_trans h.g hg (.inl rfl)⟩
theorem Boxb.drew {w : World} {x y : BitVec 64} {t : TypeId} {w1 : World} (h : Boxb w x y t w1) : Boxb w x y t w1.drew := ⟨h.box, gb_drew h.g⟩
theorem Boxb.size {w : World} {x y : BitVec 64} {t : TypeId} {w1 : World} (h : Boxb w x y t w1) : w.heap.size + 1 ≤ w1.heap.size := at_lt h.box
theorem Boxb.own {w : World} {x y : BitVec 64} {t : TypeId} {w1 w2 : World} {v : Value} {l : List UInt8} (h : Boxb w x y t w1) (ho : OwnB (w.heap.size + 1) w1 v l) (hg : w1.grownBy w2 v.ownBlock) : Boxb w x y t w2 :=
  ⟨at_own h.box ho (by omega) hg, gb_own h.g ho (by omega) hg⟩
theorem Boxb.keep {w : World} {x y : BitVec 64} {t : TypeId} {w' : World} (h : Boxb w x y t w') :
    w'.cell? ⟨w.heap.size, 0, none⟩ = some (.int .u64 (q x)) ∧ w'.cell? ⟨w.heap.size, 1, none⟩ = some (.int .u64 (q y)) ∧ Boxb w x y t w' := ⟨at_cell h.box 0, at_cell h.box 1, h⟩
section
variable {P Q : Prop} {w wc : World} {x y : BitVec 64} {t : TypeId}
theorem boxb_box (h : P ∧ Q ∧ Boxb w x y t wc) : Boxb w x y t wc := h.2.2
end

set_option maxHeartbeats 1600000 in
theorem bytes_any (t0 t1 : BitVec 64) (w : World) :
    Calls Try.prog 9 #[pair t0 t1] w fun e w' => ∃ v, e = .returned v ∧ OwnB w.heap.size w' v (put8 t0 ++ put8 t1) ∧ w.grownBy w' none := by
  go_enter Try.func9, Try.ntmps9
  go_wp2_with fail
  have hb : Boxb w t0 t1 30 (w.alloc (.cells #[.int .u64 (q t0), .int .u64 (q t1)] 30)) := ⟨at_new w _, gb_alloc (.refl w none) _⟩
  have HB := hid hb
  obtain ⟨k0, k1, _⟩ := hb.keep
  clear hb
  have hs : (w.alloc (.cells #[.int .u64 (q t0), .int .u64 (q t1)] 30)).drew.heap.size = w.heap.size + 1 := size_alloc _ _
  go_region_held3 (fun w' => w'.cell? ⟨w.heap.size, 0, none⟩ = some (.int .u64 (q t0)) ∧ w'.cell? ⟨w.heap.size, 1, none⟩ = some (.int .u64 (q t1)) ∧ Boxb w t0 t1 30 w')
    ((refine Boxb.keep (t := 30) ?_; (repeat (first | assumption | with_reducible exact HB.out | with_reducible refine Boxb.drew ?_ | exact boxb_box (by assumption) | with_reducible refine Boxb.grown ?_ (by assumption)))))
    (first
      | (go_at_call 33; (with_reducible refine (put_any t0 _).mono ?_); rintro e wa ⟨rfl, ha, hga⟩; rw [hs] at ha; have oa := own_put t0 ha (Nat.le_refl _))
      | (go_at_call 33; (with_reducible refine (put_any t1 _).mono ?_); rintro e wb ⟨rfl, hb, hgb⟩; have ob := own_put t1 hb (Boxb.size (boxb_box (by assumption))))
      | (refine step_append_bytes (by rfl) _ _ (by rfl) (w.heap.size + 1) _ (put8 t0) (by rfl) (by first | assumption | exact OwnB.grown (by assumption) (by assumption) (by simp)) _ (put8 t1) (by rfl) (OwnB.bytes (by assumption)) (by simp [put8_length]) (Boxb.size (boxb_box (by assumption))) ?_; intro v1 w6 hown1 hgrow1 hat1; have g6 := Boxb.own (boxb_box (by assumption)) (by first | assumption | exact OwnB.grown (by assumption) (by assumption) (by simp)) hgrow1))
  clear hs k0 k1 HB
  go_wp2_with fail
  go_ret
  exact ⟨v1, rfl, hown1.le (by omega), g6.g⟩

theorem same_bits (t0 t1 u0 u1 : BitVec 64) : (q (t0 ^^^ u0 ||| t1 ^^^ u1) == 0) = (t0 == u0 && t1 == u1) := by
  rw [show (0 : Int) = q 0#64 by decide +kernel, q_beq]
  by_cases h0 : t0 = u0
  · by_cases h1 : t1 = u1
    · subst h0; subst h1; simp
    · subst h0
      have : ¬ (t1 ^^^ u1 = 0#64) := fun e => h1 (BitVec.xor_eq_zero_iff.1 e)
      rw [BitVec.xor_self, BitVec.zero_or, beq_eq_false_iff_ne.2 this, beq_eq_false_iff_ne.2 h1]; simp
  · have : ¬ (t0 ^^^ u0 = 0#64) := fun e => h0 (BitVec.xor_eq_zero_iff.1 e)
    have h2 : ¬ ((t0 ^^^ u0) ||| (t1 ^^^ u1) = 0#64) := fun e => this (BitVec.or_eq_zero_iff.1 e).1
    rw [beq_eq_false_iff_ne.2 h2]; simp [h0]

set_option maxHeartbeats 1600000 in
theorem same_any (t0 t1 u0 u1 : BitVec 64) (w : World) :
    Calls Try.prog 10 #[pair t0 t1, pair u0 u1] w fun e w' => e = .returned (.bool (t0 == u0 && t1 == u1)) ∧ w.grownBy w' none := by
  rw [← same_bits]
  go_enter Try.func10, Try.ntmps10
  go_wp2_with fail
  go_ret
  exact ⟨rfl, gb_alloc (gb_alloc (.refl w none) _) _⟩
end Go.Proofs.Ytmnmekjbjccamaa
