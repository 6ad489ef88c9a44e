/-
  Contracts: whether a message may be, as the program and as the document has it; a message's first eight bytes as a number. No condition.
-/
import Derived.Test.YtjmcjkmfpcphnaaWMay
set_option linter.unusedSimpArgs false
namespace Go.Proofs.Ytjmcjkmfpcphnaa
set_option maxRecDepth 100000
open Go.RowKit

set_option maxHeartbeats 3200000 in
theorem may_any (m : Mg) (w : World) :
    Calls Try.prog 17 #[mg m] w fun e w' => e = .returned (.bool (mayOf m)) ∧ w.grownBy w' none := by
  rw [may_bool]
  have hx1 := fun w => within_any m.kind 1 3 w
  have hx2 := fun w => within_any m.who 0 15 w
  have hx3 := fun w => within_any m.gen 0 60000 w
  have hx4 := fun w => within64_any m.seq 1 1099511627776 w
  have hx5 := fun w => within64_any m.epoch 0 1099511627776 w
  have hx6 := fun w => measures_any m w
  generalize within m.kind 1 3 = x1 at hx1 ⊢
  generalize within m.who 0 15 = x2 at hx2 ⊢
  generalize within m.gen 0 60000 = x3 at hx3 ⊢
  generalize within m.seq 1 1099511627776 = x4 at hx4 ⊢
  generalize within m.epoch 0 1099511627776 = x5 at hx5 ⊢
  generalize measB m = x6 at hx6 ⊢
  have Cx1 := hid hx1; have Cx2 := hid hx2; have Cx3 := hid hx3; have Cx4 := hid hx4; have Cx5 := hid hx5; have Cx6 := hid hx6; clear hx1 hx2 hx3 hx4 hx5 hx6
  cases x1
  · go_enter Try.func17, Try.ntmps17
    go_wp2_with (first | (go_at_call 32; (with_reducible refine (Cx1.out _).mono ?_); rintro e w1 ⟨rfl, rfl⟩) | (go_at_call 32; (with_reducible refine (Cx2.out _).mono ?_); rintro e w1 ⟨rfl, rfl⟩) | (go_at_call 32; (with_reducible refine (Cx3.out _).mono ?_); rintro e w1 ⟨rfl, rfl⟩) | (go_at_call 33; (with_reducible refine (Cx4.out _).mono ?_); rintro e w1 ⟨rfl, rfl⟩) | (go_at_call 33; (with_reducible refine (Cx5.out _).mono ?_); rintro e w1 ⟨rfl, rfl⟩) | (go_at_call 34; (with_reducible refine (Cx6.out _).mono ?_); rintro e w1 ⟨rfl, hg⟩; have G := hid hg; clear hg))
    go_ret
    exact ⟨rfl, gb_alloc (.refl w none) _⟩
  cases x2
  · go_enter Try.func17, Try.ntmps17
    go_wp2_with (first | (go_at_call 32; (with_reducible refine (Cx1.out _).mono ?_); rintro e w1 ⟨rfl, rfl⟩) | (go_at_call 32; (with_reducible refine (Cx2.out _).mono ?_); rintro e w1 ⟨rfl, rfl⟩) | (go_at_call 32; (with_reducible refine (Cx3.out _).mono ?_); rintro e w1 ⟨rfl, rfl⟩) | (go_at_call 33; (with_reducible refine (Cx4.out _).mono ?_); rintro e w1 ⟨rfl, rfl⟩) | (go_at_call 33; (with_reducible refine (Cx5.out _).mono ?_); rintro e w1 ⟨rfl, rfl⟩) | (go_at_call 34; (with_reducible refine (Cx6.out _).mono ?_); rintro e w1 ⟨rfl, hg⟩; have G := hid hg; clear hg))
    go_ret
    exact ⟨rfl, gb_alloc (.refl w none) _⟩
  cases x3
  · go_enter Try.func17, Try.ntmps17
    go_wp2_with (first | (go_at_call 32; (with_reducible refine (Cx1.out _).mono ?_); rintro e w1 ⟨rfl, rfl⟩) | (go_at_call 32; (with_reducible refine (Cx2.out _).mono ?_); rintro e w1 ⟨rfl, rfl⟩) | (go_at_call 32; (with_reducible refine (Cx3.out _).mono ?_); rintro e w1 ⟨rfl, rfl⟩) | (go_at_call 33; (with_reducible refine (Cx4.out _).mono ?_); rintro e w1 ⟨rfl, rfl⟩) | (go_at_call 33; (with_reducible refine (Cx5.out _).mono ?_); rintro e w1 ⟨rfl, rfl⟩) | (go_at_call 34; (with_reducible refine (Cx6.out _).mono ?_); rintro e w1 ⟨rfl, hg⟩; have G := hid hg; clear hg))
    go_ret
    exact ⟨rfl, gb_alloc (.refl w none) _⟩
  cases x4
  · go_enter Try.func17, Try.ntmps17
    go_wp2_with (first | (go_at_call 32; (with_reducible refine (Cx1.out _).mono ?_); rintro e w1 ⟨rfl, rfl⟩) | (go_at_call 32; (with_reducible refine (Cx2.out _).mono ?_); rintro e w1 ⟨rfl, rfl⟩) | (go_at_call 32; (with_reducible refine (Cx3.out _).mono ?_); rintro e w1 ⟨rfl, rfl⟩) | (go_at_call 33; (with_reducible refine (Cx4.out _).mono ?_); rintro e w1 ⟨rfl, rfl⟩) | (go_at_call 33; (with_reducible refine (Cx5.out _).mono ?_); rintro e w1 ⟨rfl, rfl⟩) | (go_at_call 34; (with_reducible refine (Cx6.out _).mono ?_); rintro e w1 ⟨rfl, hg⟩; have G := hid hg; clear hg))
    go_ret
    exact ⟨rfl, gb_alloc (.refl w none) _⟩
  cases x5
  · go_enter Try.func17, Try.ntmps17
    go_wp2_with (first | (go_at_call 32; (with_reducible refine (Cx1.out _).mono ?_); rintro e w1 ⟨rfl, rfl⟩) | (go_at_call 32; (with_reducible refine (Cx2.out _).mono ?_); rintro e w1 ⟨rfl, rfl⟩) | (go_at_call 32; (with_reducible refine (Cx3.out _).mono ?_); rintro e w1 ⟨rfl, rfl⟩) | (go_at_call 33; (with_reducible refine (Cx4.out _).mono ?_); rintro e w1 ⟨rfl, rfl⟩) | (go_at_call 33; (with_reducible refine (Cx5.out _).mono ?_); rintro e w1 ⟨rfl, rfl⟩) | (go_at_call 34; (with_reducible refine (Cx6.out _).mono ?_); rintro e w1 ⟨rfl, hg⟩; have G := hid hg; clear hg))
    go_ret
    exact ⟨rfl, gb_alloc (.refl w none) _⟩
  cases x6
  · go_enter Try.func17, Try.ntmps17
    go_wp2_with (first | (go_at_call 32; (with_reducible refine (Cx1.out _).mono ?_); rintro e w1 ⟨rfl, rfl⟩) | (go_at_call 32; (with_reducible refine (Cx2.out _).mono ?_); rintro e w1 ⟨rfl, rfl⟩) | (go_at_call 32; (with_reducible refine (Cx3.out _).mono ?_); rintro e w1 ⟨rfl, rfl⟩) | (go_at_call 33; (with_reducible refine (Cx4.out _).mono ?_); rintro e w1 ⟨rfl, rfl⟩) | (go_at_call 33; (with_reducible refine (Cx5.out _).mono ?_); rintro e w1 ⟨rfl, rfl⟩) | (go_at_call 34; (with_reducible refine (Cx6.out _).mono ?_); rintro e w1 ⟨rfl, hg⟩; have G := hid hg; clear hg))
    go_ret
    exact ⟨rfl, gb_trans (gb_alloc (.refl w none) _) G.out (.inl rfl)⟩
  go_enter Try.func17, Try.ntmps17
  go_wp2_with (first | (go_at_call 32; (with_reducible refine (Cx1.out _).mono ?_); rintro e w1 ⟨rfl, rfl⟩) | (go_at_call 32; (with_reducible refine (Cx2.out _).mono ?_); rintro e w1 ⟨rfl, rfl⟩) | (go_at_call 32; (with_reducible refine (Cx3.out _).mono ?_); rintro e w1 ⟨rfl, rfl⟩) | (go_at_call 33; (with_reducible refine (Cx4.out _).mono ?_); rintro e w1 ⟨rfl, rfl⟩) | (go_at_call 33; (with_reducible refine (Cx5.out _).mono ?_); rintro e w1 ⟨rfl, rfl⟩) | (go_at_call 34; (with_reducible refine (Cx6.out _).mono ?_); rintro e w1 ⟨rfl, hg⟩; have G := hid hg; clear hg))
  go_ret
  exact ⟨rfl, gb_trans (gb_alloc (.refl w none) _) G.out (.inl rfl)⟩

theorem q_or_one (x : BitVec 64) : bits .or .u64 1 (q x) = q (1#64 ||| x) := by
  rw [show (1 : Int) = q 1#64 by decide +kernel, q_or]
set_option maxHeartbeats 1600000 in
theorem head_any (m : Mg) (w : World) :
    Calls Try.prog 24 #[mg m] w fun e w' => e = .returned (.int .u64 (q (headOf m))) ∧ w.grownBy w' none := by
  have h1 := q_lit m.kind; have h2 := q_lit m.who; have h3 := q_lit m.metric; have h4 := q_lit m.gen
  have hor := q_or_one (w64 m.kind <<< 8)
  unfold headOf
  rw [← show w64 m.kind = BitVec.ofInt 64 m.kind from rfl] at h1
  rw [← show w64 m.who = BitVec.ofInt 64 m.who from rfl] at h2
  rw [← show w64 m.metric = BitVec.ofInt 64 m.metric from rfl] at h3
  rw [← show w64 m.gen = BitVec.ofInt 64 m.gen from rfl] at h4
  go_enter Try.func24, Try.ntmps24
  go_wp2_with fail
  go_ret
  exact ⟨rfl, gb_alloc (.refl w none) _⟩
end Go.Proofs.Ytjmcjkmfpcphnaa
