/-
  Contract: the law's own examples: the program tells what the document says of a few numbers. No condition.
-/
import Derived.Test.YtfobddicokogpaaRaM
import Derived.Test.YtfobddicokogpaaLn
set_option linter.unusedSimpArgs false
set_option linter.unusedVariables false
namespace Go.Proofs.Ytfobddicokogpaa
set_option maxRecDepth 100000
open Go.RowKit

section
variable {v u : Value} {vs ts : List Int} {w : World} {c x y t l z : Int} {b : Bool}
theorem want_as (hz : raWant c x t l = z) : Calls Try.prog 14 #[.int .i64 c, .int .i64 x, .int .i64 t, .int .i64 l] w fun e w' => e = .returned (.int .i64 z) ∧ w = w' := hz ▸ rwant_any c x t l w
theorem in_as (hz : raIn x t l = b) : Calls Try.prog 12 #[.int .i64 x, .int .i64 t, .int .i64 l] w fun e w' => e = .returned (.bool b) ∧ w = w' := hz ▸ rin_any x t l w
theorem most_as (h : IntsAt w v vs) (h2 : IntsAt w u ts) (hz : raMost c vs ts l = (z, b)) : Calls Try.prog 10 #[.int .i64 c, v, u, .int .i64 l] w fun e w' => e = .returned (.tuple #[.int .i64 z, .bool b]) ∧ w.grownBy w' none := by
  have r := rmost_any c l v u vs ts w h h2
  rw [hz] at r; exact r
end

set_option maxHeartbeats 3200000 in
theorem told_any (w : World) :
    Calls Try.prog 9 #[] w fun e w' => e = .returned (.bool true) ∧ w.grownBy w' none := by
  have m1 := hid (show raMost 4 [1500, 500] [1000, 1000] 100 = (6, true) by decide)
  have m2 := hid (show raMost 4 [] [] 100 = (0, false) by decide)
  have m3 := hid (show raWant 4 1500 1000 100 = 6 by decide)
  have m4 := hid (show raWant 4 1100 1000 100 = 4 by decide)
  have m5 := hid (show raWant 4 1101 1000 100 = 5 by decide)
  have m6 := hid (show raWant 4 900 1000 100 = 4 by decide)
  have m7 := hid (show raWant 4 0 1000 100 = 0 by decide)
  have m8 := hid (show raWant (-1) 1500 1000 100 = 0 by decide)
  have m9 := hid (show raIn 900 1000 100 = true by decide)
  have m10 := hid (show raIn 899 1000 100 = false by decide)
  have m11 := hid (show raIn (-1) 1 1000 = false by decide)
  go_enter Try.func9, Try.ntmps9
  go_wp2_with fail
  refine (most_as ((lit_new _ [1500, 500] _ rfl 2 rfl (le_max _ (by decide))).grown (World.grownBy_alloc _ _ none)) (lit_new2 _ _ [1000, 1000] _ rfl 2 rfl (le_max _ (by decide))) m1.out).mono ?_
  rintro e w1 ⟨rfl, hg⟩
  have G1 := hid (gb_trans (gb_alloc (World.grownBy_alloc w _ none) _) hg (.inl rfl))
  clear hg
  go_wp2_with fail
  refine (most_as (IntsAt.nil _) (IntsAt.nil _) m2.out).mono ?_
  rintro e w2 ⟨rfl, hg⟩
  have G2 := hid (gb_trans G1.out hg (.inl rfl))
  clear hg G1
  go_wp2_with fail
  refine (want_as m3.out).mono ?_
  rintro e w9 ⟨rfl, rfl⟩
  go_wp2_with fail
  refine (want_as m4.out).mono ?_
  rintro e w9 ⟨rfl, rfl⟩
  go_wp2_with fail
  refine (want_as m5.out).mono ?_
  rintro e w9 ⟨rfl, rfl⟩
  go_wp2_with fail
  refine (want_as m6.out).mono ?_
  rintro e w9 ⟨rfl, rfl⟩
  go_wp2_with fail
  refine (want_as m7.out).mono ?_
  rintro e w9 ⟨rfl, rfl⟩
  go_wp2_with fail
  refine (want_as m8.out).mono ?_
  rintro e w9 ⟨rfl, rfl⟩
  go_wp2_with fail
  refine (in_as m9.out).mono ?_
  rintro e w9 ⟨rfl, rfl⟩
  go_wp2_with fail
  refine (in_as m10.out).mono ?_
  rintro e w9 ⟨rfl, rfl⟩
  go_wp2_with fail
  refine (in_as m11.out).mono ?_
  rintro e w9 ⟨rfl, rfl⟩
  go_wp2_with fail
  go_ret
  exact ⟨rfl, G2.out⟩
end Go.Proofs.Ytfobddicokogpaa
