/-
  The walk of the statement RatioRaw: of what may not be nothing is wanted. No condition.
-/
import Derived.Test.YtfobddicokogpaaRaV
import Derived.Test.YtfobddicokogpaaUmi
set_option linter.unusedSimpArgs false
set_option linter.unusedVariables false
namespace Go.Proofs.Ytfobddicokogpaa.rraw
set_option maxRecDepth 100000
open Go.RowKit

set_option maxHeartbeats 3200000 in
theorem walk {w : World} (p : Int) (b : Bool) :
    Calls Try.prog 8 #[.int .i64 p, .bool b] w fun e w' => e = .returned (.bool true) ∧ w.grownBy w' none := by
  obtain ⟨k, k0, k1, mk⟩ := umod_int p 4 (by omega)
  have mk : (IntKind.u64.wrap p).tmod 4 = k := mk
  have hk : k = 0 ∨ k = 1 ∨ k = 2 ∨ k = 3 := by omega
  clear k0 k1
  rcases hk with rfl | rfl | rfl | rfl
  · cases b with
    | false =>
      have M1 := hid (show raMost 10001 [5000] [1000] 100 = (0, false) by decide)
      have W1 := hid (show raWant 10001 5000 1000 100 = 0 by decide)
      go_enter Try.func8, Try.ntmps8
      go_wp2_with fail
      refine (most_as ((lit_new _ [5000] _ rfl 1 rfl (le_max _ (by decide))).grown (World.grownBy_alloc _ _ none)) (lit_new2 _ _ [1000] _ rfl 1 rfl (le_max _ (by decide))) M1.out).mono ?_
      rintro e w1 ⟨rfl, hg⟩
      have G0 := hid (gb_trans (gb_alloc (World.grownBy_alloc w _ none) _) hg (.inl rfl))
      clear hg M1
      go_wp2_with fail
      refine (told_any _).mono ?_
      rintro e w2 ⟨rfl, hg⟩
      have G1 := hid (gb_trans G0.out hg (.inl rfl)); clear hg
      go_wp2_with fail
      refine (want_as W1.out).mono ?_
      rintro e w9 ⟨rfl, rfl⟩
      go_wp2_with fail
      go_ret
      exact ⟨rfl, G1.out⟩
    | true =>
      have M1 := hid (show raMost (-1) [5000] [1000] 100 = (0, false) by decide)
      have W1 := hid (show raWant (-1) 5000 1000 100 = 0 by decide)
      go_enter Try.func8, Try.ntmps8
      go_wp2_with fail
      refine (most_as ((lit_new _ [5000] _ rfl 1 rfl (le_max _ (by decide))).grown (World.grownBy_alloc _ _ none)) (lit_new2 _ _ [1000] _ rfl 1 rfl (le_max _ (by decide))) M1.out).mono ?_
      rintro e w1 ⟨rfl, hg⟩
      have G0 := hid (gb_trans (gb_alloc (World.grownBy_alloc w _ none) _) hg (.inl rfl))
      clear hg M1
      go_wp2_with fail
      refine (told_any _).mono ?_
      rintro e w2 ⟨rfl, hg⟩
      have G1 := hid (gb_trans G0.out hg (.inl rfl)); clear hg
      go_wp2_with fail
      refine (want_as W1.out).mono ?_
      rintro e w9 ⟨rfl, rfl⟩
      go_wp2_with fail
      go_ret
      exact ⟨rfl, G1.out⟩
  · cases b with
    | false =>
      have M1 := hid (show raMost 5 [1099511627777] [1000] 100 = (0, false) by decide)
      have W1 := hid (show raWant 5 1099511627777 1000 100 = 0 by decide)
      have I1 := hid (show raIn 1099511627777 1000 100 = false by decide)
      go_enter Try.func8, Try.ntmps8
      go_wp2_with fail
      refine (most_as ((lit_new _ [1099511627777] _ rfl 1 rfl (le_max _ (by decide))).grown (World.grownBy_alloc _ _ none)) (lit_new2 _ _ [1000] _ rfl 1 rfl (le_max _ (by decide))) M1.out).mono ?_
      rintro e w1 ⟨rfl, hg⟩
      have G0 := hid (gb_trans (gb_alloc (World.grownBy_alloc w _ none) _) hg (.inl rfl))
      clear hg M1
      go_wp2_with fail
      refine (told_any _).mono ?_
      rintro e w2 ⟨rfl, hg⟩
      have G1 := hid (gb_trans G0.out hg (.inl rfl)); clear hg
      go_wp2_with fail
      refine (want_as W1.out).mono ?_
      rintro e w9 ⟨rfl, rfl⟩
      go_wp2_with fail
      refine (in_as I1.out).mono ?_
      rintro e w9 ⟨rfl, rfl⟩
      go_wp2_with fail
      go_ret
      exact ⟨rfl, G1.out⟩
    | true =>
      have M1 := hid (show raMost 5 [-1] [1000] 100 = (0, false) by decide)
      have W1 := hid (show raWant 5 (-1) 1000 100 = 0 by decide)
      have I1 := hid (show raIn (-1) 1000 100 = false by decide)
      go_enter Try.func8, Try.ntmps8
      go_wp2_with fail
      refine (most_as ((lit_new _ [-1] _ rfl 1 rfl (le_max _ (by decide))).grown (World.grownBy_alloc _ _ none)) (lit_new2 _ _ [1000] _ rfl 1 rfl (le_max _ (by decide))) M1.out).mono ?_
      rintro e w1 ⟨rfl, hg⟩
      have G0 := hid (gb_trans (gb_alloc (World.grownBy_alloc w _ none) _) hg (.inl rfl))
      clear hg M1
      go_wp2_with fail
      refine (told_any _).mono ?_
      rintro e w2 ⟨rfl, hg⟩
      have G1 := hid (gb_trans G0.out hg (.inl rfl)); clear hg
      go_wp2_with fail
      refine (want_as W1.out).mono ?_
      rintro e w9 ⟨rfl, rfl⟩
      go_wp2_with fail
      refine (in_as I1.out).mono ?_
      rintro e w9 ⟨rfl, rfl⟩
      go_wp2_with fail
      go_ret
      exact ⟨rfl, G1.out⟩
  · cases b with
    | false =>
      have M1 := hid (show raMost 5 [5000] [1099511627777] 100 = (0, false) by decide)
      have W1 := hid (show raWant 5 5000 1099511627777 100 = 0 by decide)
      have I1 := hid (show raIn 5000 1099511627777 100 = false by decide)
      go_enter Try.func8, Try.ntmps8
      go_wp2_with fail
      refine (most_as ((lit_new _ [5000] _ rfl 1 rfl (le_max _ (by decide))).grown (World.grownBy_alloc _ _ none)) (lit_new2 _ _ [1099511627777] _ rfl 1 rfl (le_max _ (by decide))) M1.out).mono ?_
      rintro e w1 ⟨rfl, hg⟩
      have G0 := hid (gb_trans (gb_alloc (World.grownBy_alloc w _ none) _) hg (.inl rfl))
      clear hg M1
      go_wp2_with fail
      refine (told_any _).mono ?_
      rintro e w2 ⟨rfl, hg⟩
      have G1 := hid (gb_trans G0.out hg (.inl rfl)); clear hg
      go_wp2_with fail
      refine (want_as W1.out).mono ?_
      rintro e w9 ⟨rfl, rfl⟩
      go_wp2_with fail
      refine (in_as I1.out).mono ?_
      rintro e w9 ⟨rfl, rfl⟩
      go_wp2_with fail
      go_ret
      exact ⟨rfl, G1.out⟩
    | true =>
      have M1 := hid (show raMost 5 [5000] [0] 100 = (0, false) by decide)
      have W1 := hid (show raWant 5 5000 0 100 = 0 by decide)
      have I1 := hid (show raIn 5000 0 100 = false by decide)
      go_enter Try.func8, Try.ntmps8
      go_wp2_with fail
      refine (most_as ((lit_new _ [5000] _ rfl 1 rfl (le_max _ (by decide))).grown (World.grownBy_alloc _ _ none)) (lit_new2 _ _ [0] _ rfl 1 rfl (le_max _ (by decide))) M1.out).mono ?_
      rintro e w1 ⟨rfl, hg⟩
      have G0 := hid (gb_trans (gb_alloc (World.grownBy_alloc w _ none) _) hg (.inl rfl))
      clear hg M1
      go_wp2_with fail
      refine (told_any _).mono ?_
      rintro e w2 ⟨rfl, hg⟩
      have G1 := hid (gb_trans G0.out hg (.inl rfl)); clear hg
      go_wp2_with fail
      refine (want_as W1.out).mono ?_
      rintro e w9 ⟨rfl, rfl⟩
      go_wp2_with fail
      refine (in_as I1.out).mono ?_
      rintro e w9 ⟨rfl, rfl⟩
      go_wp2_with fail
      go_ret
      exact ⟨rfl, G1.out⟩
  · cases b with
    | false =>
      have M1 := hid (show raMost 5 [5000] [1000] 1001 = (0, false) by decide)
      have W1 := hid (show raWant 5 5000 1000 1001 = 0 by decide)
      have I1 := hid (show raIn 5000 1000 1001 = false by decide)
      go_enter Try.func8, Try.ntmps8
      go_wp2_with fail
      refine (most_as ((lit_new _ [5000] _ rfl 1 rfl (le_max _ (by decide))).grown (World.grownBy_alloc _ _ none)) (lit_new2 _ _ [1000] _ rfl 1 rfl (le_max _ (by decide))) M1.out).mono ?_
      rintro e w1 ⟨rfl, hg⟩
      have G0 := hid (gb_trans (gb_alloc (World.grownBy_alloc w _ none) _) hg (.inl rfl))
      clear hg M1
      go_wp2_with fail
      refine (told_any _).mono ?_
      rintro e w2 ⟨rfl, hg⟩
      have G1 := hid (gb_trans G0.out hg (.inl rfl)); clear hg
      go_wp2_with fail
      refine (want_as W1.out).mono ?_
      rintro e w9 ⟨rfl, rfl⟩
      go_wp2_with fail
      refine (in_as I1.out).mono ?_
      rintro e w9 ⟨rfl, rfl⟩
      go_wp2_with fail
      go_ret
      exact ⟨rfl, G1.out⟩
    | true =>
      have M1 := hid (show raMost 5 [5000] [1000] (-1) = (0, false) by decide)
      have W1 := hid (show raWant 5 5000 1000 (-1) = 0 by decide)
      have I1 := hid (show raIn 5000 1000 (-1) = false by decide)
      go_enter Try.func8, Try.ntmps8
      go_wp2_with fail
      refine (most_as ((lit_new _ [5000] _ rfl 1 rfl (le_max _ (by decide))).grown (World.grownBy_alloc _ _ none)) (lit_new2 _ _ [1000] _ rfl 1 rfl (le_max _ (by decide))) M1.out).mono ?_
      rintro e w1 ⟨rfl, hg⟩
      have G0 := hid (gb_trans (gb_alloc (World.grownBy_alloc w _ none) _) hg (.inl rfl))
      clear hg M1
      go_wp2_with fail
      refine (told_any _).mono ?_
      rintro e w2 ⟨rfl, hg⟩
      have G1 := hid (gb_trans G0.out hg (.inl rfl)); clear hg
      go_wp2_with fail
      refine (want_as W1.out).mono ?_
      rintro e w9 ⟨rfl, rfl⟩
      go_wp2_with fail
      refine (in_as I1.out).mono ?_
      rintro e w9 ⟨rfl, rfl⟩
      go_wp2_with fail
      go_ret
      exact ⟨rfl, G1.out⟩
end Go.Proofs.Ytfobddicokogpaa.rraw
