/-
  Contract: the law's own examples: the program tells what the document says of a few. And: what a walk keeps of objects of the call's own. No condition.
-/
import Derived.Test.YtnpaecbdejemnaaCaE
import Derived.Test.YtnpaecbdejemnaaLn
set_option linter.unusedSimpArgs false
set_option linter.unusedVariables false
namespace Go.Proofs.Ytnpaecbdejemnaa
set_option maxRecDepth 100000
open Go.RowKit

section
variable {w W W' : World} {b b1 b2 : Nat} {c c' c1 c2 : Ca} {n x z : Int} {v : Value} {l : List Int}
theorem gb_chg (h : w.grownBy W none) (hc : Chg [b] W W') (hb : w.heap.size ≤ b) : w.grownBy W' none :=
  ((chg_grown h []).trans hc (fun y hy => by rw [List.mem_singleton] at hy; subst hy; exact .inr hb)).free (fun y hy => by cases hy)
/-- one object of the call's own; two -/
structure Ck1 (w : World) (b : Nat) (c : Ca) (W : World) : Prop where
  gr : w.grownBy W none
  at1 : CaAt W b c
  lo : w.heap.size ≤ b
structure Ck2 (w : World) (b1 : Nat) (c1 : Ca) (b2 : Nat) (c2 : Ca) (W : World) : Prop where
  k1 : Ck1 w b1 c1 W
  k2 : Ck1 w b2 c2 W
  ne : b1 ≠ b2
theorem Ck1.grown (h : Ck1 w b c W) (hg : W.grownBy W' none) : Ck1 w b c W' := ⟨gb_trans h.gr hg (.inl rfl), h.at1.grown hg, h.lo⟩
theorem Ck1.drew (h : Ck1 w b c W) : Ck1 w b c W.drew := ⟨gb_drew h.gr, h.at1.drew, h.lo⟩
theorem Ck1.chg (h : Ck1 w b c W) (hc : CaAt W' b c') (hg : Chg [b] W W') : Ck1 w b c' W' := ⟨gb_chg h.gr hg h.lo, hc, h.lo⟩
theorem Ck2.grown (h : Ck2 w b1 c1 b2 c2 W) (hg : W.grownBy W' none) : Ck2 w b1 c1 b2 c2 W' := ⟨h.k1.grown hg, h.k2.grown hg, h.ne⟩
theorem Ck2.drew (h : Ck2 w b1 c1 b2 c2 W) : Ck2 w b1 c1 b2 c2 W.drew := ⟨h.k1.drew, h.k2.drew, h.ne⟩
theorem Ck2.chg1 (h : Ck2 w b1 c1 b2 c2 W) (hc : CaAt W' b1 c') (hg : Chg [b1] W W') : Ck2 w b1 c' b2 c2 W' :=
  ⟨h.k1.chg hc hg, ⟨gb_chg h.k1.gr hg h.k1.lo, h.k2.at1.chg hg (by simp [h.ne.symm]), h.k2.lo⟩, h.ne⟩
theorem Ck2.swap (h : Ck2 w b1 c1 b2 c2 W) : Ck2 w b2 c2 b1 c1 W := ⟨h.k2, h.k1, h.ne.symm⟩
theorem Ck2.chg2 (h : Ck2 w b1 c1 b2 c2 W) (hc : CaAt W' b2 c') (hg : Chg [b2] W W') : Ck2 w b1 c1 b2 c' W' := (h.swap.chg1 hc hg).swap
theorem Ck1.start (h : CaAt W b c) (hg : w.grownBy W none) (hb : w.heap.size ≤ b) : Ck1 w b c W := ⟨hg, h, hb⟩
theorem Ck2.start (h : Ck1 w b1 c1 W) (h2 : CaAt W' b c) (hg : W.grownBy W' none) (hb : W.heap.size ≤ b) : Ck2 w b1 c1 b c W' :=
  ⟨h.grown hg, ⟨gb_trans h.gr hg (.inl rfl), h2, Nat.le_trans h.gr.size hb⟩, by have := h.at1.lt; omega⟩
theorem new_as (u d : Nat) {U D : Int} (hU : (u : Int) = U) (hD : (d : Int) = D) (hu : u ≤ 60) (hd : d ≤ 60) (w : World) : Calls Try.prog 8 #[.int .i64 U, .int .i64 D] w (MadeC w ⟨u, d, []⟩) := by
  subst hU; subst hD; exact new_ok u d hu hd w
theorem next_as (H : CaAt W b c) (h1 : c.push x = c') (h2 : c'.out n = z) :
    Calls Try.prog 9 #[.pointer (some ⟨b, 0, none⟩), .int .i64 n, .int .i64 x] W fun e w' => e = .returned (.int .i64 z) ∧ CaAt w' b c' ∧ Chg [b] W w' := by
  subst h1; subst h2; exact next_any n x H
theorem set_no (H : CaAt W b c) (hv : IntsAt W v l) (h : c.mayset l = false) :
    Calls Try.prog 10 #[.pointer (some ⟨b, 0, none⟩), v] W fun e w' => e = .returned (.int .i64 1) ∧ W.grownBy w' none :=
  (set_any v l H hv).mono fun e w' hs => by
    rcases hs with ⟨h1, _⟩ | ⟨_, h2, h3⟩
    · rw [h] at h1; cases h1
    · exact ⟨h2, h3⟩
theorem set_yes (H : CaAt W b c) (hv : IntsAt W v l) (h : c.mayset l = true) :
    Calls Try.prog 10 #[.pointer (some ⟨b, 0, none⟩), v] W fun e w' => e = .returned (.int .i64 0) ∧ CaAt w' b { c with l := l } ∧ Chg [b] W w' :=
  (set_any v l H hv).mono fun e w' hs => by
    rcases hs with ⟨_, h2, h3, h4⟩ | ⟨h1, _⟩
    · exact ⟨h2, h3, h4⟩
    · rw [h] at h1; cases h1
/-- All, its length alone -/
theorem alls_len (H : CaAt W b c) (k : Nat) (h : c.l.length = k) :
    Calls Try.prog 11 #[.pointer (some ⟨b, 0, none⟩)] W fun e w' => (∃ p m, e = .returned (.slice p k m)) ∧ W.grownBy w' none :=
  (alls_any H).mono fun e w' ⟨⟨v, h1, h2⟩, hg⟩ => by
    obtain ⟨p, m, rfl⟩ := h2.form
    exact ⟨⟨p, m, by rw [h1, h]⟩, hg⟩
end

set_option maxHeartbeats 3200000 in
theorem told_any (w : World) :
    Calls Try.prog 12 #[] w fun e w' => e = .returned (.bool true) ∧ w.grownBy w' none := by
  have a1 := hid (show (⟨0, 1, []⟩ : Ca).push 5 = ⟨0, 1, [5]⟩ by rfl)
  have a2 := hid (show (⟨0, 1, [5]⟩ : Ca).push 2 = ⟨0, 1, [5, 2]⟩ by rfl)
  have a3 := hid (show (⟨0, 1, [5, 2]⟩ : Ca).push 2 = ⟨0, 1, [2, 2]⟩ by rfl)
  have o1 := hid (show (⟨0, 1, [5]⟩ : Ca).out 5 = 5 by rfl)
  have o2 := hid (show (⟨0, 1, [5, 2]⟩ : Ca).out 5 = 5 by rfl)
  have o3 := hid (show (⟨0, 1, [2, 2]⟩ : Ca).out 5 = 2 by rfl)
  have b1 := hid (show (⟨2, 0, []⟩ : Ca).push 8 = ⟨2, 0, [8]⟩ by rfl)
  have b2 := hid (show (⟨2, 0, [8]⟩ : Ca).push 9 = ⟨2, 0, [8, 9]⟩ by rfl)
  have b3 := hid (show (⟨2, 0, [8, 9]⟩ : Ca).push 7 = ⟨2, 0, [8, 9, 7]⟩ by rfl)
  have q1 := hid (show (⟨2, 0, [8]⟩ : Ca).out 5 = 8 by rfl)
  have q2 := hid (show (⟨2, 0, [8, 9]⟩ : Ca).out 5 = 8 by rfl)
  have q3 := hid (show (⟨2, 0, [8, 9, 7]⟩ : Ca).out 5 = 7 by rfl)
  have s1 := hid (show (⟨0, 1, [2, 2]⟩ : Ca).mayset [1, 2, 3] = false by rfl)
  have s2 := hid (show (⟨0, 1, [2, 2]⟩ : Ca).mayset [-1] = false by rfl)
  have s3 := hid (show (⟨0, 1, [2, 2]⟩ : Ca).mayset [4] = true by rfl)
  go_enter Try.func12, Try.ntmps12
  go_wp2_with fail
  refine (new_as 0 1 rfl rfl (by decide) (by decide) _).mono ?_
  rintro e w1 ⟨bx, rfl, hc, hg, hb⟩
  have K1 := hid (Ck1.start hc hg hb); clear hc hg hb
  go_wp2_with fail
  refine (new_as 2 0 rfl rfl (by decide) (by decide) _).mono ?_
  rintro e w2 ⟨by_, rfl, hc, hg, hb⟩
  have K := hid (Ck2.start K1.out hc hg hb); clear hc hg hb K1
  go_wp2_with fail
  refine (next_as K.out.k1.at1 a1.out o1.out).mono ?_
  rintro e v0 ⟨rfl, hc, hg⟩
  replace K := hid (K.out.chg1 hc hg); clear hc hg
  go_wp2_with fail
  refine (next_as K.out.k1.at1 a2.out o2.out).mono ?_
  rintro e v1 ⟨rfl, hc, hg⟩
  replace K := hid (K.out.chg1 hc hg); clear hc hg
  go_wp2_with fail
  refine (next_as K.out.k1.at1 a3.out o3.out).mono ?_
  rintro e v2 ⟨rfl, hc, hg⟩
  replace K := hid (K.out.chg1 hc hg); clear hc hg
  go_wp2_with fail
  refine (next_as K.out.k2.at1 b1.out q1.out).mono ?_
  rintro e v3 ⟨rfl, hc, hg⟩
  replace K := hid (K.out.chg2 hc hg); clear hc hg
  go_wp2_with fail
  refine (next_as K.out.k2.at1 b2.out q2.out).mono ?_
  rintro e v4 ⟨rfl, hc, hg⟩
  replace K := hid (K.out.chg2 hc hg); clear hc hg
  go_wp2_with fail
  refine (next_as K.out.k2.at1 b3.out q3.out).mono ?_
  rintro e v5 ⟨rfl, hc, hg⟩
  replace K := hid (K.out.chg2 hc hg); clear hc hg
  go_wp2_with fail
  refine (alls_len K.out.k1.at1 2 rfl).mono ?_
  rintro e u0 ⟨⟨p0, m0, rfl⟩, hg⟩
  replace K := hid (K.out.grown hg); clear hg
  go_wp2_with fail
  refine (alls_len K.out.k2.at1 3 rfl).mono ?_
  rintro e u1 ⟨⟨p1, m1, rfl⟩, hg⟩
  replace K := hid (K.out.grown hg); clear hg
  go_wp2_with fail
  refine (set_no (K.out.grown (World.grownBy_alloc _ _ none)).k1.at1 (num_new _ [1, 2, 3] _ rfl 3 rfl (le_max _ (by decide))) s1.out).mono ?_
  rintro e x0 ⟨rfl, hg⟩
  replace K := hid ((K.out.grown (World.grownBy_alloc _ _ none)).grown hg); clear hg
  go_wp2_with fail
  refine (set_no (K.out.grown (World.grownBy_alloc _ _ none)).k1.at1 (num_new _ [-1] _ rfl 1 rfl (le_max _ (by decide))) s2.out).mono ?_
  rintro e x1 ⟨rfl, hg⟩
  replace K := hid ((K.out.grown (World.grownBy_alloc _ _ none)).grown hg); clear hg
  go_wp2_with fail
  refine (set_yes (K.out.grown (World.grownBy_alloc _ _ none)).k1.at1 (num_new _ [4] _ rfl 1 rfl (le_max _ (by decide))) s3.out).mono ?_
  rintro e x3 ⟨rfl, hc, hg⟩
  replace K := hid ((K.out.grown (World.grownBy_alloc _ _ none)).chg1 hc hg); clear hc hg
  go_wp2_with fail
  refine (new_nil 61 0 (by decide) _).mono ?_
  rintro e x4 ⟨rfl, rfl⟩
  go_wp2_with fail
  refine (next_nil 1 1 _).mono ?_
  rintro e x5 ⟨rfl, rfl⟩
  go_wp2_with fail
  refine (set_nil _ _).mono ?_
  rintro e x6 ⟨rfl, rfl⟩
  go_wp2_with fail
  go_ret
  exact ⟨rfl, K.out.k1.gr⟩
end Go.Proofs.Ytnpaecbdejemnaa
