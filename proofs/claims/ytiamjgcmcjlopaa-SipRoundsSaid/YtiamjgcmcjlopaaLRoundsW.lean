/-
  The walk of the statement SipRounds: for every four words, every place and every turn, the law returns true (a round is one to one: two rounds are the same just if the turn is nothing), and its arguments read as they did. No condition.
-/
import Derived.Test.YtiamjgcmcjlopaaTold
import Derived.Test.YtiamjgcmcjlopaaRnd
namespace Go.Proofs.Ytiamjgcmcjlopaa.rounds
open Go.RowKit

theorem zero_beq (t : BitVec 64) (h : t = 0) : (q t == 0) = true := by subst h; decide
theorem zero_bne (t : BitVec 64) (h : t ≠ 0) : (q t == 0) = false := by
  have := q_beq t 0
  rw [show q 0 = 0 by decide] at this
  rw [this]; simpa using h

/-- which word is turned -/
def turned (c : Nat) (v : W4) (t : BitVec 64) : W4 :=
  match c with
  | 0 => ⟨v.a ^^^ t, v.b, v.c, v.d⟩
  | 1 => ⟨v.a, v.b ^^^ t, v.c, v.d⟩
  | 2 => ⟨v.a, v.b, v.c ^^^ t, v.d⟩
  | _ => ⟨v.a, v.b, v.c, v.d ^^^ t⟩

theorem turned_same (c : Nat) (v : W4) (t : BitVec 64) (h : t = 0) : turned c v t = v := by
  subst h; unfold turned; split <;> simp
theorem turned_other (c : Nat) (v : W4) (t : BitVec 64) (h : t ≠ 0) : rnd v.a v.b v.c v.d ≠ rnd (turned c v t).a (turned c v t).b (turned c v t).c (turned c v t).d := by
  intro e
  obtain ⟨h1, h2, h3, h4⟩ := rnd_inj e
  apply h
  have key : ∀ x : BitVec 64, x = x ^^^ t → t = 0 := fun x hx => by
    have := congrArg (x ^^^ ·) hx
    simpa [← BitVec.xor_assoc] using this.symm
  clear e
  rcases c with _ | _ | _ | c
  · exact key v.a h1
  · exact key v.b h2
  · exact key v.c h3
  · exact key v.d h4

theorem rnd_split (v x : W4) (h : rnd v.a v.b v.c v.d ≠ rnd x.a x.b x.c x.d) :
    (q (rnd v.a v.b v.c v.d).1 == q (rnd x.a x.b x.c x.d).1) = false ∨
    ((q (rnd v.a v.b v.c v.d).1 == q (rnd x.a x.b x.c x.d).1) = true ∧ (q (rnd v.a v.b v.c v.d).2.1 == q (rnd x.a x.b x.c x.d).2.1) = false) ∨
    ((q (rnd v.a v.b v.c v.d).1 == q (rnd x.a x.b x.c x.d).1) = true ∧ (q (rnd v.a v.b v.c v.d).2.1 == q (rnd x.a x.b x.c x.d).2.1) = true ∧ (q (rnd v.a v.b v.c v.d).2.2.1 == q (rnd x.a x.b x.c x.d).2.2.1) = false) ∨
    ((q (rnd v.a v.b v.c v.d).1 == q (rnd x.a x.b x.c x.d).1) = true ∧ (q (rnd v.a v.b v.c v.d).2.1 == q (rnd x.a x.b x.c x.d).2.1) = true ∧ (q (rnd v.a v.b v.c v.d).2.2.1 == q (rnd x.a x.b x.c x.d).2.2.1) = true ∧ (q (rnd v.a v.b v.c v.d).2.2.2 == q (rnd x.a x.b x.c x.d).2.2.2) = false) := by
  generalize rnd v.a v.b v.c v.d = r at *
  generalize rnd x.a x.b x.c x.d = s at *
  obtain ⟨r1, r2, r3, r4⟩ := r
  obtain ⟨s1, s2, s3, s4⟩ := s
  simp only [q_beq]
  by_cases h1 : r1 = s1
  · by_cases h2 : r2 = s2
    · by_cases h3 : r3 = s3
      · by_cases h4 : r4 = s4
        · subst h1; subst h2; subst h3; subst h4; exact absurd rfl h
        · right; right; right; simp [h1, h2, h3, h4]
      · right; right; left; simp [h1, h2, h3]
    · right; left; simp [h1, h2]
  · left; simp [h1]

set_option maxHeartbeats 1600000 in
theorem walk0 (v : W4) (n : Int) (t : BitVec 64) (hn : (IntKind.u64.wrap n).tmod 4 = 0) (w : World) :
    Calls Try.prog 6 #[.agg #[.int .u64 (q v.a), .int .u64 (q v.b), .int .u64 (q v.c), .int .u64 (q v.d)], .int .i64 n, .int .u64 (q t)] w fun e w' => e = .returned (.bool true) ∧ w.grownBy w' none := by
  have cases : (t = 0 ∧ (q t == 0) = true) ∨ (t ≠ 0 ∧ (q t == 0) = false) := by
    by_cases h : t = 0
    · exact .inl ⟨h, zero_beq t h⟩
    · exact .inr ⟨h, zero_bne t h⟩
  rcases cases with ⟨ht, hz⟩ | ⟨ht, hz⟩
  · have e1 : (q (rnd v.a v.b v.c v.d).1 == q (rnd (v.a ^^^ t) v.b v.c v.d).1) = true := by simp [ht]
    have e2 : (q (rnd v.a v.b v.c v.d).2.1 == q (rnd (v.a ^^^ t) v.b v.c v.d).2.1) = true := by simp [ht]
    have e3 : (q (rnd v.a v.b v.c v.d).2.2.1 == q (rnd (v.a ^^^ t) v.b v.c v.d).2.2.1) = true := by simp [ht]
    have e4 : (q (rnd v.a v.b v.c v.d).2.2.2 == q (rnd (v.a ^^^ t) v.b v.c v.d).2.2.2) = true := by simp [ht]
    clear ht
    go_enter Try.func6, Try.ntmps6
    go_wp2_with (first | (go_at_call 10; (with_reducible refine (round_any _ _ _ _ _).mono ?_); rintro e w' ⟨rfl, rfl⟩) | (go_at_call 9; (with_reducible refine (told_any _).mono ?_); rintro e w' ⟨rfl, hg⟩; have HG := hid hg; clear hg))
    go_ret
    exact ⟨rfl, gb_trans (gb_alloc (gb_alloc (.refl w none) _) _) HG.out (.inl rfl)⟩
  · have hne := turned_other 0 v t ht
    rcases rnd_split v ⟨v.a ^^^ t, v.b, v.c, v.d⟩ hne with e1 | ⟨e1, e2⟩ | ⟨e1, e2, e3⟩ | ⟨e1, e2, e3, e4⟩
    all_goals
      clear hne ht
      go_enter Try.func6, Try.ntmps6
      go_wp2_with (first | (go_at_call 10; (with_reducible refine (round_any _ _ _ _ _).mono ?_); rintro e w' ⟨rfl, rfl⟩) | (go_at_call 9; (with_reducible refine (told_any _).mono ?_); rintro e w' ⟨rfl, hg⟩; have HG := hid hg; clear hg))
      go_ret
      exact ⟨rfl, gb_trans (gb_alloc (gb_alloc (.refl w none) _) _) HG.out (.inl rfl)⟩

set_option maxHeartbeats 1600000 in
theorem walk1 (v : W4) (n : Int) (t : BitVec 64) (hn : (IntKind.u64.wrap n).tmod 4 = 1) (w : World) :
    Calls Try.prog 6 #[.agg #[.int .u64 (q v.a), .int .u64 (q v.b), .int .u64 (q v.c), .int .u64 (q v.d)], .int .i64 n, .int .u64 (q t)] w fun e w' => e = .returned (.bool true) ∧ w.grownBy w' none := by
  have cases : (t = 0 ∧ (q t == 0) = true) ∨ (t ≠ 0 ∧ (q t == 0) = false) := by
    by_cases h : t = 0
    · exact .inl ⟨h, zero_beq t h⟩
    · exact .inr ⟨h, zero_bne t h⟩
  rcases cases with ⟨ht, hz⟩ | ⟨ht, hz⟩
  · have e1 : (q (rnd v.a v.b v.c v.d).1 == q (rnd v.a (v.b ^^^ t) v.c v.d).1) = true := by simp [ht]
    have e2 : (q (rnd v.a v.b v.c v.d).2.1 == q (rnd v.a (v.b ^^^ t) v.c v.d).2.1) = true := by simp [ht]
    have e3 : (q (rnd v.a v.b v.c v.d).2.2.1 == q (rnd v.a (v.b ^^^ t) v.c v.d).2.2.1) = true := by simp [ht]
    have e4 : (q (rnd v.a v.b v.c v.d).2.2.2 == q (rnd v.a (v.b ^^^ t) v.c v.d).2.2.2) = true := by simp [ht]
    clear ht
    go_enter Try.func6, Try.ntmps6
    go_wp2_with (first | (go_at_call 10; (with_reducible refine (round_any _ _ _ _ _).mono ?_); rintro e w' ⟨rfl, rfl⟩) | (go_at_call 9; (with_reducible refine (told_any _).mono ?_); rintro e w' ⟨rfl, hg⟩; have HG := hid hg; clear hg))
    go_ret
    exact ⟨rfl, gb_trans (gb_alloc (gb_alloc (.refl w none) _) _) HG.out (.inl rfl)⟩
  · have hne := turned_other 1 v t ht
    rcases rnd_split v ⟨v.a, v.b ^^^ t, v.c, v.d⟩ hne with e1 | ⟨e1, e2⟩ | ⟨e1, e2, e3⟩ | ⟨e1, e2, e3, e4⟩
    all_goals
      clear hne ht
      go_enter Try.func6, Try.ntmps6
      go_wp2_with (first | (go_at_call 10; (with_reducible refine (round_any _ _ _ _ _).mono ?_); rintro e w' ⟨rfl, rfl⟩) | (go_at_call 9; (with_reducible refine (told_any _).mono ?_); rintro e w' ⟨rfl, hg⟩; have HG := hid hg; clear hg))
      go_ret
      exact ⟨rfl, gb_trans (gb_alloc (gb_alloc (.refl w none) _) _) HG.out (.inl rfl)⟩

set_option maxHeartbeats 1600000 in
theorem walk2 (v : W4) (n : Int) (t : BitVec 64) (hn : (IntKind.u64.wrap n).tmod 4 = 2) (w : World) :
    Calls Try.prog 6 #[.agg #[.int .u64 (q v.a), .int .u64 (q v.b), .int .u64 (q v.c), .int .u64 (q v.d)], .int .i64 n, .int .u64 (q t)] w fun e w' => e = .returned (.bool true) ∧ w.grownBy w' none := by
  have cases : (t = 0 ∧ (q t == 0) = true) ∨ (t ≠ 0 ∧ (q t == 0) = false) := by
    by_cases h : t = 0
    · exact .inl ⟨h, zero_beq t h⟩
    · exact .inr ⟨h, zero_bne t h⟩
  rcases cases with ⟨ht, hz⟩ | ⟨ht, hz⟩
  · have e1 : (q (rnd v.a v.b v.c v.d).1 == q (rnd v.a v.b (v.c ^^^ t) v.d).1) = true := by simp [ht]
    have e2 : (q (rnd v.a v.b v.c v.d).2.1 == q (rnd v.a v.b (v.c ^^^ t) v.d).2.1) = true := by simp [ht]
    have e3 : (q (rnd v.a v.b v.c v.d).2.2.1 == q (rnd v.a v.b (v.c ^^^ t) v.d).2.2.1) = true := by simp [ht]
    have e4 : (q (rnd v.a v.b v.c v.d).2.2.2 == q (rnd v.a v.b (v.c ^^^ t) v.d).2.2.2) = true := by simp [ht]
    clear ht
    go_enter Try.func6, Try.ntmps6
    go_wp2_with (first | (go_at_call 10; (with_reducible refine (round_any _ _ _ _ _).mono ?_); rintro e w' ⟨rfl, rfl⟩) | (go_at_call 9; (with_reducible refine (told_any _).mono ?_); rintro e w' ⟨rfl, hg⟩; have HG := hid hg; clear hg))
    go_ret
    exact ⟨rfl, gb_trans (gb_alloc (gb_alloc (.refl w none) _) _) HG.out (.inl rfl)⟩
  · have hne := turned_other 2 v t ht
    rcases rnd_split v ⟨v.a, v.b, v.c ^^^ t, v.d⟩ hne with e1 | ⟨e1, e2⟩ | ⟨e1, e2, e3⟩ | ⟨e1, e2, e3, e4⟩
    all_goals
      clear hne ht
      go_enter Try.func6, Try.ntmps6
      go_wp2_with (first | (go_at_call 10; (with_reducible refine (round_any _ _ _ _ _).mono ?_); rintro e w' ⟨rfl, rfl⟩) | (go_at_call 9; (with_reducible refine (told_any _).mono ?_); rintro e w' ⟨rfl, hg⟩; have HG := hid hg; clear hg))
      go_ret
      exact ⟨rfl, gb_trans (gb_alloc (gb_alloc (.refl w none) _) _) HG.out (.inl rfl)⟩

set_option maxHeartbeats 1600000 in
theorem walk3 (v : W4) (n : Int) (t : BitVec 64) (hn : (IntKind.u64.wrap n).tmod 4 = 3) (w : World) :
    Calls Try.prog 6 #[.agg #[.int .u64 (q v.a), .int .u64 (q v.b), .int .u64 (q v.c), .int .u64 (q v.d)], .int .i64 n, .int .u64 (q t)] w fun e w' => e = .returned (.bool true) ∧ w.grownBy w' none := by
  have cases : (t = 0 ∧ (q t == 0) = true) ∨ (t ≠ 0 ∧ (q t == 0) = false) := by
    by_cases h : t = 0
    · exact .inl ⟨h, zero_beq t h⟩
    · exact .inr ⟨h, zero_bne t h⟩
  rcases cases with ⟨ht, hz⟩ | ⟨ht, hz⟩
  · have e1 : (q (rnd v.a v.b v.c v.d).1 == q (rnd v.a v.b v.c (v.d ^^^ t)).1) = true := by simp [ht]
    have e2 : (q (rnd v.a v.b v.c v.d).2.1 == q (rnd v.a v.b v.c (v.d ^^^ t)).2.1) = true := by simp [ht]
    have e3 : (q (rnd v.a v.b v.c v.d).2.2.1 == q (rnd v.a v.b v.c (v.d ^^^ t)).2.2.1) = true := by simp [ht]
    have e4 : (q (rnd v.a v.b v.c v.d).2.2.2 == q (rnd v.a v.b v.c (v.d ^^^ t)).2.2.2) = true := by simp [ht]
    clear ht
    go_enter Try.func6, Try.ntmps6
    go_wp2_with (first | (go_at_call 10; (with_reducible refine (round_any _ _ _ _ _).mono ?_); rintro e w' ⟨rfl, rfl⟩) | (go_at_call 9; (with_reducible refine (told_any _).mono ?_); rintro e w' ⟨rfl, hg⟩; have HG := hid hg; clear hg))
    go_ret
    exact ⟨rfl, gb_trans (gb_alloc (gb_alloc (.refl w none) _) _) HG.out (.inl rfl)⟩
  · have hne := turned_other 3 v t ht
    rcases rnd_split v ⟨v.a, v.b, v.c, v.d ^^^ t⟩ hne with e1 | ⟨e1, e2⟩ | ⟨e1, e2, e3⟩ | ⟨e1, e2, e3, e4⟩
    all_goals
      clear hne ht
      go_enter Try.func6, Try.ntmps6
      go_wp2_with (first | (go_at_call 10; (with_reducible refine (round_any _ _ _ _ _).mono ?_); rintro e w' ⟨rfl, rfl⟩) | (go_at_call 9; (with_reducible refine (told_any _).mono ?_); rintro e w' ⟨rfl, hg⟩; have HG := hid hg; clear hg))
      go_ret
      exact ⟨rfl, gb_trans (gb_alloc (gb_alloc (.refl w none) _) _) HG.out (.inl rfl)⟩

theorem walk (v : W4) (n : Int) (t : BitVec 64) (w : World) :
    Calls Try.prog 6 #[.agg #[.int .u64 (q v.a), .int .u64 (q v.b), .int .u64 (q v.c), .int .u64 (q v.d)], .int .i64 n, .int .u64 (q t)] w fun e w' => e = .returned (.bool true) ∧ w.grownBy w' none := by
  have h0 := wrap_u64_nonneg n
  have hm : (IntKind.u64.wrap n).tmod 4 = IntKind.u64.wrap n % 4 := Int.tmod_eq_emod_of_nonneg h0
  have hcs : IntKind.u64.wrap n % 4 = 0 ∨ IntKind.u64.wrap n % 4 = 1 ∨ IntKind.u64.wrap n % 4 = 2 ∨ IntKind.u64.wrap n % 4 = 3 := by omega
  rcases hcs with h | h | h | h
  · exact walk0 v n t (hm.trans h) w
  · exact walk1 v n t (hm.trans h) w
  · exact walk2 v n t (hm.trans h) w
  · exact walk3 v n t (hm.trans h) w
end Go.Proofs.Ytiamjgcmcjlopaa.rounds
