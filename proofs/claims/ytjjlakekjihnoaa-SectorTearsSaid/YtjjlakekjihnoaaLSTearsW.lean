/-
  The walk of the statement SectorTears: a later Tear counts in place of an earlier one; an error of a write leaves it waiting; up again nothing waits. No condition.
-/
import Derived.Test.YtjjlakekjihnoaaSeT
import Derived.Test.YtjjlakekjihnoaaUmi
set_option linter.unusedSimpArgs false
set_option linter.unusedVariables false
namespace Go.Proofs.Ytjjlakekjihnoaa.lstears
set_option maxRecDepth 100000
open Go.RowKit

/-- how many of the first i bytes are 9 -/
def nines (x : List UInt8) (i : Nat) : Nat := (x.take i).count 9
theorem nines_yes {x : List UInt8} {i : Nat} (h : i < x.length) (h9 : x.getD i 0 = 9) : nines x (i + 1) = nines x i + 1 := by
  unfold nines
  rw [List.getD_eq_getElem?_getD, List.getElem?_eq_getElem h] at h9
  rw [List.take_succ_eq_append_getElem h, List.count_append, show x[i] = 9 from h9]; rfl
theorem nines_no {x : List UInt8} {i : Nat} (h : i < x.length) (h9 : ¬ x.getD i 0 = 9) : nines x (i + 1) = nines x i := by
  unfold nines
  rw [List.getD_eq_getElem?_getD, List.getElem?_eq_getElem h] at h9
  rw [List.take_succ_eq_append_getElem h, List.count_append, List.count_singleton, if_neg (by simpa using h9)]; rfl
theorem nines_le (x : List UInt8) (i : Nat) : nines x i ≤ i := by
  unfold nines
  refine Nat.le_trans List.count_le_length ?_
  rw [List.length_take]; omega
theorem nine_ne {y : UInt8} (h : ¬ y = 9) : ¬ (y.toNat : Int) = 9 := fun e => h (by apply UInt8.toNat_inj.1; simp; omega)
@[reducible] def tornX (n : Nat) : List UInt8 := (rep 9).take n ++ (rep 0).drop n
theorem torn_nines {n : Nat} (h : n ≤ 64) : nines (tornX n) 64 = n := by
  unfold nines tornX
  rw [List.take_of_length_le (by simp; omega), List.take_replicate, List.drop_replicate, List.count_append, List.count_replicate, List.count_replicate, if_pos (by rfl), if_neg (by decide)]
  omega
theorem whole_nines : nines (rep 9) 64 = 64 := by decide +kernel
@[reducible] def dz (w : Bool) (n : Nat) : Dk := ⟨[rep 0, rep 0], w, n, false, 0⟩
theorem s0 : Dk.new 2 = dz false 0 := rfl
theorem s1 (v : Bool) (k m : Nat) (h : m ≤ 64) : (dz v k).tear (m : Int) = dz true m := by show Dk.mk _ _ (clampS m) _ _ = _; rw [clampS_small h]
theorem c1 (n : Nat) : (dz true n).code 2 (rep 1) = 1 ∧ (dz true n).write 2 (rep 1) = dz true n := ⟨rfl, rfl⟩
theorem c2 (n : Nat) : (dz true n).code 0 [] = 1 ∧ (dz true n).write 0 [] = dz true n := ⟨rfl, rfl⟩
theorem c3 (n : Nat) : (dz true n).code 1 (rep 9) = 10 ∧ (dz true n).write 1 (rep 9) = ⟨[rep 0, tornX n], false, n, true, 1⟩ := ⟨rfl, rfl⟩
theorem s4 (n : Nat) : (dz true n).up = dz false n := rfl
theorem c5 (n : Nat) : (dz false n).code 1 (rep 9) = 0 ∧ (dz false n).write 1 (rep 9) = ⟨[rep 0, rep 9], false, n, false, 1⟩ := ⟨rfl, rfl⟩

set_option maxHeartbeats 6400000 in
theorem walk_yes {w : World} (a : Int) (q : Int) :
    Calls Try.prog 3 #[.int .i64 a, .int .i64 q, .bool true] w fun e w' => e = .returned (.bool true) ∧ w.grownBy w' none := by
  obtain ⟨m, hm, mm⟩ := umod_small a 65 (by omega)
  obtain ⟨n, hn, mn⟩ := umod_small q 65 (by omega)
  rw [show ((65 : Nat) : Int) = 65 from rfl] at mm mn
  have wm : IntKind.i64.wrap (m : Int) = (m : Int) := IntWalk.i64_in _ (by omega)
  have wn : IntKind.i64.wrap (n : Int) = (n : Int) := IntWalk.i64_in _ (by omega)
  have S0 := hid s0; have S1 := hid (s1 false 0 m (by omega)); have S2 := hid (s1 true m n (by omega))
  have C1 := hid (c1 n); have C2 := hid (c2 n); have C3 := hid (c3 n); have S4 := hid (s4 n); have C5 := hid (c5 n)
  have N2 := hid (show (dz true n).n < 1000000000 by show 0 < 1000000000; decide); have N4 := hid (show (dz false n).n < 1000000000 by show 0 < 1000000000; decide)
  obtain ⟨x, hx⟩ : ∃ x, rep 9 = x := ⟨_, rfl⟩
  have HX := hid (show x.length = 64 by rw [← hx]; simp)
  have HN := hid (show nines x 64 = 64 by rw [← hx]; exact whole_nines)
  obtain ⟨d5, h5⟩ : ∃ d, (⟨[rep 0, rep 9], false, n, false, 1⟩ : Dk) = d := ⟨_, rfl⟩
  have R5 := hid (show readL d5 1 = x by rw [← h5, ← hx]; rfl)
  have Z5 := hid (show readC d5 1 = 0 by rw [← h5]; rfl)
  have W5 := hid (show d5.down = false ∧ d5.n = 1 by rw [← h5]; exact ⟨rfl, rfl⟩)
  rw [h5] at C5
  clear hx h5
  obtain ⟨d0, hd0⟩ : ∃ d, Dk.new 2 = d := ⟨_, rfl⟩
  have HDD := hid hd0
  rw [hd0] at S0
  clear hd0
  generalize dz false 0 = e0 at *
  generalize dz true m = e1 at *
  generalize dz true n = e2 at *
  generalize dz false n = e3 at *
  go_enter Try.func3, Try.ntmps3
  go_wp2_with fail
  refine (dnew_as 2 rfl (by decide) (by decide) _).mono ?_
  rintro e w1 ⟨b, s, rfl, hd, hg, h1, h2⟩
  rw [HDD.out, S0.out] at hd
  have K := hid (Sk.start hd hg h1 h2 (.refl w none)); clear hd hg h1 h2
  go_wp2_with fail
  refine (K.out.tear (m : Int) S1.out).mono ?_
  rintro e w2 ⟨rfl, hk⟩
  replace K := hid hk; clear hk
  go_wp2_with fail
  refine (K.out.tear (n : Int) S2.out).mono ?_
  rintro e w3 ⟨rfl, hk⟩
  replace K := hid hk; clear hk
  go_wp2_with fail
  refine (K.out.fill 1 rfl).mono ?_
  rintro e w4 ⟨v, rfl, hk⟩
  replace K := hid hk; clear hk
  go_wp2_with fail
  refine (K.out.write 2 N2.out C1.out.1 C1.out.2).mono ?_
  rintro e w5 ⟨rfl, hk⟩
  replace K := hid hk; clear hk
  go_wp2_with fail
  refine (Sk.write (K.out.add (nil_bytes _) (fun a n c e => by cases e)) 0 N2.out C2.out.1 C2.out.2).mono ?_
  rintro e w6 ⟨rfl, hk⟩
  replace K := hid hk; clear hk
  go_wp2_with fail
  refine (K.out.up S4.out).mono ?_
  rintro e w7 ⟨rfl, hk⟩
  replace K := hid hk; clear hk
  go_wp2_with fail
  refine (K.out.fill 9 rfl).mono ?_
  rintro e w8 ⟨v2, rfl, hk⟩
  replace K := hid hk; clear hk
  go_wp2_with fail
  refine (K.out.write 1 N4.out C5.out.1 C5.out.2).mono ?_
  rintro e w9 ⟨rfl, hk⟩
  replace K := hid hk; clear hk
  go_wp2_with fail
  refine (K.out.read 1 R5.out Z5.out).mono ?_
  rintro e wx ⟨u, rfl, ho, hg, hk⟩
  obtain ⟨g, c, rfl, hc, -, -, -⟩ := ho.whole HX.out (by decide)
  replace K := hid hk; clear hk ho hg
  clear C1 C2 C3 C5 S0 S1 S2 S4 N2 N4 R5 Z5
  go_wp2_with fail
  go_loopw [15, 16] (fun k i wr => ∃ j : Nat, j ≤ 64 ∧ i = .int .i64 (j : Int) ∧ k = .int .i64 (nines x j : Int) ∧ wx = wr) (fun _ i _ => 64 - (intOf i).toNat)
  case atStart => exact ⟨0, Nat.zero_le _, rfl, rfl, rfl⟩
  case round =>
    obtain ⟨j, hj, rfl, rfl, rfl⟩ := hrel
    have hle := nines_le x j
    by_cases hlt : j < 64
    · have hj0 : (0 : Int) ≤ (j : Int) := by omega
      have hj1 : (j : Int) < 64 := by omega
      have cb := byte_at K.out.r0 j (by rw [HX.out]; exact hlt)
      by_cases h9 : x.getD j 0 = 9
      · have hs := nines_yes (x := x) (i := j) (by rw [HX.out]; exact hlt) h9
        rw [h9, show ((9 : UInt8).toNat : Int) = 9 from rfl] at cb
        have HS := hid hs; clear hs h9
        generalize hz : nines x j = z at *
        go_wp2_with fail
        go_roundw
        case rel => exact ⟨j + 1, by omega, by go_num, by rw [HS.out]; go_num, by simp⟩
        case measure => simp [intOf]; omega
      · have hs := nines_no (x := x) (i := j) (by rw [HX.out]; exact hlt) h9
        have hne := nine_ne h9
        have HS := hid hs; clear hs h9
        generalize hz : nines x j = z at *
        generalize ((x.getD j 0).toNat : Int) = y at *
        go_wp2_with fail
        go_roundw
        case rel => exact ⟨j + 1, by omega, by go_num, by rw [HS.out], by simp⟩
        case measure => simp [intOf]; omega
    · have hj2 : j = 64 := by omega
      subst hj2
      rw [HN.out] at hle ⊢
      go_wp2_with fail
      refine (told_any _).mono ?_
      rintro e w11 ⟨rfl, hg⟩
      have K6 := hid (K.out.grown hg); clear hg
      go_wp2_with fail
      refine (K6.out.down W5.out.1).mono ?_
      rintro e w12 ⟨rfl, rfl⟩
      go_wp2_with fail
      go_ret
      exact ⟨rfl, K6.out.gr⟩
set_option maxHeartbeats 6400000 in
theorem walk_no {w : World} (a : Int) (q : Int) :
    Calls Try.prog 3 #[.int .i64 a, .int .i64 q, .bool false] w fun e w' => e = .returned (.bool true) ∧ w.grownBy w' none := by
  obtain ⟨m, hm, mm⟩ := umod_small a 65 (by omega)
  obtain ⟨n, hn, mn⟩ := umod_small q 65 (by omega)
  rw [show ((65 : Nat) : Int) = 65 from rfl] at mm mn
  have wm : IntKind.i64.wrap (m : Int) = (m : Int) := IntWalk.i64_in _ (by omega)
  have wn : IntKind.i64.wrap (n : Int) = (n : Int) := IntWalk.i64_in _ (by omega)
  have S0 := hid s0; have S1 := hid (s1 false 0 m (by omega)); have S2 := hid (s1 true m n (by omega))
  have C1 := hid (c1 n); have C2 := hid (c2 n); have C3 := hid (c3 n); have S4 := hid (s4 n); have C5 := hid (c5 n)
  have N2 := hid (show (dz true n).n < 1000000000 by show 0 < 1000000000; decide); have N4 := hid (show (dz false n).n < 1000000000 by show 0 < 1000000000; decide)
  obtain ⟨x, hx⟩ : ∃ x, tornX n = x := ⟨_, rfl⟩
  have HX := hid (show x.length = 64 by rw [← hx]; simp; omega)
  have HN := hid (show nines x 64 = n by rw [← hx]; exact torn_nines (by omega))
  obtain ⟨d5, h5⟩ : ∃ d, (⟨[rep 0, tornX n], false, n, true, 1⟩ : Dk) = d := ⟨_, rfl⟩
  have R5 := hid (show readL d5 1 = x by rw [← h5, ← hx]; rfl)
  have Z5 := hid (show readC d5 1 = 0 by rw [← h5]; rfl)
  have W5 := hid (show d5.down = true ∧ d5.n = 1 by rw [← h5]; exact ⟨rfl, rfl⟩)
  rw [h5] at C3
  clear hx h5
  obtain ⟨d0, hd0⟩ : ∃ d, Dk.new 2 = d := ⟨_, rfl⟩
  have HDD := hid hd0
  rw [hd0] at S0
  clear hd0
  generalize dz false 0 = e0 at *
  generalize dz true m = e1 at *
  generalize dz true n = e2 at *
  generalize dz false n = e3 at *
  go_enter Try.func3, Try.ntmps3
  go_wp2_with fail
  refine (dnew_as 2 rfl (by decide) (by decide) _).mono ?_
  rintro e w1 ⟨b, s, rfl, hd, hg, h1, h2⟩
  rw [HDD.out, S0.out] at hd
  have K := hid (Sk.start hd hg h1 h2 (.refl w none)); clear hd hg h1 h2
  go_wp2_with fail
  refine (K.out.tear (m : Int) S1.out).mono ?_
  rintro e w2 ⟨rfl, hk⟩
  replace K := hid hk; clear hk
  go_wp2_with fail
  refine (K.out.tear (n : Int) S2.out).mono ?_
  rintro e w3 ⟨rfl, hk⟩
  replace K := hid hk; clear hk
  go_wp2_with fail
  refine (K.out.fill 1 rfl).mono ?_
  rintro e w4 ⟨v, rfl, hk⟩
  replace K := hid hk; clear hk
  go_wp2_with fail
  refine (K.out.write 2 N2.out C1.out.1 C1.out.2).mono ?_
  rintro e w5 ⟨rfl, hk⟩
  replace K := hid hk; clear hk
  go_wp2_with fail
  refine (Sk.write (K.out.add (nil_bytes _) (fun a n c e => by cases e)) 0 N2.out C2.out.1 C2.out.2).mono ?_
  rintro e w6 ⟨rfl, hk⟩
  replace K := hid hk; clear hk
  go_wp2_with fail
  refine (K.out.fill 9 rfl).mono ?_
  rintro e w8 ⟨v2, rfl, hk⟩
  replace K := hid hk; clear hk
  go_wp2_with fail
  refine (K.out.write 1 N2.out C3.out.1 C3.out.2).mono ?_
  rintro e w9 ⟨rfl, hk⟩
  replace K := hid hk; clear hk
  go_wp2_with fail
  refine (K.out.read 1 R5.out Z5.out).mono ?_
  rintro e wx ⟨u, rfl, ho, hg, hk⟩
  obtain ⟨g, c, rfl, hc, -, -, -⟩ := ho.whole HX.out (by decide)
  replace K := hid hk; clear hk ho hg
  clear C1 C2 C3 C5 S0 S1 S2 S4 N2 N4 R5 Z5
  go_wp2_with fail
  go_loopw [15, 16] (fun k i wr => ∃ j : Nat, j ≤ 64 ∧ i = .int .i64 (j : Int) ∧ k = .int .i64 (nines x j : Int) ∧ wx = wr) (fun _ i _ => 64 - (intOf i).toNat)
  case atStart => exact ⟨0, Nat.zero_le _, rfl, rfl, rfl⟩
  case round =>
    obtain ⟨j, hj, rfl, rfl, rfl⟩ := hrel
    have hle := nines_le x j
    by_cases hlt : j < 64
    · have hj0 : (0 : Int) ≤ (j : Int) := by omega
      have hj1 : (j : Int) < 64 := by omega
      have cb := byte_at K.out.r0 j (by rw [HX.out]; exact hlt)
      by_cases h9 : x.getD j 0 = 9
      · have hs := nines_yes (x := x) (i := j) (by rw [HX.out]; exact hlt) h9
        rw [h9, show ((9 : UInt8).toNat : Int) = 9 from rfl] at cb
        have HS := hid hs; clear hs h9
        generalize hz : nines x j = z at *
        go_wp2_with fail
        go_roundw
        case rel => exact ⟨j + 1, by omega, by go_num, by rw [HS.out]; go_num, by simp⟩
        case measure => simp [intOf]; omega
      · have hs := nines_no (x := x) (i := j) (by rw [HX.out]; exact hlt) h9
        have hne := nine_ne h9
        have HS := hid hs; clear hs h9
        generalize hz : nines x j = z at *
        generalize ((x.getD j 0).toNat : Int) = y at *
        go_wp2_with fail
        go_roundw
        case rel => exact ⟨j + 1, by omega, by go_num, by rw [HS.out], by simp⟩
        case measure => simp [intOf]; omega
    · have hj2 : j = 64 := by omega
      subst hj2
      rw [HN.out] at hle ⊢
      go_wp2_with fail
      refine (told_any _).mono ?_
      rintro e w11 ⟨rfl, hg⟩
      have K6 := hid (K.out.grown hg); clear hg
      go_wp2_with fail
      refine (K6.out.down W5.out.1).mono ?_
      rintro e w12 ⟨rfl, rfl⟩
      go_wp2_with fail
      refine (K6.out.writes (z := 1) (by rw [W5.out.2]; rfl)).mono ?_
      rintro e w13 ⟨rfl, rfl⟩
      go_wp2_with fail
      go_ret
      exact ⟨rfl, K6.out.gr⟩
theorem walk {w : World} (a q : Int) (up : Bool) :
    Calls Try.prog 3 #[.int .i64 a, .int .i64 q, .bool up] w fun e w' => e = .returned (.bool true) ∧ w.grownBy w' none := by
  cases up with
  | true => exact walk_yes a q
  | false => exact walk_no a q
end Go.Proofs.Ytjjlakekjihnoaa.lstears
