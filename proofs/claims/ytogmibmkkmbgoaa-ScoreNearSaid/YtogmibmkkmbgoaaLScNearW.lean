/-
  The walk of the statement ScoreNear: who stays within far of all others that don't lie is never put out, whatever at most f say, with a quorum of twice f and one. No condition.
-/
import Derived.Test.YtogmibmkkmbgoaaScR
import Derived.Test.YtogmibmkkmbgoaaScX
set_option linter.unusedSimpArgs false
set_option linter.unusedVariables false
namespace Go.Proofs.Ytogmibmkkmbgoaa.scnear
set_option maxRecDepth 100000
open Go.RowKit

theorem near_new {k C : Nat} {D : Int} : NearS k C D (newS C 1 3 D) :=
  ⟨rfl, rfl, rfl, by simp [newS], fun i _ hi => by simp only [newS]; rw [List.getElem?_replicate, if_pos hi]⟩
theorem near_nil {k : Nat} {b D : Int} : NearR k 0 b D [] := ⟨rfl, fun i x h => by simp at h, fun i x h => by simp at h⟩
theorem near_add {k z : Nat} {b D X : Int} {row : List Sm} (h : NearR k z b D row) (hX : k ≤ z → b ≤ X ∧ X ≤ b + D) : NearR k (z + 1) b D (row ++ [⟨(z : Int), 0, 0, X⟩]) := by
  have hl := h.len
  refine ⟨by rw [List.length_append, hl]; rfl, fun i x hx => ?_, fun i x hx hk => ?_⟩
  · rcases Nat.lt_or_ge i z with hi | hi
    · rw [List.getElem?_append_left (by omega)] at hx; exact h.who i x hx
    · rw [List.getElem?_append_right (by omega), hl] at hx
      obtain ⟨h1, rfl⟩ := List.getElem?_eq_some_iff.1 hx
      have : i = z := by simp at h1; omega
      subst this; simp
  · rcases Nat.lt_or_ge i z with hi | hi
    · rw [List.getElem?_append_left (by omega)] at hx; exact h.near i x hx hk
    · rw [List.getElem?_append_right (by omega), hl] at hx
      obtain ⟨h1, rfl⟩ := List.getElem?_eq_some_iff.1 hx
      have : i = z := by simp at h1; omega
      subst this
      simpa using hX hk
set_option maxHeartbeats 3200000 in
theorem walk {w : World} (f n far : Int) (l : List Int) (pp : Option Addr) (c : Nat) (hi : IntsAt w (.slice pp l.length c) l) (l' : List Int) (pp' : Option Addr) (c' : Nat) (hi' : IntsAt w (.slice pp' l'.length c') l') :
    Calls Try.prog 5 #[.int .i64 f, .int .i64 n, .int .i64 far, .slice pp l.length c, .slice pp' l'.length c'] w fun e w' => e = .returned (.bool true) ∧ w.grownBy w' none := by
  have HI := hid hi
  have HI' := hid hi'
  obtain ⟨K, hK, m1⟩ := umod_small f 4 (by omega)
  have m1 : (IntKind.u64.wrap f).tmod 4 = (K : Int) := m1
  obtain ⟨n2, hn2, m2⟩ := umod_small n 4 (by omega)
  have m2 : (IntKind.u64.wrap n).tmod 4 = (n2 : Int) := m2
  obtain ⟨D, hD0, hD1, m3⟩ := umod_int far 1000 (by omega)
  have m3 : (IntKind.u64.wrap far).tmod 1000 = D := m3
  obtain ⟨C, hC⟩ : ∃ C : Nat, C = 3 * K + 1 + n2 := ⟨_, rfl⟩
  obtain ⟨a1, ha1⟩ : ∃ a1 : Int, a1 = 3 * (K : Int) := ⟨_, rfl⟩
  obtain ⟨a2, ha2⟩ : ∃ a2 : Int, a2 = a1 + 1 := ⟨_, rfl⟩
  obtain ⟨b1, hb1⟩ : ∃ b1 : Int, b1 = 2 * (K : Int) := ⟨_, rfl⟩
  obtain ⟨Q, hQ⟩ : ∃ Q : Int, Q = 2 * (K : Int) + 1 := ⟨_, rfl⟩
  obtain ⟨D1, hDD⟩ : ∃ D1 : Int, D1 = D + 1 := ⟨_, rfl⟩
  have c1 : IntKind.i64.wrap (K : Int) = (K : Int) := IntWalk.i64_in _ (by omega)
  have c2 : IntKind.i64.wrap (n2 : Int) = (n2 : Int) := IntWalk.i64_in _ (by omega)
  have c3 : IntKind.i64.wrap D = D := IntWalk.i64_in _ (by omega)
  have s1 : IntKind.i64.wrap (3 * (K : Int)) = a1 := by rw [ha1]; exact IntWalk.i64_in _ (by omega)
  have s2 : IntKind.i64.wrap (a1 + 1) = a2 := by rw [ha2]; exact IntWalk.i64_in _ (by omega)
  have s3 : IntKind.i64.wrap (a2 + (n2 : Int)) = (C : Int) := by rw [show a2 + (n2 : Int) = (C : Int) by omega]; exact IntWalk.i64_in _ (by omega)
  have s4 : IntKind.i64.wrap (2 * (K : Int)) = b1 := by rw [hb1]; exact IntWalk.i64_in _ (by omega)
  have s5 : IntKind.i64.wrap (b1 + 1) = Q := by rw [hQ, ← hb1]; exact IntWalk.i64_in _ (by omega)
  have s6 : IntKind.i64.wrap (D + 1) = D1 := by rw [hDD]; exact IntWalk.i64_in _ (by omega)
  have hm : MaySc (C : Int) 1 3 D := by unfold MaySc; omega
  have HM := hid hm
  have HQ := hid hQ
  have HC := hid (show K < 4 ∧ C ≤ 13 ∧ K ≤ C ∧ 0 ≤ D ∧ D < 1000 ∧ D1 = D + 1 by omega)
  obtain ⟨N, hN⟩ : ∃ N, l.length = N := ⟨_, rfl⟩
  have HN := hid hN
  obtain ⟨N', hN'⟩ : ∃ N', l'.length = N' := ⟨_, rfl⟩
  have HN' := hid hN'
  have hNm := hi.len
  have hNm' := hi'.len
  unfold maxLen at hNm hNm'
  rw [hN] at HI hNm ⊢
  rw [hN'] at HI' hNm' ⊢
  have N0 := hid (scnew_yes C 1 3 D hm w)
  clear hm ha1 ha2 hb1 hQ hDD hC hn2 hD1 hi hi' hN hN'
  go_enter Try.func5, Try.ntmps5
  go_wp2_with fail
  refine N0.out.mono ?_
  rintro e w1 hmade
  obtain ⟨b, hb, rfl, hk⟩ := Sk.made (.refl w none) HM.out hmade
  have K1 := hid hk
  clear hmade hk N0 HM
  go_wp2_with fail
  go_loopw [15] (fun i wr => ∃ (j : Nat) (s : Sc), j ≤ N ∧ j ≤ 12 ∧ i = .int .i64 (j : Int) ∧ NearS K C D s ∧ Sk w s b hb wr)
    (fun i _ => N - (intOf i).toNat)
  case atStart => exact ⟨0, _, Nat.zero_le _, by omega, rfl, near_new, K1.out⟩
  case round =>
    obtain ⟨j, s, hj, hj12, rfl, hs, hk⟩ := hrel
    have K2 := hid hk
    have HS := hid hs
    clear hk K1 hs
    by_cases hlt : j < N
    · by_cases h12 : (j : Int) < 12
      · have hjl : j < l.length := by rw [HN.out]; exact hlt
        obtain ⟨ab, ao, rfl, -, hcc, hcell⟩ := (HI.out.grown K2.out.gr).cell hjl
        have hjn : (j : Int) < (N : Int) := by omega
        generalize l[j] = y at *
        obtain ⟨B0, hB0, hB1, m4⟩ := umod_int y 1000000 (by omega)
        have m4 : (IntKind.u64.wrap y).tmod 1000000 = B0 := m4
        have c4 : IntKind.i64.wrap B0 = B0 := IntWalk.i64_in _ (by omega)
        obtain ⟨P, hP⟩ : ∃ P : Nat, P = j * K := ⟨_, rfl⟩
        have hP48 : P ≤ 48 := by
          rw [hP]
          have h1 : j ≤ 12 := hj12
          have h2 : K ≤ 3 := by have := HC.out.1; omega
          exact Nat.le_trans (Nat.mul_le_mul h1 h2) (by decide)
        have m5 : IntKind.i64.wrap ((j : Int) * (K : Int)) = (P : Int) := by
          rw [show (j : Int) * (K : Int) = (P : Int) by rw [hP]; push_cast; rfl]
          exact IntWalk.i64_in _ (by omega)
        have HJ := hid (show j < N ∧ j < 12 from ⟨hlt, by omega⟩)
        have HB := hid (show 0 ≤ B0 ∧ B0 < 1000000 ∧ P ≤ 48 from ⟨hB0, hB1, hP48⟩)
        clear hjl hP hB0 hB1 hP48 hj hj12 hlt
        go_wp2_with fail
        obtain ⟨wr0, hwr0⟩ : ∃ wr0, wr0 = wr := ⟨_, rfl⟩
        rw [← hwr0] at K2 ⊢
        clear hwr0
        go_loopw [17, 18] (fun u i wx => ∃ (z : Nat) (v0 : Value) (row : List Sm), u = v0 ∧ z ≤ C ∧ i = .int .i64 (z : Int) ∧ NearR K z B0 D row ∧ OwnZ wr0.heap.size wx v0 row ∧ wr0.grownBy wx none)
          (fun _ i _ => C - (intOf i).toNat)
        case atStart => exact ⟨0, _, [], rfl, Nat.zero_le _, rfl, near_nil, OwnZ.nil _ _, .refl _ _⟩
        case round =>
          obtain ⟨z, v0, row, hv0, hz, rfl, hrow, hown, hgr⟩ := hrel
          have hv' := hv0.symm
          clear hv0
          subst hv'
          have HOWN := hid hown
          have HGR := hid hgr
          have HROW := hid hrow
          have hz13 : z ≤ 13 := by have := HC.out.2.1; omega
          clear hown hgr hrow
          by_cases hzl : z < C
          · have hzc : (z : Int) < (C : Int) := by omega
            obtain ⟨w7, hw7⟩ : ∃ w7 : Int, w7 = (z : Int) * 7 := ⟨_, rfl⟩
            have t1 : IntKind.i64.wrap ((z : Int) * 7) = w7 := by rw [hw7]; exact IntWalk.i64_in _ (by omega)
            obtain ⟨R, hR⟩ : ∃ R : Int, w7.tmod D1 = R := ⟨_, rfl⟩
            have hR0 : 0 ≤ R ∧ R ≤ D := by
              have h1 := HC.out
              have h2 : w7.tmod D1 = w7 % D1 := Int.tmod_eq_emod_of_nonneg (by omega)
              have h3 := Int.emod_nonneg w7 (show D1 ≠ 0 by omega)
              have h4 := Int.emod_lt_of_pos w7 (show 0 < D1 by omega)
              omega
            have t2 : IntKind.i64.wrap R = R := IntWalk.i64_in _ (by have := HC.out; omega)
            obtain ⟨x0, hx0⟩ : ∃ x0 : Int, x0 = B0 + R := ⟨_, rfl⟩
            have t3 : IntKind.i64.wrap (B0 + R) = x0 := by rw [hx0]; exact IntWalk.i64_in _ (by have := HC.out; have := HB.out; omega)
            have d1 : ¬ D1 = 0 := by have := HC.out; omega
            have HX := hid (show B0 ≤ x0 ∧ x0 ≤ B0 + D by omega)
            have HZ := hid (show z < C from hzl)
            have HADD := hid (fun (X : Int) (hX : K ≤ z → B0 ≤ X ∧ X ≤ B0 + D) => near_add HROW.out hX)
            have HRL := hid HROW.out.len
            clear hw7 hR0 hx0 hzl hz
            by_cases hzk : (K : Int) ≤ (z : Int)
            · have hzk' : ¬ (z : Int) < (K : Int) := by omega
              have SM := hid (smp_new wr ⟨(z : Int), 0, 0, x0⟩)
              have G1 := hid (gb_alloc HGR.out (.cells #[.int .i64 (z : Int), .int .i64 0, .int .i64 0, .int .i64 x0] 40))
              have O1 := hid (HOWN.out.grown (World.grownBy_alloc wr (.cells #[.int .i64 (z : Int), .int .i64 0, .int .i64 0, .int .i64 x0] 40) none))
              have HLL := hid (show row.length + [(⟨(z : Int), 0, 0, x0⟩ : Sm)].length ≤ 1000000 by have := HRL.out; rw [this, List.length_singleton]; omega)
              obtain ⟨pv, cv, rfl⟩ := HOWN.out.form
              clear HOWN HGR
              go_wp2_with
                (refine append_smp rfl _ _ rfl wr0.heap.size _ _ rfl O1.out _ [⟨(z : Int), 0, 0, x0⟩] rfl SM.out HLL.out G1.out.size ?_; intro v' w3 hown3 hg3 hat3; have HO3 := hid hown3; have HG3 := hid (gb_ownZ G1.out O1.out (Nat.le_refl _) hg3); clear hown3 hg3 hat3)
              go_roundw
              case rel => exact ⟨z + 1, _, _, rfl, by have := HZ.out; omega, by go_num, HADD.out x0 (fun _ => HX.out), HO3.out, HG3.out⟩
              case measure => have := HZ.out; simp [intOf]; omega
            · have hzk' : (z : Int) < (K : Int) := by omega
              obtain ⟨J, hJ⟩ : ∃ J : Nat, J = P + z := ⟨_, rfl⟩
              have t4 : IntKind.i64.wrap ((P : Int) + (z : Int)) = (J : Int) := by
                rw [show (P : Int) + (z : Int) = (J : Int) by omega]; exact IntWalk.i64_in _ (by have := HB.out; omega)
              clear hJ
              by_cases hJl : J < N'
              · have hJl' : (J : Int) < (N' : Int) := by omega
                have hJll : J < l'.length := by rw [HN'.out]; exact hJl
                obtain ⟨ab', ao', rfl, -, hcc', hcell'⟩ := (HI'.out.grown (gb_trans K2.out.gr HGR.out (.inl rfl))).cell hJll
                generalize l'[J] = yy at *
                obtain ⟨X, hX0, hX1, m6⟩ := umod_int yy 1099511627777 (by omega)
                have m6 : (IntKind.u64.wrap yy).tmod 1099511627777 = X := m6
                have c6 : IntKind.i64.wrap X = X := IntWalk.i64_in _ (by omega)
                clear hJll hX0 hX1
                have SM := hid (smp_new wr ⟨(z : Int), 0, 0, X⟩)
                have G1 := hid (gb_alloc HGR.out (.cells #[.int .i64 (z : Int), .int .i64 0, .int .i64 0, .int .i64 X] 40))
                have O1 := hid (HOWN.out.grown (World.grownBy_alloc wr (.cells #[.int .i64 (z : Int), .int .i64 0, .int .i64 0, .int .i64 X] 40) none))
                have HLL := hid (show row.length + [(⟨(z : Int), 0, 0, X⟩ : Sm)].length ≤ 1000000 by have := HRL.out; rw [this, List.length_singleton]; omega)
                obtain ⟨pv, cv, rfl⟩ := HOWN.out.form
                clear HOWN HGR
                go_wp2_with
                  (refine append_smp rfl _ _ rfl wr0.heap.size _ _ rfl O1.out _ [⟨(z : Int), 0, 0, X⟩] rfl SM.out HLL.out G1.out.size ?_; intro v' w3 hown3 hg3 hat3; have HO3 := hid hown3; have HG3 := hid (gb_ownZ G1.out O1.out (Nat.le_refl _) hg3); clear hown3 hg3 hat3)
                go_roundw
                case rel => exact ⟨z + 1, _, _, rfl, by have := HZ.out; omega, by go_num, HADD.out X (fun h => absurd h (by omega)), HO3.out, HG3.out⟩
                case measure => have := HZ.out; simp [intOf]; omega
              · have hJl' : ¬ (J : Int) < (N' : Int) := by omega
                have SM := hid (smp_new wr ⟨(z : Int), 0, 0, 0⟩)
                have G1 := hid (gb_alloc HGR.out (.cells #[.int .i64 (z : Int), .int .i64 0, .int .i64 0, .int .i64 0] 40))
                have O1 := hid (HOWN.out.grown (World.grownBy_alloc wr (.cells #[.int .i64 (z : Int), .int .i64 0, .int .i64 0, .int .i64 0] 40) none))
                have HLL := hid (show row.length + [(⟨(z : Int), 0, 0, 0⟩ : Sm)].length ≤ 1000000 by have := HRL.out; rw [this, List.length_singleton]; omega)
                obtain ⟨pv, cv, rfl⟩ := HOWN.out.form
                clear HOWN HGR
                go_wp2_with
                  (refine append_smp rfl _ _ rfl wr0.heap.size _ _ rfl O1.out _ [⟨(z : Int), 0, 0, 0⟩] rfl SM.out HLL.out G1.out.size ?_; intro v' w3 hown3 hg3 hat3; have HO3 := hid hown3; have HG3 := hid (gb_ownZ G1.out O1.out (Nat.le_refl _) hg3); clear hown3 hg3 hat3)
                go_roundw
                case rel => exact ⟨z + 1, _, _, rfl, by have := HZ.out; omega, by go_num, HADD.out 0 (fun h => absurd h (by omega)), HO3.out, HG3.out⟩
                case measure => have := HZ.out; simp [intOf]; omega
          · obtain rfl : z = C := by omega
            have hzc : ¬ (z : Int) < (z : Int) := by omega
            have HRL := hid HROW.out.len
            obtain ⟨pv, cv, rfl⟩ := HOWN.out.form
            have RB := hid (rowsS_one (at_new wr (.cells #[.slice pv row.length cv] 38)) (HOWN.out.reads.grown (World.grownBy_alloc _ _ none)))
            have K5 := hid ((K2.out.grown HGR.out).alloc (.cells #[.slice pv row.length cv] 38))
            have CL := hid (K5.out.closeN (s' := s.close [row] Q) (g := s.gone [row] Q) RB.out (by simp) (by intro y hy; rw [List.mem_singleton.1 hy]; show row.length ≤ 1000; have := HRL.out; omega) Q ⟨rfl, rfl⟩)
            have NS := hid (show NearS K z D (s.close [row] Q) by rw [HQ.out]; exact near_close HS.out HROW.out)
            generalize s.close [row] Q = s' at *
            clear HRL RB K5 K2 HOWN HGR HROW HS
            go_wp2_with fail
            refine CL.out.mono ?_
            rintro e w6 ⟨p6, q6, rfl, -, hk, -⟩
            have K6 := hid hk
            clear hk CL
            go_wp2_with fail
            go_loopw [21] (fun i wx => ∃ y : Nat, K ≤ y ∧ y ≤ z ∧ i = .int .i64 (y : Int) ∧ Sk w s' b hb wx) (fun i _ => z - (intOf i).toNat)
            case atStart => exact ⟨K, Nat.le_refl _, HC.out.2.2.1, rfl, K6.out⟩
            case round =>
              obtain ⟨y, hy0, hy1, rfl, hk⟩ := hrel
              have K7 := hid hk
              clear hk K6 hzc
              by_cases hyl : y < z
              · have hyc : (y : Int) < (z : Int) := by omega
                have GT := hid (show Calls Try.prog 21 #[.pointer (some ⟨b, 0, none⟩), .int .i64 (y : Int)] wr fun e w' => e = .returned (.tuple #[.agg #[.int .i64 0, .int .i64 0, .bool false], .int .i64 0]) ∧ wr.grownBy w' none from get_in K7.out.sat y (false, 0) (NS.out.good y hy0 hyl))
                have HY := hid (And.intro hy0 hyl)
                clear hy0 hy1 hyl
                go_wp2_with fail
                refine GT.out.mono ?_
                rintro e w7 ⟨rfl, hg⟩
                have K8 := hid ((K7.out.grown hg).alloc (.cells #[.int .i64 0, .int .i64 0, .bool false] 45))
                clear hg GT K7
                go_wp2_with fail
                go_roundw
                case rel => exact ⟨y + 1, by have := HY.out; omega, by have := HY.out; omega, by go_num, K8.out⟩
                case measure => have := HY.out; simp [intOf]; omega
              · have hyc : ¬ (y : Int) < (z : Int) := by omega
                clear hy0 hy1 hyl
                go_wp2_with fail
                go_roundw
                case rel => exact ⟨j + 1, s', by have := HJ.out; omega, by have := HJ.out; omega, by go_num, NS.out, K7.out⟩
                case measure => have := HJ.out; simp [intOf]; omega
      · have hjn : (j : Int) < (N : Int) := by omega
        clear hj hj12 hlt
        go_wp2_with fail
        refine (sctold_any _).mono ?_
        rintro e w8 ⟨rfl, hg⟩
        go_wp2_with fail
        go_ret
        exact ⟨rfl, gb_trans K2.out.gr hg (.inl rfl)⟩
    · have hjn : ¬ (j : Int) < (N : Int) := by omega
      clear hj hj12 hlt
      go_wp2_with fail
      refine (sctold_any _).mono ?_
      rintro e w8 ⟨rfl, hg⟩
      go_wp2_with fail
      go_ret
      exact ⟨rfl, gb_trans K2.out.gr hg (.inl rfl)⟩
end Go.Proofs.Ytogmibmkkmbgoaa.scnear
