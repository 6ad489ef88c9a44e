/-
  The walk of the statement OrderRanks: of two rows together each rank is the sum of both. No condition.
-/
import Derived.Test.YtkobipkmcpbloaaOTold
import Derived.Test.YtkobipkmcpbloaaKl
set_option linter.unusedSimpArgs false
set_option linter.unusedVariables false
namespace Go.Proofs.Ytkobipkmcpbloaa.oranks
set_option maxRecDepth 100000
open Go.RowKit

set_option maxHeartbeats 800000 in
theorem walk {w : World} (la : List Int) (pa : Option Addr) (ca : Nat) (ia : IntsAt w (.slice pa la.length ca) la) (fa : Fits la) (lb : List Int) (pb : Option Addr) (cb : Nat) (ib : IntsAt w (.slice pb lb.length cb) lb) (fb : Fits lb) (v : Int) :
    Calls Try.prog 7 #[.slice pa la.length ca, .slice pb lb.length cb, .int .i64 v] w fun e w' => e = .returned (.bool true) ∧ w.grownBy w' none := by
  have la1 := ia.len; have lb1 := ib.len
  have K0 := hid (((Kl.start w).add ib).add ia)
  have FA := hid fa; have FB := hid fb
  obtain ⟨na, hna⟩ : ∃ n, la.length = n := ⟨_, rfl⟩
  obtain ⟨nb, hnb⟩ : ∃ n, lb.length = n := ⟨_, rfl⟩
  rw [hna] at K0 la1 ⊢
  rw [hnb] at K0 lb1 ⊢
  have NA := hid hna; have NB := hid hnb
  unfold maxLen at la1 lb1
  clear ia ib fa fb hna hnb
  by_cases h1 : 25 < na
  · have d1 : decide (25 < (na : Int)) = true := by simp; omega
    go_enter Try.func7, Try.ntmps7
    go_wp2_with fail
    refine (otold_any _).mono ?_
    rintro e w1 ⟨rfl, hg⟩
    have G1 := hid hg; clear hg
    go_wp2_with fail
    go_ret
    exact ⟨rfl, G1.out⟩
  have d1 : decide (25 < (na : Int)) = false := by simp; omega
  by_cases h2 : 25 < nb
  · have d2 : decide (25 < (nb : Int)) = true := by simp; omega
    go_enter Try.func7, Try.ntmps7
    go_wp2_with fail
    refine (otold_any _).mono ?_
    rintro e w1 ⟨rfl, hg⟩
    have G1 := hid hg; clear hg
    go_wp2_with fail
    go_ret
    exact ⟨rfl, G1.out⟩
  have d2 : decide (25 < (nb : Int)) = false := by simp; omega
  obtain ⟨m, hm⟩ : ∃ m, ms (la ++ lb) = m := ⟨_, rfl⟩
  have hml : m.length = na + nb := by rw [← hm, ms_len, List.length_append, NA.out, NB.out]
  have MM := hid hm; have ML := hid hml
  have hmm : ms m = m := by rw [← hm]; exact ms_ms _
  have MS := hid hmm
  have FM := hid (show Fits m from hm ▸ (FA.out.append FB.out).perm (ms_perm _))
  have RK := hid (show rk m v = rk la v + rk lb v by rw [← hm, rk_ms, rk_append])
  have hab := hid (show (la ++ lb).length ≤ 1000000 by rw [List.length_append, NA.out, NB.out]; omega)
  have SM := hid (show decide (ms m = ms (ms (lb ++ la))) = true from decide_eq_true (by rw [← hm, ms_ms, ms_ms]; exact ms_of_perm List.perm_append_comm))
  clear hm hml hmm
  have sz : IntKind.i64.wrap ((na : Int) + (nb : Int)) = (na : Int) + (nb : Int) := IntWalk.i64_in _ (by omega)
  go_enter Try.func7, Try.ntmps7
  go_wp2_with fail
  refine (ounion_as K0.out.i0 K0.out.i1 hab.out MM.out).mono ?_
  rintro e w1 ⟨u, rfl, ho, hg⟩
  have K1 := hid ((K0.out.grown hg).add ho.ints)
  obtain ⟨pu, cu, rfl⟩ := ho.form
  clear ho hg K0
  have hl := ML.out
  obtain ⟨N, hN⟩ : ∃ N, m.length = N := ⟨_, rfl⟩
  rw [hN] at K1 hl ⊢
  have HN := hid hN; clear hN
  have d3 : ((N : Int) != (na : Int) + (nb : Int)) = false := by simp; omega
  have hra := rk_le la v; have hrb := rk_le lb v; have hrm := rk_le m v
  rw [NA.out] at hra; rw [NB.out] at hrb; rw [HN.out] at hrm
  have rkm := RK.out
  obtain ⟨ra, era⟩ : ∃ r, rk la v = r := ⟨_, rfl⟩
  obtain ⟨rb, erb⟩ : ∃ r, rk lb v = r := ⟨_, rfl⟩
  obtain ⟨rm, erm⟩ : ∃ r, rk m v = r := ⟨_, rfl⟩
  rw [era] at hra rkm; rw [erb] at hrb rkm; rw [erm] at hrm rkm
  have ERA := hid era; have ERB := hid erb; have ERM := hid erm
  clear era erb erm
  have s4 : IntKind.i64.wrap ((ra : Int) + (rb : Int)) = (ra : Int) + (rb : Int) := IntWalk.i64_in _ (by omega)
  have d4 : ((rm : Int) != (ra : Int) + (rb : Int)) = false := by simp; omega
  have HLM := hid (show m.length ≤ 1000000 by rw [HN.out]; omega)
  have HLA := hid (show la.length ≤ 1000000 by rw [NA.out]; omega)
  have HLB := hid (show lb.length ≤ 1000000 by rw [NB.out]; omega)
  have HNN := hid hl
  clear hl hra hrb hrm rkm
  go_wp2_with fail
  refine (orank_as K1.out.i0 HLM.out ERM.out).mono ?_
  rintro e w2 ⟨rfl, hg⟩
  have K2 := hid (K1.out.grown hg); clear hg K1
  go_wp2_with fail
  refine (orank_as K2.out.i1 HLA.out ERA.out).mono ?_
  rintro e w3 ⟨rfl, hg⟩
  have K3 := hid (K2.out.grown hg); clear hg K2
  go_wp2_with fail
  refine (orank_as K3.out.i2 HLB.out ERB.out).mono ?_
  rintro e w4 ⟨rfl, hg⟩
  have K4 := hid (K3.out.grown hg); clear hg K3
  go_wp2_with fail
  clear d3 d4 s4 sz
  go_loopw [8, 9, 10] (fun i _ _ wr => ∃ k : Nat, k ≤ N ∧ i = .int .i64 (k : Int) ∧ Kl w [(.slice pu N cu, m), (.slice pa na ca, la), (.slice pb nb cb, lb)] wr) (fun i _ _ _ => N - (intOf i).toNat)
  case atStart => exact ⟨0, Nat.zero_le _, rfl, K4.out⟩
  case round =>
    obtain ⟨k, hk, rfl, hK⟩ := hrel
    have K5 := hid hK; clear hK K4
    have q0 : (N : Int) ≤ 100 := by have := HNN.out; omega
    by_cases hlt : k < N
    · have hkm : k < m.length := by rw [HN.out]; exact hlt
      have hk2 : k < (ms m).length := by rw [MS.out]; exact hkm
      have hx := List.getElem?_eq_getElem hkm
      have hxf := FM.out m[k] (List.getElem_mem hkm)
      have hr1 := rk_kth m k hk2
      have hr2 := rk_above m k hk2
      have hat := atOf_in m k hk2
      simp only [MS.out] at hr1 hr2 hat
      obtain ⟨ab, ao, hpu, -, hcc, hcell⟩ := K5.out.i0.cell hkm
      subst hpu
      generalize m[k] = x at *
      obtain ⟨r1, er1⟩ : ∃ r, rk m x = r := ⟨_, rfl⟩
      rw [er1] at hr1
      have ER1 := hid er1; have HAT := hid hat; have HR2 := hid hr2
      clear er1 hat hr2 hx
      have q1 : (k : Int) < (N : Int) := by omega
      have d5 : (x != x) = false := by simp
      have d6 : decide ((k : Int) < (r1 : Int)) = false := by simp; omega
      go_wp2_with fail
      refine (oat_as K5.out.i0 HLM.out HAT.out).mono ?_
      rintro e w6 ⟨rfl, hg⟩
      have K6 := hid (K5.out.grown hg)
      have hcell2 := hg.cell hcell (by simp)
      clear hg K5 hcell
      go_wp2_with fail
      refine (orank_as K6.out.i0 HLM.out ER1.out).mono ?_
      rintro e w7 ⟨rfl, hg⟩
      have K7 := hid (K6.out.grown hg)
      clear hg K6 hcell2
      by_cases hmax : x < 9223372036854775807
      · have d7 : decide (x < 9223372036854775807) = true := by simpa using hmax
        have hr3 := HR2.out (x + 1) (by omega)
        obtain ⟨r3, er3⟩ : ∃ r, rk m (x + 1) = r := ⟨_, rfl⟩
        rw [er3] at hr3
        have ER3 := hid er3; clear er3
        have d8 : decide ((r3 : Int) ≤ (k : Int)) = false := by simp; omega
        obtain ⟨y, hy⟩ : ∃ y, x + 1 = y := ⟨_, rfl⟩
        have s7 : IntKind.i64.wrap (x + 1) = y := by rw [← hy]; exact IntWalk.i64_in _ (by omega)
        rw [hy] at ER3
        clear hy hxf HR2
        go_wp2_with fail
        refine (orank_as K7.out.i0 HLM.out ER3.out).mono ?_
        rintro e w8 ⟨rfl, hg⟩
        have K8 := hid (K7.out.grown hg)
        clear hg K7
        go_wp2_with fail
        go_roundw
        case rel => exact ⟨k + 1, by omega, by go_num, K8.out⟩
        case measure => simp [intOf]; omega
      · have d7 : decide (x < 9223372036854775807) = false := by simpa using hmax
        clear hxf HR2 hmax
        go_wp2_with fail
        go_roundw
        case rel => exact ⟨k + 1, by omega, by go_num, K7.out⟩
        case measure => simp [intOf]; omega
    · obtain rfl : k = N := by omega
      have hab2 := hid (show (lb ++ la).length ≤ 1000000 by rw [List.length_append, NA.out, NB.out]; omega)
      go_wp2_with fail
      refine (otold_any _).mono ?_
      rintro e w6 ⟨rfl, hg⟩
      have K6 := hid (K5.out.grown hg); clear hg K5
      go_wp2_with fail
      refine (ounion_as K6.out.i2 K6.out.i1 hab2.out rfl).mono ?_
      rintro e w7 ⟨u2, rfl, ho, hg⟩
      have K7 := hid ((K6.out.grown hg).add ho.ints)
      have HL2 := hid (show (ms (lb ++ la)).length ≤ 1000000 by rw [ms_len]; exact hab2.out)
      obtain ⟨pu2, cu2, rfl⟩ := ho.form
      clear ho hg K6
      generalize ms (lb ++ la) = m2 at *
      go_wp2_with fail
      refine (osame_as K7.out.i1 K7.out.i0 HLM.out HL2.out SM.out).mono ?_
      rintro e w8 ⟨rfl, hg⟩
      have K8 := hid (K7.out.grown hg)
      clear hg K7
      go_wp2_with fail
      go_ret
      exact ⟨rfl, K8.out.gr⟩
end Go.Proofs.Ytkobipkmcpbloaa.oranks
