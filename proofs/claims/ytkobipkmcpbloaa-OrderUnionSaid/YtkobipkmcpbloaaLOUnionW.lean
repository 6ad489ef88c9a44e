/-
  The walk of the statement OrderUnion: a union has each number as often as both rows together. No condition.
-/
import Derived.Test.YtkobipkmcpbloaaOTold
import Derived.Test.YtkobipkmcpbloaaKl
import Derived.Test.YtkobipkmcpbloaaCnt
set_option linter.unusedSimpArgs false
set_option linter.unusedVariables false
namespace Go.Proofs.Ytkobipkmcpbloaa.ounion
set_option maxRecDepth 100000
open Go.RowKit

set_option maxHeartbeats 1600000 in
theorem walk {w : World} (la : List Int) (pa : Option Addr) (ca : Nat) (ia : IntsAt w (.slice pa la.length ca) la) (fa : Fits la) (lb : List Int) (pb : Option Addr) (cb : Nat) (ib : IntsAt w (.slice pb lb.length cb) lb) (fb : Fits lb) :
    Calls Try.prog 3 #[.slice pa la.length ca, .slice pb lb.length cb] w fun e w' => e = .returned (.bool true) ∧ w.grownBy w' none := by
  have la1 := ia.len; have lb1 := ib.len
  have K0 := hid (((Kl.start w).add ib).add ia)
  obtain ⟨na, hna⟩ : ∃ n, la.length = n := ⟨_, rfl⟩
  obtain ⟨nb, hnb⟩ : ∃ n, lb.length = n := ⟨_, rfl⟩
  rw [hna] at K0 la1 ⊢
  rw [hnb] at K0 lb1 ⊢
  have NA := hid hna; have NB := hid hnb
  unfold maxLen at la1 lb1
  clear ia ib fa fb hna hnb
  by_cases h1 : 25 < na
  · have d1 : decide (25 < (na : Int)) = true := by simp; omega
    go_enter Try.func3, Try.ntmps3
    go_wp2_with fail
    refine (otold_any _).mono ?_
    rintro e w1 ⟨rfl, hg⟩
    have G1 := hid hg; clear hg
    go_wp2_with fail
    go_ret
    exact ⟨rfl, G1.out⟩
  have d1 : decide (25 < (na : Int)) = false := by simp; omega
  by_cases h2 : 25 < nb
  · have d2 : decide (25 < (nb : Int)) = true := by simp; omega
    go_enter Try.func3, Try.ntmps3
    go_wp2_with fail
    refine (otold_any _).mono ?_
    rintro e w1 ⟨rfl, hg⟩
    have G1 := hid hg; clear hg
    go_wp2_with fail
    go_ret
    exact ⟨rfl, G1.out⟩
  have d2 : decide (25 < (nb : Int)) = false := by simp; omega
  obtain ⟨m, hm⟩ : ∃ m, ms (la ++ lb) = m := ⟨_, rfl⟩
  have hml : m.length = na + nb := by rw [← hm, ms_len, List.length_append, NA.out, NB.out]
  have MM := hid hm; have ML := hid hml
  have CNT := hid (show ∀ x, cnt m x = cnt la x + cnt lb x from fun x => by rw [← hm, cnt_perm (ms_perm _), cnt_append])
  have SRT := hid (show ∀ i j (hij : i ≤ j) (hi : i < m.length) {x : Int} (hx : m[j]? = some x), m[i] ≤ x from fun i j hij hi x hx => by
    obtain ⟨hj, rfl⟩ := List.getElem?_eq_some_iff.1 hx
    subst hm
    exact ms_le hij hj)
  have hab := hid (show (la ++ lb).length ≤ 1000000 by rw [List.length_append, NA.out, NB.out]; omega)
  have SM := hid (show decide (ms m = ms (lb ++ la)) = true from decide_eq_true (by rw [← hm, ms_ms]; exact ms_of_perm List.perm_append_comm))
  clear hm hml
  have sz : IntKind.i64.wrap ((na : Int) + (nb : Int)) = (na : Int) + (nb : Int) := IntWalk.i64_in _ (by omega)
  go_enter Try.func3, Try.ntmps3
  go_wp2_with fail
  refine (ounion_as K0.out.i0 K0.out.i1 hab.out MM.out).mono ?_
  rintro e w1 ⟨u, rfl, ho, hg⟩
  have K1 := hid ((K0.out.grown hg).add ho.ints)
  obtain ⟨pu, cu, rfl⟩ := ho.form
  clear ho hg K0
  have hl := ML.out
  obtain ⟨N, hN⟩ : ∃ N, m.length = N := ⟨_, rfl⟩
  rw [hN] at K1 hl ⊢
  have HN := hid hN; clear hN
  have d3 : ((N : Int) != (na : Int) + (nb : Int)) = false := by simp; omega
  have HLM := hid (show m.length ≤ 1000000 by rw [HN.out]; omega)
  have HNN := hid hl
  clear hl
  go_wp2_with fail
  clear d3 sz
  go_loopw [6, 7, 8, 9, 10] (fun i _ _ _ _ wr => ∃ k : Nat, k ≤ N ∧ i = .int .i64 (k : Int) ∧ Kl w [(.slice pu N cu, m), (.slice pa na ca, la), (.slice pb nb cb, lb)] wr) (fun i _ _ _ _ _ => N - (intOf i).toNat)
  case atStart => exact ⟨0, Nat.zero_le _, rfl, K1.out⟩
  case round =>
    obtain ⟨i, hi, rfl, hK⟩ := hrel
    have K6 := hid hK; clear hK K1
    have q0 : (N : Int) ≤ 100 := by have := HNN.out; omega
    by_cases hltN : i < N
    · have him : i < m.length := by rw [HN.out]; exact hltN
      have hx := List.getElem?_eq_getElem him
      obtain ⟨ub, uo, hpu, -, hcu, _⟩ := K6.out.i0.cell him
      subst hpu
      generalize m[i] = x at *
      have HX := hid hx; have CT := hid (CNT.out x)
      clear hx
      have qi : (i : Int) < (N : Int) := by omega
      go_wp2_with fail
      go_loopw [7, 8] (fun n i wr => ∃ (k : Nat) (z : Int), k ≤ N ∧ i = .int .i64 (k : Int) ∧ n = .int .i64 z ∧ z = 0 + ((cnt (m.take k) x : Nat) : Int) ∧ Kl w [(.slice (some ⟨ub, uo, none⟩) N cu, m), (.slice pa na ca, la), (.slice pb nb cb, lb)] wr) (fun _ i _ => N - (intOf i).toNat)
      case atStart => exact ⟨0, 0, Nat.zero_le _, rfl, rfl, by rw [cnt_zero]; simp, K6.out⟩
      case round =>
        obtain ⟨k, z, hk, rfl, rfl, hz, hK⟩ := hrel
        have K7 := hid hK; have HZ := hid hz
        have hcl := cnt_le m x k
        clear hK hz K6
        by_cases hlt : k < N
        · have hkm : k < m.length := by rw [HN.out]; exact hlt
          have hcx := K7.out.i0.cell' HX.out
          obtain ⟨ab, ao, hp, -, hcc, hcell⟩ := K7.out.i0.cell hkm
          cases hp
          have hs := cnt_succ m x k hkm
          generalize m[k] = y at *
          have q1 : (k : Int) < (N : Int) := by omega
          have hzb : -300 ≤ z ∧ z ≤ 300 := by have := HZ.out; omega
          have s1 : IntKind.i64.wrap (z + 1) = z + 1 := IntWalk.i64_in _ (by omega)
          have HS := hid hs; clear hs
          by_cases hy : y = x
          · have d0 : (y == x) = true := by simpa using hy
            have hs2 : cnt (m.take (k + 1)) x = cnt (m.take k) x + 1 := by rw [HS.out, if_pos hy]
            have hz2 : z + 1 = 0 + ((cnt (m.take (k + 1)) x : Nat) : Int) := by rw [hs2, HZ.out]; push_cast; omega
            have HZ2 := hid hz2
            clear hy hs2 hz2 HS hzb hcl
            go_wp2_with fail
            go_quiet (fail)
            go_wp2_with fail
            go_roundw
            case rel => exact ⟨k + 1, z + 1, by omega, by go_num, rfl, HZ2.out, K7.out.drewN _⟩
            case measure => simp [intOf]; omega
          · have d0 : (y == x) = false := by simpa using hy
            have hs2 : cnt (m.take (k + 1)) x = cnt (m.take k) x := by rw [HS.out, if_neg hy, Nat.add_zero]
            have hz2 : z = 0 + ((cnt (m.take (k + 1)) x : Nat) : Int) := by rw [hs2]; exact HZ.out
            have HZ2 := hid hz2
            clear hy hs2 hz2 HS hzb hcl
            go_wp2_with fail
            go_quiet (fail)
            go_wp2_with fail
            go_roundw
            case rel => exact ⟨k + 1, z, by omega, by go_num, rfl, HZ2.out, K7.out.drewN _⟩
            case measure => simp [intOf]; omega
        · have hkn : k = N := by omega
          have hq : ¬ (k : Int) < (N : Int) := by omega
          have hz2 := HZ.out
          rw [cnt_all m x k (by rw [HN.out]; omega)] at hz2
          obtain ⟨z1, hz3⟩ : ∃ t, t = z := ⟨_, rfl⟩
          subst hz3
          have C1 := hid hz2; have hb1 : 0 ≤ z1 ∧ z1 ≤ 100 := by have := cnt_len m x; rw [HN.out] at this; omega
          clear hz2 HZ hcl hk hkn
          go_wp2_with fail
          clear hq
          go_loopw [7, 9] (fun n i wr => ∃ (k : Nat) (z : Int), k ≤ na ∧ i = .int .i64 (k : Int) ∧ n = .int .i64 z ∧ z = z1 - ((cnt (la.take k) x : Nat) : Int) ∧ Kl w [(.slice (some ⟨ub, uo, none⟩) N cu, m), (.slice pa na ca, la), (.slice pb nb cb, lb)] wr) (fun _ i _ => na - (intOf i).toNat)
          case atStart => exact ⟨0, z1, Nat.zero_le _, rfl, rfl, by rw [cnt_zero]; simp, K7.out⟩
          case round =>
            obtain ⟨k, z, hk, rfl, rfl, hz, hK⟩ := hrel
            have K8 := hid hK; have HZ := hid hz
            have hcl := cnt_le la x k
            clear hK hz K7
            by_cases hlt : k < na
            · have hkm : k < la.length := by rw [NA.out]; exact hlt
              have hcx := K8.out.i0.cell' HX.out
              obtain ⟨ab, ao, hp, -, hcc, hcell⟩ := K8.out.i1.cell hkm
              subst hp
              have hs := cnt_succ la x k hkm
              generalize la[k] = y at *
              have q1 : (k : Int) < (na : Int) := by omega
              have hzb : -300 ≤ z ∧ z ≤ 300 := by have := HZ.out; omega
              have s1 : IntKind.i64.wrap (z - 1) = z - 1 := IntWalk.i64_in _ (by omega)
              have HS := hid hs; clear hs
              by_cases hy : y = x
              · have d0 : (y == x) = true := by simpa using hy
                have hs2 : cnt (la.take (k + 1)) x = cnt (la.take k) x + 1 := by rw [HS.out, if_pos hy]
                have hz2 : z - 1 = z1 - ((cnt (la.take (k + 1)) x : Nat) : Int) := by rw [hs2, HZ.out]; push_cast; omega
                have HZ2 := hid hz2
                clear hy hs2 hz2 HS hzb hcl
                go_wp2_with fail
                go_quiet (fail)
                go_wp2_with fail
                go_roundw
                case rel => exact ⟨k + 1, z - 1, by omega, by go_num, rfl, HZ2.out, K8.out.drewN _⟩
                case measure => simp [intOf]; omega
              · have d0 : (y == x) = false := by simpa using hy
                have hs2 : cnt (la.take (k + 1)) x = cnt (la.take k) x := by rw [HS.out, if_neg hy, Nat.add_zero]
                have hz2 : z = z1 - ((cnt (la.take (k + 1)) x : Nat) : Int) := by rw [hs2]; exact HZ.out
                have HZ2 := hid hz2
                clear hy hs2 hz2 HS hzb hcl
                go_wp2_with fail
                go_quiet (fail)
                go_wp2_with fail
                go_roundw
                case rel => exact ⟨k + 1, z, by omega, by go_num, rfl, HZ2.out, K8.out.drewN _⟩
                case measure => simp [intOf]; omega
            · have hkn : k = na := by omega
              have hq : ¬ (k : Int) < (na : Int) := by omega
              have hz2 := HZ.out
              rw [cnt_all la x k (by rw [NA.out]; omega)] at hz2
              obtain ⟨z2, hz3⟩ : ∃ t, t = z := ⟨_, rfl⟩
              subst hz3
              have C2 := hid hz2; have hb2 : -100 ≤ z2 ∧ z2 ≤ 100 := by have := C1.out; have := cnt_len la x; rw [NA.out] at this; omega
              clear hz2 HZ hcl hk hkn hb1
              go_wp2_with fail
              clear hq
              go_loopw [7, 10] (fun n i wr => ∃ (k : Nat) (z : Int), k ≤ nb ∧ i = .int .i64 (k : Int) ∧ n = .int .i64 z ∧ z = z2 - ((cnt (lb.take k) x : Nat) : Int) ∧ Kl w [(.slice (some ⟨ub, uo, none⟩) N cu, m), (.slice pa na ca, la), (.slice pb nb cb, lb)] wr) (fun _ i _ => nb - (intOf i).toNat)
              case atStart => exact ⟨0, z2, Nat.zero_le _, rfl, rfl, by rw [cnt_zero]; simp, K8.out⟩
              case round =>
                obtain ⟨k, z, hk, rfl, rfl, hz, hK⟩ := hrel
                have K9 := hid hK; have HZ := hid hz
                have hcl := cnt_le lb x k
                clear hK hz K8
                by_cases hlt : k < nb
                · have hkm : k < lb.length := by rw [NB.out]; exact hlt
                  have hcx := K9.out.i0.cell' HX.out
                  obtain ⟨ab, ao, hp, -, hcc, hcell⟩ := K9.out.i2.cell hkm
                  subst hp
                  have hs := cnt_succ lb x k hkm
                  generalize lb[k] = y at *
                  have q1 : (k : Int) < (nb : Int) := by omega
                  have hzb : -300 ≤ z ∧ z ≤ 300 := by have := HZ.out; omega
                  have s1 : IntKind.i64.wrap (z - 1) = z - 1 := IntWalk.i64_in _ (by omega)
                  have HS := hid hs; clear hs
                  by_cases hy : y = x
                  · have d0 : (y == x) = true := by simpa using hy
                    have hs2 : cnt (lb.take (k + 1)) x = cnt (lb.take k) x + 1 := by rw [HS.out, if_pos hy]
                    have hz2 : z - 1 = z2 - ((cnt (lb.take (k + 1)) x : Nat) : Int) := by rw [hs2, HZ.out]; push_cast; omega
                    have HZ2 := hid hz2
                    clear hy hs2 hz2 HS hzb hcl
                    go_wp2_with fail
                    go_quiet (fail)
                    go_wp2_with fail
                    go_roundw
                    case rel => exact ⟨k + 1, z - 1, by omega, by go_num, rfl, HZ2.out, K9.out.drewN _⟩
                    case measure => simp [intOf]; omega
                  · have d0 : (y == x) = false := by simpa using hy
                    have hs2 : cnt (lb.take (k + 1)) x = cnt (lb.take k) x := by rw [HS.out, if_neg hy, Nat.add_zero]
                    have hz2 : z = z2 - ((cnt (lb.take (k + 1)) x : Nat) : Int) := by rw [hs2]; exact HZ.out
                    have HZ2 := hid hz2
                    clear hy hs2 hz2 HS hzb hcl
                    go_wp2_with fail
                    go_quiet (fail)
                    go_wp2_with fail
                    go_roundw
                    case rel => exact ⟨k + 1, z, by omega, by go_num, rfl, HZ2.out, K9.out.drewN _⟩
                    case measure => simp [intOf]; omega
                · have hkn : k = nb := by omega
                  have hq : ¬ (k : Int) < (nb : Int) := by omega
                  have hz2 := HZ.out
                  rw [cnt_all lb x k (by rw [NB.out]; omega)] at hz2
                  obtain ⟨z3, hz3⟩ : ∃ t, t = z := ⟨_, rfl⟩
                  subst hz3
                  have C3 := hid hz2; clear hz2 HZ hcl hk hkn
                  go_wp2_with fail
                  clear hq
                  have hz0 : (z3 != 0) = false := by have := CT.out; have := C1.out; have := C2.out; have := C3.out; simp; omega
                  clear C1 C2 C3
                  by_cases hi0 : i = 0
                  · have d1 : decide (0 < (i : Int)) = false := by simp; omega
                    go_wp2_with fail
                    go_quiet (fail)
                    go_wp2_with fail
                    go_roundw
                    case rel => exact ⟨i + 1, by omega, by go_num, K9.out.drewN _⟩
                    case measure => simp [intOf]; omega
                  · have d1 : decide (0 < (i : Int)) = true := by simp; omega
                    have d1b : 0 < i := by omega
                    have him1 : i - 1 < m.length := by rw [HN.out]; omega
                    have hle : m[i - 1] ≤ x := by have := SRT.out (i - 1) i (by omega) him1 HX.out; exact this
                    have hcy := K9.out.i0.cell' (List.getElem?_eq_getElem him1)
                    have hcx := K9.out.i0.cell' HX.out
                    generalize m[i - 1] = y at *
                    obtain ⟨i1, hi1⟩ : ∃ i1, i - 1 = i1 := ⟨_, rfl⟩
                    rw [hi1] at hcy
                    have s1 : IntKind.i64.wrap ((i : Int) - 1) = (i1 : Int) := by rw [show (i : Int) - 1 = (i1 : Int) by omega]; exact IntWalk.i64_in _ (by omega)
                    have q2 : (i1 : Int) < (N : Int) := by omega
                    have d2 : decide (x < y) = false := by simp; omega
                    clear hle hi1 him1
                    go_wp2_with fail
                    go_quiet (fail)
                    go_wp2_with fail
                    go_roundw
                    case rel => exact ⟨i + 1, by omega, by go_num, K9.out.drewN _⟩
                    case measure => simp [intOf]; omega
    · have hiN : i = N := by omega
      have hq : ¬ (i : Int) < (N : Int) := by omega
      clear hiN
      go_wp2_with fail
      refine (otold_any _).mono ?_
      rintro e w6 ⟨rfl, hg⟩
      have K7 := hid (K6.out.grown hg); clear hg K6
      have TG := hid ((Bag.start (L := [(.slice pb nb cb, lb), (.slice pa na ca, la), (.slice pu N cu, m)]) K7.out.gr (by
        intro p hp
        simp only [List.mem_cons, List.not_mem_nil, or_false] at hp
        rcases hp with rfl | rfl | rfl
        · exact K7.out.i2
        · exact K7.out.i1
        · exact K7.out.i0)).fresh)
      have HLA := NA.out; have HLB := NB.out
      clear K7
      go_wp2_with (refine append_ints_w (by rfl) _ _ rfl w.heap.size _ _ rfl TG.out.own _ _ rfl (by first | exact TG.out.hd.1 | exact TG.out.tl.hd.1) (by simp only [List.length_append, List.length_nil, HLA, HLB]; omega) TG.out.gr.size ?_; intro v1 w7 hown hgrow hat; replace TG := hid (TG.out.app hown hgrow hat); clear hown hgrow hat)
      refine (osame_as TG.out.tl.tl.hd.1 TG.out.own.ints HLM.out (by simp only [List.length_append, List.length_nil, HLA, HLB]; omega) SM.out).mono ?_
      rintro e w8 ⟨rfl, hg⟩
      have G8 := hid (gb_trans TG.out.gr hg (.inl rfl)); clear hg TG
      go_wp2_with fail
      go_ret
      exact ⟨rfl, G8.out⟩
end Go.Proofs.Ytkobipkmcpbloaa.ounion
