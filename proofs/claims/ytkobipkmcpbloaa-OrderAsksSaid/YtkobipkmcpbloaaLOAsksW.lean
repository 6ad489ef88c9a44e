/-
  The walk of the statement OrderAsks: rows by size, ranks, places, unions, are what the document says. No condition.
-/
import Derived.Test.YtkobipkmcpbloaaOTold
import Derived.Test.YtkobipkmcpbloaaKl
set_option linter.unusedSimpArgs false
set_option linter.unusedVariables false
namespace Go.Proofs.Ytkobipkmcpbloaa.oasks
set_option maxRecDepth 100000
open Go.RowKit

theorem rsort_as {v : Value} {l m : List Int} {w : World} (h : IntsAt w v l) (h1 : l.length ≤ 400000) (hm : ms l = m) : Calls Try.prog 11 #[v] w (Gives w m) := hm ▸ rsort_any v l w h h1
theorem rrank_as {v : Value} {l : List Int} {w : World} {x : Int} {n : Nat} (h : IntsAt w v l) (h1 : l.length ≤ 1000000) (hk : rk l x = n) :
    Calls Try.prog 16 #[v, .int .i64 x] w fun e w' => e = .returned (.int .i64 (n : Int)) ∧ w.grownBy w' none := hk ▸ rrank_any v l x w h h1

set_option maxHeartbeats 1600000 in
theorem walk {w : World} (la : List Int) (pa : Option Addr) (ca : Nat) (ia : IntsAt w (.slice pa la.length ca) la) (fa : Fits la) (lb : List Int) (pb : Option Addr) (cb : Nat) (ib : IntsAt w (.slice pb lb.length cb) lb) (fb : Fits lb) (v k : Int) :
    Calls Try.prog 4 #[.slice pa la.length ca, .slice pb lb.length cb, .int .i64 v, .int .i64 k] w fun e w' => e = .returned (.bool true) ∧ w.grownBy w' none := by
  have la1 := ia.len; have lb1 := ib.len
  have K0 := hid (((Kl.start w).add ib).add ia)
  obtain ⟨na, hna⟩ : ∃ n, la.length = n := ⟨_, rfl⟩
  obtain ⟨nb, hnb⟩ : ∃ n, lb.length = n := ⟨_, rfl⟩
  rw [hna] at K0 la1 ⊢
  rw [hnb] at K0 lb1 ⊢
  have NA := hid hna; have NB := hid hnb
  unfold maxLen at la1 lb1
  clear ia ib fa fb hna hnb
  by_cases h1 : 40 < na
  · have d1 : decide (40 < (na : Int)) = true := by simp; omega
    go_enter Try.func4, Try.ntmps4
    go_wp2_with fail
    refine (otold_any _).mono ?_
    rintro e w1 ⟨rfl, hg⟩
    have G1 := hid hg; clear hg
    go_wp2_with fail
    go_ret
    exact ⟨rfl, G1.out⟩
  have d1 : decide (40 < (na : Int)) = false := by simp; omega
  by_cases h2 : 40 < nb
  · have d2 : decide (40 < (nb : Int)) = true := by simp; omega
    go_enter Try.func4, Try.ntmps4
    go_wp2_with fail
    refine (otold_any _).mono ?_
    rintro e w1 ⟨rfl, hg⟩
    have G1 := hid hg; clear hg
    go_wp2_with fail
    go_ret
    exact ⟨rfl, G1.out⟩
  have d2 : decide (40 < (nb : Int)) = false := by simp; omega
  obtain ⟨m, hm⟩ : ∃ m, ms la = m := ⟨_, rfl⟩
  have hml : m.length = na := by rw [← hm, ms_len, NA.out]
  obtain ⟨mb, hmb⟩ : ∃ m, ms lb = m := ⟨_, rfl⟩
  have BL := hid (show mb.length = nb by rw [← hmb, ms_len, NB.out])
  have MM := hid hm; have ML := hid hml; have MB := hid hmb
  obtain ⟨r, hr⟩ : ∃ r, rk la v = r := ⟨_, rfl⟩
  have RK := hid hr
  obtain ⟨b1, hb1⟩ : ∃ b, decide (ms la = ms lb) = b := ⟨_, rfl⟩
  have SB := hid hb1
  have SB2 := hid (show decide (m = mb) = b1 by rw [← hm, ← hmb]; exact hb1)
  have HLA := hid (show la.length ≤ 1000000 by rw [NA.out]; omega)
  have HLA4 := hid (show la.length ≤ 400000 by rw [NA.out]; omega)
  have HLB := hid (show lb.length ≤ 1000000 by rw [NB.out]; omega)
  have HLB4 := hid (show lb.length ≤ 400000 by rw [NB.out]; omega)
  have HLM := hid (show m.length ≤ 1000000 by rw [ML.out]; omega)
  have HLMB := hid (show mb.length ≤ 1000000 by rw [BL.out]; omega)
  have HAB := hid (show (la ++ lb).length ≤ 1000000 by rw [List.length_append, NA.out, NB.out]; omega)
  have HAB4 := hid (show (la ++ lb).length ≤ 400000 by rw [List.length_append, NA.out, NB.out]; omega)
  have d4 : ((r : Int) == (r : Int)) = true := by simp
  have d5 : (b1 == b1) = true := by simp
  clear hr hb1 hmb
  go_enter Try.func4, Try.ntmps4
  go_wp2_with fail
  refine (rsort_as K0.out.i0 HLA4.out MM.out).mono ?_
  rintro e w1 ⟨u, rfl, ho, hg⟩
  have K2 := hid ((K0.out.grown hg).add ho.ints)
  obtain ⟨pu, cu, rfl⟩ := ho.form
  clear ho hg K0
  rw [ML.out] at K2 ⊢
  by_cases hk : 0 ≤ k ∧ k < (na : Int)
  · obtain ⟨k, rfl⟩ := Int.eq_ofNat_of_zero_le hk.1
    have hkn : k < na := by have := hk.2; omega
    have hkm : k < (ms la).length := by rw [ms_len, NA.out]; exact hkn
    have hat := atOf_in la k hkm
    have hx : m[k]? = some (ms la)[k] := by subst hm; exact List.getElem?_eq_getElem hkm
    generalize (ms la)[k] = x at *
    have HAT := hid hat; have HXM := hid hx
    clear hat hx hkm hm hml
    obtain ⟨us, uo, rfl⟩ : ∃ us uo, pu = some ⟨us, uo, none⟩ := by
      obtain ⟨a, b, e, _⟩ := K2.out.i0.cell (i := k) (by rw [ML.out]; exact hkn)
      exact ⟨a, b, e⟩
    have q1 : (k : Int) < (na : Int) := by omega
    have q2 : decide ((k : Int) < (na : Int)) = true := by simp; omega
    have q3 : IntKind.i64.wrap ((na : Int) - 1) = (na : Int) - 1 := IntWalk.i64_in _ (by omega)
    have q4 : max (k : Int) 0 = (k : Int) := by omega
    have q5 : max ((na : Int) - 1) 0 = (na : Int) - 1 := by omega
    have q6 : min (k : Int) ((na : Int) - 1) = (k : Int) := by omega
    have q7 : (x == x) = true := by simp
    go_wp2_with fail
    refine (oat_as K2.out.i1 HLA.out HAT.out).mono ?_
    rintro e WK3 ⟨rfl, hg⟩
    have K3 := hid (K2.out.grown hg)
    clear hg K2
    go_upto_region 6 with fail
    simp only [List.append_eq, List.cons_append, List.nil_append]
    go_wp2_with fail
    refine (otold_any _).mono ?_
    rintro e WK4 ⟨rfl, hg⟩
    have K4 := hid (K3.out.grown hg)
    clear hg K3
    go_wp2_with fail
    refine (osort_as K4.out.i1 HLA.out MM.out).mono ?_
    rintro e WK5 ⟨u2, rfl, ho, hg⟩
    have K5 := hid ((K4.out.grown hg).add ho.ints)
    obtain ⟨p2, c2, rfl⟩ := ho.form
    clear ho hg K4
    rw [ML.out] at K5 ⊢
    go_wp2_with fail
    refine (samelist_any _ _ _ _ _ K5.out.i0 K5.out.i1 HLM.out HLM.out true (by simp)).mono ?_
    rintro e WK6 ⟨rfl, hg⟩
    have K6 := hid (K5.out.grown hg)
    clear hg K5
    go_wp2_with fail
    refine (orank_as K6.out.i2 HLA.out RK.out).mono ?_
    rintro e WK7 ⟨rfl, hg⟩
    have K7 := hid (K6.out.grown hg)
    clear hg K6
    go_wp2_with fail
    refine (rrank_as K7.out.i2 HLA.out RK.out).mono ?_
    rintro e WK8 ⟨rfl, hg⟩
    have K8 := hid (K7.out.grown hg)
    have hcx := K8.out.i1.cell' HXM.out
    clear hg K7
    go_wp2_with fail
    refine (osame_as K8.out.i2 K8.out.i3 HLA.out HLB.out SB.out).mono ?_
    rintro e WK9 ⟨rfl, hg⟩
    have K9 := hid (K8.out.grown hg)
    clear hg K8
    go_wp2_with fail
    refine (rsort_as K9.out.i3 HLB4.out MB.out).mono ?_
    rintro e WK10 ⟨u3, rfl, ho, hg⟩
    have K10 := hid ((K9.out.grown hg).add ho.ints)
    obtain ⟨p3, c3, rfl⟩ := ho.form
    clear ho hg K9
    rw [BL.out] at K10 ⊢
    go_wp2_with fail
    refine (samelist_any _ _ _ _ _ K10.out.i2 K10.out.i0 HLM.out HLMB.out b1 SB2.out).mono ?_
    rintro e WK11 ⟨rfl, hg⟩
    have K11 := hid (K10.out.grown hg)
    clear hg K10
    go_wp2_with fail
    refine (ounion_as K11.out.i3 K11.out.i4 HAB.out rfl).mono ?_
    rintro e WK12 ⟨u4, rfl, ho, hg⟩
    have K12 := hid ((K11.out.grown hg).add ho.ints)
    obtain ⟨p4, c4, rfl⟩ := ho.form
    clear ho hg K11
    have TG := hid ((Bag.start (L := [(.slice pa na ca, la), (.slice pb nb cb, lb), (.slice p4 (ms (la ++ lb)).length c4, ms (la ++ lb))]) K12.out.gr (by
      intro p hp
      simp only [List.mem_cons, List.not_mem_nil, or_false] at hp
      rcases hp with rfl | rfl | rfl
      · exact K12.out.i4
      · exact K12.out.tl.i4
      · exact K12.out.i0)).fresh)
    have HNA := NA.out; have HNB := NB.out
    clear K12
    generalize hmu : ms (la ++ lb) = mu at *
    have HMU := hid hmu; have HMUL := hid (show mu.length ≤ 1000000 by rw [← hmu, ms_len]; exact HAB.out); clear hmu
    go_wp2_with (refine append_ints_w (by rfl) _ _ rfl w.heap.size _ _ rfl TG.out.own _ _ rfl (by first | exact TG.out.hd.1 | exact TG.out.tl.hd.1) (by simp only [List.length_append, List.length_nil, HNA, HNB]; omega) TG.out.gr.size ?_; intro v1 w7 hown hgrow hat; replace TG := hid (TG.out.app hown hgrow hat); clear hown hgrow hat)
    refine (rsort_as (m := mu) (l := la ++ lb) TG.out.own.ints HAB4.out HMU.out).mono ?_
    rintro e w9 ⟨u5, rfl, ho, hg⟩
    have G9 := hid (gb_trans TG.out.gr hg (.inl rfl)); have I5 := hid ho.ints; have I4 := hid (TG.out.tl.tl.hd.1.grown hg)
    obtain ⟨p5, c5, rfl⟩ := ho.form
    clear ho hg TG
    go_wp2_with fail
    refine (samelist_any _ _ _ _ _ I4.out I5.out HMUL.out HMUL.out true (by simp)).mono ?_
    rintro e w10 ⟨rfl, hg⟩
    have G10 := hid (gb_trans G9.out hg (.inl rfl)); clear hg
    go_wp2_with fail
    go_ret
    exact ⟨rfl, G10.out⟩
  by_cases hk0 : 0 ≤ k
  · have HAT := hid (atOf_out la k (by rw [NA.out]; exact hk))
    have k1 : decide (k < (na : Int)) = false := by simp; omega
    have k2 : decide (0 ≤ k) = true := by simpa using hk0
    clear hk hm hml
    go_wp2_with fail
    refine (oat_as K2.out.i1 HLA.out HAT.out).mono ?_
    rintro e WK3 ⟨rfl, hg⟩
    have K3 := hid (K2.out.grown hg)
    clear hg K2
    go_upto_region 6 with fail
    simp only [List.append_eq, List.cons_append, List.nil_append]
    go_wp2_with fail
    refine (otold_any _).mono ?_
    rintro e WK4 ⟨rfl, hg⟩
    have K4 := hid (K3.out.grown hg)
    clear hg K3
    go_wp2_with fail
    refine (osort_as K4.out.i1 HLA.out MM.out).mono ?_
    rintro e WK5 ⟨u2, rfl, ho, hg⟩
    have K5 := hid ((K4.out.grown hg).add ho.ints)
    obtain ⟨p2, c2, rfl⟩ := ho.form
    clear ho hg K4
    rw [ML.out] at K5 ⊢
    go_wp2_with fail
    refine (samelist_any _ _ _ _ _ K5.out.i0 K5.out.i1 HLM.out HLM.out true (by simp)).mono ?_
    rintro e WK6 ⟨rfl, hg⟩
    have K6 := hid (K5.out.grown hg)
    clear hg K5
    go_wp2_with fail
    refine (orank_as K6.out.i2 HLA.out RK.out).mono ?_
    rintro e WK7 ⟨rfl, hg⟩
    have K7 := hid (K6.out.grown hg)
    clear hg K6
    go_wp2_with fail
    refine (rrank_as K7.out.i2 HLA.out RK.out).mono ?_
    rintro e WK8 ⟨rfl, hg⟩
    have K8 := hid (K7.out.grown hg)
    clear hg K7
    go_wp2_with fail
    refine (osame_as K8.out.i2 K8.out.i3 HLA.out HLB.out SB.out).mono ?_
    rintro e WK9 ⟨rfl, hg⟩
    have K9 := hid (K8.out.grown hg)
    clear hg K8
    go_wp2_with fail
    refine (rsort_as K9.out.i3 HLB4.out MB.out).mono ?_
    rintro e WK10 ⟨u3, rfl, ho, hg⟩
    have K10 := hid ((K9.out.grown hg).add ho.ints)
    obtain ⟨p3, c3, rfl⟩ := ho.form
    clear ho hg K9
    rw [BL.out] at K10 ⊢
    go_wp2_with fail
    refine (samelist_any _ _ _ _ _ K10.out.i2 K10.out.i0 HLM.out HLMB.out b1 SB2.out).mono ?_
    rintro e WK11 ⟨rfl, hg⟩
    have K11 := hid (K10.out.grown hg)
    clear hg K10
    go_wp2_with fail
    refine (ounion_as K11.out.i3 K11.out.i4 HAB.out rfl).mono ?_
    rintro e WK12 ⟨u4, rfl, ho, hg⟩
    have K12 := hid ((K11.out.grown hg).add ho.ints)
    obtain ⟨p4, c4, rfl⟩ := ho.form
    clear ho hg K11
    have TG := hid ((Bag.start (L := [(.slice pa na ca, la), (.slice pb nb cb, lb), (.slice p4 (ms (la ++ lb)).length c4, ms (la ++ lb))]) K12.out.gr (by
      intro p hp
      simp only [List.mem_cons, List.not_mem_nil, or_false] at hp
      rcases hp with rfl | rfl | rfl
      · exact K12.out.i4
      · exact K12.out.tl.i4
      · exact K12.out.i0)).fresh)
    have HNA := NA.out; have HNB := NB.out
    clear K12
    generalize hmu : ms (la ++ lb) = mu at *
    have HMU := hid hmu; have HMUL := hid (show mu.length ≤ 1000000 by rw [← hmu, ms_len]; exact HAB.out); clear hmu
    go_wp2_with (refine append_ints_w (by rfl) _ _ rfl w.heap.size _ _ rfl TG.out.own _ _ rfl (by first | exact TG.out.hd.1 | exact TG.out.tl.hd.1) (by simp only [List.length_append, List.length_nil, HNA, HNB]; omega) TG.out.gr.size ?_; intro v1 w7 hown hgrow hat; replace TG := hid (TG.out.app hown hgrow hat); clear hown hgrow hat)
    refine (rsort_as (m := mu) (l := la ++ lb) TG.out.own.ints HAB4.out HMU.out).mono ?_
    rintro e w9 ⟨u5, rfl, ho, hg⟩
    have G9 := hid (gb_trans TG.out.gr hg (.inl rfl)); have I5 := hid ho.ints; have I4 := hid (TG.out.tl.tl.hd.1.grown hg)
    obtain ⟨p5, c5, rfl⟩ := ho.form
    clear ho hg TG
    go_wp2_with fail
    refine (samelist_any _ _ _ _ _ I4.out I5.out HMUL.out HMUL.out true (by simp)).mono ?_
    rintro e w10 ⟨rfl, hg⟩
    have G10 := hid (gb_trans G9.out hg (.inl rfl)); clear hg
    go_wp2_with fail
    go_ret
    exact ⟨rfl, G10.out⟩
  · have HAT := hid (atOf_out la k (by rw [NA.out]; exact hk))
    have k2 : decide (0 ≤ k) = false := by simpa using hk0
    clear hk hm hml
    go_wp2_with fail
    refine (oat_as K2.out.i1 HLA.out HAT.out).mono ?_
    rintro e WK3 ⟨rfl, hg⟩
    have K3 := hid (K2.out.grown hg)
    clear hg K2
    go_upto_region 6 with fail
    simp only [List.append_eq, List.cons_append, List.nil_append]
    go_wp2_with fail
    refine (otold_any _).mono ?_
    rintro e WK4 ⟨rfl, hg⟩
    have K4 := hid (K3.out.grown hg)
    clear hg K3
    go_wp2_with fail
    refine (osort_as K4.out.i1 HLA.out MM.out).mono ?_
    rintro e WK5 ⟨u2, rfl, ho, hg⟩
    have K5 := hid ((K4.out.grown hg).add ho.ints)
    obtain ⟨p2, c2, rfl⟩ := ho.form
    clear ho hg K4
    rw [ML.out] at K5 ⊢
    go_wp2_with fail
    refine (samelist_any _ _ _ _ _ K5.out.i0 K5.out.i1 HLM.out HLM.out true (by simp)).mono ?_
    rintro e WK6 ⟨rfl, hg⟩
    have K6 := hid (K5.out.grown hg)
    clear hg K5
    go_wp2_with fail
    refine (orank_as K6.out.i2 HLA.out RK.out).mono ?_
    rintro e WK7 ⟨rfl, hg⟩
    have K7 := hid (K6.out.grown hg)
    clear hg K6
    go_wp2_with fail
    refine (rrank_as K7.out.i2 HLA.out RK.out).mono ?_
    rintro e WK8 ⟨rfl, hg⟩
    have K8 := hid (K7.out.grown hg)
    clear hg K7
    go_wp2_with fail
    refine (osame_as K8.out.i2 K8.out.i3 HLA.out HLB.out SB.out).mono ?_
    rintro e WK9 ⟨rfl, hg⟩
    have K9 := hid (K8.out.grown hg)
    clear hg K8
    go_wp2_with fail
    refine (rsort_as K9.out.i3 HLB4.out MB.out).mono ?_
    rintro e WK10 ⟨u3, rfl, ho, hg⟩
    have K10 := hid ((K9.out.grown hg).add ho.ints)
    obtain ⟨p3, c3, rfl⟩ := ho.form
    clear ho hg K9
    rw [BL.out] at K10 ⊢
    go_wp2_with fail
    refine (samelist_any _ _ _ _ _ K10.out.i2 K10.out.i0 HLM.out HLMB.out b1 SB2.out).mono ?_
    rintro e WK11 ⟨rfl, hg⟩
    have K11 := hid (K10.out.grown hg)
    clear hg K10
    go_wp2_with fail
    refine (ounion_as K11.out.i3 K11.out.i4 HAB.out rfl).mono ?_
    rintro e WK12 ⟨u4, rfl, ho, hg⟩
    have K12 := hid ((K11.out.grown hg).add ho.ints)
    obtain ⟨p4, c4, rfl⟩ := ho.form
    clear ho hg K11
    have TG := hid ((Bag.start (L := [(.slice pa na ca, la), (.slice pb nb cb, lb), (.slice p4 (ms (la ++ lb)).length c4, ms (la ++ lb))]) K12.out.gr (by
      intro p hp
      simp only [List.mem_cons, List.not_mem_nil, or_false] at hp
      rcases hp with rfl | rfl | rfl
      · exact K12.out.i4
      · exact K12.out.tl.i4
      · exact K12.out.i0)).fresh)
    have HNA := NA.out; have HNB := NB.out
    clear K12
    generalize hmu : ms (la ++ lb) = mu at *
    have HMU := hid hmu; have HMUL := hid (show mu.length ≤ 1000000 by rw [← hmu, ms_len]; exact HAB.out); clear hmu
    go_wp2_with (refine append_ints_w (by rfl) _ _ rfl w.heap.size _ _ rfl TG.out.own _ _ rfl (by first | exact TG.out.hd.1 | exact TG.out.tl.hd.1) (by simp only [List.length_append, List.length_nil, HNA, HNB]; omega) TG.out.gr.size ?_; intro v1 w7 hown hgrow hat; replace TG := hid (TG.out.app hown hgrow hat); clear hown hgrow hat)
    refine (rsort_as (m := mu) (l := la ++ lb) TG.out.own.ints HAB4.out HMU.out).mono ?_
    rintro e w9 ⟨u5, rfl, ho, hg⟩
    have G9 := hid (gb_trans TG.out.gr hg (.inl rfl)); have I5 := hid ho.ints; have I4 := hid (TG.out.tl.tl.hd.1.grown hg)
    obtain ⟨p5, c5, rfl⟩ := ho.form
    clear ho hg TG
    go_wp2_with fail
    refine (samelist_any _ _ _ _ _ I4.out I5.out HMUL.out HMUL.out true (by simp)).mono ?_
    rintro e w10 ⟨rfl, hg⟩
    have G10 := hid (gb_trans G9.out hg (.inl rfl)); clear hg
    go_wp2_with fail
    go_ret
    exact ⟨rfl, G10.out⟩
end Go.Proofs.Ytkobipkmcpbloaa.oasks
