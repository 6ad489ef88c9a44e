/-
  Contracts for package trim: those that are left, Median, Mean, Span, Quorum. The condition: slices that read as numbers.
-/
import Derived.Test.YtogmibmkkmbgoaaTp
set_option linter.unusedSimpArgs false
set_option linter.unusedVariables false
namespace Go.Proofs.Ytogmibmkkmbgoaa
set_option maxRecDepth 100000
open Go.RowKit

/-- what comes back reads as these numbers -/
def Tells (w : World) (l : List Int) (e : Ending) (w' : World) : Prop := ∃ u, e = .returned u ∧ IntsAt w' u l ∧ w.grownBy w' none

theorem quorum_any (n q : Int) (w : World) :
    Calls Try.prog 16 #[.int .i64 n, .int .i64 q] w fun e w' => e = .returned (.bool (decide (q ≤ n) && decide (0 < n))) ∧ w.grownBy w' none := by
  by_cases h : q ≤ n
  · have d0 : decide (q ≤ n) = true := by simpa using h
    by_cases h1 : 0 < n
    · have d1 : decide (0 < n) = true := by simpa using h1
      rw [d0, d1]
      go_enter Try.func16, Try.ntmps16
      go_wp2_with fail
      go_ret
      exact ⟨rfl, .refl w none⟩
    · have d1 : decide (0 < n) = false := by simpa using h1
      rw [d0, d1]
      go_enter Try.func16, Try.ntmps16
      go_wp2_with fail
      go_ret
      exact ⟨rfl, .refl w none⟩
  · have d0 : decide (q ≤ n) = false := by simpa using h
    rw [d0]
    go_enter Try.func16, Try.ntmps16
    go_wp2_with fail
    go_ret
    exact ⟨rfl, .refl w none⟩

theorem left_any (v : Value) (l : List Int) (f : Int) (w : World) (h : IntsAt w v l) (hf : -9223372036854775808 ≤ f ∧ f ≤ 9223372036854775807) :
    Calls Try.prog 31 #[v, .int .i64 f] w (Tells w (midL l f)) := by
  have C1 := hid (tmay_any v l w h)
  have HI := hid h
  obtain ⟨p, c, rfl⟩ := h.form
  have hn := h.len
  unfold maxLen at hn
  obtain ⟨n, hnn⟩ : ∃ n, l.length = n := ⟨_, rfl⟩
  have HN := hid hnn
  rw [hnn] at C1 HI hn ⊢
  clear h hnn
  cases hm : mayL l with
  | false =>
    rw [hm] at C1
    rw [midL_out (fun e => absurd (hm.symm.trans e.1) (by decide))]
    clear hm
    go_enter Try.func31, Try.ntmps31
    go_wp2_with fail
    refine C1.out.mono ?_
    rintro e w1 ⟨rfl, hg⟩
    have G1 := hid hg; clear hg C1
    go_wp2_with fail
    go_ret
    exact ⟨_, rfl, .nil _, G1.out⟩
  | true =>
    rw [hm] at C1
    have HM := hid hm
    clear hm
    by_cases h0 : f < 0
    · have d0 : decide (f < 0) = true := by simpa using h0
      rw [midL_out (fun e => by have := e.2.1; omega)]
      clear h0
      go_enter Try.func31, Try.ntmps31
      go_wp2_with fail
      refine C1.out.mono ?_
      rintro e w1 ⟨rfl, hg⟩
      have G1 := hid hg; clear hg C1
      go_wp2_with fail
      go_ret
      exact ⟨_, rfl, .nil _, G1.out⟩
    · have d0 : decide (f < 0) = false := by simpa using h0
      obtain ⟨k, rfl⟩ := Int.eq_ofNat_of_zero_le (show 0 ≤ f by omega)
      have hw : IntKind.i64.wrap ((n : Int) - (k : Int)) = (n : Int) - (k : Int) := IntWalk.i64_in _ (by omega)
      by_cases h1 : (n : Int) - (k : Int) ≤ (k : Int)
      · have d1 : decide ((n : Int) - (k : Int) ≤ (k : Int)) = true := by simpa using h1
        rw [midL_out (fun e => by have := e.2.2; rw [HN.out] at this; omega)]
        go_enter Try.func31, Try.ntmps31
        go_wp2_with fail
        refine C1.out.mono ?_
        rintro e w1 ⟨rfl, hg⟩
        have G1 := hid hg; clear hg C1
        go_wp2_with fail
        go_ret
        exact ⟨_, rfl, .nil _, G1.out⟩
      · have d1 : decide ((n : Int) - (k : Int) ≤ (k : Int)) = false := by simpa using h1
        have hn1 : l.length ≤ 1000000 := Nat.le_trans ((mayL_iff l).1 HM.out).1 (by decide)
        rw [midL_in ⟨HM.out, by omega, by rw [HN.out]; omega⟩]
        obtain ⟨m, hmm⟩ : ∃ m, ms l = m := ⟨_, rfl⟩
        have hml : m.length = n := by rw [← hmm, ms_len, HN.out]
        have MM := hid hmm; have ML := hid hml
        have HN1 := hid hn1
        clear hmm hml hn1
        go_enter Try.func31, Try.ntmps31
        go_wp2_with fail
        refine C1.out.mono ?_
        rintro e w1 ⟨rfl, hg⟩
        have I1 := hid (HI.out.grown hg)
        have G1 := hid hg; clear hg C1 HI
        go_wp2_with fail
        refine (osort_any _ _ _ I1.out HN1.out).mono ?_
        rintro e w2 ⟨u, rfl, ho, hg⟩
        rw [MM.out] at ho
        have G2 := hid (gb_trans G1.out hg (.inl rfl)); have O2 := hid ho.ints
        obtain ⟨pu, cu, rfl⟩ := ho.form
        clear ho hg G1 I1
        obtain ⟨ab, ao, rfl, -, hcc, -⟩ := O2.out.cell (i := 0) (by rw [ML.out]; omega)
        rw [ML.out] at O2 hcc ⊢
        have b1 : k ≤ n - k := by omega
        have b2 : n - k ≤ cu := by omega
        have b3 : ¬ cu = k := by omega
        have b4 : ((n : Int) - (k : Int)) = ((n - k : Nat) : Int) := by omega
        go_wp2_with fail
        go_ret
        refine ⟨_, rfl, ?_, G2.out⟩
        rw [show cutL l k = (m.take (n - k)).drop k from by unfold cutL; rw [MM.out, HN.out]]
        exact ints_slice1 (ints_slice0 O2.out (show n - k ≤ n by omega)) b1
end Go.Proofs.Ytogmibmkkmbgoaa
