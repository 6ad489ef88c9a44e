/-
  Contracts for package trim's inner functions: which numbers may be; those that are left. The condition: slices that read as numbers.
-/
import Derived.Test.YtogmibmkkmbgoaaOrd
import Derived.Test.YtogmibmkkmbgoaaTm
set_option linter.unusedSimpArgs false
set_option linter.unusedVariables false
namespace Go.Proofs.Ytogmibmkkmbgoaa
set_option maxRecDepth 100000
open Go.RowKit

theorem beyond_any (x : Int) (w : World) :
    Calls Try.prog 42 #[.int .i64 x] w fun e w' => e = .returned (.bool (!okV x)) ∧ w.grownBy w' none := by
  by_cases h0 : x < 0
  · have d0 : decide (x < 0) = true := by simpa using h0
    rw [(okV_false x).2 (.inl h0)]
    go_enter Try.func42, Try.ntmps42
    go_wp2_with fail
    go_ret
    exact ⟨rfl, .refl w none⟩
  · have d0 : decide (x < 0) = false := by simpa using h0
    by_cases h1 : 1099511627776 < x
    · have d1 : decide (1099511627776 < x) = true := by simpa using h1
      rw [(okV_false x).2 (.inr h1)]
      go_enter Try.func42, Try.ntmps42
      go_wp2_with fail
      go_ret
      exact ⟨rfl, .refl w none⟩
    · have d1 : decide (1099511627776 < x) = false := by simpa using h1
      rw [(okV_iff x).2 ⟨by omega, by omega⟩]
      go_enter Try.func42, Try.ntmps42
      go_wp2_with fail
      go_ret
      exact ⟨rfl, .refl w none⟩

theorem all_hit {l : List Int} {k : Nat} {x : Int} (h : l[k]? = some x) (hx : okV x = false) : l.all okV = false := by
  obtain ⟨hk, rfl⟩ := List.getElem?_eq_some_iff.1 h
  cases hb : l.all okV with
  | false => rfl
  | true => rw [List.all_eq_true] at hb; rw [hb _ (List.getElem_mem hk)] at hx; cases hx
theorem all_none {l : List Int} (h : ∀ (i : Nat) (x : Int), i < l.length → l[i]? = some x → okV x = true) : l.all okV = true := by
  rw [List.all_eq_true]
  intro x hx
  obtain ⟨i, hi, rfl⟩ := List.mem_iff_getElem.1 hx
  exact h i _ hi (List.getElem?_eq_getElem hi)

set_option maxHeartbeats 800000 in
theorem index_any (v : Value) (l : List Int) (w : World) (h : IntsAt w v l) :
    Calls Try.prog 53 #[v, .func (.func 42) #[] #[]] w fun e w' => (∃ r : Int, e = .returned (.int .i64 r) ∧ decide (0 ≤ r) = !(l.all okV)) ∧ w.grownBy w' none := by
  have HI := hid h
  obtain ⟨p, c, rfl⟩ := h.form
  obtain ⟨n, hn⟩ : ∃ n, l.length = n := ⟨_, rfl⟩
  have HN := hid hn
  have hlen := h.len
  rw [hn] at HI hlen ⊢
  unfold maxLen at hlen
  clear h hn
  go_enter Try.func53, Try.ntmps53
  go_wp2_with fail
  go_loopw [5, 8] (fun _ i wr => ∃ k : Nat, k ≤ n ∧ i = .int .i64 (k : Int) ∧ (∀ (j : Nat) (x : Int), j < k → l[j]? = some x → okV x = true) ∧ w.grownBy wr none) (fun _ i _ => n - (intOf i).toNat)
  case atStart => exact ⟨0, Nat.zero_le _, rfl, fun j x hj => absurd hj (Nat.not_lt_zero _), .refl w none⟩
  case round =>
    obtain ⟨k, hk, rfl, ha, hgr⟩ := hrel
    have HA := hid ha; have HGR := hid hgr
    clear ha hgr
    by_cases hlt : k < n
    · have hkl : k < l.length := by rw [HN.out]; exact hlt
      obtain ⟨ab, ao, rfl, -, hcc, hcell⟩ := (HI.out.grown HGR.out).cell hkl
      have hx := List.getElem?_eq_getElem hkl
      generalize l[k] = y at *
      have HX := hid hx; clear hx
      cases hy : okV y with
      | false =>
        have HB := hid (beyond_any y wr)
        rw [hy] at HB
        have HALL := hid (all_hit HX.out hy)
        clear hy
        go_wp2_with fail
        refine HB.out.mono ?_
        rintro e w1 ⟨rfl, hg⟩
        have G1 := hid (gb_trans HGR.out hg (.inl rfl))
        clear hg
        go_wp2_with fail
        go_ret
        exact ⟨⟨_, rfl, by rw [HALL.out]; simp⟩, G1.out⟩
      | true =>
        have HB := hid (beyond_any y wr)
        rw [hy] at HB
        have HY := hid hy
        clear hy
        go_wp2_with fail
        refine HB.out.mono ?_
        rintro e w1 ⟨rfl, hg⟩
        have G1 := hid (gb_trans HGR.out hg (.inl rfl))
        clear hg
        go_wp2_with fail
        go_roundw
        case rel => exact ⟨k + 1, by omega, by go_num, fun j x hj hjx => by
          rcases Nat.lt_or_ge j k with h1 | h1
          · exact HA.out j x h1 hjx
          · obtain rfl : j = k := by omega
            rw [HX.out] at hjx; cases hjx; exact HY.out, G1.out⟩
        case measure => simp [intOf]; omega
    · obtain rfl : k = n := by omega
      go_wp2_with fail
      go_ret
      exact ⟨⟨_, rfl, by rw [all_none fun i x hi => HA.out i x (by rw [← HN.out]; exact hi)]; rfl⟩, HGR.out⟩

theorem contains_any (v : Value) (l : List Int) (w : World) (h : IntsAt w v l) :
    Calls Try.prog 41 #[v, .func (.func 42) #[] #[]] w fun e w' => e = .returned (.bool (!(l.all okV))) ∧ w.grownBy w' none := by
  have C1 := hid (index_any v l w h)
  obtain ⟨p, c, rfl⟩ := h.form
  generalize l.length = n at *
  generalize l.all okV = b at *
  clear h
  go_enter Try.func41, Try.ntmps41
  go_wp2_with fail
  refine C1.out.mono ?_
  rintro e w1 ⟨⟨r, rfl, hr⟩, hg⟩
  have G1 := hid hg; clear hg C1
  go_wp2_with fail
  go_ret
  exact ⟨rfl, G1.out⟩

theorem tmay_any (v : Value) (l : List Int) (w : World) (h : IntsAt w v l) :
    Calls Try.prog 27 #[v] w fun e w' => e = .returned (.bool (mayL l)) ∧ w.grownBy w' none := by
  have C1 := hid (contains_any v l w h)
  have hm : mayL l = (decide (l.length ≤ 1000) && l.all okV) := rfl
  rw [hm]
  clear hm
  obtain ⟨p, c, rfl⟩ := h.form
  have hn := h.len
  unfold maxLen at hn
  generalize l.length = n at *
  generalize l.all okV = b at *
  clear h
  by_cases h1 : n ≤ 1000
  · have d1 : decide ((n : Int) ≤ 1000) = true := by simp; omega
    rw [decide_eq_true h1]
    clear h1
    go_enter Try.func27, Try.ntmps27
    go_wp2_with fail
    refine C1.out.mono ?_
    rintro e w1 ⟨rfl, hg⟩
    have G1 := hid hg; clear hg C1
    go_wp2_with fail
    go_ret
    exact ⟨by simp, G1.out⟩
  · have d1 : decide ((n : Int) ≤ 1000) = false := by simp; omega
    rw [decide_eq_false h1]
    clear h1 C1
    go_enter Try.func27, Try.ntmps27
    go_wp2_with fail
    go_ret
    exact ⟨by simp, .refl w none⟩
end Go.Proofs.Ytogmibmkkmbgoaa
