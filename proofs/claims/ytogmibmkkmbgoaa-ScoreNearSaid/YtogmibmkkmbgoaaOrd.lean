/-
  Contracts for package order: Sort, Union, At, Rank, Same; and slices.Equal at []int64. The condition: slices that read as numbers, of a modest length.
-/
import Derived.Test.YtogmibmkkmbgoaaConI
import Derived.Test.YtogmibmkkmbgoaaI64
import Derived.BigQuiet
import Derived.Deep.QuietTactic
set_option linter.unusedSimpArgs false
set_option linter.unusedVariables false
namespace Go.Proofs.Ytogmibmkkmbgoaa
set_option maxRecDepth 100000
open Go.RowKit

theorem rising_any (ls : List (Value × List Int)) (v : Value) (w : World) (h : RowsI w v ls) (hp : 0 < ls.length) (h1 : (flatI ls).length ≤ 1000000) :
    Calls Try.prog 35 #[v] w fun e w' => ∃ u, e = .returned u ∧ OwnI w.heap.size w' u (ms (flatI ls)) ∧ w.grownBy w' none := by
  have C1 := hid (concatI_any ls v w h hp h1)
  obtain ⟨a, cap, rfl, -⟩ := h
  clear hp
  generalize flatI ls = l at *
  generalize ls.length = n at *
  have H1 := hid h1; clear h1
  go_enter Try.func35, Try.ntmps35
  go_wp2_with fail
  refine C1.out.mono ?_
  rintro e w1 ⟨u, rfl, ho, hg⟩
  have HO := hid ho; have HG := hid hg
  obtain ⟨p, c, rfl⟩ := ho.form
  clear ho hg C1
  go_wp2_with fail
  refine (sort_own HO.out H1.out).mono ?_
  rintro e w2 ⟨rfl, ho2, hg2⟩
  have HO2 := hid ho2; have HG2 := hid (gb_ownI HG.out HO.out (Nat.le_refl _) hg2); clear ho2 hg2
  go_wp2_with fail
  go_ret
  exact ⟨_, rfl, HO2.out, HG2.out⟩

theorem flat_one (v : Value) (l : List Int) : flatI [(v, l)] = l := by simp [flatI]
theorem flat_two (v v' : Value) (l l' : List Int) : flatI [(v, l), (v', l')] = l ++ l' := by simp [flatI]
theorem size_alloc' (w : World) (o : Obj) : (w.alloc o).heap.size = w.heap.size + 1 := by show (w.heap.push o).size = _; simp

/-- what comes back: the numbers, in a slice of the call's own -/
def Gives (w : World) (l : List Int) (e : Ending) (w' : World) : Prop := ∃ u, e = .returned u ∧ OwnI w.heap.size w' u l ∧ w.grownBy w' none

theorem rise_one {v : Value} {l : List Int} {w w0 : World} {b : Nat} {t : TypeId} (hb : w.heap[b]? = some (.cells #[v] t)) (h : IntsAt w v l) (h1 : l.length ≤ 1000000) :
    Calls Try.prog 35 #[.slice (some ⟨b, 0, none⟩) 1 1] w (Gives w (ms l)) := by
  have r := rising_any [(v, l)] (.slice (some ⟨b, 0, none⟩) 1 1) w (rows_one (w := w) hb h) (by simp) (by rw [flat_one]; exact h1)
  rw [flat_one] at r
  exact r
theorem Gives.alloc {w : World} {o : Obj} {l : List Int} {e : Ending} {w' : World} (h : Gives (w.alloc o) l e w') : Gives w l e w' := by
  obtain ⟨u, h0, h1, h2⟩ := h
  exact ⟨u, h0, h1.le (by rw [size_alloc']; omega), gb_trans (World.grownBy_alloc w o none) h2 (.inl rfl)⟩

/-- Sort -/
theorem osort_any (v : Value) (l : List Int) (w : World) (h : IntsAt w v l) (h1 : l.length ≤ 1000000) :
    Calls Try.prog 18 #[v] w (Gives w (ms l)) := by
  have C1 := hid (rise_one (w0 := w) (at_new w (.cells #[v] 22)) (h.alloc _) h1)
  obtain ⟨p, c, rfl⟩ := h.form
  generalize ms l = m at *
  generalize l.length = n at *
  clear h h1
  go_enter Try.func18, Try.ntmps18
  go_wp2_with fail
  refine C1.out.mono ?_
  intro e w1 hG
  obtain ⟨u, rfl, h2⟩ := hG.alloc
  have H2 := hid h2; clear h2 hG C1
  go_wp2_with fail
  go_ret
  exact ⟨_, rfl, H2.out⟩

/-- At -/
theorem oat_out (v : Value) (l : List Int) (k : Int) (w : World) (h : IntsAt w v l) (hk : ¬ (0 ≤ k ∧ k < (l.length : Int))) :
    Calls Try.prog 28 #[v, .int .i64 k] w fun e w' => e = .returned (.tuple #[.int .i64 0, .bool false]) ∧ w.grownBy w' none := by
  obtain ⟨p, c, rfl⟩ := h.form
  have hn := h.len
  generalize l.length = n at *
  clear h
  unfold maxLen at hn
  by_cases h0 : k < 0
  · have d0 : decide (k < 0) = true := by simpa using h0
    clear hk
    go_enter Try.func28, Try.ntmps28
    go_wp2_with fail
    go_ret2
    exact ⟨rfl, .refl w none⟩
  · have d0 : decide (k < 0) = false := by simpa using h0
    have d1 : decide ((n : Int) ≤ k) = true := by simp; omega
    clear hk
    go_enter Try.func28, Try.ntmps28
    go_wp2_with fail
    go_ret2
    exact ⟨rfl, .refl w none⟩
theorem oat_in (v : Value) (l : List Int) (k : Nat) (x : Int) (w : World) (h : IntsAt w v l) (hk : (ms l)[k]? = some x) (h1 : l.length ≤ 1000000) :
    Calls Try.prog 28 #[v, .int .i64 (k : Int)] w fun e w' => e = .returned (.tuple #[.int .i64 x, .bool true]) ∧ w.grownBy w' none := by
  have C1 := hid (rise_one (w0 := w) (at_new w (.cells #[v] 22)) (h.alloc _) h1)
  obtain ⟨p, c, rfl⟩ := h.form
  have hlen := ms_len l
  generalize ms l = m at *
  generalize l.length = n at *
  clear h
  subst hlen
  obtain ⟨hkl, hx⟩ := List.getElem?_eq_some_iff.1 hk
  clear hk
  have d0 : decide ((k : Int) < 0) = false := by simp
  have d1 : decide ((m.length : Int) ≤ (k : Int)) = false := by simp; omega
  go_enter Try.func28, Try.ntmps28
  go_wp2_with fail
  refine C1.out.mono ?_
  intro e w1 hG
  obtain ⟨u, rfl, h2, h3⟩ := hG.alloc
  obtain ⟨pu, cu, rfl⟩ := h2.form
  have hc := h2.ints.cell hkl
  obtain ⟨ab, ao, rfl, -, hcc, hcell⟩ := hc
  rw [hx] at hcell
  have H3 := hid h3; clear h2 h3 hG C1 hx
  go_wp2_with fail
  go_ret2
  exact ⟨rfl, H3.out⟩
theorem oat_any (v : Value) (l : List Int) (k : Int) (w : World) (h : IntsAt w v l) (h1 : l.length ≤ 1000000) :
    Calls Try.prog 28 #[v, .int .i64 k] w fun e w' => e = .returned (.tuple #[.int .i64 (atOf l k).1, .bool (atOf l k).2]) ∧ w.grownBy w' none := by
  by_cases hk : 0 ≤ k ∧ k < (l.length : Int)
  · obtain ⟨j, rfl⟩ := Int.eq_ofNat_of_zero_le hk.1
    have hj : j < (ms l).length := by have := hk.2; rw [ms_len]; omega
    have e := atOf_in l j hj
    rw [e]
    exact oat_in v l j _ w h (List.getElem?_eq_getElem hj) h1
  · rw [atOf_out l k hk]
    exact oat_out v l k w h hk

end Go.Proofs.Ytogmibmkkmbgoaa
