/-
  Contracts for package score: New, Set, All. The condition: the score lies there.
-/
import Derived.Test.YtogmibmkkmbgoaaScC
set_option linter.unusedSimpArgs false
set_option linter.unusedVariables false
namespace Go.Proofs.Ytogmibmkkmbgoaa
set_option maxRecDepth 100000
open Go.RowKit

/-- may a score be made of these? -/
def MaySc (n st pr far : Int) : Prop := 1 ≤ n ∧ n ≤ 16 ∧ 1 ≤ st ∧ st ≤ 100 ∧ 1 ≤ pr ∧ pr ≤ 100 ∧ 0 ≤ far ∧ far ≤ 1099511627776
def hdCells (n : Nat) : Array Value := (flatH (List.replicate n (false, 0))).toArray
theorem info_shd : (Try.prog.info? 73).map (fun i => (i.zero, i.size, i.bytes)) = some (some (.agg #[.bool false, .int .i64 0]), 2, 16) := by kernel_rfl
theorem made_two (a b : Value) (m j : Nat) (h : j < m) : (madeCells #[a, b] m)[j]? = some (if j % 2 = 0 then a else b) := by
  have : j % 2 = 0 ∨ j % 2 = 1 := by omega
  rcases this with e | e <;> simp [madeCells, h, e]
theorem hd_made (n : Nat) : madeCells #[.bool false, .int .i64 0] (n * 2) = hdCells n := by
  apply Array.ext_getElem?
  intro j
  unfold hdCells
  rw [show (flatH (List.replicate n ((false, 0) : Hd))).toArray[j]? = (flatH (List.replicate n (false, 0)))[j]? from List.getElem?_toArray .., flatH_get, List.getElem?_replicate]
  by_cases h : j < n * 2
  · have hjn : j / 2 < n := by omega
    rw [made_two _ _ _ _ h, if_pos hjn]
    have : j % 2 = 0 ∨ j % 2 = 1 := by omega
    rcases this with e | e
    · simp [e]
    · simp [e]
  · have hjn : ¬ j / 2 < n := by omega
    rw [if_neg hjn, Array.getElem?_eq_none (by simp [madeCells]; omega)]; rfl
theorem mk_shds (n : Nat) (hn : n ≤ 16) (u : World) : (Instr.makeSlice 64 (.int .i64 (n : Int)) (.int .i64 (n : Int))).run Try.prog u = .ok (.slice (some ⟨u.heap.size, 0, none⟩) n n) (u.alloc (.cells (hdCells n) 73)) := by
  obtain ⟨i, hi, hz0, hz1, hz2⟩ := info_parts info_shd
  have := run_makeSlice (P := Try.prog) u 64 73 i _ Try.underlying64 hi hz0 .i64 .i64 (n : Int) (n : Int) (by omega) (Int.le_refl _) (by rw [hz1]; omega) (by rw [hz2]; omega) (by omega)
  rw [this, hz1]
  rw [← hd_made]
  simp [Value.cells]
/-- as it is made -/
def newS (n : Nat) (st pr far : Int) : Sc := ⟨List.replicate n (false, 0), st, pr, far⟩
theorem newS_ok {n : Nat} {st pr far : Int} (h : MaySc n st pr far) : (newS n st pr far).ok := by
  unfold MaySc at h
  refine ⟨?_, ?_, ?_, ?_, ?_, fun x hx => ?_⟩
  · simp [newS]; omega
  · simp [newS]; omega
  · simp only [newS]; omega
  · simp only [newS]; omega
  · simp only [newS]; omega
  · simp only [newS, List.mem_replicate] at hx
    rw [hx.2]; decide
def MadeS (w : World) (s : Sc) (e : Ending) (w' : World) : Prop := ∃ b hb, e = .returned (.pointer (some ⟨b, 0, none⟩)) ∧ ScAt s b hb w' ∧ w.grownBy w' none ∧ w.heap.size ≤ b ∧ w.heap.size ≤ hb
theorem scnew_yes (n : Nat) (st pr far : Int) (h : MaySc n st pr far) (w : World) :
    Calls Try.prog 19 #[.int .i64 (n : Int), .int .i64 st, .int .i64 pr, .int .i64 far] w (MadeS w (newS n st pr far)) := by
  have HM := hid h
  unfold MaySc at h
  have h1 : ¬ (n : Int) < 1 := by omega
  have h2 : ¬ 16 < (n : Int) := by omega
  have h3 : ¬ st < 1 := by omega
  have h4 : ¬ 100 < st := by omega
  have h5 : ¬ pr < 1 := by omega
  have h6 : ¬ 100 < pr := by omega
  have h7 : ¬ far < 0 := by omega
  have h8 : ¬ 1099511627776 < far := by omega
  have hmk := mk_shds n (by omega)
  clear h
  go_enter Try.func19, Try.ntmps19
  go_wp2
  go_ret
  have hlen : (List.replicate n ((false, 0) : Hd)).length = n := List.length_replicate
  refine ⟨w.heap.size + 1, w.heap.size, by first | rfl | simp, ⟨?_, ?_, (newS_ok HM.out).wk⟩, gb_alloc (gb_alloc (.refl w none) _) _, by omega, Nat.le_refl _⟩
  · have := at_new (w.alloc (.cells (hdCells n) 73)) (.cells #[.slice (some ⟨w.heap.size, 0, none⟩) n n, .int .i64 st, .int .i64 pr, .int .i64 far] 66)
    rw [World.size_alloc] at this
    unfold newS
    dsimp only
    rw [hlen]
    exact this
  · exact at_alloc (at_new w _) _
theorem scnew_not (n st pr far : Int) (h : ¬ MaySc n st pr far) (w : World) : Calls Try.prog 19 #[.int .i64 n, .int .i64 st, .int .i64 pr, .int .i64 far] w fun e w' => e = .returned (.pointer none) ∧ w = w' := by
  unfold MaySc at h
  by_cases h1 : n < 1
  · go_enter Try.func19, Try.ntmps19; go_wp2; go_ret; exact ⟨by simp, rfl⟩
  · by_cases h2 : 16 < n
    · go_enter Try.func19, Try.ntmps19; go_wp2; go_ret; exact ⟨by simp, rfl⟩
    · by_cases h3 : st < 1
      · go_enter Try.func19, Try.ntmps19; go_wp2; go_ret; exact ⟨by simp, rfl⟩
      · by_cases h4 : 100 < st
        · go_enter Try.func19, Try.ntmps19; go_wp2; go_ret; exact ⟨by simp, rfl⟩
        · by_cases h5 : pr < 1
          · go_enter Try.func19, Try.ntmps19; go_wp2; go_ret; exact ⟨by simp, rfl⟩
          · by_cases h6 : 100 < pr
            · go_enter Try.func19, Try.ntmps19; go_wp2; go_ret; exact ⟨by simp, rfl⟩
            · by_cases h7 : far < 0
              · go_enter Try.func19, Try.ntmps19; go_wp2; go_ret; exact ⟨by simp, rfl⟩
              · by_cases h8 : 1099511627776 < far
                · go_enter Try.func19, Try.ntmps19; go_wp2; go_ret; exact ⟨by simp, rfl⟩
                · exact absurd ⟨by omega, by omega, by omega, by omega, by omega, by omega, by omega, by omega⟩ h

/-- how it is set: the count, or an error -/
def cntOf (st pr a c : Int) (o : Bool) : Option Int :=
  if o = true then (if a = 0 ∧ 0 ≤ c ∧ c < pr then some c else none) else (if c = 0 ∧ 0 ≤ a ∧ a < st then some a else none)
theorem gbn {w w1 : World} {r : Option Nat} (h : w.grownBy w1 r) (n : Nat) : w.grownBy (w1.drewN n) r := ⟨h.os, h.tape, h.output, h.size, h.block⟩
theorem count_any {s : Sc} {b hb : Nat} {w : World} (h : ScAt s b hb w) (a c : Int) (o : Bool) :
    Calls Try.prog 51 #[.pointer (some ⟨b, 0, none⟩), .agg #[.int .i64 a, .int .i64 c, .bool o]] w fun e w' => e = .returned (.tuple #[.int .i64 ((cntOf s.st s.pr a c o).getD 0), .int .i64 (if (cntOf s.st s.pr a c o).isSome = true then 0 else 1)]) ∧ w.grownBy w' none := by
  obtain ⟨c0, c1, c2, c3⟩ := (h.alloc (.cells #[.int .i64 a, .int .i64 c, .bool o] 45)).cells
  have hb0 := at_new w (.cells #[.int .i64 a, .int .i64 c, .bool o] 45)
  have e0 : (w.alloc (.cells #[.int .i64 a, .int .i64 c, .bool o] 45)).cell? ⟨w.heap.size, 0, none⟩ = some (.int .i64 a) := at_cell hb0 0
  have e1 : (w.alloc (.cells #[.int .i64 a, .int .i64 c, .bool o] 45)).cell? ⟨w.heap.size, 1, none⟩ = some (.int .i64 c) := at_cell hb0 1
  have e2 : (w.alloc (.cells #[.int .i64 a, .int .i64 c, .bool o] 45)).cell? ⟨w.heap.size, 2, none⟩ = some (.bool o) := at_cell hb0 2
  have CG := hid (World.grownBy_alloc w (.cells #[.int .i64 a, .int .i64 c, .bool o] 45) none)
  have hp := h.ok.pr
  have hs := h.ok.st
  unfold cntOf
  generalize s.st = st at *
  generalize s.pr = pr at *
  clear h hb0 c0 c3
  cases o with
  | true =>
    rw [if_pos rfl]
    by_cases h0 : a = 0
    · subst h0
      by_cases h1 : c < 0
      · rw [if_neg (by omega)]
        go_enter Try.func51, Try.ntmps51
        go_wp2_with fail
        go_quiet (fail)
        go_wp2_with fail
        go_quiet (fail)
        go_wp2_with fail
        all_goals
          go_ret2
          exact ⟨rfl, by first | exact CG.out | exact gbn CG.out _ | exact gbn (gbn CG.out _) _⟩
      · by_cases h2 : c < pr
        · rw [if_pos (by omega)]
          go_enter Try.func51, Try.ntmps51
          go_wp2_with fail
          go_quiet (fail)
          go_wp2_with fail
          go_quiet (fail)
          go_wp2_with fail
          all_goals
            go_ret2
            exact ⟨rfl, by first | exact CG.out | exact gbn CG.out _ | exact gbn (gbn CG.out _) _⟩
        · rw [if_neg (by omega)]
          go_enter Try.func51, Try.ntmps51
          go_wp2_with fail
          go_quiet (fail)
          go_wp2_with fail
          go_quiet (fail)
          go_wp2_with fail
          all_goals
            go_ret2
            exact ⟨rfl, by first | exact CG.out | exact gbn CG.out _ | exact gbn (gbn CG.out _) _⟩
    · have d0 : (a != 0) = true := by simpa using h0
      rw [if_neg (by omega)]
      go_enter Try.func51, Try.ntmps51
      go_wp2_with fail
      go_quiet (fail)
      go_wp2_with fail
      go_quiet (fail)
      go_wp2_with fail
      all_goals
        go_ret2
        exact ⟨rfl, by first | exact CG.out | exact gbn CG.out _ | exact gbn (gbn CG.out _) _⟩
  | false =>
    rw [if_neg (by simp)]
    by_cases h0 : c = 0
    · subst h0
      by_cases h1 : a < 0
      · rw [if_neg (by omega)]
        go_enter Try.func51, Try.ntmps51
        go_wp2_with fail
        go_quiet (fail)
        go_wp2_with fail
        all_goals
          go_ret2
          exact ⟨rfl, by first | exact CG.out | exact gbn CG.out _ | exact gbn (gbn CG.out _) _⟩
      · by_cases h2 : a < st
        · rw [if_pos (by omega)]
          go_enter Try.func51, Try.ntmps51
          go_wp2_with fail
          go_quiet (fail)
          go_wp2_with fail
          all_goals
            go_ret2
            exact ⟨rfl, by first | exact CG.out | exact gbn CG.out _ | exact gbn (gbn CG.out _) _⟩
        · rw [if_neg (by omega)]
          go_enter Try.func51, Try.ntmps51
          go_wp2_with fail
          go_quiet (fail)
          go_wp2_with fail
          all_goals
            go_ret2
            exact ⟨rfl, by first | exact CG.out | exact gbn CG.out _ | exact gbn (gbn CG.out _) _⟩
    · have d0 : (c != 0) = true := by simpa using h0
      rw [if_neg (by omega)]
      go_enter Try.func51, Try.ntmps51
      go_wp2_with fail
      go_quiet (fail)
      go_wp2_with fail
      all_goals
        go_ret2
        exact ⟨rfl, by first | exact CG.out | exact gbn CG.out _ | exact gbn (gbn CG.out _) _⟩
end Go.Proofs.Ytogmibmkkmbgoaa
