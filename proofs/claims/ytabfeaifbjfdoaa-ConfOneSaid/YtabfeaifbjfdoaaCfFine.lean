/-
  A made configuration may be; with one part far beyond its bounds it is wrong by that part's name. No condition.
-/
import Derived.Test.YtabfeaifbjfdoaaCfFit
import Derived.Test.YtabfeaifbjfdoaaCfNames
set_option linter.unusedSectionVars false
set_option linter.unusedSimpArgs false
namespace Go.Proofs.Ytabfeaifbjfdoaa
set_option maxRecDepth 100000
open Go.RowKit
theorem lo_is {f : Int} (h : 0 ≤ f ∧ f ≤ 2) : wrap64 (wrap64 (2 * f) + 1) = 2 * f + 1 := by
  rw [wrap_small (x := 2 * f) (by omega) (by omega), wrap_small (by omega) (by omega)]
theorem within_in {x lo hi : Int} (h : lo ≤ x ∧ x ≤ hi) : within x lo hi = true := by simp [within, h]
theorem within_out {x lo hi : Int} (h : x < lo ∨ hi < x) : within x lo hi = false := by
  unfold within
  by_cases h1 : lo ≤ x
  · rw [decide_eq_false (show ¬ x ≤ hi by omega), Bool.and_false]
  · rw [decide_eq_false h1, Bool.false_and]
section
variable {c : Conf} (h : Fine c)
include h
theorem part1 : within c.n 1 16 = true := within_in (by have := h.f; have := h.n; omega)
theorem part2 : within c.f 0 (wrap64 ((wrap64 (c.n - 1)).tdiv 3)) = true := by rw [third (by have := h.f; have := h.n; omega) (by have := h.f; have := h.n; omega)]; have := h.f; have := h.n; simp; omega
theorem part3 : within c.m 1 4 = true := within_in (by have := h.m; omega)
theorem part4 : within c.quorum (wrap64 (wrap64 (2 * c.f) + 1)) c.n = true := by rw [lo_is h.f]; exact within_in h.quorum
theorem part5 : within c.fresh 1 8 = true := within_in (by have := h.fresh; omega)
theorem part6 : within c.grace 1 100 = true := within_in (by have := h.grace; omega)
theorem part7 : within c.window 1 64 = true := within_in (by have := h.window; omega)
theorem part8 : tgts c.m c.t0 c.t1 c.t2 c.t3 = true := by
  have h0 := h.t0
  have e0 : tgt c.m 0 c.t0 = true := by unfold tgt; rw [if_pos (by have := h.m; omega)]; exact within_in (by omega)
  have e2 : tgt c.m 2 c.t2 = true := by unfold tgt; rw [if_neg (by have := h.m; omega), h.t2]; rfl
  have e3 : tgt c.m 3 c.t3 = true := by unfold tgt; rw [if_neg (by have := h.m; omega), h.t3]; rfl
  have e1 : tgt c.m 1 c.t1 = true := by
    rcases h.m with ⟨hm, h1⟩ | ⟨hm, h1, h2⟩
    · unfold tgt; rw [if_neg (by omega), h1]; rfl
    · unfold tgt; rw [if_pos (by omega)]; exact within_in (by omega)
  unfold tgts
  rw [e0, e1, e2, e3]
  rfl
theorem part9 : within c.tol 0 1000 = true := within_in (by have := h.tol; omega)
theorem part10 : within c.min 1 10000 = true := within_in (by have := h.min; omega)
theorem part11 : within c.max c.min 10000 = true := within_in (by have := h.min; have := h.max; omega)
theorem part12 : within c.calmup 0 60 = true := within_in (by have := h.calmup; omega)
theorem part13 : within c.calmdown 0 60 = true := within_in (by have := h.calmdown; omega)
theorem part14 : within c.podsup 1 1000 = true := within_in (by have := h.podsup; omega)
theorem part15 : within c.pctup 1 1000 = true := within_in (by have := h.pctup; omega)
theorem part16 : within c.podsdown 1 1000 = true := within_in (by have := h.podsdown; omega)
theorem part17 : within c.pctdown 1 100 = true := within_in (by have := h.pctdown; omega)
theorem part18 : within c.period 1 60 = true := within_in (by have := h.period; omega)
theorem part19 : within c.far 0 1099511627776 = true := within_in (by have := h.far; omega)
theorem part20 : within c.strikes 1 100 = true := within_in (by have := h.strikes; omega)
theorem part21 : within c.probe 1 100 = true := within_in (by have := h.probe; omega)
theorem part22 : within c.sectors 64 4096 = true := within_in (by have := h.sectors; omega)
theorem fine_none : st22 c = none := ok22 (ok21 (ok20 (ok19 (ok18 (ok17 (ok16 (ok15 (ok14 (ok13 (ok12 (ok11 (ok10 (ok9 (ok8 (ok7 (ok6 (ok5 (ok4 (ok3 (ok2 (ok1 (c := c) (part1 h)) (part2 h)) (part3 h)) (part4 h)) (part5 h)) (part6 h)) (part7 h)) (part8 h)) (part9 h)) (part10 h)) (part11 h)) (part12 h)) (part13 h)) (part14 h)) (part15 h)) (part16 h)) (part17 h)) (part18 h)) (part19 h)) (part20 h)) (part21 h)) (part22 h)
theorem one1 (v : Int) (hv : v = -1 ∨ v = 1048576) : (st22 (⟨v, c.f, c.m, c.quorum, c.fresh, c.grace, c.window, c.t0, c.t1, c.t2, c.t3, c.tol, c.min, c.max, c.calmup, c.calmdown, c.podsup, c.pctup, c.podsdown, c.pctdown, c.period, c.far, c.strikes, c.probe, c.sectors, c.seed⟩ : Conf)).getD ⟨#[]⟩ = nm 0 := by
  have hb : within v 1 16 = false := within_out (by show v < 1 ∨ 16 < v; omega)
  rw [no1 (c := (⟨v, c.f, c.m, c.quorum, c.fresh, c.grace, c.window, c.t0, c.t1, c.t2, c.t3, c.tol, c.min, c.max, c.calmup, c.calmdown, c.podsup, c.pctup, c.podsdown, c.pctdown, c.period, c.far, c.strikes, c.probe, c.sectors, c.seed⟩ : Conf))  hb]
  rfl
theorem one2 (v : Int) (hv : v = -1 ∨ v = 1048576) : (st22 (⟨c.n, v, c.m, c.quorum, c.fresh, c.grace, c.window, c.t0, c.t1, c.t2, c.t3, c.tol, c.min, c.max, c.calmup, c.calmdown, c.podsup, c.pctup, c.podsdown, c.pctdown, c.period, c.far, c.strikes, c.probe, c.sectors, c.seed⟩ : Conf)).getD ⟨#[]⟩ = nm 1 := by
  have hb : within v 0 (wrap64 ((wrap64 (c.n - 1)).tdiv 3)) = false := by
    show within v 0 (wrap64 ((wrap64 (c.n - 1)).tdiv 3)) = false
    rw [third (by have := h.f; have := h.n; omega) (by have := h.f; have := h.n; omega)]
    have := h.f; have := h.n
    simp; omega
  rw [no2 (c := (⟨c.n, v, c.m, c.quorum, c.fresh, c.grace, c.window, c.t0, c.t1, c.t2, c.t3, c.tol, c.min, c.max, c.calmup, c.calmdown, c.podsup, c.pctup, c.podsdown, c.pctdown, c.period, c.far, c.strikes, c.probe, c.sectors, c.seed⟩ : Conf)) (ok1 (c := (⟨c.n, v, c.m, c.quorum, c.fresh, c.grace, c.window, c.t0, c.t1, c.t2, c.t3, c.tol, c.min, c.max, c.calmup, c.calmdown, c.podsup, c.pctup, c.podsdown, c.pctdown, c.period, c.far, c.strikes, c.probe, c.sectors, c.seed⟩ : Conf)) (part1 (c := c) h)) hb]
  rfl
theorem one3 (v : Int) (hv : v = -1 ∨ v = 1048576) : (st22 (⟨c.n, c.f, v, c.quorum, c.fresh, c.grace, c.window, c.t0, c.t1, c.t2, c.t3, c.tol, c.min, c.max, c.calmup, c.calmdown, c.podsup, c.pctup, c.podsdown, c.pctdown, c.period, c.far, c.strikes, c.probe, c.sectors, c.seed⟩ : Conf)).getD ⟨#[]⟩ = nm 2 := by
  have hb : within v 1 4 = false := within_out (by show v < 1 ∨ 4 < v; omega)
  rw [no3 (c := (⟨c.n, c.f, v, c.quorum, c.fresh, c.grace, c.window, c.t0, c.t1, c.t2, c.t3, c.tol, c.min, c.max, c.calmup, c.calmdown, c.podsup, c.pctup, c.podsdown, c.pctdown, c.period, c.far, c.strikes, c.probe, c.sectors, c.seed⟩ : Conf)) (ok2 (ok1 (c := (⟨c.n, c.f, v, c.quorum, c.fresh, c.grace, c.window, c.t0, c.t1, c.t2, c.t3, c.tol, c.min, c.max, c.calmup, c.calmdown, c.podsup, c.pctup, c.podsdown, c.pctdown, c.period, c.far, c.strikes, c.probe, c.sectors, c.seed⟩ : Conf)) (part1 (c := c) h)) (part2 (c := c) h)) hb]
  rfl
theorem one4 (v : Int) (hv : v = -1 ∨ v = 1048576) : (st22 (⟨c.n, c.f, c.m, v, c.fresh, c.grace, c.window, c.t0, c.t1, c.t2, c.t3, c.tol, c.min, c.max, c.calmup, c.calmdown, c.podsup, c.pctup, c.podsdown, c.pctdown, c.period, c.far, c.strikes, c.probe, c.sectors, c.seed⟩ : Conf)).getD ⟨#[]⟩ = nm 3 := by
  have hb : within v (wrap64 (wrap64 (2 * c.f) + 1)) c.n = false := by
    show within v (wrap64 (wrap64 (2 * c.f) + 1)) c.n = false
    rw [lo_is h.f]
    exact within_out (by have := h.f; have := h.n; omega)
  rw [no4 (c := (⟨c.n, c.f, c.m, v, c.fresh, c.grace, c.window, c.t0, c.t1, c.t2, c.t3, c.tol, c.min, c.max, c.calmup, c.calmdown, c.podsup, c.pctup, c.podsdown, c.pctdown, c.period, c.far, c.strikes, c.probe, c.sectors, c.seed⟩ : Conf)) (ok3 (ok2 (ok1 (c := (⟨c.n, c.f, c.m, v, c.fresh, c.grace, c.window, c.t0, c.t1, c.t2, c.t3, c.tol, c.min, c.max, c.calmup, c.calmdown, c.podsup, c.pctup, c.podsdown, c.pctdown, c.period, c.far, c.strikes, c.probe, c.sectors, c.seed⟩ : Conf)) (part1 (c := c) h)) (part2 (c := c) h)) (part3 (c := c) h)) hb]
  rfl
theorem one5 (v : Int) (hv : v = -1 ∨ v = 1048576) : (st22 (⟨c.n, c.f, c.m, c.quorum, v, c.grace, c.window, c.t0, c.t1, c.t2, c.t3, c.tol, c.min, c.max, c.calmup, c.calmdown, c.podsup, c.pctup, c.podsdown, c.pctdown, c.period, c.far, c.strikes, c.probe, c.sectors, c.seed⟩ : Conf)).getD ⟨#[]⟩ = nm 4 := by
  have hb : within v 1 8 = false := within_out (by show v < 1 ∨ 8 < v; omega)
  rw [no5 (c := (⟨c.n, c.f, c.m, c.quorum, v, c.grace, c.window, c.t0, c.t1, c.t2, c.t3, c.tol, c.min, c.max, c.calmup, c.calmdown, c.podsup, c.pctup, c.podsdown, c.pctdown, c.period, c.far, c.strikes, c.probe, c.sectors, c.seed⟩ : Conf)) (ok4 (ok3 (ok2 (ok1 (c := (⟨c.n, c.f, c.m, c.quorum, v, c.grace, c.window, c.t0, c.t1, c.t2, c.t3, c.tol, c.min, c.max, c.calmup, c.calmdown, c.podsup, c.pctup, c.podsdown, c.pctdown, c.period, c.far, c.strikes, c.probe, c.sectors, c.seed⟩ : Conf)) (part1 (c := c) h)) (part2 (c := c) h)) (part3 (c := c) h)) (part4 (c := c) h)) hb]
  rfl
theorem one6 (v : Int) (hv : v = -1 ∨ v = 1048576) : (st22 (⟨c.n, c.f, c.m, c.quorum, c.fresh, v, c.window, c.t0, c.t1, c.t2, c.t3, c.tol, c.min, c.max, c.calmup, c.calmdown, c.podsup, c.pctup, c.podsdown, c.pctdown, c.period, c.far, c.strikes, c.probe, c.sectors, c.seed⟩ : Conf)).getD ⟨#[]⟩ = nm 5 := by
  have hb : within v 1 100 = false := within_out (by show v < 1 ∨ 100 < v; omega)
  rw [no6 (c := (⟨c.n, c.f, c.m, c.quorum, c.fresh, v, c.window, c.t0, c.t1, c.t2, c.t3, c.tol, c.min, c.max, c.calmup, c.calmdown, c.podsup, c.pctup, c.podsdown, c.pctdown, c.period, c.far, c.strikes, c.probe, c.sectors, c.seed⟩ : Conf)) (ok5 (ok4 (ok3 (ok2 (ok1 (c := (⟨c.n, c.f, c.m, c.quorum, c.fresh, v, c.window, c.t0, c.t1, c.t2, c.t3, c.tol, c.min, c.max, c.calmup, c.calmdown, c.podsup, c.pctup, c.podsdown, c.pctdown, c.period, c.far, c.strikes, c.probe, c.sectors, c.seed⟩ : Conf)) (part1 (c := c) h)) (part2 (c := c) h)) (part3 (c := c) h)) (part4 (c := c) h)) (part5 (c := c) h)) hb]
  rfl
theorem one7 (v : Int) (hv : v = -1 ∨ v = 1048576) : (st22 (⟨c.n, c.f, c.m, c.quorum, c.fresh, c.grace, v, c.t0, c.t1, c.t2, c.t3, c.tol, c.min, c.max, c.calmup, c.calmdown, c.podsup, c.pctup, c.podsdown, c.pctdown, c.period, c.far, c.strikes, c.probe, c.sectors, c.seed⟩ : Conf)).getD ⟨#[]⟩ = nm 6 := by
  have hb : within v 1 64 = false := within_out (by show v < 1 ∨ 64 < v; omega)
  rw [no7 (c := (⟨c.n, c.f, c.m, c.quorum, c.fresh, c.grace, v, c.t0, c.t1, c.t2, c.t3, c.tol, c.min, c.max, c.calmup, c.calmdown, c.podsup, c.pctup, c.podsdown, c.pctdown, c.period, c.far, c.strikes, c.probe, c.sectors, c.seed⟩ : Conf)) (ok6 (ok5 (ok4 (ok3 (ok2 (ok1 (c := (⟨c.n, c.f, c.m, c.quorum, c.fresh, c.grace, v, c.t0, c.t1, c.t2, c.t3, c.tol, c.min, c.max, c.calmup, c.calmdown, c.podsup, c.pctup, c.podsdown, c.pctdown, c.period, c.far, c.strikes, c.probe, c.sectors, c.seed⟩ : Conf)) (part1 (c := c) h)) (part2 (c := c) h)) (part3 (c := c) h)) (part4 (c := c) h)) (part5 (c := c) h)) (part6 (c := c) h)) hb]
  rfl
theorem one8 (v : Int) (hv : v = -1073741824 ∨ v = 1125899906842624) : (st22 (⟨c.n, c.f, c.m, c.quorum, c.fresh, c.grace, c.window, v, c.t1, c.t2, c.t3, c.tol, c.min, c.max, c.calmup, c.calmdown, c.podsup, c.pctup, c.podsdown, c.pctdown, c.period, c.far, c.strikes, c.probe, c.sectors, c.seed⟩ : Conf)).getD ⟨#[]⟩ = nm 7 := by
  have hb : tgts c.m v c.t1 c.t2 c.t3 = false := by
    have e0 : tgt c.m 0 v = false := by unfold tgt; rw [if_pos (by have := h.m; omega)]; exact within_out (by omega)
    show tgts c.m v c.t1 c.t2 c.t3 = false
    unfold tgts
    rw [e0]
    rfl
  rw [no8 (c := (⟨c.n, c.f, c.m, c.quorum, c.fresh, c.grace, c.window, v, c.t1, c.t2, c.t3, c.tol, c.min, c.max, c.calmup, c.calmdown, c.podsup, c.pctup, c.podsdown, c.pctdown, c.period, c.far, c.strikes, c.probe, c.sectors, c.seed⟩ : Conf)) (ok7 (ok6 (ok5 (ok4 (ok3 (ok2 (ok1 (c := (⟨c.n, c.f, c.m, c.quorum, c.fresh, c.grace, c.window, v, c.t1, c.t2, c.t3, c.tol, c.min, c.max, c.calmup, c.calmdown, c.podsup, c.pctup, c.podsdown, c.pctdown, c.period, c.far, c.strikes, c.probe, c.sectors, c.seed⟩ : Conf)) (part1 (c := c) h)) (part2 (c := c) h)) (part3 (c := c) h)) (part4 (c := c) h)) (part5 (c := c) h)) (part6 (c := c) h)) (part7 (c := c) h)) hb]
  rfl
theorem one9 (v : Int) (hv : v = -1 ∨ v = 1048576) : (st22 (⟨c.n, c.f, c.m, c.quorum, c.fresh, c.grace, c.window, c.t0, c.t1, c.t2, c.t3, v, c.min, c.max, c.calmup, c.calmdown, c.podsup, c.pctup, c.podsdown, c.pctdown, c.period, c.far, c.strikes, c.probe, c.sectors, c.seed⟩ : Conf)).getD ⟨#[]⟩ = nm 8 := by
  have hb : within v 0 1000 = false := within_out (by show v < 0 ∨ 1000 < v; omega)
  rw [no9 (c := (⟨c.n, c.f, c.m, c.quorum, c.fresh, c.grace, c.window, c.t0, c.t1, c.t2, c.t3, v, c.min, c.max, c.calmup, c.calmdown, c.podsup, c.pctup, c.podsdown, c.pctdown, c.period, c.far, c.strikes, c.probe, c.sectors, c.seed⟩ : Conf)) (ok8 (ok7 (ok6 (ok5 (ok4 (ok3 (ok2 (ok1 (c := (⟨c.n, c.f, c.m, c.quorum, c.fresh, c.grace, c.window, c.t0, c.t1, c.t2, c.t3, v, c.min, c.max, c.calmup, c.calmdown, c.podsup, c.pctup, c.podsdown, c.pctdown, c.period, c.far, c.strikes, c.probe, c.sectors, c.seed⟩ : Conf)) (part1 (c := c) h)) (part2 (c := c) h)) (part3 (c := c) h)) (part4 (c := c) h)) (part5 (c := c) h)) (part6 (c := c) h)) (part7 (c := c) h)) (part8 (c := c) h)) hb]
  rfl
theorem one10 (v : Int) (hv : v = -1 ∨ v = 1048576) : (st22 (⟨c.n, c.f, c.m, c.quorum, c.fresh, c.grace, c.window, c.t0, c.t1, c.t2, c.t3, c.tol, v, c.max, c.calmup, c.calmdown, c.podsup, c.pctup, c.podsdown, c.pctdown, c.period, c.far, c.strikes, c.probe, c.sectors, c.seed⟩ : Conf)).getD ⟨#[]⟩ = nm 9 := by
  have hb : within v 1 10000 = false := within_out (by show v < 1 ∨ 10000 < v; omega)
  rw [no10 (c := (⟨c.n, c.f, c.m, c.quorum, c.fresh, c.grace, c.window, c.t0, c.t1, c.t2, c.t3, c.tol, v, c.max, c.calmup, c.calmdown, c.podsup, c.pctup, c.podsdown, c.pctdown, c.period, c.far, c.strikes, c.probe, c.sectors, c.seed⟩ : Conf)) (ok9 (ok8 (ok7 (ok6 (ok5 (ok4 (ok3 (ok2 (ok1 (c := (⟨c.n, c.f, c.m, c.quorum, c.fresh, c.grace, c.window, c.t0, c.t1, c.t2, c.t3, c.tol, v, c.max, c.calmup, c.calmdown, c.podsup, c.pctup, c.podsdown, c.pctdown, c.period, c.far, c.strikes, c.probe, c.sectors, c.seed⟩ : Conf)) (part1 (c := c) h)) (part2 (c := c) h)) (part3 (c := c) h)) (part4 (c := c) h)) (part5 (c := c) h)) (part6 (c := c) h)) (part7 (c := c) h)) (part8 (c := c) h)) (part9 (c := c) h)) hb]
  rfl
theorem one11 (v : Int) (hv : v = -1 ∨ v = 1048576) : (st22 (⟨c.n, c.f, c.m, c.quorum, c.fresh, c.grace, c.window, c.t0, c.t1, c.t2, c.t3, c.tol, c.min, v, c.calmup, c.calmdown, c.podsup, c.pctup, c.podsdown, c.pctdown, c.period, c.far, c.strikes, c.probe, c.sectors, c.seed⟩ : Conf)).getD ⟨#[]⟩ = nm 10 := by
  have hb : within v c.min 10000 = false := within_out (by have := h.min; show v < c.min ∨ 10000 < v; omega)
  rw [no11 (c := (⟨c.n, c.f, c.m, c.quorum, c.fresh, c.grace, c.window, c.t0, c.t1, c.t2, c.t3, c.tol, c.min, v, c.calmup, c.calmdown, c.podsup, c.pctup, c.podsdown, c.pctdown, c.period, c.far, c.strikes, c.probe, c.sectors, c.seed⟩ : Conf)) (ok10 (ok9 (ok8 (ok7 (ok6 (ok5 (ok4 (ok3 (ok2 (ok1 (c := (⟨c.n, c.f, c.m, c.quorum, c.fresh, c.grace, c.window, c.t0, c.t1, c.t2, c.t3, c.tol, c.min, v, c.calmup, c.calmdown, c.podsup, c.pctup, c.podsdown, c.pctdown, c.period, c.far, c.strikes, c.probe, c.sectors, c.seed⟩ : Conf)) (part1 (c := c) h)) (part2 (c := c) h)) (part3 (c := c) h)) (part4 (c := c) h)) (part5 (c := c) h)) (part6 (c := c) h)) (part7 (c := c) h)) (part8 (c := c) h)) (part9 (c := c) h)) (part10 (c := c) h)) hb]
  rfl
theorem one12 (v : Int) (hv : v = -1 ∨ v = 1048576) : (st22 (⟨c.n, c.f, c.m, c.quorum, c.fresh, c.grace, c.window, c.t0, c.t1, c.t2, c.t3, c.tol, c.min, c.max, v, c.calmdown, c.podsup, c.pctup, c.podsdown, c.pctdown, c.period, c.far, c.strikes, c.probe, c.sectors, c.seed⟩ : Conf)).getD ⟨#[]⟩ = nm 11 := by
  have hb : within v 0 60 = false := within_out (by show v < 0 ∨ 60 < v; omega)
  rw [no12 (c := (⟨c.n, c.f, c.m, c.quorum, c.fresh, c.grace, c.window, c.t0, c.t1, c.t2, c.t3, c.tol, c.min, c.max, v, c.calmdown, c.podsup, c.pctup, c.podsdown, c.pctdown, c.period, c.far, c.strikes, c.probe, c.sectors, c.seed⟩ : Conf)) (ok11 (ok10 (ok9 (ok8 (ok7 (ok6 (ok5 (ok4 (ok3 (ok2 (ok1 (c := (⟨c.n, c.f, c.m, c.quorum, c.fresh, c.grace, c.window, c.t0, c.t1, c.t2, c.t3, c.tol, c.min, c.max, v, c.calmdown, c.podsup, c.pctup, c.podsdown, c.pctdown, c.period, c.far, c.strikes, c.probe, c.sectors, c.seed⟩ : Conf)) (part1 (c := c) h)) (part2 (c := c) h)) (part3 (c := c) h)) (part4 (c := c) h)) (part5 (c := c) h)) (part6 (c := c) h)) (part7 (c := c) h)) (part8 (c := c) h)) (part9 (c := c) h)) (part10 (c := c) h)) (part11 (c := c) h)) hb]
  rfl
theorem one13 (v : Int) (hv : v = -1 ∨ v = 1048576) : (st22 (⟨c.n, c.f, c.m, c.quorum, c.fresh, c.grace, c.window, c.t0, c.t1, c.t2, c.t3, c.tol, c.min, c.max, c.calmup, v, c.podsup, c.pctup, c.podsdown, c.pctdown, c.period, c.far, c.strikes, c.probe, c.sectors, c.seed⟩ : Conf)).getD ⟨#[]⟩ = nm 12 := by
  have hb : within v 0 60 = false := within_out (by show v < 0 ∨ 60 < v; omega)
  rw [no13 (c := (⟨c.n, c.f, c.m, c.quorum, c.fresh, c.grace, c.window, c.t0, c.t1, c.t2, c.t3, c.tol, c.min, c.max, c.calmup, v, c.podsup, c.pctup, c.podsdown, c.pctdown, c.period, c.far, c.strikes, c.probe, c.sectors, c.seed⟩ : Conf)) (ok12 (ok11 (ok10 (ok9 (ok8 (ok7 (ok6 (ok5 (ok4 (ok3 (ok2 (ok1 (c := (⟨c.n, c.f, c.m, c.quorum, c.fresh, c.grace, c.window, c.t0, c.t1, c.t2, c.t3, c.tol, c.min, c.max, c.calmup, v, c.podsup, c.pctup, c.podsdown, c.pctdown, c.period, c.far, c.strikes, c.probe, c.sectors, c.seed⟩ : Conf)) (part1 (c := c) h)) (part2 (c := c) h)) (part3 (c := c) h)) (part4 (c := c) h)) (part5 (c := c) h)) (part6 (c := c) h)) (part7 (c := c) h)) (part8 (c := c) h)) (part9 (c := c) h)) (part10 (c := c) h)) (part11 (c := c) h)) (part12 (c := c) h)) hb]
  rfl
theorem one14 (v : Int) (hv : v = -1 ∨ v = 1048576) : (st22 (⟨c.n, c.f, c.m, c.quorum, c.fresh, c.grace, c.window, c.t0, c.t1, c.t2, c.t3, c.tol, c.min, c.max, c.calmup, c.calmdown, v, c.pctup, c.podsdown, c.pctdown, c.period, c.far, c.strikes, c.probe, c.sectors, c.seed⟩ : Conf)).getD ⟨#[]⟩ = nm 13 := by
  have hb : within v 1 1000 = false := within_out (by show v < 1 ∨ 1000 < v; omega)
  rw [no14 (c := (⟨c.n, c.f, c.m, c.quorum, c.fresh, c.grace, c.window, c.t0, c.t1, c.t2, c.t3, c.tol, c.min, c.max, c.calmup, c.calmdown, v, c.pctup, c.podsdown, c.pctdown, c.period, c.far, c.strikes, c.probe, c.sectors, c.seed⟩ : Conf)) (ok13 (ok12 (ok11 (ok10 (ok9 (ok8 (ok7 (ok6 (ok5 (ok4 (ok3 (ok2 (ok1 (c := (⟨c.n, c.f, c.m, c.quorum, c.fresh, c.grace, c.window, c.t0, c.t1, c.t2, c.t3, c.tol, c.min, c.max, c.calmup, c.calmdown, v, c.pctup, c.podsdown, c.pctdown, c.period, c.far, c.strikes, c.probe, c.sectors, c.seed⟩ : Conf)) (part1 (c := c) h)) (part2 (c := c) h)) (part3 (c := c) h)) (part4 (c := c) h)) (part5 (c := c) h)) (part6 (c := c) h)) (part7 (c := c) h)) (part8 (c := c) h)) (part9 (c := c) h)) (part10 (c := c) h)) (part11 (c := c) h)) (part12 (c := c) h)) (part13 (c := c) h)) hb]
  rfl
theorem one15 (v : Int) (hv : v = -1 ∨ v = 1048576) : (st22 (⟨c.n, c.f, c.m, c.quorum, c.fresh, c.grace, c.window, c.t0, c.t1, c.t2, c.t3, c.tol, c.min, c.max, c.calmup, c.calmdown, c.podsup, v, c.podsdown, c.pctdown, c.period, c.far, c.strikes, c.probe, c.sectors, c.seed⟩ : Conf)).getD ⟨#[]⟩ = nm 14 := by
  have hb : within v 1 1000 = false := within_out (by show v < 1 ∨ 1000 < v; omega)
  rw [no15 (c := (⟨c.n, c.f, c.m, c.quorum, c.fresh, c.grace, c.window, c.t0, c.t1, c.t2, c.t3, c.tol, c.min, c.max, c.calmup, c.calmdown, c.podsup, v, c.podsdown, c.pctdown, c.period, c.far, c.strikes, c.probe, c.sectors, c.seed⟩ : Conf)) (ok14 (ok13 (ok12 (ok11 (ok10 (ok9 (ok8 (ok7 (ok6 (ok5 (ok4 (ok3 (ok2 (ok1 (c := (⟨c.n, c.f, c.m, c.quorum, c.fresh, c.grace, c.window, c.t0, c.t1, c.t2, c.t3, c.tol, c.min, c.max, c.calmup, c.calmdown, c.podsup, v, c.podsdown, c.pctdown, c.period, c.far, c.strikes, c.probe, c.sectors, c.seed⟩ : Conf)) (part1 (c := c) h)) (part2 (c := c) h)) (part3 (c := c) h)) (part4 (c := c) h)) (part5 (c := c) h)) (part6 (c := c) h)) (part7 (c := c) h)) (part8 (c := c) h)) (part9 (c := c) h)) (part10 (c := c) h)) (part11 (c := c) h)) (part12 (c := c) h)) (part13 (c := c) h)) (part14 (c := c) h)) hb]
  rfl
theorem one16 (v : Int) (hv : v = -1 ∨ v = 1048576) : (st22 (⟨c.n, c.f, c.m, c.quorum, c.fresh, c.grace, c.window, c.t0, c.t1, c.t2, c.t3, c.tol, c.min, c.max, c.calmup, c.calmdown, c.podsup, c.pctup, v, c.pctdown, c.period, c.far, c.strikes, c.probe, c.sectors, c.seed⟩ : Conf)).getD ⟨#[]⟩ = nm 15 := by
  have hb : within v 1 1000 = false := within_out (by show v < 1 ∨ 1000 < v; omega)
  rw [no16 (c := (⟨c.n, c.f, c.m, c.quorum, c.fresh, c.grace, c.window, c.t0, c.t1, c.t2, c.t3, c.tol, c.min, c.max, c.calmup, c.calmdown, c.podsup, c.pctup, v, c.pctdown, c.period, c.far, c.strikes, c.probe, c.sectors, c.seed⟩ : Conf)) (ok15 (ok14 (ok13 (ok12 (ok11 (ok10 (ok9 (ok8 (ok7 (ok6 (ok5 (ok4 (ok3 (ok2 (ok1 (c := (⟨c.n, c.f, c.m, c.quorum, c.fresh, c.grace, c.window, c.t0, c.t1, c.t2, c.t3, c.tol, c.min, c.max, c.calmup, c.calmdown, c.podsup, c.pctup, v, c.pctdown, c.period, c.far, c.strikes, c.probe, c.sectors, c.seed⟩ : Conf)) (part1 (c := c) h)) (part2 (c := c) h)) (part3 (c := c) h)) (part4 (c := c) h)) (part5 (c := c) h)) (part6 (c := c) h)) (part7 (c := c) h)) (part8 (c := c) h)) (part9 (c := c) h)) (part10 (c := c) h)) (part11 (c := c) h)) (part12 (c := c) h)) (part13 (c := c) h)) (part14 (c := c) h)) (part15 (c := c) h)) hb]
  rfl
theorem one17 (v : Int) (hv : v = -1 ∨ v = 1048576) : (st22 (⟨c.n, c.f, c.m, c.quorum, c.fresh, c.grace, c.window, c.t0, c.t1, c.t2, c.t3, c.tol, c.min, c.max, c.calmup, c.calmdown, c.podsup, c.pctup, c.podsdown, v, c.period, c.far, c.strikes, c.probe, c.sectors, c.seed⟩ : Conf)).getD ⟨#[]⟩ = nm 16 := by
  have hb : within v 1 100 = false := within_out (by show v < 1 ∨ 100 < v; omega)
  rw [no17 (c := (⟨c.n, c.f, c.m, c.quorum, c.fresh, c.grace, c.window, c.t0, c.t1, c.t2, c.t3, c.tol, c.min, c.max, c.calmup, c.calmdown, c.podsup, c.pctup, c.podsdown, v, c.period, c.far, c.strikes, c.probe, c.sectors, c.seed⟩ : Conf)) (ok16 (ok15 (ok14 (ok13 (ok12 (ok11 (ok10 (ok9 (ok8 (ok7 (ok6 (ok5 (ok4 (ok3 (ok2 (ok1 (c := (⟨c.n, c.f, c.m, c.quorum, c.fresh, c.grace, c.window, c.t0, c.t1, c.t2, c.t3, c.tol, c.min, c.max, c.calmup, c.calmdown, c.podsup, c.pctup, c.podsdown, v, c.period, c.far, c.strikes, c.probe, c.sectors, c.seed⟩ : Conf)) (part1 (c := c) h)) (part2 (c := c) h)) (part3 (c := c) h)) (part4 (c := c) h)) (part5 (c := c) h)) (part6 (c := c) h)) (part7 (c := c) h)) (part8 (c := c) h)) (part9 (c := c) h)) (part10 (c := c) h)) (part11 (c := c) h)) (part12 (c := c) h)) (part13 (c := c) h)) (part14 (c := c) h)) (part15 (c := c) h)) (part16 (c := c) h)) hb]
  rfl
theorem one18 (v : Int) (hv : v = -1 ∨ v = 1048576) : (st22 (⟨c.n, c.f, c.m, c.quorum, c.fresh, c.grace, c.window, c.t0, c.t1, c.t2, c.t3, c.tol, c.min, c.max, c.calmup, c.calmdown, c.podsup, c.pctup, c.podsdown, c.pctdown, v, c.far, c.strikes, c.probe, c.sectors, c.seed⟩ : Conf)).getD ⟨#[]⟩ = nm 17 := by
  have hb : within v 1 60 = false := within_out (by show v < 1 ∨ 60 < v; omega)
  rw [no18 (c := (⟨c.n, c.f, c.m, c.quorum, c.fresh, c.grace, c.window, c.t0, c.t1, c.t2, c.t3, c.tol, c.min, c.max, c.calmup, c.calmdown, c.podsup, c.pctup, c.podsdown, c.pctdown, v, c.far, c.strikes, c.probe, c.sectors, c.seed⟩ : Conf)) (ok17 (ok16 (ok15 (ok14 (ok13 (ok12 (ok11 (ok10 (ok9 (ok8 (ok7 (ok6 (ok5 (ok4 (ok3 (ok2 (ok1 (c := (⟨c.n, c.f, c.m, c.quorum, c.fresh, c.grace, c.window, c.t0, c.t1, c.t2, c.t3, c.tol, c.min, c.max, c.calmup, c.calmdown, c.podsup, c.pctup, c.podsdown, c.pctdown, v, c.far, c.strikes, c.probe, c.sectors, c.seed⟩ : Conf)) (part1 (c := c) h)) (part2 (c := c) h)) (part3 (c := c) h)) (part4 (c := c) h)) (part5 (c := c) h)) (part6 (c := c) h)) (part7 (c := c) h)) (part8 (c := c) h)) (part9 (c := c) h)) (part10 (c := c) h)) (part11 (c := c) h)) (part12 (c := c) h)) (part13 (c := c) h)) (part14 (c := c) h)) (part15 (c := c) h)) (part16 (c := c) h)) (part17 (c := c) h)) hb]
  rfl
theorem one19 (v : Int) (hv : v = -1073741824 ∨ v = 1125899906842624) : (st22 (⟨c.n, c.f, c.m, c.quorum, c.fresh, c.grace, c.window, c.t0, c.t1, c.t2, c.t3, c.tol, c.min, c.max, c.calmup, c.calmdown, c.podsup, c.pctup, c.podsdown, c.pctdown, c.period, v, c.strikes, c.probe, c.sectors, c.seed⟩ : Conf)).getD ⟨#[]⟩ = nm 18 := by
  have hb : within v 0 1099511627776 = false := within_out (by show v < 0 ∨ 1099511627776 < v; omega)
  rw [no19 (c := (⟨c.n, c.f, c.m, c.quorum, c.fresh, c.grace, c.window, c.t0, c.t1, c.t2, c.t3, c.tol, c.min, c.max, c.calmup, c.calmdown, c.podsup, c.pctup, c.podsdown, c.pctdown, c.period, v, c.strikes, c.probe, c.sectors, c.seed⟩ : Conf)) (ok18 (ok17 (ok16 (ok15 (ok14 (ok13 (ok12 (ok11 (ok10 (ok9 (ok8 (ok7 (ok6 (ok5 (ok4 (ok3 (ok2 (ok1 (c := (⟨c.n, c.f, c.m, c.quorum, c.fresh, c.grace, c.window, c.t0, c.t1, c.t2, c.t3, c.tol, c.min, c.max, c.calmup, c.calmdown, c.podsup, c.pctup, c.podsdown, c.pctdown, c.period, v, c.strikes, c.probe, c.sectors, c.seed⟩ : Conf)) (part1 (c := c) h)) (part2 (c := c) h)) (part3 (c := c) h)) (part4 (c := c) h)) (part5 (c := c) h)) (part6 (c := c) h)) (part7 (c := c) h)) (part8 (c := c) h)) (part9 (c := c) h)) (part10 (c := c) h)) (part11 (c := c) h)) (part12 (c := c) h)) (part13 (c := c) h)) (part14 (c := c) h)) (part15 (c := c) h)) (part16 (c := c) h)) (part17 (c := c) h)) (part18 (c := c) h)) hb]
  rfl
theorem one20 (v : Int) (hv : v = -1 ∨ v = 1048576) : (st22 (⟨c.n, c.f, c.m, c.quorum, c.fresh, c.grace, c.window, c.t0, c.t1, c.t2, c.t3, c.tol, c.min, c.max, c.calmup, c.calmdown, c.podsup, c.pctup, c.podsdown, c.pctdown, c.period, c.far, v, c.probe, c.sectors, c.seed⟩ : Conf)).getD ⟨#[]⟩ = nm 19 := by
  have hb : within v 1 100 = false := within_out (by show v < 1 ∨ 100 < v; omega)
  rw [no20 (c := (⟨c.n, c.f, c.m, c.quorum, c.fresh, c.grace, c.window, c.t0, c.t1, c.t2, c.t3, c.tol, c.min, c.max, c.calmup, c.calmdown, c.podsup, c.pctup, c.podsdown, c.pctdown, c.period, c.far, v, c.probe, c.sectors, c.seed⟩ : Conf)) (ok19 (ok18 (ok17 (ok16 (ok15 (ok14 (ok13 (ok12 (ok11 (ok10 (ok9 (ok8 (ok7 (ok6 (ok5 (ok4 (ok3 (ok2 (ok1 (c := (⟨c.n, c.f, c.m, c.quorum, c.fresh, c.grace, c.window, c.t0, c.t1, c.t2, c.t3, c.tol, c.min, c.max, c.calmup, c.calmdown, c.podsup, c.pctup, c.podsdown, c.pctdown, c.period, c.far, v, c.probe, c.sectors, c.seed⟩ : Conf)) (part1 (c := c) h)) (part2 (c := c) h)) (part3 (c := c) h)) (part4 (c := c) h)) (part5 (c := c) h)) (part6 (c := c) h)) (part7 (c := c) h)) (part8 (c := c) h)) (part9 (c := c) h)) (part10 (c := c) h)) (part11 (c := c) h)) (part12 (c := c) h)) (part13 (c := c) h)) (part14 (c := c) h)) (part15 (c := c) h)) (part16 (c := c) h)) (part17 (c := c) h)) (part18 (c := c) h)) (part19 (c := c) h)) hb]
  rfl
theorem one21 (v : Int) (hv : v = -1 ∨ v = 1048576) : (st22 (⟨c.n, c.f, c.m, c.quorum, c.fresh, c.grace, c.window, c.t0, c.t1, c.t2, c.t3, c.tol, c.min, c.max, c.calmup, c.calmdown, c.podsup, c.pctup, c.podsdown, c.pctdown, c.period, c.far, c.strikes, v, c.sectors, c.seed⟩ : Conf)).getD ⟨#[]⟩ = nm 20 := by
  have hb : within v 1 100 = false := within_out (by show v < 1 ∨ 100 < v; omega)
  rw [no21 (c := (⟨c.n, c.f, c.m, c.quorum, c.fresh, c.grace, c.window, c.t0, c.t1, c.t2, c.t3, c.tol, c.min, c.max, c.calmup, c.calmdown, c.podsup, c.pctup, c.podsdown, c.pctdown, c.period, c.far, c.strikes, v, c.sectors, c.seed⟩ : Conf)) (ok20 (ok19 (ok18 (ok17 (ok16 (ok15 (ok14 (ok13 (ok12 (ok11 (ok10 (ok9 (ok8 (ok7 (ok6 (ok5 (ok4 (ok3 (ok2 (ok1 (c := (⟨c.n, c.f, c.m, c.quorum, c.fresh, c.grace, c.window, c.t0, c.t1, c.t2, c.t3, c.tol, c.min, c.max, c.calmup, c.calmdown, c.podsup, c.pctup, c.podsdown, c.pctdown, c.period, c.far, c.strikes, v, c.sectors, c.seed⟩ : Conf)) (part1 (c := c) h)) (part2 (c := c) h)) (part3 (c := c) h)) (part4 (c := c) h)) (part5 (c := c) h)) (part6 (c := c) h)) (part7 (c := c) h)) (part8 (c := c) h)) (part9 (c := c) h)) (part10 (c := c) h)) (part11 (c := c) h)) (part12 (c := c) h)) (part13 (c := c) h)) (part14 (c := c) h)) (part15 (c := c) h)) (part16 (c := c) h)) (part17 (c := c) h)) (part18 (c := c) h)) (part19 (c := c) h)) (part20 (c := c) h)) hb]
  rfl
theorem one22 (v : Int) (hv : v = -1 ∨ v = 1048576) : (st22 (⟨c.n, c.f, c.m, c.quorum, c.fresh, c.grace, c.window, c.t0, c.t1, c.t2, c.t3, c.tol, c.min, c.max, c.calmup, c.calmdown, c.podsup, c.pctup, c.podsdown, c.pctdown, c.period, c.far, c.strikes, c.probe, v, c.seed⟩ : Conf)).getD ⟨#[]⟩ = nm 21 := by
  have hb : within v 64 4096 = false := within_out (by show v < 64 ∨ 4096 < v; omega)
  rw [no22 (c := (⟨c.n, c.f, c.m, c.quorum, c.fresh, c.grace, c.window, c.t0, c.t1, c.t2, c.t3, c.tol, c.min, c.max, c.calmup, c.calmdown, c.podsup, c.pctup, c.podsdown, c.pctdown, c.period, c.far, c.strikes, c.probe, v, c.seed⟩ : Conf)) (ok21 (ok20 (ok19 (ok18 (ok17 (ok16 (ok15 (ok14 (ok13 (ok12 (ok11 (ok10 (ok9 (ok8 (ok7 (ok6 (ok5 (ok4 (ok3 (ok2 (ok1 (c := (⟨c.n, c.f, c.m, c.quorum, c.fresh, c.grace, c.window, c.t0, c.t1, c.t2, c.t3, c.tol, c.min, c.max, c.calmup, c.calmdown, c.podsup, c.pctup, c.podsdown, c.pctdown, c.period, c.far, c.strikes, c.probe, v, c.seed⟩ : Conf)) (part1 (c := c) h)) (part2 (c := c) h)) (part3 (c := c) h)) (part4 (c := c) h)) (part5 (c := c) h)) (part6 (c := c) h)) (part7 (c := c) h)) (part8 (c := c) h)) (part9 (c := c) h)) (part10 (c := c) h)) (part11 (c := c) h)) (part12 (c := c) h)) (part13 (c := c) h)) (part14 (c := c) h)) (part15 (c := c) h)) (part16 (c := c) h)) (part17 (c := c) h)) (part18 (c := c) h)) (part19 (c := c) h)) (part20 (c := c) h)) (part21 (c := c) h)) hb]
  rfl
end
theorem nm_full (k : Nat) (h : k < 22) : (nm k).toList.isEmpty = false := by
  have h2 : k = 0 ∨ k = 1 ∨ k = 2 ∨ k = 3 ∨ k = 4 ∨ k = 5 ∨ k = 6 ∨ k = 7 ∨ k = 8 ∨ k = 9 ∨ k = 10 ∨ k = 11 ∨ k = 12 ∨ k = 13 ∨ k = 14 ∨ k = 15 ∨ k = 16 ∨ k = 17 ∨ k = 18 ∨ k = 19 ∨ k = 20 ∨ k = 21 := by omega
  rcases h2 with rfl | rfl | rfl | rfl | rfl | rfl | rfl | rfl | rfl | rfl | rfl | rfl | rfl | rfl | rfl | rfl | rfl | rfl | rfl | rfl | rfl | rfl <;> decide +kernel
end Go.Proofs.Ytabfeaifbjfdoaa
