/-
  A made configuration may be; with one part far beyond its bounds it is wrong by that part's name. No condition.
  '==' of two messages: part for part. No condition.
  What the laws of a gate begin with: a made configuration, a gate of it, a collector. No condition.
  What the arguments of a law read as, told to the walk: arrays of words, slices of bytes, of words, of slices of bytes. And: arguments read behind the call as they did before it, where nothing that was there has changed. No condition. Nothing of the program's functions is named here.
  The opening of five parameters and more at once. No condition.
-/
import Derived.Test.YtfhifnhnkgdnlaaGreatZ11
import Derived.Test.YtfhifnhnkgdnlaaGreatZ2
import Derived.Laws.StructEq
import Derived.Test.YtfhifnhnkgdnlaaGreatZ8
import Derived.Test.YtfhifnhnkgdnlaaGreatZ1
import Derived.ProofKit
import Derived.OpenShut
import Derived.ChangeOld
import Derived.Below
import Derived.Carry
section
set_option linter.unusedSectionVars false
set_option linter.unusedSimpArgs false
namespace Go.Proofs.YtfhifnhnkgdnlaaGreat
set_option maxRecDepth 100000
open Go.RowKit
theorem lo_is {f : Int} (h : 0 ≤ f ∧ f ≤ 2) : wrap64 (wrap64 (2 * f) + 1) = 2 * f + 1 := by
  rw [wrap_small (x := 2 * f) (by omega) (by omega), wrap_small (by omega) (by omega)]
theorem cwithin_in {x lo hi : Int} (h : lo ≤ x ∧ x ≤ hi) : cwithin x lo hi = true := by simp [cwithin, h]
theorem cwithin_out {x lo hi : Int} (h : x < lo ∨ hi < x) : cwithin x lo hi = false := by
  unfold cwithin
  by_cases h1 : lo ≤ x
  · rw [decide_eq_false (show ¬ x ≤ hi by omega), Bool.and_false]
  · rw [decide_eq_false h1, Bool.false_and]
section
variable {c : Conf} (h : Fine c)
include h
theorem part1 : cwithin c.n 1 16 = true := cwithin_in (by have := h.f; have := h.n; omega)
theorem part2 : cwithin c.f 0 (wrap64 ((wrap64 (c.n - 1)).tdiv 3)) = true := by rw [third (by have := h.f; have := h.n; omega) (by have := h.f; have := h.n; omega)]; have := h.f; have := h.n; simp; omega
theorem part3 : cwithin c.m 1 4 = true := cwithin_in (by have := h.m; omega)
theorem part4 : cwithin c.quorum (wrap64 (wrap64 (2 * c.f) + 1)) c.n = true := by rw [lo_is h.f]; exact cwithin_in h.quorum
theorem part5 : cwithin c.fresh 1 8 = true := cwithin_in (by have := h.fresh; omega)
theorem part6 : cwithin c.grace 1 100 = true := cwithin_in (by have := h.grace; omega)
theorem part7 : cwithin c.window 1 64 = true := cwithin_in (by have := h.window; omega)
theorem part8 : tgts c.m c.t0 c.t1 c.t2 c.t3 = true := by
  have h0 := h.t0
  have e0 : tgt c.m 0 c.t0 = true := by unfold tgt; rw [if_pos (by have := h.m; omega)]; exact cwithin_in (by omega)
  have e2 : tgt c.m 2 c.t2 = true := by unfold tgt; rw [if_neg (by have := h.m; omega), h.t2]; rfl
  have e3 : tgt c.m 3 c.t3 = true := by unfold tgt; rw [if_neg (by have := h.m; omega), h.t3]; rfl
  have e1 : tgt c.m 1 c.t1 = true := by
    rcases h.m with ⟨hm, h1⟩ | ⟨hm, h1, h2⟩
    · unfold tgt; rw [if_neg (by omega), h1]; rfl
    · unfold tgt; rw [if_pos (by omega)]; exact cwithin_in (by omega)
  unfold tgts
  rw [e0, e1, e2, e3]
  rfl
theorem part9 : cwithin c.tol 0 1000 = true := cwithin_in (by have := h.tol; omega)
theorem part10 : cwithin c.min 1 10000 = true := cwithin_in (by have := h.min; omega)
theorem part11 : cwithin c.max c.min 10000 = true := cwithin_in (by have := h.min; have := h.max; omega)
theorem part12 : cwithin c.calmup 0 60 = true := cwithin_in (by have := h.calmup; omega)
theorem part13 : cwithin c.calmdown 0 60 = true := cwithin_in (by have := h.calmdown; omega)
theorem part14 : cwithin c.podsup 1 1000 = true := cwithin_in (by have := h.podsup; omega)
theorem part15 : cwithin c.pctup 1 1000 = true := cwithin_in (by have := h.pctup; omega)
theorem part16 : cwithin c.podsdown 1 1000 = true := cwithin_in (by have := h.podsdown; omega)
theorem part17 : cwithin c.pctdown 1 100 = true := cwithin_in (by have := h.pctdown; omega)
theorem part18 : cwithin c.period 1 60 = true := cwithin_in (by have := h.period; omega)
theorem part19 : cwithin c.far 0 1099511627776 = true := cwithin_in (by have := h.far; omega)
theorem part20 : cwithin c.strikes 1 100 = true := cwithin_in (by have := h.strikes; omega)
theorem part21 : cwithin c.probe 1 100 = true := cwithin_in (by have := h.probe; omega)
theorem part22 : cwithin c.sectors 64 4096 = true := cwithin_in (by have := h.sectors; omega)
theorem fine_none : st22 c = none := ok22 (ok21 (ok20 (ok19 (ok18 (ok17 (ok16 (ok15 (ok14 (ok13 (ok12 (ok11 (ok10 (ok9 (ok8 (ok7 (ok6 (ok5 (ok4 (ok3 (ok2 (ok1 (c := c) (part1 h)) (part2 h)) (part3 h)) (part4 h)) (part5 h)) (part6 h)) (part7 h)) (part8 h)) (part9 h)) (part10 h)) (part11 h)) (part12 h)) (part13 h)) (part14 h)) (part15 h)) (part16 h)) (part17 h)) (part18 h)) (part19 h)) (part20 h)) (part21 h)) (part22 h)
theorem one1 (v : Int) (hv : v = -1 ∨ v = 1048576) : (st22 (⟨v, c.f, c.m, c.quorum, c.fresh, c.grace, c.window, c.t0, c.t1, c.t2, c.t3, c.tol, c.min, c.max, c.calmup, c.calmdown, c.podsup, c.pctup, c.podsdown, c.pctdown, c.period, c.far, c.strikes, c.probe, c.sectors, c.seed⟩ : Conf)).getD ⟨#[]⟩ = nm 0 := by
  have hb : cwithin v 1 16 = false := cwithin_out (by show v < 1 ∨ 16 < v; omega)
  rw [no1 (c := (⟨v, c.f, c.m, c.quorum, c.fresh, c.grace, c.window, c.t0, c.t1, c.t2, c.t3, c.tol, c.min, c.max, c.calmup, c.calmdown, c.podsup, c.pctup, c.podsdown, c.pctdown, c.period, c.far, c.strikes, c.probe, c.sectors, c.seed⟩ : Conf))  hb]
  rfl
theorem one2 (v : Int) (hv : v = -1 ∨ v = 1048576) : (st22 (⟨c.n, v, c.m, c.quorum, c.fresh, c.grace, c.window, c.t0, c.t1, c.t2, c.t3, c.tol, c.min, c.max, c.calmup, c.calmdown, c.podsup, c.pctup, c.podsdown, c.pctdown, c.period, c.far, c.strikes, c.probe, c.sectors, c.seed⟩ : Conf)).getD ⟨#[]⟩ = nm 1 := by
  have hb : cwithin v 0 (wrap64 ((wrap64 (c.n - 1)).tdiv 3)) = false := by
    show cwithin v 0 (wrap64 ((wrap64 (c.n - 1)).tdiv 3)) = false
    rw [third (by have := h.f; have := h.n; omega) (by have := h.f; have := h.n; omega)]
    have := h.f; have := h.n
    simp; omega
  rw [no2 (c := (⟨c.n, v, c.m, c.quorum, c.fresh, c.grace, c.window, c.t0, c.t1, c.t2, c.t3, c.tol, c.min, c.max, c.calmup, c.calmdown, c.podsup, c.pctup, c.podsdown, c.pctdown, c.period, c.far, c.strikes, c.probe, c.sectors, c.seed⟩ : Conf)) (ok1 (c := (⟨c.n, v, c.m, c.quorum, c.fresh, c.grace, c.window, c.t0, c.t1, c.t2, c.t3, c.tol, c.min, c.max, c.calmup, c.calmdown, c.podsup, c.pctup, c.podsdown, c.pctdown, c.period, c.far, c.strikes, c.probe, c.sectors, c.seed⟩ : Conf)) (part1 (c := c) h)) hb]
  rfl
theorem one3 (v : Int) (hv : v = -1 ∨ v = 1048576) : (st22 (⟨c.n, c.f, v, c.quorum, c.fresh, c.grace, c.window, c.t0, c.t1, c.t2, c.t3, c.tol, c.min, c.max, c.calmup, c.calmdown, c.podsup, c.pctup, c.podsdown, c.pctdown, c.period, c.far, c.strikes, c.probe, c.sectors, c.seed⟩ : Conf)).getD ⟨#[]⟩ = nm 2 := by
  have hb : cwithin v 1 4 = false := cwithin_out (by show v < 1 ∨ 4 < v; omega)
  rw [no3 (c := (⟨c.n, c.f, v, c.quorum, c.fresh, c.grace, c.window, c.t0, c.t1, c.t2, c.t3, c.tol, c.min, c.max, c.calmup, c.calmdown, c.podsup, c.pctup, c.podsdown, c.pctdown, c.period, c.far, c.strikes, c.probe, c.sectors, c.seed⟩ : Conf)) (ok2 (ok1 (c := (⟨c.n, c.f, v, c.quorum, c.fresh, c.grace, c.window, c.t0, c.t1, c.t2, c.t3, c.tol, c.min, c.max, c.calmup, c.calmdown, c.podsup, c.pctup, c.podsdown, c.pctdown, c.period, c.far, c.strikes, c.probe, c.sectors, c.seed⟩ : Conf)) (part1 (c := c) h)) (part2 (c := c) h)) hb]
  rfl
theorem one4 (v : Int) (hv : v = -1 ∨ v = 1048576) : (st22 (⟨c.n, c.f, c.m, v, c.fresh, c.grace, c.window, c.t0, c.t1, c.t2, c.t3, c.tol, c.min, c.max, c.calmup, c.calmdown, c.podsup, c.pctup, c.podsdown, c.pctdown, c.period, c.far, c.strikes, c.probe, c.sectors, c.seed⟩ : Conf)).getD ⟨#[]⟩ = nm 3 := by
  have hb : cwithin v (wrap64 (wrap64 (2 * c.f) + 1)) c.n = false := by
    show cwithin v (wrap64 (wrap64 (2 * c.f) + 1)) c.n = false
    rw [lo_is h.f]
    exact cwithin_out (by have := h.f; have := h.n; omega)
  rw [no4 (c := (⟨c.n, c.f, c.m, v, c.fresh, c.grace, c.window, c.t0, c.t1, c.t2, c.t3, c.tol, c.min, c.max, c.calmup, c.calmdown, c.podsup, c.pctup, c.podsdown, c.pctdown, c.period, c.far, c.strikes, c.probe, c.sectors, c.seed⟩ : Conf)) (ok3 (ok2 (ok1 (c := (⟨c.n, c.f, c.m, v, c.fresh, c.grace, c.window, c.t0, c.t1, c.t2, c.t3, c.tol, c.min, c.max, c.calmup, c.calmdown, c.podsup, c.pctup, c.podsdown, c.pctdown, c.period, c.far, c.strikes, c.probe, c.sectors, c.seed⟩ : Conf)) (part1 (c := c) h)) (part2 (c := c) h)) (part3 (c := c) h)) hb]
  rfl
theorem one5 (v : Int) (hv : v = -1 ∨ v = 1048576) : (st22 (⟨c.n, c.f, c.m, c.quorum, v, c.grace, c.window, c.t0, c.t1, c.t2, c.t3, c.tol, c.min, c.max, c.calmup, c.calmdown, c.podsup, c.pctup, c.podsdown, c.pctdown, c.period, c.far, c.strikes, c.probe, c.sectors, c.seed⟩ : Conf)).getD ⟨#[]⟩ = nm 4 := by
  have hb : cwithin v 1 8 = false := cwithin_out (by show v < 1 ∨ 8 < v; omega)
  rw [no5 (c := (⟨c.n, c.f, c.m, c.quorum, v, c.grace, c.window, c.t0, c.t1, c.t2, c.t3, c.tol, c.min, c.max, c.calmup, c.calmdown, c.podsup, c.pctup, c.podsdown, c.pctdown, c.period, c.far, c.strikes, c.probe, c.sectors, c.seed⟩ : Conf)) (ok4 (ok3 (ok2 (ok1 (c := (⟨c.n, c.f, c.m, c.quorum, v, c.grace, c.window, c.t0, c.t1, c.t2, c.t3, c.tol, c.min, c.max, c.calmup, c.calmdown, c.podsup, c.pctup, c.podsdown, c.pctdown, c.period, c.far, c.strikes, c.probe, c.sectors, c.seed⟩ : Conf)) (part1 (c := c) h)) (part2 (c := c) h)) (part3 (c := c) h)) (part4 (c := c) h)) hb]
  rfl
theorem one6 (v : Int) (hv : v = -1 ∨ v = 1048576) : (st22 (⟨c.n, c.f, c.m, c.quorum, c.fresh, v, c.window, c.t0, c.t1, c.t2, c.t3, c.tol, c.min, c.max, c.calmup, c.calmdown, c.podsup, c.pctup, c.podsdown, c.pctdown, c.period, c.far, c.strikes, c.probe, c.sectors, c.seed⟩ : Conf)).getD ⟨#[]⟩ = nm 5 := by
  have hb : cwithin v 1 100 = false := cwithin_out (by show v < 1 ∨ 100 < v; omega)
  rw [no6 (c := (⟨c.n, c.f, c.m, c.quorum, c.fresh, v, c.window, c.t0, c.t1, c.t2, c.t3, c.tol, c.min, c.max, c.calmup, c.calmdown, c.podsup, c.pctup, c.podsdown, c.pctdown, c.period, c.far, c.strikes, c.probe, c.sectors, c.seed⟩ : Conf)) (ok5 (ok4 (ok3 (ok2 (ok1 (c := (⟨c.n, c.f, c.m, c.quorum, c.fresh, v, c.window, c.t0, c.t1, c.t2, c.t3, c.tol, c.min, c.max, c.calmup, c.calmdown, c.podsup, c.pctup, c.podsdown, c.pctdown, c.period, c.far, c.strikes, c.probe, c.sectors, c.seed⟩ : Conf)) (part1 (c := c) h)) (part2 (c := c) h)) (part3 (c := c) h)) (part4 (c := c) h)) (part5 (c := c) h)) hb]
  rfl
theorem one7 (v : Int) (hv : v = -1 ∨ v = 1048576) : (st22 (⟨c.n, c.f, c.m, c.quorum, c.fresh, c.grace, v, c.t0, c.t1, c.t2, c.t3, c.tol, c.min, c.max, c.calmup, c.calmdown, c.podsup, c.pctup, c.podsdown, c.pctdown, c.period, c.far, c.strikes, c.probe, c.sectors, c.seed⟩ : Conf)).getD ⟨#[]⟩ = nm 6 := by
  have hb : cwithin v 1 64 = false := cwithin_out (by show v < 1 ∨ 64 < v; omega)
  rw [no7 (c := (⟨c.n, c.f, c.m, c.quorum, c.fresh, c.grace, v, c.t0, c.t1, c.t2, c.t3, c.tol, c.min, c.max, c.calmup, c.calmdown, c.podsup, c.pctup, c.podsdown, c.pctdown, c.period, c.far, c.strikes, c.probe, c.sectors, c.seed⟩ : Conf)) (ok6 (ok5 (ok4 (ok3 (ok2 (ok1 (c := (⟨c.n, c.f, c.m, c.quorum, c.fresh, c.grace, v, c.t0, c.t1, c.t2, c.t3, c.tol, c.min, c.max, c.calmup, c.calmdown, c.podsup, c.pctup, c.podsdown, c.pctdown, c.period, c.far, c.strikes, c.probe, c.sectors, c.seed⟩ : Conf)) (part1 (c := c) h)) (part2 (c := c) h)) (part3 (c := c) h)) (part4 (c := c) h)) (part5 (c := c) h)) (part6 (c := c) h)) hb]
  rfl
theorem one8 (v : Int) (hv : v = -1073741824 ∨ v = 1125899906842624) : (st22 (⟨c.n, c.f, c.m, c.quorum, c.fresh, c.grace, c.window, v, c.t1, c.t2, c.t3, c.tol, c.min, c.max, c.calmup, c.calmdown, c.podsup, c.pctup, c.podsdown, c.pctdown, c.period, c.far, c.strikes, c.probe, c.sectors, c.seed⟩ : Conf)).getD ⟨#[]⟩ = nm 7 := by
  have hb : tgts c.m v c.t1 c.t2 c.t3 = false := by
    have e0 : tgt c.m 0 v = false := by unfold tgt; rw [if_pos (by have := h.m; omega)]; exact cwithin_out (by omega)
    show tgts c.m v c.t1 c.t2 c.t3 = false
    unfold tgts
    rw [e0]
    rfl
  rw [no8 (c := (⟨c.n, c.f, c.m, c.quorum, c.fresh, c.grace, c.window, v, c.t1, c.t2, c.t3, c.tol, c.min, c.max, c.calmup, c.calmdown, c.podsup, c.pctup, c.podsdown, c.pctdown, c.period, c.far, c.strikes, c.probe, c.sectors, c.seed⟩ : Conf)) (ok7 (ok6 (ok5 (ok4 (ok3 (ok2 (ok1 (c := (⟨c.n, c.f, c.m, c.quorum, c.fresh, c.grace, c.window, v, c.t1, c.t2, c.t3, c.tol, c.min, c.max, c.calmup, c.calmdown, c.podsup, c.pctup, c.podsdown, c.pctdown, c.period, c.far, c.strikes, c.probe, c.sectors, c.seed⟩ : Conf)) (part1 (c := c) h)) (part2 (c := c) h)) (part3 (c := c) h)) (part4 (c := c) h)) (part5 (c := c) h)) (part6 (c := c) h)) (part7 (c := c) h)) hb]
  rfl
theorem one9 (v : Int) (hv : v = -1 ∨ v = 1048576) : (st22 (⟨c.n, c.f, c.m, c.quorum, c.fresh, c.grace, c.window, c.t0, c.t1, c.t2, c.t3, v, c.min, c.max, c.calmup, c.calmdown, c.podsup, c.pctup, c.podsdown, c.pctdown, c.period, c.far, c.strikes, c.probe, c.sectors, c.seed⟩ : Conf)).getD ⟨#[]⟩ = nm 8 := by
  have hb : cwithin v 0 1000 = false := cwithin_out (by show v < 0 ∨ 1000 < v; omega)
  rw [no9 (c := (⟨c.n, c.f, c.m, c.quorum, c.fresh, c.grace, c.window, c.t0, c.t1, c.t2, c.t3, v, c.min, c.max, c.calmup, c.calmdown, c.podsup, c.pctup, c.podsdown, c.pctdown, c.period, c.far, c.strikes, c.probe, c.sectors, c.seed⟩ : Conf)) (ok8 (ok7 (ok6 (ok5 (ok4 (ok3 (ok2 (ok1 (c := (⟨c.n, c.f, c.m, c.quorum, c.fresh, c.grace, c.window, c.t0, c.t1, c.t2, c.t3, v, c.min, c.max, c.calmup, c.calmdown, c.podsup, c.pctup, c.podsdown, c.pctdown, c.period, c.far, c.strikes, c.probe, c.sectors, c.seed⟩ : Conf)) (part1 (c := c) h)) (part2 (c := c) h)) (part3 (c := c) h)) (part4 (c := c) h)) (part5 (c := c) h)) (part6 (c := c) h)) (part7 (c := c) h)) (part8 (c := c) h)) hb]
  rfl
theorem one10 (v : Int) (hv : v = -1 ∨ v = 1048576) : (st22 (⟨c.n, c.f, c.m, c.quorum, c.fresh, c.grace, c.window, c.t0, c.t1, c.t2, c.t3, c.tol, v, c.max, c.calmup, c.calmdown, c.podsup, c.pctup, c.podsdown, c.pctdown, c.period, c.far, c.strikes, c.probe, c.sectors, c.seed⟩ : Conf)).getD ⟨#[]⟩ = nm 9 := by
  have hb : cwithin v 1 10000 = false := cwithin_out (by show v < 1 ∨ 10000 < v; omega)
  rw [no10 (c := (⟨c.n, c.f, c.m, c.quorum, c.fresh, c.grace, c.window, c.t0, c.t1, c.t2, c.t3, c.tol, v, c.max, c.calmup, c.calmdown, c.podsup, c.pctup, c.podsdown, c.pctdown, c.period, c.far, c.strikes, c.probe, c.sectors, c.seed⟩ : Conf)) (ok9 (ok8 (ok7 (ok6 (ok5 (ok4 (ok3 (ok2 (ok1 (c := (⟨c.n, c.f, c.m, c.quorum, c.fresh, c.grace, c.window, c.t0, c.t1, c.t2, c.t3, c.tol, v, c.max, c.calmup, c.calmdown, c.podsup, c.pctup, c.podsdown, c.pctdown, c.period, c.far, c.strikes, c.probe, c.sectors, c.seed⟩ : Conf)) (part1 (c := c) h)) (part2 (c := c) h)) (part3 (c := c) h)) (part4 (c := c) h)) (part5 (c := c) h)) (part6 (c := c) h)) (part7 (c := c) h)) (part8 (c := c) h)) (part9 (c := c) h)) hb]
  rfl
theorem one11 (v : Int) (hv : v = -1 ∨ v = 1048576) : (st22 (⟨c.n, c.f, c.m, c.quorum, c.fresh, c.grace, c.window, c.t0, c.t1, c.t2, c.t3, c.tol, c.min, v, c.calmup, c.calmdown, c.podsup, c.pctup, c.podsdown, c.pctdown, c.period, c.far, c.strikes, c.probe, c.sectors, c.seed⟩ : Conf)).getD ⟨#[]⟩ = nm 10 := by
  have hb : cwithin v c.min 10000 = false := cwithin_out (by have := h.min; show v < c.min ∨ 10000 < v; omega)
  rw [no11 (c := (⟨c.n, c.f, c.m, c.quorum, c.fresh, c.grace, c.window, c.t0, c.t1, c.t2, c.t3, c.tol, c.min, v, c.calmup, c.calmdown, c.podsup, c.pctup, c.podsdown, c.pctdown, c.period, c.far, c.strikes, c.probe, c.sectors, c.seed⟩ : Conf)) (ok10 (ok9 (ok8 (ok7 (ok6 (ok5 (ok4 (ok3 (ok2 (ok1 (c := (⟨c.n, c.f, c.m, c.quorum, c.fresh, c.grace, c.window, c.t0, c.t1, c.t2, c.t3, c.tol, c.min, v, c.calmup, c.calmdown, c.podsup, c.pctup, c.podsdown, c.pctdown, c.period, c.far, c.strikes, c.probe, c.sectors, c.seed⟩ : Conf)) (part1 (c := c) h)) (part2 (c := c) h)) (part3 (c := c) h)) (part4 (c := c) h)) (part5 (c := c) h)) (part6 (c := c) h)) (part7 (c := c) h)) (part8 (c := c) h)) (part9 (c := c) h)) (part10 (c := c) h)) hb]
  rfl
theorem one12 (v : Int) (hv : v = -1 ∨ v = 1048576) : (st22 (⟨c.n, c.f, c.m, c.quorum, c.fresh, c.grace, c.window, c.t0, c.t1, c.t2, c.t3, c.tol, c.min, c.max, v, c.calmdown, c.podsup, c.pctup, c.podsdown, c.pctdown, c.period, c.far, c.strikes, c.probe, c.sectors, c.seed⟩ : Conf)).getD ⟨#[]⟩ = nm 11 := by
  have hb : cwithin v 0 60 = false := cwithin_out (by show v < 0 ∨ 60 < v; omega)
  rw [no12 (c := (⟨c.n, c.f, c.m, c.quorum, c.fresh, c.grace, c.window, c.t0, c.t1, c.t2, c.t3, c.tol, c.min, c.max, v, c.calmdown, c.podsup, c.pctup, c.podsdown, c.pctdown, c.period, c.far, c.strikes, c.probe, c.sectors, c.seed⟩ : Conf)) (ok11 (ok10 (ok9 (ok8 (ok7 (ok6 (ok5 (ok4 (ok3 (ok2 (ok1 (c := (⟨c.n, c.f, c.m, c.quorum, c.fresh, c.grace, c.window, c.t0, c.t1, c.t2, c.t3, c.tol, c.min, c.max, v, c.calmdown, c.podsup, c.pctup, c.podsdown, c.pctdown, c.period, c.far, c.strikes, c.probe, c.sectors, c.seed⟩ : Conf)) (part1 (c := c) h)) (part2 (c := c) h)) (part3 (c := c) h)) (part4 (c := c) h)) (part5 (c := c) h)) (part6 (c := c) h)) (part7 (c := c) h)) (part8 (c := c) h)) (part9 (c := c) h)) (part10 (c := c) h)) (part11 (c := c) h)) hb]
  rfl
theorem one13 (v : Int) (hv : v = -1 ∨ v = 1048576) : (st22 (⟨c.n, c.f, c.m, c.quorum, c.fresh, c.grace, c.window, c.t0, c.t1, c.t2, c.t3, c.tol, c.min, c.max, c.calmup, v, c.podsup, c.pctup, c.podsdown, c.pctdown, c.period, c.far, c.strikes, c.probe, c.sectors, c.seed⟩ : Conf)).getD ⟨#[]⟩ = nm 12 := by
  have hb : cwithin v 0 60 = false := cwithin_out (by show v < 0 ∨ 60 < v; omega)
  rw [no13 (c := (⟨c.n, c.f, c.m, c.quorum, c.fresh, c.grace, c.window, c.t0, c.t1, c.t2, c.t3, c.tol, c.min, c.max, c.calmup, v, c.podsup, c.pctup, c.podsdown, c.pctdown, c.period, c.far, c.strikes, c.probe, c.sectors, c.seed⟩ : Conf)) (ok12 (ok11 (ok10 (ok9 (ok8 (ok7 (ok6 (ok5 (ok4 (ok3 (ok2 (ok1 (c := (⟨c.n, c.f, c.m, c.quorum, c.fresh, c.grace, c.window, c.t0, c.t1, c.t2, c.t3, c.tol, c.min, c.max, c.calmup, v, c.podsup, c.pctup, c.podsdown, c.pctdown, c.period, c.far, c.strikes, c.probe, c.sectors, c.seed⟩ : Conf)) (part1 (c := c) h)) (part2 (c := c) h)) (part3 (c := c) h)) (part4 (c := c) h)) (part5 (c := c) h)) (part6 (c := c) h)) (part7 (c := c) h)) (part8 (c := c) h)) (part9 (c := c) h)) (part10 (c := c) h)) (part11 (c := c) h)) (part12 (c := c) h)) hb]
  rfl
theorem one14 (v : Int) (hv : v = -1 ∨ v = 1048576) : (st22 (⟨c.n, c.f, c.m, c.quorum, c.fresh, c.grace, c.window, c.t0, c.t1, c.t2, c.t3, c.tol, c.min, c.max, c.calmup, c.calmdown, v, c.pctup, c.podsdown, c.pctdown, c.period, c.far, c.strikes, c.probe, c.sectors, c.seed⟩ : Conf)).getD ⟨#[]⟩ = nm 13 := by
  have hb : cwithin v 1 1000 = false := cwithin_out (by show v < 1 ∨ 1000 < v; omega)
  rw [no14 (c := (⟨c.n, c.f, c.m, c.quorum, c.fresh, c.grace, c.window, c.t0, c.t1, c.t2, c.t3, c.tol, c.min, c.max, c.calmup, c.calmdown, v, c.pctup, c.podsdown, c.pctdown, c.period, c.far, c.strikes, c.probe, c.sectors, c.seed⟩ : Conf)) (ok13 (ok12 (ok11 (ok10 (ok9 (ok8 (ok7 (ok6 (ok5 (ok4 (ok3 (ok2 (ok1 (c := (⟨c.n, c.f, c.m, c.quorum, c.fresh, c.grace, c.window, c.t0, c.t1, c.t2, c.t3, c.tol, c.min, c.max, c.calmup, c.calmdown, v, c.pctup, c.podsdown, c.pctdown, c.period, c.far, c.strikes, c.probe, c.sectors, c.seed⟩ : Conf)) (part1 (c := c) h)) (part2 (c := c) h)) (part3 (c := c) h)) (part4 (c := c) h)) (part5 (c := c) h)) (part6 (c := c) h)) (part7 (c := c) h)) (part8 (c := c) h)) (part9 (c := c) h)) (part10 (c := c) h)) (part11 (c := c) h)) (part12 (c := c) h)) (part13 (c := c) h)) hb]
  rfl
theorem one15 (v : Int) (hv : v = -1 ∨ v = 1048576) : (st22 (⟨c.n, c.f, c.m, c.quorum, c.fresh, c.grace, c.window, c.t0, c.t1, c.t2, c.t3, c.tol, c.min, c.max, c.calmup, c.calmdown, c.podsup, v, c.podsdown, c.pctdown, c.period, c.far, c.strikes, c.probe, c.sectors, c.seed⟩ : Conf)).getD ⟨#[]⟩ = nm 14 := by
  have hb : cwithin v 1 1000 = false := cwithin_out (by show v < 1 ∨ 1000 < v; omega)
  rw [no15 (c := (⟨c.n, c.f, c.m, c.quorum, c.fresh, c.grace, c.window, c.t0, c.t1, c.t2, c.t3, c.tol, c.min, c.max, c.calmup, c.calmdown, c.podsup, v, c.podsdown, c.pctdown, c.period, c.far, c.strikes, c.probe, c.sectors, c.seed⟩ : Conf)) (ok14 (ok13 (ok12 (ok11 (ok10 (ok9 (ok8 (ok7 (ok6 (ok5 (ok4 (ok3 (ok2 (ok1 (c := (⟨c.n, c.f, c.m, c.quorum, c.fresh, c.grace, c.window, c.t0, c.t1, c.t2, c.t3, c.tol, c.min, c.max, c.calmup, c.calmdown, c.podsup, v, c.podsdown, c.pctdown, c.period, c.far, c.strikes, c.probe, c.sectors, c.seed⟩ : Conf)) (part1 (c := c) h)) (part2 (c := c) h)) (part3 (c := c) h)) (part4 (c := c) h)) (part5 (c := c) h)) (part6 (c := c) h)) (part7 (c := c) h)) (part8 (c := c) h)) (part9 (c := c) h)) (part10 (c := c) h)) (part11 (c := c) h)) (part12 (c := c) h)) (part13 (c := c) h)) (part14 (c := c) h)) hb]
  rfl
theorem one16 (v : Int) (hv : v = -1 ∨ v = 1048576) : (st22 (⟨c.n, c.f, c.m, c.quorum, c.fresh, c.grace, c.window, c.t0, c.t1, c.t2, c.t3, c.tol, c.min, c.max, c.calmup, c.calmdown, c.podsup, c.pctup, v, c.pctdown, c.period, c.far, c.strikes, c.probe, c.sectors, c.seed⟩ : Conf)).getD ⟨#[]⟩ = nm 15 := by
  have hb : cwithin v 1 1000 = false := cwithin_out (by show v < 1 ∨ 1000 < v; omega)
  rw [no16 (c := (⟨c.n, c.f, c.m, c.quorum, c.fresh, c.grace, c.window, c.t0, c.t1, c.t2, c.t3, c.tol, c.min, c.max, c.calmup, c.calmdown, c.podsup, c.pctup, v, c.pctdown, c.period, c.far, c.strikes, c.probe, c.sectors, c.seed⟩ : Conf)) (ok15 (ok14 (ok13 (ok12 (ok11 (ok10 (ok9 (ok8 (ok7 (ok6 (ok5 (ok4 (ok3 (ok2 (ok1 (c := (⟨c.n, c.f, c.m, c.quorum, c.fresh, c.grace, c.window, c.t0, c.t1, c.t2, c.t3, c.tol, c.min, c.max, c.calmup, c.calmdown, c.podsup, c.pctup, v, c.pctdown, c.period, c.far, c.strikes, c.probe, c.sectors, c.seed⟩ : Conf)) (part1 (c := c) h)) (part2 (c := c) h)) (part3 (c := c) h)) (part4 (c := c) h)) (part5 (c := c) h)) (part6 (c := c) h)) (part7 (c := c) h)) (part8 (c := c) h)) (part9 (c := c) h)) (part10 (c := c) h)) (part11 (c := c) h)) (part12 (c := c) h)) (part13 (c := c) h)) (part14 (c := c) h)) (part15 (c := c) h)) hb]
  rfl
theorem one17 (v : Int) (hv : v = -1 ∨ v = 1048576) : (st22 (⟨c.n, c.f, c.m, c.quorum, c.fresh, c.grace, c.window, c.t0, c.t1, c.t2, c.t3, c.tol, c.min, c.max, c.calmup, c.calmdown, c.podsup, c.pctup, c.podsdown, v, c.period, c.far, c.strikes, c.probe, c.sectors, c.seed⟩ : Conf)).getD ⟨#[]⟩ = nm 16 := by
  have hb : cwithin v 1 100 = false := cwithin_out (by show v < 1 ∨ 100 < v; omega)
  rw [no17 (c := (⟨c.n, c.f, c.m, c.quorum, c.fresh, c.grace, c.window, c.t0, c.t1, c.t2, c.t3, c.tol, c.min, c.max, c.calmup, c.calmdown, c.podsup, c.pctup, c.podsdown, v, c.period, c.far, c.strikes, c.probe, c.sectors, c.seed⟩ : Conf)) (ok16 (ok15 (ok14 (ok13 (ok12 (ok11 (ok10 (ok9 (ok8 (ok7 (ok6 (ok5 (ok4 (ok3 (ok2 (ok1 (c := (⟨c.n, c.f, c.m, c.quorum, c.fresh, c.grace, c.window, c.t0, c.t1, c.t2, c.t3, c.tol, c.min, c.max, c.calmup, c.calmdown, c.podsup, c.pctup, c.podsdown, v, c.period, c.far, c.strikes, c.probe, c.sectors, c.seed⟩ : Conf)) (part1 (c := c) h)) (part2 (c := c) h)) (part3 (c := c) h)) (part4 (c := c) h)) (part5 (c := c) h)) (part6 (c := c) h)) (part7 (c := c) h)) (part8 (c := c) h)) (part9 (c := c) h)) (part10 (c := c) h)) (part11 (c := c) h)) (part12 (c := c) h)) (part13 (c := c) h)) (part14 (c := c) h)) (part15 (c := c) h)) (part16 (c := c) h)) hb]
  rfl
theorem one18 (v : Int) (hv : v = -1 ∨ v = 1048576) : (st22 (⟨c.n, c.f, c.m, c.quorum, c.fresh, c.grace, c.window, c.t0, c.t1, c.t2, c.t3, c.tol, c.min, c.max, c.calmup, c.calmdown, c.podsup, c.pctup, c.podsdown, c.pctdown, v, c.far, c.strikes, c.probe, c.sectors, c.seed⟩ : Conf)).getD ⟨#[]⟩ = nm 17 := by
  have hb : cwithin v 1 60 = false := cwithin_out (by show v < 1 ∨ 60 < v; omega)
  rw [no18 (c := (⟨c.n, c.f, c.m, c.quorum, c.fresh, c.grace, c.window, c.t0, c.t1, c.t2, c.t3, c.tol, c.min, c.max, c.calmup, c.calmdown, c.podsup, c.pctup, c.podsdown, c.pctdown, v, c.far, c.strikes, c.probe, c.sectors, c.seed⟩ : Conf)) (ok17 (ok16 (ok15 (ok14 (ok13 (ok12 (ok11 (ok10 (ok9 (ok8 (ok7 (ok6 (ok5 (ok4 (ok3 (ok2 (ok1 (c := (⟨c.n, c.f, c.m, c.quorum, c.fresh, c.grace, c.window, c.t0, c.t1, c.t2, c.t3, c.tol, c.min, c.max, c.calmup, c.calmdown, c.podsup, c.pctup, c.podsdown, c.pctdown, v, c.far, c.strikes, c.probe, c.sectors, c.seed⟩ : Conf)) (part1 (c := c) h)) (part2 (c := c) h)) (part3 (c := c) h)) (part4 (c := c) h)) (part5 (c := c) h)) (part6 (c := c) h)) (part7 (c := c) h)) (part8 (c := c) h)) (part9 (c := c) h)) (part10 (c := c) h)) (part11 (c := c) h)) (part12 (c := c) h)) (part13 (c := c) h)) (part14 (c := c) h)) (part15 (c := c) h)) (part16 (c := c) h)) (part17 (c := c) h)) hb]
  rfl
theorem one19 (v : Int) (hv : v = -1073741824 ∨ v = 1125899906842624) : (st22 (⟨c.n, c.f, c.m, c.quorum, c.fresh, c.grace, c.window, c.t0, c.t1, c.t2, c.t3, c.tol, c.min, c.max, c.calmup, c.calmdown, c.podsup, c.pctup, c.podsdown, c.pctdown, c.period, v, c.strikes, c.probe, c.sectors, c.seed⟩ : Conf)).getD ⟨#[]⟩ = nm 18 := by
  have hb : cwithin v 0 1099511627776 = false := cwithin_out (by show v < 0 ∨ 1099511627776 < v; omega)
  rw [no19 (c := (⟨c.n, c.f, c.m, c.quorum, c.fresh, c.grace, c.window, c.t0, c.t1, c.t2, c.t3, c.tol, c.min, c.max, c.calmup, c.calmdown, c.podsup, c.pctup, c.podsdown, c.pctdown, c.period, v, c.strikes, c.probe, c.sectors, c.seed⟩ : Conf)) (ok18 (ok17 (ok16 (ok15 (ok14 (ok13 (ok12 (ok11 (ok10 (ok9 (ok8 (ok7 (ok6 (ok5 (ok4 (ok3 (ok2 (ok1 (c := (⟨c.n, c.f, c.m, c.quorum, c.fresh, c.grace, c.window, c.t0, c.t1, c.t2, c.t3, c.tol, c.min, c.max, c.calmup, c.calmdown, c.podsup, c.pctup, c.podsdown, c.pctdown, c.period, v, c.strikes, c.probe, c.sectors, c.seed⟩ : Conf)) (part1 (c := c) h)) (part2 (c := c) h)) (part3 (c := c) h)) (part4 (c := c) h)) (part5 (c := c) h)) (part6 (c := c) h)) (part7 (c := c) h)) (part8 (c := c) h)) (part9 (c := c) h)) (part10 (c := c) h)) (part11 (c := c) h)) (part12 (c := c) h)) (part13 (c := c) h)) (part14 (c := c) h)) (part15 (c := c) h)) (part16 (c := c) h)) (part17 (c := c) h)) (part18 (c := c) h)) hb]
  rfl
theorem one20 (v : Int) (hv : v = -1 ∨ v = 1048576) : (st22 (⟨c.n, c.f, c.m, c.quorum, c.fresh, c.grace, c.window, c.t0, c.t1, c.t2, c.t3, c.tol, c.min, c.max, c.calmup, c.calmdown, c.podsup, c.pctup, c.podsdown, c.pctdown, c.period, c.far, v, c.probe, c.sectors, c.seed⟩ : Conf)).getD ⟨#[]⟩ = nm 19 := by
  have hb : cwithin v 1 100 = false := cwithin_out (by show v < 1 ∨ 100 < v; omega)
  rw [no20 (c := (⟨c.n, c.f, c.m, c.quorum, c.fresh, c.grace, c.window, c.t0, c.t1, c.t2, c.t3, c.tol, c.min, c.max, c.calmup, c.calmdown, c.podsup, c.pctup, c.podsdown, c.pctdown, c.period, c.far, v, c.probe, c.sectors, c.seed⟩ : Conf)) (ok19 (ok18 (ok17 (ok16 (ok15 (ok14 (ok13 (ok12 (ok11 (ok10 (ok9 (ok8 (ok7 (ok6 (ok5 (ok4 (ok3 (ok2 (ok1 (c := (⟨c.n, c.f, c.m, c.quorum, c.fresh, c.grace, c.window, c.t0, c.t1, c.t2, c.t3, c.tol, c.min, c.max, c.calmup, c.calmdown, c.podsup, c.pctup, c.podsdown, c.pctdown, c.period, c.far, v, c.probe, c.sectors, c.seed⟩ : Conf)) (part1 (c := c) h)) (part2 (c := c) h)) (part3 (c := c) h)) (part4 (c := c) h)) (part5 (c := c) h)) (part6 (c := c) h)) (part7 (c := c) h)) (part8 (c := c) h)) (part9 (c := c) h)) (part10 (c := c) h)) (part11 (c := c) h)) (part12 (c := c) h)) (part13 (c := c) h)) (part14 (c := c) h)) (part15 (c := c) h)) (part16 (c := c) h)) (part17 (c := c) h)) (part18 (c := c) h)) (part19 (c := c) h)) hb]
  rfl
theorem one21 (v : Int) (hv : v = -1 ∨ v = 1048576) : (st22 (⟨c.n, c.f, c.m, c.quorum, c.fresh, c.grace, c.window, c.t0, c.t1, c.t2, c.t3, c.tol, c.min, c.max, c.calmup, c.calmdown, c.podsup, c.pctup, c.podsdown, c.pctdown, c.period, c.far, c.strikes, v, c.sectors, c.seed⟩ : Conf)).getD ⟨#[]⟩ = nm 20 := by
  have hb : cwithin v 1 100 = false := cwithin_out (by show v < 1 ∨ 100 < v; omega)
  rw [no21 (c := (⟨c.n, c.f, c.m, c.quorum, c.fresh, c.grace, c.window, c.t0, c.t1, c.t2, c.t3, c.tol, c.min, c.max, c.calmup, c.calmdown, c.podsup, c.pctup, c.podsdown, c.pctdown, c.period, c.far, c.strikes, v, c.sectors, c.seed⟩ : Conf)) (ok20 (ok19 (ok18 (ok17 (ok16 (ok15 (ok14 (ok13 (ok12 (ok11 (ok10 (ok9 (ok8 (ok7 (ok6 (ok5 (ok4 (ok3 (ok2 (ok1 (c := (⟨c.n, c.f, c.m, c.quorum, c.fresh, c.grace, c.window, c.t0, c.t1, c.t2, c.t3, c.tol, c.min, c.max, c.calmup, c.calmdown, c.podsup, c.pctup, c.podsdown, c.pctdown, c.period, c.far, c.strikes, v, c.sectors, c.seed⟩ : Conf)) (part1 (c := c) h)) (part2 (c := c) h)) (part3 (c := c) h)) (part4 (c := c) h)) (part5 (c := c) h)) (part6 (c := c) h)) (part7 (c := c) h)) (part8 (c := c) h)) (part9 (c := c) h)) (part10 (c := c) h)) (part11 (c := c) h)) (part12 (c := c) h)) (part13 (c := c) h)) (part14 (c := c) h)) (part15 (c := c) h)) (part16 (c := c) h)) (part17 (c := c) h)) (part18 (c := c) h)) (part19 (c := c) h)) (part20 (c := c) h)) hb]
  rfl
theorem one22 (v : Int) (hv : v = -1 ∨ v = 1048576) : (st22 (⟨c.n, c.f, c.m, c.quorum, c.fresh, c.grace, c.window, c.t0, c.t1, c.t2, c.t3, c.tol, c.min, c.max, c.calmup, c.calmdown, c.podsup, c.pctup, c.podsdown, c.pctdown, c.period, c.far, c.strikes, c.probe, v, c.seed⟩ : Conf)).getD ⟨#[]⟩ = nm 21 := by
  have hb : cwithin v 64 4096 = false := cwithin_out (by show v < 64 ∨ 4096 < v; omega)
  rw [no22 (c := (⟨c.n, c.f, c.m, c.quorum, c.fresh, c.grace, c.window, c.t0, c.t1, c.t2, c.t3, c.tol, c.min, c.max, c.calmup, c.calmdown, c.podsup, c.pctup, c.podsdown, c.pctdown, c.period, c.far, c.strikes, c.probe, v, c.seed⟩ : Conf)) (ok21 (ok20 (ok19 (ok18 (ok17 (ok16 (ok15 (ok14 (ok13 (ok12 (ok11 (ok10 (ok9 (ok8 (ok7 (ok6 (ok5 (ok4 (ok3 (ok2 (ok1 (c := (⟨c.n, c.f, c.m, c.quorum, c.fresh, c.grace, c.window, c.t0, c.t1, c.t2, c.t3, c.tol, c.min, c.max, c.calmup, c.calmdown, c.podsup, c.pctup, c.podsdown, c.pctdown, c.period, c.far, c.strikes, c.probe, v, c.seed⟩ : Conf)) (part1 (c := c) h)) (part2 (c := c) h)) (part3 (c := c) h)) (part4 (c := c) h)) (part5 (c := c) h)) (part6 (c := c) h)) (part7 (c := c) h)) (part8 (c := c) h)) (part9 (c := c) h)) (part10 (c := c) h)) (part11 (c := c) h)) (part12 (c := c) h)) (part13 (c := c) h)) (part14 (c := c) h)) (part15 (c := c) h)) (part16 (c := c) h)) (part17 (c := c) h)) (part18 (c := c) h)) (part19 (c := c) h)) (part20 (c := c) h)) (part21 (c := c) h)) hb]
  rfl
end
theorem nm_full (k : Nat) (h : k < 22) : (nm k).toList.isEmpty = false := by
  have h2 : k = 0 ∨ k = 1 ∨ k = 2 ∨ k = 3 ∨ k = 4 ∨ k = 5 ∨ k = 6 ∨ k = 7 ∨ k = 8 ∨ k = 9 ∨ k = 10 ∨ k = 11 ∨ k = 12 ∨ k = 13 ∨ k = 14 ∨ k = 15 ∨ k = 16 ∨ k = 17 ∨ k = 18 ∨ k = 19 ∨ k = 20 ∨ k = 21 := by omega
  rcases h2 with rfl | rfl | rfl | rfl | rfl | rfl | rfl | rfl | rfl | rfl | rfl | rfl | rfl | rfl | rfl | rfl | rfl | rfl | rfl | rfl | rfl | rfl <;> decide +kernel
end Go.Proofs.YtfhifnhnkgdnlaaGreat
end
section
set_option linter.unusedSimpArgs false
namespace Go.Proofs.YtfhifnhnkgdnlaaGreat
set_option maxRecDepth 100000
open Go.RowKit

def msgEq (a b : Mg) : Bool := a.kind == b.kind && a.who == b.who && a.gen == b.gen && a.seq == b.seq && a.epoch == b.epoch && a.value == b.value && a.metric == b.metric
theorem msgEq_iff (a b : Mg) : msgEq a b = true ↔ a = b := by
  cases a; cases b; simp [msgEq, and_assoc]
theorem msgEq_self (a : Mg) : msgEq a a = true := (msgEq_iff a a).2 rfl
theorem msgEq_ne {a b : Mg} (h : a ≠ b) : msgEq a b = false := by
  cases e : msgEq a b
  · rfl
  · exact absurd ((msgEq_iff a b).1 e) h
set_option maxHeartbeats 1600000 in
theorem msg_equal (a b : Mg) (w : World) : (Op.equalIn 10000 39 (mg a) (mg b)).run Tryz.prog w = .ok (msgEq a b) w := by
  unfold msgEq
  rw [run_equalIn_agg w 9999 39 a.cells b.cells (by kernel_rfl) (by kernel_rfl)]
  simp [go_sem]
  (repeat' split) <;> simp [*]
end Go.Proofs.YtfhifnhnkgdnlaaGreat
end
section
set_option linter.unusedSimpArgs false
set_option linter.unusedVariables false
namespace Go.Proofs.YtfhifnhnkgdnlaaGreat
set_option maxRecDepth 100000
open Go.RowKit

@[reducible] def confObj (c : Conf) : Obj := .cells c.cells 27
def sdOf (c : Conf) : BitVec 64 := BitVec.ofInt 64 c.seed
def gOf (c : Conf) : Gt := .new (sdOf c) c.n.toNat c.grace.toNat c.window.toNat c.m.toNat c.fresh.toNat
theorem seed_q {c : Conf} (h : 0 ≤ c.seed ∧ c.seed < 100000) : c.seed = q (sdOf c) := by
  unfold sdOf q
  rw [BitVec.toNat_ofInt]
  have := h.1; have := h.2
  omega
theorem gnew_fine {c : Conf} (h : Fine c) (w : World) : Calls Tryz.prog 10 #[cf c] w (MadeG w (gOf c)) := by
  have hn := h.n; have hf := h.f; have hg := h.grace; have hw := h.window; have hm := h.m; have hr := h.fresh
  exact gnew_ok c (sdOf c) c.n.toNat c.grace.toNat c.window.toNat c.m.toNat c.fresh.toNat (fine_none h) (by omega) (by omega) (by omega) (by omega) (by omega) (seed_q h.seed)
    (by omega) (by omega) (by omega) (by omega) (by omega) (by omega) (by omega) (by omega) (by omega) (by omega) w
theorem snew_fine {c : Conf} (h : Fine c) (who : Int) (h0 : 0 ≤ who) (h1 : who ≤ 15) (w : World) : Calls Tryz.prog 30 #[.int .u64 c.seed, .int .i64 who] w (MadeS w (.new (sdOf c) who)) := by
  rw [seed_q h.seed]; exact snew_ok (sdOf c) who h0 h1 w
theorem kv_conf {w0 w w1 w2 : World} {F : List Nat} {B : GBl} {G : Gt} {b x : Nat} {s : Sl} {c : Conf} (K : GtAt w2 F B G) (H : SlAt 145 w2 b s) (hlo : ∀ y ∈ F, w0.heap.size ≤ y) (hb : w0.heap.size ≤ b) (hbF : b ∉ F) (hx : x ∉ F) (hg : w0.grownBy w2 none) (hc : w2.heap[x]? = some (confObj c)) :
    Kv w0 F B G b s [(x, confObj c)] [] w2 :=
  ⟨K, H, hlo, hb, hbF, hg, fun y hy => by rcases List.mem_singleton.1 hy with rfl; exact hc, fun y hy => by rcases List.mem_singleton.1 hy with rfl; exact ⟨obj_ne hc H.top (by decide), hx⟩, (fun _ h => by cases h), (fun _ h => by cases h)⟩
/-- a gate as it is made checks a first sample -/
theorem gOf_r (c : Conf) : (gOf c).r = .new (sdOf c) c.n.toNat c.grace.toNat := rfl
theorem gOf_key (c : Conf) (m : Mg) (hg : sealedOf m = 0) (hw : 0 ≤ m.who) : (gOf c).key m = ofOf (sdOf c) m.who 0 := by
  show ofOf (sdOf c) ((m.who.toNat : Nat) : Int) (sealedOf m) = _
  rw [hg, Int.toNat_of_nonneg hw]
theorem gOf_rep (c : Conf) (m : Mg) : (gOf c).rep m = Rp.new c.window.toNat := by unfold Gt.rep; split <;> rfl
theorem gOf_first (c : Conf) (m : Mg) (hq : m.seq = 1) : ((gOf c).rep m).may m.seq = true := by
  rw [gOf_rep, hq]; exact decide_eq_true ⟨by decide, by decide, .inl (by show (0 : Int) < 1; decide)⟩
theorem gOf_may (c : Conf) (m : Mg) (now : Int) (hk : m.kind ≠ 2) (hg : m.gen = 0) : (gOf c).may m now = true := by
  refine decide_eq_true ⟨fun e => absurd e hk, ?_⟩
  have : sealedOf m = 0 := by unfold sealedOf; rw [if_neg hk, hg]
  rw [this]
  exact ⟨Int.le_refl _, .inl rfl⟩
/-- a first sample: who, of which epoch, of which value -/
@[reducible] def frst (who e v : Int) : Mg := ⟨1, who, 0, 1, e, v, 0⟩
theorem frst_may {who e v : Int} (w0 : 0 ≤ who) (w1 : who ≤ 15) (e0 : 0 ≤ e) (e1 : e ≤ 1099511627776) (v0 : 0 ≤ v) (v1 : v ≤ 1099511627776) : mayOf (frst who e v) = true := decide_eq_true (by unfold May; dsimp only; omega)
/-- a gate of collectors n, fresh f, metrics m, whatever the rest -/
theorem first_of (sd : BitVec 64) (n grace win met fresh : Nat) (hm : 1 ≤ met) (who e v t : Int) (o : Int → Bool) (w0 : 0 ≤ who) (w1 : who < (n : Int)) (w2 : who ≤ 15) (e0 : 0 ≤ e) (e1 : e ≤ 1099511627776) (v0 : 0 ≤ v) (v1 : v ≤ 1099511627776) :
    (Gt.new sd n grace win met fresh).check (sealOf (ofOf sd who 0).a (ofOf sd who 0).b (frst who e v)) t o = if o who = true then (zeroM, 3) else if t ≤ e ∧ e < t + (fresh : Int) then (frst who e v, 0) else (zeroM, 7) := by
  have hM := frst_may w0 w2 e0 e1 v0 v1
  have hk : (Gt.new sd n grace win met fresh).key (frst who e v) = ofOf sd who 0 := by
    show ofOf sd ((who.toNat : Nat) : Int) 0 = _
    rw [Int.toNat_of_nonneg w0]
  have hin : (Gt.new sd n grace win met fresh).in who = true := decide_eq_true ⟨w0, w1⟩
  have hmay : (Gt.new sd n grace win met fresh).may (frst who e v) t = true := decide_eq_true ⟨fun h => absurd (show (1 : Int) = 2 from h) (by decide), Int.le_refl _, .inl rfl⟩
  have hrep : ((Gt.new sd n grace win met fresh).rep (frst who e v)) = Rp.new win := by unfold Gt.rep; split <;> rfl
  have hq : (Rp.new win).may 1 = true := decide_eq_true ⟨by decide, by decide, .inl (by show (0 : Int) < 1; decide)⟩
  rw [check_own _ _ t o _ hk hM]
  by_cases ho : o who = true
  · rw [if_pos (Or.inr ho), if_pos ho]
  · have ho' : o who = false := by simpa using ho
    rw [if_neg (by show ¬ ((Gt.new sd n grace win met fresh).in who = false ∨ o who = true); rw [hin, ho']; simp), if_neg (by rw [hmay]; simp), hrep, if_neg (by show ¬ ((Rp.new win).may 1 = false); rw [hq]; simp), if_neg ho]
    by_cases ht : t ≤ e ∧ e < t + (fresh : Int)
    · rw [if_pos ht, if_neg (by show ¬ (decide (t ≤ e ∧ e < t + (fresh : Int)) = false); simp [ht]), if_neg (by show ¬ ((met : Int) ≤ 0); omega)]
    · rw [if_neg ht, if_pos (by show decide (t ≤ e ∧ e < t + (fresh : Int)) = false; exact decide_eq_false ht)]
theorem first_samp {sd : BitVec 64} {who e v : Int} (w0 : 0 ≤ who) (w1 : who ≤ 15) (e0 : 0 ≤ e) (e1 : e ≤ 1099511627776) (v0 : 0 ≤ v) (v1 : v ≤ 1099511627776) {w : World} {b : Nat} (H : SlAt 145 w b (.new sd who)) :
    Calls Tryz.prog 31 #[.pointer (some ⟨b, 0, none⟩), .int .i64 0, .int .i64 e, .int .i64 v] w (LeavesS w b (sealOf (ofOf sd who 0).a (ofOf sd who 0).b (frst who e v)) 0 ⟨sd, who, 0, 1⟩) :=
  ssample_yes (s := Sl.new sd who) 0 e v (show mayOf (frst who e v) = true from frst_may w0 w1 e0 e1 v0 v1) w H
end Go.Proofs.YtfhifnhnkgdnlaaGreat
end
section
namespace Go.Proofs.YtfhifnhnkgdnlaaGreat
set_option maxRecDepth 100000
open Go.ChangeShapes Go.WideShapes Go.ChangeAt Go.RowKit

theorem two_of {α : Type} {xs : List α} (h : xs.length = 2) : ∃ a b, xs = [a, b] := by
  match xs, h with
  | [a, b], _ => exact ⟨a, b, rfl⟩
theorem four_of {α : Type} {xs : List α} (h : xs.length = 4) : ∃ a b c d, xs = [a, b, c, d] := by
  match xs, h with
  | [a, b, c, d], _ => exact ⟨a, b, c, d, rfl⟩

section
variable {H : Type} {enc : TypeId × Value → H} {w : World} {base : Nat} {d : DataW H} {ps : List MemPlace} {v : Value} {t e : TypeId}

/-- an array of 64-bit words, by value -/
theorem open_words {n : Nat} (ht : Tryz.prog.underlying t = some (.array n e)) (he : Tryz.prog.underlying e = some (.int .u64)) (hc : Tryz.prog.cellsOf e = 1) (hn : Tryz.prog.cellsOf t = n)
    (hval : Value.okWide Tryz.prog w .any base t v) (h : DataW.Trod enc Tryz.prog w 0 (fun _ => true) true t v d ps) :
    ∃ xs : List (BitVec 64), xs.length = n ∧ v = .agg (xs.map fun x => Value.int .u64 (q x)).toArray := by
  simp only [Value.okWide, ht] at hval
  obtain ⟨cs, rfl, _, _⟩ := hval
  obtain ⟨fuel, hf⟩ := h
  obtain ⟨xs, m, _, _, hl, _, hx⟩ := DataW.trod_array ht hf
  have hcs : (Value.agg cs).cells = cs := rfl
  rw [hcs] at hl hx
  rw [hn] at hl
  have key : ∀ i, (hi : i < cs.toList.length) → ∃ x : BitVec 64, cs.toList[i] = Value.int .u64 (q x) := by
    intro i hi
    have h1 := hx i (by omega)
    rw [hc, Nat.mul_one] at h1
    have h2 : (cs.toList.drop i).take 1 = [cs.toList[i]] := by
      rw [List.drop_eq_getElem_cons hi]; rfl
    rw [h2, List.getElem?_eq_getElem (by omega)] at h1
    obtain ⟨z, hz, _, hwf⟩ := DataW.trod_int he h1
    obtain ⟨x, rfl⟩ := q_of hwf
    refine ⟨x, by simpa using hz⟩
  have all : ∀ (l : List Value), (∀ i, (hi : i < l.length) → ∃ x : BitVec 64, l[i] = Value.int .u64 (q x)) → ∃ xs : List (BitVec 64), l = xs.map fun x => Value.int .u64 (q x) := by
    intro l
    induction l with
    | nil => intro _; exact ⟨[], rfl⟩
    | cons a l ih =>
      intro hh
      obtain ⟨x, hx⟩ := hh 0 (by simp)
      obtain ⟨xs, hxs⟩ := ih (fun i hi => hh (i + 1) (by simpa using hi))
      exact ⟨x :: xs, by rw [List.map_cons, ← hxs]; simpa using hx⟩
  obtain ⟨ys, hys⟩ := all cs.toList key
  refine ⟨ys, by rw [← hl, hys]; simp, ?_⟩
  rw [← hys]
/-- the bytes that a slice's cells hold, out of what the form's reading of integers gives -/
theorem bytes_of {a : Addr} {len cap : Nat} {zs : List Int} (hl : len ≤ cap) (hm : cap ≤ maxLen) (hz : zs.length = cap) (hc : ∀ i, i < zs.length → w.cell? (a.add i) = some (.int .u8 (zs.getD i 0))) (hw : ∀ n ∈ zs, (Lit.int .u8 n).wf = true) :
    ∃ l : List UInt8, l.length = len ∧ BytesAt w (.slice (some a) len cap) l := by
  refine ⟨(zs.take len).map fun n => UInt8.ofNat n.toNat, by simp; omega, .inr ⟨a, cap, by simp; omega, by simp; omega, hm, fun i hi => ?_⟩⟩
  simp at hi
  have hi2 : i < zs.length := by omega
  rw [hc i hi2]
  have hwf := hw zs[i] (List.getElem_mem hi2)
  have hb : 0 ≤ zs[i] ∧ zs[i] ≤ 255 := by simpa [Lit.wf, IntKind.min, IntKind.max, IntKind.signed, IntKind.bits] using hwf
  have e : zs.getD i 0 = zs[i] := by simp [hi2]
  rw [e]
  simp
  omega
/-- a slice of bytes -/
theorem open_bytes (ht : Tryz.prog.underlying t = some (.slice e)) (he : Tryz.prog.underlying e = some (.int .u8)) (hc : Tryz.prog.cellsOf e = 1)
    (hval : Value.okWide Tryz.prog w .any base t v) (h : DataW.Trod enc Tryz.prog w 0 (fun _ => true) true t v d ps) :
    ∃ l : List UInt8, ∃ p c, v = .slice p l.length c ∧ BytesAt w v l := by
  obtain ⟨a0, len, cap, rfl⟩ := okWide_slice ht hval
  obtain ⟨fuel, hf⟩ := h
  rcases open_ints ht he hc hf with ⟨hcs, _⟩ | ⟨a, len', cap', zs, hcs, _, hl, hm, hz, _, hcell, hwz⟩
  · simp [Value.cells] at hcs
    obtain ⟨rfl, rfl, rfl⟩ := hcs
    exact ⟨[], none, 0, rfl, .inl ⟨rfl, rfl⟩⟩
  · simp [Value.cells] at hcs
    obtain ⟨rfl, rfl, rfl⟩ := hcs
    obtain ⟨l, hl1, hl2⟩ := bytes_of hl hm (by simpa using hz) hcell hwz
    exact ⟨l, _, _, by rw [hl1], hl2⟩
end
end Go.Proofs.YtfhifnhnkgdnlaaGreat
end
section
namespace Go.Proofs.YtfhifnhnkgdnlaaGreat
set_option maxRecDepth 100000
open Go.ChangeShapes Go.WideShapes Go.ChangeAt Go.RowKit
section
variable {P : Program} {H : Type} {enc : TypeId × Value → H} {w : World} {base : Nat} {spare : Nat → Bool} {held : Bool}
theorem trodAll_five {t0 t1 t2 t3 t4 : TypeId} {args : Array Value} {ds : List (DataW H)} {ps : List MemPlace} (h : DataW.TrodAll enc P w base spare held [t0, t1, t2, t3, t4] args.toList ds ps) :
    ∃ v0 v1 v2 v3 v4 d0 d1 d2 d3 d4 p0 p1 p2 p3 p4, args = #[v0, v1, v2, v3, v4] ∧ ds = [d0, d1, d2, d3, d4] ∧ ps = p0 ++ p1 ++ p2 ++ p3 ++ p4 ∧ DataW.Trod enc P w base spare held t0 v0 d0 p0 ∧ DataW.Trod enc P w base spare held t1 v1 d1 p1 ∧ DataW.Trod enc P w base spare held t2 v2 d2 p2 ∧ DataW.Trod enc P w base spare held t3 v3 d3 p3 ∧ DataW.Trod enc P w base spare held t4 v4 d4 p4 := by
  obtain ⟨v0, vs0, d0, ds0, p0, q0, hargs, rfl, rfl, h0, k0⟩ := trodAll_cons h
  obtain ⟨v1, vs1, d1, ds1, p1, q1, rfl, rfl, rfl, h1, k1⟩ := trodAll_cons k0
  obtain ⟨v2, vs2, d2, ds2, p2, q2, rfl, rfl, rfl, h2, k2⟩ := trodAll_cons k1
  obtain ⟨v3, vs3, d3, ds3, p3, q3, rfl, rfl, rfl, h3, k3⟩ := trodAll_cons k2
  obtain ⟨v4, vs4, d4, ds4, p4, q4, rfl, rfl, rfl, h4, k4⟩ := trodAll_cons k3
  obtain ⟨rfl, rfl, rfl⟩ := trodAll_nil k4
  exact ⟨v0, v1, v2, v3, v4, d0, d1, d2, d3, d4, p0, p1, p2, p3, p4, by cases args; simp_all, rfl, by simp, h0, h1, h2, h3, h4⟩
theorem trodAll_six {t0 t1 t2 t3 t4 t5 : TypeId} {args : Array Value} {ds : List (DataW H)} {ps : List MemPlace} (h : DataW.TrodAll enc P w base spare held [t0, t1, t2, t3, t4, t5] args.toList ds ps) :
    ∃ v0 v1 v2 v3 v4 v5 d0 d1 d2 d3 d4 d5 p0 p1 p2 p3 p4 p5, args = #[v0, v1, v2, v3, v4, v5] ∧ ds = [d0, d1, d2, d3, d4, d5] ∧ ps = p0 ++ p1 ++ p2 ++ p3 ++ p4 ++ p5 ∧ DataW.Trod enc P w base spare held t0 v0 d0 p0 ∧ DataW.Trod enc P w base spare held t1 v1 d1 p1 ∧ DataW.Trod enc P w base spare held t2 v2 d2 p2 ∧ DataW.Trod enc P w base spare held t3 v3 d3 p3 ∧ DataW.Trod enc P w base spare held t4 v4 d4 p4 ∧ DataW.Trod enc P w base spare held t5 v5 d5 p5 := by
  obtain ⟨v0, vs0, d0, ds0, p0, q0, hargs, rfl, rfl, h0, k0⟩ := trodAll_cons h
  obtain ⟨v1, vs1, d1, ds1, p1, q1, rfl, rfl, rfl, h1, k1⟩ := trodAll_cons k0
  obtain ⟨v2, vs2, d2, ds2, p2, q2, rfl, rfl, rfl, h2, k2⟩ := trodAll_cons k1
  obtain ⟨v3, vs3, d3, ds3, p3, q3, rfl, rfl, rfl, h3, k3⟩ := trodAll_cons k2
  obtain ⟨v4, vs4, d4, ds4, p4, q4, rfl, rfl, rfl, h4, k4⟩ := trodAll_cons k3
  obtain ⟨v5, vs5, d5, ds5, p5, q5, rfl, rfl, rfl, h5, k5⟩ := trodAll_cons k4
  obtain ⟨rfl, rfl, rfl⟩ := trodAll_nil k5
  exact ⟨v0, v1, v2, v3, v4, v5, d0, d1, d2, d3, d4, d5, p0, p1, p2, p3, p4, p5, by cases args; simp_all, rfl, by simp, h0, h1, h2, h3, h4, h5⟩
end
end Go.Proofs.YtfhifnhnkgdnlaaGreat
end
