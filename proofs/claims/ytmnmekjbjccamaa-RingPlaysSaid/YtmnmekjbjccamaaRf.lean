/-
  Contracts for the document's own rings: what one is; Rotate and Set. The condition of a call: the ring lies there.
-/
import Derived.Test.YtmnmekjbjccamaaRgD
import Derived.Deep.RegionHeld3
set_option linter.unusedSimpArgs false
set_option linter.unusedVariables false
namespace Go.Proofs.Ytmnmekjbjccamaa
set_option maxRecDepth 100000
open Go.RowKit

/-- a ring of the document's -/
structure RfAt (w : World) (b g s : Nat) (r : Rg) : Prop where
  top : w.heap[b]? = some (.cells #[.int .u64 (q r.seed), .int .i64 (r.grace : Int), .slice (some ⟨g, 0, none⟩) r.n r.n, .slice (some ⟨s, 0, none⟩) r.n r.n] 49)
  gens : ∃ cs : Array Value, w.heap[g]? = some (.cells cs 3) ∧ ∀ i, i < r.n → cs[i]? = some (.int .i64 (r.gen i))
  sinces : ∃ cs : Array Value, w.heap[s]? = some (.cells cs 2) ∧ ∀ i, i < r.n → cs[i]? = some (.int .i64 (r.since i))
  bg : b ≠ g
  bs : b ≠ s
  gs : g ≠ s
  ok : r.Ok
section
variable {w w' : World} {b g s : Nat} {r : Rg} {F : List Nat}
theorem RfAt.chg (H : RfAt w b g s r) (hc : Chg F w w') (hb : b ∉ F) (hg : g ∉ F) (hs : s ∉ F) : RfAt w' b g s r :=
  ⟨hc.at H.top hb, by obtain ⟨cs, h1, h2⟩ := H.gens; exact ⟨cs, hc.at h1 hg, h2⟩, by obtain ⟨cs, h1, h2⟩ := H.sinces; exact ⟨cs, hc.at h1 hs, h2⟩, H.bg, H.bs, H.gs, H.ok⟩
theorem RfAt.grown (H : RfAt w b g s r) (hg : w.grownBy w' none) : RfAt w' b g s r := H.chg (chg_grown hg []) (by simp) (by simp) (by simp)
theorem RfAt.drew (H : RfAt w b g s r) : RfAt w.drew b g s r := ⟨H.top, H.gens, H.sinces, H.bg, H.bs, H.gs, H.ok⟩
theorem RfAt.tops (H : RfAt w b g s r) : w.cell? ⟨b, 0, none⟩ = some (.int .u64 (q r.seed)) ∧ w.cell? ⟨b, 1, none⟩ = some (.int .i64 (r.grace : Int)) ∧ w.cell? ⟨b, 2, none⟩ = some (.slice (some ⟨g, 0, none⟩) r.n r.n) ∧ w.cell? ⟨b, 3, none⟩ = some (.slice (some ⟨s, 0, none⟩) r.n r.n) :=
  ⟨at_cell H.top 0, at_cell H.top 1, at_cell H.top 2, at_cell H.top 3⟩
theorem RfAt.cells (H : RfAt w b g s r) {i : Nat} (hi : i < r.n) : w.cell? ⟨g, i, none⟩ = some (.int .i64 (r.gen i)) ∧ w.cell? ⟨s, i, none⟩ = some (.int .i64 (r.since i)) ∧ w.frozen? ⟨g, i, none⟩ = false ∧ w.frozen? ⟨s, i, none⟩ = false := by
  obtain ⟨cs, h1, h2⟩ := H.gens
  obtain ⟨ds, h3, h4⟩ := H.sinces
  exact ⟨(at_cell h1 _).trans (h2 i hi), (at_cell h3 _).trans (h4 i hi), at_free h1 _, at_free h3 _⟩
theorem RfAt.lt (H : RfAt w b g s r) : b < w.heap.size ∧ g < w.heap.size ∧ s < w.heap.size := ⟨at_lt H.top, by obtain ⟨_, h1, _⟩ := H.gens; exact at_lt h1, by obtain ⟨_, h1, _⟩ := H.sinces; exact at_lt h1⟩
theorem RfAt.put (H : RfAt w b g s r) {i : Nat} (hi : i < r.n) {x y : Int} (g0 : 0 ≤ x) (g1 : x ≤ 60000) (s0 : 0 ≤ y) (s1 : y ≤ 1099511627776) :
    RfAt ((w.setCell ⟨g, i, none⟩ (.int .i64 x)).setCell ⟨s, i, none⟩ (.int .i64 y)) b g s (r.put i x y) := by
  obtain ⟨cs, h1, h2⟩ := H.gens
  obtain ⟨ds, h3, h4⟩ := H.sinces
  have sz1 : i < cs.size := (Array.getElem?_eq_some_iff.1 (h2 i hi)).1
  have sz2 : i < ds.size := (Array.getElem?_eq_some_iff.1 (h4 i hi)).1
  refine ⟨at_set_other (at_set_other H.top H.bg _) H.bs _, ⟨_, at_set_other (at_set h1 _ _) H.gs _, fun j hj => ?_⟩, ⟨_, at_set (at_set_other h3 (fun e => H.gs e.symm) _) _ _, fun j hj => ?_⟩, H.bg, H.bs, H.gs, H.ok.put i g0 g1 s0 s1⟩
  · simp only [Rg.put]
    by_cases e : j = i
    · subst e; rw [if_pos rfl, Array.getElem?_setIfInBounds, if_pos rfl, if_pos sz1]
    · rw [if_neg e, Array.getElem?_setIfInBounds, if_neg (Ne.symm e)]; exact h2 j hj
  · simp only [Rg.put]
    by_cases e : j = i
    · subst e; rw [if_pos rfl, Array.getElem?_setIfInBounds, if_pos rfl, if_pos sz2]
    · rw [if_neg e, Array.getElem?_setIfInBounds, if_neg (Ne.symm e)]; exact h4 j hj
end
def LeavesF (w : World) (b g s : Nat) (k : Int × Rg) (e : Ending) (w' : World) : Prop := e = .returned (.int .i64 k.1) ∧ RfAt w' b g s k.2 ∧ Chg [g, s] w w'
theorem leavesF_same {w : World} {b g s : Nat} {r : Rg} (c : Int) (H : RfAt w b g s r) : LeavesF w b g s (c, r) (.returned (.int .i64 c)) w := ⟨rfl, H, chg_refl w _⟩
theorem leavesF_put {w : World} {b g s : Nat} {r : Rg} {i : Nat} {x y : Int} (H : RfAt w b g s r) (hi : i < r.n) (g0 : 0 ≤ x) (g1 : x ≤ 60000) (s0 : 0 ≤ y) (s1 : y ≤ 1099511627776) :
    LeavesF w b g s (0, r.put i x y) (.returned (.int .i64 0)) ((w.drew.setCell ⟨g, i, none⟩ (.int .i64 x)).setCell ⟨s, i, none⟩ (.int .i64 y)) :=
  ⟨rfl, H.drew.put hi g0 g1 s0 s1, (((chg_refl w [g, s]).drew).set (.inl (by simp)) _).set (.inl (by simp)) _⟩

set_option maxHeartbeats 1600000 in
theorem frot_ok {b g s : Nat} {r : Rg} (i : Nat) (now : Int) (w : World) (H0 : RfAt w b g s r) (hi : i < r.n) (hg : r.gen i < 60000) (n0 : 0 ≤ now) (n1 : now ≤ 1099511627776) :
    Calls Try.prog 24 #[.pointer (some ⟨b, 0, none⟩), .int .i64 (i : Int), .int .i64 (r.gen i + 1), .int .i64 now] w (LeavesF w b g s (0, r.put i (r.gen i + 1) now)) := by
  obtain ⟨c0, c1, f0, f1⟩ := H0.cells hi
  obtain ⟨t0, t1, t2, t3⟩ := H0.tops
  have q0 := H0.ok.e0 i; have q1 := H0.ok.e1 i; have n2 := H0.ok.n2
  have hgs := H0.gs; have hbg := H0.bg; have hbs := H0.bs
  have L := hid (leavesF_put (x := r.gen i + 1) (y := now) H0 hi (by omega) (by omega) n0 n1)
  clear H0
  generalize r.put i (r.gen i + 1) now = r' at L ⊢
  generalize r.gen i = x at *
  generalize r.since i = y at *
  generalize r.n = n at *
  have i0 : (0 : Int) ≤ (i : Int) := by omega
  have i1 : (i : Int) < (n : Int) := by omega
  have e1 : decide ((i : Int) < 0) = false := by simp
  have e2 : decide (n ≤ i) = false := by simp; omega
  have e3 : decide (x + 1 < 1) = false := by simp; omega
  have e4 : decide (60000 < x + 1) = false := by simp; omega
  have e5 : decide (now < 0) = false := by simp; omega
  have e6 : decide (1099511627776 < now) = false := by simp; omega
  go_enter Try.func24, Try.ntmps24
  go_wp2_with fail
  go_region_held3 (fun w' => w'.cell? ⟨b, 2, none⟩ = some (.slice (some ⟨g, 0, none⟩) n n) ∧ w'.cell? ⟨b, 3, none⟩ = some (.slice (some ⟨s, 0, none⟩) n n)) ((refine ⟨?_, ?_⟩ <;> go_simp)) (fail)
  all_goals (
    go_wp2_with fail
    go_ret
    exact L.out)

set_option maxHeartbeats 1600000 in
theorem frot_arg {b g s : Nat} {r : Rg} (i : Nat) (now : Int) (w : World) (H0 : RfAt w b g s r) (hi : i < r.n) (hg : r.gen i < 60000) (hn : ¬ (0 ≤ now ∧ now ≤ 1099511627776)) :
    Calls Try.prog 24 #[.pointer (some ⟨b, 0, none⟩), .int .i64 (i : Int), .int .i64 (r.gen i + 1), .int .i64 now] w (LeavesF w b g s (1, r)) := by
  have L := hid (leavesF_same 1 H0)
  obtain ⟨c0, c1, f0, f1⟩ := H0.cells hi
  obtain ⟨t0, t1, t2, t3⟩ := H0.tops
  have q0 := H0.ok.e0 i; have q1 := H0.ok.e1 i; have n2 := H0.ok.n2
  have hgs := H0.gs; have hbg := H0.bg; have hbs := H0.bs
  clear H0
  generalize r.gen i = x at *
  generalize r.since i = y at *
  have i0 : (0 : Int) ≤ (i : Int) := by omega
  have e1 : decide ((i : Int) < 0) = false := by simp
  have e2 : decide (r.n ≤ i) = false := by simp; omega
  have i1 : (i : Int) < (r.n : Int) := by omega
  have e3 : decide (x + 1 < 1) = false := by simp; omega
  have e4 : decide (60000 < x + 1) = false := by simp; omega
  by_cases h : now < 0
  · have e5 : decide (now < 0) = true := by simpa using h
    clear hn
    go_enter Try.func24, Try.ntmps24
    go_wp2_with fail
    go_ret
    exact L.out
  · have e5 : decide (now < 0) = false := by simpa using h
    have e6 : decide (1099511627776 < now) = true := by simp; omega
    clear hn
    go_enter Try.func24, Try.ntmps24
    go_wp2_with fail
    go_ret
    exact L.out

set_option maxHeartbeats 1600000 in
theorem frot_gen {b g s : Nat} {r : Rg} (i : Nat) (gen now : Int) (w : World) (H0 : RfAt w b g s r) (hi : i < r.n) (hg : gen ≠ r.gen i + 1 ∨ 60000 < gen) (hM : gen ≤ 9223372036854775807) :
    Calls Try.prog 24 #[.pointer (some ⟨b, 0, none⟩), .int .i64 (i : Int), .int .i64 gen, .int .i64 now] w (LeavesF w b g s (4, r)) := by
  have L := hid (leavesF_same 4 H0)
  obtain ⟨c0, c1, f0, f1⟩ := H0.cells hi
  obtain ⟨t0, t1, t2, t3⟩ := H0.tops
  have q0 := H0.ok.e0 i; have q1 := H0.ok.e1 i; have n2 := H0.ok.n2
  have hgs := H0.gs; have hbg := H0.bg; have hbs := H0.bs
  clear H0
  generalize r.gen i = x at *
  generalize r.since i = y at *
  have i0 : (0 : Int) ≤ (i : Int) := by omega
  have e1 : decide ((i : Int) < 0) = false := by simp
  have e2 : decide (r.n ≤ i) = false := by simp; omega
  have i1 : (i : Int) < (r.n : Int) := by omega
  by_cases h : gen < 1
  · have e3 : decide (gen < 1) = true := by simpa using h
    clear hg
    go_enter Try.func24, Try.ntmps24
    go_wp2_with fail
    go_ret
    exact L.out
  · have e3 : decide (gen < 1) = false := by simpa using h
    by_cases h2 : gen = x + 1
    · subst h2
      have e4 : decide (60000 < x + 1) = true := by simp; omega
      clear hg
      go_enter Try.func24, Try.ntmps24
      go_wp2_with fail
      go_ret
      exact L.out
    · have e4 : (gen - 1 != x) = true := by simp; omega
      clear hg
      go_enter Try.func24, Try.ntmps24
      go_wp2_with fail
      go_ret
      exact L.out

set_option maxHeartbeats 1600000 in
theorem frot_who {b g s : Nat} {r : Rg} (x gen now : Int) (w : World) (H0 : RfAt w b g s r) (hx : x < 0 ∨ (r.n : Int) ≤ x) :
    Calls Try.prog 24 #[.pointer (some ⟨b, 0, none⟩), .int .i64 x, .int .i64 gen, .int .i64 now] w (LeavesF w b g s (3, r)) := by
  have L := hid (leavesF_same 3 H0)
  obtain ⟨t0, t1, t2, t3⟩ := H0.tops
  clear H0
  by_cases h : x < 0
  · have e1 : decide (x < 0) = true := by simpa using h
    clear hx
    go_enter Try.func24, Try.ntmps24
    go_wp2_with fail
    go_ret
    exact L.out
  · have e1 : decide (x < 0) = false := by simpa using h
    have e2 : decide ((r.n : Int) ≤ x) = true := by simp; omega
    clear hx
    go_enter Try.func24, Try.ntmps24
    go_wp2_with fail
    go_ret
    exact L.out
theorem frot_any {b g s : Nat} {r : Rg} (who gen now : Int) (w : World) (H : RfAt w b g s r) (hM : gen ≤ 9223372036854775807) :
    Calls Try.prog 24 #[.pointer (some ⟨b, 0, none⟩), .int .i64 who, .int .i64 gen, .int .i64 now] w (LeavesF w b g s (r.rot who gen now)) := by
  by_cases h0 : 0 ≤ who ∧ who < (r.n : Int)
  · obtain ⟨i, rfl⟩ := Int.eq_ofNat_of_zero_le h0.1
    have hi : i < r.n := by have := h0.2; omega
    by_cases h1 : gen = r.gen i + 1 ∧ gen ≤ 60000
    · by_cases h2 : 0 ≤ now ∧ now ≤ 1099511627776
      · rw [show r.rot (i : Int) gen now = (0, r.put i gen now) by unfold Rg.rot; rw [if_pos h0, Int.toNat_natCast, if_pos h1, if_pos h2]]
        obtain ⟨rfl, h3⟩ := h1
        exact frot_ok i now w H hi (by omega) h2.1 h2.2
      · rw [show r.rot (i : Int) gen now = (1, r) by unfold Rg.rot; rw [if_pos h0, Int.toNat_natCast, if_pos h1, if_neg h2]]
        obtain ⟨rfl, h3⟩ := h1
        exact frot_arg i now w H hi (by omega) h2
    · rw [show r.rot (i : Int) gen now = (4, r) by unfold Rg.rot; rw [if_pos h0, Int.toNat_natCast, if_neg h1]]
      exact frot_gen i gen now w H hi (by omega) hM
  · rw [show r.rot who gen now = (3, r) by unfold Rg.rot; rw [if_neg h0]]
    exact frot_who who gen now w H (by omega)

set_option maxHeartbeats 1600000 in
theorem fset_ok {b g s : Nat} {r : Rg} (i : Nat) (gen now : Int) (w : World) (H0 : RfAt w b g s r) (hi : i < r.n) (g0 : 0 ≤ gen) (g1 : gen ≤ 60000) (n0 : 0 ≤ now) (n1 : now ≤ 1099511627776) :
    Calls Try.prog 26 #[.pointer (some ⟨b, 0, none⟩), .int .i64 (i : Int), .int .i64 gen, .int .i64 now] w (LeavesF w b g s (0, r.put i gen now)) := by
  have L := hid (leavesF_put (x := gen) (y := now) H0 hi g0 g1 n0 n1)
  obtain ⟨c0, c1, f0, f1⟩ := H0.cells hi
  obtain ⟨t0, t1, t2, t3⟩ := H0.tops
  have q0 := H0.ok.e0 i; have q1 := H0.ok.e1 i; have n2 := H0.ok.n2
  have hgs := H0.gs; have hbg := H0.bg; have hbs := H0.bs
  clear H0
  generalize r.put i gen now = r' at L ⊢
  generalize r.gen i = x at *
  generalize r.since i = y at *
  generalize r.n = n at *
  have i0 : (0 : Int) ≤ (i : Int) := by omega
  have e1 : decide ((i : Int) < 0) = false := by simp
  have e2 : decide (n ≤ i) = false := by simp; omega
  have i1 : (i : Int) < (n : Int) := by omega
  have e3 : decide (gen < 0) = false := by simp; omega
  have e4 : decide (60000 < gen) = false := by simp; omega
  have e5 : decide (now < 0) = false := by simp; omega
  have e6 : decide (1099511627776 < now) = false := by simp; omega
  go_enter Try.func26, Try.ntmps26
  go_wp2_with fail
  go_region_held3 (fun w' => w'.cell? ⟨b, 2, none⟩ = some (.slice (some ⟨g, 0, none⟩) n n) ∧ w'.cell? ⟨b, 3, none⟩ = some (.slice (some ⟨s, 0, none⟩) n n)) ((refine ⟨?_, ?_⟩ <;> go_simp)) (fail)
  all_goals (
    go_wp2_with fail
    go_ret
    exact L.out)

set_option maxHeartbeats 1600000 in
theorem fset_arg {b g s : Nat} {r : Rg} (i : Nat) (gen now : Int) (w : World) (H0 : RfAt w b g s r) (hi : i < r.n) (hg : ¬ (0 ≤ gen ∧ gen ≤ 60000 ∧ 0 ≤ now ∧ now ≤ 1099511627776)) :
    Calls Try.prog 26 #[.pointer (some ⟨b, 0, none⟩), .int .i64 (i : Int), .int .i64 gen, .int .i64 now] w (LeavesF w b g s (1, r)) := by
  have L := hid (leavesF_same 1 H0)
  obtain ⟨c0, c1, f0, f1⟩ := H0.cells hi
  obtain ⟨t0, t1, t2, t3⟩ := H0.tops
  have q0 := H0.ok.e0 i; have q1 := H0.ok.e1 i; have n2 := H0.ok.n2
  have hgs := H0.gs; have hbg := H0.bg; have hbs := H0.bs
  clear H0
  generalize r.gen i = x at *
  generalize r.since i = y at *
  have i0 : (0 : Int) ≤ (i : Int) := by omega
  have e1 : decide ((i : Int) < 0) = false := by simp
  have e2 : decide (r.n ≤ i) = false := by simp; omega
  have i1 : (i : Int) < (r.n : Int) := by omega
  by_cases h1 : gen < 0
  · have e3 : decide (gen < 0) = true := by simpa using h1
    clear hg
    go_enter Try.func26, Try.ntmps26
    go_wp2_with fail
    go_ret
    exact L.out
  have e3 : decide (gen < 0) = false := by simpa using h1
  by_cases h2 : 60000 < gen
  · have e4 : decide (60000 < gen) = true := by simpa using h2
    clear hg
    go_enter Try.func26, Try.ntmps26
    go_wp2_with fail
    go_ret
    exact L.out
  have e4 : decide (60000 < gen) = false := by simpa using h2
  by_cases h3 : now < 0
  · have e5 : decide (now < 0) = true := by simpa using h3
    clear hg
    go_enter Try.func26, Try.ntmps26
    go_wp2_with fail
    go_ret
    exact L.out
  have e5 : decide (now < 0) = false := by simpa using h3
  have e6 : decide (1099511627776 < now) = true := by simp; omega
  clear hg
  go_enter Try.func26, Try.ntmps26
  go_wp2_with fail
  go_ret
  exact L.out

set_option maxHeartbeats 1600000 in
theorem fset_who {b g s : Nat} {r : Rg} (x gen now : Int) (w : World) (H0 : RfAt w b g s r) (hx : x < 0 ∨ (r.n : Int) ≤ x) :
    Calls Try.prog 26 #[.pointer (some ⟨b, 0, none⟩), .int .i64 x, .int .i64 gen, .int .i64 now] w (LeavesF w b g s (3, r)) := by
  have L := hid (leavesF_same 3 H0)
  obtain ⟨t0, t1, t2, t3⟩ := H0.tops
  clear H0
  by_cases h : x < 0
  · have e1 : decide (x < 0) = true := by simpa using h
    clear hx
    go_enter Try.func26, Try.ntmps26
    go_wp2_with fail
    go_ret
    exact L.out
  · have e1 : decide (x < 0) = false := by simpa using h
    have e2 : decide ((r.n : Int) ≤ x) = true := by simp; omega
    clear hx
    go_enter Try.func26, Try.ntmps26
    go_wp2_with fail
    go_ret
    exact L.out
theorem fset_any {b g s : Nat} {r : Rg} (who gen now : Int) (w : World) (H : RfAt w b g s r) :
    Calls Try.prog 26 #[.pointer (some ⟨b, 0, none⟩), .int .i64 who, .int .i64 gen, .int .i64 now] w (LeavesF w b g s (r.set who gen now)) := by
  by_cases h0 : 0 ≤ who ∧ who < (r.n : Int)
  · obtain ⟨i, rfl⟩ := Int.eq_ofNat_of_zero_le h0.1
    have hi : i < r.n := by have := h0.2; omega
    by_cases h1 : 0 ≤ gen ∧ gen ≤ 60000 ∧ 0 ≤ now ∧ now ≤ 1099511627776
    · rw [show r.set (i : Int) gen now = (0, r.put i gen now) by unfold Rg.set; rw [if_pos h0, Int.toNat_natCast, if_pos h1]]
      exact fset_ok i gen now w H hi h1.1 h1.2.1 h1.2.2.1 h1.2.2.2
    · rw [show r.set (i : Int) gen now = (1, r) by unfold Rg.set; rw [if_pos h0, if_neg h1]]
      exact fset_arg i gen now w H hi h1
  · rw [show r.set who gen now = (3, r) by unfold Rg.set; rw [if_neg h0]]
    exact fset_who who gen now w H (by omega)
end Go.Proofs.Ytmnmekjbjccamaa
