/-
  Contracts for package policy: the object, its inner functions; the document's own rates and bounds. The condition of a call: the object lies there, a slice reads as numbers.
-/
import Derived.Test.YtmhpldnmapjghaaPoP
import Derived.Test.YtmhpldnmapjghaaI64
import Derived.Test.YtmhpldnmapjghaaIntN
import Derived.Test.YtmhpldnmapjghaaKf
import Derived.Test.YtmhpldnmapjghaaCfDef
import Derived.Laws.CopyRow
import Derived.LoopTactic
import Derived.BigQuiet
import Derived.Deep.QuietTactic
import Derived.WalkSpells
import Derived.WalkLawsBesides
set_option linter.unusedSimpArgs false
set_option linter.unusedVariables false
namespace Go.Proofs.Ytmhpldnmapjghaa
set_option maxRecDepth 100000
open Go.RowKit

/-- the rates as cells, and as a value -/
@[reducible] def rtCells (r : Rt) : Array Value := #[.int .i64 r.pu, .int .i64 r.cu, .int .i64 r.pd, .int .i64 r.cd, .int .i64 r.per, .int .i64 r.mn, .int .i64 r.mx]
@[reducible] def rv (r : Rt) : Value := .agg (rtCells r)
/-- a configuration's rates -/
@[reducible] def rt (c : Conf) : Rt := ⟨c.podsup, c.pctup, c.podsdown, c.pctdown, c.period, c.min, c.max⟩
@[reducible] def rt0 : Rt := ⟨0, 0, 0, 0, 0, 0, 0⟩
/-- the cells of a Policy -/
def poCells (r : Rt) (n : Nat) (ws : List Int) : Array Value := ((r.pu :: r.cu :: r.pd :: r.cd :: r.per :: r.mn :: r.mx :: (n : Int) :: ws).map iv).toArray
/-- the object lies there, with the numbers as they are -/
def PoTop (w : World) (b : Nat) (p : Po) : Prop := ∃ ws : List Int, ws.length = 60 ∧ ws.take p.l.length = p.l ∧ w.heap[b]? = some (.cells (poCells p.r p.l.length ws) 62)
structure PoAt (w : World) (b : Nat) (p : Po) : Prop where
  top : PoTop w b p
  ok : p.Ok
section
variable {w w' : World} {F : List Nat} {b : Nat} {p : Po}
theorem PoAt.chg (H : PoAt w b p) (hc : Chg F w w') (hb : b ∉ F) : PoAt w' b p := by
  obtain ⟨⟨ws, h1, h2, h3⟩, ho⟩ := H
  exact ⟨⟨ws, h1, h2, hc.at h3 hb⟩, ho⟩
theorem PoAt.grown (H : PoAt w b p) (hg : w.grownBy w' none) : PoAt w' b p := H.chg (chg_grown hg []) (by simp)
theorem PoAt.drew (H : PoAt w b p) : PoAt w.drew b p := ⟨H.top, H.ok⟩
theorem PoAt.drewN (H : PoAt w b p) (n : Nat) : PoAt (w.drewN n) b p := ⟨H.top, H.ok⟩
theorem PoAt.lt (H : PoAt w b p) : b < w.heap.size := by obtain ⟨⟨ws, _, _, h3⟩, _⟩ := H; exact at_lt h3
theorem po_cell4 (r : Rt) (n : Nat) (ws : List Int) : (poCells r n ws)[4]? = some (.int .i64 r.per) := by simp [poCells, iv]
theorem po_cell5 (r : Rt) (n : Nat) (ws : List Int) : (poCells r n ws)[5]? = some (.int .i64 r.mn) := by simp [poCells, iv]
theorem po_cell6 (r : Rt) (n : Nat) (ws : List Int) : (poCells r n ws)[6]? = some (.int .i64 r.mx) := by simp [poCells, iv]
theorem po_cell7 (r : Rt) (n : Nat) (ws : List Int) : (poCells r n ws)[7]? = some (.int .i64 (n : Int)) := by simp [poCells, iv]
theorem po_cellk (r : Rt) (n : Nat) (ws : List Int) (k : Nat) : (poCells r n ws)[8 + k]? = (ws[k]?).map iv := by
  rw [poCells, List.getElem?_toArray, Nat.add_comm]; simp
theorem Po.Ok.n60 (h : p.Ok) : p.l.length ≤ 60 := by
  have := h.n; have := h.r.per
  omega
theorem Po.Ok.n1 (h : p.Ok) : 1 ≤ p.l.length := by
  have := List.length_pos_iff.2 h.ne
  omega
theorem PoTop.grown (H : PoTop w b p) (hg : w.grownBy w' none) : PoTop w' b p := by
  obtain ⟨ws, h1, h2, h3⟩ := H
  exact ⟨ws, h1, h2, at_grown h3 hg (by simp)⟩
theorem PoTop.cells (H : PoTop w b p) : w.cell? ⟨b, 4, none⟩ = some (.int .i64 p.r.per) ∧ w.cell? ⟨b, 5, none⟩ = some (.int .i64 p.r.mn) ∧ w.cell? ⟨b, 6, none⟩ = some (.int .i64 p.r.mx) ∧ w.cell? ⟨b, 7, none⟩ = some (.int .i64 (p.l.length : Int)) ∧ ∀ k, w.frozen? ⟨b, k, none⟩ = false := by
  obtain ⟨ws, h1, h2, h3⟩ := H
  exact ⟨by rw [at_cell h3, po_cell4], by rw [at_cell h3, po_cell5], by rw [at_cell h3, po_cell6], by rw [at_cell h3, po_cell7], fun k => at_free h3 k⟩
theorem PoAt.cells (H : PoAt w b p) : w.cell? ⟨b, 4, none⟩ = some (.int .i64 p.r.per) ∧ w.cell? ⟨b, 5, none⟩ = some (.int .i64 p.r.mn) ∧ w.cell? ⟨b, 6, none⟩ = some (.int .i64 p.r.mx) ∧ w.cell? ⟨b, 7, none⟩ = some (.int .i64 (p.l.length : Int)) ∧ ∀ k, w.frozen? ⟨b, k, none⟩ = false := H.top.cells
theorem PoTop.ints (H : PoTop w b p) (hn : p.l.length ≤ 60) : IntsAt w (.slice (some ⟨b, 8, none⟩) p.l.length 60) p.l := by
  obtain ⟨ws, h1, h2, h3⟩ := H
  refine .inr ⟨_, 60, rfl, hn, by unfold maxLen; omega, fun i hi => ?_⟩
  rw [iadd_at, at_cell h3, po_cellk]
  have : p.l[i]? = ws[i]? := by
    have e : (ws.take p.l.length)[i]? = p.l[i]? := by rw [h2]
    rw [← e, List.getElem?_take, if_pos hi]
  rw [← this, List.getElem?_eq_getElem hi]; rfl
theorem PoAt.ints (H : PoAt w b p) : IntsAt w (.slice (some ⟨b, 8, none⟩) p.l.length 60) p.l := H.top.ints H.ok.n60
end

/-- which numbers are within -/
theorem pin_any (n lo hi : Int) (w : World) :
    Calls Try.prog 29 #[.int .i64 n, .int .i64 lo, .int .i64 hi] w fun e w' => e = .returned (.bool (decide (lo ≤ n) && decide (n ≤ hi))) ∧ w = w' := by
  by_cases h1 : lo ≤ n <;> by_cases h2 : n ≤ hi <;> (
  go_enter Try.func29, Try.ntmps29
  go_wp2_with fail
  go_ret
  simp [h1, h2])
theorem pin_yes {n lo hi : Int} (h : lo ≤ n ∧ n ≤ hi) (w : World) :
    Calls Try.prog 29 #[.int .i64 n, .int .i64 lo, .int .i64 hi] w fun e w' => e = .returned (.bool true) ∧ w = w' := by
  refine (pin_any n lo hi w).mono ?_
  rintro e w' ⟨rfl, rfl⟩
  exact ⟨by simp [h], rfl⟩
theorem pin_no {n lo hi : Int} (h : ¬ (lo ≤ n ∧ n ≤ hi)) (w : World) :
    Calls Try.prog 29 #[.int .i64 n, .int .i64 lo, .int .i64 hi] w fun e w' => e = .returned (.bool false) ∧ w = w' := by
  refine (pin_any n lo hi w).mono ?_
  rintro e w' ⟨rfl, rfl⟩
  refine ⟨?_, rfl⟩
  rw [show (decide (lo ≤ n) && decide (n ≤ hi)) = false by
    cases hb : (decide (lo ≤ n) && decide (n ≤ hi)) with
    | false => rfl
    | true => simp at hb; exact absurd hb h]
theorem qin_any (n lo hi : Int) (w : World) :
    Calls Try.prog 43 #[.int .i64 n, .int .i64 lo, .int .i64 hi] w fun e w' => e = .returned (.bool (decide (lo ≤ n) && decide (n ≤ hi))) ∧ w = w' := by
  by_cases h1 : lo ≤ n <;> by_cases h2 : n ≤ hi <;> (
  go_enter Try.func43, Try.ntmps43
  go_wp2_with fail
  go_ret
  simp [h1, h2])
theorem qin_yes {n lo hi : Int} (h : lo ≤ n ∧ n ≤ hi) (w : World) :
    Calls Try.prog 43 #[.int .i64 n, .int .i64 lo, .int .i64 hi] w fun e w' => e = .returned (.bool true) ∧ w = w' := by
  refine (qin_any n lo hi w).mono ?_
  rintro e w' ⟨rfl, rfl⟩
  exact ⟨by simp [h], rfl⟩
theorem qin_no {n lo hi : Int} (h : ¬ (lo ≤ n ∧ n ≤ hi)) (w : World) :
    Calls Try.prog 43 #[.int .i64 n, .int .i64 lo, .int .i64 hi] w fun e w' => e = .returned (.bool false) ∧ w = w' := by
  refine (qin_any n lo hi w).mono ?_
  rintro e w' ⟨rfl, rfl⟩
  refine ⟨?_, rfl⟩
  rw [show (decide (lo ≤ n) && decide (n ≤ hi)) = false by
    cases hb : (decide (lo ≤ n) && decide (n ≤ hi)) with
    | false => rfl
    | true => simp at hb; exact absurd hb h]
theorem clamp_any (n lo hi : Int) (w : World) :
    Calls Try.prog 35 #[.int .i64 n, .int .i64 lo, .int .i64 hi] w fun e w' => e = .returned (.int .i64 (min (max n lo) hi)) ∧ w = w' := by
  go_enter Try.func35, Try.ntmps35
  go_wp2_with fail
  all_goals go_ret
  all_goals exact ⟨congrArg (fun z => Ending.returned (.int .i64 z)) (by omega), rfl⟩
def inR (r : Rt) (x : Int) : Bool := decide (r.mn ≤ x) && decide (x ≤ r.mx)
theorem pbeyond_any (r : Rt) (x : Int) (w : World) :
    Calls Try.prog 26 #[rv r, .int .i64 x] w fun e w' => e = .returned (.bool (!inR r x)) ∧ w.grownBy w' none := by
  have H := hid (pin_any x r.mn r.mx)
  unfold inR
  generalize (decide (r.mn ≤ x) && decide (x ≤ r.mx)) = z at *
  go_enter Try.func26, Try.ntmps26
  go_wp2_with fail
  refine (H.out _).mono ?_
  rintro e w1 ⟨rfl, rfl⟩
  go_wp2_with fail
  go_ret
  exact ⟨rfl, gb_alloc (.refl w none) _⟩
set_option maxHeartbeats 1600000 in
theorem rules_no0 (c : Conf)  (h0 : ¬ (1 ≤ c.podsup ∧ c.podsup ≤ 1000)) (w : World) :
    Calls Try.prog 25 #[cf c] w fun e w' => e = .returned (.tuple #[rv rt0, .bool false]) ∧ w.grownBy w' none := by
  have W0 := hid (pin_no h0)
  clear h0
  go_enter Try.func25, Try.ntmps25
  go_wp2_with fail
  refine (W0.out _).mono ?_
  rintro e w1 ⟨rfl, rfl⟩
  go_wp2_with fail
  exact bodyPost_ret (v := .tuple #[rv rt0, .bool false]) (by simp [results, Try.results25, go_sem]; try rfl) rfl ⟨rfl, gb_alloc (gb_alloc (.refl w none) _) _⟩
set_option maxHeartbeats 1600000 in
theorem rules_no1 (c : Conf) (h0 : 1 ≤ c.podsup ∧ c.podsup ≤ 1000) (h1 : ¬ (1 ≤ c.pctup ∧ c.pctup ≤ 1000)) (w : World) :
    Calls Try.prog 25 #[cf c] w fun e w' => e = .returned (.tuple #[rv rt0, .bool false]) ∧ w.grownBy w' none := by
  have W0 := hid (pin_yes h0)
  have W1 := hid (pin_no h1)
  clear h0 h1
  go_enter Try.func25, Try.ntmps25
  go_wp2_with fail
  refine (W0.out _).mono ?_
  rintro e w1 ⟨rfl, rfl⟩
  go_wp2_with fail
  refine (W1.out _).mono ?_
  rintro e w1 ⟨rfl, rfl⟩
  go_wp2_with fail
  exact bodyPost_ret (v := .tuple #[rv rt0, .bool false]) (by simp [results, Try.results25, go_sem]; try rfl) rfl ⟨rfl, gb_alloc (gb_alloc (.refl w none) _) _⟩
set_option maxHeartbeats 1600000 in
theorem rules_no2 (c : Conf) (h0 : 1 ≤ c.podsup ∧ c.podsup ≤ 1000) (h1 : 1 ≤ c.pctup ∧ c.pctup ≤ 1000) (h2 : ¬ (1 ≤ c.podsdown ∧ c.podsdown ≤ 1000)) (w : World) :
    Calls Try.prog 25 #[cf c] w fun e w' => e = .returned (.tuple #[rv rt0, .bool false]) ∧ w.grownBy w' none := by
  have W0 := hid (pin_yes h0)
  have W1 := hid (pin_yes h1)
  have W2 := hid (pin_no h2)
  clear h0 h1 h2
  go_enter Try.func25, Try.ntmps25
  go_wp2_with fail
  refine (W0.out _).mono ?_
  rintro e w1 ⟨rfl, rfl⟩
  go_wp2_with fail
  refine (W1.out _).mono ?_
  rintro e w1 ⟨rfl, rfl⟩
  go_wp2_with fail
  refine (W2.out _).mono ?_
  rintro e w1 ⟨rfl, rfl⟩
  go_wp2_with fail
  exact bodyPost_ret (v := .tuple #[rv rt0, .bool false]) (by simp [results, Try.results25, go_sem]; try rfl) rfl ⟨rfl, gb_alloc (gb_alloc (.refl w none) _) _⟩
set_option maxHeartbeats 1600000 in
theorem rules_no3 (c : Conf) (h0 : 1 ≤ c.podsup ∧ c.podsup ≤ 1000) (h1 : 1 ≤ c.pctup ∧ c.pctup ≤ 1000) (h2 : 1 ≤ c.podsdown ∧ c.podsdown ≤ 1000) (h3 : ¬ (1 ≤ c.pctdown ∧ c.pctdown ≤ 100)) (w : World) :
    Calls Try.prog 25 #[cf c] w fun e w' => e = .returned (.tuple #[rv rt0, .bool false]) ∧ w.grownBy w' none := by
  have W0 := hid (pin_yes h0)
  have W1 := hid (pin_yes h1)
  have W2 := hid (pin_yes h2)
  have W3 := hid (pin_no h3)
  clear h0 h1 h2 h3
  go_enter Try.func25, Try.ntmps25
  go_wp2_with fail
  refine (W0.out _).mono ?_
  rintro e w1 ⟨rfl, rfl⟩
  go_wp2_with fail
  refine (W1.out _).mono ?_
  rintro e w1 ⟨rfl, rfl⟩
  go_wp2_with fail
  refine (W2.out _).mono ?_
  rintro e w1 ⟨rfl, rfl⟩
  go_wp2_with fail
  refine (W3.out _).mono ?_
  rintro e w1 ⟨rfl, rfl⟩
  go_wp2_with fail
  exact bodyPost_ret (v := .tuple #[rv rt0, .bool false]) (by simp [results, Try.results25, go_sem]; try rfl) rfl ⟨rfl, gb_alloc (gb_alloc (.refl w none) _) _⟩
set_option maxHeartbeats 1600000 in
theorem rules_no4 (c : Conf) (h0 : 1 ≤ c.podsup ∧ c.podsup ≤ 1000) (h1 : 1 ≤ c.pctup ∧ c.pctup ≤ 1000) (h2 : 1 ≤ c.podsdown ∧ c.podsdown ≤ 1000) (h3 : 1 ≤ c.pctdown ∧ c.pctdown ≤ 100) (h4 : ¬ (1 ≤ c.period ∧ c.period ≤ 60)) (w : World) :
    Calls Try.prog 25 #[cf c] w fun e w' => e = .returned (.tuple #[rv rt0, .bool false]) ∧ w.grownBy w' none := by
  have W0 := hid (pin_yes h0)
  have W1 := hid (pin_yes h1)
  have W2 := hid (pin_yes h2)
  have W3 := hid (pin_yes h3)
  have W4 := hid (pin_no h4)
  clear h0 h1 h2 h3 h4
  go_enter Try.func25, Try.ntmps25
  go_wp2_with fail
  refine (W0.out _).mono ?_
  rintro e w1 ⟨rfl, rfl⟩
  go_wp2_with fail
  refine (W1.out _).mono ?_
  rintro e w1 ⟨rfl, rfl⟩
  go_wp2_with fail
  refine (W2.out _).mono ?_
  rintro e w1 ⟨rfl, rfl⟩
  go_wp2_with fail
  refine (W3.out _).mono ?_
  rintro e w1 ⟨rfl, rfl⟩
  go_wp2_with fail
  refine (W4.out _).mono ?_
  rintro e w1 ⟨rfl, rfl⟩
  go_wp2_with fail
  exact bodyPost_ret (v := .tuple #[rv rt0, .bool false]) (by simp [results, Try.results25, go_sem]; try rfl) rfl ⟨rfl, gb_alloc (gb_alloc (.refl w none) _) _⟩
set_option maxHeartbeats 1600000 in
theorem rules_no5 (c : Conf) (h0 : 1 ≤ c.podsup ∧ c.podsup ≤ 1000) (h1 : 1 ≤ c.pctup ∧ c.pctup ≤ 1000) (h2 : 1 ≤ c.podsdown ∧ c.podsdown ≤ 1000) (h3 : 1 ≤ c.pctdown ∧ c.pctdown ≤ 100) (h4 : 1 ≤ c.period ∧ c.period ≤ 60) (h5 : ¬ (1 ≤ c.min ∧ c.min ≤ 10000)) (w : World) :
    Calls Try.prog 25 #[cf c] w fun e w' => e = .returned (.tuple #[rv rt0, .bool false]) ∧ w.grownBy w' none := by
  have W0 := hid (pin_yes h0)
  have W1 := hid (pin_yes h1)
  have W2 := hid (pin_yes h2)
  have W3 := hid (pin_yes h3)
  have W4 := hid (pin_yes h4)
  have W5 := hid (pin_no h5)
  clear h0 h1 h2 h3 h4 h5
  go_enter Try.func25, Try.ntmps25
  go_wp2_with fail
  refine (W0.out _).mono ?_
  rintro e w1 ⟨rfl, rfl⟩
  go_wp2_with fail
  refine (W1.out _).mono ?_
  rintro e w1 ⟨rfl, rfl⟩
  go_wp2_with fail
  refine (W2.out _).mono ?_
  rintro e w1 ⟨rfl, rfl⟩
  go_wp2_with fail
  refine (W3.out _).mono ?_
  rintro e w1 ⟨rfl, rfl⟩
  go_wp2_with fail
  refine (W4.out _).mono ?_
  rintro e w1 ⟨rfl, rfl⟩
  go_wp2_with fail
  refine (W5.out _).mono ?_
  rintro e w1 ⟨rfl, rfl⟩
  go_wp2_with fail
  exact bodyPost_ret (v := .tuple #[rv rt0, .bool false]) (by simp [results, Try.results25, go_sem]; try rfl) rfl ⟨rfl, gb_alloc (gb_alloc (.refl w none) _) _⟩
set_option maxHeartbeats 1600000 in
theorem rules_no6 (c : Conf) (h0 : 1 ≤ c.podsup ∧ c.podsup ≤ 1000) (h1 : 1 ≤ c.pctup ∧ c.pctup ≤ 1000) (h2 : 1 ≤ c.podsdown ∧ c.podsdown ≤ 1000) (h3 : 1 ≤ c.pctdown ∧ c.pctdown ≤ 100) (h4 : 1 ≤ c.period ∧ c.period ≤ 60) (h5 : 1 ≤ c.min ∧ c.min ≤ 10000) (h6 : ¬ (c.min ≤ c.max ∧ c.max ≤ 10000)) (w : World) :
    Calls Try.prog 25 #[cf c] w fun e w' => e = .returned (.tuple #[rv rt0, .bool false]) ∧ w.grownBy w' none := by
  have W0 := hid (pin_yes h0)
  have W1 := hid (pin_yes h1)
  have W2 := hid (pin_yes h2)
  have W3 := hid (pin_yes h3)
  have W4 := hid (pin_yes h4)
  have W5 := hid (pin_yes h5)
  have W6 := hid (pin_no h6)
  clear h0 h1 h2 h3 h4 h5 h6
  go_enter Try.func25, Try.ntmps25
  go_wp2_with fail
  refine (W0.out _).mono ?_
  rintro e w1 ⟨rfl, rfl⟩
  go_wp2_with fail
  refine (W1.out _).mono ?_
  rintro e w1 ⟨rfl, rfl⟩
  go_wp2_with fail
  refine (W2.out _).mono ?_
  rintro e w1 ⟨rfl, rfl⟩
  go_wp2_with fail
  refine (W3.out _).mono ?_
  rintro e w1 ⟨rfl, rfl⟩
  go_wp2_with fail
  refine (W4.out _).mono ?_
  rintro e w1 ⟨rfl, rfl⟩
  go_wp2_with fail
  refine (W5.out _).mono ?_
  rintro e w1 ⟨rfl, rfl⟩
  go_wp2_with fail
  refine (W6.out _).mono ?_
  rintro e w1 ⟨rfl, rfl⟩
  go_wp2_with fail
  exact bodyPost_ret (v := .tuple #[rv rt0, .bool false]) (by simp [results, Try.results25, go_sem]; try rfl) rfl ⟨rfl, gb_alloc (gb_alloc (.refl w none) _) _⟩
set_option maxHeartbeats 1600000 in
theorem rules_yes (c : Conf) (h0 : 1 ≤ c.podsup ∧ c.podsup ≤ 1000) (h1 : 1 ≤ c.pctup ∧ c.pctup ≤ 1000) (h2 : 1 ≤ c.podsdown ∧ c.podsdown ≤ 1000) (h3 : 1 ≤ c.pctdown ∧ c.pctdown ≤ 100) (h4 : 1 ≤ c.period ∧ c.period ≤ 60) (h5 : 1 ≤ c.min ∧ c.min ≤ 10000) (h6 : c.min ≤ c.max ∧ c.max ≤ 10000) (w : World) :
    Calls Try.prog 25 #[cf c] w fun e w' => e = .returned (.tuple #[rv (rt c), .bool true]) ∧ w.grownBy w' none := by
  have W0 := hid (pin_yes h0)
  have W1 := hid (pin_yes h1)
  have W2 := hid (pin_yes h2)
  have W3 := hid (pin_yes h3)
  have W4 := hid (pin_yes h4)
  have W5 := hid (pin_yes h5)
  have W6 := hid (pin_yes h6)
  clear h0 h1 h2 h3 h4 h5 h6
  go_enter Try.func25, Try.ntmps25
  go_wp2_with fail
  refine (W0.out _).mono ?_
  rintro e w1 ⟨rfl, rfl⟩
  go_wp2_with fail
  refine (W1.out _).mono ?_
  rintro e w1 ⟨rfl, rfl⟩
  go_wp2_with fail
  refine (W2.out _).mono ?_
  rintro e w1 ⟨rfl, rfl⟩
  go_wp2_with fail
  refine (W3.out _).mono ?_
  rintro e w1 ⟨rfl, rfl⟩
  go_wp2_with fail
  refine (W4.out _).mono ?_
  rintro e w1 ⟨rfl, rfl⟩
  go_wp2_with fail
  refine (W5.out _).mono ?_
  rintro e w1 ⟨rfl, rfl⟩
  go_wp2_with fail
  refine (W6.out _).mono ?_
  rintro e w1 ⟨rfl, rfl⟩
  go_wp2_with fail
  exact bodyPost_ret (v := .tuple #[rv (rt c), .bool true]) (by simp [results, Try.results25, go_sem]; try rfl) rfl ⟨rfl, gb_alloc (gb_alloc (.refl w none) _) _⟩
theorem rules_any (c : Conf) (w : World) :
    Calls Try.prog 25 #[cf c] w fun e w' => e = .returned (.tuple #[rv (if (rt c).may then rt c else rt0), .bool (rt c).may]) ∧ w.grownBy w' none := by
  by_cases h0 : 1 ≤ c.podsup ∧ c.podsup ≤ 1000
  rotate_left
  · have hm : (rt c).may = false := by
      cases hb : (rt c).may with
      | false => rfl
      | true => exact absurd (Rt.may_iff.1 hb).pu h0
    rw [hm]; exact rules_no0 c h0 w
  by_cases h1 : 1 ≤ c.pctup ∧ c.pctup ≤ 1000
  rotate_left
  · have hm : (rt c).may = false := by
      cases hb : (rt c).may with
      | false => rfl
      | true => exact absurd (Rt.may_iff.1 hb).cu h1
    rw [hm]; exact rules_no1 c h0 h1 w
  by_cases h2 : 1 ≤ c.podsdown ∧ c.podsdown ≤ 1000
  rotate_left
  · have hm : (rt c).may = false := by
      cases hb : (rt c).may with
      | false => rfl
      | true => exact absurd (Rt.may_iff.1 hb).pd h2
    rw [hm]; exact rules_no2 c h0 h1 h2 w
  by_cases h3 : 1 ≤ c.pctdown ∧ c.pctdown ≤ 100
  rotate_left
  · have hm : (rt c).may = false := by
      cases hb : (rt c).may with
      | false => rfl
      | true => exact absurd (Rt.may_iff.1 hb).cd h3
    rw [hm]; exact rules_no3 c h0 h1 h2 h3 w
  by_cases h4 : 1 ≤ c.period ∧ c.period ≤ 60
  rotate_left
  · have hm : (rt c).may = false := by
      cases hb : (rt c).may with
      | false => rfl
      | true => exact absurd (Rt.may_iff.1 hb).per h4
    rw [hm]; exact rules_no4 c h0 h1 h2 h3 h4 w
  by_cases h5 : 1 ≤ c.min ∧ c.min ≤ 10000
  rotate_left
  · have hm : (rt c).may = false := by
      cases hb : (rt c).may with
      | false => rfl
      | true => exact absurd (Rt.may_iff.1 hb).mn h5
    rw [hm]; exact rules_no5 c h0 h1 h2 h3 h4 h5 w
  by_cases h6 : c.min ≤ c.max ∧ c.max ≤ 10000
  rotate_left
  · have hm : (rt c).may = false := by
      cases hb : (rt c).may with
      | false => rfl
      | true => exact absurd (Rt.may_iff.1 hb).mx h6
    rw [hm]; exact rules_no6 c h0 h1 h2 h3 h4 h5 h6 w
  have hm : (rt c).may = true := Rt.may_iff.2 ⟨h0, h1, h2, h3, h4, h5, h6⟩
  rw [hm]; exact rules_yes c h0 h1 h2 h3 h4 h5 h6 w
set_option maxHeartbeats 1600000 in
theorem rmay_no0 (c : Conf)  (h0 : ¬ (1 ≤ c.min ∧ c.min ≤ 10000)) (w : World) :
    Calls Try.prog 37 #[cf c] w fun e w' => e = .returned (.bool false) ∧ w.grownBy w' none := by
  have W0 := hid (qin_no h0)
  clear h0
  go_enter Try.func37, Try.ntmps37
  go_wp2_with fail
  refine (W0.out _).mono ?_
  rintro e w1 ⟨rfl, rfl⟩
  go_wp2_with fail
  go_ret
  exact ⟨rfl, gb_alloc (.refl w none) _⟩
set_option maxHeartbeats 1600000 in
theorem rmay_no1 (c : Conf) (h0 : 1 ≤ c.min ∧ c.min ≤ 10000) (h1 : ¬ (c.min ≤ c.max ∧ c.max ≤ 10000)) (w : World) :
    Calls Try.prog 37 #[cf c] w fun e w' => e = .returned (.bool false) ∧ w.grownBy w' none := by
  have W0 := hid (qin_yes h0)
  have W1 := hid (qin_no h1)
  clear h0 h1
  go_enter Try.func37, Try.ntmps37
  go_wp2_with fail
  refine (W0.out _).mono ?_
  rintro e w1 ⟨rfl, rfl⟩
  go_wp2_with fail
  refine (W1.out _).mono ?_
  rintro e w1 ⟨rfl, rfl⟩
  go_wp2_with fail
  go_ret
  exact ⟨rfl, gb_alloc (.refl w none) _⟩
set_option maxHeartbeats 1600000 in
theorem rmay_no2 (c : Conf) (h0 : 1 ≤ c.min ∧ c.min ≤ 10000) (h1 : c.min ≤ c.max ∧ c.max ≤ 10000) (h2 : ¬ (1 ≤ c.podsup ∧ c.podsup ≤ 1000)) (w : World) :
    Calls Try.prog 37 #[cf c] w fun e w' => e = .returned (.bool false) ∧ w.grownBy w' none := by
  have W0 := hid (qin_yes h0)
  have W1 := hid (qin_yes h1)
  have W2 := hid (qin_no h2)
  clear h0 h1 h2
  go_enter Try.func37, Try.ntmps37
  go_wp2_with fail
  refine (W0.out _).mono ?_
  rintro e w1 ⟨rfl, rfl⟩
  go_wp2_with fail
  refine (W1.out _).mono ?_
  rintro e w1 ⟨rfl, rfl⟩
  go_wp2_with fail
  refine (W2.out _).mono ?_
  rintro e w1 ⟨rfl, rfl⟩
  go_wp2_with fail
  go_ret
  exact ⟨rfl, gb_alloc (.refl w none) _⟩
set_option maxHeartbeats 1600000 in
theorem rmay_no3 (c : Conf) (h0 : 1 ≤ c.min ∧ c.min ≤ 10000) (h1 : c.min ≤ c.max ∧ c.max ≤ 10000) (h2 : 1 ≤ c.podsup ∧ c.podsup ≤ 1000) (h3 : ¬ (1 ≤ c.pctup ∧ c.pctup ≤ 1000)) (w : World) :
    Calls Try.prog 37 #[cf c] w fun e w' => e = .returned (.bool false) ∧ w.grownBy w' none := by
  have W0 := hid (qin_yes h0)
  have W1 := hid (qin_yes h1)
  have W2 := hid (qin_yes h2)
  have W3 := hid (qin_no h3)
  clear h0 h1 h2 h3
  go_enter Try.func37, Try.ntmps37
  go_wp2_with fail
  refine (W0.out _).mono ?_
  rintro e w1 ⟨rfl, rfl⟩
  go_wp2_with fail
  refine (W1.out _).mono ?_
  rintro e w1 ⟨rfl, rfl⟩
  go_wp2_with fail
  refine (W2.out _).mono ?_
  rintro e w1 ⟨rfl, rfl⟩
  go_wp2_with fail
  refine (W3.out _).mono ?_
  rintro e w1 ⟨rfl, rfl⟩
  go_wp2_with fail
  go_ret
  exact ⟨rfl, gb_alloc (.refl w none) _⟩
set_option maxHeartbeats 1600000 in
theorem rmay_no4 (c : Conf) (h0 : 1 ≤ c.min ∧ c.min ≤ 10000) (h1 : c.min ≤ c.max ∧ c.max ≤ 10000) (h2 : 1 ≤ c.podsup ∧ c.podsup ≤ 1000) (h3 : 1 ≤ c.pctup ∧ c.pctup ≤ 1000) (h4 : ¬ (1 ≤ c.podsdown ∧ c.podsdown ≤ 1000)) (w : World) :
    Calls Try.prog 37 #[cf c] w fun e w' => e = .returned (.bool false) ∧ w.grownBy w' none := by
  have W0 := hid (qin_yes h0)
  have W1 := hid (qin_yes h1)
  have W2 := hid (qin_yes h2)
  have W3 := hid (qin_yes h3)
  have W4 := hid (qin_no h4)
  clear h0 h1 h2 h3 h4
  go_enter Try.func37, Try.ntmps37
  go_wp2_with fail
  refine (W0.out _).mono ?_
  rintro e w1 ⟨rfl, rfl⟩
  go_wp2_with fail
  refine (W1.out _).mono ?_
  rintro e w1 ⟨rfl, rfl⟩
  go_wp2_with fail
  refine (W2.out _).mono ?_
  rintro e w1 ⟨rfl, rfl⟩
  go_wp2_with fail
  refine (W3.out _).mono ?_
  rintro e w1 ⟨rfl, rfl⟩
  go_wp2_with fail
  refine (W4.out _).mono ?_
  rintro e w1 ⟨rfl, rfl⟩
  go_wp2_with fail
  go_ret
  exact ⟨rfl, gb_alloc (.refl w none) _⟩
set_option maxHeartbeats 1600000 in
theorem rmay_no5 (c : Conf) (h0 : 1 ≤ c.min ∧ c.min ≤ 10000) (h1 : c.min ≤ c.max ∧ c.max ≤ 10000) (h2 : 1 ≤ c.podsup ∧ c.podsup ≤ 1000) (h3 : 1 ≤ c.pctup ∧ c.pctup ≤ 1000) (h4 : 1 ≤ c.podsdown ∧ c.podsdown ≤ 1000) (h5 : ¬ (1 ≤ c.pctdown ∧ c.pctdown ≤ 100)) (w : World) :
    Calls Try.prog 37 #[cf c] w fun e w' => e = .returned (.bool false) ∧ w.grownBy w' none := by
  have W0 := hid (qin_yes h0)
  have W1 := hid (qin_yes h1)
  have W2 := hid (qin_yes h2)
  have W3 := hid (qin_yes h3)
  have W4 := hid (qin_yes h4)
  have W5 := hid (qin_no h5)
  clear h0 h1 h2 h3 h4 h5
  go_enter Try.func37, Try.ntmps37
  go_wp2_with fail
  refine (W0.out _).mono ?_
  rintro e w1 ⟨rfl, rfl⟩
  go_wp2_with fail
  refine (W1.out _).mono ?_
  rintro e w1 ⟨rfl, rfl⟩
  go_wp2_with fail
  refine (W2.out _).mono ?_
  rintro e w1 ⟨rfl, rfl⟩
  go_wp2_with fail
  refine (W3.out _).mono ?_
  rintro e w1 ⟨rfl, rfl⟩
  go_wp2_with fail
  refine (W4.out _).mono ?_
  rintro e w1 ⟨rfl, rfl⟩
  go_wp2_with fail
  refine (W5.out _).mono ?_
  rintro e w1 ⟨rfl, rfl⟩
  go_wp2_with fail
  go_ret
  exact ⟨rfl, gb_alloc (.refl w none) _⟩
set_option maxHeartbeats 1600000 in
theorem rmay_no6 (c : Conf) (h0 : 1 ≤ c.min ∧ c.min ≤ 10000) (h1 : c.min ≤ c.max ∧ c.max ≤ 10000) (h2 : 1 ≤ c.podsup ∧ c.podsup ≤ 1000) (h3 : 1 ≤ c.pctup ∧ c.pctup ≤ 1000) (h4 : 1 ≤ c.podsdown ∧ c.podsdown ≤ 1000) (h5 : 1 ≤ c.pctdown ∧ c.pctdown ≤ 100) (h6 : ¬ (1 ≤ c.period ∧ c.period ≤ 60)) (w : World) :
    Calls Try.prog 37 #[cf c] w fun e w' => e = .returned (.bool false) ∧ w.grownBy w' none := by
  have W0 := hid (qin_yes h0)
  have W1 := hid (qin_yes h1)
  have W2 := hid (qin_yes h2)
  have W3 := hid (qin_yes h3)
  have W4 := hid (qin_yes h4)
  have W5 := hid (qin_yes h5)
  have W6 := hid (qin_no h6)
  clear h0 h1 h2 h3 h4 h5 h6
  go_enter Try.func37, Try.ntmps37
  go_wp2_with fail
  refine (W0.out _).mono ?_
  rintro e w1 ⟨rfl, rfl⟩
  go_wp2_with fail
  refine (W1.out _).mono ?_
  rintro e w1 ⟨rfl, rfl⟩
  go_wp2_with fail
  refine (W2.out _).mono ?_
  rintro e w1 ⟨rfl, rfl⟩
  go_wp2_with fail
  refine (W3.out _).mono ?_
  rintro e w1 ⟨rfl, rfl⟩
  go_wp2_with fail
  refine (W4.out _).mono ?_
  rintro e w1 ⟨rfl, rfl⟩
  go_wp2_with fail
  refine (W5.out _).mono ?_
  rintro e w1 ⟨rfl, rfl⟩
  go_wp2_with fail
  refine (W6.out _).mono ?_
  rintro e w1 ⟨rfl, rfl⟩
  go_wp2_with fail
  go_ret
  exact ⟨rfl, gb_alloc (.refl w none) _⟩
set_option maxHeartbeats 1600000 in
theorem rmay_yes (c : Conf) (h0 : 1 ≤ c.min ∧ c.min ≤ 10000) (h1 : c.min ≤ c.max ∧ c.max ≤ 10000) (h2 : 1 ≤ c.podsup ∧ c.podsup ≤ 1000) (h3 : 1 ≤ c.pctup ∧ c.pctup ≤ 1000) (h4 : 1 ≤ c.podsdown ∧ c.podsdown ≤ 1000) (h5 : 1 ≤ c.pctdown ∧ c.pctdown ≤ 100) (h6 : 1 ≤ c.period ∧ c.period ≤ 60) (w : World) :
    Calls Try.prog 37 #[cf c] w fun e w' => e = .returned (.bool true) ∧ w.grownBy w' none := by
  have W0 := hid (qin_yes h0)
  have W1 := hid (qin_yes h1)
  have W2 := hid (qin_yes h2)
  have W3 := hid (qin_yes h3)
  have W4 := hid (qin_yes h4)
  have W5 := hid (qin_yes h5)
  have W6 := hid (qin_yes h6)
  clear h0 h1 h2 h3 h4 h5 h6
  go_enter Try.func37, Try.ntmps37
  go_wp2_with fail
  refine (W0.out _).mono ?_
  rintro e w1 ⟨rfl, rfl⟩
  go_wp2_with fail
  refine (W1.out _).mono ?_
  rintro e w1 ⟨rfl, rfl⟩
  go_wp2_with fail
  refine (W2.out _).mono ?_
  rintro e w1 ⟨rfl, rfl⟩
  go_wp2_with fail
  refine (W3.out _).mono ?_
  rintro e w1 ⟨rfl, rfl⟩
  go_wp2_with fail
  refine (W4.out _).mono ?_
  rintro e w1 ⟨rfl, rfl⟩
  go_wp2_with fail
  refine (W5.out _).mono ?_
  rintro e w1 ⟨rfl, rfl⟩
  go_wp2_with fail
  refine (W6.out _).mono ?_
  rintro e w1 ⟨rfl, rfl⟩
  go_wp2_with fail
  go_ret
  exact ⟨rfl, gb_alloc (.refl w none) _⟩
theorem rmayr_any (c : Conf) (w : World) :
    Calls Try.prog 37 #[cf c] w fun e w' => e = .returned (.bool (rt c).may) ∧ w.grownBy w' none := by
  by_cases h0 : 1 ≤ c.min ∧ c.min ≤ 10000
  rotate_left
  · have hm : (rt c).may = false := by
      cases hb : (rt c).may with
      | false => rfl
      | true => exact absurd (Rt.may_iff.1 hb).mn h0
    rw [hm]; exact rmay_no0 c h0 w
  by_cases h1 : c.min ≤ c.max ∧ c.max ≤ 10000
  rotate_left
  · have hm : (rt c).may = false := by
      cases hb : (rt c).may with
      | false => rfl
      | true => exact absurd (Rt.may_iff.1 hb).mx h1
    rw [hm]; exact rmay_no1 c h0 h1 w
  by_cases h2 : 1 ≤ c.podsup ∧ c.podsup ≤ 1000
  rotate_left
  · have hm : (rt c).may = false := by
      cases hb : (rt c).may with
      | false => rfl
      | true => exact absurd (Rt.may_iff.1 hb).pu h2
    rw [hm]; exact rmay_no2 c h0 h1 h2 w
  by_cases h3 : 1 ≤ c.pctup ∧ c.pctup ≤ 1000
  rotate_left
  · have hm : (rt c).may = false := by
      cases hb : (rt c).may with
      | false => rfl
      | true => exact absurd (Rt.may_iff.1 hb).cu h3
    rw [hm]; exact rmay_no3 c h0 h1 h2 h3 w
  by_cases h4 : 1 ≤ c.podsdown ∧ c.podsdown ≤ 1000
  rotate_left
  · have hm : (rt c).may = false := by
      cases hb : (rt c).may with
      | false => rfl
      | true => exact absurd (Rt.may_iff.1 hb).pd h4
    rw [hm]; exact rmay_no4 c h0 h1 h2 h3 h4 w
  by_cases h5 : 1 ≤ c.pctdown ∧ c.pctdown ≤ 100
  rotate_left
  · have hm : (rt c).may = false := by
      cases hb : (rt c).may with
      | false => rfl
      | true => exact absurd (Rt.may_iff.1 hb).cd h5
    rw [hm]; exact rmay_no5 c h0 h1 h2 h3 h4 h5 w
  by_cases h6 : 1 ≤ c.period ∧ c.period ≤ 60
  rotate_left
  · have hm : (rt c).may = false := by
      cases hb : (rt c).may with
      | false => rfl
      | true => exact absurd (Rt.may_iff.1 hb).per h6
    rw [hm]; exact rmay_no6 c h0 h1 h2 h3 h4 h5 h6 w
  have hm : (rt c).may = true := Rt.may_iff.2 ⟨h2, h3, h4, h5, h6, h0, h1⟩
  rw [hm]; exact rmay_yes c h0 h1 h2 h3 h4 h5 h6 w
end Go.Proofs.Ytmhpldnmapjghaa
