/-
  Contracts for package policy: the object, its inner functions; the document's own rates and bounds. The condition of a call: the object lies there, a slice reads as numbers.
  Contracts for package policy: the bounds, of the program and of the document; what is kept, copies into the object. The condition of a call: the object lies there, a slice reads as numbers.
-/
import Derived.Test.YthobbekocimcnaaGreatZ1
import Derived.Test.YthobbekocimcnaaGreatZ2
import Derived.Test.YthobbekocimcnaaGreatZ3
import Derived.Laws.CopyRow
import Derived.LoopTactic
import Derived.BigQuiet
import Derived.Deep.QuietTactic
import Derived.WalkSpells
import Derived.WalkLawsBesides
section
set_option linter.unusedSimpArgs false
set_option linter.unusedVariables false
namespace Go.Proofs.YthobbekocimcnaaGreat
set_option maxRecDepth 100000
open Go.RowKit

/-- the rates as cells, and as a value -/
@[reducible] def rtCells (r : Rt) : Array Value := #[.int .i64 r.pu, .int .i64 r.cu, .int .i64 r.pd, .int .i64 r.cd, .int .i64 r.per, .int .i64 r.mn, .int .i64 r.mx]
@[reducible] def rv (r : Rt) : Value := .agg (rtCells r)
/-- a configuration's rates -/
@[reducible] def rt (c : Conf) : Rt := ⟨c.podsup, c.pctup, c.podsdown, c.pctdown, c.period, c.min, c.max⟩
@[reducible] def rt0 : Rt := ⟨0, 0, 0, 0, 0, 0, 0⟩
/-- the cells of a Policy -/
def poCells (r : Rt) (n : Nat) (ws : List Int) : Array Value := ((r.pu :: r.cu :: r.pd :: r.cd :: r.per :: r.mn :: r.mx :: (n : Int) :: ws).map iv).toArray
/-- the object lies there, with the numbers as they are -/
def PoTop (w : World) (b : Nat) (p : Po) : Prop := ∃ ws : List Int, ws.length = 60 ∧ ws.take p.l.length = p.l ∧ w.heap[b]? = some (.cells (poCells p.r p.l.length ws) 84)
structure PoAt (w : World) (b : Nat) (p : Po) : Prop where
  top : PoTop w b p
  ok : p.Ok
section
variable {w w' : World} {F : List Nat} {b : Nat} {p : Po}
theorem PoAt.chg (H : PoAt w b p) (hc : Chg F w w') (hb : b ∉ F) : PoAt w' b p := by
  obtain ⟨⟨ws, h1, h2, h3⟩, ho⟩ := H
  exact ⟨⟨ws, h1, h2, hc.at h3 hb⟩, ho⟩
theorem PoAt.grown (H : PoAt w b p) (hg : w.grownBy w' none) : PoAt w' b p := H.chg (chg_grown hg []) (by simp)
theorem PoAt.drew (H : PoAt w b p) : PoAt w.drew b p := ⟨H.top, H.ok⟩
theorem PoAt.drewN (H : PoAt w b p) (n : Nat) : PoAt (w.drewN n) b p := ⟨H.top, H.ok⟩
theorem PoAt.lt (H : PoAt w b p) : b < w.heap.size := by obtain ⟨⟨ws, _, _, h3⟩, _⟩ := H; exact at_lt h3
theorem po_cell4 (r : Rt) (n : Nat) (ws : List Int) : (poCells r n ws)[4]? = some (.int .i64 r.per) := by simp [poCells, iv]
theorem po_cell5 (r : Rt) (n : Nat) (ws : List Int) : (poCells r n ws)[5]? = some (.int .i64 r.mn) := by simp [poCells, iv]
theorem po_cell6 (r : Rt) (n : Nat) (ws : List Int) : (poCells r n ws)[6]? = some (.int .i64 r.mx) := by simp [poCells, iv]
theorem po_cell7 (r : Rt) (n : Nat) (ws : List Int) : (poCells r n ws)[7]? = some (.int .i64 (n : Int)) := by simp [poCells, iv]
theorem po_cellk (r : Rt) (n : Nat) (ws : List Int) (k : Nat) : (poCells r n ws)[8 + k]? = (ws[k]?).map iv := by
  rw [poCells, List.getElem?_toArray, Nat.add_comm]; simp
theorem Po.Ok.n60 (h : p.Ok) : p.l.length ≤ 60 := by
  have := h.n; have := h.r.per
  omega
theorem Po.Ok.n1 (h : p.Ok) : 1 ≤ p.l.length := by
  have := List.length_pos_iff.2 h.ne
  omega
theorem PoTop.grown (H : PoTop w b p) (hg : w.grownBy w' none) : PoTop w' b p := by
  obtain ⟨ws, h1, h2, h3⟩ := H
  exact ⟨ws, h1, h2, at_grown h3 hg (by simp)⟩
theorem PoTop.cells (H : PoTop w b p) : w.cell? ⟨b, 4, none⟩ = some (.int .i64 p.r.per) ∧ w.cell? ⟨b, 5, none⟩ = some (.int .i64 p.r.mn) ∧ w.cell? ⟨b, 6, none⟩ = some (.int .i64 p.r.mx) ∧ w.cell? ⟨b, 7, none⟩ = some (.int .i64 (p.l.length : Int)) ∧ ∀ k, w.frozen? ⟨b, k, none⟩ = false := by
  obtain ⟨ws, h1, h2, h3⟩ := H
  exact ⟨by rw [at_cell h3, po_cell4], by rw [at_cell h3, po_cell5], by rw [at_cell h3, po_cell6], by rw [at_cell h3, po_cell7], fun k => at_free h3 k⟩
theorem PoAt.cells (H : PoAt w b p) : w.cell? ⟨b, 4, none⟩ = some (.int .i64 p.r.per) ∧ w.cell? ⟨b, 5, none⟩ = some (.int .i64 p.r.mn) ∧ w.cell? ⟨b, 6, none⟩ = some (.int .i64 p.r.mx) ∧ w.cell? ⟨b, 7, none⟩ = some (.int .i64 (p.l.length : Int)) ∧ ∀ k, w.frozen? ⟨b, k, none⟩ = false := H.top.cells
theorem PoTop.ints (H : PoTop w b p) (hn : p.l.length ≤ 60) : IntsAt w (.slice (some ⟨b, 8, none⟩) p.l.length 60) p.l := by
  obtain ⟨ws, h1, h2, h3⟩ := H
  refine .inr ⟨_, 60, rfl, hn, by unfold maxLen; omega, fun i hi => ?_⟩
  rw [iadd_at, at_cell h3, po_cellk]
  have : p.l[i]? = ws[i]? := by
    have e : (ws.take p.l.length)[i]? = p.l[i]? := by rw [h2]
    rw [← e, List.getElem?_take, if_pos hi]
  rw [← this, List.getElem?_eq_getElem hi]; rfl
theorem PoAt.ints (H : PoAt w b p) : IntsAt w (.slice (some ⟨b, 8, none⟩) p.l.length 60) p.l := H.top.ints H.ok.n60
end

/-- which numbers are within -/
theorem pin_any (n lo hi : Int) (w : World) :
    Calls Tryz.prog 71 #[.int .i64 n, .int .i64 lo, .int .i64 hi] w fun e w' => e = .returned (.bool (decide (lo ≤ n) && decide (n ≤ hi))) ∧ w = w' := by
  by_cases h1 : lo ≤ n <;> by_cases h2 : n ≤ hi <;> (
  go_enter Tryz.func71, Tryz.ntmps71
  go_wp2_with fail
  go_ret
  simp [h1, h2])
theorem pin_yes {n lo hi : Int} (h : lo ≤ n ∧ n ≤ hi) (w : World) :
    Calls Tryz.prog 71 #[.int .i64 n, .int .i64 lo, .int .i64 hi] w fun e w' => e = .returned (.bool true) ∧ w = w' := by
  refine (pin_any n lo hi w).mono ?_
  rintro e w' ⟨rfl, rfl⟩
  exact ⟨by simp [h], rfl⟩
theorem pin_no {n lo hi : Int} (h : ¬ (lo ≤ n ∧ n ≤ hi)) (w : World) :
    Calls Tryz.prog 71 #[.int .i64 n, .int .i64 lo, .int .i64 hi] w fun e w' => e = .returned (.bool false) ∧ w = w' := by
  refine (pin_any n lo hi w).mono ?_
  rintro e w' ⟨rfl, rfl⟩
  refine ⟨?_, rfl⟩
  rw [show (decide (lo ≤ n) && decide (n ≤ hi)) = false by
    cases hb : (decide (lo ≤ n) && decide (n ≤ hi)) with
    | false => rfl
    | true => simp at hb; exact absurd hb h]
theorem qin_any (n lo hi : Int) (w : World) :
    Calls Tryz.prog 72 #[.int .i64 n, .int .i64 lo, .int .i64 hi] w fun e w' => e = .returned (.bool (decide (lo ≤ n) && decide (n ≤ hi))) ∧ w = w' := by
  by_cases h1 : lo ≤ n <;> by_cases h2 : n ≤ hi <;> (
  go_enter Tryz.func72, Tryz.ntmps72
  go_wp2_with fail
  go_ret
  simp [h1, h2])
theorem qin_yes {n lo hi : Int} (h : lo ≤ n ∧ n ≤ hi) (w : World) :
    Calls Tryz.prog 72 #[.int .i64 n, .int .i64 lo, .int .i64 hi] w fun e w' => e = .returned (.bool true) ∧ w = w' := by
  refine (qin_any n lo hi w).mono ?_
  rintro e w' ⟨rfl, rfl⟩
  exact ⟨by simp [h], rfl⟩
theorem qin_no {n lo hi : Int} (h : ¬ (lo ≤ n ∧ n ≤ hi)) (w : World) :
    Calls Tryz.prog 72 #[.int .i64 n, .int .i64 lo, .int .i64 hi] w fun e w' => e = .returned (.bool false) ∧ w = w' := by
  refine (qin_any n lo hi w).mono ?_
  rintro e w' ⟨rfl, rfl⟩
  refine ⟨?_, rfl⟩
  rw [show (decide (lo ≤ n) && decide (n ≤ hi)) = false by
    cases hb : (decide (lo ≤ n) && decide (n ≤ hi)) with
    | false => rfl
    | true => simp at hb; exact absurd hb h]
theorem clamp_any (n lo hi : Int) (w : World) :
    Calls Tryz.prog 55 #[.int .i64 n, .int .i64 lo, .int .i64 hi] w fun e w' => e = .returned (.int .i64 (min (max n lo) hi)) ∧ w = w' := by
  go_enter Tryz.func55, Tryz.ntmps55
  go_wp2_with fail
  all_goals go_ret
  all_goals exact ⟨congrArg (fun z => Ending.returned (.int .i64 z)) (by omega), rfl⟩
def inR (r : Rt) (x : Int) : Bool := decide (r.mn ≤ x) && decide (x ≤ r.mx)
theorem pbeyond_any (r : Rt) (x : Int) (w : World) :
    Calls Tryz.prog 43 #[rv r, .int .i64 x] w fun e w' => e = .returned (.bool (!inR r x)) ∧ w.grownBy w' none := by
  have H := hid (pin_any x r.mn r.mx)
  unfold inR
  generalize (decide (r.mn ≤ x) && decide (x ≤ r.mx)) = z at *
  go_enter Tryz.func43, Tryz.ntmps43
  go_wp2_with fail
  refine (H.out _).mono ?_
  rintro e w1 ⟨rfl, rfl⟩
  go_wp2_with fail
  go_ret
  exact ⟨rfl, gb_alloc (.refl w none) _⟩
set_option maxHeartbeats 1600000 in
theorem rules_no0 (c : Conf)  (h0 : ¬ (1 ≤ c.podsup ∧ c.podsup ≤ 1000)) (w : World) :
    Calls Tryz.prog 42 #[cf c] w fun e w' => e = .returned (.tuple #[rv rt0, .bool false]) ∧ w.grownBy w' none := by
  have W0 := hid (pin_no h0)
  clear h0
  go_enter Tryz.func42, Tryz.ntmps42
  go_wp2_with fail
  refine (W0.out _).mono ?_
  rintro e w1 ⟨rfl, rfl⟩
  go_wp2_with fail
  exact bodyPost_ret (v := .tuple #[rv rt0, .bool false]) (by simp [results, Tryz.results42, go_sem]; try rfl) rfl ⟨rfl, gb_alloc (gb_alloc (.refl w none) _) _⟩
set_option maxHeartbeats 1600000 in
theorem rules_no1 (c : Conf) (h0 : 1 ≤ c.podsup ∧ c.podsup ≤ 1000) (h1 : ¬ (1 ≤ c.pctup ∧ c.pctup ≤ 1000)) (w : World) :
    Calls Tryz.prog 42 #[cf c] w fun e w' => e = .returned (.tuple #[rv rt0, .bool false]) ∧ w.grownBy w' none := by
  have W0 := hid (pin_yes h0)
  have W1 := hid (pin_no h1)
  clear h0 h1
  go_enter Tryz.func42, Tryz.ntmps42
  go_wp2_with fail
  refine (W0.out _).mono ?_
  rintro e w1 ⟨rfl, rfl⟩
  go_wp2_with fail
  refine (W1.out _).mono ?_
  rintro e w1 ⟨rfl, rfl⟩
  go_wp2_with fail
  exact bodyPost_ret (v := .tuple #[rv rt0, .bool false]) (by simp [results, Tryz.results42, go_sem]; try rfl) rfl ⟨rfl, gb_alloc (gb_alloc (.refl w none) _) _⟩
set_option maxHeartbeats 1600000 in
theorem rules_no2 (c : Conf) (h0 : 1 ≤ c.podsup ∧ c.podsup ≤ 1000) (h1 : 1 ≤ c.pctup ∧ c.pctup ≤ 1000) (h2 : ¬ (1 ≤ c.podsdown ∧ c.podsdown ≤ 1000)) (w : World) :
    Calls Tryz.prog 42 #[cf c] w fun e w' => e = .returned (.tuple #[rv rt0, .bool false]) ∧ w.grownBy w' none := by
  have W0 := hid (pin_yes h0)
  have W1 := hid (pin_yes h1)
  have W2 := hid (pin_no h2)
  clear h0 h1 h2
  go_enter Tryz.func42, Tryz.ntmps42
  go_wp2_with fail
  refine (W0.out _).mono ?_
  rintro e w1 ⟨rfl, rfl⟩
  go_wp2_with fail
  refine (W1.out _).mono ?_
  rintro e w1 ⟨rfl, rfl⟩
  go_wp2_with fail
  refine (W2.out _).mono ?_
  rintro e w1 ⟨rfl, rfl⟩
  go_wp2_with fail
  exact bodyPost_ret (v := .tuple #[rv rt0, .bool false]) (by simp [results, Tryz.results42, go_sem]; try rfl) rfl ⟨rfl, gb_alloc (gb_alloc (.refl w none) _) _⟩
set_option maxHeartbeats 1600000 in
theorem rules_no3 (c : Conf) (h0 : 1 ≤ c.podsup ∧ c.podsup ≤ 1000) (h1 : 1 ≤ c.pctup ∧ c.pctup ≤ 1000) (h2 : 1 ≤ c.podsdown ∧ c.podsdown ≤ 1000) (h3 : ¬ (1 ≤ c.pctdown ∧ c.pctdown ≤ 100)) (w : World) :
    Calls Tryz.prog 42 #[cf c] w fun e w' => e = .returned (.tuple #[rv rt0, .bool false]) ∧ w.grownBy w' none := by
  have W0 := hid (pin_yes h0)
  have W1 := hid (pin_yes h1)
  have W2 := hid (pin_yes h2)
  have W3 := hid (pin_no h3)
  clear h0 h1 h2 h3
  go_enter Tryz.func42, Tryz.ntmps42
  go_wp2_with fail
  refine (W0.out _).mono ?_
  rintro e w1 ⟨rfl, rfl⟩
  go_wp2_with fail
  refine (W1.out _).mono ?_
  rintro e w1 ⟨rfl, rfl⟩
  go_wp2_with fail
  refine (W2.out _).mono ?_
  rintro e w1 ⟨rfl, rfl⟩
  go_wp2_with fail
  refine (W3.out _).mono ?_
  rintro e w1 ⟨rfl, rfl⟩
  go_wp2_with fail
  exact bodyPost_ret (v := .tuple #[rv rt0, .bool false]) (by simp [results, Tryz.results42, go_sem]; try rfl) rfl ⟨rfl, gb_alloc (gb_alloc (.refl w none) _) _⟩
set_option maxHeartbeats 1600000 in
theorem rules_no4 (c : Conf) (h0 : 1 ≤ c.podsup ∧ c.podsup ≤ 1000) (h1 : 1 ≤ c.pctup ∧ c.pctup ≤ 1000) (h2 : 1 ≤ c.podsdown ∧ c.podsdown ≤ 1000) (h3 : 1 ≤ c.pctdown ∧ c.pctdown ≤ 100) (h4 : ¬ (1 ≤ c.period ∧ c.period ≤ 60)) (w : World) :
    Calls Tryz.prog 42 #[cf c] w fun e w' => e = .returned (.tuple #[rv rt0, .bool false]) ∧ w.grownBy w' none := by
  have W0 := hid (pin_yes h0)
  have W1 := hid (pin_yes h1)
  have W2 := hid (pin_yes h2)
  have W3 := hid (pin_yes h3)
  have W4 := hid (pin_no h4)
  clear h0 h1 h2 h3 h4
  go_enter Tryz.func42, Tryz.ntmps42
  go_wp2_with fail
  refine (W0.out _).mono ?_
  rintro e w1 ⟨rfl, rfl⟩
  go_wp2_with fail
  refine (W1.out _).mono ?_
  rintro e w1 ⟨rfl, rfl⟩
  go_wp2_with fail
  refine (W2.out _).mono ?_
  rintro e w1 ⟨rfl, rfl⟩
  go_wp2_with fail
  refine (W3.out _).mono ?_
  rintro e w1 ⟨rfl, rfl⟩
  go_wp2_with fail
  refine (W4.out _).mono ?_
  rintro e w1 ⟨rfl, rfl⟩
  go_wp2_with fail
  exact bodyPost_ret (v := .tuple #[rv rt0, .bool false]) (by simp [results, Tryz.results42, go_sem]; try rfl) rfl ⟨rfl, gb_alloc (gb_alloc (.refl w none) _) _⟩
set_option maxHeartbeats 1600000 in
theorem rules_no5 (c : Conf) (h0 : 1 ≤ c.podsup ∧ c.podsup ≤ 1000) (h1 : 1 ≤ c.pctup ∧ c.pctup ≤ 1000) (h2 : 1 ≤ c.podsdown ∧ c.podsdown ≤ 1000) (h3 : 1 ≤ c.pctdown ∧ c.pctdown ≤ 100) (h4 : 1 ≤ c.period ∧ c.period ≤ 60) (h5 : ¬ (1 ≤ c.min ∧ c.min ≤ 10000)) (w : World) :
    Calls Tryz.prog 42 #[cf c] w fun e w' => e = .returned (.tuple #[rv rt0, .bool false]) ∧ w.grownBy w' none := by
  have W0 := hid (pin_yes h0)
  have W1 := hid (pin_yes h1)
  have W2 := hid (pin_yes h2)
  have W3 := hid (pin_yes h3)
  have W4 := hid (pin_yes h4)
  have W5 := hid (pin_no h5)
  clear h0 h1 h2 h3 h4 h5
  go_enter Tryz.func42, Tryz.ntmps42
  go_wp2_with fail
  refine (W0.out _).mono ?_
  rintro e w1 ⟨rfl, rfl⟩
  go_wp2_with fail
  refine (W1.out _).mono ?_
  rintro e w1 ⟨rfl, rfl⟩
  go_wp2_with fail
  refine (W2.out _).mono ?_
  rintro e w1 ⟨rfl, rfl⟩
  go_wp2_with fail
  refine (W3.out _).mono ?_
  rintro e w1 ⟨rfl, rfl⟩
  go_wp2_with fail
  refine (W4.out _).mono ?_
  rintro e w1 ⟨rfl, rfl⟩
  go_wp2_with fail
  refine (W5.out _).mono ?_
  rintro e w1 ⟨rfl, rfl⟩
  go_wp2_with fail
  exact bodyPost_ret (v := .tuple #[rv rt0, .bool false]) (by simp [results, Tryz.results42, go_sem]; try rfl) rfl ⟨rfl, gb_alloc (gb_alloc (.refl w none) _) _⟩
set_option maxHeartbeats 1600000 in
theorem rules_no6 (c : Conf) (h0 : 1 ≤ c.podsup ∧ c.podsup ≤ 1000) (h1 : 1 ≤ c.pctup ∧ c.pctup ≤ 1000) (h2 : 1 ≤ c.podsdown ∧ c.podsdown ≤ 1000) (h3 : 1 ≤ c.pctdown ∧ c.pctdown ≤ 100) (h4 : 1 ≤ c.period ∧ c.period ≤ 60) (h5 : 1 ≤ c.min ∧ c.min ≤ 10000) (h6 : ¬ (c.min ≤ c.max ∧ c.max ≤ 10000)) (w : World) :
    Calls Tryz.prog 42 #[cf c] w fun e w' => e = .returned (.tuple #[rv rt0, .bool false]) ∧ w.grownBy w' none := by
  have W0 := hid (pin_yes h0)
  have W1 := hid (pin_yes h1)
  have W2 := hid (pin_yes h2)
  have W3 := hid (pin_yes h3)
  have W4 := hid (pin_yes h4)
  have W5 := hid (pin_yes h5)
  have W6 := hid (pin_no h6)
  clear h0 h1 h2 h3 h4 h5 h6
  go_enter Tryz.func42, Tryz.ntmps42
  go_wp2_with fail
  refine (W0.out _).mono ?_
  rintro e w1 ⟨rfl, rfl⟩
  go_wp2_with fail
  refine (W1.out _).mono ?_
  rintro e w1 ⟨rfl, rfl⟩
  go_wp2_with fail
  refine (W2.out _).mono ?_
  rintro e w1 ⟨rfl, rfl⟩
  go_wp2_with fail
  refine (W3.out _).mono ?_
  rintro e w1 ⟨rfl, rfl⟩
  go_wp2_with fail
  refine (W4.out _).mono ?_
  rintro e w1 ⟨rfl, rfl⟩
  go_wp2_with fail
  refine (W5.out _).mono ?_
  rintro e w1 ⟨rfl, rfl⟩
  go_wp2_with fail
  refine (W6.out _).mono ?_
  rintro e w1 ⟨rfl, rfl⟩
  go_wp2_with fail
  exact bodyPost_ret (v := .tuple #[rv rt0, .bool false]) (by simp [results, Tryz.results42, go_sem]; try rfl) rfl ⟨rfl, gb_alloc (gb_alloc (.refl w none) _) _⟩
set_option maxHeartbeats 1600000 in
theorem rules_yes (c : Conf) (h0 : 1 ≤ c.podsup ∧ c.podsup ≤ 1000) (h1 : 1 ≤ c.pctup ∧ c.pctup ≤ 1000) (h2 : 1 ≤ c.podsdown ∧ c.podsdown ≤ 1000) (h3 : 1 ≤ c.pctdown ∧ c.pctdown ≤ 100) (h4 : 1 ≤ c.period ∧ c.period ≤ 60) (h5 : 1 ≤ c.min ∧ c.min ≤ 10000) (h6 : c.min ≤ c.max ∧ c.max ≤ 10000) (w : World) :
    Calls Tryz.prog 42 #[cf c] w fun e w' => e = .returned (.tuple #[rv (rt c), .bool true]) ∧ w.grownBy w' none := by
  have W0 := hid (pin_yes h0)
  have W1 := hid (pin_yes h1)
  have W2 := hid (pin_yes h2)
  have W3 := hid (pin_yes h3)
  have W4 := hid (pin_yes h4)
  have W5 := hid (pin_yes h5)
  have W6 := hid (pin_yes h6)
  clear h0 h1 h2 h3 h4 h5 h6
  go_enter Tryz.func42, Tryz.ntmps42
  go_wp2_with fail
  refine (W0.out _).mono ?_
  rintro e w1 ⟨rfl, rfl⟩
  go_wp2_with fail
  refine (W1.out _).mono ?_
  rintro e w1 ⟨rfl, rfl⟩
  go_wp2_with fail
  refine (W2.out _).mono ?_
  rintro e w1 ⟨rfl, rfl⟩
  go_wp2_with fail
  refine (W3.out _).mono ?_
  rintro e w1 ⟨rfl, rfl⟩
  go_wp2_with fail
  refine (W4.out _).mono ?_
  rintro e w1 ⟨rfl, rfl⟩
  go_wp2_with fail
  refine (W5.out _).mono ?_
  rintro e w1 ⟨rfl, rfl⟩
  go_wp2_with fail
  refine (W6.out _).mono ?_
  rintro e w1 ⟨rfl, rfl⟩
  go_wp2_with fail
  exact bodyPost_ret (v := .tuple #[rv (rt c), .bool true]) (by simp [results, Tryz.results42, go_sem]; try rfl) rfl ⟨rfl, gb_alloc (gb_alloc (.refl w none) _) _⟩
theorem rules_any (c : Conf) (w : World) :
    Calls Tryz.prog 42 #[cf c] w fun e w' => e = .returned (.tuple #[rv (if (rt c).may then rt c else rt0), .bool (rt c).may]) ∧ w.grownBy w' none := by
  by_cases h0 : 1 ≤ c.podsup ∧ c.podsup ≤ 1000
  rotate_left
  · have hm : (rt c).may = false := by
      cases hb : (rt c).may with
      | false => rfl
      | true => exact absurd (Rt.may_iff.1 hb).pu h0
    rw [hm]; exact rules_no0 c h0 w
  by_cases h1 : 1 ≤ c.pctup ∧ c.pctup ≤ 1000
  rotate_left
  · have hm : (rt c).may = false := by
      cases hb : (rt c).may with
      | false => rfl
      | true => exact absurd (Rt.may_iff.1 hb).cu h1
    rw [hm]; exact rules_no1 c h0 h1 w
  by_cases h2 : 1 ≤ c.podsdown ∧ c.podsdown ≤ 1000
  rotate_left
  · have hm : (rt c).may = false := by
      cases hb : (rt c).may with
      | false => rfl
      | true => exact absurd (Rt.may_iff.1 hb).pd h2
    rw [hm]; exact rules_no2 c h0 h1 h2 w
  by_cases h3 : 1 ≤ c.pctdown ∧ c.pctdown ≤ 100
  rotate_left
  · have hm : (rt c).may = false := by
      cases hb : (rt c).may with
      | false => rfl
      | true => exact absurd (Rt.may_iff.1 hb).cd h3
    rw [hm]; exact rules_no3 c h0 h1 h2 h3 w
  by_cases h4 : 1 ≤ c.period ∧ c.period ≤ 60
  rotate_left
  · have hm : (rt c).may = false := by
      cases hb : (rt c).may with
      | false => rfl
      | true => exact absurd (Rt.may_iff.1 hb).per h4
    rw [hm]; exact rules_no4 c h0 h1 h2 h3 h4 w
  by_cases h5 : 1 ≤ c.min ∧ c.min ≤ 10000
  rotate_left
  · have hm : (rt c).may = false := by
      cases hb : (rt c).may with
      | false => rfl
      | true => exact absurd (Rt.may_iff.1 hb).mn h5
    rw [hm]; exact rules_no5 c h0 h1 h2 h3 h4 h5 w
  by_cases h6 : c.min ≤ c.max ∧ c.max ≤ 10000
  rotate_left
  · have hm : (rt c).may = false := by
      cases hb : (rt c).may with
      | false => rfl
      | true => exact absurd (Rt.may_iff.1 hb).mx h6
    rw [hm]; exact rules_no6 c h0 h1 h2 h3 h4 h5 h6 w
  have hm : (rt c).may = true := Rt.may_iff.2 ⟨h0, h1, h2, h3, h4, h5, h6⟩
  rw [hm]; exact rules_yes c h0 h1 h2 h3 h4 h5 h6 w
set_option maxHeartbeats 1600000 in
theorem rmay_no0 (c : Conf)  (h0 : ¬ (1 ≤ c.min ∧ c.min ≤ 10000)) (w : World) :
    Calls Tryz.prog 48 #[cf c] w fun e w' => e = .returned (.bool false) ∧ w.grownBy w' none := by
  have W0 := hid (qin_no h0)
  clear h0
  go_enter Tryz.func48, Tryz.ntmps48
  go_wp2_with fail
  refine (W0.out _).mono ?_
  rintro e w1 ⟨rfl, rfl⟩
  go_wp2_with fail
  go_ret
  exact ⟨rfl, gb_alloc (.refl w none) _⟩
set_option maxHeartbeats 1600000 in
theorem rmay_no1 (c : Conf) (h0 : 1 ≤ c.min ∧ c.min ≤ 10000) (h1 : ¬ (c.min ≤ c.max ∧ c.max ≤ 10000)) (w : World) :
    Calls Tryz.prog 48 #[cf c] w fun e w' => e = .returned (.bool false) ∧ w.grownBy w' none := by
  have W0 := hid (qin_yes h0)
  have W1 := hid (qin_no h1)
  clear h0 h1
  go_enter Tryz.func48, Tryz.ntmps48
  go_wp2_with fail
  refine (W0.out _).mono ?_
  rintro e w1 ⟨rfl, rfl⟩
  go_wp2_with fail
  refine (W1.out _).mono ?_
  rintro e w1 ⟨rfl, rfl⟩
  go_wp2_with fail
  go_ret
  exact ⟨rfl, gb_alloc (.refl w none) _⟩
set_option maxHeartbeats 1600000 in
theorem rmay_no2 (c : Conf) (h0 : 1 ≤ c.min ∧ c.min ≤ 10000) (h1 : c.min ≤ c.max ∧ c.max ≤ 10000) (h2 : ¬ (1 ≤ c.podsup ∧ c.podsup ≤ 1000)) (w : World) :
    Calls Tryz.prog 48 #[cf c] w fun e w' => e = .returned (.bool false) ∧ w.grownBy w' none := by
  have W0 := hid (qin_yes h0)
  have W1 := hid (qin_yes h1)
  have W2 := hid (qin_no h2)
  clear h0 h1 h2
  go_enter Tryz.func48, Tryz.ntmps48
  go_wp2_with fail
  refine (W0.out _).mono ?_
  rintro e w1 ⟨rfl, rfl⟩
  go_wp2_with fail
  refine (W1.out _).mono ?_
  rintro e w1 ⟨rfl, rfl⟩
  go_wp2_with fail
  refine (W2.out _).mono ?_
  rintro e w1 ⟨rfl, rfl⟩
  go_wp2_with fail
  go_ret
  exact ⟨rfl, gb_alloc (.refl w none) _⟩
set_option maxHeartbeats 1600000 in
theorem rmay_no3 (c : Conf) (h0 : 1 ≤ c.min ∧ c.min ≤ 10000) (h1 : c.min ≤ c.max ∧ c.max ≤ 10000) (h2 : 1 ≤ c.podsup ∧ c.podsup ≤ 1000) (h3 : ¬ (1 ≤ c.pctup ∧ c.pctup ≤ 1000)) (w : World) :
    Calls Tryz.prog 48 #[cf c] w fun e w' => e = .returned (.bool false) ∧ w.grownBy w' none := by
  have W0 := hid (qin_yes h0)
  have W1 := hid (qin_yes h1)
  have W2 := hid (qin_yes h2)
  have W3 := hid (qin_no h3)
  clear h0 h1 h2 h3
  go_enter Tryz.func48, Tryz.ntmps48
  go_wp2_with fail
  refine (W0.out _).mono ?_
  rintro e w1 ⟨rfl, rfl⟩
  go_wp2_with fail
  refine (W1.out _).mono ?_
  rintro e w1 ⟨rfl, rfl⟩
  go_wp2_with fail
  refine (W2.out _).mono ?_
  rintro e w1 ⟨rfl, rfl⟩
  go_wp2_with fail
  refine (W3.out _).mono ?_
  rintro e w1 ⟨rfl, rfl⟩
  go_wp2_with fail
  go_ret
  exact ⟨rfl, gb_alloc (.refl w none) _⟩
set_option maxHeartbeats 1600000 in
theorem rmay_no4 (c : Conf) (h0 : 1 ≤ c.min ∧ c.min ≤ 10000) (h1 : c.min ≤ c.max ∧ c.max ≤ 10000) (h2 : 1 ≤ c.podsup ∧ c.podsup ≤ 1000) (h3 : 1 ≤ c.pctup ∧ c.pctup ≤ 1000) (h4 : ¬ (1 ≤ c.podsdown ∧ c.podsdown ≤ 1000)) (w : World) :
    Calls Tryz.prog 48 #[cf c] w fun e w' => e = .returned (.bool false) ∧ w.grownBy w' none := by
  have W0 := hid (qin_yes h0)
  have W1 := hid (qin_yes h1)
  have W2 := hid (qin_yes h2)
  have W3 := hid (qin_yes h3)
  have W4 := hid (qin_no h4)
  clear h0 h1 h2 h3 h4
  go_enter Tryz.func48, Tryz.ntmps48
  go_wp2_with fail
  refine (W0.out _).mono ?_
  rintro e w1 ⟨rfl, rfl⟩
  go_wp2_with fail
  refine (W1.out _).mono ?_
  rintro e w1 ⟨rfl, rfl⟩
  go_wp2_with fail
  refine (W2.out _).mono ?_
  rintro e w1 ⟨rfl, rfl⟩
  go_wp2_with fail
  refine (W3.out _).mono ?_
  rintro e w1 ⟨rfl, rfl⟩
  go_wp2_with fail
  refine (W4.out _).mono ?_
  rintro e w1 ⟨rfl, rfl⟩
  go_wp2_with fail
  go_ret
  exact ⟨rfl, gb_alloc (.refl w none) _⟩
set_option maxHeartbeats 1600000 in
theorem rmay_no5 (c : Conf) (h0 : 1 ≤ c.min ∧ c.min ≤ 10000) (h1 : c.min ≤ c.max ∧ c.max ≤ 10000) (h2 : 1 ≤ c.podsup ∧ c.podsup ≤ 1000) (h3 : 1 ≤ c.pctup ∧ c.pctup ≤ 1000) (h4 : 1 ≤ c.podsdown ∧ c.podsdown ≤ 1000) (h5 : ¬ (1 ≤ c.pctdown ∧ c.pctdown ≤ 100)) (w : World) :
    Calls Tryz.prog 48 #[cf c] w fun e w' => e = .returned (.bool false) ∧ w.grownBy w' none := by
  have W0 := hid (qin_yes h0)
  have W1 := hid (qin_yes h1)
  have W2 := hid (qin_yes h2)
  have W3 := hid (qin_yes h3)
  have W4 := hid (qin_yes h4)
  have W5 := hid (qin_no h5)
  clear h0 h1 h2 h3 h4 h5
  go_enter Tryz.func48, Tryz.ntmps48
  go_wp2_with fail
  refine (W0.out _).mono ?_
  rintro e w1 ⟨rfl, rfl⟩
  go_wp2_with fail
  refine (W1.out _).mono ?_
  rintro e w1 ⟨rfl, rfl⟩
  go_wp2_with fail
  refine (W2.out _).mono ?_
  rintro e w1 ⟨rfl, rfl⟩
  go_wp2_with fail
  refine (W3.out _).mono ?_
  rintro e w1 ⟨rfl, rfl⟩
  go_wp2_with fail
  refine (W4.out _).mono ?_
  rintro e w1 ⟨rfl, rfl⟩
  go_wp2_with fail
  refine (W5.out _).mono ?_
  rintro e w1 ⟨rfl, rfl⟩
  go_wp2_with fail
  go_ret
  exact ⟨rfl, gb_alloc (.refl w none) _⟩
set_option maxHeartbeats 1600000 in
theorem rmay_no6 (c : Conf) (h0 : 1 ≤ c.min ∧ c.min ≤ 10000) (h1 : c.min ≤ c.max ∧ c.max ≤ 10000) (h2 : 1 ≤ c.podsup ∧ c.podsup ≤ 1000) (h3 : 1 ≤ c.pctup ∧ c.pctup ≤ 1000) (h4 : 1 ≤ c.podsdown ∧ c.podsdown ≤ 1000) (h5 : 1 ≤ c.pctdown ∧ c.pctdown ≤ 100) (h6 : ¬ (1 ≤ c.period ∧ c.period ≤ 60)) (w : World) :
    Calls Tryz.prog 48 #[cf c] w fun e w' => e = .returned (.bool false) ∧ w.grownBy w' none := by
  have W0 := hid (qin_yes h0)
  have W1 := hid (qin_yes h1)
  have W2 := hid (qin_yes h2)
  have W3 := hid (qin_yes h3)
  have W4 := hid (qin_yes h4)
  have W5 := hid (qin_yes h5)
  have W6 := hid (qin_no h6)
  clear h0 h1 h2 h3 h4 h5 h6
  go_enter Tryz.func48, Tryz.ntmps48
  go_wp2_with fail
  refine (W0.out _).mono ?_
  rintro e w1 ⟨rfl, rfl⟩
  go_wp2_with fail
  refine (W1.out _).mono ?_
  rintro e w1 ⟨rfl, rfl⟩
  go_wp2_with fail
  refine (W2.out _).mono ?_
  rintro e w1 ⟨rfl, rfl⟩
  go_wp2_with fail
  refine (W3.out _).mono ?_
  rintro e w1 ⟨rfl, rfl⟩
  go_wp2_with fail
  refine (W4.out _).mono ?_
  rintro e w1 ⟨rfl, rfl⟩
  go_wp2_with fail
  refine (W5.out _).mono ?_
  rintro e w1 ⟨rfl, rfl⟩
  go_wp2_with fail
  refine (W6.out _).mono ?_
  rintro e w1 ⟨rfl, rfl⟩
  go_wp2_with fail
  go_ret
  exact ⟨rfl, gb_alloc (.refl w none) _⟩
set_option maxHeartbeats 1600000 in
theorem rmay_yes (c : Conf) (h0 : 1 ≤ c.min ∧ c.min ≤ 10000) (h1 : c.min ≤ c.max ∧ c.max ≤ 10000) (h2 : 1 ≤ c.podsup ∧ c.podsup ≤ 1000) (h3 : 1 ≤ c.pctup ∧ c.pctup ≤ 1000) (h4 : 1 ≤ c.podsdown ∧ c.podsdown ≤ 1000) (h5 : 1 ≤ c.pctdown ∧ c.pctdown ≤ 100) (h6 : 1 ≤ c.period ∧ c.period ≤ 60) (w : World) :
    Calls Tryz.prog 48 #[cf c] w fun e w' => e = .returned (.bool true) ∧ w.grownBy w' none := by
  have W0 := hid (qin_yes h0)
  have W1 := hid (qin_yes h1)
  have W2 := hid (qin_yes h2)
  have W3 := hid (qin_yes h3)
  have W4 := hid (qin_yes h4)
  have W5 := hid (qin_yes h5)
  have W6 := hid (qin_yes h6)
  clear h0 h1 h2 h3 h4 h5 h6
  go_enter Tryz.func48, Tryz.ntmps48
  go_wp2_with fail
  refine (W0.out _).mono ?_
  rintro e w1 ⟨rfl, rfl⟩
  go_wp2_with fail
  refine (W1.out _).mono ?_
  rintro e w1 ⟨rfl, rfl⟩
  go_wp2_with fail
  refine (W2.out _).mono ?_
  rintro e w1 ⟨rfl, rfl⟩
  go_wp2_with fail
  refine (W3.out _).mono ?_
  rintro e w1 ⟨rfl, rfl⟩
  go_wp2_with fail
  refine (W4.out _).mono ?_
  rintro e w1 ⟨rfl, rfl⟩
  go_wp2_with fail
  refine (W5.out _).mono ?_
  rintro e w1 ⟨rfl, rfl⟩
  go_wp2_with fail
  refine (W6.out _).mono ?_
  rintro e w1 ⟨rfl, rfl⟩
  go_wp2_with fail
  go_ret
  exact ⟨rfl, gb_alloc (.refl w none) _⟩
theorem rmayr_any (c : Conf) (w : World) :
    Calls Tryz.prog 48 #[cf c] w fun e w' => e = .returned (.bool (rt c).may) ∧ w.grownBy w' none := by
  by_cases h0 : 1 ≤ c.min ∧ c.min ≤ 10000
  rotate_left
  · have hm : (rt c).may = false := by
      cases hb : (rt c).may with
      | false => rfl
      | true => exact absurd (Rt.may_iff.1 hb).mn h0
    rw [hm]; exact rmay_no0 c h0 w
  by_cases h1 : c.min ≤ c.max ∧ c.max ≤ 10000
  rotate_left
  · have hm : (rt c).may = false := by
      cases hb : (rt c).may with
      | false => rfl
      | true => exact absurd (Rt.may_iff.1 hb).mx h1
    rw [hm]; exact rmay_no1 c h0 h1 w
  by_cases h2 : 1 ≤ c.podsup ∧ c.podsup ≤ 1000
  rotate_left
  · have hm : (rt c).may = false := by
      cases hb : (rt c).may with
      | false => rfl
      | true => exact absurd (Rt.may_iff.1 hb).pu h2
    rw [hm]; exact rmay_no2 c h0 h1 h2 w
  by_cases h3 : 1 ≤ c.pctup ∧ c.pctup ≤ 1000
  rotate_left
  · have hm : (rt c).may = false := by
      cases hb : (rt c).may with
      | false => rfl
      | true => exact absurd (Rt.may_iff.1 hb).cu h3
    rw [hm]; exact rmay_no3 c h0 h1 h2 h3 w
  by_cases h4 : 1 ≤ c.podsdown ∧ c.podsdown ≤ 1000
  rotate_left
  · have hm : (rt c).may = false := by
      cases hb : (rt c).may with
      | false => rfl
      | true => exact absurd (Rt.may_iff.1 hb).pd h4
    rw [hm]; exact rmay_no4 c h0 h1 h2 h3 h4 w
  by_cases h5 : 1 ≤ c.pctdown ∧ c.pctdown ≤ 100
  rotate_left
  · have hm : (rt c).may = false := by
      cases hb : (rt c).may with
      | false => rfl
      | true => exact absurd (Rt.may_iff.1 hb).cd h5
    rw [hm]; exact rmay_no5 c h0 h1 h2 h3 h4 h5 w
  by_cases h6 : 1 ≤ c.period ∧ c.period ≤ 60
  rotate_left
  · have hm : (rt c).may = false := by
      cases hb : (rt c).may with
      | false => rfl
      | true => exact absurd (Rt.may_iff.1 hb).per h6
    rw [hm]; exact rmay_no6 c h0 h1 h2 h3 h4 h5 h6 w
  have hm : (rt c).may = true := Rt.may_iff.2 ⟨h2, h3, h4, h5, h6, h0, h1⟩
  rw [hm]; exact rmay_yes c h0 h1 h2 h3 h4 h5 h6 w
end Go.Proofs.YthobbekocimcnaaGreat
end
section
set_option linter.unusedSimpArgs false
set_option linter.unusedVariables false
namespace Go.Proofs.YthobbekocimcnaaGreat
set_option maxRecDepth 100000
open Go.RowKit

/-- what the bounds are reckoned from -/
structure Bd (r : Rt) (b x1 x2 A D x3 x4 B B1 B2 E : Int) : Prop where
  e1 : IntKind.i64.wrap (b - r.pd) = x1
  e2 : IntKind.i64.wrap (100 - r.cd) = x2
  e3 : IntKind.i64.wrap (b * x2) = A
  e4 : IntKind.i64.wrap (A.tdiv 100) = D
  e5 : IntKind.i64.wrap (b + r.pu) = x3
  e6 : IntKind.i64.wrap (100 + r.cu) = x4
  e7 : IntKind.i64.wrap (b * x4) = B
  e8 : IntKind.i64.wrap (B + 100) = B1
  e9 : IntKind.i64.wrap (B1 - 1) = B2
  e8' : IntKind.i64.wrap (B + 99) = B2
  e10 : IntKind.i64.wrap (B2.tdiv 100) = E
  lo : r.lo b = max (min x1 D) 0
  hi : r.hi b = max x3 E
theorem bd_of {r : Rt} {b : Int} (h : r.Ok) (h0 : 0 ≤ b) (h1 : b ≤ 10000) : ∃ x1 x2 A D x3 x4 B B1 B2 E, Bd r b x1 x2 A D x3 x4 B B1 B2 E := by
  have s := Rt.small h h0 h1
  have a1 := h.pu; have a2 := h.cu; have a3 := h.pd; have a4 := h.cd
  refine ⟨b - r.pd, 100 - r.cd, b * (100 - r.cd), b * (100 - r.cd) / 100, b + r.pu, 100 + r.cu, b * (100 + r.cu), b * (100 + r.cu) + 100, b * (100 + r.cu) + 99, (b * (100 + r.cu) + 99) / 100, ?_⟩
  obtain ⟨⟨s1, s2⟩, s3, s4⟩ := s
  have hl : r.lo b = max (min (b - r.pd) (b * (100 - r.cd) / 100)) 0 := rfl
  have hh : r.hi b = max (b + r.pu) ((b * (100 + r.cu) + 99) / 100) := rfl
  generalize hB : b * (100 + r.cu) = B at *
  generalize hA : b * (100 - r.cd) = A at *
  refine ⟨?_, ?_, ?_, ?_, ?_, ?_, ?_, ?_, ?_, ?_, ?_, hl, hh⟩
  · exact IntWalk.i64_in _ (by omega)
  · exact IntWalk.i64_in _ (by omega)
  · rw [hA]; exact IntWalk.i64_in _ (by omega)
  · rw [Int.tdiv_eq_ediv_of_nonneg s3]; exact IntWalk.i64_in _ (by omega)
  · exact IntWalk.i64_in _ (by omega)
  · exact IntWalk.i64_in _ (by omega)
  · rw [hB]; exact IntWalk.i64_in _ (by omega)
  · exact IntWalk.i64_in _ (by omega)
  · rw [show B + 100 - 1 = B + 99 by omega]; exact IntWalk.i64_in _ (by omega)
  · exact IntWalk.i64_in _ (by omega)
  · rw [Int.tdiv_eq_ediv_of_nonneg (by omega)]; exact IntWalk.i64_in _ (by omega)
theorem pbounds_any (r : Rt) (b : Int) (h : r.Ok) (h0 : 0 ≤ b) (h1 : b ≤ 10000) (w : World) :
    Calls Tryz.prog 53 #[rv r, .int .i64 b] w fun e w' => e = .returned (.tuple #[.int .i64 (r.lo b), .int .i64 (r.hi b)]) ∧ w.grownBy w' none := by
  obtain ⟨x1, x2, A, D, x3, x4, B, B1, B2, E, hb⟩ := bd_of h h0 h1
  obtain ⟨e1, e2, e3, e4, e5, e6, e7, e8, e9, -, e10, hl, hh⟩ := hb
  have HL := hid hl; have HH := hid hh
  generalize r.lo b = L at *
  generalize r.hi b = H at *
  clear hl hh h h0 h1
  go_enter Tryz.func53, Tryz.ntmps53
  go_wp2_with fail
  all_goals go_ret2
  all_goals exact ⟨by rw [HL.out, HH.out]; first | rfl | (congr 3 <;> omega), gb_alloc (.refl w none) _⟩
/-- the document's -/
theorem rbounds_any (c : Conf) (b : Int) (w : World) :
    Calls Tryz.prog 63 #[cf c, .int .i64 b] w fun e w' => e = .returned (.tuple #[.int .i64 ((rt c).bounds b).1, .int .i64 ((rt c).bounds b).2]) ∧ w.grownBy w' none := by
  have M := hid (rmayr_any c)
  have K := hid (boxc_new w c)
  by_cases hm : (rt c).may = true
  rotate_left
  · have hm' : (rt c).may = false := by simpa using hm
    rw [hm'] at M
    have hz : (rt c).bounds b = (0, 0) := if_neg (by rw [hm']; simp)
    rw [hz]
    clear hm hm' hz
    go_enter Tryz.func63, Tryz.ntmps63
    go_wp2_with (refine wpList_conf K.out.box rfl rfl rfl rfl ?_)
    refine (M.out _).mono ?_
    rintro e w1 ⟨rfl, hg⟩
    have G1 := hid (gb_trans K.out.g hg (.inl rfl)); clear hg
    go_wp2_with fail
    go_ret2
    exact ⟨rfl, G1.out⟩
  rw [hm] at M
  by_cases h0 : 0 ≤ b
  rotate_left
  · have hz : (rt c).bounds b = (0, 0) := if_neg (by omega)
    rw [hz]
    clear hm hz
    go_enter Tryz.func63, Tryz.ntmps63
    go_wp2_with (refine wpList_conf K.out.box rfl rfl rfl rfl ?_)
    refine (M.out _).mono ?_
    rintro e w1 ⟨rfl, hg⟩
    have G1 := hid (gb_trans K.out.g hg (.inl rfl)); clear hg
    go_wp2_with fail
    go_ret2
    exact ⟨rfl, G1.out⟩
  by_cases h1 : b ≤ 10000
  rotate_left
  · have hz : (rt c).bounds b = (0, 0) := if_neg (by omega)
    rw [hz]
    clear hm hz
    go_enter Tryz.func63, Tryz.ntmps63
    go_wp2_with (refine wpList_conf K.out.box rfl rfl rfl rfl ?_)
    refine (M.out _).mono ?_
    rintro e w1 ⟨rfl, hg⟩
    have G1 := hid (gb_trans K.out.g hg (.inl rfl)); clear hg
    go_wp2_with fail
    go_ret2
    exact ⟨rfl, G1.out⟩
  obtain ⟨x1, x2, A, D, x3, x4, B, B1, B2, E, hb⟩ := bd_of (Rt.may_iff.1 hm) h0 h1
  obtain ⟨e1, e2, e3, e4, e5, e6, e7, -, -, e8, e10, hl, hh⟩ := hb
  have hz : (rt c).bounds b = ((rt c).lo b, (rt c).hi b) := if_pos ⟨hm, h0, h1⟩
  rw [hz]
  have HL := hid hl; have HH := hid hh
  generalize (rt c).lo b = L at *
  generalize (rt c).hi b = H at *
  clear hl hh hm hz
  go_enter Tryz.func63, Tryz.ntmps63
  go_wp2_with (refine wpList_conf K.out.box rfl rfl rfl rfl ?_)
  refine (M.out _).mono ?_
  rintro e w1 ⟨rfl, hg⟩
  have K1 := hid (K.out.grown hg)
  have G1 := hid (gb_trans K.out.g hg (.inl rfl)); clear hg
  have hbx := K1.out.box
  have c13 := at_cell hbx 16; have c14 := at_cell hbx 17; have c15 := at_cell hbx 18; have c16 := at_cell hbx 19
  clear hbx
  go_wp2_with fail
  all_goals go_ret2
  all_goals exact ⟨by rw [HL.out, HH.out]; first | rfl | (congr 3 <;> omega), G1.out⟩

/-- nobody is not made; one that is there is -/
theorem isMade_nil (w : World) :
    Calls Tryz.prog 39 #[.pointer none] w fun e w' => e = .returned (.bool false) ∧ w = w' := by
  go_enter Tryz.func39, Tryz.ntmps39
  go_wp2_with fail
  go_ret
  exact ⟨rfl, rfl⟩
theorem isMade_any {b : Nat} {p : Po} {w : World} (H : PoAt w b p) :
    Calls Tryz.prog 39 #[.pointer (some ⟨b, 0, none⟩)] w fun e w' => e = .returned (.bool true) ∧ w.grownBy w' none := by
  obtain ⟨-, -, -, c7, fz⟩ := H.cells
  have hn := H.ok.n60; have hn1 := H.ok.n1
  have L0 := hid (load_i64 ⟨b, 7, none⟩ (p.l.length : Int) w c7)
  generalize p.l.length = n at *
  have hp : 0 < n := hn1
  clear H
  go_enter Tryz.func39, Tryz.ntmps39
  go_wp2_with fail
  refine L0.out.mono ?_
  rintro e w1 ⟨rfl, rfl⟩
  go_wp2_with fail
  go_ret
  exact ⟨by simp [hp], .refl w none⟩
theorem parr_len : Tryz.prog.arrayLen 82 = 60 := by kernel_rfl
theorem parr_elem : Tryz.prog.elem 82 = 3 := by kernel_rfl
theorem psize_num (u : World) : (sizeOf 3).run Tryz.prog u = .ok 1 u := by
  obtain ⟨i, hi, hz0, hz1, hz2⟩ := info_parts info_num
  simp [sizeOf, typeInfo, hi, hz1]
theorem parr_h (b n : Nat) (h : n ≤ 60) (u : World) : (Instr.sliceAt 82 (.pointer (some ⟨b, 8, none⟩)) none (some (.int .i64 (n : Int))) none).run Tryz.prog u = .ok (.slice (some ⟨b, 8, none⟩) n 60) u := by
  rw [run_sliceAt_array_h (P := Tryz.prog) u 82 ⟨b, 8, none⟩ (by kernel_rfl) .i64 (n : Int) (by omega) (by rw [parr_len]; omega), parr_elem, psize_num, parr_len]
  simp [slicedAt, Result.andThen, Addr.add]
theorem parr_all (b : Nat) (u : World) : (Instr.sliceAt 82 (.pointer (some ⟨b, 8, none⟩)) none none none).run Tryz.prog u = .ok (.slice (some ⟨b, 8, none⟩) 60 60) u := by
  rw [run_sliceAt_array_all (P := Tryz.prog) u 82 ⟨b, 8, none⟩ (by kernel_rfl), parr_elem, psize_num, parr_len]
  simp [slicedAt, Result.andThen, Addr.add]
/-- what is kept -/
theorem potop_any {b : Nat} {p : Po} {w : World} (H : PoTop w b p) (hn : p.l.length ≤ 60) :
    Calls Tryz.prog 40 #[.pointer (some ⟨b, 0, none⟩)] w fun e w' => e = .returned (.slice (some ⟨b, 8, none⟩) p.l.length 60) ∧ w.grownBy w' none := by
  obtain ⟨-, -, -, c2, fz⟩ := H.cells
  have L0 := hid (fun W (h : W.cell? ⟨b, 7, none⟩ = some (.int .i64 (p.l.length : Int))) => load_i64 ⟨b, 7, none⟩ (p.l.length : Int) W h)
  generalize p.l.length = n at *
  have hs := fun u => parr_h b n hn u
  clear H
  go_enter Tryz.func40, Tryz.ntmps40
  go_wp2_with fail
  go_quiet ((go_at_call 36; exact Calls.quiet_of_same (still_of (L0.out _ (by assumption)))))
  go_wp2_with fail
  go_ret
  exact ⟨rfl, ⟨rfl, rfl, rfl, Nat.le_refl _, fun _ _ _ => rfl⟩⟩
theorem pall_any {b : Nat} {p : Po} {w : World} (H : PoAt w b p) :
    Calls Tryz.prog 40 #[.pointer (some ⟨b, 0, none⟩)] w fun e w' => e = .returned (.slice (some ⟨b, 8, none⟩) p.l.length 60) ∧ w.grownBy w' none := potop_any H.top H.ok.n60

/-- the operation copy -/
theorem pwp_copyN {w : World} {o : Oper} {a : Act} {K : Act → World → Prop} {Q : Exit → Act → World → Prop} (d s : Operand)
    (ho : o.op = .call { callee := .builtin .copy, args := #[d, s], argTypes := #[22, 22] }) (v u : Value) (hd : a.eval d = v) (hs : a.eval s = u) {v' : Value} {w' : World}
    (hr : (Builtin.copy_ #[22, 22] o.type #[v, u]).run Tryz.prog w = .ok v' w') (h : K (a.put o.dst v') w') : o.wp Tryz.prog a w K Q := by
  unfold Oper.wp execOp
  simp only [ho, resolve, invoke, builtin, Sem.run_bind, Sem.run_pure, Result.andThen_ok, List.map_toArray, List.map_cons, List.map_nil, hd, hs, hr]
  exact h
/-- numbers into the row -/
theorem pcopy_into {w : World} {b n : Nat} {r : Rt} {ws : List Int} (hb : w.heap[b]? = some (.cells (poCells r n ws) 84)) (hw : ws.length = 60) {v : Value} {l : List Int} (hv : IntsAt w v l) (hl : l.length ≤ 60) (ty : TypeId) :
    ∃ w', (Builtin.copy_ #[22, 22] ty #[.slice (some ⟨b, 8, none⟩) 60 60, v]).run Tryz.prog w = .ok (goInt l.length) w' ∧ w'.heap[b]? = some (.cells (poCells r n (l ++ ws.drop l.length)) 84) ∧ Chg [b] w w' := by
  obtain ⟨i, hi, hz0, hz1, hz2⟩ := info_parts info_num
  have hsz : (Tryz.prog.info? 3).map (·.size) = some 1 := by rw [hi]; simp [hz1]
  have hcl : (poCells r n ws).size = 68 := by simp [poCells, hw]
  rcases hv with ⟨rfl, rfl⟩ | ⟨a, cap, rfl, h1, h2, h3⟩
  · refine ⟨w, ?_, by simpa using hb, chg_refl _ _⟩
    exact run_copy_nil Tryz.prog w 22 22 ty 3 ⟨b, 8, none⟩ 60 60 Tryz.underlying22 (by rw [hi]; rfl)
  · have hmin : (l.map iv).length = Nat.min l.length 60 := by rw [List.length_map]; exact (Nat.min_eq_left hl).symm
    refine ⟨_, (run_copy_row Tryz.prog w 22 22 ty 3 b 8 60 60 a l.length cap (poCells r n ws) _ (l.map iv) Tryz.underlying22 hsz hb hmin (fun j x hj => ?_) (by rw [List.length_map, hcl]; omega) (fun x hx => ?_)).trans (by rw [List.length_map]), ?_, ?_⟩
    · rw [List.getElem?_map] at hj
      by_cases hlt : j < l.length
      · rw [List.getElem?_eq_getElem hlt] at hj; cases hj; exact h3 j hlt
      · rw [List.getElem?_eq_none (by omega)] at hj; cases hj
    · obtain ⟨c, _, rfl⟩ := List.mem_map.1 hx; rfl
    · rw [setRow_heap w b _ _ _ _ hb]
      simp [poCells, Nat.add_comm 8]
    · exact ⟨rfl, rfl, rfl, by simp [World.setRow], fun k hk hn => setRow_other w b k _ (by intro e; exact hn (by simp [e]))⟩
/-- how many are kept is another now; one of the row is -/
theorem prow_kept {w : World} {b n : Nat} {r : Rt} {ws : List Int} (hb : w.heap[b]? = some (.cells (poCells r n ws) 84)) (m : Nat) : (w.setCell ⟨b, 7, none⟩ (.int .i64 (m : Int))).heap[b]? = some (.cells (poCells r m ws) 84) := by
  rw [at_set hb]; simp [poCells, iv]
theorem prow_want {w : World} {b n : Nat} {r : Rt} {ws : List Int} (hb : w.heap[b]? = some (.cells (poCells r n ws) 84)) (k : Nat) (x : Int) : (w.setCell ⟨b, 8 + k, none⟩ (.int .i64 x)).heap[b]? = some (.cells (poCells r n (ws.set k x)) 84) := by
  rw [at_set hb]; simp [poCells, iv, Nat.add_comm 8]
theorem pkeptn {w : World} {b n m : Nat} {r : Rt} {ws : List Int} (hb : w.heap[b]? = some (.cells (poCells r n ws) 84)) (z s : Int) (hs : IntKind.i64.wrap ((n : Int) + z) = s) (hm : s = (m : Int)) :
    Calls Tryz.prog 52 #[.pointer (some ⟨b, 7, none⟩), .int .i64 z] w fun e w' => e = .returned (.int .i64 s) ∧ w'.heap[b]? = some (.cells (poCells r m ws) 84) ∧ Chg [b] w w' := by
  subst hm
  refine (addn_i64 ⟨b, 7, none⟩ (n : Int) z _ w (by rw [at_cell hb, po_cell7]) (at_free hb 7) hs).mono ?_
  rintro e w' ⟨rfl, rfl⟩
  exact ⟨rfl, prow_kept hb m, (chg_refl w [b]).set (.inl (by simp)) _⟩
end Go.Proofs.YthobbekocimcnaaGreat
end
