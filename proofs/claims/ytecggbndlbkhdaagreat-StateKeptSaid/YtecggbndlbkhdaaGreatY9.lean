/-
  Plain arithmetic of messages: which may be, their 32 bytes, what is read from bytes; a message comes back from its bytes, and from these alone; the document's own way is the same one. No condition. Nothing of the program is named here.
  Contracts for package wire and the document's own answer: which messages may be, a message's first eight bytes as a number. No condition.
  Contracts for package policy: the object, its inner functions; the document's own rates and bounds. The condition of a call: the object lies there, a slice reads as numbers.
  Contracts for package policy: the bounds, of the program and of the document; what is kept, copies into the object. The condition of a call: the object lies there, a slice reads as numbers.
  Contract for package policy: one more count is put behind the others, the oldest goes for it. The condition: the object lies there, no more are kept than a period has.
  A number that came in, taken as one without a sign, modulo a small one. No condition. Nothing of the program is named here.
  A number that came in, taken as one without a sign, modulo a small one, as an integer. No condition. Nothing of the program is named here.
-/
import Derived.Test.YtecggbndlbkhdaaGreatJ0
import Derived.Test.YtecggbndlbkhdaaGreatY4
import Derived.Test.YtecggbndlbkhdaaGreatY6
import Derived.Test.YtecggbndlbkhdaaGreatY11
import Derived.Test.YtecggbndlbkhdaaGreatY13
import Derived.Test.YtecggbndlbkhdaaGreatY3
import Derived.Laws.CopyRow
import Derived.LoopTactic
import Derived.BigQuiet
import Derived.Deep.QuietTactic
import Derived.WalkSpells
import Derived.WalkLawsBesides
import Derived.Deep.RegionHeld3
import Derived.WalkKit
section
set_option linter.unusedSimpArgs false
namespace Go.Proofs.YtecggbndlbkhdaaGreat
set_option maxRecDepth 100000
open Go.RowKit

/-- a message's parts -/
structure Mg where
  kind : Int
  who : Int
  gen : Int
  seq : Int
  epoch : Int
  value : Int
  metric : Int
/-- which messages may be sent -/
def May (m : Mg) : Prop := (1 ≤ m.kind ∧ m.kind ≤ 3) ∧ (0 ≤ m.who ∧ m.who ≤ 15) ∧ (0 ≤ m.gen ∧ m.gen ≤ 60000) ∧ (1 ≤ m.seq ∧ m.seq ≤ 1099511627776) ∧ (0 ≤ m.epoch ∧ m.epoch ≤ 1099511627776) ∧
  (m.kind = 1 → (0 ≤ m.metric ∧ m.metric ≤ 3) ∧ (0 ≤ m.value ∧ m.value ≤ 1099511627776)) ∧ (m.kind ≠ 1 → m.metric = 0 ∧ m.value = 0)
instance (m : Mg) : Decidable (May m) := by unfold May; infer_instance
def mayOf (m : Mg) : Bool := decide (May m)
theorem may_of {m : Mg} (h : mayOf m = true) : May m := of_decide_eq_true h
def w64 (n : Int) : BitVec 64 := BitVec.ofInt 64 n
/-- a message's first eight bytes as a number -/
def headOf (m : Mg) : BitVec 64 := 1#64 ||| w64 m.kind <<< 8 ||| w64 m.who <<< 16 ||| w64 m.metric <<< 24 ||| w64 m.gen <<< 32
/-- a message's 32 bytes -/
def putOf (m : Mg) : List UInt8 := put8 (headOf m) ++ put8 (w64 m.seq) ++ put8 (w64 m.epoch) ++ put8 (w64 m.value)
theorem word_at (a : List (BitVec 64)) (k : Nat) (hk : k < a.length) : wordAt (putAll a) (8 * k) 8 = a[k] := by
  have := wordAt_all [] a k hk
  simpa using this
end Go.Proofs.YtecggbndlbkhdaaGreat
end
section
set_option linter.unusedSimpArgs false
namespace Go.Proofs.YtecggbndlbkhdaaGreat
set_option maxRecDepth 100000
open Go.RowKit

@[reducible] def Mg.cells (m : Mg) : Array Value := #[.int .i64 m.kind, .int .i64 m.who, .int .i64 m.gen, .int .i64 m.seq, .int .i64 m.epoch, .int .i64 m.value, .int .i64 m.metric]
@[reducible] def mg (m : Mg) : Value := .agg m.cells

def within (n lo hi : Int) : Bool := decide (lo ≤ n) && decide (n ≤ hi)
/-- the function's own block: the message that came in; all else as it was, or new -/
structure BoxM (w : World) (m : Mg) (w' : World) : Prop where
  box : w'.heap[w.heap.size]? = some (.cells m.cells 37)
  g : w.grownBy w' none
theorem BoxM.grown {w : World} {m : Mg} {w1 w2 : World} (h : BoxM w m w1) (hg : w1.grownBy w2 none) : BoxM w m w2 := ⟨at_grown h.box hg (by simp), gb_trans h.g hg (.inl rfl)⟩
theorem BoxM.drew {w : World} {m : Mg} {w1 : World} (h : BoxM w m w1) : BoxM w m w1.drew := ⟨h.box, gb_drew h.g⟩
end Go.Proofs.YtecggbndlbkhdaaGreat
end
section
set_option linter.unusedSimpArgs false
set_option linter.unusedVariables false
namespace Go.Proofs.YtecggbndlbkhdaaGreat
set_option maxRecDepth 100000
open Go.RowKit

/-- the rates as cells, and as a value -/
@[reducible] def rtCells (r : Rt) : Array Value := #[.int .i64 r.pu, .int .i64 r.cu, .int .i64 r.pd, .int .i64 r.cd, .int .i64 r.per, .int .i64 r.mn, .int .i64 r.mx]
@[reducible] def rv (r : Rt) : Value := .agg (rtCells r)
/-- a configuration's rates -/
@[reducible] def rt (c : Conf) : Rt := ⟨c.podsup, c.pctup, c.podsdown, c.pctdown, c.period, c.min, c.max⟩
@[reducible] def rt0 : Rt := ⟨0, 0, 0, 0, 0, 0, 0⟩
/-- the cells of a Policy -/
def poCells (r : Rt) (n : Nat) (ws : List Int) : Array Value := ((r.pu :: r.cu :: r.pd :: r.cd :: r.per :: r.mn :: r.mx :: (n : Int) :: ws).map iv).toArray
/-- the object lies there, with the numbers as they are -/
def PoTop (w : World) (b : Nat) (p : Po) : Prop := ∃ ws : List Int, ws.length = 60 ∧ ws.take p.l.length = p.l ∧ w.heap[b]? = some (.cells (poCells p.r p.l.length ws) 352)
structure PoAt (w : World) (b : Nat) (p : Po) : Prop where
  top : PoTop w b p
  ok : p.Ok
section
variable {w w' : World} {F : List Nat} {b : Nat} {p : Po}
theorem PoAt.chg (H : PoAt w b p) (hc : Chg F w w') (hb : b ∉ F) : PoAt w' b p := by
  obtain ⟨⟨ws, h1, h2, h3⟩, ho⟩ := H
  exact ⟨⟨ws, h1, h2, hc.at h3 hb⟩, ho⟩
theorem PoAt.grown (H : PoAt w b p) (hg : w.grownBy w' none) : PoAt w' b p := H.chg (chg_grown hg []) (by simp)
theorem PoAt.drew (H : PoAt w b p) : PoAt w.drew b p := ⟨H.top, H.ok⟩
theorem PoAt.drewN (H : PoAt w b p) (n : Nat) : PoAt (w.drewN n) b p := ⟨H.top, H.ok⟩
theorem PoAt.lt (H : PoAt w b p) : b < w.heap.size := by obtain ⟨⟨ws, _, _, h3⟩, _⟩ := H; exact at_lt h3
theorem po_cell4 (r : Rt) (n : Nat) (ws : List Int) : (poCells r n ws)[4]? = some (.int .i64 r.per) := by simp [poCells, iv]
theorem po_cell5 (r : Rt) (n : Nat) (ws : List Int) : (poCells r n ws)[5]? = some (.int .i64 r.mn) := by simp [poCells, iv]
theorem po_cell6 (r : Rt) (n : Nat) (ws : List Int) : (poCells r n ws)[6]? = some (.int .i64 r.mx) := by simp [poCells, iv]
theorem po_cell7 (r : Rt) (n : Nat) (ws : List Int) : (poCells r n ws)[7]? = some (.int .i64 (n : Int)) := by simp [poCells, iv]
theorem po_cellk (r : Rt) (n : Nat) (ws : List Int) (k : Nat) : (poCells r n ws)[8 + k]? = (ws[k]?).map iv := by
  rw [poCells, List.getElem?_toArray, Nat.add_comm]; simp
theorem Po.Ok.n60 (h : p.Ok) : p.l.length ≤ 60 := by
  have := h.n; have := h.r.per
  omega
theorem Po.Ok.n1 (h : p.Ok) : 1 ≤ p.l.length := by
  have := List.length_pos_iff.2 h.ne
  omega
theorem PoTop.grown (H : PoTop w b p) (hg : w.grownBy w' none) : PoTop w' b p := by
  obtain ⟨ws, h1, h2, h3⟩ := H
  exact ⟨ws, h1, h2, at_grown h3 hg (by simp)⟩
theorem PoTop.cells (H : PoTop w b p) : w.cell? ⟨b, 4, none⟩ = some (.int .i64 p.r.per) ∧ w.cell? ⟨b, 5, none⟩ = some (.int .i64 p.r.mn) ∧ w.cell? ⟨b, 6, none⟩ = some (.int .i64 p.r.mx) ∧ w.cell? ⟨b, 7, none⟩ = some (.int .i64 (p.l.length : Int)) ∧ ∀ k, w.frozen? ⟨b, k, none⟩ = false := by
  obtain ⟨ws, h1, h2, h3⟩ := H
  exact ⟨by rw [at_cell h3, po_cell4], by rw [at_cell h3, po_cell5], by rw [at_cell h3, po_cell6], by rw [at_cell h3, po_cell7], fun k => at_free h3 k⟩
theorem PoAt.cells (H : PoAt w b p) : w.cell? ⟨b, 4, none⟩ = some (.int .i64 p.r.per) ∧ w.cell? ⟨b, 5, none⟩ = some (.int .i64 p.r.mn) ∧ w.cell? ⟨b, 6, none⟩ = some (.int .i64 p.r.mx) ∧ w.cell? ⟨b, 7, none⟩ = some (.int .i64 (p.l.length : Int)) ∧ ∀ k, w.frozen? ⟨b, k, none⟩ = false := H.top.cells
theorem PoTop.ints (H : PoTop w b p) (hn : p.l.length ≤ 60) : IntsAt w (.slice (some ⟨b, 8, none⟩) p.l.length 60) p.l := by
  obtain ⟨ws, h1, h2, h3⟩ := H
  refine .inr ⟨_, 60, rfl, hn, by unfold maxLen; omega, fun i hi => ?_⟩
  rw [iadd_at, at_cell h3, po_cellk]
  have : p.l[i]? = ws[i]? := by
    have e : (ws.take p.l.length)[i]? = p.l[i]? := by rw [h2]
    rw [← e, List.getElem?_take, if_pos hi]
  rw [← this, List.getElem?_eq_getElem hi]; rfl
theorem PoAt.ints (H : PoAt w b p) : IntsAt w (.slice (some ⟨b, 8, none⟩) p.l.length 60) p.l := H.top.ints H.ok.n60
end

/-- which numbers are within -/
theorem pin_any (n lo hi : Int) (w : World) :
    Calls Tryz.prog 300 #[.int .i64 n, .int .i64 lo, .int .i64 hi] w fun e w' => e = .returned (.bool (decide (lo ≤ n) && decide (n ≤ hi))) ∧ w = w' := by
  by_cases h1 : lo ≤ n <;> by_cases h2 : n ≤ hi <;> (
  go_enter Tryz.func300, Tryz.ntmps300
  go_wp2_with fail
  go_ret
  simp [h1, h2])
theorem pin_yes {n lo hi : Int} (h : lo ≤ n ∧ n ≤ hi) (w : World) :
    Calls Tryz.prog 300 #[.int .i64 n, .int .i64 lo, .int .i64 hi] w fun e w' => e = .returned (.bool true) ∧ w = w' := by
  refine (pin_any n lo hi w).mono ?_
  rintro e w' ⟨rfl, rfl⟩
  exact ⟨by simp [h], rfl⟩
theorem pin_no {n lo hi : Int} (h : ¬ (lo ≤ n ∧ n ≤ hi)) (w : World) :
    Calls Tryz.prog 300 #[.int .i64 n, .int .i64 lo, .int .i64 hi] w fun e w' => e = .returned (.bool false) ∧ w = w' := by
  refine (pin_any n lo hi w).mono ?_
  rintro e w' ⟨rfl, rfl⟩
  refine ⟨?_, rfl⟩
  rw [show (decide (lo ≤ n) && decide (n ≤ hi)) = false by
    cases hb : (decide (lo ≤ n) && decide (n ≤ hi)) with
    | false => rfl
    | true => simp at hb; exact absurd hb h]
theorem clamp_any (n lo hi : Int) (w : World) :
    Calls Tryz.prog 366 #[.int .i64 n, .int .i64 lo, .int .i64 hi] w fun e w' => e = .returned (.int .i64 (min (max n lo) hi)) ∧ w = w' := by
  go_enter Tryz.func366, Tryz.ntmps366
  go_wp2_with fail
  all_goals go_ret
  all_goals exact ⟨congrArg (fun z => Ending.returned (.int .i64 z)) (by omega), rfl⟩
def inR (r : Rt) (x : Int) : Bool := decide (r.mn ≤ x) && decide (x ≤ r.mx)
theorem pbeyond_any (r : Rt) (x : Int) (w : World) :
    Calls Tryz.prog 221 #[rv r, .int .i64 x] w fun e w' => e = .returned (.bool (!inR r x)) ∧ w.grownBy w' none := by
  have H := hid (pin_any x r.mn r.mx)
  unfold inR
  generalize (decide (r.mn ≤ x) && decide (x ≤ r.mx)) = z at *
  go_enter Tryz.func221, Tryz.ntmps221
  go_wp2_with fail
  refine (H.out _).mono ?_
  rintro e w1 ⟨rfl, rfl⟩
  go_wp2_with fail
  go_ret
  exact ⟨rfl, gb_alloc (.refl w none) _⟩
set_option maxHeartbeats 1600000 in
theorem rules_no0 (c : Conf)  (h0 : ¬ (1 ≤ c.podsup ∧ c.podsup ≤ 1000)) (w : World) :
    Calls Tryz.prog 220 #[cf c] w fun e w' => e = .returned (.tuple #[rv rt0, .bool false]) ∧ w.grownBy w' none := by
  have W0 := hid (pin_no h0)
  clear h0
  go_enter Tryz.func220, Tryz.ntmps220
  go_wp2_with fail
  refine (W0.out _).mono ?_
  rintro e w1 ⟨rfl, rfl⟩
  go_wp2_with fail
  exact bodyPost_ret (v := .tuple #[rv rt0, .bool false]) (by simp [results, Tryz.results220, go_sem]; try rfl) rfl ⟨rfl, gb_alloc (gb_alloc (.refl w none) _) _⟩
set_option maxHeartbeats 1600000 in
theorem rules_no1 (c : Conf) (h0 : 1 ≤ c.podsup ∧ c.podsup ≤ 1000) (h1 : ¬ (1 ≤ c.pctup ∧ c.pctup ≤ 1000)) (w : World) :
    Calls Tryz.prog 220 #[cf c] w fun e w' => e = .returned (.tuple #[rv rt0, .bool false]) ∧ w.grownBy w' none := by
  have W0 := hid (pin_yes h0)
  have W1 := hid (pin_no h1)
  clear h0 h1
  go_enter Tryz.func220, Tryz.ntmps220
  go_wp2_with fail
  refine (W0.out _).mono ?_
  rintro e w1 ⟨rfl, rfl⟩
  go_wp2_with fail
  refine (W1.out _).mono ?_
  rintro e w1 ⟨rfl, rfl⟩
  go_wp2_with fail
  exact bodyPost_ret (v := .tuple #[rv rt0, .bool false]) (by simp [results, Tryz.results220, go_sem]; try rfl) rfl ⟨rfl, gb_alloc (gb_alloc (.refl w none) _) _⟩
set_option maxHeartbeats 1600000 in
theorem rules_no2 (c : Conf) (h0 : 1 ≤ c.podsup ∧ c.podsup ≤ 1000) (h1 : 1 ≤ c.pctup ∧ c.pctup ≤ 1000) (h2 : ¬ (1 ≤ c.podsdown ∧ c.podsdown ≤ 1000)) (w : World) :
    Calls Tryz.prog 220 #[cf c] w fun e w' => e = .returned (.tuple #[rv rt0, .bool false]) ∧ w.grownBy w' none := by
  have W0 := hid (pin_yes h0)
  have W1 := hid (pin_yes h1)
  have W2 := hid (pin_no h2)
  clear h0 h1 h2
  go_enter Tryz.func220, Tryz.ntmps220
  go_wp2_with fail
  refine (W0.out _).mono ?_
  rintro e w1 ⟨rfl, rfl⟩
  go_wp2_with fail
  refine (W1.out _).mono ?_
  rintro e w1 ⟨rfl, rfl⟩
  go_wp2_with fail
  refine (W2.out _).mono ?_
  rintro e w1 ⟨rfl, rfl⟩
  go_wp2_with fail
  exact bodyPost_ret (v := .tuple #[rv rt0, .bool false]) (by simp [results, Tryz.results220, go_sem]; try rfl) rfl ⟨rfl, gb_alloc (gb_alloc (.refl w none) _) _⟩
set_option maxHeartbeats 1600000 in
theorem rules_no3 (c : Conf) (h0 : 1 ≤ c.podsup ∧ c.podsup ≤ 1000) (h1 : 1 ≤ c.pctup ∧ c.pctup ≤ 1000) (h2 : 1 ≤ c.podsdown ∧ c.podsdown ≤ 1000) (h3 : ¬ (1 ≤ c.pctdown ∧ c.pctdown ≤ 100)) (w : World) :
    Calls Tryz.prog 220 #[cf c] w fun e w' => e = .returned (.tuple #[rv rt0, .bool false]) ∧ w.grownBy w' none := by
  have W0 := hid (pin_yes h0)
  have W1 := hid (pin_yes h1)
  have W2 := hid (pin_yes h2)
  have W3 := hid (pin_no h3)
  clear h0 h1 h2 h3
  go_enter Tryz.func220, Tryz.ntmps220
  go_wp2_with fail
  refine (W0.out _).mono ?_
  rintro e w1 ⟨rfl, rfl⟩
  go_wp2_with fail
  refine (W1.out _).mono ?_
  rintro e w1 ⟨rfl, rfl⟩
  go_wp2_with fail
  refine (W2.out _).mono ?_
  rintro e w1 ⟨rfl, rfl⟩
  go_wp2_with fail
  refine (W3.out _).mono ?_
  rintro e w1 ⟨rfl, rfl⟩
  go_wp2_with fail
  exact bodyPost_ret (v := .tuple #[rv rt0, .bool false]) (by simp [results, Tryz.results220, go_sem]; try rfl) rfl ⟨rfl, gb_alloc (gb_alloc (.refl w none) _) _⟩
set_option maxHeartbeats 1600000 in
theorem rules_no4 (c : Conf) (h0 : 1 ≤ c.podsup ∧ c.podsup ≤ 1000) (h1 : 1 ≤ c.pctup ∧ c.pctup ≤ 1000) (h2 : 1 ≤ c.podsdown ∧ c.podsdown ≤ 1000) (h3 : 1 ≤ c.pctdown ∧ c.pctdown ≤ 100) (h4 : ¬ (1 ≤ c.period ∧ c.period ≤ 60)) (w : World) :
    Calls Tryz.prog 220 #[cf c] w fun e w' => e = .returned (.tuple #[rv rt0, .bool false]) ∧ w.grownBy w' none := by
  have W0 := hid (pin_yes h0)
  have W1 := hid (pin_yes h1)
  have W2 := hid (pin_yes h2)
  have W3 := hid (pin_yes h3)
  have W4 := hid (pin_no h4)
  clear h0 h1 h2 h3 h4
  go_enter Tryz.func220, Tryz.ntmps220
  go_wp2_with fail
  refine (W0.out _).mono ?_
  rintro e w1 ⟨rfl, rfl⟩
  go_wp2_with fail
  refine (W1.out _).mono ?_
  rintro e w1 ⟨rfl, rfl⟩
  go_wp2_with fail
  refine (W2.out _).mono ?_
  rintro e w1 ⟨rfl, rfl⟩
  go_wp2_with fail
  refine (W3.out _).mono ?_
  rintro e w1 ⟨rfl, rfl⟩
  go_wp2_with fail
  refine (W4.out _).mono ?_
  rintro e w1 ⟨rfl, rfl⟩
  go_wp2_with fail
  exact bodyPost_ret (v := .tuple #[rv rt0, .bool false]) (by simp [results, Tryz.results220, go_sem]; try rfl) rfl ⟨rfl, gb_alloc (gb_alloc (.refl w none) _) _⟩
set_option maxHeartbeats 1600000 in
theorem rules_no5 (c : Conf) (h0 : 1 ≤ c.podsup ∧ c.podsup ≤ 1000) (h1 : 1 ≤ c.pctup ∧ c.pctup ≤ 1000) (h2 : 1 ≤ c.podsdown ∧ c.podsdown ≤ 1000) (h3 : 1 ≤ c.pctdown ∧ c.pctdown ≤ 100) (h4 : 1 ≤ c.period ∧ c.period ≤ 60) (h5 : ¬ (1 ≤ c.min ∧ c.min ≤ 10000)) (w : World) :
    Calls Tryz.prog 220 #[cf c] w fun e w' => e = .returned (.tuple #[rv rt0, .bool false]) ∧ w.grownBy w' none := by
  have W0 := hid (pin_yes h0)
  have W1 := hid (pin_yes h1)
  have W2 := hid (pin_yes h2)
  have W3 := hid (pin_yes h3)
  have W4 := hid (pin_yes h4)
  have W5 := hid (pin_no h5)
  clear h0 h1 h2 h3 h4 h5
  go_enter Tryz.func220, Tryz.ntmps220
  go_wp2_with fail
  refine (W0.out _).mono ?_
  rintro e w1 ⟨rfl, rfl⟩
  go_wp2_with fail
  refine (W1.out _).mono ?_
  rintro e w1 ⟨rfl, rfl⟩
  go_wp2_with fail
  refine (W2.out _).mono ?_
  rintro e w1 ⟨rfl, rfl⟩
  go_wp2_with fail
  refine (W3.out _).mono ?_
  rintro e w1 ⟨rfl, rfl⟩
  go_wp2_with fail
  refine (W4.out _).mono ?_
  rintro e w1 ⟨rfl, rfl⟩
  go_wp2_with fail
  refine (W5.out _).mono ?_
  rintro e w1 ⟨rfl, rfl⟩
  go_wp2_with fail
  exact bodyPost_ret (v := .tuple #[rv rt0, .bool false]) (by simp [results, Tryz.results220, go_sem]; try rfl) rfl ⟨rfl, gb_alloc (gb_alloc (.refl w none) _) _⟩
set_option maxHeartbeats 1600000 in
theorem rules_no6 (c : Conf) (h0 : 1 ≤ c.podsup ∧ c.podsup ≤ 1000) (h1 : 1 ≤ c.pctup ∧ c.pctup ≤ 1000) (h2 : 1 ≤ c.podsdown ∧ c.podsdown ≤ 1000) (h3 : 1 ≤ c.pctdown ∧ c.pctdown ≤ 100) (h4 : 1 ≤ c.period ∧ c.period ≤ 60) (h5 : 1 ≤ c.min ∧ c.min ≤ 10000) (h6 : ¬ (c.min ≤ c.max ∧ c.max ≤ 10000)) (w : World) :
    Calls Tryz.prog 220 #[cf c] w fun e w' => e = .returned (.tuple #[rv rt0, .bool false]) ∧ w.grownBy w' none := by
  have W0 := hid (pin_yes h0)
  have W1 := hid (pin_yes h1)
  have W2 := hid (pin_yes h2)
  have W3 := hid (pin_yes h3)
  have W4 := hid (pin_yes h4)
  have W5 := hid (pin_yes h5)
  have W6 := hid (pin_no h6)
  clear h0 h1 h2 h3 h4 h5 h6
  go_enter Tryz.func220, Tryz.ntmps220
  go_wp2_with fail
  refine (W0.out _).mono ?_
  rintro e w1 ⟨rfl, rfl⟩
  go_wp2_with fail
  refine (W1.out _).mono ?_
  rintro e w1 ⟨rfl, rfl⟩
  go_wp2_with fail
  refine (W2.out _).mono ?_
  rintro e w1 ⟨rfl, rfl⟩
  go_wp2_with fail
  refine (W3.out _).mono ?_
  rintro e w1 ⟨rfl, rfl⟩
  go_wp2_with fail
  refine (W4.out _).mono ?_
  rintro e w1 ⟨rfl, rfl⟩
  go_wp2_with fail
  refine (W5.out _).mono ?_
  rintro e w1 ⟨rfl, rfl⟩
  go_wp2_with fail
  refine (W6.out _).mono ?_
  rintro e w1 ⟨rfl, rfl⟩
  go_wp2_with fail
  exact bodyPost_ret (v := .tuple #[rv rt0, .bool false]) (by simp [results, Tryz.results220, go_sem]; try rfl) rfl ⟨rfl, gb_alloc (gb_alloc (.refl w none) _) _⟩
set_option maxHeartbeats 1600000 in
theorem rules_yes (c : Conf) (h0 : 1 ≤ c.podsup ∧ c.podsup ≤ 1000) (h1 : 1 ≤ c.pctup ∧ c.pctup ≤ 1000) (h2 : 1 ≤ c.podsdown ∧ c.podsdown ≤ 1000) (h3 : 1 ≤ c.pctdown ∧ c.pctdown ≤ 100) (h4 : 1 ≤ c.period ∧ c.period ≤ 60) (h5 : 1 ≤ c.min ∧ c.min ≤ 10000) (h6 : c.min ≤ c.max ∧ c.max ≤ 10000) (w : World) :
    Calls Tryz.prog 220 #[cf c] w fun e w' => e = .returned (.tuple #[rv (rt c), .bool true]) ∧ w.grownBy w' none := by
  have W0 := hid (pin_yes h0)
  have W1 := hid (pin_yes h1)
  have W2 := hid (pin_yes h2)
  have W3 := hid (pin_yes h3)
  have W4 := hid (pin_yes h4)
  have W5 := hid (pin_yes h5)
  have W6 := hid (pin_yes h6)
  clear h0 h1 h2 h3 h4 h5 h6
  go_enter Tryz.func220, Tryz.ntmps220
  go_wp2_with fail
  refine (W0.out _).mono ?_
  rintro e w1 ⟨rfl, rfl⟩
  go_wp2_with fail
  refine (W1.out _).mono ?_
  rintro e w1 ⟨rfl, rfl⟩
  go_wp2_with fail
  refine (W2.out _).mono ?_
  rintro e w1 ⟨rfl, rfl⟩
  go_wp2_with fail
  refine (W3.out _).mono ?_
  rintro e w1 ⟨rfl, rfl⟩
  go_wp2_with fail
  refine (W4.out _).mono ?_
  rintro e w1 ⟨rfl, rfl⟩
  go_wp2_with fail
  refine (W5.out _).mono ?_
  rintro e w1 ⟨rfl, rfl⟩
  go_wp2_with fail
  refine (W6.out _).mono ?_
  rintro e w1 ⟨rfl, rfl⟩
  go_wp2_with fail
  exact bodyPost_ret (v := .tuple #[rv (rt c), .bool true]) (by simp [results, Tryz.results220, go_sem]; try rfl) rfl ⟨rfl, gb_alloc (gb_alloc (.refl w none) _) _⟩
theorem rules_any (c : Conf) (w : World) :
    Calls Tryz.prog 220 #[cf c] w fun e w' => e = .returned (.tuple #[rv (if (rt c).may then rt c else rt0), .bool (rt c).may]) ∧ w.grownBy w' none := by
  by_cases h0 : 1 ≤ c.podsup ∧ c.podsup ≤ 1000
  rotate_left
  · have hm : (rt c).may = false := by
      cases hb : (rt c).may with
      | false => rfl
      | true => exact absurd (Rt.may_iff.1 hb).pu h0
    rw [hm]; exact rules_no0 c h0 w
  by_cases h1 : 1 ≤ c.pctup ∧ c.pctup ≤ 1000
  rotate_left
  · have hm : (rt c).may = false := by
      cases hb : (rt c).may with
      | false => rfl
      | true => exact absurd (Rt.may_iff.1 hb).cu h1
    rw [hm]; exact rules_no1 c h0 h1 w
  by_cases h2 : 1 ≤ c.podsdown ∧ c.podsdown ≤ 1000
  rotate_left
  · have hm : (rt c).may = false := by
      cases hb : (rt c).may with
      | false => rfl
      | true => exact absurd (Rt.may_iff.1 hb).pd h2
    rw [hm]; exact rules_no2 c h0 h1 h2 w
  by_cases h3 : 1 ≤ c.pctdown ∧ c.pctdown ≤ 100
  rotate_left
  · have hm : (rt c).may = false := by
      cases hb : (rt c).may with
      | false => rfl
      | true => exact absurd (Rt.may_iff.1 hb).cd h3
    rw [hm]; exact rules_no3 c h0 h1 h2 h3 w
  by_cases h4 : 1 ≤ c.period ∧ c.period ≤ 60
  rotate_left
  · have hm : (rt c).may = false := by
      cases hb : (rt c).may with
      | false => rfl
      | true => exact absurd (Rt.may_iff.1 hb).per h4
    rw [hm]; exact rules_no4 c h0 h1 h2 h3 h4 w
  by_cases h5 : 1 ≤ c.min ∧ c.min ≤ 10000
  rotate_left
  · have hm : (rt c).may = false := by
      cases hb : (rt c).may with
      | false => rfl
      | true => exact absurd (Rt.may_iff.1 hb).mn h5
    rw [hm]; exact rules_no5 c h0 h1 h2 h3 h4 h5 w
  by_cases h6 : c.min ≤ c.max ∧ c.max ≤ 10000
  rotate_left
  · have hm : (rt c).may = false := by
      cases hb : (rt c).may with
      | false => rfl
      | true => exact absurd (Rt.may_iff.1 hb).mx h6
    rw [hm]; exact rules_no6 c h0 h1 h2 h3 h4 h5 h6 w
  have hm : (rt c).may = true := Rt.may_iff.2 ⟨h0, h1, h2, h3, h4, h5, h6⟩
  rw [hm]; exact rules_yes c h0 h1 h2 h3 h4 h5 h6 w
end Go.Proofs.YtecggbndlbkhdaaGreat
end
section
set_option linter.unusedSimpArgs false
set_option linter.unusedVariables false
namespace Go.Proofs.YtecggbndlbkhdaaGreat
set_option maxRecDepth 100000
open Go.RowKit

/-- what the bounds are reckoned from -/
structure Bd (r : Rt) (b x1 x2 A D x3 x4 B B1 B2 E : Int) : Prop where
  e1 : IntKind.i64.wrap (b - r.pd) = x1
  e2 : IntKind.i64.wrap (100 - r.cd) = x2
  e3 : IntKind.i64.wrap (b * x2) = A
  e4 : IntKind.i64.wrap (A.tdiv 100) = D
  e5 : IntKind.i64.wrap (b + r.pu) = x3
  e6 : IntKind.i64.wrap (100 + r.cu) = x4
  e7 : IntKind.i64.wrap (b * x4) = B
  e8 : IntKind.i64.wrap (B + 100) = B1
  e9 : IntKind.i64.wrap (B1 - 1) = B2
  e8' : IntKind.i64.wrap (B + 99) = B2
  e10 : IntKind.i64.wrap (B2.tdiv 100) = E
  lo : r.lo b = max (min x1 D) 0
  hi : r.hi b = max x3 E
theorem bd_of {r : Rt} {b : Int} (h : r.Ok) (h0 : 0 ≤ b) (h1 : b ≤ 10000) : ∃ x1 x2 A D x3 x4 B B1 B2 E, Bd r b x1 x2 A D x3 x4 B B1 B2 E := by
  have s := Rt.small h h0 h1
  have a1 := h.pu; have a2 := h.cu; have a3 := h.pd; have a4 := h.cd
  refine ⟨b - r.pd, 100 - r.cd, b * (100 - r.cd), b * (100 - r.cd) / 100, b + r.pu, 100 + r.cu, b * (100 + r.cu), b * (100 + r.cu) + 100, b * (100 + r.cu) + 99, (b * (100 + r.cu) + 99) / 100, ?_⟩
  obtain ⟨⟨s1, s2⟩, s3, s4⟩ := s
  have hl : r.lo b = max (min (b - r.pd) (b * (100 - r.cd) / 100)) 0 := rfl
  have hh : r.hi b = max (b + r.pu) ((b * (100 + r.cu) + 99) / 100) := rfl
  generalize hB : b * (100 + r.cu) = B at *
  generalize hA : b * (100 - r.cd) = A at *
  refine ⟨?_, ?_, ?_, ?_, ?_, ?_, ?_, ?_, ?_, ?_, ?_, hl, hh⟩
  · exact IntWalk.i64_in _ (by omega)
  · exact IntWalk.i64_in _ (by omega)
  · rw [hA]; exact IntWalk.i64_in _ (by omega)
  · rw [Int.tdiv_eq_ediv_of_nonneg s3]; exact IntWalk.i64_in _ (by omega)
  · exact IntWalk.i64_in _ (by omega)
  · exact IntWalk.i64_in _ (by omega)
  · rw [hB]; exact IntWalk.i64_in _ (by omega)
  · exact IntWalk.i64_in _ (by omega)
  · rw [show B + 100 - 1 = B + 99 by omega]; exact IntWalk.i64_in _ (by omega)
  · exact IntWalk.i64_in _ (by omega)
  · rw [Int.tdiv_eq_ediv_of_nonneg (by omega)]; exact IntWalk.i64_in _ (by omega)
theorem pbounds_any (r : Rt) (b : Int) (h : r.Ok) (h0 : 0 ≤ b) (h1 : b ≤ 10000) (w : World) :
    Calls Tryz.prog 364 #[rv r, .int .i64 b] w fun e w' => e = .returned (.tuple #[.int .i64 (r.lo b), .int .i64 (r.hi b)]) ∧ w.grownBy w' none := by
  obtain ⟨x1, x2, A, D, x3, x4, B, B1, B2, E, hb⟩ := bd_of h h0 h1
  obtain ⟨e1, e2, e3, e4, e5, e6, e7, e8, e9, -, e10, hl, hh⟩ := hb
  have HL := hid hl; have HH := hid hh
  generalize r.lo b = L at *
  generalize r.hi b = H at *
  clear hl hh h h0 h1
  go_enter Tryz.func364, Tryz.ntmps364
  go_wp2_with fail
  all_goals go_ret2
  all_goals exact ⟨by rw [HL.out, HH.out]; first | rfl | (congr 3 <;> omega), gb_alloc (.refl w none) _⟩
theorem isMade_any {b : Nat} {p : Po} {w : World} (H : PoAt w b p) :
    Calls Tryz.prog 195 #[.pointer (some ⟨b, 0, none⟩)] w fun e w' => e = .returned (.bool true) ∧ w.grownBy w' none := by
  obtain ⟨-, -, -, c7, fz⟩ := H.cells
  have hn := H.ok.n60; have hn1 := H.ok.n1
  have L0 := hid (load_i64 ⟨b, 7, none⟩ (p.l.length : Int) w c7)
  generalize p.l.length = n at *
  have hp : 0 < n := hn1
  clear H
  go_enter Tryz.func195, Tryz.ntmps195
  go_wp2_with fail
  refine L0.out.mono ?_
  rintro e w1 ⟨rfl, rfl⟩
  go_wp2_with fail
  go_ret
  exact ⟨by simp [hp], .refl w none⟩
theorem parr_len : Tryz.prog.arrayLen 350 = 60 := by kernel_rfl
theorem parr_elem : Tryz.prog.elem 350 = 3 := by kernel_rfl
theorem psize_num (u : World) : (sizeOf 3).run Tryz.prog u = .ok 1 u := by
  obtain ⟨i, hi, hz0, hz1, hz2⟩ := info_parts info_num
  simp [sizeOf, typeInfo, hi, hz1]
theorem parr_h (b n : Nat) (h : n ≤ 60) (u : World) : (Instr.sliceAt 350 (.pointer (some ⟨b, 8, none⟩)) none (some (.int .i64 (n : Int))) none).run Tryz.prog u = .ok (.slice (some ⟨b, 8, none⟩) n 60) u := by
  rw [run_sliceAt_array_h (P := Tryz.prog) u 350 ⟨b, 8, none⟩ (by kernel_rfl) .i64 (n : Int) (by omega) (by rw [parr_len]; omega), parr_elem, psize_num, parr_len]
  simp [slicedAt, Result.andThen, Addr.add]
theorem parr_all (b : Nat) (u : World) : (Instr.sliceAt 350 (.pointer (some ⟨b, 8, none⟩)) none none none).run Tryz.prog u = .ok (.slice (some ⟨b, 8, none⟩) 60 60) u := by
  rw [run_sliceAt_array_all (P := Tryz.prog) u 350 ⟨b, 8, none⟩ (by kernel_rfl), parr_elem, psize_num, parr_len]
  simp [slicedAt, Result.andThen, Addr.add]
/-- what is kept -/
theorem potop_any {b : Nat} {p : Po} {w : World} (H : PoTop w b p) (hn : p.l.length ≤ 60) :
    Calls Tryz.prog 196 #[.pointer (some ⟨b, 0, none⟩)] w fun e w' => e = .returned (.slice (some ⟨b, 8, none⟩) p.l.length 60) ∧ w.grownBy w' none := by
  obtain ⟨-, -, -, c2, fz⟩ := H.cells
  have L0 := hid (fun W (h : W.cell? ⟨b, 7, none⟩ = some (.int .i64 (p.l.length : Int))) => load_i64 ⟨b, 7, none⟩ (p.l.length : Int) W h)
  generalize p.l.length = n at *
  have hs := fun u => parr_h b n hn u
  clear H
  go_enter Tryz.func196, Tryz.ntmps196
  go_wp2_with fail
  go_quiet ((go_at_call 100; exact Calls.quiet_of_same (still_of (L0.out _ (by assumption)))))
  go_wp2_with fail
  go_ret
  exact ⟨rfl, ⟨rfl, rfl, rfl, Nat.le_refl _, fun _ _ _ => rfl⟩⟩
theorem pall_any {b : Nat} {p : Po} {w : World} (H : PoAt w b p) :
    Calls Tryz.prog 196 #[.pointer (some ⟨b, 0, none⟩)] w fun e w' => e = .returned (.slice (some ⟨b, 8, none⟩) p.l.length 60) ∧ w.grownBy w' none := potop_any H.top H.ok.n60

/-- the operation copy -/
theorem pwp_copyN {w : World} {o : Oper} {a : Act} {K : Act → World → Prop} {Q : Exit → Act → World → Prop} (d s : Operand)
    (ho : o.op = .call { callee := .builtin .copy, args := #[d, s], argTypes := #[22, 22] }) (v u : Value) (hd : a.eval d = v) (hs : a.eval s = u) {v' : Value} {w' : World}
    (hr : (Builtin.copy_ #[22, 22] o.type #[v, u]).run Tryz.prog w = .ok v' w') (h : K (a.put o.dst v') w') : o.wp Tryz.prog a w K Q := by
  unfold Oper.wp execOp
  simp only [ho, resolve, invoke, builtin, Sem.run_bind, Sem.run_pure, Result.andThen_ok, List.map_toArray, List.map_cons, List.map_nil, hd, hs, hr]
  exact h
/-- numbers into the row -/
theorem pcopy_into {w : World} {b n : Nat} {r : Rt} {ws : List Int} (hb : w.heap[b]? = some (.cells (poCells r n ws) 352)) (hw : ws.length = 60) {v : Value} {l : List Int} (hv : IntsAt w v l) (hl : l.length ≤ 60) (ty : TypeId) :
    ∃ w', (Builtin.copy_ #[22, 22] ty #[.slice (some ⟨b, 8, none⟩) 60 60, v]).run Tryz.prog w = .ok (goInt l.length) w' ∧ w'.heap[b]? = some (.cells (poCells r n (l ++ ws.drop l.length)) 352) ∧ Chg [b] w w' := by
  obtain ⟨i, hi, hz0, hz1, hz2⟩ := info_parts info_num
  have hsz : (Tryz.prog.info? 3).map (·.size) = some 1 := by rw [hi]; simp [hz1]
  have hcl : (poCells r n ws).size = 68 := by simp [poCells, hw]
  rcases hv with ⟨rfl, rfl⟩ | ⟨a, cap, rfl, h1, h2, h3⟩
  · refine ⟨w, ?_, by simpa using hb, chg_refl _ _⟩
    exact run_copy_nil Tryz.prog w 22 22 ty 3 ⟨b, 8, none⟩ 60 60 Tryz.underlying22 (by rw [hi]; rfl)
  · have hmin : (l.map iv).length = Nat.min l.length 60 := by rw [List.length_map]; exact (Nat.min_eq_left hl).symm
    refine ⟨_, (run_copy_row Tryz.prog w 22 22 ty 3 b 8 60 60 a l.length cap (poCells r n ws) _ (l.map iv) Tryz.underlying22 hsz hb hmin (fun j x hj => ?_) (by rw [List.length_map, hcl]; omega) (fun x hx => ?_)).trans (by rw [List.length_map]), ?_, ?_⟩
    · rw [List.getElem?_map] at hj
      by_cases hlt : j < l.length
      · rw [List.getElem?_eq_getElem hlt] at hj; cases hj; exact h3 j hlt
      · rw [List.getElem?_eq_none (by omega)] at hj; cases hj
    · obtain ⟨c, _, rfl⟩ := List.mem_map.1 hx; rfl
    · rw [setRow_heap w b _ _ _ _ hb]
      simp [poCells, Nat.add_comm 8]
    · exact ⟨rfl, rfl, rfl, by simp [World.setRow], fun k hk hn => setRow_other w b k _ (by intro e; exact hn (by simp [e]))⟩
/-- how many are kept is another now; one of the row is -/
theorem prow_kept {w : World} {b n : Nat} {r : Rt} {ws : List Int} (hb : w.heap[b]? = some (.cells (poCells r n ws) 352)) (m : Nat) : (w.setCell ⟨b, 7, none⟩ (.int .i64 (m : Int))).heap[b]? = some (.cells (poCells r m ws) 352) := by
  rw [at_set hb]; simp [poCells, iv]
theorem prow_want {w : World} {b n : Nat} {r : Rt} {ws : List Int} (hb : w.heap[b]? = some (.cells (poCells r n ws) 352)) (k : Nat) (x : Int) : (w.setCell ⟨b, 8 + k, none⟩ (.int .i64 x)).heap[b]? = some (.cells (poCells r n (ws.set k x)) 352) := by
  rw [at_set hb]; simp [poCells, iv, Nat.add_comm 8]
theorem pkeptn {w : World} {b n m : Nat} {r : Rt} {ws : List Int} (hb : w.heap[b]? = some (.cells (poCells r n ws) 352)) (z s : Int) (hs : IntKind.i64.wrap ((n : Int) + z) = s) (hm : s = (m : Int)) :
    Calls Tryz.prog 155 #[.pointer (some ⟨b, 7, none⟩), .int .i64 z] w fun e w' => e = .returned (.int .i64 s) ∧ w'.heap[b]? = some (.cells (poCells r m ws) 352) ∧ Chg [b] w w' := by
  subst hm
  refine (addn_i64 ⟨b, 7, none⟩ (n : Int) z _ w (by rw [at_cell hb, po_cell7]) (at_free hb 7) hs).mono ?_
  rintro e w' ⟨rfl, rfl⟩
  exact ⟨rfl, prow_kept hb m, (chg_refl w [b]).set (.inl (by simp)) _⟩
end Go.Proofs.YtecggbndlbkhdaaGreat
end
section
set_option linter.unusedSimpArgs false
set_option linter.unusedVariables false
namespace Go.Proofs.YtecggbndlbkhdaaGreat
set_option maxRecDepth 100000
open Go.RowKit

/-- with one more behind -/
def Po.keep (p : Po) (x : Int) : Po := ⟨p.r, lastL (p.l ++ [x]) p.r.per.toNat⟩
theorem keep_full {p : Po} {m : Nat} (hm : p.r.per = (m : Int)) (h1 : 1 ≤ m) (h : p.l.length = m) (x : Int) : (p.keep x).l = p.l.drop 1 ++ [x] := by
  show lastL (p.l ++ [x]) p.r.per.toNat = _
  unfold lastL
  rw [hm, Int.toNat_natCast, List.length_append, List.length_singleton, show p.l.length + 1 - m = 1 by omega, List.drop_append_of_le_length (by omega)]
theorem keep_room {p : Po} {m : Nat} (hm : p.r.per = (m : Int)) (h : p.l.length < m) (x : Int) : (p.keep x).l = p.l ++ [x] := by
  show lastL (p.l ++ [x]) p.r.per.toNat = _
  exact lastL_all (by rw [hm, Int.toNat_natCast, List.length_append, List.length_singleton]; omega)
/-- what is kept of a call that puts x behind -/
def Kept (w : World) (b : Nat) (p : Po) (e : Ending) (w' : World) : Prop := e = .returned (.tuple #[]) ∧ PoTop w' b p ∧ Chg [b] w w'
theorem keep_fin {w w3 : World} {b : Nat} {p : Po} {ws : List Int} {K : Nat} {x : Int} {l0 : List Int} (h60 : ws.length = 60) (hl : ws.take K = l0) (hK : K < 60) (h0 : l0.length = K) (hp : (p.keep x).l = l0 ++ [x])
    (hr : w3.heap[b]? = some (.cells (poCells p.r (K + 1) ws) 352)) (hc : Chg [b] w w3) :
    PoTop (w3.setCell ⟨b, 8 + K, none⟩ (.int .i64 x)) b (p.keep x) ∧ Chg [b] w (w3.setCell ⟨b, 8 + K, none⟩ (.int .i64 x)) := by
  have hlen : (p.keep x).l.length = K + 1 := by rw [hp, List.length_append, h0]; rfl
  refine ⟨⟨ws.set K x, by rw [List.length_set, h60], ?_, ?_⟩, hc.set (.inl (by simp)) _⟩
  · rw [hlen, List.take_succ_eq_append_getElem (by rw [List.length_set]; omega), hp, List.getElem_set_self, List.take_set_of_le (Nat.le_refl _), hl]
  · rw [hlen]
    exact prow_want hr K x

set_option maxHeartbeats 1600000 in
theorem keep_any {b : Nat} {p : Po} (x : Int) (m : Nat) (hm : p.r.per = (m : Int)) (m1 : 1 ≤ m) (m60 : m ≤ 60) (hn : p.l.length ≤ m) {w : World} (H : PoTop w b p) :
    Calls Tryz.prog 222 #[.pointer (some ⟨b, 0, none⟩), .int .i64 x] w (Kept w b (p.keep x)) := by
  have A := hid (potop_any H (by omega))
  have PF := hid (fun h => keep_full (p := p) hm m1 h x)
  have PR := hid (fun h => keep_room (p := p) hm h x)
  have C4 := hid (fun W (h : w.grownBy W none) => (H.grown h).cells.1)
  have HI0 := hid (fun W (h : w.grownBy W none) => (H.grown h).ints (by omega))
  rw [hm] at C4
  obtain ⟨ws, h60, htk, hrow⟩ := H
  have H60 := hid h60; have HTK := hid htk
  have hrw := hid (fun W (h : w.grownBy W none) => at_grown hrow h (by simp))
  obtain ⟨n, hN⟩ : ∃ n, p.l.length = n := ⟨_, rfl⟩
  rw [hN] at A hn hrw HI0
  have HN := hid hN
  clear hN hm h60 htk hrow
  by_cases hf : n = m
  · subst hf
    have s0 : ((n : Int) == (n : Int)) = true := by simp
    obtain ⟨K, hK⟩ : ∃ K, n = K + 1 := ⟨n - 1, by omega⟩
    have HKK := hid hK
    have hs := fun u => parr_all b u
    clear hK
    go_enter Tryz.func222, Tryz.ntmps222
    go_wp2_with fail
    refine A.out.mono ?_
    rintro e w1 ⟨rfl, hg1⟩
    have G1 := hid (gb_drew hg1)
    have c4 := C4.out _ hg1; clear hg1
    go_wp2_with fail
    have HS := hid (hrw.out _ G1.out)
    have HI4 := hid (show IntsAt w1.drew (.slice (some ⟨b, 9, none⟩) (n - 1) 59) (p.l.drop 1) from by
      have hk := HKK.out
      have h := ints_slice1 (HI0.out _ G1.out) (i := 1) (by omega)
      exact h)
    have n1i : (1 : Int) ≤ (n : Int) := by omega
    have hcp := fun ty => pcopy_into HS.out H60.out HI4.out (by rw [List.length_drop, HN.out]; omega) ty
    obtain ⟨w3, hc1, hc2, hc3⟩ := hcp 3
    rw [show (p.l.drop 1).length = K by rw [List.length_drop, HN.out]; have := HKK.out; omega] at hc1 hc2
    have HC2 := hid hc2; have HC3 := hid hc3
    have c2 := at_cell hc2 7; rw [po_cell7] at c2
    have f2 := at_free hc2 7
    have HST := hid (store_i64 ⟨b, 7, none⟩ (K : Int) _ w3 c2 f2)
    clear hc2 hc3 hcp c2 f2
    refine wp_region_last (S := (fun w' => (True))) 10 10 #[false, false, false, false, false, false, false, false, false, false, true] (by kernel_rfl) (by kernel_rfl) (by kernel_rfl) (by kernel_rfl) trivial (fun hHeld => ?_)
    try dsimp only at hHeld
    refine jU 0 hHeld ?_
    try simp only [jX, jD, jE, jF]
    refine jU 1 hHeld ?_
    try simp only [jX, jD, jE, jF]
    refine jU 2 hHeld ?_
    try simp only [jX, jD, jE, jF]
    refine jU 3 hHeld ?_
    try simp only [jX, jD, jE, jF]
    refine jU 4 hHeld ?_
    try simp only [jX, jD, jE, jF]
    refine jU 5 hHeld ?_
    try simp only [jX, jD, jE, jF]
    refine jU 6 hHeld ?_
    try simp only [jX, jD, jE, jF]
    refine jU 7 hHeld ?_
    try simp only [jX, jD, jE, jF]
    refine jU 8 hHeld ?_
    try simp only [jX, jD, jE, jF]
    refine jR [9] ?_
    refine jG rfl (fun K hK => ?_) AllReadyH.nil
    have hH2 := hHeld
    have hp := hH2
    try simp only [jD, jE, jF]
    rw [if_pos (by rfl)]
    refine pwp_copyN _ _ rfl _ _ rfl rfl hc1 ?_
    have L9 := hid (show (True) from hp)
    clear hHeld hp
    refine hK.out _ _ ?_ (fun hHeld => ?_)
    · exact L9.out
    clear hK K
    try dsimp only at hHeld
    try simp only [jX, jD, jE, jF]
    refine wpAnyH_done (by kernel_rfl) ?_ _
    have hp := hHeld
    clear hp
    refine atLast_step (o := _) rfl (fun KK hK => ?_)
    try simp only [jD, jE, jF]
    go_simp
    refine HST.out.mono ?_
    rintro e w4 ⟨rfl, rfl⟩
    go_wp2_with fail
    refine hK.out _ _ ?_
    clear hK KK
    try simp only [jX, jD, jE, jF]
    have HROW0 := hid (prow_kept HC2.out K)
    have HC0 := hid (show Chg [b] w (w3.setCell ⟨b, 7, none⟩ (.int .i64 (K : Int))) from ((chg_grown G1.out [b]).then HC3.out).set (.inl (by simp)) _)
    generalize w3.setCell ⟨b, 7, none⟩ (.int .i64 (K : Int)) = wq at *
    have HROW := hid (show wq.drew.heap[b]? = _ from HROW0.out)
    have HC := hid (show Chg [b] w wq.drew from HC0.out.drew)
    have HFIN := hid (fun (w3 : World) hr hc => keep_fin (w := w) (w3 := w3) (b := b) (p := p) (ws := p.l.drop 1 ++ ws.drop K) (K := K) (x := x) (l0 := p.l.drop 1) (by rw [List.length_append, List.length_drop, List.length_drop, H60.out, HN.out]; have := HKK.out; omega) (by
      rw [List.take_append_of_le_length (by rw [List.length_drop, HN.out]; have := HKK.out; omega), List.take_of_length_le (by rw [List.length_drop, HN.out]; have := HKK.out; omega)]) (by have := HKK.out; omega) (by rw [List.length_drop, HN.out, HKK.out]; rfl) (PF.out HN.out) hr hc)
    have HK5 := hid (show K < (p.l.drop 1 ++ ws.drop K).length by rw [List.length_append, List.length_drop, List.length_drop, H60.out, HN.out]; have := HKK.out; omega)
    generalize p.l.drop 1 ++ ws.drop K = ws1 at *
    have hk60 : K < 60 := by have := HKK.out; omega
    obtain ⟨z, hz⟩ : ∃ z : Int, z = (K : Int) + 1 := ⟨_, rfl⟩
    have HZ := hid (show IntKind.i64.wrap ((K : Int) + 1) = z by rw [← hz]; exact IntWalk.i64_in _ (by omega))
    have HZK := hid (show z = ((K + 1 : Nat) : Int) by omega)
    have s5 : IntKind.i64.wrap (z - 1) = (K : Int) := by rw [IntWalk.i64_in _ (by omega)]; omega
    have k5 : (K : Int) < 60 := by omega
    clear hz HKK s0 HC2 HC3 HI4 HS HST hc1 HTK H60 HI0 hrw
    go_wp2_with fail
    refine wp_region_last (S := (fun w' => (True))) 10 10 #[false, false, false, false, false, false, false, false, false, false, true] (by kernel_rfl) (by kernel_rfl) (by kernel_rfl) (by kernel_rfl) trivial (fun hHeld => ?_)
    try dsimp only at hHeld
    refine jU 0 hHeld ?_
    try simp only [jX, jD, jE, jF]
    refine jU 1 hHeld ?_
    try simp only [jX, jD, jE, jF]
    refine jU 2 hHeld ?_
    try simp only [jX, jD, jE, jF]
    refine jU 3 hHeld ?_
    try simp only [jX, jD, jE, jF]
    refine jU 6 hHeld ?_
    try simp only [jX, jD, jE, jF]
    refine jU 7 hHeld ?_
    try simp only [jX, jD, jE, jF]
    refine jU 8 hHeld ?_
    try simp only [jX, jD, jE, jF]
    refine jR [4] ?_
    refine jG rfl (fun K hK => ?_) AllReadyH.nil
    try simp only [jD, jE, jF]
    go_simp
    have hH2 := hHeld
    have hp := hH2
    refine (pkeptn HROW.out 1 z HZ.out HZK.out).mono ?_
    rintro e w1004 ⟨rfl, hrow, hch⟩
    have HR2 := hid hrow; have HC2 := hid (HC.out.then hch); clear hrow hch
    have hg := True.intro
    have L4 := hid (show (True) from hp)
    clear hHeld hg hp
    go_wp2_with fail
    refine hK.out _ _ ?_ (fun hHeld => ?_)
    · exact L4.out
    clear hK K
    try dsimp only at hHeld
    try simp only [jX, jD, jE, jF]
    refine jU 5 hHeld ?_
    try simp only [jX, jD, jE, jF]
    refine jU 9 hHeld ?_
    try simp only [jX, jD, jE, jF]
    refine wpAnyH_done (by kernel_rfl) ?_ _
    have hp := hHeld
    have c5 := at_cell HR2.out (8 + K); have f5 := at_free HR2.out (8 + K)
    rw [po_cellk, List.getElem?_eq_getElem HK5.out] at c5
    clear hp
    refine atLast_step (o := _) rfl (fun K hK => ?_)
    try simp only [jD, jE, jF]
    go_simp
    refine hK.out _ _ ?_
    clear hK K c5 f5
    try simp only [jX, jD, jE, jF]
    go_wp2_with fail
    go_end0
    exact ⟨rfl, HFIN.out _ HR2.out HC2.out⟩
  · have s0 : ((n : Int) == (m : Int)) = false := by simp; omega
    have hk60 : n < 60 := by omega
    have HLT := hid (show n < m by omega)
    go_enter Tryz.func222, Tryz.ntmps222
    go_wp2_with fail
    refine A.out.mono ?_
    rintro e wq ⟨rfl, hg1⟩
    have G1 := hid (gb_drew hg1)
    have c4 := C4.out _ hg1; clear hg1
    have HROW := hid (hrw.out _ G1.out)
    have HC := hid (chg_grown G1.out [b])
    have HFIN := hid (fun (w3 : World) hr hc => keep_fin (w := w) (w3 := w3) (b := b) (p := p) (ws := ws) (K := n) (x := x) (l0 := p.l) H60.out (by rw [← HN.out]; exact HTK.out) hk60 HN.out (PR.out (by rw [HN.out]; exact HLT.out)) hr hc)
    have HK5 := hid (show n < ws.length by rw [H60.out]; exact hk60)
    obtain ⟨z, hz⟩ : ∃ z : Int, z = (n : Int) + 1 := ⟨_, rfl⟩
    have HZ := hid (show IntKind.i64.wrap ((n : Int) + 1) = z by rw [← hz]; exact IntWalk.i64_in _ (by omega))
    have HZK := hid (show z = ((n + 1 : Nat) : Int) by omega)
    have s5 : IntKind.i64.wrap (z - 1) = (n : Int) := by rw [IntWalk.i64_in _ (by omega)]; omega
    have k5 : (n : Int) < 60 := by omega
    clear hz HTK H60 hf HI0 hrw
    go_wp2_with fail
    refine wp_region_last (S := (fun w' => (True))) 10 10 #[false, false, false, false, false, false, false, false, false, false, true] (by kernel_rfl) (by kernel_rfl) (by kernel_rfl) (by kernel_rfl) trivial (fun hHeld => ?_)
    try dsimp only at hHeld
    refine jU 0 hHeld ?_
    try simp only [jX, jD, jE, jF]
    refine jU 1 hHeld ?_
    try simp only [jX, jD, jE, jF]
    refine jU 2 hHeld ?_
    try simp only [jX, jD, jE, jF]
    refine jU 3 hHeld ?_
    try simp only [jX, jD, jE, jF]
    refine jU 6 hHeld ?_
    try simp only [jX, jD, jE, jF]
    refine jU 7 hHeld ?_
    try simp only [jX, jD, jE, jF]
    refine jU 8 hHeld ?_
    try simp only [jX, jD, jE, jF]
    refine jR [4] ?_
    refine jG rfl (fun K hK => ?_) AllReadyH.nil
    try simp only [jD, jE, jF]
    go_simp
    have hH2 := hHeld
    have hp := hH2
    refine (pkeptn HROW.out 1 z HZ.out HZK.out).mono ?_
    rintro e w1004 ⟨rfl, hrow, hch⟩
    have HR2 := hid hrow; have HC2 := hid (HC.out.then hch); clear hrow hch
    have hg := True.intro
    have L4 := hid (show (True) from hp)
    clear hHeld hg hp
    go_wp2_with fail
    refine hK.out _ _ ?_ (fun hHeld => ?_)
    · exact L4.out
    clear hK K
    try dsimp only at hHeld
    try simp only [jX, jD, jE, jF]
    refine jU 5 hHeld ?_
    try simp only [jX, jD, jE, jF]
    refine jU 9 hHeld ?_
    try simp only [jX, jD, jE, jF]
    refine wpAnyH_done (by kernel_rfl) ?_ _
    have hp := hHeld
    have c5 := at_cell HR2.out (8 + n); have f5 := at_free HR2.out (8 + n)
    rw [po_cellk, List.getElem?_eq_getElem HK5.out] at c5
    clear hp
    refine atLast_step (o := _) rfl (fun K hK => ?_)
    try simp only [jD, jE, jF]
    go_simp
    refine hK.out _ _ ?_
    clear hK K c5 f5
    try simp only [jX, jD, jE, jF]
    go_wp2_with fail
    go_end0
    exact ⟨rfl, HFIN.out _ HR2.out HC2.out⟩
end Go.Proofs.YtecggbndlbkhdaaGreat
end
section
namespace Go.Proofs.YtecggbndlbkhdaaGreat
set_option maxRecDepth 100000
open Go.RowKit
theorem umod_small (x : Int) (m : Nat) (h0 : 0 < m) : ∃ k : Nat, k < m ∧ (IntKind.u64.wrap x).tmod (m : Int) = (k : Int) := by
  have h : 0 ≤ IntKind.u64.wrap x := by
    show 0 ≤ x % _
    exact Int.emod_nonneg _ (by decide)
  rw [Int.tmod_eq_emod_of_nonneg h]
  have a := Int.emod_nonneg (IntKind.u64.wrap x) (b := (m : Int)) (by omega)
  have b := Int.emod_lt_of_pos (IntKind.u64.wrap x) (b := (m : Int)) (by omega)
  exact ⟨((IntKind.u64.wrap x) % (m : Int)).toNat, by omega, by omega⟩
end Go.Proofs.YtecggbndlbkhdaaGreat
end
section
namespace Go.Proofs.YtecggbndlbkhdaaGreat
set_option maxRecDepth 100000
open Go.RowKit
theorem umod_int (x : Int) (m : Nat) (h0 : 0 < m) : ∃ k : Int, 0 ≤ k ∧ k < (m : Int) ∧ (IntKind.u64.wrap x).tmod (m : Int) = k := by
  obtain ⟨k, h1, h2⟩ := umod_small x m h0
  exact ⟨k, by omega, by omega, h2⟩
end Go.Proofs.YtecggbndlbkhdaaGreat
end
