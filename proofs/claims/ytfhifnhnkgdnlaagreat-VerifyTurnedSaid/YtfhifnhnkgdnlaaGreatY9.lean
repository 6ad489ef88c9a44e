/-
  Contract: a new gate of a configuration that may be; none of one that may not. The condition: the configuration's parts are told as numbers.
  Contract: no gate of a configuration that may not be; and whom a configuration's made gate is of. No condition.
  Contracts for the document's own collector: a new one, and the next envelope. The condition of a call: the object lies there.
  Contracts for Sample, Beat, Rotate, of package seal and of the document's own collector. The condition of a call: the object lies there; or it is nil.
  What a walk keeps beside a gate and a collector that change: blocks known whole, bytes of the call's own. What a check tells of an envelope that was sealed, and of one with a byte of its tag turned. No condition.
  Contracts: the default, of the program and of the document. No condition.
  Contract: the first part that may not be, as the document says it: it is what the program finds. No condition.
  A configuration of the law's own, in a block. No condition.
  Arguments that are numbers laid side by side (structs and arrays of numbers, one in another): each cell of such a value is a number of its kind. No condition. Nothing of the program's functions is named here.
  Arguments that are numbers laid side by side (structs and arrays of numbers, one in another): each cell of such a value is a number of its kind. And: arguments read behind the call as they did before it, where nothing that was there has changed. No condition. Nothing of the program's functions is named here.
  Slices of numbers of kind int that came in, as a list. No condition. Nothing of the program's functions is named here.
-/
import Derived.Test.YtfhifnhnkgdnlaaGreatJ0
import Derived.Test.YtfhifnhnkgdnlaaGreatY4
import Derived.Test.YtfhifnhnkgdnlaaGreatY8
import Derived.Test.YtfhifnhnkgdnlaaGreatY7
import Derived.Deep.RegionHeld3
import Derived.LoopTactic
import Derived.Test.YtfhifnhnkgdnlaaGreatY5
import Derived.StillTailTactics
import Derived.WalkSpells
import Derived.WalkLawsBesides
import Derived.Test.YtfhifnhnkgdnlaaGreatY2
import Derived.Test.YtfhifnhnkgdnlaaGreatY1
import Derived.Test.YtfhifnhnkgdnlaaGreatRows
import Derived.ProofKit
import Derived.OpenShut
import Derived.ChangeOld
import Derived.Below
section
set_option linter.unusedSimpArgs false
set_option linter.unusedVariables false
namespace Go.Proofs.YtfhifnhnkgdnlaaGreat
set_option maxRecDepth 100000
open Go.RowKit

theorem info_gholder : (Tryz.prog.info? 104).map (fun i => (i.zero, i.size, i.bytes)) = some (some (.agg #[.int .u32 0, .pointer none, .pointer none]), 3, 24) := by kernel_rfl
def gCells (n : Nat) : Array Value := madeCells #[.int .u32 0, .pointer none, .pointer none] (n * 3)
theorem made_3 (a b c : Value) (m j : Nat) (h : j < m) : (madeCells #[a, b, c] m)[j]? = some (if j % 3 = 0 then a else if j % 3 = 1 then b else c) := by
  have : j % 3 = 0 ∨ j % 3 = 1 ∨ j % 3 = 2 := by omega
  rcases this with e | e | e <;> simp [madeCells, h, e]
theorem mk_gholders (n : Nat) (hn : n ≤ 16) (u : World) : (Instr.makeSlice 94 (.int .i64 (n : Int)) (.int .i64 (n : Int))).run Tryz.prog u = .ok (.slice (some ⟨u.heap.size, 0, none⟩) n n) (u.alloc (.cells (gCells n) 104)) := by
  obtain ⟨i, hi, hz0, hz1, hz2⟩ := info_parts info_gholder
  have := run_makeSlice (P := Tryz.prog) u 94 104 i _ Tryz.underlying94 hi hz0 .i64 .i64 (n : Int) (n : Int) (by omega) (Int.le_refl _) (by rw [hz1]; omega) (by rw [hz2]; omega) (by omega)
  rw [this, hz1]
  simp [gCells, Value.cells]

/-- a gate that is being made: of k windows each a block -/
def ptrTo (P : Nat → Nat) (k a : Nat) : Value := .pointer (if a < k then some ⟨P a, 0, none⟩ else none)
structure Nw (w0 : World) (bx gb rb rh hb : Nat) (c : Conf) (sd : BitVec 64) (n grace win met fresh : Nat) (P : Nat → Nat) (k : Nat) (w : World) : Prop where
  box : w.heap[bx]? = some (.cells c.cells 27)
  top : w.heap[gb]? = some (.cells #[.pointer (some ⟨rb, 0, none⟩), .slice (some ⟨hb, 0, none⟩) n n, .int .i64 (win : Int), .int .i64 (met : Int), .int .i64 (fresh : Int)] 96)
  ring : RgAt w rb rh (.new sd n grace)
  row : ∃ cs : Array Value, w.heap[hb]? = some (.cells cs 104) ∧ ∀ i, i < n → cs[i * 3]? = some (.int .u32 0) ∧ cs[i * 3 + 1]? = some (ptrTo P k (2 * i)) ∧ cs[i * 3 + 2]? = some (ptrTo P k (2 * i + 1))
  rep : ∀ a, a < k → RpAt w (P a) (.new win)
  ord : ∀ a b, a < b → b < k → P a < P b
  bel : ∀ a, a < k → bx < P a ∧ gb < P a ∧ rb < P a ∧ rh < P a ∧ hb < P a
  lo : w0.heap.size ≤ gb ∧ w0.heap.size ≤ rb ∧ w0.heap.size ≤ rh ∧ w0.heap.size ≤ hb
  g : w0.grownBy w none
section
variable {w0 w w1 : World} {bx gb rb rh hb : Nat} {c : Conf} {sd : BitVec 64} {n grace win met fresh : Nat} {P : Nat → Nat} {k nb : Nat}
theorem Nw.row_at (h : Nw w0 bx gb rb rh hb c sd n grace win met fresh P k w) : ∃ cs : Array Value, w.heap[hb]? = some (.cells cs 104) := by obtain ⟨cs, h1, _⟩ := h.row; exact ⟨cs, h1⟩
/-- one window more -/
theorem Nw.step (h : Nw w0 bx gb rb rh hb c sd n grace win met fresh P k w) (hg : w.grownBy w1 none) (hp : RpAt w1 nb (.new win)) (hn : w.heap.size ≤ nb) {i s : Nat} (hi : i < n) (hs : s < 2) (hk : k = 2 * i + s) :
    Nw w0 bx gb rb rh hb c sd n grace win met fresh (fun a => if a = k then nb else P a) (k + 1) (w1.setCell ⟨hb, i * 3 + 1 + s, none⟩ (.pointer (some ⟨nb, 0, none⟩))) := by
  obtain ⟨cs, r1, r2⟩ := h.row
  have hb1 := at_grown r1 hg (by simp)
  have e1 : bx ≠ hb := obj_ne h.box r1 (by decide)
  have e2 : gb ≠ hb := obj_ne h.top r1 (by decide)
  have e3 : rb ≠ hb := obj_ne h.ring.top r1 (by decide)
  obtain ⟨ds, k1, k2⟩ := h.ring.row
  have e4 : rh ≠ hb := obj_ne k1 r1 (by decide)
  have l1 := at_lt h.box; have l2 := at_lt h.top; have l3 := h.ring.lt; have l4 := at_lt r1
  have lP : ∀ a, a < k → P a < w.heap.size := fun a ha => (h.rep a ha).lt
  have eP : ∀ a, a < k → P a ≠ hb := fun a ha => by have := (h.bel a ha).2.2.2.2; omega
  have hc : Chg [hb] w1 (w1.setCell ⟨hb, i * 3 + 1 + s, none⟩ (.pointer (some ⟨nb, 0, none⟩))) := (chg_refl w1 [hb]).set (.inl (by simp)) _
  refine ⟨hc.at (at_grown h.box hg (by simp)) (by simpa using e1), hc.at (at_grown h.top hg (by simp)) (by simpa using e2), (h.ring.grown hg).chg hc (by simpa using e3) (by simpa using e4), ⟨_, at_set hb1 _ _, fun j hj => ?_⟩, fun a ha => ?_, fun a b hab hb' => ?_, fun a ha => ?_, h.lo, ?_⟩
  · obtain ⟨q1, q2, q3⟩ := r2 j hj
    obtain ⟨p1, p2, p3⟩ := r2 i hi
    have z2 := (Array.getElem?_eq_some_iff.1 p2).1
    have z3 := (Array.getElem?_eq_some_iff.1 p3).1
    simp only [Array.getElem?_setIfInBounds]
    have hsz : i * 3 + 1 + s < cs.size := by omega
    refine ⟨?_, ?_, ?_⟩
    · rw [if_neg (by omega)]; exact q1
    · by_cases e : i * 3 + 1 + s = j * 3 + 1
      · rw [if_pos e, if_pos hsz]
        have : 2 * j = k := by omega
        simp [ptrTo, this]
      · rw [if_neg e, q2]
        have hne : 2 * j ≠ k := by omega
        have e9 : (2 * j < k) = (2 * j < k + 1) := by apply propext; omega
        simp only [ptrTo, e9, if_neg hne]
    · by_cases e : i * 3 + 1 + s = j * 3 + 2
      · rw [if_pos e, if_pos hsz]
        have : 2 * j + 1 = k := by omega
        simp [ptrTo, this]
      · rw [if_neg e, q3]
        have hne : 2 * j + 1 ≠ k := by omega
        have e9 : (2 * j + 1 < k) = (2 * j + 1 < k + 1) := by apply propext; omega
        simp only [ptrTo, e9, if_neg hne]
  · by_cases e : a = k
    · rw [if_pos e]; exact hp.chg hc (by have : nb ≠ hb := by omega
                                         simpa using this)
    · rw [if_neg e]; exact ((h.rep a (by omega)).grown hg).chg hc (by simpa using eP a (by omega))
  · by_cases e : b = k
    · rw [if_neg (by omega), if_pos e]; have := lP a (by omega); omega
    · rw [if_neg (by omega), if_neg e]; exact h.ord a b hab (by omega)
  · by_cases e : a = k
    · rw [if_pos e]; omega
    · rw [if_neg e]; exact h.bel a (by omega)
  · exact gb_new (gb_trans h.g hg (.inl rfl)) h.lo.2.2.2 _
/-- all windows are there -/
def newF (gb rb rh hb n : Nat) (P : Nat → Nat) : List Nat := [gb, rb, rh, hb] ++ (List.range (2 * n)).map P
theorem Nw.done (h : Nw w0 bx gb rb rh hb c sd n grace win met fresh P (2 * n) w) (w1 : 1 ≤ win) (w2 : win ≤ 64) (m1 : 1 ≤ met) (m2 : met ≤ 4) (f1 : 1 ≤ fresh) (f2 : fresh ≤ 8) :
    GtAt w (newF gb rb rh hb n P) ⟨gb, rb, rh, hb, fun i => P (2 * i), fun i => P (2 * i + 1), fun _ => 0⟩ (.new sd n grace win met fresh) ∧ ∀ x ∈ newF gb rb rh hb n P, w0.heap.size ≤ x := by
  have inj : ∀ a b, a < 2 * n → b < 2 * n → P a = P b → a = b := fun a b ha hb' e => by
    rcases Nat.lt_trichotomy a b with hlt | rfl | hlt
    · have := h.ord a b hlt hb'; omega
    · rfl
    · have := h.ord b a hlt ha; omega
  have mP : ∀ a, a < 2 * n → P a ∈ newF gb rb rh hb n P := fun a ha => List.mem_append_right _ (List.mem_map.2 ⟨a, List.mem_range.2 ha, rfl⟩)
  obtain ⟨cs, r1, r2⟩ := h.row
  have mem : ∀ x ∈ newF gb rb rh hb n P, (x = gb ∨ x = rb ∨ x = rh ∨ x = hb) ∨ ∃ a, a < 2 * n ∧ P a = x := fun x hx => by
    rcases List.mem_append.1 hx with e | e
    · left; simpa using e
    · obtain ⟨a, ha, rfl⟩ := List.mem_map.1 e; exact .inr ⟨a, List.mem_range.1 ha, rfl⟩
  refine ⟨⟨h.top, h.ring, ⟨cs, r1, fun i hi => ?_⟩, fun _ => ⟨Int.le_refl _, by show (0 : Int) < _; decide⟩, fun i hi => h.rep _ (by have : i < n := hi; omega), fun i hi => h.rep _ (by have : i < n := hi; omega),
    fun i j hi hj e => ?_, fun i j hi hj e => ?_, fun i j hi hj e => ?_, by simp [newF], by simp [newF], by simp [newF], by simp [newF], fun i hi => mP _ (by have : i < n := hi; omega), fun i hi => mP _ (by have : i < n := hi; omega), fun x hx => ?_, ⟨w1, w2, m1, m2, f1, f2, fun _ => rfl, fun _ => rfl⟩⟩, fun x hx => ?_⟩
  · have hi' : i < n := hi
    obtain ⟨q1, q2, q3⟩ := r2 i hi'
    refine ⟨q1, ?_, ?_⟩
    · rw [q2]; simp [ptrTo, side, hi', show 2 * i < 2 * n by omega]
    · rw [q3]; simp [ptrTo, side, hi', show 2 * i + 1 < 2 * n by omega]
  · have hi' : i < n := hi; have hj' : j < n := hj
    have := inj _ _ (by omega) (by omega) e; omega
  · have hi' : i < n := hi; have hj' : j < n := hj
    have := inj _ _ (by omega) (by omega) e; omega
  · have hi' : i < n := hi; have hj' : j < n := hj
    have := inj _ _ (by omega) (by omega) e; omega
  · rcases mem x hx with (rfl | rfl | rfl | rfl) | ⟨a, ha, rfl⟩
    · exact at_lt h.top
    · exact h.ring.lt.1
    · exact h.ring.lt.2
    · exact at_lt r1
    · exact (h.rep a ha).lt
  · rcases mem x hx with (rfl | rfl | rfl | rfl) | ⟨a, ha, rfl⟩
    · exact h.lo.1
    · exact h.lo.2.1
    · exact h.lo.2.2.1
    · exact h.lo.2.2.2
    · have := (h.bel a ha).2.1; have := h.lo.1; omega
end
/-- a new gate -/
def MadeG (w : World) (G : Gt) (e : Ending) (w' : World) : Prop := ∃ F B, e = .returned (.pointer (some ⟨B.g, 0, none⟩)) ∧ GtAt w' F B G ∧ w.grownBy w' none ∧ ∀ x ∈ F, w.heap.size ≤ x
set_option maxHeartbeats 6400000 in
theorem gnew_ok (c : Conf) (sd : BitVec 64) (n grace win met fresh : Nat) (hM : st22 c = none) (en : c.n = n) (eg : c.grace = grace) (ew : c.window = win) (em : c.m = met) (ef : c.fresh = fresh) (es : c.seed = q sd)
    (n1 : 1 ≤ n) (n2 : n ≤ 16) (g1 : 1 ≤ grace) (g2 : grace ≤ 100) (w1 : 1 ≤ win) (w2 : win ≤ 64) (m1 : 1 ≤ met) (m2 : met ≤ 4) (f1 : 1 ≤ fresh) (f2 : fresh ≤ 8) (w : World) :
    Calls Tryz.prog 10 #[cf c] w (MadeG w (.new sd n grace win met fresh)) := by
  have CM := hid (fun u => cmay_any c u)
  rw [hM] at CM
  rw [show ((none : Option ByteArray).getD ⟨#[]⟩).toList.isEmpty = true by decide +kernel] at CM
  have B0 := hid (boxc_new w c)
  have CN := hid (fun u => rnew_ok sd n grace n1 n2 g1 g2 u)
  have CP := hid (fun u => pnew_ok win w1 w2 u)
  have hmk := mk_gholders n n2
  have HW := hid (And.intro w1 (And.intro w2 (And.intro m1 (And.intro m2 (And.intro f1 f2)))))
  have HC := hid (show ∀ (u : World) (b : Nat), u.heap[b]? = some (Obj.cells c.cells 27) → u.cell? ⟨b, 0, none⟩ = some (Value.int IntKind.i64 (n : Int)) ∧ u.cell? ⟨b, 2, none⟩ = some (Value.int IntKind.i64 (met : Int)) ∧ u.cell? ⟨b, 4, none⟩ = some (Value.int IntKind.i64 (fresh : Int)) ∧ u.cell? ⟨b, 5, none⟩ = some (Value.int IntKind.i64 (grace : Int)) ∧ u.cell? ⟨b, 6, none⟩ = some (Value.int IntKind.i64 (win : Int)) ∧ u.cell? ⟨b, 25, none⟩ = some (Value.int IntKind.u64 (q sd)) from fun u b h => ⟨(at_cell h 0).trans (by rw [← en]; rfl), (at_cell h 2).trans (by rw [← em]; rfl), (at_cell h 4).trans (by rw [← ef]; rfl), (at_cell h 5).trans (by rw [← eg]; rfl), (at_cell h 6).trans (by rw [← ew]; rfl), (at_cell h 25).trans (by rw [← es]; rfl)⟩)
  clear hM en eg ew em ef es w1 w2 m1 m2 f1 f2 g1 g2
  go_enter Tryz.func10, Tryz.ntmps10
  go_wp2_with (refine wpList_conf B0.out.box rfl rfl rfl rfl ?_)
  refine (CM.out _).mono ?_
  rintro e w1 ⟨rfl, hg⟩
  have B1 := hid (B0.out.grown hg); clear hg B0 CM
  have lx := Nat.le_refl w.heap.size
  go_upto_region 3 with fail
  refine wp_region_held_drew (S := (fun w' => (BoxC w c w'))) (by kernel_rfl) B1.out.drew (fun hHeld => ?_)
  try dsimp only at hHeld
  refine' jT 0 rfl (by rfl) ?_ hHeld ?_
  rotate_left
  · (intro w hSw; (try dsimp only at hSw); go_simp; try with_reducible rfl)
  try simp only [Act.put, jA, jB, jC, jD, jE, jF]
  refine' jT 1 rfl (by rfl) ?_ hHeld ?_
  rotate_left
  · (intro w hSw; (try dsimp only at hSw); have bb := hSw; obtain ⟨c0, c2, c4, c5, c6, c25⟩ := HC.out _ _ bb.box; go_simp; try with_reducible rfl)
  try simp only [Act.put, jA, jB, jC, jD, jE, jF]
  refine' jT 2 rfl (by rfl) ?_ hHeld ?_
  rotate_left
  · (intro w hSw; (try dsimp only at hSw); go_simp; try with_reducible rfl)
  try simp only [Act.put, jA, jB, jC, jD, jE, jF]
  refine' jT 3 rfl (by rfl) ?_ hHeld ?_
  rotate_left
  · (intro w hSw; (try dsimp only at hSw); have bb := hSw; obtain ⟨c0, c2, c4, c5, c6, c25⟩ := HC.out _ _ bb.box; go_simp; try with_reducible rfl)
  try simp only [Act.put, jA, jB, jC, jD, jE, jF]
  refine' jT 4 rfl (by rfl) ?_ hHeld ?_
  rotate_left
  · (intro w hSw; (try dsimp only at hSw); go_simp; try with_reducible rfl)
  try simp only [Act.put, jA, jB, jC, jD, jE, jF]
  refine' jT 5 rfl (by rfl) ?_ hHeld ?_
  rotate_left
  · (intro w hSw; (try dsimp only at hSw); have bb := hSw; obtain ⟨c0, c2, c4, c5, c6, c25⟩ := HC.out _ _ bb.box; go_simp; try with_reducible rfl)
  try simp only [Act.put, jA, jB, jC, jD, jE, jF]
  refine' jT 7 rfl (by rfl) ?_ hHeld ?_
  rotate_left
  · (intro w hSw; (try dsimp only at hSw); go_simp; try with_reducible rfl)
  try simp only [Act.put, jA, jB, jC, jD, jE, jF]
  refine' jT 8 rfl (by rfl) ?_ hHeld ?_
  rotate_left
  · (intro w hSw; (try dsimp only at hSw); have bb := hSw; obtain ⟨c0, c2, c4, c5, c6, c25⟩ := HC.out _ _ bb.box; go_simp; try with_reducible rfl)
  try simp only [Act.put, jA, jB, jC, jD, jE, jF]
  refine' jT 10 rfl (by rfl) ?_ hHeld ?_
  rotate_left
  · (intro w hSw; (try dsimp only at hSw); go_simp; try with_reducible rfl)
  try simp only [Act.put, jA, jB, jC, jD, jE, jF]
  refine' jT 11 rfl (by rfl) ?_ hHeld ?_
  rotate_left
  · (intro w hSw; (try dsimp only at hSw); have bb := hSw; obtain ⟨c0, c2, c4, c5, c6, c25⟩ := HC.out _ _ bb.box; go_simp; try with_reducible rfl)
  try simp only [Act.put, jA, jB, jC, jD, jE, jF]
  refine' jT 12 rfl (by rfl) ?_ hHeld ?_
  rotate_left
  · (intro w hSw; (try dsimp only at hSw); go_simp; try with_reducible rfl)
  try simp only [Act.put, jA, jB, jC, jD, jE, jF]
  refine' jT 13 rfl (by rfl) ?_ hHeld ?_
  rotate_left
  · (intro w hSw; (try dsimp only at hSw); have bb := hSw; obtain ⟨c0, c2, c4, c5, c6, c25⟩ := HC.out _ _ bb.box; go_simp; try with_reducible rfl)
  try simp only [Act.put, jA, jB, jC, jD, jE, jF]
  refine' jT 14 rfl (by rfl) ?_ hHeld ?_
  rotate_left
  · (intro w hSw; (try dsimp only at hSw); go_simp; try with_reducible rfl)
  try simp only [Act.put, jA, jB, jC, jD, jE, jF]
  refine' jT 15 rfl (by rfl) ?_ hHeld ?_
  rotate_left
  · (intro w hSw; (try dsimp only at hSw); have bb := hSw; obtain ⟨c0, c2, c4, c5, c6, c25⟩ := HC.out _ _ bb.box; go_simp; try with_reducible rfl)
  try simp only [Act.put, jA, jB, jC, jD, jE, jF]
  refine jR [6, 9] ?_
  refine jG rfl (fun K hK => ?_) (jG rfl (fun K hK => ?_) AllReadyH.nil)
  · try simp only [jD, jE, jF]
    go_simp
    have hH2 := hHeld
    have bb := hH2
    refine (CN.out _).mono ?_
    rintro e w1006 ⟨rb, rh, rfl, hr, hg, lrb0, lrh0⟩
    have LRB : Hid (w.heap.size ≤ rb) := hid (Nat.le_trans (gb_size bb.g) lrb0); have LRH : Hid (w.heap.size ≤ rh) := hid (Nat.le_trans (gb_size bb.g) lrh0); clear lrb0 lrh0
    have L6 := hid (show (BoxC w c w1006) from bb.grown hg)
    have Nrr := hid (show RgAt w1006 rb rh (.new sd n grace) from hr)
    clear hHeld hg bb
    go_wp2_with fail
    refine hK.out _ _ ?_ (fun hHeld => ?_)
    · exact L6.out
    clear hK K
    try dsimp only at hHeld
    try simp only [Act.put, jA, jB, jC, jD, jE, jF]
    refine held_stronger (S' := fun w' => (fun w' => RgAt w' rb rh (.new sd n grace)) w' ∧ ((fun w' => (BoxC w c w'))) w') (fun _ h => h.2) _ _ _ _ ?_
    replace hHeld := And.intro Nrr.out hHeld
    try dsimp only at hHeld
    refine jR [9] ?_
    refine jG rfl (fun K hK => ?_) AllReadyH.nil
    have hH2 := hHeld
    obtain ⟨rr, bb⟩ := hH2
    have hg : w1006.grownBy (w1006.alloc (.cells (gCells n) 104)) none := World.grownBy_alloc _ _ _
    obtain ⟨hb, hhb⟩ : ∃ hb, w1006.heap.size = hb := ⟨_, rfl⟩
    have lhb : w.heap.size < hb := hhb ▸ at_lt bb.box
    have L9 := hid (show (RgAt (w1006.alloc (.cells (gCells n) 104)) rb rh (.new sd n grace)) ∧ (BoxC w c (w1006.alloc (.cells (gCells n) 104))) from ⟨rr.grown hg, bb.grown hg⟩)
    have Nhh := hid (show (w1006.alloc (.cells (gCells n) 104)).heap[hb]? = some (.cells (gCells n) 104) from hhb ▸ at_new w1006 _)
    clear hHeld hg rr bb
    try simp only [jD, jE, jF]
    go_simp
    refine hK.out _ _ ?_ (fun hHeld => ?_)
    · exact L9.out
    clear hK K
    try dsimp only at hHeld
    try simp only [Act.put, jA, jB, jC, jD, jE, jF]
    refine held_stronger (S' := fun w' => (fun w' => w'.heap[hb]? = some (.cells (gCells n) 104)) w' ∧ ((fun w' => (RgAt w' rb rh (.new sd n grace)) ∧ (BoxC w c w'))) w') (fun _ h => h.2) _ _ _ _ ?_
    replace hHeld := And.intro Nhh.out hHeld
    try dsimp only at hHeld
    refine' jT 16 rfl (by rfl) ?_ hHeld ?_
    rotate_left
    · (intro w hSw; (try dsimp only at hSw); go_simp; try with_reducible rfl)
    try simp only [Act.put, jA, jB, jC, jD, jE, jF]
    refine jR [17] ?_
    refine jG rfl (fun K hK => ?_) AllReadyH.nil
    have hH2 := hHeld
    obtain ⟨hh, rr, bb⟩ := hH2
    have hg : (w1006.alloc (.cells (gCells n) 104)).grownBy ((w1006.alloc (.cells (gCells n) 104)).alloc (.cells #[.pointer (some ⟨rb, 0, none⟩), .slice (some ⟨hb, 0, none⟩) n n, .int .i64 (win : Int), .int .i64 (met : Int), .int .i64 (fresh : Int)] 96)) none := World.grownBy_alloc _ _ _
    obtain ⟨gb, hgb⟩ : ∃ gb, (w1006.alloc (.cells (gCells n) 104)).heap.size = gb := ⟨_, rfl⟩
    have lgb : w.heap.size < gb := hgb ▸ at_lt bb.box
    have L17 := hid (show (((w1006.alloc (.cells (gCells n) 104)).alloc (.cells #[.pointer (some ⟨rb, 0, none⟩), .slice (some ⟨hb, 0, none⟩) n n, .int .i64 (win : Int), .int .i64 (met : Int), .int .i64 (fresh : Int)] 96)).heap[hb]? = some (.cells (gCells n) 104)) ∧ (RgAt ((w1006.alloc (.cells (gCells n) 104)).alloc (.cells #[.pointer (some ⟨rb, 0, none⟩), .slice (some ⟨hb, 0, none⟩) n n, .int .i64 (win : Int), .int .i64 (met : Int), .int .i64 (fresh : Int)] 96)) rb rh (.new sd n grace)) ∧ (BoxC w c ((w1006.alloc (.cells (gCells n) 104)).alloc (.cells #[.pointer (some ⟨rb, 0, none⟩), .slice (some ⟨hb, 0, none⟩) n n, .int .i64 (win : Int), .int .i64 (met : Int), .int .i64 (fresh : Int)] 96))) from ⟨at_grown hh hg (by simp), rr.grown hg, bb.grown hg⟩)
    have Ngg := hid (show ((w1006.alloc (.cells (gCells n) 104)).alloc (.cells #[.pointer (some ⟨rb, 0, none⟩), .slice (some ⟨hb, 0, none⟩) n n, .int .i64 (win : Int), .int .i64 (met : Int), .int .i64 (fresh : Int)] 96)).heap[gb]? = some (.cells #[.pointer (some ⟨rb, 0, none⟩), .slice (some ⟨hb, 0, none⟩) n n, .int .i64 (win : Int), .int .i64 (met : Int), .int .i64 (fresh : Int)] 96) from hgb ▸ at_new (w1006.alloc (.cells (gCells n) 104)) _)
    clear hHeld hg hh rr bb
    try simp only [jD, jE, jF]
    go_simp
    refine hK.out _ _ ?_ (fun hHeld => ?_)
    · exact L17.out
    clear hK K
    try dsimp only at hHeld
    try simp only [Act.put, jA, jB, jC, jD, jE, jF]
    refine held_stronger (S' := fun w' => (fun w' => w'.heap[gb]? = some (.cells #[.pointer (some ⟨rb, 0, none⟩), .slice (some ⟨hb, 0, none⟩) n n, .int .i64 (win : Int), .int .i64 (met : Int), .int .i64 (fresh : Int)] 96)) w' ∧ ((fun w' => (w'.heap[hb]? = some (.cells (gCells n) 104)) ∧ (RgAt w' rb rh (.new sd n grace)) ∧ (BoxC w c w'))) w') (fun _ h => h.2) _ _ _ _ ?_
    replace hHeld := And.intro Ngg.out hHeld
    try dsimp only at hHeld
    refine' jT 18 rfl (by rfl) ?_ hHeld ?_
    rotate_left
    · (intro w hSw; (try dsimp only at hSw); go_simp; try with_reducible rfl)
    try simp only [Act.put, jA, jB, jC, jD, jE, jF]
    refine wpAnyH_done (by kernel_rfl) ?_ _
    obtain ⟨gg, hh, rr, bb⟩ := hHeld
    refine exit_gen (fun wx => Nw w w.heap.size gb rb rh hb c sd n grace win met fresh (fun _ => 0) 0 wx) ⟨bb.box, gg, rr, ⟨_, hh, fun i hi => ⟨(made_3 _ _ _ _ _ (by omega)).trans (by simp), (made_3 _ _ _ _ _ (by omega)).trans (by rw [if_neg (by omega), if_pos (by omega)]; rfl), (made_3 _ _ _ _ _ (by omega)).trans (by rw [if_neg (by omega), if_neg (by omega)]; rfl)⟩⟩, fun a ha => absurd ha (Nat.not_lt_zero a), fun a b _ hb' => absurd hb' (Nat.not_lt_zero b), fun a ha => absurd ha (Nat.not_lt_zero a), ⟨Nat.le_of_lt lgb, LRB.out, LRH.out, Nat.le_of_lt lhb⟩, bb.g⟩ ?_
    clear bb gg rr hh
    intro w2 h2
    have K2 := hid h2; clear h2 B1 lhb lgb LRB LRH hmk CN lx
    generalize w.heap.size = bx0 at K2 ⊢
    have t1 : w2.cell? ⟨gb, 1, none⟩ = some (.slice (some ⟨hb, 0, none⟩) n n) := at_cell K2.out.top 1
    go_wp2_with fail
    clear t1
    go_loopw [32] (fun i wr => ∃ (k : Nat) (P : Nat → Nat), k ≤ n ∧ i = .int .i64 (k : Int) ∧ Nw w bx0 gb rb rh hb c sd n grace win met fresh P (2 * k) wr) (fun i _ => n - (intOf i).toNat)
    case atStart => exact ⟨0, _, Nat.zero_le _, rfl, K2.out⟩
    case round =>
      obtain ⟨k, P, hk, rfl, hN⟩ := hrel
      have K3 := hid hN; clear hN K2
      by_cases hlt : k < n
      · have q0 : (k : Int) < (n : Int) := by omega
        have q1 : (0 : Int) ≤ (k : Int) := by omega
        have s1 : IntKind.i64.wrap ((k : Int) + 1) = (k : Int) + 1 := IntWalk.i64_in _ (by omega)
        go_wp2_with fail
        go_loopw [35] (fun j wr => ∃ (s : Nat) (P : Nat → Nat), s ≤ 2 ∧ j = .int .i64 (s : Int) ∧ Nw w bx0 gb rb rh hb c sd n grace win met fresh P (2 * k + s) wr) (fun j _ => 2 - (intOf j).toNat)
        case atStart => exact ⟨0, P, by omega, rfl, K3.out⟩
        case round =>
          obtain ⟨s, P2, hs, rfl, hN⟩ := hrel
          have K4 := hid hN; clear hN K3
          rcases (by omega : s = 0 ∨ s = 1 ∨ s = 2) with rfl | rfl | rfl
          · go_wp2_with fail
            refine wp_region_held_drew (S := (fun w' => w'.heap[gb]? = some (.cells #[.pointer (some ⟨rb, 0, none⟩), .slice (some ⟨hb, 0, none⟩) n n, .int .i64 (win : Int), .int .i64 (met : Int), .int .i64 (fresh : Int)] 96) ∧ w'.heap[bx0]? = some (.cells c.cells 27))) (by kernel_rfl) ⟨K4.out.top, K4.out.box⟩ (fun hHeld => ?_)
            try dsimp only at hHeld
            refine' jT 0 rfl (by rfl) ?_ hHeld ?_
            rotate_left
            · (intro w hSw; (try dsimp only at hSw); go_simp; try with_reducible rfl)
            try simp only [Act.put, jA, jB, jC, jD, jE, jF]
            refine' jT 1 rfl (by rfl) ?_ hHeld ?_
            rotate_left
            · (intro w hSw; (try dsimp only at hSw); go_simp; try with_reducible rfl)
            try simp only [Act.put, jA, jB, jC, jD, jE, jF]
            refine' jT 2 rfl (by rfl) ?_ hHeld ?_
            rotate_left
            · (intro w hSw; (try dsimp only at hSw); go_simp; try with_reducible rfl)
            try simp only [Act.put, jA, jB, jC, jD, jE, jF]
            refine' jT 3 rfl (by rfl) ?_ hHeld ?_
            rotate_left
            · (intro w hSw; (try dsimp only at hSw); obtain ⟨g1, g2⟩ := hSw; have t1 : w.cell? ⟨gb, 1, none⟩ = some (Value.slice (some ⟨hb, 0, none⟩) n n) := at_cell g1 1; go_simp; try with_reducible rfl)
            try simp only [Act.put, jA, jB, jC, jD, jE, jF]
            refine' jT 4 rfl (by rfl) ?_ hHeld ?_
            rotate_left
            · (intro w hSw; (try dsimp only at hSw); go_simp; try with_reducible rfl)
            try simp only [Act.put, jA, jB, jC, jD, jE, jF]
            refine' jT 5 rfl (by rfl) ?_ hHeld ?_
            rotate_left
            · (intro w hSw; (try dsimp only at hSw); go_simp; try with_reducible rfl)
            try simp only [Act.put, jA, jB, jC, jD, jE, jF]
            refine' jT 6 rfl (by rfl) ?_ hHeld ?_
            rotate_left
            · (intro w hSw; (try dsimp only at hSw); go_simp; try with_reducible rfl)
            try simp only [Act.put, jA, jB, jC, jD, jE, jF]
            refine' jT 7 rfl (by rfl) ?_ hHeld ?_
            rotate_left
            · (intro w hSw; (try dsimp only at hSw); obtain ⟨g1, g2⟩ := hSw; obtain ⟨c0, c2, c4, c5, c6, c25⟩ := HC.out _ _ g2; go_simp; try with_reducible rfl)
            try simp only [Act.put, jA, jB, jC, jD, jE, jF]
            refine' jT 9 rfl (by rfl) ?_ hHeld ?_
            rotate_left
            · (intro w hSw; (try dsimp only at hSw); go_simp; try with_reducible rfl)
            try simp only [Act.put, jA, jB, jC, jD, jE, jF]
            refine' jT 10 rfl (by rfl) ?_ hHeld ?_
            rotate_left
            · (intro w hSw; (try dsimp only at hSw); go_simp; try with_reducible rfl)
            try simp only [Act.put, jA, jB, jC, jD, jE, jF]
            refine jR [8] ?_
            refine jG rfl (fun K hK => ?_) AllReadyH.nil
            try simp only [jD, jE, jF]
            go_simp
            refine (CP.out _).mono ?_
            rintro e w5 ⟨nb, rfl, hp, hg, hsz⟩
            have KK := hid (K4.out.step (P := P2) (i := k) (s := 0) (gb_trans (gb_drew (World.grownBy.refl _ none)) hg (.inl rfl)) hp hsz hlt (by omega) rfl)
            obtain ⟨cs5, hr5⟩ := K4.out.row_at
            have hr6 := at_grown (at_drew hr5) hg (by simp)
            have zz5 : (cs5[k * 3 + 1]?).isSome = true := by obtain ⟨ds, d1, d2⟩ := K4.out.row; rw [hr5] at d1; cases d1; have d3 := d2 k hlt; first | rw [d3.2.1]; rfl | rw [d3.2.2]; rfl
            obtain ⟨y5, hy5⟩ := Option.isSome_iff_exists.1 zz5
            have c3 : w5.cell? ⟨hb, k * 3 + 1, none⟩ = some y5 := (at_cell hr6 _).trans hy5
            have f3 : w5.frozen? ⟨hb, k * 3 + 1, none⟩ = false := at_free hr6 _
            have top5 := hid (at_grown (at_drew K4.out.top) hg (by simp))
            have lhs5 : w5.heap[bx0]? = some (.cells c.cells 27) := at_grown (at_drew K4.out.box) hg (by simp)
            clear hr5 hr6 zz5 hy5 hp hg hsz
            go_wp2_with fail
            refine hK.out _ _ ?_ (fun hHeld => ?_)
            · exact ⟨top5.out, lhs5⟩
            clear hK K
            try dsimp only at hHeld
            try simp only [Act.put, jA, jB, jC, jD, jE, jF]
            refine' jT 11 rfl (by rfl) ?_ hHeld ?_
            rotate_left
            · (intro w hSw; (try dsimp only at hSw); go_simp; try with_reducible rfl)
            try simp only [Act.put, jA, jB, jC, jD, jE, jF]
            have hne6 : gb ≠ hb := by obtain ⟨ds, d1, d2⟩ := K4.out.row; exact obj_ne K4.out.top d1 (by decide)
            have hne7 : bx0 ≠ hb := by obtain ⟨ds, d1, d2⟩ := K4.out.row; exact obj_ne K4.out.box d1 (by decide)
            have S6 := hid (And.intro (at_set_other (p := ⟨hb, k * 3 + 1, none⟩) top5.out hne6 (.pointer (some ⟨nb, 0, none⟩))) (at_set_other (p := ⟨hb, k * 3 + 1, none⟩) lhs5 hne7 (.pointer (some ⟨nb, 0, none⟩))))
            clear hne6 hne7 lhs5 top5 hHeld
            refine jR [12] ?_
            refine jG rfl (fun K hK => ?_) AllReadyH.nil
            try simp only [jD, jE, jF]
            go_simp
            refine hK.out _ _ ?_ (fun hHeld => ?_)
            · exact S6.out
            clear hK K S6
            try dsimp only at hHeld
            try simp only [Act.put, jA, jB, jC, jD, jE, jF]
            refine wpAnyH_done (by kernel_rfl) ?_ _
            clear hHeld c3 f3
            go_wp2_with fail
            go_roundw
            case rel => exact ⟨1, _, by omega, rfl, KK.out⟩
            case measure => simp [intOf]
          · go_wp2_with fail
            refine wp_region_held_drew (S := (fun w' => w'.heap[gb]? = some (.cells #[.pointer (some ⟨rb, 0, none⟩), .slice (some ⟨hb, 0, none⟩) n n, .int .i64 (win : Int), .int .i64 (met : Int), .int .i64 (fresh : Int)] 96) ∧ w'.heap[bx0]? = some (.cells c.cells 27))) (by kernel_rfl) ⟨K4.out.top, K4.out.box⟩ (fun hHeld => ?_)
            try dsimp only at hHeld
            refine' jT 0 rfl (by rfl) ?_ hHeld ?_
            rotate_left
            · (intro w hSw; (try dsimp only at hSw); go_simp; try with_reducible rfl)
            try simp only [Act.put, jA, jB, jC, jD, jE, jF]
            refine' jT 1 rfl (by rfl) ?_ hHeld ?_
            rotate_left
            · (intro w hSw; (try dsimp only at hSw); go_simp; try with_reducible rfl)
            try simp only [Act.put, jA, jB, jC, jD, jE, jF]
            refine' jT 2 rfl (by rfl) ?_ hHeld ?_
            rotate_left
            · (intro w hSw; (try dsimp only at hSw); go_simp; try with_reducible rfl)
            try simp only [Act.put, jA, jB, jC, jD, jE, jF]
            refine' jT 3 rfl (by rfl) ?_ hHeld ?_
            rotate_left
            · (intro w hSw; (try dsimp only at hSw); obtain ⟨g1, g2⟩ := hSw; have t1 : w.cell? ⟨gb, 1, none⟩ = some (Value.slice (some ⟨hb, 0, none⟩) n n) := at_cell g1 1; go_simp; try with_reducible rfl)
            try simp only [Act.put, jA, jB, jC, jD, jE, jF]
            refine' jT 4 rfl (by rfl) ?_ hHeld ?_
            rotate_left
            · (intro w hSw; (try dsimp only at hSw); go_simp; try with_reducible rfl)
            try simp only [Act.put, jA, jB, jC, jD, jE, jF]
            refine' jT 5 rfl (by rfl) ?_ hHeld ?_
            rotate_left
            · (intro w hSw; (try dsimp only at hSw); go_simp; try with_reducible rfl)
            try simp only [Act.put, jA, jB, jC, jD, jE, jF]
            refine' jT 6 rfl (by rfl) ?_ hHeld ?_
            rotate_left
            · (intro w hSw; (try dsimp only at hSw); go_simp; try with_reducible rfl)
            try simp only [Act.put, jA, jB, jC, jD, jE, jF]
            refine' jT 7 rfl (by rfl) ?_ hHeld ?_
            rotate_left
            · (intro w hSw; (try dsimp only at hSw); obtain ⟨g1, g2⟩ := hSw; obtain ⟨c0, c2, c4, c5, c6, c25⟩ := HC.out _ _ g2; go_simp; try with_reducible rfl)
            try simp only [Act.put, jA, jB, jC, jD, jE, jF]
            refine' jT 9 rfl (by rfl) ?_ hHeld ?_
            rotate_left
            · (intro w hSw; (try dsimp only at hSw); go_simp; try with_reducible rfl)
            try simp only [Act.put, jA, jB, jC, jD, jE, jF]
            refine' jT 10 rfl (by rfl) ?_ hHeld ?_
            rotate_left
            · (intro w hSw; (try dsimp only at hSw); go_simp; try with_reducible rfl)
            try simp only [Act.put, jA, jB, jC, jD, jE, jF]
            refine jR [8] ?_
            refine jG rfl (fun K hK => ?_) AllReadyH.nil
            try simp only [jD, jE, jF]
            go_simp
            refine (CP.out _).mono ?_
            rintro e w5 ⟨nb, rfl, hp, hg, hsz⟩
            have KK := hid (K4.out.step (P := P2) (i := k) (s := 1) (gb_trans (gb_drew (World.grownBy.refl _ none)) hg (.inl rfl)) hp hsz hlt (by omega) rfl)
            obtain ⟨cs5, hr5⟩ := K4.out.row_at
            have hr6 := at_grown (at_drew hr5) hg (by simp)
            have zz5 : (cs5[k * 3 + 2]?).isSome = true := by obtain ⟨ds, d1, d2⟩ := K4.out.row; rw [hr5] at d1; cases d1; have d3 := d2 k hlt; first | rw [d3.2.1]; rfl | rw [d3.2.2]; rfl
            obtain ⟨y5, hy5⟩ := Option.isSome_iff_exists.1 zz5
            have c3 : w5.cell? ⟨hb, k * 3 + 2, none⟩ = some y5 := (at_cell hr6 _).trans hy5
            have f3 : w5.frozen? ⟨hb, k * 3 + 2, none⟩ = false := at_free hr6 _
            have top5 := hid (at_grown (at_drew K4.out.top) hg (by simp))
            have lhs5 : w5.heap[bx0]? = some (.cells c.cells 27) := at_grown (at_drew K4.out.box) hg (by simp)
            clear hr5 hr6 zz5 hy5 hp hg hsz
            go_wp2_with fail
            refine hK.out _ _ ?_ (fun hHeld => ?_)
            · exact ⟨top5.out, lhs5⟩
            clear hK K
            try dsimp only at hHeld
            try simp only [Act.put, jA, jB, jC, jD, jE, jF]
            refine' jT 11 rfl (by rfl) ?_ hHeld ?_
            rotate_left
            · (intro w hSw; (try dsimp only at hSw); go_simp; try with_reducible rfl)
            try simp only [Act.put, jA, jB, jC, jD, jE, jF]
            have hne6 : gb ≠ hb := by obtain ⟨ds, d1, d2⟩ := K4.out.row; exact obj_ne K4.out.top d1 (by decide)
            have hne7 : bx0 ≠ hb := by obtain ⟨ds, d1, d2⟩ := K4.out.row; exact obj_ne K4.out.box d1 (by decide)
            have S6 := hid (And.intro (at_set_other (p := ⟨hb, k * 3 + 2, none⟩) top5.out hne6 (.pointer (some ⟨nb, 0, none⟩))) (at_set_other (p := ⟨hb, k * 3 + 2, none⟩) lhs5 hne7 (.pointer (some ⟨nb, 0, none⟩))))
            clear hne6 hne7 lhs5 top5 hHeld
            refine jR [12] ?_
            refine jG rfl (fun K hK => ?_) AllReadyH.nil
            try simp only [jD, jE, jF]
            go_simp
            refine hK.out _ _ ?_ (fun hHeld => ?_)
            · exact S6.out
            clear hK K S6
            try dsimp only at hHeld
            try simp only [Act.put, jA, jB, jC, jD, jE, jF]
            refine wpAnyH_done (by kernel_rfl) ?_ _
            clear hHeld c3 f3
            go_wp2_with fail
            go_roundw
            case rel => exact ⟨2, _, by omega, rfl, KK.out⟩
            case measure => simp [intOf]
          · go_wp2_with fail
            go_roundw
            case rel => exact ⟨k + 1, P2, by omega, rfl, K4.out⟩
            case measure => simp [intOf]; omega
      · have hkn : k = n := by omega
        subst hkn
        have FIN := hid (K3.out.done HW.out.1 HW.out.2.1 HW.out.2.2.1 HW.out.2.2.2.1 HW.out.2.2.2.2.1 HW.out.2.2.2.2.2)
        have G9 := hid K3.out.g
        clear K3 HW
        go_wp2_with fail
        go_ret
        exact ⟨_, _, rfl, FIN.out.1, G9.out, FIN.out.2⟩
  · have hH2 := hHeld
    have bb := hH2
    have hg : w1.drew.grownBy (w1.drew.alloc (.cells (gCells n) 104)) none := World.grownBy_alloc _ _ _
    obtain ⟨hb, hhb⟩ : ∃ hb, w1.drew.heap.size = hb := ⟨_, rfl⟩
    have lhb : w.heap.size < hb := hhb ▸ at_lt bb.box
    have L9 := hid (show (BoxC w c (w1.drew.alloc (.cells (gCells n) 104))) from bb.grown hg)
    have Nhh := hid (show (w1.drew.alloc (.cells (gCells n) 104)).heap[hb]? = some (.cells (gCells n) 104) from hhb ▸ at_new w1.drew _)
    clear hHeld hg bb
    try simp only [jD, jE, jF]
    go_simp
    refine hK.out _ _ ?_ (fun hHeld => ?_)
    · exact L9.out
    clear hK K
    try dsimp only at hHeld
    try simp only [Act.put, jA, jB, jC, jD, jE, jF]
    refine held_stronger (S' := fun w' => (fun w' => w'.heap[hb]? = some (.cells (gCells n) 104)) w' ∧ ((fun w' => (BoxC w c w'))) w') (fun _ h => h.2) _ _ _ _ ?_
    replace hHeld := And.intro Nhh.out hHeld
    try dsimp only at hHeld
    refine jR [6] ?_
    refine jG rfl (fun K hK => ?_) AllReadyH.nil
    try simp only [jD, jE, jF]
    go_simp
    have hH2 := hHeld
    obtain ⟨hh, bb⟩ := hH2
    refine (CN.out _).mono ?_
    rintro e w1006 ⟨rb, rh, rfl, hr, hg, lrb0, lrh0⟩
    have LRB : Hid (w.heap.size ≤ rb) := hid (Nat.le_trans (gb_size bb.g) lrb0); have LRH : Hid (w.heap.size ≤ rh) := hid (Nat.le_trans (gb_size bb.g) lrh0); clear lrb0 lrh0
    have L6 := hid (show (w1006.heap[hb]? = some (.cells (gCells n) 104)) ∧ (BoxC w c w1006) from ⟨at_grown hh hg (by simp), bb.grown hg⟩)
    have Nrr := hid (show RgAt w1006 rb rh (.new sd n grace) from hr)
    clear hHeld hg hh bb
    go_wp2_with fail
    refine hK.out _ _ ?_ (fun hHeld => ?_)
    · exact L6.out
    clear hK K
    try dsimp only at hHeld
    try simp only [Act.put, jA, jB, jC, jD, jE, jF]
    refine held_stronger (S' := fun w' => (fun w' => RgAt w' rb rh (.new sd n grace)) w' ∧ ((fun w' => (w'.heap[hb]? = some (.cells (gCells n) 104)) ∧ (BoxC w c w'))) w') (fun _ h => h.2) _ _ _ _ ?_
    replace hHeld := And.intro Nrr.out hHeld
    try dsimp only at hHeld
    refine' jT 16 rfl (by rfl) ?_ hHeld ?_
    rotate_left
    · (intro w hSw; (try dsimp only at hSw); go_simp; try with_reducible rfl)
    try simp only [Act.put, jA, jB, jC, jD, jE, jF]
    refine jR [17] ?_
    refine jG rfl (fun K hK => ?_) AllReadyH.nil
    have hH2 := hHeld
    obtain ⟨rr, hh, bb⟩ := hH2
    have hg : w1006.grownBy (w1006.alloc (.cells #[.pointer (some ⟨rb, 0, none⟩), .slice (some ⟨hb, 0, none⟩) n n, .int .i64 (win : Int), .int .i64 (met : Int), .int .i64 (fresh : Int)] 96)) none := World.grownBy_alloc _ _ _
    obtain ⟨gb, hgb⟩ : ∃ gb, w1006.heap.size = gb := ⟨_, rfl⟩
    have lgb : w.heap.size < gb := hgb ▸ at_lt bb.box
    have L17 := hid (show (RgAt (w1006.alloc (.cells #[.pointer (some ⟨rb, 0, none⟩), .slice (some ⟨hb, 0, none⟩) n n, .int .i64 (win : Int), .int .i64 (met : Int), .int .i64 (fresh : Int)] 96)) rb rh (.new sd n grace)) ∧ ((w1006.alloc (.cells #[.pointer (some ⟨rb, 0, none⟩), .slice (some ⟨hb, 0, none⟩) n n, .int .i64 (win : Int), .int .i64 (met : Int), .int .i64 (fresh : Int)] 96)).heap[hb]? = some (.cells (gCells n) 104)) ∧ (BoxC w c (w1006.alloc (.cells #[.pointer (some ⟨rb, 0, none⟩), .slice (some ⟨hb, 0, none⟩) n n, .int .i64 (win : Int), .int .i64 (met : Int), .int .i64 (fresh : Int)] 96))) from ⟨rr.grown hg, at_grown hh hg (by simp), bb.grown hg⟩)
    have Ngg := hid (show (w1006.alloc (.cells #[.pointer (some ⟨rb, 0, none⟩), .slice (some ⟨hb, 0, none⟩) n n, .int .i64 (win : Int), .int .i64 (met : Int), .int .i64 (fresh : Int)] 96)).heap[gb]? = some (.cells #[.pointer (some ⟨rb, 0, none⟩), .slice (some ⟨hb, 0, none⟩) n n, .int .i64 (win : Int), .int .i64 (met : Int), .int .i64 (fresh : Int)] 96) from hgb ▸ at_new w1006 _)
    clear hHeld hg rr hh bb
    try simp only [jD, jE, jF]
    go_simp
    refine hK.out _ _ ?_ (fun hHeld => ?_)
    · exact L17.out
    clear hK K
    try dsimp only at hHeld
    try simp only [Act.put, jA, jB, jC, jD, jE, jF]
    refine held_stronger (S' := fun w' => (fun w' => w'.heap[gb]? = some (.cells #[.pointer (some ⟨rb, 0, none⟩), .slice (some ⟨hb, 0, none⟩) n n, .int .i64 (win : Int), .int .i64 (met : Int), .int .i64 (fresh : Int)] 96)) w' ∧ ((fun w' => (RgAt w' rb rh (.new sd n grace)) ∧ (w'.heap[hb]? = some (.cells (gCells n) 104)) ∧ (BoxC w c w'))) w') (fun _ h => h.2) _ _ _ _ ?_
    replace hHeld := And.intro Ngg.out hHeld
    try dsimp only at hHeld
    refine' jT 18 rfl (by rfl) ?_ hHeld ?_
    rotate_left
    · (intro w hSw; (try dsimp only at hSw); go_simp; try with_reducible rfl)
    try simp only [Act.put, jA, jB, jC, jD, jE, jF]
    refine wpAnyH_done (by kernel_rfl) ?_ _
    obtain ⟨gg, rr, hh, bb⟩ := hHeld
    refine exit_gen (fun wx => Nw w w.heap.size gb rb rh hb c sd n grace win met fresh (fun _ => 0) 0 wx) ⟨bb.box, gg, rr, ⟨_, hh, fun i hi => ⟨(made_3 _ _ _ _ _ (by omega)).trans (by simp), (made_3 _ _ _ _ _ (by omega)).trans (by rw [if_neg (by omega), if_pos (by omega)]; rfl), (made_3 _ _ _ _ _ (by omega)).trans (by rw [if_neg (by omega), if_neg (by omega)]; rfl)⟩⟩, fun a ha => absurd ha (Nat.not_lt_zero a), fun a b _ hb' => absurd hb' (Nat.not_lt_zero b), fun a ha => absurd ha (Nat.not_lt_zero a), ⟨Nat.le_of_lt lgb, LRB.out, LRH.out, Nat.le_of_lt lhb⟩, bb.g⟩ ?_
    clear bb gg rr hh
    intro w2 h2
    have K2 := hid h2; clear h2 B1 lhb lgb LRB LRH hmk CN lx
    generalize w.heap.size = bx0 at K2 ⊢
    have t1 : w2.cell? ⟨gb, 1, none⟩ = some (.slice (some ⟨hb, 0, none⟩) n n) := at_cell K2.out.top 1
    go_wp2_with fail
    clear t1
    go_loopw [32] (fun i wr => ∃ (k : Nat) (P : Nat → Nat), k ≤ n ∧ i = .int .i64 (k : Int) ∧ Nw w bx0 gb rb rh hb c sd n grace win met fresh P (2 * k) wr) (fun i _ => n - (intOf i).toNat)
    case atStart => exact ⟨0, _, Nat.zero_le _, rfl, K2.out⟩
    case round =>
      obtain ⟨k, P, hk, rfl, hN⟩ := hrel
      have K3 := hid hN; clear hN K2
      by_cases hlt : k < n
      · have q0 : (k : Int) < (n : Int) := by omega
        have q1 : (0 : Int) ≤ (k : Int) := by omega
        have s1 : IntKind.i64.wrap ((k : Int) + 1) = (k : Int) + 1 := IntWalk.i64_in _ (by omega)
        go_wp2_with fail
        go_loopw [35] (fun j wr => ∃ (s : Nat) (P : Nat → Nat), s ≤ 2 ∧ j = .int .i64 (s : Int) ∧ Nw w bx0 gb rb rh hb c sd n grace win met fresh P (2 * k + s) wr) (fun j _ => 2 - (intOf j).toNat)
        case atStart => exact ⟨0, P, by omega, rfl, K3.out⟩
        case round =>
          obtain ⟨s, P2, hs, rfl, hN⟩ := hrel
          have K4 := hid hN; clear hN K3
          rcases (by omega : s = 0 ∨ s = 1 ∨ s = 2) with rfl | rfl | rfl
          · go_wp2_with fail
            refine wp_region_held_drew (S := (fun w' => w'.heap[gb]? = some (.cells #[.pointer (some ⟨rb, 0, none⟩), .slice (some ⟨hb, 0, none⟩) n n, .int .i64 (win : Int), .int .i64 (met : Int), .int .i64 (fresh : Int)] 96) ∧ w'.heap[bx0]? = some (.cells c.cells 27))) (by kernel_rfl) ⟨K4.out.top, K4.out.box⟩ (fun hHeld => ?_)
            try dsimp only at hHeld
            refine' jT 0 rfl (by rfl) ?_ hHeld ?_
            rotate_left
            · (intro w hSw; (try dsimp only at hSw); go_simp; try with_reducible rfl)
            try simp only [Act.put, jA, jB, jC, jD, jE, jF]
            refine' jT 1 rfl (by rfl) ?_ hHeld ?_
            rotate_left
            · (intro w hSw; (try dsimp only at hSw); go_simp; try with_reducible rfl)
            try simp only [Act.put, jA, jB, jC, jD, jE, jF]
            refine' jT 2 rfl (by rfl) ?_ hHeld ?_
            rotate_left
            · (intro w hSw; (try dsimp only at hSw); go_simp; try with_reducible rfl)
            try simp only [Act.put, jA, jB, jC, jD, jE, jF]
            refine' jT 3 rfl (by rfl) ?_ hHeld ?_
            rotate_left
            · (intro w hSw; (try dsimp only at hSw); obtain ⟨g1, g2⟩ := hSw; have t1 : w.cell? ⟨gb, 1, none⟩ = some (Value.slice (some ⟨hb, 0, none⟩) n n) := at_cell g1 1; go_simp; try with_reducible rfl)
            try simp only [Act.put, jA, jB, jC, jD, jE, jF]
            refine' jT 4 rfl (by rfl) ?_ hHeld ?_
            rotate_left
            · (intro w hSw; (try dsimp only at hSw); go_simp; try with_reducible rfl)
            try simp only [Act.put, jA, jB, jC, jD, jE, jF]
            refine' jT 5 rfl (by rfl) ?_ hHeld ?_
            rotate_left
            · (intro w hSw; (try dsimp only at hSw); go_simp; try with_reducible rfl)
            try simp only [Act.put, jA, jB, jC, jD, jE, jF]
            refine' jT 6 rfl (by rfl) ?_ hHeld ?_
            rotate_left
            · (intro w hSw; (try dsimp only at hSw); go_simp; try with_reducible rfl)
            try simp only [Act.put, jA, jB, jC, jD, jE, jF]
            refine' jT 7 rfl (by rfl) ?_ hHeld ?_
            rotate_left
            · (intro w hSw; (try dsimp only at hSw); obtain ⟨g1, g2⟩ := hSw; obtain ⟨c0, c2, c4, c5, c6, c25⟩ := HC.out _ _ g2; go_simp; try with_reducible rfl)
            try simp only [Act.put, jA, jB, jC, jD, jE, jF]
            refine' jT 9 rfl (by rfl) ?_ hHeld ?_
            rotate_left
            · (intro w hSw; (try dsimp only at hSw); go_simp; try with_reducible rfl)
            try simp only [Act.put, jA, jB, jC, jD, jE, jF]
            refine' jT 10 rfl (by rfl) ?_ hHeld ?_
            rotate_left
            · (intro w hSw; (try dsimp only at hSw); go_simp; try with_reducible rfl)
            try simp only [Act.put, jA, jB, jC, jD, jE, jF]
            refine jR [8] ?_
            refine jG rfl (fun K hK => ?_) AllReadyH.nil
            try simp only [jD, jE, jF]
            go_simp
            refine (CP.out _).mono ?_
            rintro e w5 ⟨nb, rfl, hp, hg, hsz⟩
            have KK := hid (K4.out.step (P := P2) (i := k) (s := 0) (gb_trans (gb_drew (World.grownBy.refl _ none)) hg (.inl rfl)) hp hsz hlt (by omega) rfl)
            obtain ⟨cs5, hr5⟩ := K4.out.row_at
            have hr6 := at_grown (at_drew hr5) hg (by simp)
            have zz5 : (cs5[k * 3 + 1]?).isSome = true := by obtain ⟨ds, d1, d2⟩ := K4.out.row; rw [hr5] at d1; cases d1; have d3 := d2 k hlt; first | rw [d3.2.1]; rfl | rw [d3.2.2]; rfl
            obtain ⟨y5, hy5⟩ := Option.isSome_iff_exists.1 zz5
            have c3 : w5.cell? ⟨hb, k * 3 + 1, none⟩ = some y5 := (at_cell hr6 _).trans hy5
            have f3 : w5.frozen? ⟨hb, k * 3 + 1, none⟩ = false := at_free hr6 _
            have top5 := hid (at_grown (at_drew K4.out.top) hg (by simp))
            have lhs5 : w5.heap[bx0]? = some (.cells c.cells 27) := at_grown (at_drew K4.out.box) hg (by simp)
            clear hr5 hr6 zz5 hy5 hp hg hsz
            go_wp2_with fail
            refine hK.out _ _ ?_ (fun hHeld => ?_)
            · exact ⟨top5.out, lhs5⟩
            clear hK K
            try dsimp only at hHeld
            try simp only [Act.put, jA, jB, jC, jD, jE, jF]
            refine' jT 11 rfl (by rfl) ?_ hHeld ?_
            rotate_left
            · (intro w hSw; (try dsimp only at hSw); go_simp; try with_reducible rfl)
            try simp only [Act.put, jA, jB, jC, jD, jE, jF]
            have hne6 : gb ≠ hb := by obtain ⟨ds, d1, d2⟩ := K4.out.row; exact obj_ne K4.out.top d1 (by decide)
            have hne7 : bx0 ≠ hb := by obtain ⟨ds, d1, d2⟩ := K4.out.row; exact obj_ne K4.out.box d1 (by decide)
            have S6 := hid (And.intro (at_set_other (p := ⟨hb, k * 3 + 1, none⟩) top5.out hne6 (.pointer (some ⟨nb, 0, none⟩))) (at_set_other (p := ⟨hb, k * 3 + 1, none⟩) lhs5 hne7 (.pointer (some ⟨nb, 0, none⟩))))
            clear hne6 hne7 lhs5 top5 hHeld
            refine jR [12] ?_
            refine jG rfl (fun K hK => ?_) AllReadyH.nil
            try simp only [jD, jE, jF]
            go_simp
            refine hK.out _ _ ?_ (fun hHeld => ?_)
            · exact S6.out
            clear hK K S6
            try dsimp only at hHeld
            try simp only [Act.put, jA, jB, jC, jD, jE, jF]
            refine wpAnyH_done (by kernel_rfl) ?_ _
            clear hHeld c3 f3
            go_wp2_with fail
            go_roundw
            case rel => exact ⟨1, _, by omega, rfl, KK.out⟩
            case measure => simp [intOf]
          · go_wp2_with fail
            refine wp_region_held_drew (S := (fun w' => w'.heap[gb]? = some (.cells #[.pointer (some ⟨rb, 0, none⟩), .slice (some ⟨hb, 0, none⟩) n n, .int .i64 (win : Int), .int .i64 (met : Int), .int .i64 (fresh : Int)] 96) ∧ w'.heap[bx0]? = some (.cells c.cells 27))) (by kernel_rfl) ⟨K4.out.top, K4.out.box⟩ (fun hHeld => ?_)
            try dsimp only at hHeld
            refine' jT 0 rfl (by rfl) ?_ hHeld ?_
            rotate_left
            · (intro w hSw; (try dsimp only at hSw); go_simp; try with_reducible rfl)
            try simp only [Act.put, jA, jB, jC, jD, jE, jF]
            refine' jT 1 rfl (by rfl) ?_ hHeld ?_
            rotate_left
            · (intro w hSw; (try dsimp only at hSw); go_simp; try with_reducible rfl)
            try simp only [Act.put, jA, jB, jC, jD, jE, jF]
            refine' jT 2 rfl (by rfl) ?_ hHeld ?_
            rotate_left
            · (intro w hSw; (try dsimp only at hSw); go_simp; try with_reducible rfl)
            try simp only [Act.put, jA, jB, jC, jD, jE, jF]
            refine' jT 3 rfl (by rfl) ?_ hHeld ?_
            rotate_left
            · (intro w hSw; (try dsimp only at hSw); obtain ⟨g1, g2⟩ := hSw; have t1 : w.cell? ⟨gb, 1, none⟩ = some (Value.slice (some ⟨hb, 0, none⟩) n n) := at_cell g1 1; go_simp; try with_reducible rfl)
            try simp only [Act.put, jA, jB, jC, jD, jE, jF]
            refine' jT 4 rfl (by rfl) ?_ hHeld ?_
            rotate_left
            · (intro w hSw; (try dsimp only at hSw); go_simp; try with_reducible rfl)
            try simp only [Act.put, jA, jB, jC, jD, jE, jF]
            refine' jT 5 rfl (by rfl) ?_ hHeld ?_
            rotate_left
            · (intro w hSw; (try dsimp only at hSw); go_simp; try with_reducible rfl)
            try simp only [Act.put, jA, jB, jC, jD, jE, jF]
            refine' jT 6 rfl (by rfl) ?_ hHeld ?_
            rotate_left
            · (intro w hSw; (try dsimp only at hSw); go_simp; try with_reducible rfl)
            try simp only [Act.put, jA, jB, jC, jD, jE, jF]
            refine' jT 7 rfl (by rfl) ?_ hHeld ?_
            rotate_left
            · (intro w hSw; (try dsimp only at hSw); obtain ⟨g1, g2⟩ := hSw; obtain ⟨c0, c2, c4, c5, c6, c25⟩ := HC.out _ _ g2; go_simp; try with_reducible rfl)
            try simp only [Act.put, jA, jB, jC, jD, jE, jF]
            refine' jT 9 rfl (by rfl) ?_ hHeld ?_
            rotate_left
            · (intro w hSw; (try dsimp only at hSw); go_simp; try with_reducible rfl)
            try simp only [Act.put, jA, jB, jC, jD, jE, jF]
            refine' jT 10 rfl (by rfl) ?_ hHeld ?_
            rotate_left
            · (intro w hSw; (try dsimp only at hSw); go_simp; try with_reducible rfl)
            try simp only [Act.put, jA, jB, jC, jD, jE, jF]
            refine jR [8] ?_
            refine jG rfl (fun K hK => ?_) AllReadyH.nil
            try simp only [jD, jE, jF]
            go_simp
            refine (CP.out _).mono ?_
            rintro e w5 ⟨nb, rfl, hp, hg, hsz⟩
            have KK := hid (K4.out.step (P := P2) (i := k) (s := 1) (gb_trans (gb_drew (World.grownBy.refl _ none)) hg (.inl rfl)) hp hsz hlt (by omega) rfl)
            obtain ⟨cs5, hr5⟩ := K4.out.row_at
            have hr6 := at_grown (at_drew hr5) hg (by simp)
            have zz5 : (cs5[k * 3 + 2]?).isSome = true := by obtain ⟨ds, d1, d2⟩ := K4.out.row; rw [hr5] at d1; cases d1; have d3 := d2 k hlt; first | rw [d3.2.1]; rfl | rw [d3.2.2]; rfl
            obtain ⟨y5, hy5⟩ := Option.isSome_iff_exists.1 zz5
            have c3 : w5.cell? ⟨hb, k * 3 + 2, none⟩ = some y5 := (at_cell hr6 _).trans hy5
            have f3 : w5.frozen? ⟨hb, k * 3 + 2, none⟩ = false := at_free hr6 _
            have top5 := hid (at_grown (at_drew K4.out.top) hg (by simp))
            have lhs5 : w5.heap[bx0]? = some (.cells c.cells 27) := at_grown (at_drew K4.out.box) hg (by simp)
            clear hr5 hr6 zz5 hy5 hp hg hsz
            go_wp2_with fail
            refine hK.out _ _ ?_ (fun hHeld => ?_)
            · exact ⟨top5.out, lhs5⟩
            clear hK K
            try dsimp only at hHeld
            try simp only [Act.put, jA, jB, jC, jD, jE, jF]
            refine' jT 11 rfl (by rfl) ?_ hHeld ?_
            rotate_left
            · (intro w hSw; (try dsimp only at hSw); go_simp; try with_reducible rfl)
            try simp only [Act.put, jA, jB, jC, jD, jE, jF]
            have hne6 : gb ≠ hb := by obtain ⟨ds, d1, d2⟩ := K4.out.row; exact obj_ne K4.out.top d1 (by decide)
            have hne7 : bx0 ≠ hb := by obtain ⟨ds, d1, d2⟩ := K4.out.row; exact obj_ne K4.out.box d1 (by decide)
            have S6 := hid (And.intro (at_set_other (p := ⟨hb, k * 3 + 2, none⟩) top5.out hne6 (.pointer (some ⟨nb, 0, none⟩))) (at_set_other (p := ⟨hb, k * 3 + 2, none⟩) lhs5 hne7 (.pointer (some ⟨nb, 0, none⟩))))
            clear hne6 hne7 lhs5 top5 hHeld
            refine jR [12] ?_
            refine jG rfl (fun K hK => ?_) AllReadyH.nil
            try simp only [jD, jE, jF]
            go_simp
            refine hK.out _ _ ?_ (fun hHeld => ?_)
            · exact S6.out
            clear hK K S6
            try dsimp only at hHeld
            try simp only [Act.put, jA, jB, jC, jD, jE, jF]
            refine wpAnyH_done (by kernel_rfl) ?_ _
            clear hHeld c3 f3
            go_wp2_with fail
            go_roundw
            case rel => exact ⟨2, _, by omega, rfl, KK.out⟩
            case measure => simp [intOf]
          · go_wp2_with fail
            go_roundw
            case rel => exact ⟨k + 1, P2, by omega, rfl, K4.out⟩
            case measure => simp [intOf]; omega
      · have hkn : k = n := by omega
        subst hkn
        have FIN := hid (K3.out.done HW.out.1 HW.out.2.1 HW.out.2.2.1 HW.out.2.2.2.1 HW.out.2.2.2.2.1 HW.out.2.2.2.2.2)
        have G9 := hid K3.out.g
        clear K3 HW
        go_wp2_with fail
        go_ret
        exact ⟨_, _, rfl, FIN.out.1, G9.out, FIN.out.2⟩
end Go.Proofs.YtfhifnhnkgdnlaaGreat
end
section
set_option linter.unusedSimpArgs false
set_option linter.unusedVariables false
namespace Go.Proofs.YtfhifnhnkgdnlaaGreat
set_option maxRecDepth 100000
open Go.RowKit

theorem gnew_nil (c : Conf) (hM : ((st22 c).getD ⟨#[]⟩).toList.isEmpty = false) (w : World) :
    Calls Tryz.prog 10 #[cf c] w fun e w' => e = .returned (.pointer none) ∧ w.grownBy w' none := by
  have CM := hid (fun u => cmay_any c u)
  rw [hM] at CM
  have B0 := hid (boxc_new w c)
  clear hM
  go_enter Tryz.func10, Tryz.ntmps10
  go_wp2_with (refine wpList_conf B0.out.box rfl rfl rfl rfl ?_)
  refine (CM.out _).mono ?_
  rintro e w1 ⟨rfl, hg⟩
  have B1 := hid (B0.out.grown hg); clear hg B0 CM
  go_wp2_with fail
  go_ret
  exact ⟨rfl, B1.out.g⟩
end Go.Proofs.YtfhifnhnkgdnlaaGreat
end
section
set_option linter.unusedSimpArgs false
set_option linter.unusedVariables false
namespace Go.Proofs.YtfhifnhnkgdnlaaGreat
set_option maxRecDepth 100000
open Go.RowKit


end Go.Proofs.YtfhifnhnkgdnlaaGreat
end
section
set_option linter.unusedSimpArgs false
set_option linter.unusedVariables false
namespace Go.Proofs.YtfhifnhnkgdnlaaGreat
set_option maxRecDepth 100000
open Go.RowKit

set_option maxHeartbeats 1600000 in
theorem ssample_any {b : Nat} {s : Sl} (metric epoch value : Int) (w : World) (H : SlAt 145 w b s) :
    Calls Tryz.prog 31 #[.pointer (some ⟨b, 0, none⟩), .int .i64 metric, .int .i64 epoch, .int .i64 value] w (LeavesS w b (s.out (s.samp metric epoch value)) (s.code (s.samp metric epoch value)) (s.step (s.samp metric epoch value))) := by
  have C : Hid (Calls Tryz.prog 75 #[.pointer (some ⟨b, 0, none⟩), mg (⟨1, 0, s.gen, 0, epoch, value, metric⟩ : Mg)] w (LeavesS w b (s.out (s.samp metric epoch value)) (s.code (s.samp metric epoch value)) (s.step (s.samp metric epoch value)))) := hid (seal_any_s (s.samp metric epoch value) w H)
  have G := hid (sgen_any w H)
  clear H
  generalize s.out (s.samp metric epoch value) = l at C ⊢
  generalize s.code (s.samp metric epoch value) = c at C ⊢
  generalize s.step (s.samp metric epoch value) = s' at C ⊢
  go_enter Tryz.func31, Tryz.ntmps31
  go_wp2_with fail
  refine G.out.mono ?_
  rintro e w1 ⟨rfl, rfl⟩
  go_wp2_with (refine wpList_buildTo (ty := 39) (cs := ((⟨1, 0, s.gen, 0, epoch, value, metric⟩ : Mg)).cells) rfl rfl rfl (by kernel_rfl) ?_)
  refine C.out.mono ?_
  rintro e w1 ⟨v, rfl, ho, hs, hc⟩
  have HS := hid hs; have HC := hid hc; clear hs hc
  have HO := hid ho; clear ho
  go_wp2_with fail
  go_ret2
  exact ⟨v, rfl, HO.out, HS.out, HC.out⟩
set_option maxHeartbeats 1600000 in
theorem srotate_yes {b : Nat} {s : Sl} (epoch : Int) (hm : mayOf (s.msg (s.rota epoch)) = true) (w : World) (H : SlAt 145 w b s) :
    Calls Tryz.prog 32 #[.pointer (some ⟨b, 0, none⟩), .int .i64 epoch] w (LeavesS w b (sealOf s.k.a s.k.b (s.msg (s.rota epoch))) 0 ⟨s.seed, s.who, s.gen + 1, 0⟩) := by
  have C : Hid (Calls Tryz.prog 75 #[.pointer (some ⟨b, 0, none⟩), mg (⟨2, 0, s.gen + 1, 0, epoch, 0, 0⟩ : Mg)] w (LeavesS w b (sealOf s.k.a s.k.b (s.msg (s.rota epoch))) 0 ⟨s.seed, s.who, s.gen, s.seq + 1⟩)) := hid (seal_yes (s.rota epoch) hm w H)
  have g0 := H.ok.g0; have g1 := H.ok.g1; have lt := H.lt
  have s1 : IntKind.i64.wrap (s.gen + 1) = s.gen + 1 := IntWalk.i64_in _ (by omega)
  have G := hid (sgen_any w H)
  have L := hid (show ∀ W v, OwnB w.heap.size W v (sealOf s.k.a s.k.b (s.msg (s.rota epoch))) → SlAt 145 W b ⟨s.seed, s.who, s.gen, s.seq + 1⟩ → Chg [b] w W → LeavesS w b (sealOf s.k.a s.k.b (s.msg (s.rota epoch))) 0 ⟨s.seed, s.who, s.gen + 1, 0⟩ (.returned (.tuple #[v, .int .i64 0])) ((W.setCell ⟨b, 2, none⟩ (.int .i64 (s.gen + 1))).setCell ⟨b, 3, none⟩ (.int .i64 0)) from
    fun W v ho h hc => ⟨v, rfl, ho.chg (((chg_refl W [b]).set (.inl (by simp)) _).set (.inl (by simp)) _) (fun x hx => by rcases List.mem_singleton.1 hx with rfl; exact lt), (⟨by have := at_set (at_set h.top 2 (.int .i64 (s.gen + 1))) 3 (.int .i64 0); exact this, ⟨H.ok.w0, H.ok.w1, by show (0 : Int) ≤ s.gen + 1; omega, (may_of hm).2.2.1.2, Int.le_refl _, by show (0 : Int) ≤ _; decide⟩⟩ : SlAt 145 ((W.setCell ⟨b, 2, none⟩ (.int .i64 (s.gen + 1))).setCell ⟨b, 3, none⟩ (.int .i64 0)) b ⟨s.seed, s.who, s.gen + 1, 0⟩), ((hc.set (.inl (by simp)) _).set (.inl (by simp)) _)⟩)
  clear g0 g1 lt hm H
  generalize (sealOf s.k.a s.k.b (s.msg (s.rota epoch))) = l at C L ⊢
  go_enter Tryz.func32, Tryz.ntmps32
  go_wp2_with fail
  refine G.out.mono ?_
  rintro e w1 ⟨rfl, rfl⟩
  go_wp2_with (refine wpList_buildTo (ty := 39) (cs := ((⟨2, 0, s.gen + 1, 0, epoch, 0, 0⟩ : Mg)).cells) rfl rfl rfl (by kernel_rfl) ?_)
  refine C.out.mono ?_
  rintro e w1 ⟨v, rfl, ho, hs, hc⟩
  obtain ⟨k0, k1, k2, k3, e2, e3⟩ := hs.cells
  have HS := hid hs; have HC := hid hc; clear hs hc
  have HO := hid ho; clear ho
  go_wp2_with fail
  refine (addn_i64 _ s.gen 1 (s.gen + 1) _ k2 e2 s1).mono ?_
  rintro e w2 ⟨rfl, rfl⟩
  have k3' : (w1.setCell ⟨b, 2, none⟩ (.int .i64 (s.gen + 1))).cell? ⟨b, 3, none⟩ = some (.int .i64 (s.seq + 1)) := by go_simp
  have e3' : (w1.setCell ⟨b, 2, none⟩ (.int .i64 (s.gen + 1))).frozen? ⟨b, 3, none⟩ = false := by go_simp
  go_wp2_with fail
  refine (store_i64 _ 0 _ _ k3' e3').mono ?_
  rintro e w2 ⟨rfl, rfl⟩
  go_wp2_with fail
  go_ret2
  exact L.out _ _ HO.out HS.out HC.out
theorem ssample_yes {b : Nat} {s : Sl} (metric epoch value : Int) (hm : mayOf (s.msg (s.samp metric epoch value)) = true) (w : World) (H : SlAt 145 w b s) :
    Calls Tryz.prog 31 #[.pointer (some ⟨b, 0, none⟩), .int .i64 metric, .int .i64 epoch, .int .i64 value] w (LeavesS w b (sealOf s.k.a s.k.b (s.msg (s.samp metric epoch value))) 0 ⟨s.seed, s.who, s.gen, s.seq + 1⟩) := by
  have h := ssample_any metric epoch value w H
  unfold Sl.out Sl.code Sl.step putC sealB at h
  rw [hm] at h
  exact h
end Go.Proofs.YtfhifnhnkgdnlaaGreat
end
section
set_option linter.unusedSimpArgs false
set_option linter.unusedVariables false
namespace Go.Proofs.YtfhifnhnkgdnlaaGreat
set_option maxRecDepth 100000
open Go.RowKit

structure Kv (w0 : World) (F : List Nat) (B : GBl) (G : Gt) (b : Nat) (s : Sl) (bs : List (Nat × Obj)) (ys : List (Value × List UInt8)) (w : World) : Prop where
  gt : GtAt w F B G
  ob : SlAt 145 w b s
  lo : ∀ x ∈ F, w0.heap.size ≤ x
  lb : w0.heap.size ≤ b
  bF : b ∉ F
  g : w0.grownBy w none
  bl : ∀ x ∈ bs, w.heap[x.1]? = some x.2
  nb : ∀ x ∈ bs, x.1 ≠ b ∧ x.1 ∉ F
  yl : ∀ y ∈ ys, OwnB 0 w y.1 y.2
  ny : ∀ y ∈ ys, ∀ k, y.1.ownBlock = some k → k ≠ b ∧ k ∉ F ∧ w0.heap.size ≤ k
theorem OwnB.chgN {base : Nat} {w w1 : World} {v : Value} {l : List UInt8} {F : List Nat} (h : OwnB base w v l) (hc : Chg F w w1) (hF : ∀ k, v.ownBlock = some k → k ∉ F) : OwnB base w1 v l := by
  obtain ⟨h0, h | ⟨g, cap, cur, rfl, hb, hh, h1⟩⟩ := h
  · exact ⟨h0, .inl h⟩
  · exact ⟨h0, .inr ⟨g, cap, cur, rfl, hb, hc.at hh (hF g rfl), h1⟩⟩
theorem OwnB.blk {base : Nat} {w : World} {v : Value} {l : List UInt8} (h : OwnB base w v l) {k : Nat} (hk : v.ownBlock = some k) : base ≤ k ∧ k < w.heap.size := by
  obtain ⟨p, c, rfl⟩ := h.form
  cases p with
  | none => cases hk
  | some a => cases hk; exact h.at a _ _ rfl
theorem OwnB.obj {base : Nat} {w : World} {l : List UInt8} {k n c : Nat} (h : OwnB base w (.slice (some ⟨k, 0, none⟩) n c) l) : ∃ cur : Array Value, w.heap[k]? = some (.cells cur 5) := by
  obtain ⟨h0, e | ⟨g, cap, cur, e, hb, hh, h1⟩⟩ := h
  · cases e.1
  · cases e; exact ⟨cur, hh⟩
section
variable {w0 w w1 : World} {F : List Nat} {B : GBl} {G G1 : Gt} {b n : Nat} {s s' : Sl} {bs : List (Nat × Obj)} {ys : List (Value × List UInt8)} {o : Obj} {v : Value} {l : List UInt8} {x0 x1 x2 x3 : Nat × Obj} {z0 z1 z2 : Value × List UInt8}
theorem kv_start (K : GtAt w F B G) (hlo : ∀ x ∈ F, w0.heap.size ≤ x) (hg : w0.grownBy w none) (H : SlAt 145 w1 b s) (hw : w.grownBy w1 none) (hb : w.heap.size ≤ b) : Kv w0 F B G b s [] [] w1 :=
  ⟨K.grown hw, H, hlo, Nat.le_trans (gb_size hg) hb, fun h => by have := K.lt _ h; omega, gb_trans hg hw (.inl rfl), (fun _ h => by cases h), (fun _ h => by cases h), (fun _ h => by cases h), (fun _ h => by cases h)⟩
theorem Kv.grown (h : Kv w0 F B G b s bs ys w) (hg : w.grownBy w1 none) : Kv w0 F B G b s bs ys w1 :=
  ⟨h.gt.grown hg, h.ob.grown hg, h.lo, h.lb, h.bF, gb_trans h.g hg (.inl rfl), fun x hx => at_grown (h.bl x hx) hg (by simp), h.nb, fun x hx => (h.yl x hx).grown hg (by simp), h.ny⟩
theorem Kv.drew (h : Kv w0 F B G b s bs ys w) : Kv w0 F B G b s bs ys w.drew := h.grown (gb_drew (.refl w none))
theorem Kv.alloc (h : Kv w0 F B G b s bs ys w) (o : Obj) : Kv w0 F B G b s ((w.heap.size, o) :: bs) ys (w.alloc o) := by
  have k := h.grown (World.grownBy_alloc w o none)
  refine ⟨k.gt, k.ob, k.lo, k.lb, k.bF, k.g, fun x hx => ?_, fun x hx => ?_, k.yl, k.ny⟩
  · rcases List.mem_cons.1 hx with rfl | hx
    · exact at_new w o
    · exact k.bl x hx
  · rcases List.mem_cons.1 hx with rfl | hx
    · exact ⟨by have := h.ob.lt; simp; omega, fun e => by have := h.gt.lt _ e; simp at this⟩
    · exact h.nb x hx
/-- a call of the collector's -/
theorem Kv.sealed (h : Kv w0 F B G b s bs ys w) (ho : OwnB w.heap.size w1 v l) (hs : SlAt 145 w1 b s') (hc : Chg [b] w w1) : Kv w0 F B G b s' bs ((v, l) :: ys) w1 := by
  have hbw := h.ob.lt
  refine ⟨h.gt.chg hc (fun x hx e => h.bF (by rcases List.mem_singleton.1 e with rfl; exact hx)), hs, h.lo, h.lb, h.bF, (Chg.trans (chg_grown h.g []) hc (fun x hx => by rcases List.mem_singleton.1 hx with rfl; exact .inr h.lb)).free (fun x hx => by cases hx),
    fun x hx => hc.at (h.bl x hx) (by simpa using (h.nb x hx).1), h.nb, fun y hy => ?_, fun y hy k hk => ?_⟩
  · rcases List.mem_cons.1 hy with rfl | hy
    · exact ho.le (Nat.zero_le _)
    · exact (h.yl y hy).chgN hc (fun k hk => by simpa using (h.ny y hy k hk).1)
  · rcases List.mem_cons.1 hy with rfl | hy
    · have := ho.blk hk
      exact ⟨by omega, fun e => by have := h.gt.lt _ e; omega, by have := gb_size h.g; omega⟩
    · exact h.ny y hy k hk
/-- bytes that a call made -/
theorem Kv.made (h : Kv w0 F B G b s bs ys w) (ho : OwnB w.heap.size w1 v l) (hg : w.grownBy w1 none) : Kv w0 F B G b s bs ((v, l) :: ys) w1 := by
  have k := h.grown hg
  refine ⟨k.gt, k.ob, k.lo, k.lb, k.bF, k.g, k.bl, k.nb, fun y hy => ?_, fun y hy j hj => ?_⟩
  · rcases List.mem_cons.1 hy with rfl | hy
    · exact ho.le (Nat.zero_le _)
    · exact k.yl y hy
  · rcases List.mem_cons.1 hy with rfl | hy
    · have := ho.blk hj
      exact ⟨by have := h.ob.lt; omega, fun e => by have := h.gt.lt _ e; omega, by have := gb_size h.g; omega⟩
    · exact h.ny y hy j hj
/-- a call of Take -/
theorem Kv.took {e : Ending} {k : Int × Gt} (h : Kv w0 F B G b s bs ys w) (hl : LeavesG w F B k e w1) : e = .returned (.int .i64 k.1) ∧ ∃ F' B', B'.g = B.g ∧ B'.rb = B.rb ∧ Kv w0 F' B' k.2 b s bs ys w1 := by
  obtain ⟨he, F', B', hg, e1, e2, hc, hF⟩ := hl
  have old : ∀ x, x < w.heap.size → x ∉ F → x ∉ F' := fun x hx hn hm => by
    rcases hF x hm with e | e
    · exact hn e
    · omega
  refine ⟨he, F', B', e1, e2, hg, h.ob.chg hc h.bF, fun x hx => ?_, h.lb, old b h.ob.lt h.bF, (Chg.trans (chg_grown h.g []) hc (fun x hx => .inr (h.lo x hx))).free (fun x hx => by cases hx), fun x hx => hc.at (h.bl x hx) (h.nb x hx).2, fun x hx => ⟨(h.nb x hx).1, old _ (at_lt (h.bl x hx)) (h.nb x hx).2⟩,
    fun y hy => (h.yl y hy).chgN hc (fun k hk => (h.ny y hy k hk).2.1), fun y hy k hk => ⟨(h.ny y hy k hk).1, old _ ((h.yl y hy).blk hk).2 (h.ny y hy k hk).2.1, (h.ny y hy k hk).2.2⟩⟩
  rcases hF x hx with e | e
  · exact h.lo x e
  · have := gb_size h.g; omega
theorem Kv.tail (h : Kv w0 F B G b s (x0 :: bs) ys w) : Kv w0 F B G b s bs ys w := ⟨h.gt, h.ob, h.lo, h.lb, h.bF, h.g, fun x hx => h.bl x (List.mem_cons_of_mem _ hx), fun x hx => h.nb x (List.mem_cons_of_mem _ hx), h.yl, h.ny⟩
theorem Kv.tailY (h : Kv w0 F B G b s bs (z0 :: ys) w) : Kv w0 F B G b s bs ys w := ⟨h.gt, h.ob, h.lo, h.lb, h.bF, h.g, h.bl, h.nb, fun x hx => h.yl x (List.mem_cons_of_mem _ hx), fun x hx => h.ny x (List.mem_cons_of_mem _ hx)⟩
theorem Kv.onlyY (h : Kv w0 F B G b s bs (z0 :: ys) w) : Kv w0 F B G b s bs [z0] w := ⟨h.gt, h.ob, h.lo, h.lb, h.bF, h.g, h.bl, h.nb, fun x hx => h.yl x (by simp at hx; simp [hx]), fun x hx => h.ny x (by simp at hx; simp [hx])⟩
theorem Kv.noY (h : Kv w0 F B G b s bs ys w) : Kv w0 F B G b s bs [] w := ⟨h.gt, h.ob, h.lo, h.lb, h.bF, h.g, h.bl, h.nb, fun x hx => (by cases hx), fun x hx => (by cases hx)⟩
theorem Kv.b0 (h : Kv w0 F B G b s ((n, o) :: bs) ys w) : w.heap[n]? = some o := h.bl (n, o) (by simp)
theorem Kv.b1 (h : Kv w0 F B G b s (x0 :: (n, o) :: bs) ys w) : w.heap[n]? = some o := h.tail.b0
theorem Kv.b2 (h : Kv w0 F B G b s (x0 :: x1 :: (n, o) :: bs) ys w) : w.heap[n]? = some o := h.tail.b1
theorem Kv.b3 (h : Kv w0 F B G b s (x0 :: x1 :: x2 :: (n, o) :: bs) ys w) : w.heap[n]? = some o := h.tail.b2
theorem Kv.y0 (h : Kv w0 F B G b s bs ((v, l) :: ys) w) : BytesAt w v l := (h.yl (v, l) (by simp)).bytes
theorem Kv.y1 (h : Kv w0 F B G b s bs (z0 :: (v, l) :: ys) w) : BytesAt w v l := h.tailY.y0
theorem Kv.y2 (h : Kv w0 F B G b s bs (z0 :: z1 :: (v, l) :: ys) w) : BytesAt w v l := h.tailY.y1
/-- a byte of the bytes at hand was stored -/
theorem Kv.byte (h : Kv w0 F B G b s bs [(v, l)] w) {k c i : Nat} {x : UInt8} (hv : v = .slice (some ⟨k, 0, none⟩) l.length c) (hi : i < l.length) (hbs : ∀ x ∈ bs, x.1 ≠ k) : Kv w0 F B G b s bs [(v, l.set i x)] (w.setCell ⟨k, i, none⟩ (.int .u8 (x.toNat : Int))) := by
  obtain ⟨n1, n2, n3⟩ := h.ny (v, l) (by simp) k (by rw [hv]; rfl)
  have hc : Chg [k] w (w.setCell ⟨k, i, none⟩ (.int .u8 (x.toNat : Int))) := (chg_refl w [k]).set (.inl (by simp)) _
  refine ⟨h.gt.chg hc (fun y hy e => n2 (by rcases List.mem_singleton.1 e with rfl; exact hy)), h.ob.chg hc (by simpa using n1.symm), h.lo, h.lb, h.bF, gb_new h.g n3 _, fun x hx => hc.at (h.bl x hx) (by simpa using hbs x hx), h.nb, fun y hy => ?_, fun y hy j hj => ?_⟩
  · rcases List.mem_singleton.1 hy with rfl
    have hy := h.yl (v, l) (by simp)
    subst hv
    obtain ⟨h0, e | ⟨g, cap, cur, e, hb, hh, h1, h2, h3, h4⟩⟩ := hy
    · cases e.1
    · cases e
      refine ⟨by simp, .inr ⟨_, _, cur.setIfInBounds i (.int .u8 (x.toNat : Int)), by simp, hb, at_set hh i _, by simpa using h1, h2, by simpa using h3, ?_⟩⟩
      dsimp only
      rw [Array.toList_setIfInBounds, List.length_set, List.take_set, h4]
      apply List.ext_getElem?
      intro j
      simp [List.getElem?_set, bv]
  · rcases List.mem_singleton.1 hy with rfl
    exact h.ny (v, l) (by simp) j (by dsimp only at hj ⊢; exact hj)
end

/-- a byte turned -/
theorem v8_xor (a b : UInt8) : bits .xor .u8 (a.toNat : Int) (b.toNat : Int) = ((a ^^^ b).toNat : Int) := by
  show IntKind.u8.wrap ((BitVec.ofInt 8 (a.toNat : Int) ^^^ BitVec.ofInt 8 (b.toNat : Int)).toNat : Int) = _
  rw [BitVec.ofInt_natCast, BitVec.ofInt_natCast]
  have ha : BitVec.ofNat 8 a.toNat = a.toBitVec := by simp
  have hb : BitVec.ofNat 8 b.toNat = b.toBitVec := by simp
  rw [ha, hb]
  have h : ((a.toBitVec ^^^ b.toBitVec).toNat : Int) = ((a ^^^ b).toNat : Int) := by simp
  rw [h]
  have := (a ^^^ b).toNat_lt
  generalize (a ^^^ b).toNat = N at this ⊢
  have hw : IntKind.u8.wrap (N : Int) = (N : Int) % 256 := by simp [IntKind.wrap, IntKind.bits, IntKind.signed]
  rw [hw]; omega
theorem xor8_ne (a t : UInt8) (ht : t ≠ 0) : a ^^^ t ≠ a := by
  intro h
  apply ht
  have : a ^^^ (a ^^^ t) = a ^^^ a := by rw [h]
  rw [← UInt8.xor_assoc, UInt8.xor_self, UInt8.zero_xor] at this
  exact this
/-- what a check tells of an envelope that was sealed by the key at hand -/
theorem check_own (G : Gt) (m : Mg) (now : Int) (o : Int → Bool) (k : Two64) (hk : G.key m = k) (hM : mayOf m = true) :
    G.check (sealOf k.a k.b m) now o = if G.in m.who = false ∨ o m.who = true then (zeroM, 3) else if G.may m now = false then (zeroM, 4) else if (G.rep m).may m.seq = false then (zeroM, 6) else if G.time m.epoch now = false then (zeroM, 7) else if (G.met : Int) ≤ m.metric then (zeroM, 1) else (m, 0) := by
  obtain ⟨e1, e2, e3, e4, e5⟩ := sp_seal hM k.a k.b
  subst hk
  unfold Gt.check Gt.checkC Gt.checkM
  rw [e1, e2, e3, e4, e5]
  simp only [if_true, and_self, not_true, if_false]
  split
  · rfl
  · split
    · rfl
    · split
      · rfl
      · split
        · rfl
        · split
          · rfl
          · rfl
theorem check_bad (G : Gt) (l : List UInt8) (now : Int) (o : Int → Bool) (h : spC l ≠ 0) : G.check l now o = (zeroM, 2) := by
  unfold Gt.check Gt.checkC; rw [if_neg h]; rfl
/-- an envelope with a byte of its tag turned -/
theorem seal_turned (k0 k1 : BitVec 64) {m : Mg} (hM : mayOf m = true) {i : Nat} {x : UInt8} (h0 : 32 ≤ i) (h1 : i < 48) (hx : (sealOf k0 k1 m)[i]? ≠ some x) :
    spC ((sealOf k0 k1 m).set i x) = 0 ∧ spM ((sealOf k0 k1 m).set i x) = m ∧ spX ((sealOf k0 k1 m).set i x) = putOf m ∧ ¬ (spA ((sealOf k0 k1 m).set i x) = sumOf k0 k1 (putOf m) ∧ spB ((sealOf k0 k1 m).set i x) = sumOf k1 (inv k0) (putOf m)) := by
  have hc := cut_seal hM k0 k1
  obtain ⟨e1, e2, e3, e4, e5⟩ := sp_seal hM k0 k1
  have hlen := sealOf_length k0 k1 m
  generalize hl : sealOf k0 k1 m = l at *
  have ht : (l.set i x).take 32 = l.take 32 := by rw [List.take_set]; exact List.set_eq_of_length_le (by rw [List.length_take]; omega)
  have hc' : cutOf (l.set i x) = some m := by
    unfold cutOf at hc ⊢
    rw [List.length_set, ht]; exact hc
  have s1 : (cutOf (l.set i x)).isSome = true := by rw [hc']; rfl
  have s2 : (cutOf l).isSome = true := by rw [hc]; rfl
  refine ⟨by simp [spC, hc'], by simp [spM, hc'], by unfold spX at e2 ⊢; rw [if_pos s1, ht]; rw [if_pos s2] at e2; exact e2, fun ⟨a, b⟩ => ?_⟩
  unfold spA at a e3
  unfold spB at b e4
  rw [if_pos s1] at a b
  rw [if_pos s2] at e3 e4
  have p1 := put_words ((l.set i x).drop 32) (by simp [hlen])
  have p2 := put_words (l.drop 32) (by simp [hlen])
  rw [a, b] at p1
  rw [e3, e4] at p2
  have hd : (l.set i x).drop 32 = l.drop 32 := p1.symm.trans p2
  have := congrArg (fun z => z[i - 32]?) hd
  simp only [List.getElem?_drop] at this
  rw [show 32 + (i - 32) = i by omega, List.getElem?_set_self (by omega)] at this
  exact hx this.symm
theorem check_turned (G : Gt) (m : Mg) (now : Int) (o : Int → Bool) (k : Two64) (hk : G.key m = k) (hM : mayOf m = true) {i : Nat} {x : UInt8} (h0 : 32 ≤ i) (h1 : i < 48) (hx : (sealOf k.a k.b m)[i]? ≠ some x) (h2 : G.in m.who = true) (h3 : o m.who = false) (h4 : G.may m now = true) :
    G.check ((sealOf k.a k.b m).set i x) now o = (zeroM, 5) := by
  subst hk
  obtain ⟨e1, e2, e3, e4⟩ := seal_turned (G.key m).a (G.key m).b hM h0 h1 hx
  unfold Gt.check Gt.checkC Gt.checkM
  rw [e1, e2, e3]
  have hh : ¬ (G.in m.who = false ∨ o m.who = true) := by rw [h2, h3]; simp
  have hh2 : ¬ (G.may m now = false) := by rw [h4]; simp
  simp only [if_true, if_neg hh, if_neg hh2, if_pos e4]
  rfl
end Go.Proofs.YtfhifnhnkgdnlaaGreat
end
section
set_option linter.unusedSimpArgs false
namespace Go.Proofs.YtfhifnhnkgdnlaaGreat
set_option maxRecDepth 100000
open Go.RowKit

/-- the default -/
@[reducible] def dflt : Conf := ⟨4, 1, 1, 3, 2, 2, 32, 1000, 0, 0, 0, 100, 1, 100, 0, 3, 4, 100, 4, 50, 2, 100, 3, 4, 256, 1⟩
@[reducible] def zeroC : Conf := ⟨0, 0, 0, 0, 0, 0, 0, 0, 0, 0, 0, 0, 0, 0, 0, 0, 0, 0, 0, 0, 0, 0, 0, 0, 0, 0⟩

theorem default_any (w : World) :
    Calls Tryz.prog 46 #[] w fun e w' => e = .returned (cf dflt) ∧ w.grownBy w' none := by
  go_enter Tryz.func46, Tryz.ntmps46
  go_wp2_with (first | refine wpList_buildTo (ty := 24) (cs := #[.int .i64 1000, .int .i64 0, .int .i64 0, .int .i64 0]) rfl rfl rfl (by kernel_rfl) ?_ | refine wpList_buildTo (ty := 27) (cs := dflt.cells) rfl rfl rfl (by kernel_rfl) ?_ | refine wpList_store_new (cs := dflt.cells) rfl (by kernel_rfl) (by kernel_rfl) (by kernel_rfl) rfl rfl rfl rfl rfl ?_)
  refine bodyPost_ret (v := cf dflt) ?_ rfl ⟨rfl, gb_alloc (.refl w none) _⟩
  exact results_cell_row rfl _ _ w.heap.size 27 dflt.cells (0, 0) _ rfl (heap_alloc_last _ _) Tryz.underlying27 rfl (by kernel_rfl)
theorem refdefault_any (w : World) :
    Calls Tryz.prog 39 #[] w fun e w' => e = .returned (cf dflt) ∧ w.grownBy w' none := by
  go_enter Tryz.func39, Tryz.ntmps39
  go_wp2_with (first | refine wpList_buildTo (ty := 24) (cs := #[.int .i64 1000, .int .i64 0, .int .i64 0, .int .i64 0]) rfl rfl rfl (by kernel_rfl) ?_ | refine wpList_buildTo (ty := 27) (cs := dflt.cells) rfl rfl rfl (by kernel_rfl) ?_ | refine wpList_store_new (cs := dflt.cells) rfl (by kernel_rfl) (by kernel_rfl) (by kernel_rfl) rfl rfl rfl rfl rfl ?_)
  refine bodyPost_ret (v := cf dflt) ?_ rfl ⟨rfl, gb_alloc (.refl w none) _⟩
  exact results_cell_row rfl _ _ w.heap.size 27 dflt.cells (0, 0) _ rfl (heap_alloc_last _ _) Tryz.underlying27 rfl (by kernel_rfl)
end Go.Proofs.YtfhifnhnkgdnlaaGreat
end
section
set_option linter.unusedSimpArgs false
namespace Go.Proofs.YtfhifnhnkgdnlaaGreat
set_option maxRecDepth 100000
open Go.RowKit

theorem wrap_small {x : Int} (h : -9223372036854775808 ≤ x) (h' : x ≤ 9223372036854775807) : wrap64 x = x := by
  unfold wrap64; omega
theorem third {n f : Int} (h1 : 1 ≤ n) (h2 : n ≤ 16) : cwithin f 0 (wrap64 ((wrap64 (n - 1)).tdiv 3)) = (decide (0 ≤ f) && decide (3 * f + 1 ≤ n)) := by
  rw [wrap_small (x := n - 1) (by omega) (by omega), Int.tdiv_eq_ediv_of_nonneg (by omega), wrap_small (by omega) (by omega)]
  unfold cwithin
  congr 1
  rw [decide_eq_decide]
  omega
theorem no1 {c : Conf} (hb : cwithin c.n 1 16 = false) : st22 c = some ⟨#[110]⟩ := by
  have h1 : st1 c = some ⟨#[110]⟩ := by unfold st1; rw [hb]; rfl
  simp only [st2, st3, st4, st5, st6, st7, st8, st9, st10, st11, st12, st13, st14, st15, st16, st17, st18, st19, st20, st21, st22, h1, ask1]
theorem ok1 {c : Conf} (hb : cwithin c.n 1 16 = true) : st1 c = none := by unfold st1; rw [hb]; rfl
theorem no2 {c : Conf} (h : st1 c = none) (hb : cwithin c.f 0 (wrap64 ((wrap64 (c.n - 1)).tdiv 3)) = false) : st22 c = some ⟨#[102]⟩ := by
  have h1 : st2 c = some ⟨#[102]⟩ := by unfold st2; rw [h, hb]; rfl
  simp only [st3, st4, st5, st6, st7, st8, st9, st10, st11, st12, st13, st14, st15, st16, st17, st18, st19, st20, st21, st22, h1, ask1]
theorem ok2 {c : Conf} (h : st1 c = none) (hb : cwithin c.f 0 (wrap64 ((wrap64 (c.n - 1)).tdiv 3)) = true) : st2 c = none := by unfold st2; rw [h, hb]; rfl
theorem no3 {c : Conf} (h : st2 c = none) (hb : cwithin c.m 1 4 = false) : st22 c = some ⟨#[109]⟩ := by
  have h1 : st3 c = some ⟨#[109]⟩ := by unfold st3; rw [h, hb]; rfl
  simp only [st4, st5, st6, st7, st8, st9, st10, st11, st12, st13, st14, st15, st16, st17, st18, st19, st20, st21, st22, h1, ask1]
theorem ok3 {c : Conf} (h : st2 c = none) (hb : cwithin c.m 1 4 = true) : st3 c = none := by unfold st3; rw [h, hb]; rfl
theorem no4 {c : Conf} (h : st3 c = none) (hb : cwithin c.quorum (wrap64 (wrap64 (2 * c.f) + 1)) c.n = false) : st22 c = some ⟨#[113, 117, 111, 114, 117, 109]⟩ := by
  have h1 : st4 c = some ⟨#[113, 117, 111, 114, 117, 109]⟩ := by unfold st4; rw [h, hb]; rfl
  simp only [st5, st6, st7, st8, st9, st10, st11, st12, st13, st14, st15, st16, st17, st18, st19, st20, st21, st22, h1, ask1]
theorem ok4 {c : Conf} (h : st3 c = none) (hb : cwithin c.quorum (wrap64 (wrap64 (2 * c.f) + 1)) c.n = true) : st4 c = none := by unfold st4; rw [h, hb]; rfl
theorem no5 {c : Conf} (h : st4 c = none) (hb : cwithin c.fresh 1 8 = false) : st22 c = some ⟨#[102, 114, 101, 115, 104]⟩ := by
  have h1 : st5 c = some ⟨#[102, 114, 101, 115, 104]⟩ := by unfold st5; rw [h, hb]; rfl
  simp only [st6, st7, st8, st9, st10, st11, st12, st13, st14, st15, st16, st17, st18, st19, st20, st21, st22, h1, ask1]
theorem ok5 {c : Conf} (h : st4 c = none) (hb : cwithin c.fresh 1 8 = true) : st5 c = none := by unfold st5; rw [h, hb]; rfl
theorem no6 {c : Conf} (h : st5 c = none) (hb : cwithin c.grace 1 100 = false) : st22 c = some ⟨#[103, 114, 97, 99, 101]⟩ := by
  have h1 : st6 c = some ⟨#[103, 114, 97, 99, 101]⟩ := by unfold st6; rw [h, hb]; rfl
  simp only [st7, st8, st9, st10, st11, st12, st13, st14, st15, st16, st17, st18, st19, st20, st21, st22, h1, ask1]
theorem ok6 {c : Conf} (h : st5 c = none) (hb : cwithin c.grace 1 100 = true) : st6 c = none := by unfold st6; rw [h, hb]; rfl
theorem no7 {c : Conf} (h : st6 c = none) (hb : cwithin c.window 1 64 = false) : st22 c = some ⟨#[119, 105, 110, 100, 111, 119]⟩ := by
  have h1 : st7 c = some ⟨#[119, 105, 110, 100, 111, 119]⟩ := by unfold st7; rw [h, hb]; rfl
  simp only [st8, st9, st10, st11, st12, st13, st14, st15, st16, st17, st18, st19, st20, st21, st22, h1, ask1]
theorem ok7 {c : Conf} (h : st6 c = none) (hb : cwithin c.window 1 64 = true) : st7 c = none := by unfold st7; rw [h, hb]; rfl
theorem no8 {c : Conf} (h : st7 c = none) (hb : tgts c.m c.t0 c.t1 c.t2 c.t3 = false) : st22 c = some ⟨#[116, 97, 114, 103, 101, 116]⟩ := by
  have h1 : st8 c = some ⟨#[116, 97, 114, 103, 101, 116]⟩ := by unfold st8; rw [h, hb]; rfl
  simp only [st9, st10, st11, st12, st13, st14, st15, st16, st17, st18, st19, st20, st21, st22, h1, ask1]
theorem ok8 {c : Conf} (h : st7 c = none) (hb : tgts c.m c.t0 c.t1 c.t2 c.t3 = true) : st8 c = none := by unfold st8; rw [h, hb]; rfl
theorem no9 {c : Conf} (h : st8 c = none) (hb : cwithin c.tol 0 1000 = false) : st22 c = some ⟨#[116, 111, 108]⟩ := by
  have h1 : st9 c = some ⟨#[116, 111, 108]⟩ := by unfold st9; rw [h, hb]; rfl
  simp only [st10, st11, st12, st13, st14, st15, st16, st17, st18, st19, st20, st21, st22, h1, ask1]
theorem ok9 {c : Conf} (h : st8 c = none) (hb : cwithin c.tol 0 1000 = true) : st9 c = none := by unfold st9; rw [h, hb]; rfl
theorem no10 {c : Conf} (h : st9 c = none) (hb : cwithin c.min 1 10000 = false) : st22 c = some ⟨#[109, 105, 110]⟩ := by
  have h1 : st10 c = some ⟨#[109, 105, 110]⟩ := by unfold st10; rw [h, hb]; rfl
  simp only [st11, st12, st13, st14, st15, st16, st17, st18, st19, st20, st21, st22, h1, ask1]
theorem ok10 {c : Conf} (h : st9 c = none) (hb : cwithin c.min 1 10000 = true) : st10 c = none := by unfold st10; rw [h, hb]; rfl
theorem no11 {c : Conf} (h : st10 c = none) (hb : cwithin c.max c.min 10000 = false) : st22 c = some ⟨#[109, 97, 120]⟩ := by
  have h1 : st11 c = some ⟨#[109, 97, 120]⟩ := by unfold st11; rw [h, hb]; rfl
  simp only [st12, st13, st14, st15, st16, st17, st18, st19, st20, st21, st22, h1, ask1]
theorem ok11 {c : Conf} (h : st10 c = none) (hb : cwithin c.max c.min 10000 = true) : st11 c = none := by unfold st11; rw [h, hb]; rfl
theorem no12 {c : Conf} (h : st11 c = none) (hb : cwithin c.calmup 0 60 = false) : st22 c = some ⟨#[99, 97, 108, 109, 117, 112]⟩ := by
  have h1 : st12 c = some ⟨#[99, 97, 108, 109, 117, 112]⟩ := by unfold st12; rw [h, hb]; rfl
  simp only [st13, st14, st15, st16, st17, st18, st19, st20, st21, st22, h1, ask1]
theorem ok12 {c : Conf} (h : st11 c = none) (hb : cwithin c.calmup 0 60 = true) : st12 c = none := by unfold st12; rw [h, hb]; rfl
theorem no13 {c : Conf} (h : st12 c = none) (hb : cwithin c.calmdown 0 60 = false) : st22 c = some ⟨#[99, 97, 108, 109, 100, 111, 119, 110]⟩ := by
  have h1 : st13 c = some ⟨#[99, 97, 108, 109, 100, 111, 119, 110]⟩ := by unfold st13; rw [h, hb]; rfl
  simp only [st14, st15, st16, st17, st18, st19, st20, st21, st22, h1, ask1]
theorem ok13 {c : Conf} (h : st12 c = none) (hb : cwithin c.calmdown 0 60 = true) : st13 c = none := by unfold st13; rw [h, hb]; rfl
theorem no14 {c : Conf} (h : st13 c = none) (hb : cwithin c.podsup 1 1000 = false) : st22 c = some ⟨#[112, 111, 100, 115, 117, 112]⟩ := by
  have h1 : st14 c = some ⟨#[112, 111, 100, 115, 117, 112]⟩ := by unfold st14; rw [h, hb]; rfl
  simp only [st15, st16, st17, st18, st19, st20, st21, st22, h1, ask1]
theorem ok14 {c : Conf} (h : st13 c = none) (hb : cwithin c.podsup 1 1000 = true) : st14 c = none := by unfold st14; rw [h, hb]; rfl
theorem no15 {c : Conf} (h : st14 c = none) (hb : cwithin c.pctup 1 1000 = false) : st22 c = some ⟨#[112, 99, 116, 117, 112]⟩ := by
  have h1 : st15 c = some ⟨#[112, 99, 116, 117, 112]⟩ := by unfold st15; rw [h, hb]; rfl
  simp only [st16, st17, st18, st19, st20, st21, st22, h1, ask1]
theorem ok15 {c : Conf} (h : st14 c = none) (hb : cwithin c.pctup 1 1000 = true) : st15 c = none := by unfold st15; rw [h, hb]; rfl
theorem no16 {c : Conf} (h : st15 c = none) (hb : cwithin c.podsdown 1 1000 = false) : st22 c = some ⟨#[112, 111, 100, 115, 100, 111, 119, 110]⟩ := by
  have h1 : st16 c = some ⟨#[112, 111, 100, 115, 100, 111, 119, 110]⟩ := by unfold st16; rw [h, hb]; rfl
  simp only [st17, st18, st19, st20, st21, st22, h1, ask1]
theorem ok16 {c : Conf} (h : st15 c = none) (hb : cwithin c.podsdown 1 1000 = true) : st16 c = none := by unfold st16; rw [h, hb]; rfl
theorem no17 {c : Conf} (h : st16 c = none) (hb : cwithin c.pctdown 1 100 = false) : st22 c = some ⟨#[112, 99, 116, 100, 111, 119, 110]⟩ := by
  have h1 : st17 c = some ⟨#[112, 99, 116, 100, 111, 119, 110]⟩ := by unfold st17; rw [h, hb]; rfl
  simp only [st18, st19, st20, st21, st22, h1, ask1]
theorem ok17 {c : Conf} (h : st16 c = none) (hb : cwithin c.pctdown 1 100 = true) : st17 c = none := by unfold st17; rw [h, hb]; rfl
theorem no18 {c : Conf} (h : st17 c = none) (hb : cwithin c.period 1 60 = false) : st22 c = some ⟨#[112, 101, 114, 105, 111, 100]⟩ := by
  have h1 : st18 c = some ⟨#[112, 101, 114, 105, 111, 100]⟩ := by unfold st18; rw [h, hb]; rfl
  simp only [st19, st20, st21, st22, h1, ask1]
theorem ok18 {c : Conf} (h : st17 c = none) (hb : cwithin c.period 1 60 = true) : st18 c = none := by unfold st18; rw [h, hb]; rfl
theorem no19 {c : Conf} (h : st18 c = none) (hb : cwithin c.far 0 1099511627776 = false) : st22 c = some ⟨#[102, 97, 114]⟩ := by
  have h1 : st19 c = some ⟨#[102, 97, 114]⟩ := by unfold st19; rw [h, hb]; rfl
  simp only [st20, st21, st22, h1, ask1]
theorem ok19 {c : Conf} (h : st18 c = none) (hb : cwithin c.far 0 1099511627776 = true) : st19 c = none := by unfold st19; rw [h, hb]; rfl
theorem no20 {c : Conf} (h : st19 c = none) (hb : cwithin c.strikes 1 100 = false) : st22 c = some ⟨#[115, 116, 114, 105, 107, 101, 115]⟩ := by
  have h1 : st20 c = some ⟨#[115, 116, 114, 105, 107, 101, 115]⟩ := by unfold st20; rw [h, hb]; rfl
  simp only [st21, st22, h1, ask1]
theorem ok20 {c : Conf} (h : st19 c = none) (hb : cwithin c.strikes 1 100 = true) : st20 c = none := by unfold st20; rw [h, hb]; rfl
theorem no21 {c : Conf} (h : st20 c = none) (hb : cwithin c.probe 1 100 = false) : st22 c = some ⟨#[112, 114, 111, 98, 101]⟩ := by
  have h1 : st21 c = some ⟨#[112, 114, 111, 98, 101]⟩ := by unfold st21; rw [h, hb]; rfl
  simp only [st22, h1, ask1]
theorem ok21 {c : Conf} (h : st20 c = none) (hb : cwithin c.probe 1 100 = true) : st21 c = none := by unfold st21; rw [h, hb]; rfl
theorem no22 {c : Conf} (h : st21 c = none) (hb : cwithin c.sectors 64 4096 = false) : st22 c = some ⟨#[115, 101, 99, 116, 111, 114, 115]⟩ := by
  have h1 : st22 c = some ⟨#[115, 101, 99, 116, 111, 114, 115]⟩ := by unfold st22; rw [h, hb]; rfl
  exact h1
theorem ok22 {c : Conf} (h : st21 c = none) (hb : cwithin c.sectors 64 4096 = true) : st22 c = none := by unfold st22; rw [h, hb]; rfl

set_option maxHeartbeats 6400000 in
theorem refwrong_any (c : Conf) (w : World) :
    Calls Tryz.prog 89 #[cf c] w fun e w' => e = .returned (.string ((st22 c).getD ⟨#[]⟩)) ∧ w.grownBy w' none := by
  have h0 := boxc_new w c
  have H0 := hid h0; clear h0
  obtain ⟨s, hs⟩ : ∃ s, s = st22 c := ⟨_, rfl⟩
  rw [← hs]
  have HS := hid hs; clear hs
  go_enter Tryz.func89, Tryz.ntmps89
  have z0 : (w.alloc (.cells c.cells 27)).cell? ⟨w.heap.size, 0, none⟩ = some (.int .i64 c.n) := at_cell H0.out.box 0
  go_wp2_with fail
  refine (cin_any _ _ _ _).mono ?_
  rintro e v1 ⟨rfl, hv⟩
  subst v1
  clear z0
  by_cases hb : cwithin c.n 1 16 = true
  rotate_left
  · have hb' : cwithin c.n 1 16 = false := by simpa using hb
    have R := hid (HS.out.trans (no1 hb'))
    clear hb
    go_wp2_with fail
    go_ret
    exact ⟨by rw [R.out]; rfl, H0.out.g⟩
  have S1 := hid (ok1 hb)
  have B1 := hid hb; have hb1 := hb; clear hb
  have hN : 1 ≤ c.n ∧ c.n ≤ 16 := by have := B1.out; simpa [cwithin] using this
  have z1 : (w.alloc (.cells c.cells 27)).cell? ⟨w.heap.size, 1, none⟩ = some (.int .i64 c.f) := at_cell H0.out.box 1
  have z0 : (w.alloc (.cells c.cells 27)).cell? ⟨w.heap.size, 0, none⟩ = some (.int .i64 c.n) := at_cell H0.out.box 0
  by_cases hb : cwithin c.f 0 (wrap64 ((wrap64 (c.n - 1)).tdiv 3)) = true
  rotate_left
  · have hb' : cwithin c.f 0 (wrap64 ((wrap64 (c.n - 1)).tdiv 3)) = false := by simpa using hb
    have R := hid (HS.out.trans (no2 S1.out hb'))
    rw [third hN.1 hN.2] at hb'
    clear hb
    by_cases hf : c.f < 0
    · clear hb'
      go_wp2_with fail
      go_ret
      exact ⟨by rw [R.out]; rfl, H0.out.g⟩
    · by_cases hf5 : 5 < c.f
      · clear hb'
        go_wp2_with fail
        go_ret
        exact ⟨by rw [R.out]; rfl, H0.out.g⟩
      · have h3 : c.n < 3 * c.f + 1 := by simp at hb'; omega
        have hw1 : wrap64 (3 * c.f) = 3 * c.f := wrap_small (by omega) (by omega)
        have hw2 : wrap64 (3 * c.f + 1) = 3 * c.f + 1 := wrap_small (by omega) (by omega)
        clear hb'
        go_wp2_with fail
        go_ret
        exact ⟨by rw [R.out]; rfl, H0.out.g⟩
  have S2 := hid (ok2 S1.out hb); clear S1
  rw [third hN.1 hN.2] at hb
  have hf : 0 ≤ c.f ∧ 3 * c.f + 1 ≤ c.n := by simpa using hb
  have hw1 : wrap64 (3 * c.f) = 3 * c.f := wrap_small (by omega) (by omega)
  have hw2 : wrap64 (3 * c.f + 1) = 3 * c.f + 1 := wrap_small (by omega) (by omega)
  have e1 : ¬ c.f < 0 := by omega
  have e2 : ¬ 5 < c.f := by omega
  have e3 : ¬ c.n < 3 * c.f + 1 := by omega
  clear hb
  have F2 := hid hf; clear hf hN
  go_wp2_with fail
  clear hb1 e1 e2 e3 hw1 hw2 z0 z1
  have z2 : (w.alloc (.cells c.cells 27)).cell? ⟨w.heap.size, 2, none⟩ = some (.int .i64 c.m) := at_cell H0.out.box 2
  go_wp2_with fail
  refine (cin_any _ _ _ _).mono ?_
  rintro e v3 ⟨rfl, hv⟩
  subst v3
  clear z2
  by_cases hb : cwithin c.m 1 4 = true
  rotate_left
  · have hb' : cwithin c.m 1 4 = false := by simpa using hb
    have R := hid (HS.out.trans (no3 S2.out hb'))
    clear hb
    go_wp2_with fail
    go_ret
    exact ⟨by rw [R.out]; rfl, H0.out.g⟩
  have S3 := hid (ok3 S2.out hb); clear S2
  have hb1 := hb; clear hb
  have z3 : (w.alloc (.cells c.cells 27)).cell? ⟨w.heap.size, 3, none⟩ = some (.int .i64 c.quorum) := at_cell H0.out.box 3
  have z1 : (w.alloc (.cells c.cells 27)).cell? ⟨w.heap.size, 1, none⟩ = some (.int .i64 c.f) := at_cell H0.out.box 1
  have z0 : (w.alloc (.cells c.cells 27)).cell? ⟨w.heap.size, 0, none⟩ = some (.int .i64 c.n) := at_cell H0.out.box 0
  go_wp2_with fail
  clear hb1
  refine (cin_any _ _ _ _).mono ?_
  rintro e v4 ⟨rfl, hv⟩
  subst v4
  clear z3 z1 z0
  have hLO : wrap64 (wrap64 (2 * c.f) + 1) = 2 * c.f + 1 := by have := F2.out; have hn := B1.out; simp [cwithin] at hn; rw [wrap_small (x := 2 * c.f) (by omega) (by omega), wrap_small (by omega) (by omega)]
  by_cases hb : cwithin c.quorum (wrap64 (wrap64 (2 * c.f) + 1)) c.n = true
  rotate_left
  · have hb' : cwithin c.quorum (wrap64 (wrap64 (2 * c.f) + 1)) c.n = false := by simpa using hb
    have R := hid (HS.out.trans (no4 S3.out hb'))
    rw [hLO] at hb'; clear hLO; clear hb
    go_wp2_with fail
    go_ret
    exact ⟨by rw [R.out]; rfl, H0.out.g⟩
  have S4 := hid (ok4 S3.out hb); clear S3
  rw [hLO] at hb; clear hLO
  have hb1 := hb; clear hb
  have z4 : (w.alloc (.cells c.cells 27)).cell? ⟨w.heap.size, 4, none⟩ = some (.int .i64 c.fresh) := at_cell H0.out.box 4
  go_wp2_with fail
  clear hb1
  refine (cin_any _ _ _ _).mono ?_
  rintro e v5 ⟨rfl, hv⟩
  subst v5
  clear z4
  by_cases hb : cwithin c.fresh 1 8 = true
  rotate_left
  · have hb' : cwithin c.fresh 1 8 = false := by simpa using hb
    have R := hid (HS.out.trans (no5 S4.out hb'))
    clear hb
    go_wp2_with fail
    go_ret
    exact ⟨by rw [R.out]; rfl, H0.out.g⟩
  have S5 := hid (ok5 S4.out hb); clear S4
  have hb1 := hb; clear hb
  have z5 : (w.alloc (.cells c.cells 27)).cell? ⟨w.heap.size, 5, none⟩ = some (.int .i64 c.grace) := at_cell H0.out.box 5
  go_wp2_with fail
  clear hb1
  refine (cin_any _ _ _ _).mono ?_
  rintro e v6 ⟨rfl, hv⟩
  subst v6
  clear z5
  by_cases hb : cwithin c.grace 1 100 = true
  rotate_left
  · have hb' : cwithin c.grace 1 100 = false := by simpa using hb
    have R := hid (HS.out.trans (no6 S5.out hb'))
    clear hb
    go_wp2_with fail
    go_ret
    exact ⟨by rw [R.out]; rfl, H0.out.g⟩
  have S6 := hid (ok6 S5.out hb); clear S5
  have hb1 := hb; clear hb
  have z6 : (w.alloc (.cells c.cells 27)).cell? ⟨w.heap.size, 6, none⟩ = some (.int .i64 c.window) := at_cell H0.out.box 6
  go_wp2_with fail
  clear hb1
  refine (cin_any _ _ _ _).mono ?_
  rintro e v7 ⟨rfl, hv⟩
  subst v7
  clear z6
  by_cases hb : cwithin c.window 1 64 = true
  rotate_left
  · have hb' : cwithin c.window 1 64 = false := by simpa using hb
    have R := hid (HS.out.trans (no7 S6.out hb'))
    clear hb
    go_wp2_with fail
    go_ret
    exact ⟨by rw [R.out]; rfl, H0.out.g⟩
  have S7 := hid (ok7 S6.out hb); clear S6
  have hb1 := hb; clear hb
  go_wp2_with (refine wpList_conf H0.out.box rfl rfl rfl rfl ?_)
  clear hb1
  refine (reftargets_any c _).mono ?_
  rintro e v8 ⟨rfl, hg⟩
  have HB := hid (H0.out.grown hg); clear hg H0 
  by_cases hb : tgts c.m c.t0 c.t1 c.t2 c.t3 = true
  rotate_left
  · have hb' : tgts c.m c.t0 c.t1 c.t2 c.t3 = false := by simpa using hb
    have R := hid (HS.out.trans (no8 S7.out hb'))
    clear hb
    go_wp2_with fail
    go_ret
    exact ⟨by rw [R.out]; rfl, HB.out.g⟩
  have S8 := hid (ok8 S7.out hb); clear S7
  have hb1 := hb; clear hb
  have z11 : v8.cell? ⟨w.heap.size, 11, none⟩ = some (.int .i64 c.tol) := at_cell HB.out.box 11
  go_wp2_with fail
  clear hb1
  refine (cin_any _ _ _ _).mono ?_
  rintro e v9 ⟨rfl, hv⟩
  subst v9
  clear z11
  by_cases hb : cwithin c.tol 0 1000 = true
  rotate_left
  · have hb' : cwithin c.tol 0 1000 = false := by simpa using hb
    have R := hid (HS.out.trans (no9 S8.out hb'))
    clear hb
    go_wp2_with fail
    go_ret
    exact ⟨by rw [R.out]; rfl, HB.out.g⟩
  have S9 := hid (ok9 S8.out hb); clear S8
  have hb1 := hb; clear hb
  have z12 : v8.cell? ⟨w.heap.size, 12, none⟩ = some (.int .i64 c.min) := at_cell HB.out.box 12
  go_wp2_with fail
  clear hb1
  refine (cin_any _ _ _ _).mono ?_
  rintro e v10 ⟨rfl, hv⟩
  subst v10
  clear z12
  by_cases hb : cwithin c.min 1 10000 = true
  rotate_left
  · have hb' : cwithin c.min 1 10000 = false := by simpa using hb
    have R := hid (HS.out.trans (no10 S9.out hb'))
    clear hb
    go_wp2_with fail
    go_ret
    exact ⟨by rw [R.out]; rfl, HB.out.g⟩
  have S10 := hid (ok10 S9.out hb); clear S9
  have hb1 := hb; clear hb
  have z13 : v8.cell? ⟨w.heap.size, 13, none⟩ = some (.int .i64 c.max) := at_cell HB.out.box 13
  have z12 : v8.cell? ⟨w.heap.size, 12, none⟩ = some (.int .i64 c.min) := at_cell HB.out.box 12
  go_wp2_with fail
  clear hb1
  refine (cin_any _ _ _ _).mono ?_
  rintro e v11 ⟨rfl, hv⟩
  subst v11
  clear z13 z12
  by_cases hb : cwithin c.max c.min 10000 = true
  rotate_left
  · have hb' : cwithin c.max c.min 10000 = false := by simpa using hb
    have R := hid (HS.out.trans (no11 S10.out hb'))
    clear hb
    go_wp2_with fail
    go_ret
    exact ⟨by rw [R.out]; rfl, HB.out.g⟩
  have S11 := hid (ok11 S10.out hb); clear S10
  have hb1 := hb; clear hb
  have z14 : v8.cell? ⟨w.heap.size, 14, none⟩ = some (.int .i64 c.calmup) := at_cell HB.out.box 14
  go_wp2_with fail
  clear hb1
  refine (cin_any _ _ _ _).mono ?_
  rintro e v12 ⟨rfl, hv⟩
  subst v12
  clear z14
  by_cases hb : cwithin c.calmup 0 60 = true
  rotate_left
  · have hb' : cwithin c.calmup 0 60 = false := by simpa using hb
    have R := hid (HS.out.trans (no12 S11.out hb'))
    clear hb
    go_wp2_with fail
    go_ret
    exact ⟨by rw [R.out]; rfl, HB.out.g⟩
  have S12 := hid (ok12 S11.out hb); clear S11
  have hb1 := hb; clear hb
  have z15 : v8.cell? ⟨w.heap.size, 15, none⟩ = some (.int .i64 c.calmdown) := at_cell HB.out.box 15
  go_wp2_with fail
  clear hb1
  refine (cin_any _ _ _ _).mono ?_
  rintro e v13 ⟨rfl, hv⟩
  subst v13
  clear z15
  by_cases hb : cwithin c.calmdown 0 60 = true
  rotate_left
  · have hb' : cwithin c.calmdown 0 60 = false := by simpa using hb
    have R := hid (HS.out.trans (no13 S12.out hb'))
    clear hb
    go_wp2_with fail
    go_ret
    exact ⟨by rw [R.out]; rfl, HB.out.g⟩
  have S13 := hid (ok13 S12.out hb); clear S12
  have hb1 := hb; clear hb
  have z16 : v8.cell? ⟨w.heap.size, 16, none⟩ = some (.int .i64 c.podsup) := at_cell HB.out.box 16
  go_wp2_with fail
  clear hb1
  refine (cin_any _ _ _ _).mono ?_
  rintro e v14 ⟨rfl, hv⟩
  subst v14
  clear z16
  by_cases hb : cwithin c.podsup 1 1000 = true
  rotate_left
  · have hb' : cwithin c.podsup 1 1000 = false := by simpa using hb
    have R := hid (HS.out.trans (no14 S13.out hb'))
    clear hb
    go_wp2_with fail
    go_ret
    exact ⟨by rw [R.out]; rfl, HB.out.g⟩
  have S14 := hid (ok14 S13.out hb); clear S13
  have hb1 := hb; clear hb
  have z17 : v8.cell? ⟨w.heap.size, 17, none⟩ = some (.int .i64 c.pctup) := at_cell HB.out.box 17
  go_wp2_with fail
  clear hb1
  refine (cin_any _ _ _ _).mono ?_
  rintro e v15 ⟨rfl, hv⟩
  subst v15
  clear z17
  by_cases hb : cwithin c.pctup 1 1000 = true
  rotate_left
  · have hb' : cwithin c.pctup 1 1000 = false := by simpa using hb
    have R := hid (HS.out.trans (no15 S14.out hb'))
    clear hb
    go_wp2_with fail
    go_ret
    exact ⟨by rw [R.out]; rfl, HB.out.g⟩
  have S15 := hid (ok15 S14.out hb); clear S14
  have hb1 := hb; clear hb
  have z18 : v8.cell? ⟨w.heap.size, 18, none⟩ = some (.int .i64 c.podsdown) := at_cell HB.out.box 18
  go_wp2_with fail
  clear hb1
  refine (cin_any _ _ _ _).mono ?_
  rintro e v16 ⟨rfl, hv⟩
  subst v16
  clear z18
  by_cases hb : cwithin c.podsdown 1 1000 = true
  rotate_left
  · have hb' : cwithin c.podsdown 1 1000 = false := by simpa using hb
    have R := hid (HS.out.trans (no16 S15.out hb'))
    clear hb
    go_wp2_with fail
    go_ret
    exact ⟨by rw [R.out]; rfl, HB.out.g⟩
  have S16 := hid (ok16 S15.out hb); clear S15
  have hb1 := hb; clear hb
  have z19 : v8.cell? ⟨w.heap.size, 19, none⟩ = some (.int .i64 c.pctdown) := at_cell HB.out.box 19
  go_wp2_with fail
  clear hb1
  refine (cin_any _ _ _ _).mono ?_
  rintro e v17 ⟨rfl, hv⟩
  subst v17
  clear z19
  by_cases hb : cwithin c.pctdown 1 100 = true
  rotate_left
  · have hb' : cwithin c.pctdown 1 100 = false := by simpa using hb
    have R := hid (HS.out.trans (no17 S16.out hb'))
    clear hb
    go_wp2_with fail
    go_ret
    exact ⟨by rw [R.out]; rfl, HB.out.g⟩
  have S17 := hid (ok17 S16.out hb); clear S16
  have hb1 := hb; clear hb
  have z20 : v8.cell? ⟨w.heap.size, 20, none⟩ = some (.int .i64 c.period) := at_cell HB.out.box 20
  go_wp2_with fail
  clear hb1
  refine (cin_any _ _ _ _).mono ?_
  rintro e v18 ⟨rfl, hv⟩
  subst v18
  clear z20
  by_cases hb : cwithin c.period 1 60 = true
  rotate_left
  · have hb' : cwithin c.period 1 60 = false := by simpa using hb
    have R := hid (HS.out.trans (no18 S17.out hb'))
    clear hb
    go_wp2_with fail
    go_ret
    exact ⟨by rw [R.out]; rfl, HB.out.g⟩
  have S18 := hid (ok18 S17.out hb); clear S17
  have hb1 := hb; clear hb
  have z21 : v8.cell? ⟨w.heap.size, 21, none⟩ = some (.int .i64 c.far) := at_cell HB.out.box 21
  by_cases hb : cwithin c.far 0 1099511627776 = true
  rotate_left
  · have hb' : cwithin c.far 0 1099511627776 = false := by simpa using hb
    have R := hid (HS.out.trans (no19 S18.out hb'))
    by_cases hf : c.far < 0
    · clear hb' hb
      go_wp2_with fail
      go_ret
      exact ⟨by rw [R.out]; rfl, HB.out.g⟩
    · have h3 : 1099511627776 < c.far := by simp [cwithin] at hb'; omega
      clear hb' hb
      go_wp2_with fail
      go_ret
      exact ⟨by rw [R.out]; rfl, HB.out.g⟩
  have S19 := hid (ok19 S18.out hb); clear S18
  have hf : 0 ≤ c.far ∧ c.far ≤ 1099511627776 := by simpa [cwithin] using hb
  have e1 : ¬ c.far < 0 := by omega
  have e2 : ¬ 1099511627776 < c.far := by omega
  clear hb hf
  have z22 : v8.cell? ⟨w.heap.size, 22, none⟩ = some (.int .i64 c.strikes) := at_cell HB.out.box 22
  go_wp2_with fail
  clear hb1 e1 e2 z21
  refine (cin_any _ _ _ _).mono ?_
  rintro e v20 ⟨rfl, hv⟩
  subst v20
  clear z22
  by_cases hb : cwithin c.strikes 1 100 = true
  rotate_left
  · have hb' : cwithin c.strikes 1 100 = false := by simpa using hb
    have R := hid (HS.out.trans (no20 S19.out hb'))
    clear hb
    go_wp2_with fail
    go_ret
    exact ⟨by rw [R.out]; rfl, HB.out.g⟩
  have S20 := hid (ok20 S19.out hb); clear S19
  have hb1 := hb; clear hb
  have z23 : v8.cell? ⟨w.heap.size, 23, none⟩ = some (.int .i64 c.probe) := at_cell HB.out.box 23
  go_wp2_with fail
  clear hb1
  refine (cin_any _ _ _ _).mono ?_
  rintro e v21 ⟨rfl, hv⟩
  subst v21
  clear z23
  by_cases hb : cwithin c.probe 1 100 = true
  rotate_left
  · have hb' : cwithin c.probe 1 100 = false := by simpa using hb
    have R := hid (HS.out.trans (no21 S20.out hb'))
    clear hb
    go_wp2_with fail
    go_ret
    exact ⟨by rw [R.out]; rfl, HB.out.g⟩
  have S21 := hid (ok21 S20.out hb); clear S20
  have hb1 := hb; clear hb
  have z24 : v8.cell? ⟨w.heap.size, 24, none⟩ = some (.int .i64 c.sectors) := at_cell HB.out.box 24
  go_wp2_with fail
  clear hb1
  refine (cin_any _ _ _ _).mono ?_
  rintro e v22 ⟨rfl, hv⟩
  subst v22
  clear z24
  by_cases hb : cwithin c.sectors 64 4096 = true
  rotate_left
  · have hb' : cwithin c.sectors 64 4096 = false := by simpa using hb
    have R := hid (HS.out.trans (no22 S21.out hb'))
    clear hb
    go_wp2_with fail
    go_ret
    exact ⟨by rw [R.out]; rfl, HB.out.g⟩
  have S22 := hid (ok22 S21.out hb); clear S21
  have hb1 := hb; clear hb
  go_wp2_with fail
  go_ret
  exact ⟨by rw [HS.out.trans S22.out]; rfl, HB.out.g⟩
end Go.Proofs.YtfhifnhnkgdnlaaGreat
end
section
set_option linter.unusedSimpArgs false
namespace Go.Proofs.YtfhifnhnkgdnlaaGreat
set_option maxRecDepth 100000
open Go.RowKit

/-- the block x holds the configuration c; all else as it was, or new -/
structure Cfx (w0 : World) (x : Nat) (c : Conf) (w : World) : Prop where
  box : w.heap[x]? = some (.cells c.cells 27)
  g : w0.grownBy w none
theorem Cfx.grown {w0 : World} {x : Nat} {c : Conf} {w1 w2 : World} (h : Cfx w0 x c w1) (hg : w1.grownBy w2 none) : Cfx w0 x c w2 := ⟨at_grown h.box hg (by simp), gb_trans h.g hg (.inl rfl)⟩
theorem Cfx.drew {w0 : World} {x : Nat} {c : Conf} {w1 : World} (h : Cfx w0 x c w1) : Cfx w0 x c w1.drew := ⟨h.box, gb_drew h.g⟩
theorem cfx_new {w0 w1 : World} (c : Conf) (h : w0.grownBy w1 none) : Cfx w0 w1.heap.size c (w1.alloc (.cells c.cells 27)) := ⟨at_new w1 _, gb_alloc h _⟩

/-- a number out of 'int(uint(x) % m)' -/
theorem mod_small (x : Int) {m : Int} (h0 : 0 < m) (h1 : m ≤ 4611686018427387904) : 0 ≤ wrap64 ((IntKind.u64.wrap x).tmod m) ∧ wrap64 ((IntKind.u64.wrap x).tmod m) < m := by
  have h : 0 ≤ IntKind.u64.wrap x := by
    show 0 ≤ x % _
    exact Int.emod_nonneg _ (by decide)
  rw [Int.tmod_eq_emod_of_nonneg h]
  have a := Int.emod_nonneg (IntKind.u64.wrap x) (Int.ne_of_gt h0)
  have b := Int.emod_lt_of_pos (IntKind.u64.wrap x) h0
  rw [wrap_small (by omega) (by omega)]
  exact ⟨a, b⟩
end Go.Proofs.YtfhifnhnkgdnlaaGreat
end
section
namespace Go.Proofs.YtfhifnhnkgdnlaaGreat
set_option maxRecDepth 100000
open Go.ChangeShapes Go.WideShapes Go.ChangeAt Go.RowKit

section
variable {H : Type} {enc : TypeId × Value → H} {P : Program} {w : World} {base : Nat} {spare : Nat → Bool} {held : Bool}
end
end Go.Proofs.YtfhifnhnkgdnlaaGreat
end
section
namespace Go.Proofs.YtfhifnhnkgdnlaaGreat
set_option maxRecDepth 100000
open Go.ChangeShapes Go.WideShapes Go.ChangeAt Go.RowKit

theorem own : ownKnob Tryz.prog.godebug = none := by kernel_rfl
theorem laidOut : laidOutB Tryz.prog = true := by kernel_rfl

/-- Whole lists of arguments, behind a call that changed nothing that was there. -/
theorem all_below {P : Program} (hP : laidOutB P = true) {H : Type} {enc : TypeId × Value → H} {W W' : World} (hb : Below W.heap.size W W') {ts : List TypeId} :
    ∀ {vs : List Value} {ds : List (DataW H)} {ps : List MemPlace}, (ts.all fun t => P.readableRec t && decide (t < P.types.size)) = true →
      DataW.TrodAll enc P W 0 (fun _ => true) true ts vs ds ps → (∀ x ∈ ps, x.block < W.heap.size) →
      DataW.TrodAll enc P W' 0 (fun b => decide (b < W.heap.size)) true ts vs ds ps := by
  induction ts with
  | nil =>
    intro vs ds ps _ h _
    obtain ⟨rfl, rfl, rfl⟩ := trodAll_nil h
    rfl
  | cons t ts ih =>
    intro vs ds ps ht h hlt
    obtain ⟨v, vs', d, ds', p, q, rfl, rfl, rfl, h1, h2⟩ := trodAll_cons h
    simp only [List.all_cons, Bool.and_eq_true, decide_eq_true_eq] at ht
    exact ⟨p, q, Below.trod hP ht.1.1 ht.1.2 h1 hb (fun x hx => hlt x (List.mem_append_left _ hx)), ih ht.2 h2 (fun x hx => hlt x (List.mem_append_right _ hx)), rfl⟩
end Go.Proofs.YtfhifnhnkgdnlaaGreat
end
section
set_option linter.unusedSimpArgs false
namespace Go.Proofs.YtfhifnhnkgdnlaaGreat
set_option maxRecDepth 100000
open Go.ChangeShapes Go.WideShapes Go.ChangeAt Go.RowKit

def IntsAt (w : World) (v : Value) (l : List Int) : Prop :=
  (v = .slice none 0 0 ∧ l = []) ∨
  ∃ a cap, v = .slice (some a) l.length cap ∧ l.length ≤ cap ∧ cap ≤ maxLen ∧ ∀ i, (h : i < l.length) → w.cell? (a.add i) = some (.int .i64 l[i])
theorem IntsAt.grown {w w1 : World} {v : Value} {l : List Int} (h : IntsAt w v l) (hg : w.grownBy w1 none) : IntsAt w1 v l := by
  rcases h with h | ⟨a, cap, rfl, h1, h2, h3⟩
  · exact .inl h
  · exact .inr ⟨a, cap, rfl, h1, h2, fun i hi => hg.cell (h3 i hi) (by simp)⟩
theorem IntsAt.cells {w : World} {v : Value} {l : List Int} (h : IntsAt w v l) (hp : 0 < l.length) :
    ∃ ab ao cap, v = .slice (some ⟨ab, ao, none⟩) l.length cap ∧ ∀ i, (h : i < l.length) → w.cell? ⟨ab, ao + i, none⟩ = some (.int .i64 l[i]) := by
  rcases h with ⟨_, rfl⟩ | ⟨⟨ab, ao, asp⟩, cap, rfl, _, _, h3⟩
  · cases hp
  · have h0 := h3 0 hp
    have hsp : asp = none := by simpa [Addr.add] using World.cell?_spot h0
    subst hsp
    refine ⟨ab, ao, cap, rfl, fun i hi => ?_⟩
    have := h3 i hi
    unfold Addr.add at this
    split at this
    · next h => subst h; simpa using this
    · simpa using this
section
variable {H : Type} {enc : TypeId × Value → H} {w : World} {base : Nat} {d : DataW H} {ps : List MemPlace} {v : Value} {t e : TypeId}
/-- a slice of numbers -/
theorem open_intlist (ht : Tryz.prog.underlying t = some (.slice e)) (he : Tryz.prog.underlying e = some (.int .i64)) (hc : Tryz.prog.cellsOf e = 1)
    (hval : Value.okWide Tryz.prog w .any base t v) (h : DataW.Trod enc Tryz.prog w 0 (fun _ => true) true t v d ps) :
    ∃ l : List Int, ∃ p c, v = .slice p l.length c ∧ IntsAt w v l := by
  obtain ⟨a0, len, cap, rfl⟩ := okWide_slice ht hval
  obtain ⟨fuel, hf⟩ := h
  rcases open_ints ht he hc hf with ⟨hcs, _⟩ | ⟨a, len', cap', zs, hcs, _, hl, hm, hz, _, hcell, _⟩
  · simp [Value.cells] at hcs
    obtain ⟨rfl, rfl, rfl⟩ := hcs
    exact ⟨[], none, 0, rfl, .inl ⟨rfl, rfl⟩⟩
  · simp [Value.cells] at hcs
    obtain ⟨rfl, rfl, rfl⟩ := hcs
    have hz' : zs.length = cap := by simpa using hz
    refine ⟨zs.take len, some a, cap, by simp; omega, .inr ⟨a, cap, by simp; omega, by simp; omega, hm, fun i hi => ?_⟩⟩
    simp at hi
    rw [hcell i (by omega)]
    simp [List.getD_eq_getElem?_getD, List.getElem?_eq_getElem (show i < zs.length by omega)]
end
end Go.Proofs.YtfhifnhnkgdnlaaGreat
end
