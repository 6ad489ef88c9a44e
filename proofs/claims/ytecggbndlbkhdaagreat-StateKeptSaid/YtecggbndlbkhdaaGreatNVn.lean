/-
  Contract: a new gate of a configuration that may be; none of one that may not. The condition: the configuration's parts are told as numbers.
-/
import Derived.Test.YtecggbndlbkhdaaGreatY23
import Derived.Test.YtecggbndlbkhdaaGreatY16
import Derived.Test.YtecggbndlbkhdaaGreatY25
import Derived.Deep.RegionHeld3
import Derived.LoopTactic
set_option linter.unusedSimpArgs false
set_option linter.unusedVariables false
namespace Go.Proofs.YtecggbndlbkhdaaGreat
set_option maxRecDepth 100000
open Go.RowKit

theorem info_gholder : (Tryz.prog.info? 227).map (fun i => (i.zero, i.size, i.bytes)) = some (some (.agg #[.int .u32 0, .pointer none, .pointer none]), 3, 24) := by kernel_rfl
def gCells (n : Nat) : Array Value := madeCells #[.int .u32 0, .pointer none, .pointer none] (n * 3)
theorem made_3 (a b c : Value) (m j : Nat) (h : j < m) : (madeCells #[a, b, c] m)[j]? = some (if j % 3 = 0 then a else if j % 3 = 1 then b else c) := by
  have : j % 3 = 0 ∨ j % 3 = 1 ∨ j % 3 = 2 := by omega
  rcases this with e | e | e <;> simp [madeCells, h, e]
theorem mk_gholders (n : Nat) (hn : n ≤ 16) (u : World) : (Instr.makeSlice 218 (.int .i64 (n : Int)) (.int .i64 (n : Int))).run Tryz.prog u = .ok (.slice (some ⟨u.heap.size, 0, none⟩) n n) (u.alloc (.cells (gCells n) 227)) := by
  obtain ⟨i, hi, hz0, hz1, hz2⟩ := info_parts info_gholder
  have := run_makeSlice (P := Tryz.prog) u 218 227 i _ Tryz.underlying218 hi hz0 .i64 .i64 (n : Int) (n : Int) (by omega) (Int.le_refl _) (by rw [hz1]; omega) (by rw [hz2]; omega) (by omega)
  rw [this, hz1]
  simp [gCells, Value.cells]

/-- a gate that is being made: of k windows each a block -/
def ptrTo (P : Nat → Nat) (k a : Nat) : Value := .pointer (if a < k then some ⟨P a, 0, none⟩ else none)
structure Nw (w0 : World) (bx gb rb rh hb : Nat) (c : Conf) (sd : BitVec 64) (n grace win met fresh : Nat) (P : Nat → Nat) (k : Nat) (w : World) : Prop where
  box : w.heap[bx]? = some (.cells c.cells 27)
  top : w.heap[gb]? = some (.cells #[.pointer (some ⟨rb, 0, none⟩), .slice (some ⟨hb, 0, none⟩) n n, .int .i64 (win : Int), .int .i64 (met : Int), .int .i64 (fresh : Int)] 220)
  ring : RgAt w rb rh (.new sd n grace)
  row : ∃ cs : Array Value, w.heap[hb]? = some (.cells cs 227) ∧ ∀ i, i < n → cs[i * 3]? = some (.int .u32 0) ∧ cs[i * 3 + 1]? = some (ptrTo P k (2 * i)) ∧ cs[i * 3 + 2]? = some (ptrTo P k (2 * i + 1))
  rep : ∀ a, a < k → RpAt w (P a) (.new win)
  ord : ∀ a b, a < b → b < k → P a < P b
  bel : ∀ a, a < k → bx < P a ∧ gb < P a ∧ rb < P a ∧ rh < P a ∧ hb < P a
  lo : w0.heap.size ≤ gb ∧ w0.heap.size ≤ rb ∧ w0.heap.size ≤ rh ∧ w0.heap.size ≤ hb
  g : w0.grownBy w none
section
variable {w0 w w1 : World} {bx gb rb rh hb : Nat} {c : Conf} {sd : BitVec 64} {n grace win met fresh : Nat} {P : Nat → Nat} {k nb : Nat}
theorem Nw.row_at (h : Nw w0 bx gb rb rh hb c sd n grace win met fresh P k w) : ∃ cs : Array Value, w.heap[hb]? = some (.cells cs 227) := by obtain ⟨cs, h1, _⟩ := h.row; exact ⟨cs, h1⟩
/-- one window more -/
theorem Nw.step (h : Nw w0 bx gb rb rh hb c sd n grace win met fresh P k w) (hg : w.grownBy w1 none) (hp : RpAt w1 nb (.new win)) (hn : w.heap.size ≤ nb) {i s : Nat} (hi : i < n) (hs : s < 2) (hk : k = 2 * i + s) :
    Nw w0 bx gb rb rh hb c sd n grace win met fresh (fun a => if a = k then nb else P a) (k + 1) (w1.setCell ⟨hb, i * 3 + 1 + s, none⟩ (.pointer (some ⟨nb, 0, none⟩))) := by
  obtain ⟨cs, r1, r2⟩ := h.row
  have hb1 := at_grown r1 hg (by simp)
  have e1 : bx ≠ hb := obj_ne h.box r1 (by decide)
  have e2 : gb ≠ hb := obj_ne h.top r1 (by decide)
  have e3 : rb ≠ hb := obj_ne h.ring.top r1 (by decide)
  obtain ⟨ds, k1, k2⟩ := h.ring.row
  have e4 : rh ≠ hb := obj_ne k1 r1 (by decide)
  have l1 := at_lt h.box; have l2 := at_lt h.top; have l3 := h.ring.lt; have l4 := at_lt r1
  have lP : ∀ a, a < k → P a < w.heap.size := fun a ha => (h.rep a ha).lt
  have eP : ∀ a, a < k → P a ≠ hb := fun a ha => by have := (h.bel a ha).2.2.2.2; omega
  have hc : Chg [hb] w1 (w1.setCell ⟨hb, i * 3 + 1 + s, none⟩ (.pointer (some ⟨nb, 0, none⟩))) := (chg_refl w1 [hb]).set (.inl (by simp)) _
  refine ⟨hc.at (at_grown h.box hg (by simp)) (by simpa using e1), hc.at (at_grown h.top hg (by simp)) (by simpa using e2), (h.ring.grown hg).chg hc (by simpa using e3) (by simpa using e4), ⟨_, at_set hb1 _ _, fun j hj => ?_⟩, fun a ha => ?_, fun a b hab hb' => ?_, fun a ha => ?_, h.lo, ?_⟩
  · obtain ⟨q1, q2, q3⟩ := r2 j hj
    obtain ⟨p1, p2, p3⟩ := r2 i hi
    have z2 := (Array.getElem?_eq_some_iff.1 p2).1
    have z3 := (Array.getElem?_eq_some_iff.1 p3).1
    simp only [Array.getElem?_setIfInBounds]
    have hsz : i * 3 + 1 + s < cs.size := by omega
    refine ⟨?_, ?_, ?_⟩
    · rw [if_neg (by omega)]; exact q1
    · by_cases e : i * 3 + 1 + s = j * 3 + 1
      · rw [if_pos e, if_pos hsz]
        have : 2 * j = k := by omega
        simp [ptrTo, this]
      · rw [if_neg e, q2]
        have hne : 2 * j ≠ k := by omega
        have e9 : (2 * j < k) = (2 * j < k + 1) := by apply propext; omega
        simp only [ptrTo, e9, if_neg hne]
    · by_cases e : i * 3 + 1 + s = j * 3 + 2
      · rw [if_pos e, if_pos hsz]
        have : 2 * j + 1 = k := by omega
        simp [ptrTo, this]
      · rw [if_neg e, q3]
        have hne : 2 * j + 1 ≠ k := by omega
        have e9 : (2 * j + 1 < k) = (2 * j + 1 < k + 1) := by apply propext; omega
        simp only [ptrTo, e9, if_neg hne]
  · by_cases e : a = k
    · rw [if_pos e]; exact hp.chg hc (by have h9 : nb ≠ hb := (by omega); simpa using h9)
    · rw [if_neg e]; exact ((h.rep a (by omega)).grown hg).chg hc (by simpa using eP a (by omega))
  · by_cases e : b = k
    · rw [if_neg (by omega), if_pos e]; have := lP a (by omega); omega
    · rw [if_neg (by omega), if_neg e]; exact h.ord a b hab (by omega)
  · by_cases e : a = k
    · rw [if_pos e]; omega
    · rw [if_neg e]; exact h.bel a (by omega)
  · exact gb_new (gb_trans h.g hg (.inl rfl)) h.lo.2.2.2 _
/-- all windows are there -/
def newF (gb rb rh hb n : Nat) (P : Nat → Nat) : List Nat := [gb, rb, rh, hb] ++ (List.range (2 * n)).map P
theorem Nw.done (h : Nw w0 bx gb rb rh hb c sd n grace win met fresh P (2 * n) w) (w1 : 1 ≤ win) (w2 : win ≤ 64) (m1 : 1 ≤ met) (m2 : met ≤ 4) (f1 : 1 ≤ fresh) (f2 : fresh ≤ 8) :
    GtAt w (newF gb rb rh hb n P) ⟨gb, rb, rh, hb, fun i => P (2 * i), fun i => P (2 * i + 1), fun _ => 0⟩ (.new sd n grace win met fresh) ∧ ∀ x ∈ newF gb rb rh hb n P, w0.heap.size ≤ x := by
  have inj : ∀ a b, a < 2 * n → b < 2 * n → P a = P b → a = b := fun a b ha hb' e => by
    rcases Nat.lt_trichotomy a b with hlt | rfl | hlt
    · have := h.ord a b hlt hb'; omega
    · rfl
    · have := h.ord b a hlt ha; omega
  have mP : ∀ a, a < 2 * n → P a ∈ newF gb rb rh hb n P := fun a ha => List.mem_append_right _ (List.mem_map.2 ⟨a, List.mem_range.2 ha, rfl⟩)
  obtain ⟨cs, r1, r2⟩ := h.row
  have mem : ∀ x ∈ newF gb rb rh hb n P, (x = gb ∨ x = rb ∨ x = rh ∨ x = hb) ∨ ∃ a, a < 2 * n ∧ P a = x := fun x hx => by
    rcases List.mem_append.1 hx with e | e
    · left; simpa using e
    · obtain ⟨a, ha, rfl⟩ := List.mem_map.1 e; exact .inr ⟨a, List.mem_range.1 ha, rfl⟩
  refine ⟨⟨h.top, h.ring, ⟨cs, r1, fun i hi => ?_⟩, fun _ => ⟨Int.le_refl _, by show (0 : Int) < _; decide⟩, fun i hi => h.rep _ (by have : i < n := hi; omega), fun i hi => h.rep _ (by have : i < n := hi; omega),
    fun i j hi hj e => ?_, fun i j hi hj e => ?_, fun i j hi hj e => ?_, by simp [newF], by simp [newF], by simp [newF], by simp [newF], fun i hi => mP _ (by have : i < n := hi; omega), fun i hi => mP _ (by have : i < n := hi; omega), fun x hx => ?_, ⟨w1, w2, m1, m2, f1, f2, fun _ => rfl, fun _ => rfl⟩⟩, fun x hx => ?_⟩
  · have hi' : i < n := hi
    obtain ⟨q1, q2, q3⟩ := r2 i hi'
    refine ⟨q1, ?_, ?_⟩
    · rw [q2]; simp [ptrTo, side, hi', show 2 * i < 2 * n by omega]
    · rw [q3]; simp [ptrTo, side, hi', show 2 * i + 1 < 2 * n by omega]
  · have hi' : i < n := hi; have hj' : j < n := hj
    have := inj _ _ (by omega) (by omega) e; omega
  · have hi' : i < n := hi; have hj' : j < n := hj
    have := inj _ _ (by omega) (by omega) e; omega
  · have hi' : i < n := hi; have hj' : j < n := hj
    have := inj _ _ (by omega) (by omega) e; omega
  · rcases mem x hx with (rfl | rfl | rfl | rfl) | ⟨a, ha, rfl⟩
    · exact at_lt h.top
    · exact h.ring.lt.1
    · exact h.ring.lt.2
    · exact at_lt r1
    · exact (h.rep a ha).lt
  · rcases mem x hx with (rfl | rfl | rfl | rfl) | ⟨a, ha, rfl⟩
    · exact h.lo.1
    · exact h.lo.2.1
    · exact h.lo.2.2.1
    · exact h.lo.2.2.2
    · have := (h.bel a ha).2.1; have := h.lo.1; omega
end
/-- a new gate -/
def MadeG (w : World) (G : Gt) (e : Ending) (w' : World) : Prop := ∃ F B, e = .returned (.pointer (some ⟨B.g, 0, none⟩)) ∧ GtAt w' F B G ∧ w.grownBy w' none ∧ ∀ x ∈ F, w.heap.size ≤ x
set_option maxHeartbeats 6400000 in
theorem gnew_ok (c : Conf) (sd : BitVec 64) (n grace win met fresh : Nat) (hM : st22 c = none) (en : c.n = n) (eg : c.grace = grace) (ew : c.window = win) (em : c.m = met) (ef : c.fresh = fresh) (es : c.seed = q sd)
    (n1 : 1 ≤ n) (n2 : n ≤ 16) (g1 : 1 ≤ grace) (g2 : grace ≤ 100) (w1 : 1 ≤ win) (w2 : win ≤ 64) (m1 : 1 ≤ met) (m2 : met ≤ 4) (f1 : 1 ≤ fresh) (f2 : fresh ≤ 8) (w : World) :
    Calls Tryz.prog 57 #[cf c] w (MadeG w (.new sd n grace win met fresh)) := by
  have CM := hid (fun u => cmay_any c u)
  rw [hM] at CM
  rw [show ((none : Option ByteArray).getD ⟨#[]⟩).toList.isEmpty = true by decide +kernel] at CM
  have B0 := hid (boxc_new w c)
  have CN := hid (fun u => rnew_ok sd n grace n1 n2 g1 g2 u)
  have CP := hid (fun u => pnew_ok win w1 w2 u)
  have hmk := mk_gholders n n2
  have HW := hid (And.intro w1 (And.intro w2 (And.intro m1 (And.intro m2 (And.intro f1 f2)))))
  have HC := hid (show ∀ (u : World) (b : Nat), u.heap[b]? = some (Obj.cells c.cells 27) → u.cell? ⟨b, 0, none⟩ = some (Value.int IntKind.i64 (n : Int)) ∧ u.cell? ⟨b, 2, none⟩ = some (Value.int IntKind.i64 (met : Int)) ∧ u.cell? ⟨b, 4, none⟩ = some (Value.int IntKind.i64 (fresh : Int)) ∧ u.cell? ⟨b, 5, none⟩ = some (Value.int IntKind.i64 (grace : Int)) ∧ u.cell? ⟨b, 6, none⟩ = some (Value.int IntKind.i64 (win : Int)) ∧ u.cell? ⟨b, 25, none⟩ = some (Value.int IntKind.u64 (q sd)) from fun u b h => ⟨(at_cell h 0).trans (by rw [← en]; rfl), (at_cell h 2).trans (by rw [← em]; rfl), (at_cell h 4).trans (by rw [← ef]; rfl), (at_cell h 5).trans (by rw [← eg]; rfl), (at_cell h 6).trans (by rw [← ew]; rfl), (at_cell h 25).trans (by rw [← es]; rfl)⟩)
  clear hM en eg ew em ef es w1 w2 m1 m2 f1 f2 g1 g2
  go_enter Tryz.func57, Tryz.ntmps57
  go_wp2_with (refine wpList_conf B0.out.box rfl rfl rfl rfl ?_)
  refine (CM.out _).mono ?_
  rintro e w1 ⟨rfl, hg⟩
  have B1 := hid (B0.out.grown hg); clear hg B0 CM
  have lx := Nat.le_refl w.heap.size
  go_upto_region 3 with fail
  refine wp_region_held_drew (S := (fun w' => (BoxC w c w'))) (by kernel_rfl) B1.out.drew (fun hHeld => ?_)
  try dsimp only at hHeld
  refine' wpAnyH_take (i := 0) (v := _) rfl (by kernel_rfl) (by kernel_rfl) (by kernel_rfl) (fun _ _ _ h => h) (Or.inl ⟨by rfl, ?_⟩) hHeld ?_
  rotate_left
  · (intro w hSw; (try dsimp only at hSw); go_simp; try with_reducible rfl)
  try simp only [Act.put, List.setIfInBounds_toArray, List.set_cons_zero, List.set_cons_succ, List.getElem_toArray, List.getElem_cons_succ, List.getElem_cons_zero]
  refine' wpAnyH_take (i := 1) (v := _) rfl (by kernel_rfl) (by kernel_rfl) (by kernel_rfl) (fun _ _ _ h => h) (Or.inl ⟨by rfl, ?_⟩) hHeld ?_
  rotate_left
  · (intro w hSw; (try dsimp only at hSw); have bb := hSw; obtain ⟨c0, c2, c4, c5, c6, c25⟩ := HC.out _ _ bb.box; go_simp; try with_reducible rfl)
  try simp only [Act.put, List.setIfInBounds_toArray, List.set_cons_zero, List.set_cons_succ, List.getElem_toArray, List.getElem_cons_succ, List.getElem_cons_zero]
  refine' wpAnyH_take (i := 2) (v := _) rfl (by kernel_rfl) (by kernel_rfl) (by kernel_rfl) (fun _ _ _ h => h) (Or.inl ⟨by rfl, ?_⟩) hHeld ?_
  rotate_left
  · (intro w hSw; (try dsimp only at hSw); go_simp; try with_reducible rfl)
  try simp only [Act.put, List.setIfInBounds_toArray, List.set_cons_zero, List.set_cons_succ, List.getElem_toArray, List.getElem_cons_succ, List.getElem_cons_zero]
  refine' wpAnyH_take (i := 3) (v := _) rfl (by kernel_rfl) (by kernel_rfl) (by kernel_rfl) (fun _ _ _ h => h) (Or.inl ⟨by rfl, ?_⟩) hHeld ?_
  rotate_left
  · (intro w hSw; (try dsimp only at hSw); have bb := hSw; obtain ⟨c0, c2, c4, c5, c6, c25⟩ := HC.out _ _ bb.box; go_simp; try with_reducible rfl)
  try simp only [Act.put, List.setIfInBounds_toArray, List.set_cons_zero, List.set_cons_succ, List.getElem_toArray, List.getElem_cons_succ, List.getElem_cons_zero]
  refine' wpAnyH_take (i := 4) (v := _) rfl (by kernel_rfl) (by kernel_rfl) (by kernel_rfl) (fun _ _ _ h => h) (Or.inl ⟨by rfl, ?_⟩) hHeld ?_
  rotate_left
  · (intro w hSw; (try dsimp only at hSw); go_simp; try with_reducible rfl)
  try simp only [Act.put, List.setIfInBounds_toArray, List.set_cons_zero, List.set_cons_succ, List.getElem_toArray, List.getElem_cons_succ, List.getElem_cons_zero]
  refine' wpAnyH_take (i := 5) (v := _) rfl (by kernel_rfl) (by kernel_rfl) (by kernel_rfl) (fun _ _ _ h => h) (Or.inl ⟨by rfl, ?_⟩) hHeld ?_
  rotate_left
  · (intro w hSw; (try dsimp only at hSw); have bb := hSw; obtain ⟨c0, c2, c4, c5, c6, c25⟩ := HC.out _ _ bb.box; go_simp; try with_reducible rfl)
  try simp only [Act.put, List.setIfInBounds_toArray, List.set_cons_zero, List.set_cons_succ, List.getElem_toArray, List.getElem_cons_succ, List.getElem_cons_zero]
  refine' wpAnyH_take (i := 7) (v := _) rfl (by kernel_rfl) (by kernel_rfl) (by kernel_rfl) (fun _ _ _ h => h) (Or.inl ⟨by rfl, ?_⟩) hHeld ?_
  rotate_left
  · (intro w hSw; (try dsimp only at hSw); go_simp; try with_reducible rfl)
  try simp only [Act.put, List.setIfInBounds_toArray, List.set_cons_zero, List.set_cons_succ, List.getElem_toArray, List.getElem_cons_succ, List.getElem_cons_zero]
  refine' wpAnyH_take (i := 8) (v := _) rfl (by kernel_rfl) (by kernel_rfl) (by kernel_rfl) (fun _ _ _ h => h) (Or.inl ⟨by rfl, ?_⟩) hHeld ?_
  rotate_left
  · (intro w hSw; (try dsimp only at hSw); have bb := hSw; obtain ⟨c0, c2, c4, c5, c6, c25⟩ := HC.out _ _ bb.box; go_simp; try with_reducible rfl)
  try simp only [Act.put, List.setIfInBounds_toArray, List.set_cons_zero, List.set_cons_succ, List.getElem_toArray, List.getElem_cons_succ, List.getElem_cons_zero]
  refine' wpAnyH_take (i := 10) (v := _) rfl (by kernel_rfl) (by kernel_rfl) (by kernel_rfl) (fun _ _ _ h => h) (Or.inl ⟨by rfl, ?_⟩) hHeld ?_
  rotate_left
  · (intro w hSw; (try dsimp only at hSw); go_simp; try with_reducible rfl)
  try simp only [Act.put, List.setIfInBounds_toArray, List.set_cons_zero, List.set_cons_succ, List.getElem_toArray, List.getElem_cons_succ, List.getElem_cons_zero]
  refine' wpAnyH_take (i := 11) (v := _) rfl (by kernel_rfl) (by kernel_rfl) (by kernel_rfl) (fun _ _ _ h => h) (Or.inl ⟨by rfl, ?_⟩) hHeld ?_
  rotate_left
  · (intro w hSw; (try dsimp only at hSw); have bb := hSw; obtain ⟨c0, c2, c4, c5, c6, c25⟩ := HC.out _ _ bb.box; go_simp; try with_reducible rfl)
  try simp only [Act.put, List.setIfInBounds_toArray, List.set_cons_zero, List.set_cons_succ, List.getElem_toArray, List.getElem_cons_succ, List.getElem_cons_zero]
  refine' wpAnyH_take (i := 12) (v := _) rfl (by kernel_rfl) (by kernel_rfl) (by kernel_rfl) (fun _ _ _ h => h) (Or.inl ⟨by rfl, ?_⟩) hHeld ?_
  rotate_left
  · (intro w hSw; (try dsimp only at hSw); go_simp; try with_reducible rfl)
  try simp only [Act.put, List.setIfInBounds_toArray, List.set_cons_zero, List.set_cons_succ, List.getElem_toArray, List.getElem_cons_succ, List.getElem_cons_zero]
  refine' wpAnyH_take (i := 13) (v := _) rfl (by kernel_rfl) (by kernel_rfl) (by kernel_rfl) (fun _ _ _ h => h) (Or.inl ⟨by rfl, ?_⟩) hHeld ?_
  rotate_left
  · (intro w hSw; (try dsimp only at hSw); have bb := hSw; obtain ⟨c0, c2, c4, c5, c6, c25⟩ := HC.out _ _ bb.box; go_simp; try with_reducible rfl)
  try simp only [Act.put, List.setIfInBounds_toArray, List.set_cons_zero, List.set_cons_succ, List.getElem_toArray, List.getElem_cons_succ, List.getElem_cons_zero]
  refine' wpAnyH_take (i := 14) (v := _) rfl (by kernel_rfl) (by kernel_rfl) (by kernel_rfl) (fun _ _ _ h => h) (Or.inl ⟨by rfl, ?_⟩) hHeld ?_
  rotate_left
  · (intro w hSw; (try dsimp only at hSw); go_simp; try with_reducible rfl)
  try simp only [Act.put, List.setIfInBounds_toArray, List.set_cons_zero, List.set_cons_succ, List.getElem_toArray, List.getElem_cons_succ, List.getElem_cons_zero]
  refine' wpAnyH_take (i := 15) (v := _) rfl (by kernel_rfl) (by kernel_rfl) (by kernel_rfl) (fun _ _ _ h => h) (Or.inl ⟨by rfl, ?_⟩) hHeld ?_
  rotate_left
  · (intro w hSw; (try dsimp only at hSw); have bb := hSw; obtain ⟨c0, c2, c4, c5, c6, c25⟩ := HC.out _ _ bb.box; go_simp; try with_reducible rfl)
  try simp only [Act.put, List.setIfInBounds_toArray, List.set_cons_zero, List.set_cons_succ, List.getElem_toArray, List.getElem_cons_succ, List.getElem_cons_zero]
  refine wpAnyH_ready (rs := [6, 9]) (by kernel_rfl) (by simp) ?_
  refine AllReadyH.cons (o := _) rfl (fun K hK => ?_) (AllReadyH.cons (o := _) rfl (fun K hK => ?_) AllReadyH.nil)
  · try simp only [List.getElem_toArray, List.getElem_cons_succ, List.getElem_cons_zero]
    go_simp
    have hH2 := hHeld
    have bb := hH2
    refine (CN.out _).mono ?_
    rintro e w1006 ⟨rb, rh, rfl, hr, hg, lrb0, lrh0⟩
    have LRB : Hid (w.heap.size ≤ rb) := hid (Nat.le_trans (gb_size bb.g) lrb0); have LRH : Hid (w.heap.size ≤ rh) := hid (Nat.le_trans (gb_size bb.g) lrh0); clear lrb0 lrh0
    have L6 := hid (show (BoxC w c w1006) from bb.grown hg)
    have Nrr := hid (show RgAt w1006 rb rh (.new sd n grace) from hr)
    clear hHeld hg bb
    go_wp2_with fail
    refine hK.out _ _ ?_ (fun hHeld => ?_)
    · exact L6.out
    clear hK K
    try dsimp only at hHeld
    try simp only [Act.put, List.setIfInBounds_toArray, List.set_cons_zero, List.set_cons_succ, List.getElem_toArray, List.getElem_cons_succ, List.getElem_cons_zero]
    refine held_stronger (S' := fun w' => (fun w' => RgAt w' rb rh (.new sd n grace)) w' ∧ ((fun w' => (BoxC w c w'))) w') (fun _ h => h.2) _ _ _ _ ?_
    replace hHeld := And.intro Nrr.out hHeld
    try dsimp only at hHeld
    refine wpAnyH_ready (rs := [9]) (by kernel_rfl) (by simp) ?_
    refine AllReadyH.cons (o := _) rfl (fun K hK => ?_) AllReadyH.nil
    have hH2 := hHeld
    obtain ⟨rr, bb⟩ := hH2
    have hg : w1006.grownBy (w1006.alloc (.cells (gCells n) 227)) none := World.grownBy_alloc _ _ _
    obtain ⟨hb, hhb⟩ : ∃ hb, w1006.heap.size = hb := ⟨_, rfl⟩
    have lhb : w.heap.size < hb := hhb ▸ at_lt bb.box
    have L9 := hid (show (RgAt (w1006.alloc (.cells (gCells n) 227)) rb rh (.new sd n grace)) ∧ (BoxC w c (w1006.alloc (.cells (gCells n) 227))) from ⟨rr.grown hg, bb.grown hg⟩)
    have Nhh := hid (show (w1006.alloc (.cells (gCells n) 227)).heap[hb]? = some (.cells (gCells n) 227) from hhb ▸ at_new w1006 _)
    clear hHeld hg rr bb
    try simp only [List.getElem_toArray, List.getElem_cons_succ, List.getElem_cons_zero]
    go_simp
    refine hK.out _ _ ?_ (fun hHeld => ?_)
    · exact L9.out
    clear hK K
    try dsimp only at hHeld
    try simp only [Act.put, List.setIfInBounds_toArray, List.set_cons_zero, List.set_cons_succ, List.getElem_toArray, List.getElem_cons_succ, List.getElem_cons_zero]
    refine held_stronger (S' := fun w' => (fun w' => w'.heap[hb]? = some (.cells (gCells n) 227)) w' ∧ ((fun w' => (RgAt w' rb rh (.new sd n grace)) ∧ (BoxC w c w'))) w') (fun _ h => h.2) _ _ _ _ ?_
    replace hHeld := And.intro Nhh.out hHeld
    try dsimp only at hHeld
    refine' wpAnyH_take (i := 16) (v := _) rfl (by kernel_rfl) (by kernel_rfl) (by kernel_rfl) (fun _ _ _ h => h) (Or.inl ⟨by rfl, ?_⟩) hHeld ?_
    rotate_left
    · (intro w hSw; (try dsimp only at hSw); go_simp; try with_reducible rfl)
    try simp only [Act.put, List.setIfInBounds_toArray, List.set_cons_zero, List.set_cons_succ, List.getElem_toArray, List.getElem_cons_succ, List.getElem_cons_zero]
    refine wpAnyH_ready (rs := [17]) (by kernel_rfl) (by simp) ?_
    refine AllReadyH.cons (o := _) rfl (fun K hK => ?_) AllReadyH.nil
    have hH2 := hHeld
    obtain ⟨hh, rr, bb⟩ := hH2
    have hg : (w1006.alloc (.cells (gCells n) 227)).grownBy ((w1006.alloc (.cells (gCells n) 227)).alloc (.cells #[.pointer (some ⟨rb, 0, none⟩), .slice (some ⟨hb, 0, none⟩) n n, .int .i64 (win : Int), .int .i64 (met : Int), .int .i64 (fresh : Int)] 220)) none := World.grownBy_alloc _ _ _
    obtain ⟨gb, hgb⟩ : ∃ gb, (w1006.alloc (.cells (gCells n) 227)).heap.size = gb := ⟨_, rfl⟩
    have lgb : w.heap.size < gb := hgb ▸ at_lt bb.box
    have L17 := hid (show (((w1006.alloc (.cells (gCells n) 227)).alloc (.cells #[.pointer (some ⟨rb, 0, none⟩), .slice (some ⟨hb, 0, none⟩) n n, .int .i64 (win : Int), .int .i64 (met : Int), .int .i64 (fresh : Int)] 220)).heap[hb]? = some (.cells (gCells n) 227)) ∧ (RgAt ((w1006.alloc (.cells (gCells n) 227)).alloc (.cells #[.pointer (some ⟨rb, 0, none⟩), .slice (some ⟨hb, 0, none⟩) n n, .int .i64 (win : Int), .int .i64 (met : Int), .int .i64 (fresh : Int)] 220)) rb rh (.new sd n grace)) ∧ (BoxC w c ((w1006.alloc (.cells (gCells n) 227)).alloc (.cells #[.pointer (some ⟨rb, 0, none⟩), .slice (some ⟨hb, 0, none⟩) n n, .int .i64 (win : Int), .int .i64 (met : Int), .int .i64 (fresh : Int)] 220))) from ⟨at_grown hh hg (by simp), rr.grown hg, bb.grown hg⟩)
    have Ngg := hid (show ((w1006.alloc (.cells (gCells n) 227)).alloc (.cells #[.pointer (some ⟨rb, 0, none⟩), .slice (some ⟨hb, 0, none⟩) n n, .int .i64 (win : Int), .int .i64 (met : Int), .int .i64 (fresh : Int)] 220)).heap[gb]? = some (.cells #[.pointer (some ⟨rb, 0, none⟩), .slice (some ⟨hb, 0, none⟩) n n, .int .i64 (win : Int), .int .i64 (met : Int), .int .i64 (fresh : Int)] 220) from hgb ▸ at_new (w1006.alloc (.cells (gCells n) 227)) _)
    clear hHeld hg hh rr bb
    try simp only [List.getElem_toArray, List.getElem_cons_succ, List.getElem_cons_zero]
    go_simp
    refine hK.out _ _ ?_ (fun hHeld => ?_)
    · exact L17.out
    clear hK K
    try dsimp only at hHeld
    try simp only [Act.put, List.setIfInBounds_toArray, List.set_cons_zero, List.set_cons_succ, List.getElem_toArray, List.getElem_cons_succ, List.getElem_cons_zero]
    refine held_stronger (S' := fun w' => (fun w' => w'.heap[gb]? = some (.cells #[.pointer (some ⟨rb, 0, none⟩), .slice (some ⟨hb, 0, none⟩) n n, .int .i64 (win : Int), .int .i64 (met : Int), .int .i64 (fresh : Int)] 220)) w' ∧ ((fun w' => (w'.heap[hb]? = some (.cells (gCells n) 227)) ∧ (RgAt w' rb rh (.new sd n grace)) ∧ (BoxC w c w'))) w') (fun _ h => h.2) _ _ _ _ ?_
    replace hHeld := And.intro Ngg.out hHeld
    try dsimp only at hHeld
    refine' wpAnyH_take (i := 18) (v := _) rfl (by kernel_rfl) (by kernel_rfl) (by kernel_rfl) (fun _ _ _ h => h) (Or.inl ⟨by rfl, ?_⟩) hHeld ?_
    rotate_left
    · (intro w hSw; (try dsimp only at hSw); go_simp; try with_reducible rfl)
    try simp only [Act.put, List.setIfInBounds_toArray, List.set_cons_zero, List.set_cons_succ, List.getElem_toArray, List.getElem_cons_succ, List.getElem_cons_zero]
    refine wpAnyH_done (by kernel_rfl) ?_ _
    obtain ⟨gg, hh, rr, bb⟩ := hHeld
    refine exit_gen (fun wx => Nw w w.heap.size gb rb rh hb c sd n grace win met fresh (fun _ => 0) 0 wx) ⟨bb.box, gg, rr, ⟨_, hh, fun i hi => ⟨(made_3 _ _ _ _ _ (by omega)).trans (by simp), (made_3 _ _ _ _ _ (by omega)).trans (by rw [if_neg (by omega), if_pos (by omega)]; rfl), (made_3 _ _ _ _ _ (by omega)).trans (by rw [if_neg (by omega), if_neg (by omega)]; rfl)⟩⟩, fun a ha => absurd ha (Nat.not_lt_zero a), fun a b _ hb' => absurd hb' (Nat.not_lt_zero b), fun a ha => absurd ha (Nat.not_lt_zero a), ⟨Nat.le_of_lt lgb, LRB.out, LRH.out, Nat.le_of_lt lhb⟩, bb.g⟩ ?_
    clear bb gg rr hh
    intro w2 h2
    have K2 := hid h2; clear h2 B1 lhb lgb LRB LRH hmk CN lx
    generalize w.heap.size = bx0 at K2 ⊢
    have t1 : w2.cell? ⟨gb, 1, none⟩ = some (.slice (some ⟨hb, 0, none⟩) n n) := at_cell K2.out.top 1
    go_wp2_with fail
    clear t1
    go_loopw [32] (fun i wr => ∃ (k : Nat) (P : Nat → Nat), k ≤ n ∧ i = .int .i64 (k : Int) ∧ Nw w bx0 gb rb rh hb c sd n grace win met fresh P (2 * k) wr) (fun i _ => n - (intOf i).toNat)
    case atStart => exact ⟨0, _, Nat.zero_le _, rfl, K2.out⟩
    case round =>
      obtain ⟨k, P, hk, rfl, hN⟩ := hrel
      have K3 := hid hN; clear hN K2
      by_cases hlt : k < n
      · have q0 : (k : Int) < (n : Int) := by omega
        have q1 : (0 : Int) ≤ (k : Int) := by omega
        have s1 : IntKind.i64.wrap ((k : Int) + 1) = (k : Int) + 1 := IntWalk.i64_in _ (by omega)
        go_wp2_with fail
        go_loopw [35] (fun j wr => ∃ (s : Nat) (P : Nat → Nat), s ≤ 2 ∧ j = .int .i64 (s : Int) ∧ Nw w bx0 gb rb rh hb c sd n grace win met fresh P (2 * k + s) wr) (fun j _ => 2 - (intOf j).toNat)
        case atStart => exact ⟨0, P, by omega, rfl, K3.out⟩
        case round =>
          obtain ⟨s, P2, hs, rfl, hN⟩ := hrel
          have K4 := hid hN; clear hN K3
          rcases (by omega : s = 0 ∨ s = 1 ∨ s = 2) with rfl | rfl | rfl
          · go_wp2_with fail
            refine wp_region_held_drew (S := (fun w' => w'.heap[gb]? = some (.cells #[.pointer (some ⟨rb, 0, none⟩), .slice (some ⟨hb, 0, none⟩) n n, .int .i64 (win : Int), .int .i64 (met : Int), .int .i64 (fresh : Int)] 220) ∧ w'.heap[bx0]? = some (.cells c.cells 27))) (by kernel_rfl) ⟨K4.out.top, K4.out.box⟩ (fun hHeld => ?_)
            try dsimp only at hHeld
            refine' wpAnyH_take (i := 0) (v := _) rfl (by kernel_rfl) (by kernel_rfl) (by kernel_rfl) (fun _ _ _ h => h) (Or.inl ⟨by rfl, ?_⟩) hHeld ?_
            rotate_left
            · (intro w hSw; (try dsimp only at hSw); go_simp; try with_reducible rfl)
            try simp only [Act.put, List.setIfInBounds_toArray, List.set_cons_zero, List.set_cons_succ, List.getElem_toArray, List.getElem_cons_succ, List.getElem_cons_zero]
            refine' wpAnyH_take (i := 1) (v := _) rfl (by kernel_rfl) (by kernel_rfl) (by kernel_rfl) (fun _ _ _ h => h) (Or.inl ⟨by rfl, ?_⟩) hHeld ?_
            rotate_left
            · (intro w hSw; (try dsimp only at hSw); go_simp; try with_reducible rfl)
            try simp only [Act.put, List.setIfInBounds_toArray, List.set_cons_zero, List.set_cons_succ, List.getElem_toArray, List.getElem_cons_succ, List.getElem_cons_zero]
            refine' wpAnyH_take (i := 2) (v := _) rfl (by kernel_rfl) (by kernel_rfl) (by kernel_rfl) (fun _ _ _ h => h) (Or.inl ⟨by rfl, ?_⟩) hHeld ?_
            rotate_left
            · (intro w hSw; (try dsimp only at hSw); go_simp; try with_reducible rfl)
            try simp only [Act.put, List.setIfInBounds_toArray, List.set_cons_zero, List.set_cons_succ, List.getElem_toArray, List.getElem_cons_succ, List.getElem_cons_zero]
            refine' wpAnyH_take (i := 3) (v := _) rfl (by kernel_rfl) (by kernel_rfl) (by kernel_rfl) (fun _ _ _ h => h) (Or.inl ⟨by rfl, ?_⟩) hHeld ?_
            rotate_left
            · (intro w hSw; (try dsimp only at hSw); obtain ⟨g1, g2⟩ := hSw; have t1 : w.cell? ⟨gb, 1, none⟩ = some (Value.slice (some ⟨hb, 0, none⟩) n n) := at_cell g1 1; go_simp; try with_reducible rfl)
            try simp only [Act.put, List.setIfInBounds_toArray, List.set_cons_zero, List.set_cons_succ, List.getElem_toArray, List.getElem_cons_succ, List.getElem_cons_zero]
            refine' wpAnyH_take (i := 4) (v := _) rfl (by kernel_rfl) (by kernel_rfl) (by kernel_rfl) (fun _ _ _ h => h) (Or.inl ⟨by rfl, ?_⟩) hHeld ?_
            rotate_left
            · (intro w hSw; (try dsimp only at hSw); go_simp; try with_reducible rfl)
            try simp only [Act.put, List.setIfInBounds_toArray, List.set_cons_zero, List.set_cons_succ, List.getElem_toArray, List.getElem_cons_succ, List.getElem_cons_zero]
            refine' wpAnyH_take (i := 5) (v := _) rfl (by kernel_rfl) (by kernel_rfl) (by kernel_rfl) (fun _ _ _ h => h) (Or.inl ⟨by rfl, ?_⟩) hHeld ?_
            rotate_left
            · (intro w hSw; (try dsimp only at hSw); go_simp; try with_reducible rfl)
            try simp only [Act.put, List.setIfInBounds_toArray, List.set_cons_zero, List.set_cons_succ, List.getElem_toArray, List.getElem_cons_succ, List.getElem_cons_zero]
            refine' wpAnyH_take (i := 6) (v := _) rfl (by kernel_rfl) (by kernel_rfl) (by kernel_rfl) (fun _ _ _ h => h) (Or.inl ⟨by rfl, ?_⟩) hHeld ?_
            rotate_left
            · (intro w hSw; (try dsimp only at hSw); go_simp; try with_reducible rfl)
            try simp only [Act.put, List.setIfInBounds_toArray, List.set_cons_zero, List.set_cons_succ, List.getElem_toArray, List.getElem_cons_succ, List.getElem_cons_zero]
            refine' wpAnyH_take (i := 7) (v := _) rfl (by kernel_rfl) (by kernel_rfl) (by kernel_rfl) (fun _ _ _ h => h) (Or.inl ⟨by rfl, ?_⟩) hHeld ?_
            rotate_left
            · (intro w hSw; (try dsimp only at hSw); obtain ⟨g1, g2⟩ := hSw; obtain ⟨c0, c2, c4, c5, c6, c25⟩ := HC.out _ _ g2; go_simp; try with_reducible rfl)
            try simp only [Act.put, List.setIfInBounds_toArray, List.set_cons_zero, List.set_cons_succ, List.getElem_toArray, List.getElem_cons_succ, List.getElem_cons_zero]
            refine' wpAnyH_take (i := 9) (v := _) rfl (by kernel_rfl) (by kernel_rfl) (by kernel_rfl) (fun _ _ _ h => h) (Or.inl ⟨by rfl, ?_⟩) hHeld ?_
            rotate_left
            · (intro w hSw; (try dsimp only at hSw); go_simp; try with_reducible rfl)
            try simp only [Act.put, List.setIfInBounds_toArray, List.set_cons_zero, List.set_cons_succ, List.getElem_toArray, List.getElem_cons_succ, List.getElem_cons_zero]
            refine' wpAnyH_take (i := 10) (v := _) rfl (by kernel_rfl) (by kernel_rfl) (by kernel_rfl) (fun _ _ _ h => h) (Or.inl ⟨by rfl, ?_⟩) hHeld ?_
            rotate_left
            · (intro w hSw; (try dsimp only at hSw); go_simp; try with_reducible rfl)
            try simp only [Act.put, List.setIfInBounds_toArray, List.set_cons_zero, List.set_cons_succ, List.getElem_toArray, List.getElem_cons_succ, List.getElem_cons_zero]
            refine wpAnyH_ready (rs := [8]) (by kernel_rfl) (by simp) ?_
            refine AllReadyH.cons (o := _) rfl (fun K hK => ?_) AllReadyH.nil
            try simp only [List.getElem_toArray, List.getElem_cons_succ, List.getElem_cons_zero]
            go_simp
            refine (CP.out _).mono ?_
            rintro e w5 ⟨nb, rfl, hp, hg, hsz⟩
            have KK := hid (K4.out.step (P := P2) (i := k) (s := 0) (gb_trans (gb_drew (World.grownBy.refl _ none)) hg (.inl rfl)) hp hsz hlt (by omega) rfl)
            obtain ⟨cs5, hr5⟩ := K4.out.row_at
            have hr6 := at_grown (at_drew hr5) hg (by simp)
            have zz5 : (cs5[k * 3 + 1]?).isSome = true := by obtain ⟨ds, d1, d2⟩ := K4.out.row; rw [hr5] at d1; cases d1; have d3 := d2 k hlt; first | rw [d3.2.1]; rfl | rw [d3.2.2]; rfl
            obtain ⟨y5, hy5⟩ := Option.isSome_iff_exists.1 zz5
            have c3 : w5.cell? ⟨hb, k * 3 + 1, none⟩ = some y5 := (at_cell hr6 _).trans hy5
            have f3 : w5.frozen? ⟨hb, k * 3 + 1, none⟩ = false := at_free hr6 _
            have top5 := hid (at_grown (at_drew K4.out.top) hg (by simp))
            have lhs5 : w5.heap[bx0]? = some (.cells c.cells 27) := at_grown (at_drew K4.out.box) hg (by simp)
            clear hr5 hr6 zz5 hy5 hp hg hsz
            go_wp2_with fail
            refine hK.out _ _ ?_ (fun hHeld => ?_)
            · exact ⟨top5.out, lhs5⟩
            clear hK K
            try dsimp only at hHeld
            try simp only [Act.put, List.setIfInBounds_toArray, List.set_cons_zero, List.set_cons_succ, List.getElem_toArray, List.getElem_cons_succ, List.getElem_cons_zero]
            refine' wpAnyH_take (i := 11) (v := _) rfl (by kernel_rfl) (by kernel_rfl) (by kernel_rfl) (fun _ _ _ h => h) (Or.inl ⟨by rfl, ?_⟩) hHeld ?_
            rotate_left
            · (intro w hSw; (try dsimp only at hSw); go_simp; try with_reducible rfl)
            try simp only [Act.put, List.setIfInBounds_toArray, List.set_cons_zero, List.set_cons_succ, List.getElem_toArray, List.getElem_cons_succ, List.getElem_cons_zero]
            have hne6 : gb ≠ hb := by obtain ⟨ds, d1, d2⟩ := K4.out.row; exact obj_ne K4.out.top d1 (by decide)
            have hne7 : bx0 ≠ hb := by obtain ⟨ds, d1, d2⟩ := K4.out.row; exact obj_ne K4.out.box d1 (by decide)
            have S6 := hid (And.intro (at_set_other (p := ⟨hb, k * 3 + 1, none⟩) top5.out hne6 (.pointer (some ⟨nb, 0, none⟩))) (at_set_other (p := ⟨hb, k * 3 + 1, none⟩) lhs5 hne7 (.pointer (some ⟨nb, 0, none⟩))))
            clear hne6 hne7 lhs5 top5 hHeld
            refine wpAnyH_ready (rs := [12]) (by kernel_rfl) (by simp) ?_
            refine AllReadyH.cons (o := _) rfl (fun K hK => ?_) AllReadyH.nil
            try simp only [List.getElem_toArray, List.getElem_cons_succ, List.getElem_cons_zero]
            go_simp
            refine hK.out _ _ ?_ (fun hHeld => ?_)
            · exact S6.out
            clear hK K S6
            try dsimp only at hHeld
            try simp only [Act.put, List.setIfInBounds_toArray, List.set_cons_zero, List.set_cons_succ, List.getElem_toArray, List.getElem_cons_succ, List.getElem_cons_zero]
            refine wpAnyH_done (by kernel_rfl) ?_ _
            clear hHeld c3 f3
            go_wp2_with fail
            go_roundw
            case rel => exact ⟨1, _, by omega, rfl, KK.out⟩
            case measure => simp [intOf]
          · go_wp2_with fail
            refine wp_region_held_drew (S := (fun w' => w'.heap[gb]? = some (.cells #[.pointer (some ⟨rb, 0, none⟩), .slice (some ⟨hb, 0, none⟩) n n, .int .i64 (win : Int), .int .i64 (met : Int), .int .i64 (fresh : Int)] 220) ∧ w'.heap[bx0]? = some (.cells c.cells 27))) (by kernel_rfl) ⟨K4.out.top, K4.out.box⟩ (fun hHeld => ?_)
            try dsimp only at hHeld
            refine' wpAnyH_take (i := 0) (v := _) rfl (by kernel_rfl) (by kernel_rfl) (by kernel_rfl) (fun _ _ _ h => h) (Or.inl ⟨by rfl, ?_⟩) hHeld ?_
            rotate_left
            · (intro w hSw; (try dsimp only at hSw); go_simp; try with_reducible rfl)
            try simp only [Act.put, List.setIfInBounds_toArray, List.set_cons_zero, List.set_cons_succ, List.getElem_toArray, List.getElem_cons_succ, List.getElem_cons_zero]
            refine' wpAnyH_take (i := 1) (v := _) rfl (by kernel_rfl) (by kernel_rfl) (by kernel_rfl) (fun _ _ _ h => h) (Or.inl ⟨by rfl, ?_⟩) hHeld ?_
            rotate_left
            · (intro w hSw; (try dsimp only at hSw); go_simp; try with_reducible rfl)
            try simp only [Act.put, List.setIfInBounds_toArray, List.set_cons_zero, List.set_cons_succ, List.getElem_toArray, List.getElem_cons_succ, List.getElem_cons_zero]
            refine' wpAnyH_take (i := 2) (v := _) rfl (by kernel_rfl) (by kernel_rfl) (by kernel_rfl) (fun _ _ _ h => h) (Or.inl ⟨by rfl, ?_⟩) hHeld ?_
            rotate_left
            · (intro w hSw; (try dsimp only at hSw); go_simp; try with_reducible rfl)
            try simp only [Act.put, List.setIfInBounds_toArray, List.set_cons_zero, List.set_cons_succ, List.getElem_toArray, List.getElem_cons_succ, List.getElem_cons_zero]
            refine' wpAnyH_take (i := 3) (v := _) rfl (by kernel_rfl) (by kernel_rfl) (by kernel_rfl) (fun _ _ _ h => h) (Or.inl ⟨by rfl, ?_⟩) hHeld ?_
            rotate_left
            · (intro w hSw; (try dsimp only at hSw); obtain ⟨g1, g2⟩ := hSw; have t1 : w.cell? ⟨gb, 1, none⟩ = some (Value.slice (some ⟨hb, 0, none⟩) n n) := at_cell g1 1; go_simp; try with_reducible rfl)
            try simp only [Act.put, List.setIfInBounds_toArray, List.set_cons_zero, List.set_cons_succ, List.getElem_toArray, List.getElem_cons_succ, List.getElem_cons_zero]
            refine' wpAnyH_take (i := 4) (v := _) rfl (by kernel_rfl) (by kernel_rfl) (by kernel_rfl) (fun _ _ _ h => h) (Or.inl ⟨by rfl, ?_⟩) hHeld ?_
            rotate_left
            · (intro w hSw; (try dsimp only at hSw); go_simp; try with_reducible rfl)
            try simp only [Act.put, List.setIfInBounds_toArray, List.set_cons_zero, List.set_cons_succ, List.getElem_toArray, List.getElem_cons_succ, List.getElem_cons_zero]
            refine' wpAnyH_take (i := 5) (v := _) rfl (by kernel_rfl) (by kernel_rfl) (by kernel_rfl) (fun _ _ _ h => h) (Or.inl ⟨by rfl, ?_⟩) hHeld ?_
            rotate_left
            · (intro w hSw; (try dsimp only at hSw); go_simp; try with_reducible rfl)
            try simp only [Act.put, List.setIfInBounds_toArray, List.set_cons_zero, List.set_cons_succ, List.getElem_toArray, List.getElem_cons_succ, List.getElem_cons_zero]
            refine' wpAnyH_take (i := 6) (v := _) rfl (by kernel_rfl) (by kernel_rfl) (by kernel_rfl) (fun _ _ _ h => h) (Or.inl ⟨by rfl, ?_⟩) hHeld ?_
            rotate_left
            · (intro w hSw; (try dsimp only at hSw); go_simp; try with_reducible rfl)
            try simp only [Act.put, List.setIfInBounds_toArray, List.set_cons_zero, List.set_cons_succ, List.getElem_toArray, List.getElem_cons_succ, List.getElem_cons_zero]
            refine' wpAnyH_take (i := 7) (v := _) rfl (by kernel_rfl) (by kernel_rfl) (by kernel_rfl) (fun _ _ _ h => h) (Or.inl ⟨by rfl, ?_⟩) hHeld ?_
            rotate_left
            · (intro w hSw; (try dsimp only at hSw); obtain ⟨g1, g2⟩ := hSw; obtain ⟨c0, c2, c4, c5, c6, c25⟩ := HC.out _ _ g2; go_simp; try with_reducible rfl)
            try simp only [Act.put, List.setIfInBounds_toArray, List.set_cons_zero, List.set_cons_succ, List.getElem_toArray, List.getElem_cons_succ, List.getElem_cons_zero]
            refine' wpAnyH_take (i := 9) (v := _) rfl (by kernel_rfl) (by kernel_rfl) (by kernel_rfl) (fun _ _ _ h => h) (Or.inl ⟨by rfl, ?_⟩) hHeld ?_
            rotate_left
            · (intro w hSw; (try dsimp only at hSw); go_simp; try with_reducible rfl)
            try simp only [Act.put, List.setIfInBounds_toArray, List.set_cons_zero, List.set_cons_succ, List.getElem_toArray, List.getElem_cons_succ, List.getElem_cons_zero]
            refine' wpAnyH_take (i := 10) (v := _) rfl (by kernel_rfl) (by kernel_rfl) (by kernel_rfl) (fun _ _ _ h => h) (Or.inl ⟨by rfl, ?_⟩) hHeld ?_
            rotate_left
            · (intro w hSw; (try dsimp only at hSw); go_simp; try with_reducible rfl)
            try simp only [Act.put, List.setIfInBounds_toArray, List.set_cons_zero, List.set_cons_succ, List.getElem_toArray, List.getElem_cons_succ, List.getElem_cons_zero]
            refine wpAnyH_ready (rs := [8]) (by kernel_rfl) (by simp) ?_
            refine AllReadyH.cons (o := _) rfl (fun K hK => ?_) AllReadyH.nil
            try simp only [List.getElem_toArray, List.getElem_cons_succ, List.getElem_cons_zero]
            go_simp
            refine (CP.out _).mono ?_
            rintro e w5 ⟨nb, rfl, hp, hg, hsz⟩
            have KK := hid (K4.out.step (P := P2) (i := k) (s := 1) (gb_trans (gb_drew (World.grownBy.refl _ none)) hg (.inl rfl)) hp hsz hlt (by omega) rfl)
            obtain ⟨cs5, hr5⟩ := K4.out.row_at
            have hr6 := at_grown (at_drew hr5) hg (by simp)
            have zz5 : (cs5[k * 3 + 2]?).isSome = true := by obtain ⟨ds, d1, d2⟩ := K4.out.row; rw [hr5] at d1; cases d1; have d3 := d2 k hlt; first | rw [d3.2.1]; rfl | rw [d3.2.2]; rfl
            obtain ⟨y5, hy5⟩ := Option.isSome_iff_exists.1 zz5
            have c3 : w5.cell? ⟨hb, k * 3 + 2, none⟩ = some y5 := (at_cell hr6 _).trans hy5
            have f3 : w5.frozen? ⟨hb, k * 3 + 2, none⟩ = false := at_free hr6 _
            have top5 := hid (at_grown (at_drew K4.out.top) hg (by simp))
            have lhs5 : w5.heap[bx0]? = some (.cells c.cells 27) := at_grown (at_drew K4.out.box) hg (by simp)
            clear hr5 hr6 zz5 hy5 hp hg hsz
            go_wp2_with fail
            refine hK.out _ _ ?_ (fun hHeld => ?_)
            · exact ⟨top5.out, lhs5⟩
            clear hK K
            try dsimp only at hHeld
            try simp only [Act.put, List.setIfInBounds_toArray, List.set_cons_zero, List.set_cons_succ, List.getElem_toArray, List.getElem_cons_succ, List.getElem_cons_zero]
            refine' wpAnyH_take (i := 11) (v := _) rfl (by kernel_rfl) (by kernel_rfl) (by kernel_rfl) (fun _ _ _ h => h) (Or.inl ⟨by rfl, ?_⟩) hHeld ?_
            rotate_left
            · (intro w hSw; (try dsimp only at hSw); go_simp; try with_reducible rfl)
            try simp only [Act.put, List.setIfInBounds_toArray, List.set_cons_zero, List.set_cons_succ, List.getElem_toArray, List.getElem_cons_succ, List.getElem_cons_zero]
            have hne6 : gb ≠ hb := by obtain ⟨ds, d1, d2⟩ := K4.out.row; exact obj_ne K4.out.top d1 (by decide)
            have hne7 : bx0 ≠ hb := by obtain ⟨ds, d1, d2⟩ := K4.out.row; exact obj_ne K4.out.box d1 (by decide)
            have S6 := hid (And.intro (at_set_other (p := ⟨hb, k * 3 + 2, none⟩) top5.out hne6 (.pointer (some ⟨nb, 0, none⟩))) (at_set_other (p := ⟨hb, k * 3 + 2, none⟩) lhs5 hne7 (.pointer (some ⟨nb, 0, none⟩))))
            clear hne6 hne7 lhs5 top5 hHeld
            refine wpAnyH_ready (rs := [12]) (by kernel_rfl) (by simp) ?_
            refine AllReadyH.cons (o := _) rfl (fun K hK => ?_) AllReadyH.nil
            try simp only [List.getElem_toArray, List.getElem_cons_succ, List.getElem_cons_zero]
            go_simp
            refine hK.out _ _ ?_ (fun hHeld => ?_)
            · exact S6.out
            clear hK K S6
            try dsimp only at hHeld
            try simp only [Act.put, List.setIfInBounds_toArray, List.set_cons_zero, List.set_cons_succ, List.getElem_toArray, List.getElem_cons_succ, List.getElem_cons_zero]
            refine wpAnyH_done (by kernel_rfl) ?_ _
            clear hHeld c3 f3
            go_wp2_with fail
            go_roundw
            case rel => exact ⟨2, _, by omega, rfl, KK.out⟩
            case measure => simp [intOf]
          · go_wp2_with fail
            go_roundw
            case rel => exact ⟨k + 1, P2, by omega, rfl, K4.out⟩
            case measure => simp [intOf]; omega
      · have hkn : k = n := by omega
        subst hkn
        have FIN := hid (K3.out.done HW.out.1 HW.out.2.1 HW.out.2.2.1 HW.out.2.2.2.1 HW.out.2.2.2.2.1 HW.out.2.2.2.2.2)
        have G9 := hid K3.out.g
        clear K3 HW
        go_wp2_with fail
        go_ret
        exact ⟨_, _, rfl, FIN.out.1, G9.out, FIN.out.2⟩
  · have hH2 := hHeld
    have bb := hH2
    have hg : w1.drew.grownBy (w1.drew.alloc (.cells (gCells n) 227)) none := World.grownBy_alloc _ _ _
    obtain ⟨hb, hhb⟩ : ∃ hb, w1.drew.heap.size = hb := ⟨_, rfl⟩
    have lhb : w.heap.size < hb := hhb ▸ at_lt bb.box
    have L9 := hid (show (BoxC w c (w1.drew.alloc (.cells (gCells n) 227))) from bb.grown hg)
    have Nhh := hid (show (w1.drew.alloc (.cells (gCells n) 227)).heap[hb]? = some (.cells (gCells n) 227) from hhb ▸ at_new w1.drew _)
    clear hHeld hg bb
    try simp only [List.getElem_toArray, List.getElem_cons_succ, List.getElem_cons_zero]
    go_simp
    refine hK.out _ _ ?_ (fun hHeld => ?_)
    · exact L9.out
    clear hK K
    try dsimp only at hHeld
    try simp only [Act.put, List.setIfInBounds_toArray, List.set_cons_zero, List.set_cons_succ, List.getElem_toArray, List.getElem_cons_succ, List.getElem_cons_zero]
    refine held_stronger (S' := fun w' => (fun w' => w'.heap[hb]? = some (.cells (gCells n) 227)) w' ∧ ((fun w' => (BoxC w c w'))) w') (fun _ h => h.2) _ _ _ _ ?_
    replace hHeld := And.intro Nhh.out hHeld
    try dsimp only at hHeld
    refine wpAnyH_ready (rs := [6]) (by kernel_rfl) (by simp) ?_
    refine AllReadyH.cons (o := _) rfl (fun K hK => ?_) AllReadyH.nil
    try simp only [List.getElem_toArray, List.getElem_cons_succ, List.getElem_cons_zero]
    go_simp
    have hH2 := hHeld
    obtain ⟨hh, bb⟩ := hH2
    refine (CN.out _).mono ?_
    rintro e w1006 ⟨rb, rh, rfl, hr, hg, lrb0, lrh0⟩
    have LRB : Hid (w.heap.size ≤ rb) := hid (Nat.le_trans (gb_size bb.g) lrb0); have LRH : Hid (w.heap.size ≤ rh) := hid (Nat.le_trans (gb_size bb.g) lrh0); clear lrb0 lrh0
    have L6 := hid (show (w1006.heap[hb]? = some (.cells (gCells n) 227)) ∧ (BoxC w c w1006) from ⟨at_grown hh hg (by simp), bb.grown hg⟩)
    have Nrr := hid (show RgAt w1006 rb rh (.new sd n grace) from hr)
    clear hHeld hg hh bb
    go_wp2_with fail
    refine hK.out _ _ ?_ (fun hHeld => ?_)
    · exact L6.out
    clear hK K
    try dsimp only at hHeld
    try simp only [Act.put, List.setIfInBounds_toArray, List.set_cons_zero, List.set_cons_succ, List.getElem_toArray, List.getElem_cons_succ, List.getElem_cons_zero]
    refine held_stronger (S' := fun w' => (fun w' => RgAt w' rb rh (.new sd n grace)) w' ∧ ((fun w' => (w'.heap[hb]? = some (.cells (gCells n) 227)) ∧ (BoxC w c w'))) w') (fun _ h => h.2) _ _ _ _ ?_
    replace hHeld := And.intro Nrr.out hHeld
    try dsimp only at hHeld
    refine' wpAnyH_take (i := 16) (v := _) rfl (by kernel_rfl) (by kernel_rfl) (by kernel_rfl) (fun _ _ _ h => h) (Or.inl ⟨by rfl, ?_⟩) hHeld ?_
    rotate_left
    · (intro w hSw; (try dsimp only at hSw); go_simp; try with_reducible rfl)
    try simp only [Act.put, List.setIfInBounds_toArray, List.set_cons_zero, List.set_cons_succ, List.getElem_toArray, List.getElem_cons_succ, List.getElem_cons_zero]
    refine wpAnyH_ready (rs := [17]) (by kernel_rfl) (by simp) ?_
    refine AllReadyH.cons (o := _) rfl (fun K hK => ?_) AllReadyH.nil
    have hH2 := hHeld
    obtain ⟨rr, hh, bb⟩ := hH2
    have hg : w1006.grownBy (w1006.alloc (.cells #[.pointer (some ⟨rb, 0, none⟩), .slice (some ⟨hb, 0, none⟩) n n, .int .i64 (win : Int), .int .i64 (met : Int), .int .i64 (fresh : Int)] 220)) none := World.grownBy_alloc _ _ _
    obtain ⟨gb, hgb⟩ : ∃ gb, w1006.heap.size = gb := ⟨_, rfl⟩
    have lgb : w.heap.size < gb := hgb ▸ at_lt bb.box
    have L17 := hid (show (RgAt (w1006.alloc (.cells #[.pointer (some ⟨rb, 0, none⟩), .slice (some ⟨hb, 0, none⟩) n n, .int .i64 (win : Int), .int .i64 (met : Int), .int .i64 (fresh : Int)] 220)) rb rh (.new sd n grace)) ∧ ((w1006.alloc (.cells #[.pointer (some ⟨rb, 0, none⟩), .slice (some ⟨hb, 0, none⟩) n n, .int .i64 (win : Int), .int .i64 (met : Int), .int .i64 (fresh : Int)] 220)).heap[hb]? = some (.cells (gCells n) 227)) ∧ (BoxC w c (w1006.alloc (.cells #[.pointer (some ⟨rb, 0, none⟩), .slice (some ⟨hb, 0, none⟩) n n, .int .i64 (win : Int), .int .i64 (met : Int), .int .i64 (fresh : Int)] 220))) from ⟨rr.grown hg, at_grown hh hg (by simp), bb.grown hg⟩)
    have Ngg := hid (show (w1006.alloc (.cells #[.pointer (some ⟨rb, 0, none⟩), .slice (some ⟨hb, 0, none⟩) n n, .int .i64 (win : Int), .int .i64 (met : Int), .int .i64 (fresh : Int)] 220)).heap[gb]? = some (.cells #[.pointer (some ⟨rb, 0, none⟩), .slice (some ⟨hb, 0, none⟩) n n, .int .i64 (win : Int), .int .i64 (met : Int), .int .i64 (fresh : Int)] 220) from hgb ▸ at_new w1006 _)
    clear hHeld hg rr hh bb
    try simp only [List.getElem_toArray, List.getElem_cons_succ, List.getElem_cons_zero]
    go_simp
    refine hK.out _ _ ?_ (fun hHeld => ?_)
    · exact L17.out
    clear hK K
    try dsimp only at hHeld
    try simp only [Act.put, List.setIfInBounds_toArray, List.set_cons_zero, List.set_cons_succ, List.getElem_toArray, List.getElem_cons_succ, List.getElem_cons_zero]
    refine held_stronger (S' := fun w' => (fun w' => w'.heap[gb]? = some (.cells #[.pointer (some ⟨rb, 0, none⟩), .slice (some ⟨hb, 0, none⟩) n n, .int .i64 (win : Int), .int .i64 (met : Int), .int .i64 (fresh : Int)] 220)) w' ∧ ((fun w' => (RgAt w' rb rh (.new sd n grace)) ∧ (w'.heap[hb]? = some (.cells (gCells n) 227)) ∧ (BoxC w c w'))) w') (fun _ h => h.2) _ _ _ _ ?_
    replace hHeld := And.intro Ngg.out hHeld
    try dsimp only at hHeld
    refine' wpAnyH_take (i := 18) (v := _) rfl (by kernel_rfl) (by kernel_rfl) (by kernel_rfl) (fun _ _ _ h => h) (Or.inl ⟨by rfl, ?_⟩) hHeld ?_
    rotate_left
    · (intro w hSw; (try dsimp only at hSw); go_simp; try with_reducible rfl)
    try simp only [Act.put, List.setIfInBounds_toArray, List.set_cons_zero, List.set_cons_succ, List.getElem_toArray, List.getElem_cons_succ, List.getElem_cons_zero]
    refine wpAnyH_done (by kernel_rfl) ?_ _
    obtain ⟨gg, rr, hh, bb⟩ := hHeld
    refine exit_gen (fun wx => Nw w w.heap.size gb rb rh hb c sd n grace win met fresh (fun _ => 0) 0 wx) ⟨bb.box, gg, rr, ⟨_, hh, fun i hi => ⟨(made_3 _ _ _ _ _ (by omega)).trans (by simp), (made_3 _ _ _ _ _ (by omega)).trans (by rw [if_neg (by omega), if_pos (by omega)]; rfl), (made_3 _ _ _ _ _ (by omega)).trans (by rw [if_neg (by omega), if_neg (by omega)]; rfl)⟩⟩, fun a ha => absurd ha (Nat.not_lt_zero a), fun a b _ hb' => absurd hb' (Nat.not_lt_zero b), fun a ha => absurd ha (Nat.not_lt_zero a), ⟨Nat.le_of_lt lgb, LRB.out, LRH.out, Nat.le_of_lt lhb⟩, bb.g⟩ ?_
    clear bb gg rr hh
    intro w2 h2
    have K2 := hid h2; clear h2 B1 lhb lgb LRB LRH hmk CN lx
    generalize w.heap.size = bx0 at K2 ⊢
    have t1 : w2.cell? ⟨gb, 1, none⟩ = some (.slice (some ⟨hb, 0, none⟩) n n) := at_cell K2.out.top 1
    go_wp2_with fail
    clear t1
    go_loopw [32] (fun i wr => ∃ (k : Nat) (P : Nat → Nat), k ≤ n ∧ i = .int .i64 (k : Int) ∧ Nw w bx0 gb rb rh hb c sd n grace win met fresh P (2 * k) wr) (fun i _ => n - (intOf i).toNat)
    case atStart => exact ⟨0, _, Nat.zero_le _, rfl, K2.out⟩
    case round =>
      obtain ⟨k, P, hk, rfl, hN⟩ := hrel
      have K3 := hid hN; clear hN K2
      by_cases hlt : k < n
      · have q0 : (k : Int) < (n : Int) := by omega
        have q1 : (0 : Int) ≤ (k : Int) := by omega
        have s1 : IntKind.i64.wrap ((k : Int) + 1) = (k : Int) + 1 := IntWalk.i64_in _ (by omega)
        go_wp2_with fail
        go_loopw [35] (fun j wr => ∃ (s : Nat) (P : Nat → Nat), s ≤ 2 ∧ j = .int .i64 (s : Int) ∧ Nw w bx0 gb rb rh hb c sd n grace win met fresh P (2 * k + s) wr) (fun j _ => 2 - (intOf j).toNat)
        case atStart => exact ⟨0, P, by omega, rfl, K3.out⟩
        case round =>
          obtain ⟨s, P2, hs, rfl, hN⟩ := hrel
          have K4 := hid hN; clear hN K3
          rcases (by omega : s = 0 ∨ s = 1 ∨ s = 2) with rfl | rfl | rfl
          · go_wp2_with fail
            refine wp_region_held_drew (S := (fun w' => w'.heap[gb]? = some (.cells #[.pointer (some ⟨rb, 0, none⟩), .slice (some ⟨hb, 0, none⟩) n n, .int .i64 (win : Int), .int .i64 (met : Int), .int .i64 (fresh : Int)] 220) ∧ w'.heap[bx0]? = some (.cells c.cells 27))) (by kernel_rfl) ⟨K4.out.top, K4.out.box⟩ (fun hHeld => ?_)
            try dsimp only at hHeld
            refine' wpAnyH_take (i := 0) (v := _) rfl (by kernel_rfl) (by kernel_rfl) (by kernel_rfl) (fun _ _ _ h => h) (Or.inl ⟨by rfl, ?_⟩) hHeld ?_
            rotate_left
            · (intro w hSw; (try dsimp only at hSw); go_simp; try with_reducible rfl)
            try simp only [Act.put, List.setIfInBounds_toArray, List.set_cons_zero, List.set_cons_succ, List.getElem_toArray, List.getElem_cons_succ, List.getElem_cons_zero]
            refine' wpAnyH_take (i := 1) (v := _) rfl (by kernel_rfl) (by kernel_rfl) (by kernel_rfl) (fun _ _ _ h => h) (Or.inl ⟨by rfl, ?_⟩) hHeld ?_
            rotate_left
            · (intro w hSw; (try dsimp only at hSw); go_simp; try with_reducible rfl)
            try simp only [Act.put, List.setIfInBounds_toArray, List.set_cons_zero, List.set_cons_succ, List.getElem_toArray, List.getElem_cons_succ, List.getElem_cons_zero]
            refine' wpAnyH_take (i := 2) (v := _) rfl (by kernel_rfl) (by kernel_rfl) (by kernel_rfl) (fun _ _ _ h => h) (Or.inl ⟨by rfl, ?_⟩) hHeld ?_
            rotate_left
            · (intro w hSw; (try dsimp only at hSw); go_simp; try with_reducible rfl)
            try simp only [Act.put, List.setIfInBounds_toArray, List.set_cons_zero, List.set_cons_succ, List.getElem_toArray, List.getElem_cons_succ, List.getElem_cons_zero]
            refine' wpAnyH_take (i := 3) (v := _) rfl (by kernel_rfl) (by kernel_rfl) (by kernel_rfl) (fun _ _ _ h => h) (Or.inl ⟨by rfl, ?_⟩) hHeld ?_
            rotate_left
            · (intro w hSw; (try dsimp only at hSw); obtain ⟨g1, g2⟩ := hSw; have t1 : w.cell? ⟨gb, 1, none⟩ = some (Value.slice (some ⟨hb, 0, none⟩) n n) := at_cell g1 1; go_simp; try with_reducible rfl)
            try simp only [Act.put, List.setIfInBounds_toArray, List.set_cons_zero, List.set_cons_succ, List.getElem_toArray, List.getElem_cons_succ, List.getElem_cons_zero]
            refine' wpAnyH_take (i := 4) (v := _) rfl (by kernel_rfl) (by kernel_rfl) (by kernel_rfl) (fun _ _ _ h => h) (Or.inl ⟨by rfl, ?_⟩) hHeld ?_
            rotate_left
            · (intro w hSw; (try dsimp only at hSw); go_simp; try with_reducible rfl)
            try simp only [Act.put, List.setIfInBounds_toArray, List.set_cons_zero, List.set_cons_succ, List.getElem_toArray, List.getElem_cons_succ, List.getElem_cons_zero]
            refine' wpAnyH_take (i := 5) (v := _) rfl (by kernel_rfl) (by kernel_rfl) (by kernel_rfl) (fun _ _ _ h => h) (Or.inl ⟨by rfl, ?_⟩) hHeld ?_
            rotate_left
            · (intro w hSw; (try dsimp only at hSw); go_simp; try with_reducible rfl)
            try simp only [Act.put, List.setIfInBounds_toArray, List.set_cons_zero, List.set_cons_succ, List.getElem_toArray, List.getElem_cons_succ, List.getElem_cons_zero]
            refine' wpAnyH_take (i := 6) (v := _) rfl (by kernel_rfl) (by kernel_rfl) (by kernel_rfl) (fun _ _ _ h => h) (Or.inl ⟨by rfl, ?_⟩) hHeld ?_
            rotate_left
            · (intro w hSw; (try dsimp only at hSw); go_simp; try with_reducible rfl)
            try simp only [Act.put, List.setIfInBounds_toArray, List.set_cons_zero, List.set_cons_succ, List.getElem_toArray, List.getElem_cons_succ, List.getElem_cons_zero]
            refine' wpAnyH_take (i := 7) (v := _) rfl (by kernel_rfl) (by kernel_rfl) (by kernel_rfl) (fun _ _ _ h => h) (Or.inl ⟨by rfl, ?_⟩) hHeld ?_
            rotate_left
            · (intro w hSw; (try dsimp only at hSw); obtain ⟨g1, g2⟩ := hSw; obtain ⟨c0, c2, c4, c5, c6, c25⟩ := HC.out _ _ g2; go_simp; try with_reducible rfl)
            try simp only [Act.put, List.setIfInBounds_toArray, List.set_cons_zero, List.set_cons_succ, List.getElem_toArray, List.getElem_cons_succ, List.getElem_cons_zero]
            refine' wpAnyH_take (i := 9) (v := _) rfl (by kernel_rfl) (by kernel_rfl) (by kernel_rfl) (fun _ _ _ h => h) (Or.inl ⟨by rfl, ?_⟩) hHeld ?_
            rotate_left
            · (intro w hSw; (try dsimp only at hSw); go_simp; try with_reducible rfl)
            try simp only [Act.put, List.setIfInBounds_toArray, List.set_cons_zero, List.set_cons_succ, List.getElem_toArray, List.getElem_cons_succ, List.getElem_cons_zero]
            refine' wpAnyH_take (i := 10) (v := _) rfl (by kernel_rfl) (by kernel_rfl) (by kernel_rfl) (fun _ _ _ h => h) (Or.inl ⟨by rfl, ?_⟩) hHeld ?_
            rotate_left
            · (intro w hSw; (try dsimp only at hSw); go_simp; try with_reducible rfl)
            try simp only [Act.put, List.setIfInBounds_toArray, List.set_cons_zero, List.set_cons_succ, List.getElem_toArray, List.getElem_cons_succ, List.getElem_cons_zero]
            refine wpAnyH_ready (rs := [8]) (by kernel_rfl) (by simp) ?_
            refine AllReadyH.cons (o := _) rfl (fun K hK => ?_) AllReadyH.nil
            try simp only [List.getElem_toArray, List.getElem_cons_succ, List.getElem_cons_zero]
            go_simp
            refine (CP.out _).mono ?_
            rintro e w5 ⟨nb, rfl, hp, hg, hsz⟩
            have KK := hid (K4.out.step (P := P2) (i := k) (s := 0) (gb_trans (gb_drew (World.grownBy.refl _ none)) hg (.inl rfl)) hp hsz hlt (by omega) rfl)
            obtain ⟨cs5, hr5⟩ := K4.out.row_at
            have hr6 := at_grown (at_drew hr5) hg (by simp)
            have zz5 : (cs5[k * 3 + 1]?).isSome = true := by obtain ⟨ds, d1, d2⟩ := K4.out.row; rw [hr5] at d1; cases d1; have d3 := d2 k hlt; first | rw [d3.2.1]; rfl | rw [d3.2.2]; rfl
            obtain ⟨y5, hy5⟩ := Option.isSome_iff_exists.1 zz5
            have c3 : w5.cell? ⟨hb, k * 3 + 1, none⟩ = some y5 := (at_cell hr6 _).trans hy5
            have f3 : w5.frozen? ⟨hb, k * 3 + 1, none⟩ = false := at_free hr6 _
            have top5 := hid (at_grown (at_drew K4.out.top) hg (by simp))
            have lhs5 : w5.heap[bx0]? = some (.cells c.cells 27) := at_grown (at_drew K4.out.box) hg (by simp)
            clear hr5 hr6 zz5 hy5 hp hg hsz
            go_wp2_with fail
            refine hK.out _ _ ?_ (fun hHeld => ?_)
            · exact ⟨top5.out, lhs5⟩
            clear hK K
            try dsimp only at hHeld
            try simp only [Act.put, List.setIfInBounds_toArray, List.set_cons_zero, List.set_cons_succ, List.getElem_toArray, List.getElem_cons_succ, List.getElem_cons_zero]
            refine' wpAnyH_take (i := 11) (v := _) rfl (by kernel_rfl) (by kernel_rfl) (by kernel_rfl) (fun _ _ _ h => h) (Or.inl ⟨by rfl, ?_⟩) hHeld ?_
            rotate_left
            · (intro w hSw; (try dsimp only at hSw); go_simp; try with_reducible rfl)
            try simp only [Act.put, List.setIfInBounds_toArray, List.set_cons_zero, List.set_cons_succ, List.getElem_toArray, List.getElem_cons_succ, List.getElem_cons_zero]
            have hne6 : gb ≠ hb := by obtain ⟨ds, d1, d2⟩ := K4.out.row; exact obj_ne K4.out.top d1 (by decide)
            have hne7 : bx0 ≠ hb := by obtain ⟨ds, d1, d2⟩ := K4.out.row; exact obj_ne K4.out.box d1 (by decide)
            have S6 := hid (And.intro (at_set_other (p := ⟨hb, k * 3 + 1, none⟩) top5.out hne6 (.pointer (some ⟨nb, 0, none⟩))) (at_set_other (p := ⟨hb, k * 3 + 1, none⟩) lhs5 hne7 (.pointer (some ⟨nb, 0, none⟩))))
            clear hne6 hne7 lhs5 top5 hHeld
            refine wpAnyH_ready (rs := [12]) (by kernel_rfl) (by simp) ?_
            refine AllReadyH.cons (o := _) rfl (fun K hK => ?_) AllReadyH.nil
            try simp only [List.getElem_toArray, List.getElem_cons_succ, List.getElem_cons_zero]
            go_simp
            refine hK.out _ _ ?_ (fun hHeld => ?_)
            · exact S6.out
            clear hK K S6
            try dsimp only at hHeld
            try simp only [Act.put, List.setIfInBounds_toArray, List.set_cons_zero, List.set_cons_succ, List.getElem_toArray, List.getElem_cons_succ, List.getElem_cons_zero]
            refine wpAnyH_done (by kernel_rfl) ?_ _
            clear hHeld c3 f3
            go_wp2_with fail
            go_roundw
            case rel => exact ⟨1, _, by omega, rfl, KK.out⟩
            case measure => simp [intOf]
          · go_wp2_with fail
            refine wp_region_held_drew (S := (fun w' => w'.heap[gb]? = some (.cells #[.pointer (some ⟨rb, 0, none⟩), .slice (some ⟨hb, 0, none⟩) n n, .int .i64 (win : Int), .int .i64 (met : Int), .int .i64 (fresh : Int)] 220) ∧ w'.heap[bx0]? = some (.cells c.cells 27))) (by kernel_rfl) ⟨K4.out.top, K4.out.box⟩ (fun hHeld => ?_)
            try dsimp only at hHeld
            refine' wpAnyH_take (i := 0) (v := _) rfl (by kernel_rfl) (by kernel_rfl) (by kernel_rfl) (fun _ _ _ h => h) (Or.inl ⟨by rfl, ?_⟩) hHeld ?_
            rotate_left
            · (intro w hSw; (try dsimp only at hSw); go_simp; try with_reducible rfl)
            try simp only [Act.put, List.setIfInBounds_toArray, List.set_cons_zero, List.set_cons_succ, List.getElem_toArray, List.getElem_cons_succ, List.getElem_cons_zero]
            refine' wpAnyH_take (i := 1) (v := _) rfl (by kernel_rfl) (by kernel_rfl) (by kernel_rfl) (fun _ _ _ h => h) (Or.inl ⟨by rfl, ?_⟩) hHeld ?_
            rotate_left
            · (intro w hSw; (try dsimp only at hSw); go_simp; try with_reducible rfl)
            try simp only [Act.put, List.setIfInBounds_toArray, List.set_cons_zero, List.set_cons_succ, List.getElem_toArray, List.getElem_cons_succ, List.getElem_cons_zero]
            refine' wpAnyH_take (i := 2) (v := _) rfl (by kernel_rfl) (by kernel_rfl) (by kernel_rfl) (fun _ _ _ h => h) (Or.inl ⟨by rfl, ?_⟩) hHeld ?_
            rotate_left
            · (intro w hSw; (try dsimp only at hSw); go_simp; try with_reducible rfl)
            try simp only [Act.put, List.setIfInBounds_toArray, List.set_cons_zero, List.set_cons_succ, List.getElem_toArray, List.getElem_cons_succ, List.getElem_cons_zero]
            refine' wpAnyH_take (i := 3) (v := _) rfl (by kernel_rfl) (by kernel_rfl) (by kernel_rfl) (fun _ _ _ h => h) (Or.inl ⟨by rfl, ?_⟩) hHeld ?_
            rotate_left
            · (intro w hSw; (try dsimp only at hSw); obtain ⟨g1, g2⟩ := hSw; have t1 : w.cell? ⟨gb, 1, none⟩ = some (Value.slice (some ⟨hb, 0, none⟩) n n) := at_cell g1 1; go_simp; try with_reducible rfl)
            try simp only [Act.put, List.setIfInBounds_toArray, List.set_cons_zero, List.set_cons_succ, List.getElem_toArray, List.getElem_cons_succ, List.getElem_cons_zero]
            refine' wpAnyH_take (i := 4) (v := _) rfl (by kernel_rfl) (by kernel_rfl) (by kernel_rfl) (fun _ _ _ h => h) (Or.inl ⟨by rfl, ?_⟩) hHeld ?_
            rotate_left
            · (intro w hSw; (try dsimp only at hSw); go_simp; try with_reducible rfl)
            try simp only [Act.put, List.setIfInBounds_toArray, List.set_cons_zero, List.set_cons_succ, List.getElem_toArray, List.getElem_cons_succ, List.getElem_cons_zero]
            refine' wpAnyH_take (i := 5) (v := _) rfl (by kernel_rfl) (by kernel_rfl) (by kernel_rfl) (fun _ _ _ h => h) (Or.inl ⟨by rfl, ?_⟩) hHeld ?_
            rotate_left
            · (intro w hSw; (try dsimp only at hSw); go_simp; try with_reducible rfl)
            try simp only [Act.put, List.setIfInBounds_toArray, List.set_cons_zero, List.set_cons_succ, List.getElem_toArray, List.getElem_cons_succ, List.getElem_cons_zero]
            refine' wpAnyH_take (i := 6) (v := _) rfl (by kernel_rfl) (by kernel_rfl) (by kernel_rfl) (fun _ _ _ h => h) (Or.inl ⟨by rfl, ?_⟩) hHeld ?_
            rotate_left
            · (intro w hSw; (try dsimp only at hSw); go_simp; try with_reducible rfl)
            try simp only [Act.put, List.setIfInBounds_toArray, List.set_cons_zero, List.set_cons_succ, List.getElem_toArray, List.getElem_cons_succ, List.getElem_cons_zero]
            refine' wpAnyH_take (i := 7) (v := _) rfl (by kernel_rfl) (by kernel_rfl) (by kernel_rfl) (fun _ _ _ h => h) (Or.inl ⟨by rfl, ?_⟩) hHeld ?_
            rotate_left
            · (intro w hSw; (try dsimp only at hSw); obtain ⟨g1, g2⟩ := hSw; obtain ⟨c0, c2, c4, c5, c6, c25⟩ := HC.out _ _ g2; go_simp; try with_reducible rfl)
            try simp only [Act.put, List.setIfInBounds_toArray, List.set_cons_zero, List.set_cons_succ, List.getElem_toArray, List.getElem_cons_succ, List.getElem_cons_zero]
            refine' wpAnyH_take (i := 9) (v := _) rfl (by kernel_rfl) (by kernel_rfl) (by kernel_rfl) (fun _ _ _ h => h) (Or.inl ⟨by rfl, ?_⟩) hHeld ?_
            rotate_left
            · (intro w hSw; (try dsimp only at hSw); go_simp; try with_reducible rfl)
            try simp only [Act.put, List.setIfInBounds_toArray, List.set_cons_zero, List.set_cons_succ, List.getElem_toArray, List.getElem_cons_succ, List.getElem_cons_zero]
            refine' wpAnyH_take (i := 10) (v := _) rfl (by kernel_rfl) (by kernel_rfl) (by kernel_rfl) (fun _ _ _ h => h) (Or.inl ⟨by rfl, ?_⟩) hHeld ?_
            rotate_left
            · (intro w hSw; (try dsimp only at hSw); go_simp; try with_reducible rfl)
            try simp only [Act.put, List.setIfInBounds_toArray, List.set_cons_zero, List.set_cons_succ, List.getElem_toArray, List.getElem_cons_succ, List.getElem_cons_zero]
            refine wpAnyH_ready (rs := [8]) (by kernel_rfl) (by simp) ?_
            refine AllReadyH.cons (o := _) rfl (fun K hK => ?_) AllReadyH.nil
            try simp only [List.getElem_toArray, List.getElem_cons_succ, List.getElem_cons_zero]
            go_simp
            refine (CP.out _).mono ?_
            rintro e w5 ⟨nb, rfl, hp, hg, hsz⟩
            have KK := hid (K4.out.step (P := P2) (i := k) (s := 1) (gb_trans (gb_drew (World.grownBy.refl _ none)) hg (.inl rfl)) hp hsz hlt (by omega) rfl)
            obtain ⟨cs5, hr5⟩ := K4.out.row_at
            have hr6 := at_grown (at_drew hr5) hg (by simp)
            have zz5 : (cs5[k * 3 + 2]?).isSome = true := by obtain ⟨ds, d1, d2⟩ := K4.out.row; rw [hr5] at d1; cases d1; have d3 := d2 k hlt; first | rw [d3.2.1]; rfl | rw [d3.2.2]; rfl
            obtain ⟨y5, hy5⟩ := Option.isSome_iff_exists.1 zz5
            have c3 : w5.cell? ⟨hb, k * 3 + 2, none⟩ = some y5 := (at_cell hr6 _).trans hy5
            have f3 : w5.frozen? ⟨hb, k * 3 + 2, none⟩ = false := at_free hr6 _
            have top5 := hid (at_grown (at_drew K4.out.top) hg (by simp))
            have lhs5 : w5.heap[bx0]? = some (.cells c.cells 27) := at_grown (at_drew K4.out.box) hg (by simp)
            clear hr5 hr6 zz5 hy5 hp hg hsz
            go_wp2_with fail
            refine hK.out _ _ ?_ (fun hHeld => ?_)
            · exact ⟨top5.out, lhs5⟩
            clear hK K
            try dsimp only at hHeld
            try simp only [Act.put, List.setIfInBounds_toArray, List.set_cons_zero, List.set_cons_succ, List.getElem_toArray, List.getElem_cons_succ, List.getElem_cons_zero]
            refine' wpAnyH_take (i := 11) (v := _) rfl (by kernel_rfl) (by kernel_rfl) (by kernel_rfl) (fun _ _ _ h => h) (Or.inl ⟨by rfl, ?_⟩) hHeld ?_
            rotate_left
            · (intro w hSw; (try dsimp only at hSw); go_simp; try with_reducible rfl)
            try simp only [Act.put, List.setIfInBounds_toArray, List.set_cons_zero, List.set_cons_succ, List.getElem_toArray, List.getElem_cons_succ, List.getElem_cons_zero]
            have hne6 : gb ≠ hb := by obtain ⟨ds, d1, d2⟩ := K4.out.row; exact obj_ne K4.out.top d1 (by decide)
            have hne7 : bx0 ≠ hb := by obtain ⟨ds, d1, d2⟩ := K4.out.row; exact obj_ne K4.out.box d1 (by decide)
            have S6 := hid (And.intro (at_set_other (p := ⟨hb, k * 3 + 2, none⟩) top5.out hne6 (.pointer (some ⟨nb, 0, none⟩))) (at_set_other (p := ⟨hb, k * 3 + 2, none⟩) lhs5 hne7 (.pointer (some ⟨nb, 0, none⟩))))
            clear hne6 hne7 lhs5 top5 hHeld
            refine wpAnyH_ready (rs := [12]) (by kernel_rfl) (by simp) ?_
            refine AllReadyH.cons (o := _) rfl (fun K hK => ?_) AllReadyH.nil
            try simp only [List.getElem_toArray, List.getElem_cons_succ, List.getElem_cons_zero]
            go_simp
            refine hK.out _ _ ?_ (fun hHeld => ?_)
            · exact S6.out
            clear hK K S6
            try dsimp only at hHeld
            try simp only [Act.put, List.setIfInBounds_toArray, List.set_cons_zero, List.set_cons_succ, List.getElem_toArray, List.getElem_cons_succ, List.getElem_cons_zero]
            refine wpAnyH_done (by kernel_rfl) ?_ _
            clear hHeld c3 f3
            go_wp2_with fail
            go_roundw
            case rel => exact ⟨2, _, by omega, rfl, KK.out⟩
            case measure => simp [intOf]
          · go_wp2_with fail
            go_roundw
            case rel => exact ⟨k + 1, P2, by omega, rfl, K4.out⟩
            case measure => simp [intOf]; omega
      · have hkn : k = n := by omega
        subst hkn
        have FIN := hid (K3.out.done HW.out.1 HW.out.2.1 HW.out.2.2.1 HW.out.2.2.2.1 HW.out.2.2.2.2.1 HW.out.2.2.2.2.2)
        have G9 := hid K3.out.g
        clear K3 HW
        go_wp2_with fail
        go_ret
        exact ⟨_, _, rfl, FIN.out.1, G9.out, FIN.out.2⟩
end Go.Proofs.YtecggbndlbkhdaaGreat
