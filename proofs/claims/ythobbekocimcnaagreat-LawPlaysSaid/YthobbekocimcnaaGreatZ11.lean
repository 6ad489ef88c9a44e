/-
  Contracts for the document's Policy: New, Limit, Set, what is kept of one. The condition of a call: the object lies there, a slice reads as numbers.
  Contracts for the document's Policy: Put, Set. The condition of a call: the object lies there, a slice reads as numbers.
  Contract: the document's comparison of two slices of numbers, one by one. The condition: slices that read as numbers.
  Contract for the document's Policy: Set; and the program's object and the document's, side by side. The condition of a call: the object lies there, a slice reads as numbers.
-/
import Derived.Test.YthobbekocimcnaaGreatZ9
import Derived.Test.YthobbekocimcnaaGreatZ6
import Derived.Test.YthobbekocimcnaaGreatZ7
import Derived.Test.YthobbekocimcnaaGreatZ2
import Derived.Deep.MidRow
import Derived.Test.YthobbekocimcnaaGreatZ3
import Derived.BigQuiet
import Derived.Deep.QuietTactic
section
set_option linter.unusedSimpArgs false
set_option linter.unusedVariables false
namespace Go.Proofs.YthobbekocimcnaaGreat
set_option maxRecDepth 100000
open Go.RowKit

/-- the cells of the document's Policy -/
@[reducible] def prCells (c : Conf) (s : Value) : Array Value := #[.int .i64 c.n, .int .i64 c.f, .int .i64 c.m, .int .i64 c.quorum, .int .i64 c.fresh, .int .i64 c.grace, .int .i64 c.window, .int .i64 c.t0, .int .i64 c.t1, .int .i64 c.t2, .int .i64 c.t3, .int .i64 c.tol, .int .i64 c.min, .int .i64 c.max, .int .i64 c.calmup, .int .i64 c.calmdown, .int .i64 c.podsup, .int .i64 c.pctup, .int .i64 c.podsdown, .int .i64 c.pctdown, .int .i64 c.period, .int .i64 c.far, .int .i64 c.strikes, .int .i64 c.probe, .int .i64 c.sectors, .int .u64 c.seed, s]
/-- the document's, its list in a block that is none of F -/
structure PrAt (w : World) (F : List Nat) (b : Nat) (c : Conf) (p : Po) : Prop where
  row : ∃ (q : Option Addr) (k : Nat), w.heap[b]? = some (.cells (prCells c (.slice q p.l.length k)) 52) ∧ IntsAt w (.slice q p.l.length k) p.l ∧ (∀ a, q = some a → a.block ∉ F)
  inF : b ∈ F
  lt : ∀ x ∈ F, x < w.heap.size
  ok : p.Ok
  rc : p.r = rt c
section
variable {w w' : World} {F G : List Nat} {b : Nat} {c : Conf} {p p' : Po}
theorem PrAt.chg (H : PrAt w F b c p) (hc : Chg G w w') (hG : ∀ x ∈ G, x ∈ F) (hb : b ∉ G) : PrAt w' F b c p := by
  obtain ⟨⟨q, k, h1, h2, h3⟩, h4, h5, h6, h7⟩ := H
  exact ⟨⟨q, k, hc.at h1 hb, ints_chg h2 hc (fun a n c e hm => by cases e; exact h3 a rfl (hG _ hm)), h3⟩, h4, fun x hx => Nat.lt_of_lt_of_le (h5 x hx) hc.size, h6, h7⟩
theorem PrAt.grown (H : PrAt w F b c p) (hg : w.grownBy w' none) : PrAt w' F b c p := H.chg (chg_grown hg []) (by simp) (by simp)
theorem PrAt.drew (H : PrAt w F b c p) : PrAt w.drew F b c p := ⟨H.row, H.inF, H.lt, H.ok, H.rc⟩
theorem PrAt.cells (H : PrAt w F b c p) : w.cell? ⟨b, 12, none⟩ = some (.int .i64 c.min) ∧ w.cell? ⟨b, 13, none⟩ = some (.int .i64 c.max) ∧ w.cell? ⟨b, 20, none⟩ = some (.int .i64 c.period) ∧ ∀ k, w.frozen? ⟨b, k, none⟩ = false := by
  obtain ⟨⟨q, k, h1, -, -⟩, -⟩ := H
  exact ⟨at_cell h1 12, at_cell h1 13, at_cell h1 20, fun k => at_free h1 k⟩
theorem PrAt.put (H : PrAt w F b c p) {q : Option Addr} {k : Nat} {l : List Int} (hl : IntsAt w (.slice q l.length k) l) (hp : ∀ a, q = some a → a.block ∉ F) (ho : (Po.mk p.r l).Ok) :
    PrAt (w.setCell ⟨b, 26, none⟩ (.slice q l.length k)) F b c ⟨p.r, l⟩ ∧ Chg [b] w (w.setCell ⟨b, 26, none⟩ (.slice q l.length k)) := by
  have hc : Chg [b] w (w.setCell ⟨b, 26, none⟩ (.slice q l.length k)) := (chg_refl w [b]).set (.inl (by simp)) _
  obtain ⟨⟨q', m, h1, -, -⟩, h4, h5, h6, h7⟩ := H
  refine ⟨⟨⟨q, k, ?_, ints_chg hl hc (fun a n c e hm => by cases e; rw [List.mem_singleton] at hm; exact hp a rfl (hm ▸ h4)), hp⟩, h4, fun x hx => Nat.lt_of_lt_of_le (h5 x hx) hc.size, ho, h7⟩, hc⟩
  rw [at_set h1]; rfl
theorem pr_mid {s : Value} {t : TypeId} (h1 : w.heap[b]? = some (.cells (prCells c s) t)) : w.rangeAt b 0 c.cells.toList := by
  intro j v hj
  have hlt : j < 26 := by have := (List.getElem?_eq_some_iff.1 hj).1; exact this
  rw [Nat.zero_add, at_cell h1]
  have e : (prCells c s).toList = c.cells.toList ++ [s] := rfl
  rw [← Array.getElem?_toList, e, List.getElem?_append_left hlt]
  exact hj
end
theorem exec_mid27 {w : World} {o : Oper} {b of : Nat} {ty : TypeId} {x : Operand} {cs : List Value} {d : TypeDesc} {ρ : Operand → Value} (hc : w.rangeAt b of cs) (hu : Tryz.prog.underlying ty = some d) (hd : d.isRow = true) (hi : (Tryz.prog.info? ty).map (·.size) = some cs.length)
    (ho : o.op = .load ty x) (hx : ρ x = .pointer (some ⟨b, of, none⟩)) : (execOp ρ o).run Tryz.prog w = .ok (.value (.agg cs.toArray)) w := by
  simp only [execOp, ho, hx, Sem.run_bind, Instr.loadAt, Instr.sureAddr, Sem.run_pure, Result.andThen_ok, run_loadVar_mid w b of ty cs d hc hu hd hi]
/-- NewPolicy -/
theorem rpnew_no (c : Conf) (first : Int) (h : ¬ ((rt c).may = true ∧ inR (rt c) first = true)) (w : World) :
    Calls Tryz.prog 26 #[cf c, .int .i64 first] w fun e w' => e = .returned (.pointer none) ∧ w.grownBy w' none := by
  have K := hid (boxc_new w c)
  have R := hid (rmayr_any c)
  cases hm : (rt c).may with
  | false =>
    rw [hm] at R
    clear h hm
    go_enter Tryz.func26, Tryz.ntmps26
    go_wp2_with (refine wpList_conf K.out.box rfl rfl rfl rfl ?_)
    refine (R.out _).mono ?_
    rintro e w1 ⟨rfl, hg⟩
    have G1 := hid (gb_trans K.out.g hg (.inl rfl)); clear hg
    go_wp2_with fail
    go_ret
    exact ⟨rfl, G1.out⟩
  | true =>
    have hi : ¬ (c.min ≤ first ∧ first ≤ c.max) := fun hb => h ⟨hm, by unfold inR; rw [decide_eq_true hb.1, decide_eq_true hb.2]; rfl⟩
    rw [hm] at R
    clear h hm
    by_cases h1 : first < c.min
    · clear hi
      go_enter Tryz.func26, Tryz.ntmps26
      go_wp2_with (refine wpList_conf K.out.box rfl rfl rfl rfl ?_)
      refine (R.out _).mono ?_
      rintro e w1 ⟨rfl, hg⟩
      have K1 := hid (K.out.grown hg); clear hg
      have c12 := at_cell K1.out.box 12; have c13 := at_cell K1.out.box 13
      go_wp2_with fail
      go_ret
      exact ⟨rfl, K1.out.g⟩
    · have h2 : c.max < first := by omega
      clear hi
      go_enter Tryz.func26, Tryz.ntmps26
      go_wp2_with (refine wpList_conf K.out.box rfl rfl rfl rfl ?_)
      refine (R.out _).mono ?_
      rintro e w1 ⟨rfl, hg⟩
      have K1 := hid (K.out.grown hg); clear hg
      have c12 := at_cell K1.out.box 12; have c13 := at_cell K1.out.box 13
      go_wp2_with fail
      go_ret
      exact ⟨rfl, K1.out.g⟩
def RMade (w : World) (F : List Nat) (c : Conf) (p : Po) (e : Ending) (w' : World) : Prop := ∃ b, e = .returned (.pointer (some ⟨b, 0, none⟩)) ∧ PrAt w' (b :: F) b c p ∧ w.grownBy w' none ∧ w.heap.size ≤ b
theorem rpnew_ok (c : Conf) (first : Int) (hm : (rt c).may = true) (hi : inR (rt c) first = true) (F : List Nat) (w : World) (hF : ∀ x ∈ F, x < w.heap.size) :
    Calls Tryz.prog 26 #[cf c, .int .i64 first] w (RMade w F c ⟨rt c, [first]⟩) := by
  have K := hid (boxc_new w c)
  have R := hid (rmayr_any c)
  have hr := Rt.may_iff.1 hm
  have hf : c.min ≤ first ∧ first ≤ c.max := by
    unfold inR at hi
    simpa using hi
  have hok := hid (Po.new_ok hr hf.1 hf.2)
  rw [hm] at R
  have L := hid (fun (W : World) (hs : ∀ x ∈ F, x < W.heap.size) => (show PrAt ((W.alloc (.cells #[.int .i64 first] 3)).alloc (.cells (prCells c (.slice (some ⟨W.heap.size, 0, none⟩) 1 1)) 52)) ((W.heap.size + 1) :: F) (W.heap.size + 1) c ⟨rt c, [first]⟩ from
    ⟨⟨some ⟨W.heap.size, 0, none⟩, 1, by rw [← size_la W (.cells #[.int .i64 first] 3)]; exact at_new _ _, (num_new W [first] _ rfl 1 rfl (le_max _ (by simp))).grown (World.grownBy_alloc _ _ _), fun a e hm => by
      cases e
      rcases List.mem_cons.1 hm with h | h
      · exact absurd h (by show W.heap.size ≠ W.heap.size + 1; omega)
      · exact absurd (hs _ h) (Nat.lt_irrefl _)⟩, List.mem_cons_self .., fun x hx => by
      rw [size_la, size_la]
      rcases List.mem_cons.1 hx with rfl | hx
      · exact Nat.lt_succ_self _
      · exact Nat.lt_succ_of_lt (Nat.lt_succ_of_lt (hs x hx)), hok.out, rfl⟩))
  have HF := hid hF
  clear hm hi hr hF
  obtain ⟨f0, f1⟩ := hf
  go_enter Tryz.func26, Tryz.ntmps26
  go_wp2_with (refine wpList_conf K.out.box rfl rfl rfl rfl ?_)
  refine (R.out _).mono ?_
  rintro e w1 ⟨rfl, hg⟩
  have K1 := hid (K.out.grown hg); clear hg
  have c12 := at_cell K1.out.box 12; have c13 := at_cell K1.out.box 13
  go_wp2_with (first | refine wpList_conf K1.out.box rfl rfl rfl rfl ?_ | refine wpList_buildTo (ty := 52) (cs := prCells c (.slice (some ⟨w1.heap.size, 0, none⟩) 1 1)) rfl rfl rfl (by kernel_rfl) ?_)
  go_ret
  exact ⟨_, rfl, L.out w1 (fun x hx => Nat.lt_of_lt_of_le (HF.out x hx) K1.out.g.size), gb_alloc (gb_alloc K1.out.g _) _, Nat.le_succ_of_le K1.out.g.size⟩
set_option maxHeartbeats 3200000 in
theorem rplim_any {F : List Nat} {b : Nat} {c : Conf} {p : Po} (x : Int) {w : World} (H : PrAt w F b c p) :
    Calls Tryz.prog 34 #[.pointer (some ⟨b, 0, none⟩), .int .i64 x] w fun e w' => e = .returned (.int .i64 (p.lim x)) ∧ w.grownBy w' none := by
  have HB := hid (show 0 ≤ p.base ∧ p.base ≤ 10000 by
    have h1 := Po.base_in H.ok; have h2 := H.ok.r.mn; have h3 := H.ok.r.mx
    omega)
  have HL := hid (show p.lim x = min (max (min (max x (p.r.lo p.base)) (p.r.hi p.base)) p.r.mn) p.r.mx from rfl)
  have hbn := H.ok.r
  have HBX := hid (Po.base_in H.ok)
  rw [H.rc] at HL hbn HBX
  have RB := hid (rbounds_any c p.base)
  rw [show (rt c).bounds p.base = ((rt c).lo p.base, (rt c).hi p.base) from if_pos ⟨Rt.may_iff.2 hbn, HB.out.1, HB.out.2⟩] at RB
  have n1 := H.ok.n1
  have n60 := H.ok.n60
  obtain ⟨q, k, hrow, hi, -⟩ := H.row
  obtain ⟨ab, ao, rfl, -, hk, -⟩ := hi.cell n1
  have HB9 := hid (fun (W : World) (hg : w.grownBy W none) => show W.cell? ⟨ab, ao, none⟩ = some (.int .i64 p.base) from (hi.grown hg).cell' (show p.l[0]? = some p.base by rw [List.getElem?_eq_getElem n1, head_at]; rfl))
  generalize p.l.length = n at *
  have HROW := hid hrow
  have n1i : (0 : Int) < (n : Int) := by omega
  have n1n : 0 < n := n1
  have n1q : (1 : Int) ≤ (n : Int) := by omega
  have hlo := (Rt.lo_le (b := p.base) hbn HB.out.1); have hhi := Rt.hi_ge (b := p.base) hbn
  have HLH := hid (And.intro hlo hhi)
  generalize (rt c).lo p.base = lo at *
  generalize (rt c).hi p.base = hi' at *
  generalize p.base = z at *
  obtain ⟨y, hy⟩ : ∃ y, p.lim x = y := ⟨_, rfl⟩
  rw [hy] at HL
  have HY := hid hy
  clear hrow hi hbn H hlo hhi hy
  go_enter Tryz.func34, Tryz.ntmps34
  go_wp2_with fail
  refine wp_region_held_drew (S := (fun w' => (w'.heap[b]? = some (.cells (prCells c (.slice (some ⟨ab, ao, none⟩) n k)) 52)) ∧ (w.grownBy w' none))) (by kernel_rfl) ⟨HROW.out, gb_drew (.refl w none)⟩ (fun hHeld => ?_)
  try dsimp only at hHeld
  refine' wpAnyH_take (i := 0) (v := _) rfl (by kernel_rfl) (by kernel_rfl) (by kernel_rfl) (fun _ _ _ h => h) (Or.inl ⟨by rfl, ?_⟩) hHeld ?_
  rotate_left
  · (intro w hSw; (try dsimp only at hSw); go_simp; try with_reducible rfl)
  try simp only [Act.put, List.setIfInBounds_toArray, List.set_cons_zero, List.set_cons_succ, List.getElem_toArray, List.getElem_cons_succ, List.getElem_cons_zero]
  refine' wpAnyH_take (i := 1) (v := _) rfl (by kernel_rfl) (by kernel_rfl) (by kernel_rfl) (fun _ _ _ h => h) (Or.inl ⟨by rfl, ?_⟩) hHeld ?_
  rotate_left
  · (intro w hSw; (try dsimp only at hSw); go_simp; try with_reducible rfl)
  try simp only [Act.put, List.setIfInBounds_toArray, List.set_cons_zero, List.set_cons_succ, List.getElem_toArray, List.getElem_cons_succ, List.getElem_cons_zero]
  refine' wpAnyH_take (i := 2) (v := _) rfl (by kernel_rfl) (by kernel_rfl) (by kernel_rfl) (fun _ _ _ h => h) (Or.inl ⟨by rfl, ?_⟩) hHeld ?_
  rotate_left
  · (intro w hSw; (try dsimp only at hSw); go_simp; try with_reducible rfl)
  try simp only [Act.put, List.setIfInBounds_toArray, List.set_cons_zero, List.set_cons_succ, List.getElem_toArray, List.getElem_cons_succ, List.getElem_cons_zero]
  refine' wpAnyH_take (i := 3) (v := _) rfl (by kernel_rfl) (by kernel_rfl) (by kernel_rfl) (fun _ _ _ h => h) (Or.inl ⟨by rfl, ?_⟩) hHeld ?_
  rotate_left
  · (intro w hSw; (try dsimp only at hSw); (try simp only [List.getElem_toArray, List.getElem_cons_succ, List.getElem_cons_zero]); refine exec_mid27 (x := .tmp 10) (pr_mid (by obtain ⟨hw, KG⟩ := hSw; exact hw)) Tryz.underlying28 rfl (by kernel_rfl) ?_ ?_ <;> rfl)
  try simp only [Act.put, List.setIfInBounds_toArray, List.set_cons_zero, List.set_cons_succ, List.getElem_toArray, List.getElem_cons_succ, List.getElem_cons_zero]
  refine' wpAnyH_take (i := 4) (v := _) rfl (by kernel_rfl) (by kernel_rfl) (by kernel_rfl) (fun _ _ _ h => h) (Or.inl ⟨by rfl, ?_⟩) hHeld ?_
  rotate_left
  · (intro w hSw; (try dsimp only at hSw); go_simp; try with_reducible rfl)
  try simp only [Act.put, List.setIfInBounds_toArray, List.set_cons_zero, List.set_cons_succ, List.getElem_toArray, List.getElem_cons_succ, List.getElem_cons_zero]
  refine' wpAnyH_take (i := 5) (v := _) rfl (by kernel_rfl) (by kernel_rfl) (by kernel_rfl) (fun _ _ _ h => h) (Or.inl ⟨by rfl, ?_⟩) hHeld ?_
  rotate_left
  · (intro w hSw; (try dsimp only at hSw); go_simp; try with_reducible rfl)
  try simp only [Act.put, List.setIfInBounds_toArray, List.set_cons_zero, List.set_cons_succ, List.getElem_toArray, List.getElem_cons_succ, List.getElem_cons_zero]
  refine' wpAnyH_take (i := 6) (v := _) rfl (by kernel_rfl) (by kernel_rfl) (by kernel_rfl) (fun _ _ _ h => h) (Or.inl ⟨by rfl, ?_⟩) hHeld ?_
  rotate_left
  · (intro w hSw; (try dsimp only at hSw); go_simp; try with_reducible rfl)
  try simp only [Act.put, List.setIfInBounds_toArray, List.set_cons_zero, List.set_cons_succ, List.getElem_toArray, List.getElem_cons_succ, List.getElem_cons_zero]
  refine' wpAnyH_take (i := 7) (v := _) rfl (by kernel_rfl) (by kernel_rfl) (by kernel_rfl) (fun _ _ _ h => h) (Or.inl ⟨by rfl, ?_⟩) hHeld ?_
  rotate_left
  · (intro w hSw; (try dsimp only at hSw); obtain ⟨hw, KG⟩ := hSw; have c26 := at_cell hw 26; go_simp; try with_reducible rfl)
  try simp only [Act.put, List.setIfInBounds_toArray, List.set_cons_zero, List.set_cons_succ, List.getElem_toArray, List.getElem_cons_succ, List.getElem_cons_zero]
  refine' wpAnyH_take (i := 8) (v := _) rfl (by kernel_rfl) (by kernel_rfl) (by kernel_rfl) (fun _ _ _ h => h) (Or.inl ⟨by rfl, ?_⟩) hHeld ?_
  rotate_left
  · (intro w hSw; (try dsimp only at hSw); go_simp; try with_reducible rfl)
  try simp only [Act.put, List.setIfInBounds_toArray, List.set_cons_zero, List.set_cons_succ, List.getElem_toArray, List.getElem_cons_succ, List.getElem_cons_zero]
  refine' wpAnyH_take (i := 9) (v := _) rfl (by kernel_rfl) (by kernel_rfl) (by kernel_rfl) (fun _ _ _ h => h) (Or.inl ⟨by rfl, ?_⟩) hHeld ?_
  rotate_left
  · (intro w hSw; (try dsimp only at hSw); obtain ⟨hw, KG⟩ := hSw; have q9 := HB9.out _ KG; go_simp; try with_reducible rfl)
  try simp only [Act.put, List.setIfInBounds_toArray, List.set_cons_zero, List.set_cons_succ, List.getElem_toArray, List.getElem_cons_succ, List.getElem_cons_zero]
  refine wpAnyH_ready (rs := [10]) (by kernel_rfl) (by simp) ?_
  refine AllReadyH.cons (o := _) rfl (fun K hK => ?_) AllReadyH.nil
  try simp only [List.getElem_toArray, List.getElem_cons_succ, List.getElem_cons_zero]
  go_simp
  have hH2 := hHeld
  obtain ⟨hw, KG⟩ := hH2
  refine ((RB.out _)).mono ?_
  rintro e w1010 ⟨rfl, hg⟩
  have L10 := hid (show (w1010.heap[b]? = some (.cells (prCells c (.slice (some ⟨ab, ao, none⟩) n k)) 52)) ∧ (w.grownBy w1010 none) from ⟨at_grown hw hg (by simp), gb_trans KG hg (.inl rfl)⟩)
  clear hHeld hg hw KG
  go_wp2_with fail
  refine hK.out _ _ ?_ (fun hHeld => ?_)
  · exact L10.out
  clear hK K
  try dsimp only at hHeld
  try simp only [Act.put, List.setIfInBounds_toArray, List.set_cons_zero, List.set_cons_succ, List.getElem_toArray, List.getElem_cons_succ, List.getElem_cons_zero]
  refine' wpAnyH_take (i := 11) (v := _) rfl (by kernel_rfl) (by kernel_rfl) (by kernel_rfl) (fun _ _ _ h => h) (Or.inl ⟨by rfl, ?_⟩) hHeld ?_
  rotate_left
  · (intro w hSw; (try dsimp only at hSw); go_simp; try with_reducible rfl)
  try simp only [Act.put, List.setIfInBounds_toArray, List.set_cons_zero, List.set_cons_succ, List.getElem_toArray, List.getElem_cons_succ, List.getElem_cons_zero]
  refine' wpAnyH_take (i := 12) (v := _) rfl (by kernel_rfl) (by kernel_rfl) (by kernel_rfl) (fun _ _ _ h => h) (Or.inl ⟨by rfl, ?_⟩) hHeld ?_
  rotate_left
  · (intro w hSw; (try dsimp only at hSw); go_simp; try with_reducible rfl)
  try simp only [Act.put, List.setIfInBounds_toArray, List.set_cons_zero, List.set_cons_succ, List.getElem_toArray, List.getElem_cons_succ, List.getElem_cons_zero]
  refine' wpAnyH_take (i := 13) (v := _) rfl (by kernel_rfl) (by kernel_rfl) (by kernel_rfl) (fun _ _ _ h => h) (Or.inl ⟨by rfl, ?_⟩) hHeld ?_
  rotate_left
  · (intro w hSw; (try dsimp only at hSw); go_simp; try with_reducible rfl)
  try simp only [Act.put, List.setIfInBounds_toArray, List.set_cons_zero, List.set_cons_succ, List.getElem_toArray, List.getElem_cons_succ, List.getElem_cons_zero]
  refine' wpAnyH_take (i := 14) (v := _) rfl (by kernel_rfl) (by kernel_rfl) (by kernel_rfl) (fun _ _ _ h => h) (Or.inl ⟨by rfl, ?_⟩) hHeld ?_
  rotate_left
  · (intro w hSw; (try dsimp only at hSw); go_simp; try with_reducible rfl)
  try simp only [Act.put, List.setIfInBounds_toArray, List.set_cons_zero, List.set_cons_succ, List.getElem_toArray, List.getElem_cons_succ, List.getElem_cons_zero]
  refine' wpAnyH_take (i := 15) (v := _) rfl (by kernel_rfl) (by kernel_rfl) (by kernel_rfl) (fun _ _ _ h => h) (Or.inl ⟨by rfl, ?_⟩) hHeld ?_
  rotate_left
  · (intro w hSw; (try dsimp only at hSw); go_simp; try with_reducible rfl)
  try simp only [Act.put, List.setIfInBounds_toArray, List.set_cons_zero, List.set_cons_succ, List.getElem_toArray, List.getElem_cons_succ, List.getElem_cons_zero]
  refine wpAnyH_done (by kernel_rfl) ?_ _
  obtain ⟨hw, KG⟩ := hHeld
  have HR := hid hw; have HG := hid KG; clear hw KG
  go_wp2_with fail
  have c12 := at_cell HR.out 12; have c13 := at_cell HR.out 13
  go_quiet (fail)
  go_wp2_with fail
  all_goals go_ret
  all_goals exact ⟨congrArg (fun z => Ending.returned (.int .i64 z)) (by rw [HY.out, HL.out]; try omega), gb_trans HG.out ⟨rfl, rfl, rfl, Nat.le_refl _, fun _ _ _ => rfl⟩ (.inl rfl)⟩
end Go.Proofs.YthobbekocimcnaaGreat
end
section
set_option linter.unusedSimpArgs false
set_option linter.unusedVariables false
namespace Go.Proofs.YthobbekocimcnaaGreat
set_option maxRecDepth 100000
open Go.RowKit

theorem rlast_g (ab ao n c k : Nat) (h1 : 1 ≤ n) (h2 : 1 ≤ k) (h3 : n ≤ c) (h4 : n ≤ 1000) (h5 : k ≤ 1000) (w : World) :
    Calls Tryz.prog 50 #[.slice (some ⟨ab, ao, none⟩) n c, .int .i64 (k : Int)] w fun e w' => e = .returned (.slice (some ⟨ab, ao + (n - k), none⟩) (n - (n - k)) (c - (n - k))) ∧ w.grownBy w' none :=
  (rlast_any ab ao n c k h1 h2 h3 h4 h5 w).mono fun e w' h => ⟨h.1, by rw [← h.2]; exact .refl w none⟩
theorem own_form {base : Nat} {w : World} {v : Value} {l : List Int} (h : OwnN base w v l) (hl : l ≠ []) : ∃ ab ao n m, v = .slice (some ⟨ab, ao, none⟩) n m ∧ n = l.length ∧ n ≤ m := by
  have hI := h.ints
  obtain ⟨p, m, rfl⟩ := h.form
  obtain ⟨ab, ao, rfl, -, hm, -⟩ := hI.cell (List.length_pos_iff.2 hl)
  exact ⟨ab, ao, _, m, rfl, rfl, hm⟩
/-- a list of the call's own, its last ones, ahead of their store -/
theorem pr_put {F : List Nat} {b : Nat} {c : Conf} {p : Po} {w w1 : World} {ab ao n m k : Nat} {l : List Int} (H : PrAt w F b c p) (hg : w.grownBy w1 none) (hown : OwnN w.heap.size w1 (.slice (some ⟨ab, ao, none⟩) n m) l) (hn : n = l.length) (hk : 1 ≤ k) (hl : l ≠ []) (ho : (Po.mk p.r (lastL l k)).Ok) :
    (∃ x, w1.cell? ⟨b, 26, none⟩ = some x) ∧ w1.frozen? ⟨b, 26, none⟩ = false ∧
      (PrAt (w1.setCell ⟨b, 26, none⟩ (.slice (some ⟨ab, ao + (n - k), none⟩) (n - (n - k)) (m - (n - k)))) F b c ⟨p.r, lastL l k⟩ ∧ Chg [b] w (w1.setCell ⟨b, 26, none⟩ (.slice (some ⟨ab, ao + (n - k), none⟩) (n - (n - k)) (m - (n - k))))) := by
  have CB := H.grown hg
  have hI := hown.ints
  have PB : ab ∉ F := fun hm => by
    have h1 := (hown.at ab (by simp [ownL, Value.ownBlock])).1
    have h2 := H.lt _ hm
    omega
  have h1 := ints_slice1 hI (Nat.sub_le n k)
  have e1 : (lastL l k).length = n - (n - k) := by unfold lastL; rw [List.length_drop, ← hn]
  have e2 : lastL l k = l.drop (n - k) := by unfold lastL; rw [← hn]
  have FIN := CB.put (l := lastL l k) (by rw [e1, e2]; exact h1) (fun a e => by cases e; exact PB) ho
  rw [e1] at FIN
  obtain ⟨⟨q, r, h1, -, -⟩, -⟩ := CB
  exact ⟨⟨_, at_cell h1 26⟩, at_free h1 26, FIN.1, (chg_grown hg [b]).then FIN.2⟩
theorem rput_no {F : List Nat} {b : Nat} {c : Conf} {p : Po} (x : Int) (hx : p.in x = false) {w : World} (H : PrAt w F b c p) :
    Calls Tryz.prog 29 #[.pointer (some ⟨b, 0, none⟩), .int .i64 x] w fun e w' => e = .returned (.int .i64 1) ∧ w.grownBy w' none := by
  have hx' : ¬ (c.min ≤ x ∧ x ≤ c.max) := fun hb => by
    have : p.in x = true := Po.in_iff.2 (by rw [H.rc]; exact hb)
    rw [hx] at this; cases this
  obtain ⟨c12, c13, -, fz⟩ := H.cells
  clear H hx
  by_cases h1 : x < c.min
  · clear hx'
    go_enter Tryz.func29, Tryz.ntmps29
    go_wp2_with fail
    go_ret
    exact ⟨rfl, .refl w none⟩
  · have h2 : c.max < x := by omega
    clear hx'
    go_enter Tryz.func29, Tryz.ntmps29
    go_wp2_with fail
    go_ret
    exact ⟨rfl, .refl w none⟩
set_option maxHeartbeats 6400000 in
theorem rput_yes {F : List Nat} {b : Nat} {c : Conf} {p : Po} (x : Int) (hx : p.in x = true) {w : World} (H : PrAt w F b c p) :
    Calls Tryz.prog 29 #[.pointer (some ⟨b, 0, none⟩), .int .i64 x] w fun e w' => e = .returned (.int .i64 0) ∧ PrAt w' F b c (p.put x).2 ∧ Chg [b] w w' := by
  have hin := Po.in_iff.1 hx
  rw [H.rc] at hin
  have h0 : c.min ≤ x := hin.1
  have h1 : x ≤ c.max := hin.2
  have hok := Po.put_ok H.ok x
  have hper := H.ok.r.per
  have HN60 := hid H.ok.n60
  have HH := hid H
  have hpr : p.r.per = c.period := by rw [H.rc]
  obtain ⟨m, hm⟩ : ∃ m : Nat, c.period = (m : Int) := ⟨c.period.toNat, by omega⟩
  have HM := hid (show 1 ≤ m ∧ m ≤ 60 by omega)
  have HEQ := hid (show (⟨p.r, lastL (p.l ++ [x]) m⟩ : Po) = (p.put x).2 by rw [Po.put_yes hx, hpr, hm]; rfl)
  have HOK := hid (show (⟨p.r, lastL (p.l ++ [x]) m⟩ : Po).Ok by rw [HEQ.out]; exact hok)
  obtain ⟨c12, c13, c20, fz⟩ := H.cells
  rw [hm] at c20
  have CP := hid (fun (W : World) (hg : w.grownBy W none) => show W.cell? ⟨b, 20, none⟩ = some (.int .i64 (m : Int)) from by rw [← hm]; exact (H.grown hg).cells.2.2.1)
  obtain ⟨⟨q, k, hrow, hi, -⟩, -⟩ := H
  obtain ⟨l0, hl0⟩ : ∃ l, p.l = l := ⟨_, rfl⟩
  rw [hl0] at hrow hi HN60 HEQ HOK
  obtain ⟨n0, hn0⟩ : ∃ n, l0.length = n := ⟨_, rfl⟩
  have HN0 := hid hn0
  rw [hn0] at hrow hi HN60
  have HNL := hid (show n0 + 1 = (l0 ++ [x]).length by rw [List.length_append, hn0]; rfl)
  have HI := hid (fun (W : World) (hg : w.grownBy W none) => hi.grown hg)
  have CL := hid (fun (W : World) (hg : w.grownBy W none) => show W.cell? ⟨b, 26, none⟩ = some (.slice q n0 k) from at_cell (at_grown hrow hg (by simp)) 26)
  clear hx hin hok hper hpr hm hrow hi hl0 hn0 c20
  go_enter Tryz.func29, Tryz.ntmps29
  go_wp2_with fail
  clear c12 c13 h0 h1
  refine wp_region_last (S := (fun w' => (w.grownBy w' none))) 18 18 #[false, false, false, false, false, false, false, false, false, false, false, false, false, false, false, false, false, false, true] (by kernel_rfl) (by kernel_rfl) (by kernel_rfl) (by kernel_rfl) (gb_drew (.refl w none)) (fun hHeld => ?_)
  try dsimp only at hHeld
  refine' wpAnyH_take (i := 0) (v := _) rfl (by kernel_rfl) (by kernel_rfl) (by kernel_rfl) (fun _ _ _ h => h) (Or.inl ⟨by rfl, ?_⟩) hHeld ?_
  rotate_left
  · (intro w hSw; (try dsimp only at hSw); go_simp; try with_reducible rfl)
  try simp only [Act.put, List.setIfInBounds_toArray, List.set_cons_zero, List.set_cons_succ, List.getElem_toArray, List.getElem_cons_succ, List.getElem_cons_zero]
  refine' wpAnyH_take (i := 2) (v := _) rfl (by kernel_rfl) (by kernel_rfl) (by kernel_rfl) (fun _ _ _ h => h) (Or.inl ⟨by rfl, ?_⟩) hHeld ?_
  rotate_left
  · (intro w hSw; (try dsimp only at hSw); go_simp; try with_reducible rfl)
  try simp only [Act.put, List.setIfInBounds_toArray, List.set_cons_zero, List.set_cons_succ, List.getElem_toArray, List.getElem_cons_succ, List.getElem_cons_zero]
  refine' wpAnyH_take (i := 3) (v := _) rfl (by kernel_rfl) (by kernel_rfl) (by kernel_rfl) (fun _ _ _ h => h) (Or.inl ⟨by rfl, ?_⟩) hHeld ?_
  rotate_left
  · (intro w hSw; (try dsimp only at hSw); go_simp; try with_reducible rfl)
  try simp only [Act.put, List.setIfInBounds_toArray, List.set_cons_zero, List.set_cons_succ, List.getElem_toArray, List.getElem_cons_succ, List.getElem_cons_zero]
  refine' wpAnyH_take (i := 4) (v := _) rfl (by kernel_rfl) (by kernel_rfl) (by kernel_rfl) (fun _ _ _ h => h) (Or.inl ⟨by rfl, ?_⟩) hHeld ?_
  rotate_left
  · (intro w hSw; (try dsimp only at hSw); go_simp; try with_reducible rfl)
  try simp only [Act.put, List.setIfInBounds_toArray, List.set_cons_zero, List.set_cons_succ, List.getElem_toArray, List.getElem_cons_succ, List.getElem_cons_zero]
  refine' wpAnyH_take (i := 5) (v := _) rfl (by kernel_rfl) (by kernel_rfl) (by kernel_rfl) (fun _ _ _ h => h) (Or.inl ⟨by rfl, ?_⟩) hHeld ?_
  rotate_left
  · (intro w hSw; (try dsimp only at hSw); have kg := hSw; have q9 := CL.out _ kg; go_simp; try with_reducible rfl)
  try simp only [Act.put, List.setIfInBounds_toArray, List.set_cons_zero, List.set_cons_succ, List.getElem_toArray, List.getElem_cons_succ, List.getElem_cons_zero]
  refine' wpAnyH_take (i := 7) (v := _) rfl (by kernel_rfl) (by kernel_rfl) (by kernel_rfl) (fun _ _ _ h => h) (Or.inl ⟨by rfl, ?_⟩) hHeld ?_
  rotate_left
  · (intro w hSw; (try dsimp only at hSw); go_simp; try with_reducible rfl)
  try simp only [Act.put, List.setIfInBounds_toArray, List.set_cons_zero, List.set_cons_succ, List.getElem_toArray, List.getElem_cons_succ, List.getElem_cons_zero]
  refine' wpAnyH_take (i := 10) (v := _) rfl (by kernel_rfl) (by kernel_rfl) (by kernel_rfl) (fun _ _ _ h => h) (Or.inl ⟨by rfl, ?_⟩) hHeld ?_
  rotate_left
  · (intro w hSw; (try dsimp only at hSw); go_simp; try with_reducible rfl)
  try simp only [Act.put, List.setIfInBounds_toArray, List.set_cons_zero, List.set_cons_succ, List.getElem_toArray, List.getElem_cons_succ, List.getElem_cons_zero]
  refine' wpAnyH_take (i := 11) (v := _) rfl (by kernel_rfl) (by kernel_rfl) (by kernel_rfl) (fun _ _ _ h => h) (Or.inl ⟨by rfl, ?_⟩) hHeld ?_
  rotate_left
  · (intro w hSw; (try dsimp only at hSw); go_simp; try with_reducible rfl)
  try simp only [Act.put, List.setIfInBounds_toArray, List.set_cons_zero, List.set_cons_succ, List.getElem_toArray, List.getElem_cons_succ, List.getElem_cons_zero]
  refine' wpAnyH_take (i := 12) (v := _) rfl (by kernel_rfl) (by kernel_rfl) (by kernel_rfl) (fun _ _ _ h => h) (Or.inl ⟨by rfl, ?_⟩) hHeld ?_
  rotate_left
  · (intro w hSw; (try dsimp only at hSw); go_simp; try with_reducible rfl)
  try simp only [Act.put, List.setIfInBounds_toArray, List.set_cons_zero, List.set_cons_succ, List.getElem_toArray, List.getElem_cons_succ, List.getElem_cons_zero]
  refine' wpAnyH_take (i := 13) (v := _) rfl (by kernel_rfl) (by kernel_rfl) (by kernel_rfl) (fun _ _ _ h => h) (Or.inl ⟨by rfl, ?_⟩) hHeld ?_
  rotate_left
  · (intro w hSw; (try dsimp only at hSw); go_simp; try with_reducible rfl)
  try simp only [Act.put, List.setIfInBounds_toArray, List.set_cons_zero, List.set_cons_succ, List.getElem_toArray, List.getElem_cons_succ, List.getElem_cons_zero]
  refine' wpAnyH_take (i := 14) (v := _) rfl (by kernel_rfl) (by kernel_rfl) (by kernel_rfl) (fun _ _ _ h => h) (Or.inl ⟨by rfl, ?_⟩) hHeld ?_
  rotate_left
  · (intro w hSw; (try dsimp only at hSw); have kg := hSw; have q9 := CP.out _ kg; go_simp; try with_reducible rfl)
  try simp only [Act.put, List.setIfInBounds_toArray, List.set_cons_zero, List.set_cons_succ, List.getElem_toArray, List.getElem_cons_succ, List.getElem_cons_zero]
  refine wpAnyH_ready (rs := [1, 8]) (by kernel_rfl) (by simp) ?_
  refine AllReadyH.cons (o := _) rfl (fun K hK => ?_) (AllReadyH.cons (o := _) rfl (fun K hK => ?_) AllReadyH.nil)
  · have hH2 := hHeld
    have kg := hH2
    have hg : w.drew.grownBy (w.drew.alloc (.cells #[] 3)) none := World.grownBy_alloc _ _ _
    try replace LT := hid (at_grown LT.out hg (by simp))
    try replace O1 := hid (O1.out.grown hg)
    have OE := hid (show OwnN w.heap.size (w.drew.alloc (.cells #[] 3)) (.slice (some ⟨w.heap.size, 0, none⟩) 0 0) [] from by have h := (OwnN.empty w.drew).le kg.size; (try rw [size_la] at h); exact h)
    have L1 := hid (show (w.grownBy (w.drew.alloc (.cells #[] 3)) none) from (gb_trans kg hg (.inl rfl)))
    clear hHeld hg kg
    try simp only [List.getElem_toArray, List.getElem_cons_succ, List.getElem_cons_zero]
    go_simp
    refine hK.out _ _ ?_ (fun hHeld => ?_)
    · exact L1.out
    clear hK K
    try dsimp only at hHeld
    try simp only [Act.put, List.setIfInBounds_toArray, List.set_cons_zero, List.set_cons_succ, List.getElem_toArray, List.getElem_cons_succ, List.getElem_cons_zero]
    refine wpAnyH_ready (rs := [6, 8]) (by kernel_rfl) (by simp) ?_
    refine AllReadyH.cons (o := _) rfl (fun K hK => ?_) (AllReadyH.cons (o := _) rfl (fun K hK => ?_) AllReadyH.nil)
    · have hH2 := hHeld
      have kg := hH2
      try simp only [List.getElem_toArray, List.getElem_cons_succ, List.getElem_cons_zero]
      rw [if_pos (by rfl)]
      refine wp_append_nums _ _ rfl w.heap.size _ [] rfl OE.out _ l0 rfl (HI.out _ kg) (by rw [HN0.out]; have := HN60.out; simp; omega) kg.size ?_
      intro v1 wA hown hgrow hat
      have O1 := hid (show OwnN w.heap.size wA v1 l0 from by simpa using hown)
      have G1 := hid (gb_ownN kg OE.out (Nat.le_refl _) hgrow)
      try replace LT := hid (at_grown LT.out hgrow (by intro h; first | (have h2 : w.heap.size = w.heap.size + 1 := Option.some.inj h; omega) | (have h2 : w.heap.size + 1 = w.heap.size := Option.some.inj h; omega)))
      clear hown hgrow hat OE
      have L6 := hid (show (w.grownBy wA none) from G1.out)
      clear hHeld kg
      refine hK.out _ _ ?_ (fun hHeld => ?_)
      · exact L6.out
      clear hK K
      try dsimp only at hHeld
      try simp only [Act.put, List.setIfInBounds_toArray, List.set_cons_zero, List.set_cons_succ, List.getElem_toArray, List.getElem_cons_succ, List.getElem_cons_zero]
      refine wpAnyH_ready (rs := [8]) (by kernel_rfl) (by simp) ?_
      refine AllReadyH.cons (o := _) rfl (fun K hK => ?_) AllReadyH.nil
      have hH2 := hHeld
      have kg := hH2
      have hg : wA.grownBy (wA.alloc (.cells #[.int .i64 x] 3)) none := World.grownBy_alloc _ _ _
      try replace OE := hid (OE.out.grown hg)
      try replace O1 := hid (O1.out.grown hg)
      have LT := hid (show (wA.alloc (.cells #[.int .i64 x] 3)).heap[wA.heap.size]? = some (.cells #[.int .i64 x] 3) from by have h := at_new wA (.cells #[.int .i64 x] 3); (try rw [size_la] at h); exact h)
      have L8 := hid (show (w.grownBy (wA.alloc (.cells #[.int .i64 x] 3)) none) from (gb_trans kg hg (.inl rfl)))
      clear hHeld hg kg
      try simp only [List.getElem_toArray, List.getElem_cons_succ, List.getElem_cons_zero]
      go_simp
      refine hK.out _ _ ?_ (fun hHeld => ?_)
      · exact L8.out
      clear hK K
      try dsimp only at hHeld
      try simp only [Act.put, List.setIfInBounds_toArray, List.set_cons_zero, List.set_cons_succ, List.getElem_toArray, List.getElem_cons_succ, List.getElem_cons_zero]
      refine wpAnyH_ready (rs := [9]) (by kernel_rfl) (by simp) ?_
      refine AllReadyH.cons (o := _) rfl (fun K hK => ?_) AllReadyH.nil
      have hH2 := hHeld
      have kg := hH2
      try simp only [List.getElem_toArray, List.getElem_cons_succ, List.getElem_cons_zero]
      rw [if_pos (by rfl)]
      refine wp_append_nums _ _ rfl w.heap.size _ l0 rfl O1.out _ [x] rfl (nums_of_cells [x] LT.out (le_max _ (by simp))) (by rw [HN0.out]; have := HN60.out; simp; omega) kg.size ?_
      intro v2 wB hown hgrow hat
      have O2 := hid hown
      have G2 := hid (gb_ownN kg O1.out (Nat.le_refl _) hgrow)
      clear hown hgrow hat LT O1
      obtain ⟨ab, ao, nn, mm, rfl, hnn, hnm⟩ := own_form O2.out (by simp)
      rw [List.length_append, HN0.out, List.length_singleton] at hnn
      have HNN := hid (And.intro hnn hnm)
      clear hnn hnm
      have L9 := hid (show (w.grownBy wB none) from G2.out)
      clear hHeld kg
      refine hK.out _ _ ?_ (fun hHeld => ?_)
      · exact L9.out
      clear hK K
      try dsimp only at hHeld
      try simp only [Act.put, List.setIfInBounds_toArray, List.set_cons_zero, List.set_cons_succ, List.getElem_toArray, List.getElem_cons_succ, List.getElem_cons_zero]
      refine wpAnyH_ready (rs := [15]) (by kernel_rfl) (by simp) ?_
      refine AllReadyH.cons (o := _) rfl (fun K hK => ?_) AllReadyH.nil
      try simp only [List.getElem_toArray, List.getElem_cons_succ, List.getElem_cons_zero]
      go_simp
      have hH2 := hHeld
      have kg := hH2
      refine ((rlast_g ab ao nn mm m (by have := HNN.out; omega) HM.out.1 HNN.out.2 (by have := HNN.out; have := HN60.out; omega) (by have := HM.out; omega) _)).mono ?_
      rintro e w1015 ⟨rfl, hg⟩
      have O3 := hid (O2.out.grown hg)
      have L15 := hid (show (w.grownBy w1015 none) from (gb_trans kg hg (.inl rfl)))
      clear hHeld hg kg
      go_wp2_with fail
      refine hK.out _ _ ?_ (fun hHeld => ?_)
      · exact L15.out
      clear hK K
      try dsimp only at hHeld
      try simp only [Act.put, List.setIfInBounds_toArray, List.set_cons_zero, List.set_cons_succ, List.getElem_toArray, List.getElem_cons_succ, List.getElem_cons_zero]
      refine' wpAnyH_take (i := 16) (v := _) rfl (by kernel_rfl) (by kernel_rfl) (by kernel_rfl) (fun _ _ _ h => h) (Or.inl ⟨by rfl, ?_⟩) hHeld ?_
      rotate_left
      · (intro w hSw; (try dsimp only at hSw); go_simp; try with_reducible rfl)
      try simp only [Act.put, List.setIfInBounds_toArray, List.set_cons_zero, List.set_cons_succ, List.getElem_toArray, List.getElem_cons_succ, List.getElem_cons_zero]
      refine' wpAnyH_take (i := 17) (v := _) rfl (by kernel_rfl) (by kernel_rfl) (by kernel_rfl) (fun _ _ _ h => h) (Or.inl ⟨by rfl, ?_⟩) hHeld ?_
      rotate_left
      · (intro w hSw; (try dsimp only at hSw); go_simp; try with_reducible rfl)
      try simp only [Act.put, List.setIfInBounds_toArray, List.set_cons_zero, List.set_cons_succ, List.getElem_toArray, List.getElem_cons_succ, List.getElem_cons_zero]
      refine wpAnyH_done (by kernel_rfl) ?_ _
      have kg := hHeld
      obtain ⟨⟨x2, c2⟩, f2, hfin⟩ := pr_put HH.out kg O3.out (HNN.out.1.trans HNL.out) (k := m) HM.out.1 (by simp) HOK.out
      have HFIN := hid hfin
      clear hfin kg
      refine atLast_step (o := _) rfl (fun K hK => ?_)
      try simp only [List.getElem_toArray, List.getElem_cons_succ, List.getElem_cons_zero]
      go_simp
      refine hK.out _ _ ?_
      clear hK K c2 f2
      try simp only [Act.put, List.setIfInBounds_toArray, List.set_cons_zero, List.set_cons_succ, List.getElem_toArray, List.getElem_cons_succ, List.getElem_cons_zero]
      go_wp2_with fail
      go_ret
      exact ⟨rfl, HEQ.out ▸ HFIN.out⟩
    · have hH2 := hHeld
      have kg := hH2
      have hg : (w.drew.alloc (.cells #[] 3)).grownBy ((w.drew.alloc (.cells #[] 3)).alloc (.cells #[.int .i64 x] 3)) none := World.grownBy_alloc _ _ _
      try replace OE := hid (OE.out.grown hg)
      try replace O1 := hid (O1.out.grown hg)
      have LT := hid (show ((w.drew.alloc (.cells #[] 3)).alloc (.cells #[.int .i64 x] 3)).heap[(w.heap.size + 1)]? = some (.cells #[.int .i64 x] 3) from by have h := at_new (w.drew.alloc (.cells #[] 3)) (.cells #[.int .i64 x] 3); (try rw [size_la] at h); exact h)
      have L8 := hid (show (w.grownBy ((w.drew.alloc (.cells #[] 3)).alloc (.cells #[.int .i64 x] 3)) none) from (gb_trans kg hg (.inl rfl)))
      clear hHeld hg kg
      try simp only [List.getElem_toArray, List.getElem_cons_succ, List.getElem_cons_zero]
      go_simp
      refine hK.out _ _ ?_ (fun hHeld => ?_)
      · exact L8.out
      clear hK K
      try dsimp only at hHeld
      try simp only [Act.put, List.setIfInBounds_toArray, List.set_cons_zero, List.set_cons_succ, List.getElem_toArray, List.getElem_cons_succ, List.getElem_cons_zero]
      refine wpAnyH_ready (rs := [6]) (by kernel_rfl) (by simp) ?_
      refine AllReadyH.cons (o := _) rfl (fun K hK => ?_) AllReadyH.nil
      have hH2 := hHeld
      have kg := hH2
      try simp only [List.getElem_toArray, List.getElem_cons_succ, List.getElem_cons_zero]
      rw [if_pos (by rfl)]
      refine wp_append_nums _ _ rfl w.heap.size _ [] rfl OE.out _ l0 rfl (HI.out _ kg) (by rw [HN0.out]; have := HN60.out; simp; omega) kg.size ?_
      intro v1 wA hown hgrow hat
      have O1 := hid (show OwnN w.heap.size wA v1 l0 from by simpa using hown)
      have G1 := hid (gb_ownN kg OE.out (Nat.le_refl _) hgrow)
      try replace LT := hid (at_grown LT.out hgrow (by intro h; first | (have h2 : w.heap.size = w.heap.size + 1 := Option.some.inj h; omega) | (have h2 : w.heap.size + 1 = w.heap.size := Option.some.inj h; omega)))
      clear hown hgrow hat OE
      have L6 := hid (show (w.grownBy wA none) from G1.out)
      clear hHeld kg
      refine hK.out _ _ ?_ (fun hHeld => ?_)
      · exact L6.out
      clear hK K
      try dsimp only at hHeld
      try simp only [Act.put, List.setIfInBounds_toArray, List.set_cons_zero, List.set_cons_succ, List.getElem_toArray, List.getElem_cons_succ, List.getElem_cons_zero]
      refine wpAnyH_ready (rs := [9]) (by kernel_rfl) (by simp) ?_
      refine AllReadyH.cons (o := _) rfl (fun K hK => ?_) AllReadyH.nil
      have hH2 := hHeld
      have kg := hH2
      try simp only [List.getElem_toArray, List.getElem_cons_succ, List.getElem_cons_zero]
      rw [if_pos (by rfl)]
      refine wp_append_nums _ _ rfl w.heap.size _ l0 rfl O1.out _ [x] rfl (nums_of_cells [x] LT.out (le_max _ (by simp))) (by rw [HN0.out]; have := HN60.out; simp; omega) kg.size ?_
      intro v2 wB hown hgrow hat
      have O2 := hid hown
      have G2 := hid (gb_ownN kg O1.out (Nat.le_refl _) hgrow)
      clear hown hgrow hat LT O1
      obtain ⟨ab, ao, nn, mm, rfl, hnn, hnm⟩ := own_form O2.out (by simp)
      rw [List.length_append, HN0.out, List.length_singleton] at hnn
      have HNN := hid (And.intro hnn hnm)
      clear hnn hnm
      have L9 := hid (show (w.grownBy wB none) from G2.out)
      clear hHeld kg
      refine hK.out _ _ ?_ (fun hHeld => ?_)
      · exact L9.out
      clear hK K
      try dsimp only at hHeld
      try simp only [Act.put, List.setIfInBounds_toArray, List.set_cons_zero, List.set_cons_succ, List.getElem_toArray, List.getElem_cons_succ, List.getElem_cons_zero]
      refine wpAnyH_ready (rs := [15]) (by kernel_rfl) (by simp) ?_
      refine AllReadyH.cons (o := _) rfl (fun K hK => ?_) AllReadyH.nil
      try simp only [List.getElem_toArray, List.getElem_cons_succ, List.getElem_cons_zero]
      go_simp
      have hH2 := hHeld
      have kg := hH2
      refine ((rlast_g ab ao nn mm m (by have := HNN.out; omega) HM.out.1 HNN.out.2 (by have := HNN.out; have := HN60.out; omega) (by have := HM.out; omega) _)).mono ?_
      rintro e w1015 ⟨rfl, hg⟩
      have O3 := hid (O2.out.grown hg)
      have L15 := hid (show (w.grownBy w1015 none) from (gb_trans kg hg (.inl rfl)))
      clear hHeld hg kg
      go_wp2_with fail
      refine hK.out _ _ ?_ (fun hHeld => ?_)
      · exact L15.out
      clear hK K
      try dsimp only at hHeld
      try simp only [Act.put, List.setIfInBounds_toArray, List.set_cons_zero, List.set_cons_succ, List.getElem_toArray, List.getElem_cons_succ, List.getElem_cons_zero]
      refine' wpAnyH_take (i := 16) (v := _) rfl (by kernel_rfl) (by kernel_rfl) (by kernel_rfl) (fun _ _ _ h => h) (Or.inl ⟨by rfl, ?_⟩) hHeld ?_
      rotate_left
      · (intro w hSw; (try dsimp only at hSw); go_simp; try with_reducible rfl)
      try simp only [Act.put, List.setIfInBounds_toArray, List.set_cons_zero, List.set_cons_succ, List.getElem_toArray, List.getElem_cons_succ, List.getElem_cons_zero]
      refine' wpAnyH_take (i := 17) (v := _) rfl (by kernel_rfl) (by kernel_rfl) (by kernel_rfl) (fun _ _ _ h => h) (Or.inl ⟨by rfl, ?_⟩) hHeld ?_
      rotate_left
      · (intro w hSw; (try dsimp only at hSw); go_simp; try with_reducible rfl)
      try simp only [Act.put, List.setIfInBounds_toArray, List.set_cons_zero, List.set_cons_succ, List.getElem_toArray, List.getElem_cons_succ, List.getElem_cons_zero]
      refine wpAnyH_done (by kernel_rfl) ?_ _
      have kg := hHeld
      obtain ⟨⟨x2, c2⟩, f2, hfin⟩ := pr_put HH.out kg O3.out (HNN.out.1.trans HNL.out) (k := m) HM.out.1 (by simp) HOK.out
      have HFIN := hid hfin
      clear hfin kg
      refine atLast_step (o := _) rfl (fun K hK => ?_)
      try simp only [List.getElem_toArray, List.getElem_cons_succ, List.getElem_cons_zero]
      go_simp
      refine hK.out _ _ ?_
      clear hK K c2 f2
      try simp only [Act.put, List.setIfInBounds_toArray, List.set_cons_zero, List.set_cons_succ, List.getElem_toArray, List.getElem_cons_succ, List.getElem_cons_zero]
      go_wp2_with fail
      go_ret
      exact ⟨rfl, HEQ.out ▸ HFIN.out⟩
  · have hH2 := hHeld
    have kg := hH2
    have hg : w.drew.grownBy (w.drew.alloc (.cells #[.int .i64 x] 3)) none := World.grownBy_alloc _ _ _
    try replace OE := hid (OE.out.grown hg)
    try replace O1 := hid (O1.out.grown hg)
    have LT := hid (show (w.drew.alloc (.cells #[.int .i64 x] 3)).heap[w.heap.size]? = some (.cells #[.int .i64 x] 3) from by have h := at_new w.drew (.cells #[.int .i64 x] 3); (try rw [size_la] at h); exact h)
    have L8 := hid (show (w.grownBy (w.drew.alloc (.cells #[.int .i64 x] 3)) none) from (gb_trans kg hg (.inl rfl)))
    clear hHeld hg kg
    try simp only [List.getElem_toArray, List.getElem_cons_succ, List.getElem_cons_zero]
    go_simp
    refine hK.out _ _ ?_ (fun hHeld => ?_)
    · exact L8.out
    clear hK K
    try dsimp only at hHeld
    try simp only [Act.put, List.setIfInBounds_toArray, List.set_cons_zero, List.set_cons_succ, List.getElem_toArray, List.getElem_cons_succ, List.getElem_cons_zero]
    refine wpAnyH_ready (rs := [1]) (by kernel_rfl) (by simp) ?_
    refine AllReadyH.cons (o := _) rfl (fun K hK => ?_) AllReadyH.nil
    have hH2 := hHeld
    have kg := hH2
    have hg : (w.drew.alloc (.cells #[.int .i64 x] 3)).grownBy ((w.drew.alloc (.cells #[.int .i64 x] 3)).alloc (.cells #[] 3)) none := World.grownBy_alloc _ _ _
    try replace LT := hid (at_grown LT.out hg (by simp))
    try replace O1 := hid (O1.out.grown hg)
    have OE := hid (show OwnN w.heap.size ((w.drew.alloc (.cells #[.int .i64 x] 3)).alloc (.cells #[] 3)) (.slice (some ⟨(w.heap.size + 1), 0, none⟩) 0 0) [] from by have h := (OwnN.empty (w.drew.alloc (.cells #[.int .i64 x] 3))).le kg.size; (try rw [size_la] at h); exact h)
    have L1 := hid (show (w.grownBy ((w.drew.alloc (.cells #[.int .i64 x] 3)).alloc (.cells #[] 3)) none) from (gb_trans kg hg (.inl rfl)))
    clear hHeld hg kg
    try simp only [List.getElem_toArray, List.getElem_cons_succ, List.getElem_cons_zero]
    go_simp
    refine hK.out _ _ ?_ (fun hHeld => ?_)
    · exact L1.out
    clear hK K
    try dsimp only at hHeld
    try simp only [Act.put, List.setIfInBounds_toArray, List.set_cons_zero, List.set_cons_succ, List.getElem_toArray, List.getElem_cons_succ, List.getElem_cons_zero]
    refine wpAnyH_ready (rs := [6]) (by kernel_rfl) (by simp) ?_
    refine AllReadyH.cons (o := _) rfl (fun K hK => ?_) AllReadyH.nil
    have hH2 := hHeld
    have kg := hH2
    try simp only [List.getElem_toArray, List.getElem_cons_succ, List.getElem_cons_zero]
    rw [if_pos (by rfl)]
    refine wp_append_nums _ _ rfl w.heap.size _ [] rfl OE.out _ l0 rfl (HI.out _ kg) (by rw [HN0.out]; have := HN60.out; simp; omega) kg.size ?_
    intro v1 wA hown hgrow hat
    have O1 := hid (show OwnN w.heap.size wA v1 l0 from by simpa using hown)
    have G1 := hid (gb_ownN kg OE.out (Nat.le_refl _) hgrow)
    try replace LT := hid (at_grown LT.out hgrow (by intro h; first | (have h2 : w.heap.size = w.heap.size + 1 := Option.some.inj h; omega) | (have h2 : w.heap.size + 1 = w.heap.size := Option.some.inj h; omega)))
    clear hown hgrow hat OE
    have L6 := hid (show (w.grownBy wA none) from G1.out)
    clear hHeld kg
    refine hK.out _ _ ?_ (fun hHeld => ?_)
    · exact L6.out
    clear hK K
    try dsimp only at hHeld
    try simp only [Act.put, List.setIfInBounds_toArray, List.set_cons_zero, List.set_cons_succ, List.getElem_toArray, List.getElem_cons_succ, List.getElem_cons_zero]
    refine wpAnyH_ready (rs := [9]) (by kernel_rfl) (by simp) ?_
    refine AllReadyH.cons (o := _) rfl (fun K hK => ?_) AllReadyH.nil
    have hH2 := hHeld
    have kg := hH2
    try simp only [List.getElem_toArray, List.getElem_cons_succ, List.getElem_cons_zero]
    rw [if_pos (by rfl)]
    refine wp_append_nums _ _ rfl w.heap.size _ l0 rfl O1.out _ [x] rfl (nums_of_cells [x] LT.out (le_max _ (by simp))) (by rw [HN0.out]; have := HN60.out; simp; omega) kg.size ?_
    intro v2 wB hown hgrow hat
    have O2 := hid hown
    have G2 := hid (gb_ownN kg O1.out (Nat.le_refl _) hgrow)
    clear hown hgrow hat LT O1
    obtain ⟨ab, ao, nn, mm, rfl, hnn, hnm⟩ := own_form O2.out (by simp)
    rw [List.length_append, HN0.out, List.length_singleton] at hnn
    have HNN := hid (And.intro hnn hnm)
    clear hnn hnm
    have L9 := hid (show (w.grownBy wB none) from G2.out)
    clear hHeld kg
    refine hK.out _ _ ?_ (fun hHeld => ?_)
    · exact L9.out
    clear hK K
    try dsimp only at hHeld
    try simp only [Act.put, List.setIfInBounds_toArray, List.set_cons_zero, List.set_cons_succ, List.getElem_toArray, List.getElem_cons_succ, List.getElem_cons_zero]
    refine wpAnyH_ready (rs := [15]) (by kernel_rfl) (by simp) ?_
    refine AllReadyH.cons (o := _) rfl (fun K hK => ?_) AllReadyH.nil
    try simp only [List.getElem_toArray, List.getElem_cons_succ, List.getElem_cons_zero]
    go_simp
    have hH2 := hHeld
    have kg := hH2
    refine ((rlast_g ab ao nn mm m (by have := HNN.out; omega) HM.out.1 HNN.out.2 (by have := HNN.out; have := HN60.out; omega) (by have := HM.out; omega) _)).mono ?_
    rintro e w1015 ⟨rfl, hg⟩
    have O3 := hid (O2.out.grown hg)
    have L15 := hid (show (w.grownBy w1015 none) from (gb_trans kg hg (.inl rfl)))
    clear hHeld hg kg
    go_wp2_with fail
    refine hK.out _ _ ?_ (fun hHeld => ?_)
    · exact L15.out
    clear hK K
    try dsimp only at hHeld
    try simp only [Act.put, List.setIfInBounds_toArray, List.set_cons_zero, List.set_cons_succ, List.getElem_toArray, List.getElem_cons_succ, List.getElem_cons_zero]
    refine' wpAnyH_take (i := 16) (v := _) rfl (by kernel_rfl) (by kernel_rfl) (by kernel_rfl) (fun _ _ _ h => h) (Or.inl ⟨by rfl, ?_⟩) hHeld ?_
    rotate_left
    · (intro w hSw; (try dsimp only at hSw); go_simp; try with_reducible rfl)
    try simp only [Act.put, List.setIfInBounds_toArray, List.set_cons_zero, List.set_cons_succ, List.getElem_toArray, List.getElem_cons_succ, List.getElem_cons_zero]
    refine' wpAnyH_take (i := 17) (v := _) rfl (by kernel_rfl) (by kernel_rfl) (by kernel_rfl) (fun _ _ _ h => h) (Or.inl ⟨by rfl, ?_⟩) hHeld ?_
    rotate_left
    · (intro w hSw; (try dsimp only at hSw); go_simp; try with_reducible rfl)
    try simp only [Act.put, List.setIfInBounds_toArray, List.set_cons_zero, List.set_cons_succ, List.getElem_toArray, List.getElem_cons_succ, List.getElem_cons_zero]
    refine wpAnyH_done (by kernel_rfl) ?_ _
    have kg := hHeld
    obtain ⟨⟨x2, c2⟩, f2, hfin⟩ := pr_put HH.out kg O3.out (HNN.out.1.trans HNL.out) (k := m) HM.out.1 (by simp) HOK.out
    have HFIN := hid hfin
    clear hfin kg
    refine atLast_step (o := _) rfl (fun K hK => ?_)
    try simp only [List.getElem_toArray, List.getElem_cons_succ, List.getElem_cons_zero]
    go_simp
    refine hK.out _ _ ?_
    clear hK K c2 f2
    try simp only [Act.put, List.setIfInBounds_toArray, List.set_cons_zero, List.set_cons_succ, List.getElem_toArray, List.getElem_cons_succ, List.getElem_cons_zero]
    go_wp2_with fail
    go_ret
    exact ⟨rfl, HEQ.out ▸ HFIN.out⟩
end Go.Proofs.YthobbekocimcnaaGreat
end
section
set_option linter.unusedSimpArgs false
set_option linter.unusedVariables false
namespace Go.Proofs.YthobbekocimcnaaGreat
set_option maxRecDepth 100000
open Go.RowKit

set_option maxHeartbeats 800000 in
/-- of two that read alike -/
theorem sameInts_yes (v u : Value) (l : List Int) (w : World) (h : IntsAt w v l) (h2 : IntsAt w u l) :
    Calls Tryz.prog 15 #[v, u] w fun e w' => e = .returned (.bool true) ∧ w.grownBy w' none := by
  have HI := hid h; have HJ := hid h2
  obtain ⟨p, c, rfl⟩ := h.form
  obtain ⟨p2, c2, rfl⟩ := h2.form
  have hlen := h.len
  unfold maxLen at hlen
  obtain ⟨n, hn⟩ : ∃ n, l.length = n := ⟨_, rfl⟩
  have HN := hid hn
  rw [hn] at HI HJ hlen ⊢
  clear h h2 hn
  have s0 : ((n : Int) == (n : Int)) = true := by simp
  go_enter Tryz.func15, Tryz.ntmps15
  go_wp2_with fail
  go_loopw [5] (fun i wr => ∃ k : Nat, k ≤ n ∧ i = .int .i64 (k : Int) ∧ w.grownBy wr none) (fun i _ => n - (intOf i).toNat)
  case atStart => exact ⟨0, Nat.zero_le _, rfl, .refl w none⟩
  case round =>
    obtain ⟨k, hk, rfl, hgr⟩ := hrel
    have HGR := hid hgr; clear hgr
    by_cases hlt : k < n
    · have hkl : k < l.length := by rw [HN.out]; exact hlt
      obtain ⟨ab, ao, rfl, -, hcc, hcell⟩ := (HI.out.grown HGR.out).cell hkl
      obtain ⟨ab2, ao2, rfl, -, hcc2, hcell2⟩ := (HJ.out.grown HGR.out).cell hkl
      generalize l[k] = y at *
      have sy : (y == y) = true := by simp
      have ilt : (k : Int) < (n : Int) := by omega
      go_wp2_with fail
      go_quiet (fail)
      go_wp2_with fail
      go_roundw
      case rel => exact ⟨k + 1, by omega, by go_num, gb_trans HGR.out ⟨rfl, rfl, rfl, Nat.le_refl _, fun _ _ _ => rfl⟩ (.inl rfl)⟩
      case measure => simp [intOf]; omega
    · obtain rfl : k = n := by omega
      go_wp2_with fail
      go_ret
      exact ⟨rfl, HGR.out⟩
end Go.Proofs.YthobbekocimcnaaGreat
end
section
set_option linter.unusedSimpArgs false
set_option linter.unusedVariables false
namespace Go.Proofs.YthobbekocimcnaaGreat
set_option maxRecDepth 100000
open Go.RowKit

/-- a list of the call's own, ahead of its store -/
theorem pown_put {F : List Nat} {b : Nat} {c : Conf} {p : Po} {w w1 w' : World} {v' : Value} {l : List Int} (H : PrAt w F b c p) (hg : w.grownBy w1 none) (he : OwnN w1.heap.size (w1.alloc (.cells #[] 3)) (.slice (some ⟨w1.heap.size, 0, none⟩) 0 0) [])
    (hown : OwnN w1.heap.size w' v' ([] ++ l)) (hgrow : (w1.alloc (.cells #[] 3)).grownBy w' (Value.slice (some ⟨w1.heap.size, 0, none⟩) 0 0).ownBlock) (ho : (Po.mk p.r l).Ok) :
    ∃ q k, v' = .slice q l.length k ∧ (∃ x, w'.cell? ⟨b, 26, none⟩ = some x) ∧ w'.frozen? ⟨b, 26, none⟩ = false ∧ PrAt (w'.setCell ⟨b, 26, none⟩ (.slice q l.length k)) F b c ⟨p.r, l⟩ ∧ Chg [b] w (w'.setCell ⟨b, 26, none⟩ (.slice q l.length k)) := by
  rw [List.nil_append] at hown
  have GW := gb_ownN (gb_alloc (.refl w1 none) _) he (Nat.le_refl _) hgrow
  have GG := gb_trans hg GW (.inl rfl)
  have CB := H.grown GG
  obtain ⟨q, k, rfl⟩ := hown.form
  have PB : ∀ a, q = some a → a.block ∉ F := fun a e hm => by
    subst e
    have h1 := (hown.at a.block (by simp [ownL, Value.ownBlock])).1
    have h2 := H.lt _ hm
    have h3 := hg.size
    omega
  have FIN := CB.put hown.ints PB ho
  obtain ⟨⟨q', m, h1, -, -⟩, -⟩ := CB
  exact ⟨q, k, rfl, ⟨_, at_cell h1 26⟩, at_free h1 26, FIN.1, (chg_grown GG [b]).then FIN.2⟩
def RSetted (w : World) (F : List Nat) (b : Nat) (c : Conf) (p : Po) (l : List Int) (e : Ending) (w' : World) : Prop :=
  (p.mayset l = true ∧ e = .returned (.int .i64 0) ∧ PrAt w' F b c ⟨p.r, l⟩ ∧ Chg [b] w w') ∨ (p.mayset l = false ∧ e = .returned (.int .i64 1) ∧ w.grownBy w' none)
/-- a configuration in a block, the program's object and the document's -/
structure Pp (w : World) (x : Nat) (c : Conf) (b1 : Nat) (p1 : Po) (b2 : Nat) (p2 : Po) (W : World) : Prop where
  k1 : Pc1 w x c b1 p1 W
  k2 : PrAt W [b2, b1, x] b2 c p2
  l2 : w.heap.size ≤ b2
  ne : b1 ≠ b2
  nx : x ≠ b2
section
variable {w W W' : World} {x b1 b2 : Nat} {c : Conf} {p p1 p2 : Po}
theorem Pp.grown (h : Pp w x c b1 p1 b2 p2 W) (hg : W.grownBy W' none) : Pp w x c b1 p1 b2 p2 W' := ⟨h.k1.grown hg, h.k2.grown hg, h.l2, h.ne, h.nx⟩
theorem Pp.drew (h : Pp w x c b1 p1 b2 p2 W) : Pp w x c b1 p1 b2 p2 W.drew := ⟨h.k1.drew, h.k2.drew, h.l2, h.ne, h.nx⟩
theorem Pp.chg1 (h : Pp w x c b1 p1 b2 p2 W) (hc : PoAt W' b1 p) (hg : Chg [b1] W W') : Pp w x c b1 p b2 p2 W' :=
  ⟨h.k1.chg hc hg, h.k2.chg hg (by simp) (by simp [h.ne.symm]), h.l2, h.ne, h.nx⟩
theorem Pp.chg2 (h : Pp w x c b1 p1 b2 p2 W) (hc : PrAt W' [b2, b1, x] b2 c p) (hg : Chg [b2] W W') : Pp w x c b1 p1 b2 p W' :=
  ⟨⟨pgb_chg h.k1.gr hg h.l2, hg.at h.k1.box (by simp [h.nx]), h.k1.at1.chg hg (by simp [h.ne]), h.k1.lo, h.k1.nx⟩, hc, h.l2, h.ne, h.nx⟩
theorem rplim_as {F : List Nat} {b : Nat} {n z : Int} (H : PrAt W F b c p) (h : p.lim n = z) :
    Calls Tryz.prog 34 #[.pointer (some ⟨b, 0, none⟩), .int .i64 n] W fun e w' => e = .returned (.int .i64 z) ∧ W.grownBy w' none := by
  subst h; exact rplim_any n H
theorem rput_as {F : List Nat} {b : Nat} {n : Int} {p' : Po} (H : PrAt W F b c p) (hx : p.in n = true) (h : (p.put n).2 = p') :
    Calls Tryz.prog 29 #[.pointer (some ⟨b, 0, none⟩), .int .i64 n] W fun e w' => e = .returned (.int .i64 0) ∧ PrAt w' F b c p' ∧ Chg [b] W w' := by
  subst h; exact rput_yes n hx H
end
end Go.Proofs.YthobbekocimcnaaGreat
end
