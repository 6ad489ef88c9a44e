/-
  Contracts for the document's Policy: New, Limit, Set, what is kept of one. The condition of a call: the object lies there, a slice reads as numbers.
-/
import Derived.Test.YtmhpldnmapjghaaPoE
import Derived.Test.YtmhpldnmapjghaaRla
import Derived.Test.YtmhpldnmapjghaaLn
import Derived.Test.YtmhpldnmapjghaaHeld
import Derived.Deep.MidRow
set_option linter.unusedSimpArgs false
set_option linter.unusedVariables false
namespace Go.Proofs.Ytmhpldnmapjghaa
set_option maxRecDepth 100000
open Go.RowKit

/-- the cells of the document's Policy -/
@[reducible] def prCells (c : Conf) (s : Value) : Array Value := #[.int .i64 c.n, .int .i64 c.f, .int .i64 c.m, .int .i64 c.quorum, .int .i64 c.fresh, .int .i64 c.grace, .int .i64 c.window, .int .i64 c.t0, .int .i64 c.t1, .int .i64 c.t2, .int .i64 c.t3, .int .i64 c.tol, .int .i64 c.min, .int .i64 c.max, .int .i64 c.calmup, .int .i64 c.calmdown, .int .i64 c.podsup, .int .i64 c.pctup, .int .i64 c.podsdown, .int .i64 c.pctdown, .int .i64 c.period, .int .i64 c.far, .int .i64 c.strikes, .int .i64 c.probe, .int .i64 c.sectors, .int .u64 c.seed, s]
/-- the document's, its list in a block that is none of F -/
structure PrAt (w : World) (F : List Nat) (b : Nat) (c : Conf) (p : Po) : Prop where
  row : ∃ (q : Option Addr) (k : Nat), w.heap[b]? = some (.cells (prCells c (.slice q p.l.length k)) 42) ∧ IntsAt w (.slice q p.l.length k) p.l ∧ (∀ a, q = some a → a.block ∉ F)
  inF : b ∈ F
  lt : ∀ x ∈ F, x < w.heap.size
  ok : p.Ok
  rc : p.r = rt c
section
variable {w w' : World} {F G : List Nat} {b : Nat} {c : Conf} {p p' : Po}
theorem PrAt.chg (H : PrAt w F b c p) (hc : Chg G w w') (hG : ∀ x ∈ G, x ∈ F) (hb : b ∉ G) : PrAt w' F b c p := by
  obtain ⟨⟨q, k, h1, h2, h3⟩, h4, h5, h6, h7⟩ := H
  exact ⟨⟨q, k, hc.at h1 hb, ints_chg h2 hc (fun a n c e hm => by cases e; exact h3 a rfl (hG _ hm)), h3⟩, h4, fun x hx => Nat.lt_of_lt_of_le (h5 x hx) hc.size, h6, h7⟩
theorem PrAt.grown (H : PrAt w F b c p) (hg : w.grownBy w' none) : PrAt w' F b c p := H.chg (chg_grown hg []) (by simp) (by simp)
theorem PrAt.drew (H : PrAt w F b c p) : PrAt w.drew F b c p := ⟨H.row, H.inF, H.lt, H.ok, H.rc⟩
theorem PrAt.cells (H : PrAt w F b c p) : w.cell? ⟨b, 12, none⟩ = some (.int .i64 c.min) ∧ w.cell? ⟨b, 13, none⟩ = some (.int .i64 c.max) ∧ w.cell? ⟨b, 20, none⟩ = some (.int .i64 c.period) ∧ ∀ k, w.frozen? ⟨b, k, none⟩ = false := by
  obtain ⟨⟨q, k, h1, -, -⟩, -⟩ := H
  exact ⟨at_cell h1 12, at_cell h1 13, at_cell h1 20, fun k => at_free h1 k⟩
theorem PrAt.put (H : PrAt w F b c p) {q : Option Addr} {k : Nat} {l : List Int} (hl : IntsAt w (.slice q l.length k) l) (hp : ∀ a, q = some a → a.block ∉ F) (ho : (Po.mk p.r l).Ok) :
    PrAt (w.setCell ⟨b, 26, none⟩ (.slice q l.length k)) F b c ⟨p.r, l⟩ ∧ Chg [b] w (w.setCell ⟨b, 26, none⟩ (.slice q l.length k)) := by
  have hc : Chg [b] w (w.setCell ⟨b, 26, none⟩ (.slice q l.length k)) := (chg_refl w [b]).set (.inl (by simp)) _
  obtain ⟨⟨q', m, h1, -, -⟩, h4, h5, h6, h7⟩ := H
  refine ⟨⟨⟨q, k, ?_, ints_chg hl hc (fun a n c e hm => by cases e; rw [List.mem_singleton] at hm; exact hp a rfl (hm ▸ h4)), hp⟩, h4, fun x hx => Nat.lt_of_lt_of_le (h5 x hx) hc.size, ho, h7⟩, hc⟩
  rw [at_set h1]; rfl
theorem pr_mid {s : Value} {t : TypeId} (h1 : w.heap[b]? = some (.cells (prCells c s) t)) : w.rangeAt b 0 c.cells.toList := by
  intro j v hj
  have hlt : j < 26 := by have := (List.getElem?_eq_some_iff.1 hj).1; exact this
  rw [Nat.zero_add, at_cell h1]
  have e : (prCells c s).toList = c.cells.toList ++ [s] := rfl
  rw [← Array.getElem?_toList, e, List.getElem?_append_left hlt]
  exact hj
end
theorem exec_mid27 {w : World} {o : Oper} {b of : Nat} {ty : TypeId} {x : Operand} {cs : List Value} {d : TypeDesc} {ρ : Operand → Value} (hc : w.rangeAt b of cs) (hu : Try.prog.underlying ty = some d) (hd : d.isRow = true) (hi : (Try.prog.info? ty).map (·.size) = some cs.length)
    (ho : o.op = .load ty x) (hx : ρ x = .pointer (some ⟨b, of, none⟩)) : (execOp ρ o).run Try.prog w = .ok (.value (.agg cs.toArray)) w := by
  simp only [execOp, ho, hx, Sem.run_bind, Instr.loadAt, Instr.sureAddr, Sem.run_pure, Result.andThen_ok, run_loadVar_mid w b of ty cs d hc hu hd hi]
/-- NewPolicy -/
theorem rpnew_no (c : Conf) (first : Int) (h : ¬ ((rt c).may = true ∧ inR (rt c) first = true)) (w : World) :
    Calls Try.prog 17 #[cf c, .int .i64 first] w fun e w' => e = .returned (.pointer none) ∧ w.grownBy w' none := by
  have K := hid (boxc_new w c)
  have R := hid (rmayr_any c)
  cases hm : (rt c).may with
  | false =>
    rw [hm] at R
    clear h hm
    go_enter Try.func17, Try.ntmps17
    go_wp2_with (refine wpList_conf K.out.box rfl rfl rfl rfl ?_)
    refine (R.out _).mono ?_
    rintro e w1 ⟨rfl, hg⟩
    have G1 := hid (gb_trans K.out.g hg (.inl rfl)); clear hg
    go_wp2_with fail
    go_ret
    exact ⟨rfl, G1.out⟩
  | true =>
    have hi : ¬ (c.min ≤ first ∧ first ≤ c.max) := fun hb => h ⟨hm, by unfold inR; rw [decide_eq_true hb.1, decide_eq_true hb.2]; rfl⟩
    rw [hm] at R
    clear h hm
    by_cases h1 : first < c.min
    · clear hi
      go_enter Try.func17, Try.ntmps17
      go_wp2_with (refine wpList_conf K.out.box rfl rfl rfl rfl ?_)
      refine (R.out _).mono ?_
      rintro e w1 ⟨rfl, hg⟩
      have K1 := hid (K.out.grown hg); clear hg
      have c12 := at_cell K1.out.box 12; have c13 := at_cell K1.out.box 13
      go_wp2_with fail
      go_ret
      exact ⟨rfl, K1.out.g⟩
    · have h2 : c.max < first := by omega
      clear hi
      go_enter Try.func17, Try.ntmps17
      go_wp2_with (refine wpList_conf K.out.box rfl rfl rfl rfl ?_)
      refine (R.out _).mono ?_
      rintro e w1 ⟨rfl, hg⟩
      have K1 := hid (K.out.grown hg); clear hg
      have c12 := at_cell K1.out.box 12; have c13 := at_cell K1.out.box 13
      go_wp2_with fail
      go_ret
      exact ⟨rfl, K1.out.g⟩
def RMade (w : World) (F : List Nat) (c : Conf) (p : Po) (e : Ending) (w' : World) : Prop := ∃ b, e = .returned (.pointer (some ⟨b, 0, none⟩)) ∧ PrAt w' (b :: F) b c p ∧ w.grownBy w' none ∧ w.heap.size ≤ b
theorem rpnew_ok (c : Conf) (first : Int) (hm : (rt c).may = true) (hi : inR (rt c) first = true) (F : List Nat) (w : World) (hF : ∀ x ∈ F, x < w.heap.size) :
    Calls Try.prog 17 #[cf c, .int .i64 first] w (RMade w F c ⟨rt c, [first]⟩) := by
  have K := hid (boxc_new w c)
  have R := hid (rmayr_any c)
  have hr := Rt.may_iff.1 hm
  have hf : c.min ≤ first ∧ first ≤ c.max := by
    unfold inR at hi
    simpa using hi
  have hok := hid (Po.new_ok hr hf.1 hf.2)
  rw [hm] at R
  have L := hid (fun (W : World) (hs : ∀ x ∈ F, x < W.heap.size) => (show PrAt ((W.alloc (.cells #[.int .i64 first] 3)).alloc (.cells (prCells c (.slice (some ⟨W.heap.size, 0, none⟩) 1 1)) 42)) ((W.heap.size + 1) :: F) (W.heap.size + 1) c ⟨rt c, [first]⟩ from
    ⟨⟨some ⟨W.heap.size, 0, none⟩, 1, by rw [← size_la W (.cells #[.int .i64 first] 3)]; exact at_new _ _, (num_new W [first] _ rfl 1 rfl (le_max _ (by simp))).grown (World.grownBy_alloc _ _ _), fun a e hm => by
      cases e
      rcases List.mem_cons.1 hm with h | h
      · exact absurd h (by show W.heap.size ≠ W.heap.size + 1; omega)
      · exact absurd (hs _ h) (Nat.lt_irrefl _)⟩, List.mem_cons_self .., fun x hx => by
      rw [size_la, size_la]
      rcases List.mem_cons.1 hx with rfl | hx
      · exact Nat.lt_succ_self _
      · exact Nat.lt_succ_of_lt (Nat.lt_succ_of_lt (hs x hx)), hok.out, rfl⟩))
  have HF := hid hF
  clear hm hi hr hF
  obtain ⟨f0, f1⟩ := hf
  go_enter Try.func17, Try.ntmps17
  go_wp2_with (refine wpList_conf K.out.box rfl rfl rfl rfl ?_)
  refine (R.out _).mono ?_
  rintro e w1 ⟨rfl, hg⟩
  have K1 := hid (K.out.grown hg); clear hg
  have c12 := at_cell K1.out.box 12; have c13 := at_cell K1.out.box 13
  go_wp2_with (first | refine wpList_conf K1.out.box rfl rfl rfl rfl ?_ | refine wpList_buildTo (ty := 42) (cs := prCells c (.slice (some ⟨w1.heap.size, 0, none⟩) 1 1)) rfl rfl rfl (by kernel_rfl) ?_)
  go_ret
  exact ⟨_, rfl, L.out w1 (fun x hx => Nat.lt_of_lt_of_le (HF.out x hx) K1.out.g.size), gb_alloc (gb_alloc K1.out.g _) _, Nat.le_succ_of_le K1.out.g.size⟩
set_option maxHeartbeats 3200000 in
theorem rplim_any {F : List Nat} {b : Nat} {c : Conf} {p : Po} (x : Int) {w : World} (H : PrAt w F b c p) :
    Calls Try.prog 21 #[.pointer (some ⟨b, 0, none⟩), .int .i64 x] w fun e w' => e = .returned (.int .i64 (p.lim x)) ∧ w.grownBy w' none := by
  have HB := hid (show 0 ≤ p.base ∧ p.base ≤ 10000 by
    have h1 := Po.base_in H.ok; have h2 := H.ok.r.mn; have h3 := H.ok.r.mx
    omega)
  have HL := hid (show p.lim x = min (max (min (max x (p.r.lo p.base)) (p.r.hi p.base)) p.r.mn) p.r.mx from rfl)
  have hbn := H.ok.r
  have HBX := hid (Po.base_in H.ok)
  rw [H.rc] at HL hbn HBX
  have RB := hid (rbounds_any c p.base)
  rw [show (rt c).bounds p.base = ((rt c).lo p.base, (rt c).hi p.base) from if_pos ⟨Rt.may_iff.2 hbn, HB.out.1, HB.out.2⟩] at RB
  have n1 := H.ok.n1
  have n60 := H.ok.n60
  obtain ⟨q, k, hrow, hi, -⟩ := H.row
  obtain ⟨ab, ao, rfl, -, hk, -⟩ := hi.cell n1
  have HB9 := hid (fun (W : World) (hg : w.grownBy W none) => show W.cell? ⟨ab, ao, none⟩ = some (.int .i64 p.base) from (hi.grown hg).cell' (show p.l[0]? = some p.base by rw [List.getElem?_eq_getElem n1, head_at]; rfl))
  generalize p.l.length = n at *
  have HROW := hid hrow
  have n1i : (0 : Int) < (n : Int) := by omega
  have n1n : 0 < n := n1
  have n1q : (1 : Int) ≤ (n : Int) := by omega
  have hlo := (Rt.lo_le (b := p.base) hbn HB.out.1); have hhi := Rt.hi_ge (b := p.base) hbn
  have HLH := hid (And.intro hlo hhi)
  generalize (rt c).lo p.base = lo at *
  generalize (rt c).hi p.base = hi' at *
  generalize p.base = z at *
  obtain ⟨y, hy⟩ : ∃ y, p.lim x = y := ⟨_, rfl⟩
  rw [hy] at HL
  have HY := hid hy
  clear hrow hi hbn H hlo hhi hy
  go_enter Try.func21, Try.ntmps21
  go_wp2_with fail
  refine wp_region_held_drew (S := (fun w' => (w'.heap[b]? = some (.cells (prCells c (.slice (some ⟨ab, ao, none⟩) n k)) 42)) ∧ (w.grownBy w' none))) (by kernel_rfl) ⟨HROW.out, gb_drew (.refl w none)⟩ (fun hHeld => ?_)
  try dsimp only at hHeld
  refine' wpAnyH_take (i := 0) (v := _) rfl (by kernel_rfl) (by kernel_rfl) (by kernel_rfl) (fun _ _ _ h => h) (Or.inl ⟨by rfl, ?_⟩) hHeld ?_
  rotate_left
  · (intro w hSw; (try dsimp only at hSw); go_simp; try with_reducible rfl)
  try simp only [Act.put, List.setIfInBounds_toArray, List.set_cons_zero, List.set_cons_succ, List.getElem_toArray, List.getElem_cons_succ, List.getElem_cons_zero]
  refine' wpAnyH_take (i := 1) (v := _) rfl (by kernel_rfl) (by kernel_rfl) (by kernel_rfl) (fun _ _ _ h => h) (Or.inl ⟨by rfl, ?_⟩) hHeld ?_
  rotate_left
  · (intro w hSw; (try dsimp only at hSw); go_simp; try with_reducible rfl)
  try simp only [Act.put, List.setIfInBounds_toArray, List.set_cons_zero, List.set_cons_succ, List.getElem_toArray, List.getElem_cons_succ, List.getElem_cons_zero]
  refine' wpAnyH_take (i := 2) (v := _) rfl (by kernel_rfl) (by kernel_rfl) (by kernel_rfl) (fun _ _ _ h => h) (Or.inl ⟨by rfl, ?_⟩) hHeld ?_
  rotate_left
  · (intro w hSw; (try dsimp only at hSw); go_simp; try with_reducible rfl)
  try simp only [Act.put, List.setIfInBounds_toArray, List.set_cons_zero, List.set_cons_succ, List.getElem_toArray, List.getElem_cons_succ, List.getElem_cons_zero]
  refine' wpAnyH_take (i := 3) (v := _) rfl (by kernel_rfl) (by kernel_rfl) (by kernel_rfl) (fun _ _ _ h => h) (Or.inl ⟨by rfl, ?_⟩) hHeld ?_
  rotate_left
  · (intro w hSw; (try dsimp only at hSw); (try simp only [List.getElem_toArray, List.getElem_cons_succ, List.getElem_cons_zero]); refine exec_mid27 (x := .tmp 10) (pr_mid (by obtain ⟨hw, KG⟩ := hSw; exact hw)) Try.underlying26 rfl (by kernel_rfl) ?_ ?_ <;> rfl)
  try simp only [Act.put, List.setIfInBounds_toArray, List.set_cons_zero, List.set_cons_succ, List.getElem_toArray, List.getElem_cons_succ, List.getElem_cons_zero]
  refine' wpAnyH_take (i := 4) (v := _) rfl (by kernel_rfl) (by kernel_rfl) (by kernel_rfl) (fun _ _ _ h => h) (Or.inl ⟨by rfl, ?_⟩) hHeld ?_
  rotate_left
  · (intro w hSw; (try dsimp only at hSw); go_simp; try with_reducible rfl)
  try simp only [Act.put, List.setIfInBounds_toArray, List.set_cons_zero, List.set_cons_succ, List.getElem_toArray, List.getElem_cons_succ, List.getElem_cons_zero]
  refine' wpAnyH_take (i := 5) (v := _) rfl (by kernel_rfl) (by kernel_rfl) (by kernel_rfl) (fun _ _ _ h => h) (Or.inl ⟨by rfl, ?_⟩) hHeld ?_
  rotate_left
  · (intro w hSw; (try dsimp only at hSw); go_simp; try with_reducible rfl)
  try simp only [Act.put, List.setIfInBounds_toArray, List.set_cons_zero, List.set_cons_succ, List.getElem_toArray, List.getElem_cons_succ, List.getElem_cons_zero]
  refine' wpAnyH_take (i := 6) (v := _) rfl (by kernel_rfl) (by kernel_rfl) (by kernel_rfl) (fun _ _ _ h => h) (Or.inl ⟨by rfl, ?_⟩) hHeld ?_
  rotate_left
  · (intro w hSw; (try dsimp only at hSw); go_simp; try with_reducible rfl)
  try simp only [Act.put, List.setIfInBounds_toArray, List.set_cons_zero, List.set_cons_succ, List.getElem_toArray, List.getElem_cons_succ, List.getElem_cons_zero]
  refine' wpAnyH_take (i := 7) (v := _) rfl (by kernel_rfl) (by kernel_rfl) (by kernel_rfl) (fun _ _ _ h => h) (Or.inl ⟨by rfl, ?_⟩) hHeld ?_
  rotate_left
  · (intro w hSw; (try dsimp only at hSw); obtain ⟨hw, KG⟩ := hSw; have c26 := at_cell hw 26; go_simp; try with_reducible rfl)
  try simp only [Act.put, List.setIfInBounds_toArray, List.set_cons_zero, List.set_cons_succ, List.getElem_toArray, List.getElem_cons_succ, List.getElem_cons_zero]
  refine' wpAnyH_take (i := 8) (v := _) rfl (by kernel_rfl) (by kernel_rfl) (by kernel_rfl) (fun _ _ _ h => h) (Or.inl ⟨by rfl, ?_⟩) hHeld ?_
  rotate_left
  · (intro w hSw; (try dsimp only at hSw); go_simp; try with_reducible rfl)
  try simp only [Act.put, List.setIfInBounds_toArray, List.set_cons_zero, List.set_cons_succ, List.getElem_toArray, List.getElem_cons_succ, List.getElem_cons_zero]
  refine' wpAnyH_take (i := 9) (v := _) rfl (by kernel_rfl) (by kernel_rfl) (by kernel_rfl) (fun _ _ _ h => h) (Or.inl ⟨by rfl, ?_⟩) hHeld ?_
  rotate_left
  · (intro w hSw; (try dsimp only at hSw); obtain ⟨hw, KG⟩ := hSw; have q9 := HB9.out _ KG; go_simp; try with_reducible rfl)
  try simp only [Act.put, List.setIfInBounds_toArray, List.set_cons_zero, List.set_cons_succ, List.getElem_toArray, List.getElem_cons_succ, List.getElem_cons_zero]
  refine wpAnyH_ready (rs := [10]) (by kernel_rfl) (by simp) ?_
  refine AllReadyH.cons (o := _) rfl (fun K hK => ?_) AllReadyH.nil
  try simp only [List.getElem_toArray, List.getElem_cons_succ, List.getElem_cons_zero]
  go_simp
  have hH2 := hHeld
  obtain ⟨hw, KG⟩ := hH2
  refine ((RB.out _)).mono ?_
  rintro e w1010 ⟨rfl, hg⟩
  have L10 := hid (show (w1010.heap[b]? = some (.cells (prCells c (.slice (some ⟨ab, ao, none⟩) n k)) 42)) ∧ (w.grownBy w1010 none) from ⟨at_grown hw hg (by simp), gb_trans KG hg (.inl rfl)⟩)
  clear hHeld hg hw KG
  go_wp2_with fail
  refine hK.out _ _ ?_ (fun hHeld => ?_)
  · exact L10.out
  clear hK K
  try dsimp only at hHeld
  try simp only [Act.put, List.setIfInBounds_toArray, List.set_cons_zero, List.set_cons_succ, List.getElem_toArray, List.getElem_cons_succ, List.getElem_cons_zero]
  refine' wpAnyH_take (i := 11) (v := _) rfl (by kernel_rfl) (by kernel_rfl) (by kernel_rfl) (fun _ _ _ h => h) (Or.inl ⟨by rfl, ?_⟩) hHeld ?_
  rotate_left
  · (intro w hSw; (try dsimp only at hSw); go_simp; try with_reducible rfl)
  try simp only [Act.put, List.setIfInBounds_toArray, List.set_cons_zero, List.set_cons_succ, List.getElem_toArray, List.getElem_cons_succ, List.getElem_cons_zero]
  refine' wpAnyH_take (i := 12) (v := _) rfl (by kernel_rfl) (by kernel_rfl) (by kernel_rfl) (fun _ _ _ h => h) (Or.inl ⟨by rfl, ?_⟩) hHeld ?_
  rotate_left
  · (intro w hSw; (try dsimp only at hSw); go_simp; try with_reducible rfl)
  try simp only [Act.put, List.setIfInBounds_toArray, List.set_cons_zero, List.set_cons_succ, List.getElem_toArray, List.getElem_cons_succ, List.getElem_cons_zero]
  refine' wpAnyH_take (i := 13) (v := _) rfl (by kernel_rfl) (by kernel_rfl) (by kernel_rfl) (fun _ _ _ h => h) (Or.inl ⟨by rfl, ?_⟩) hHeld ?_
  rotate_left
  · (intro w hSw; (try dsimp only at hSw); go_simp; try with_reducible rfl)
  try simp only [Act.put, List.setIfInBounds_toArray, List.set_cons_zero, List.set_cons_succ, List.getElem_toArray, List.getElem_cons_succ, List.getElem_cons_zero]
  refine' wpAnyH_take (i := 14) (v := _) rfl (by kernel_rfl) (by kernel_rfl) (by kernel_rfl) (fun _ _ _ h => h) (Or.inl ⟨by rfl, ?_⟩) hHeld ?_
  rotate_left
  · (intro w hSw; (try dsimp only at hSw); go_simp; try with_reducible rfl)
  try simp only [Act.put, List.setIfInBounds_toArray, List.set_cons_zero, List.set_cons_succ, List.getElem_toArray, List.getElem_cons_succ, List.getElem_cons_zero]
  refine' wpAnyH_take (i := 15) (v := _) rfl (by kernel_rfl) (by kernel_rfl) (by kernel_rfl) (fun _ _ _ h => h) (Or.inl ⟨by rfl, ?_⟩) hHeld ?_
  rotate_left
  · (intro w hSw; (try dsimp only at hSw); go_simp; try with_reducible rfl)
  try simp only [Act.put, List.setIfInBounds_toArray, List.set_cons_zero, List.set_cons_succ, List.getElem_toArray, List.getElem_cons_succ, List.getElem_cons_zero]
  refine wpAnyH_done (by kernel_rfl) ?_ _
  obtain ⟨hw, KG⟩ := hHeld
  have HR := hid hw; have HG := hid KG; clear hw KG
  go_wp2_with fail
  have c12 := at_cell HR.out 12; have c13 := at_cell HR.out 13
  go_quiet (fail)
  go_wp2_with fail
  all_goals go_ret
  all_goals exact ⟨congrArg (fun z => Ending.returned (.int .i64 z)) (by rw [HY.out, HL.out]; try omega), gb_trans HG.out ⟨rfl, rfl, rfl, Nat.le_refl _, fun _ _ _ => rfl⟩ (.inl rfl)⟩
end Go.Proofs.Ytmhpldnmapjghaa
