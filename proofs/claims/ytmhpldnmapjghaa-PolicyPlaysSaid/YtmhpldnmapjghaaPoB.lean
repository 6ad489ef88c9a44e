/-
  Contracts for package policy: the bounds, of the program and of the document; what is kept, copies into the object. The condition of a call: the object lies there, a slice reads as numbers.
-/
import Derived.Test.YtmhpldnmapjghaaPoA
set_option linter.unusedSimpArgs false
set_option linter.unusedVariables false
namespace Go.Proofs.Ytmhpldnmapjghaa
set_option maxRecDepth 100000
open Go.RowKit

/-- what the bounds are reckoned from -/
structure Bd (r : Rt) (b x1 x2 A D x3 x4 B B1 B2 E : Int) : Prop where
  e1 : IntKind.i64.wrap (b - r.pd) = x1
  e2 : IntKind.i64.wrap (100 - r.cd) = x2
  e3 : IntKind.i64.wrap (b * x2) = A
  e4 : IntKind.i64.wrap (A.tdiv 100) = D
  e5 : IntKind.i64.wrap (b + r.pu) = x3
  e6 : IntKind.i64.wrap (100 + r.cu) = x4
  e7 : IntKind.i64.wrap (b * x4) = B
  e8 : IntKind.i64.wrap (B + 100) = B1
  e9 : IntKind.i64.wrap (B1 - 1) = B2
  e8' : IntKind.i64.wrap (B + 99) = B2
  e10 : IntKind.i64.wrap (B2.tdiv 100) = E
  lo : r.lo b = max (min x1 D) 0
  hi : r.hi b = max x3 E
theorem bd_of {r : Rt} {b : Int} (h : r.Ok) (h0 : 0 ≤ b) (h1 : b ≤ 10000) : ∃ x1 x2 A D x3 x4 B B1 B2 E, Bd r b x1 x2 A D x3 x4 B B1 B2 E := by
  have s := Rt.small h h0 h1
  have a1 := h.pu; have a2 := h.cu; have a3 := h.pd; have a4 := h.cd
  refine ⟨b - r.pd, 100 - r.cd, b * (100 - r.cd), b * (100 - r.cd) / 100, b + r.pu, 100 + r.cu, b * (100 + r.cu), b * (100 + r.cu) + 100, b * (100 + r.cu) + 99, (b * (100 + r.cu) + 99) / 100, ?_⟩
  obtain ⟨⟨s1, s2⟩, s3, s4⟩ := s
  have hl : r.lo b = max (min (b - r.pd) (b * (100 - r.cd) / 100)) 0 := rfl
  have hh : r.hi b = max (b + r.pu) ((b * (100 + r.cu) + 99) / 100) := rfl
  generalize hB : b * (100 + r.cu) = B at *
  generalize hA : b * (100 - r.cd) = A at *
  refine ⟨?_, ?_, ?_, ?_, ?_, ?_, ?_, ?_, ?_, ?_, ?_, hl, hh⟩
  · exact IntWalk.i64_in _ (by omega)
  · exact IntWalk.i64_in _ (by omega)
  · rw [hA]; exact IntWalk.i64_in _ (by omega)
  · rw [Int.tdiv_eq_ediv_of_nonneg s3]; exact IntWalk.i64_in _ (by omega)
  · exact IntWalk.i64_in _ (by omega)
  · exact IntWalk.i64_in _ (by omega)
  · rw [hB]; exact IntWalk.i64_in _ (by omega)
  · exact IntWalk.i64_in _ (by omega)
  · rw [show B + 100 - 1 = B + 99 by omega]; exact IntWalk.i64_in _ (by omega)
  · exact IntWalk.i64_in _ (by omega)
  · rw [Int.tdiv_eq_ediv_of_nonneg (by omega)]; exact IntWalk.i64_in _ (by omega)
theorem pbounds_any (r : Rt) (b : Int) (h : r.Ok) (h0 : 0 ≤ b) (h1 : b ≤ 10000) (w : World) :
    Calls Try.prog 34 #[rv r, .int .i64 b] w fun e w' => e = .returned (.tuple #[.int .i64 (r.lo b), .int .i64 (r.hi b)]) ∧ w.grownBy w' none := by
  obtain ⟨x1, x2, A, D, x3, x4, B, B1, B2, E, hb⟩ := bd_of h h0 h1
  obtain ⟨e1, e2, e3, e4, e5, e6, e7, e8, e9, -, e10, hl, hh⟩ := hb
  have HL := hid hl; have HH := hid hh
  generalize r.lo b = L at *
  generalize r.hi b = H at *
  clear hl hh h h0 h1
  go_enter Try.func34, Try.ntmps34
  go_wp2_with fail
  all_goals go_ret2
  all_goals exact ⟨by rw [HL.out, HH.out]; first | rfl | (congr 3 <;> omega), gb_alloc (.refl w none) _⟩
/-- the document's -/
theorem rbounds_any (c : Conf) (b : Int) (w : World) :
    Calls Try.prog 19 #[cf c, .int .i64 b] w fun e w' => e = .returned (.tuple #[.int .i64 ((rt c).bounds b).1, .int .i64 ((rt c).bounds b).2]) ∧ w.grownBy w' none := by
  have M := hid (rmayr_any c)
  have K := hid (boxc_new w c)
  by_cases hm : (rt c).may = true
  rotate_left
  · have hm' : (rt c).may = false := by simpa using hm
    rw [hm'] at M
    have hz : (rt c).bounds b = (0, 0) := if_neg (by rw [hm']; simp)
    rw [hz]
    clear hm hm' hz
    go_enter Try.func19, Try.ntmps19
    go_wp2_with (refine wpList_conf K.out.box rfl rfl rfl rfl ?_)
    refine (M.out _).mono ?_
    rintro e w1 ⟨rfl, hg⟩
    have G1 := hid (gb_trans K.out.g hg (.inl rfl)); clear hg
    go_wp2_with fail
    go_ret2
    exact ⟨rfl, G1.out⟩
  rw [hm] at M
  by_cases h0 : 0 ≤ b
  rotate_left
  · have hz : (rt c).bounds b = (0, 0) := if_neg (by omega)
    rw [hz]
    clear hm hz
    go_enter Try.func19, Try.ntmps19
    go_wp2_with (refine wpList_conf K.out.box rfl rfl rfl rfl ?_)
    refine (M.out _).mono ?_
    rintro e w1 ⟨rfl, hg⟩
    have G1 := hid (gb_trans K.out.g hg (.inl rfl)); clear hg
    go_wp2_with fail
    go_ret2
    exact ⟨rfl, G1.out⟩
  by_cases h1 : b ≤ 10000
  rotate_left
  · have hz : (rt c).bounds b = (0, 0) := if_neg (by omega)
    rw [hz]
    clear hm hz
    go_enter Try.func19, Try.ntmps19
    go_wp2_with (refine wpList_conf K.out.box rfl rfl rfl rfl ?_)
    refine (M.out _).mono ?_
    rintro e w1 ⟨rfl, hg⟩
    have G1 := hid (gb_trans K.out.g hg (.inl rfl)); clear hg
    go_wp2_with fail
    go_ret2
    exact ⟨rfl, G1.out⟩
  obtain ⟨x1, x2, A, D, x3, x4, B, B1, B2, E, hb⟩ := bd_of (Rt.may_iff.1 hm) h0 h1
  obtain ⟨e1, e2, e3, e4, e5, e6, e7, -, -, e8, e10, hl, hh⟩ := hb
  have hz : (rt c).bounds b = ((rt c).lo b, (rt c).hi b) := if_pos ⟨hm, h0, h1⟩
  rw [hz]
  have HL := hid hl; have HH := hid hh
  generalize (rt c).lo b = L at *
  generalize (rt c).hi b = H at *
  clear hl hh hm hz
  go_enter Try.func19, Try.ntmps19
  go_wp2_with (refine wpList_conf K.out.box rfl rfl rfl rfl ?_)
  refine (M.out _).mono ?_
  rintro e w1 ⟨rfl, hg⟩
  have K1 := hid (K.out.grown hg)
  have G1 := hid (gb_trans K.out.g hg (.inl rfl)); clear hg
  have hbx := K1.out.box
  have c13 := at_cell hbx 16; have c14 := at_cell hbx 17; have c15 := at_cell hbx 18; have c16 := at_cell hbx 19
  clear hbx
  go_wp2_with fail
  all_goals go_ret2
  all_goals exact ⟨by rw [HL.out, HH.out]; first | rfl | (congr 3 <;> omega), G1.out⟩

/-- nobody is not made; one that is there is -/
theorem isMade_nil (w : World) :
    Calls Try.prog 28 #[.pointer none] w fun e w' => e = .returned (.bool false) ∧ w = w' := by
  go_enter Try.func28, Try.ntmps28
  go_wp2_with fail
  go_ret
  exact ⟨rfl, rfl⟩
theorem isMade_any {b : Nat} {p : Po} {w : World} (H : PoAt w b p) :
    Calls Try.prog 28 #[.pointer (some ⟨b, 0, none⟩)] w fun e w' => e = .returned (.bool true) ∧ w.grownBy w' none := by
  obtain ⟨-, -, -, c7, fz⟩ := H.cells
  have hn := H.ok.n60; have hn1 := H.ok.n1
  have L0 := hid (load_i64 ⟨b, 7, none⟩ (p.l.length : Int) w c7)
  generalize p.l.length = n at *
  have hp : 0 < n := hn1
  clear H
  go_enter Try.func28, Try.ntmps28
  go_wp2_with fail
  refine L0.out.mono ?_
  rintro e w1 ⟨rfl, rfl⟩
  go_wp2_with fail
  go_ret
  exact ⟨by simp [hp], .refl w none⟩
theorem parr_len : Try.prog.arrayLen 60 = 60 := by kernel_rfl
theorem parr_elem : Try.prog.elem 60 = 3 := by kernel_rfl
theorem psize_num (u : World) : (sizeOf 3).run Try.prog u = .ok 1 u := by
  obtain ⟨i, hi, hz0, hz1, hz2⟩ := info_parts info_num
  simp [sizeOf, typeInfo, hi, hz1]
theorem parr_h (b n : Nat) (h : n ≤ 60) (u : World) : (Instr.sliceAt 60 (.pointer (some ⟨b, 8, none⟩)) none (some (.int .i64 (n : Int))) none).run Try.prog u = .ok (.slice (some ⟨b, 8, none⟩) n 60) u := by
  rw [run_sliceAt_array_h (P := Try.prog) u 60 ⟨b, 8, none⟩ (by kernel_rfl) .i64 (n : Int) (by omega) (by rw [parr_len]; omega), parr_elem, psize_num, parr_len]
  simp [slicedAt, Result.andThen, Addr.add]
theorem parr_all (b : Nat) (u : World) : (Instr.sliceAt 60 (.pointer (some ⟨b, 8, none⟩)) none none none).run Try.prog u = .ok (.slice (some ⟨b, 8, none⟩) 60 60) u := by
  rw [run_sliceAt_array_all (P := Try.prog) u 60 ⟨b, 8, none⟩ (by kernel_rfl), parr_elem, psize_num, parr_len]
  simp [slicedAt, Result.andThen, Addr.add]
/-- what is kept -/
theorem potop_any {b : Nat} {p : Po} {w : World} (H : PoTop w b p) (hn : p.l.length ≤ 60) :
    Calls Try.prog 33 #[.pointer (some ⟨b, 0, none⟩)] w fun e w' => e = .returned (.slice (some ⟨b, 8, none⟩) p.l.length 60) ∧ w.grownBy w' none := by
  obtain ⟨-, -, -, c2, fz⟩ := H.cells
  have L0 := hid (fun W (h : W.cell? ⟨b, 7, none⟩ = some (.int .i64 (p.l.length : Int))) => load_i64 ⟨b, 7, none⟩ (p.l.length : Int) W h)
  generalize p.l.length = n at *
  have hs := fun u => parr_h b n hn u
  clear H
  go_enter Try.func33, Try.ntmps33
  go_wp2_with fail
  go_quiet ((go_at_call 40; exact Calls.quiet_of_same (still_of (L0.out _ (by assumption)))))
  go_wp2_with fail
  go_ret
  exact ⟨rfl, ⟨rfl, rfl, rfl, Nat.le_refl _, fun _ _ _ => rfl⟩⟩
theorem pall_any {b : Nat} {p : Po} {w : World} (H : PoAt w b p) :
    Calls Try.prog 33 #[.pointer (some ⟨b, 0, none⟩)] w fun e w' => e = .returned (.slice (some ⟨b, 8, none⟩) p.l.length 60) ∧ w.grownBy w' none := potop_any H.top H.ok.n60

/-- the operation copy -/
theorem pwp_copyN {w : World} {o : Oper} {a : Act} {K : Act → World → Prop} {Q : Exit → Act → World → Prop} (d s : Operand)
    (ho : o.op = .call { callee := .builtin .copy, args := #[d, s], argTypes := #[22, 22] }) (v u : Value) (hd : a.eval d = v) (hs : a.eval s = u) {v' : Value} {w' : World}
    (hr : (Builtin.copy_ #[22, 22] o.type #[v, u]).run Try.prog w = .ok v' w') (h : K (a.put o.dst v') w') : o.wp Try.prog a w K Q := by
  unfold Oper.wp execOp
  simp only [ho, resolve, invoke, builtin, Sem.run_bind, Sem.run_pure, Result.andThen_ok, List.map_toArray, List.map_cons, List.map_nil, hd, hs, hr]
  exact h
/-- numbers into the row -/
theorem pcopy_into {w : World} {b n : Nat} {r : Rt} {ws : List Int} (hb : w.heap[b]? = some (.cells (poCells r n ws) 62)) (hw : ws.length = 60) {v : Value} {l : List Int} (hv : IntsAt w v l) (hl : l.length ≤ 60) (ty : TypeId) :
    ∃ w', (Builtin.copy_ #[22, 22] ty #[.slice (some ⟨b, 8, none⟩) 60 60, v]).run Try.prog w = .ok (goInt l.length) w' ∧ w'.heap[b]? = some (.cells (poCells r n (l ++ ws.drop l.length)) 62) ∧ Chg [b] w w' := by
  obtain ⟨i, hi, hz0, hz1, hz2⟩ := info_parts info_num
  have hsz : (Try.prog.info? 3).map (·.size) = some 1 := by rw [hi]; simp [hz1]
  have hcl : (poCells r n ws).size = 68 := by simp [poCells, hw]
  rcases hv with ⟨rfl, rfl⟩ | ⟨a, cap, rfl, h1, h2, h3⟩
  · refine ⟨w, ?_, by simpa using hb, chg_refl _ _⟩
    exact run_copy_nil Try.prog w 22 22 ty 3 ⟨b, 8, none⟩ 60 60 Try.underlying22 (by rw [hi]; rfl)
  · have hmin : (l.map iv).length = Nat.min l.length 60 := by rw [List.length_map]; exact (Nat.min_eq_left hl).symm
    refine ⟨_, (run_copy_row Try.prog w 22 22 ty 3 b 8 60 60 a l.length cap (poCells r n ws) _ (l.map iv) Try.underlying22 hsz hb hmin (fun j x hj => ?_) (by rw [List.length_map, hcl]; omega) (fun x hx => ?_)).trans (by rw [List.length_map]), ?_, ?_⟩
    · rw [List.getElem?_map] at hj
      by_cases hlt : j < l.length
      · rw [List.getElem?_eq_getElem hlt] at hj; cases hj; exact h3 j hlt
      · rw [List.getElem?_eq_none (by omega)] at hj; cases hj
    · obtain ⟨c, _, rfl⟩ := List.mem_map.1 hx; rfl
    · rw [setRow_heap w b _ _ _ _ hb]
      simp [poCells, Nat.add_comm 8]
    · exact ⟨rfl, rfl, rfl, by simp [World.setRow], fun k hk hn => setRow_other w b k _ (by intro e; exact hn (by simp [e]))⟩
/-- how many are kept is another now; one of the row is -/
theorem prow_kept {w : World} {b n : Nat} {r : Rt} {ws : List Int} (hb : w.heap[b]? = some (.cells (poCells r n ws) 62)) (m : Nat) : (w.setCell ⟨b, 7, none⟩ (.int .i64 (m : Int))).heap[b]? = some (.cells (poCells r m ws) 62) := by
  rw [at_set hb]; simp [poCells, iv]
theorem prow_want {w : World} {b n : Nat} {r : Rt} {ws : List Int} (hb : w.heap[b]? = some (.cells (poCells r n ws) 62)) (k : Nat) (x : Int) : (w.setCell ⟨b, 8 + k, none⟩ (.int .i64 x)).heap[b]? = some (.cells (poCells r n (ws.set k x)) 62) := by
  rw [at_set hb]; simp [poCells, iv, Nat.add_comm 8]
theorem pkeptn {w : World} {b n m : Nat} {r : Rt} {ws : List Int} (hb : w.heap[b]? = some (.cells (poCells r n ws) 62)) (z s : Int) (hs : IntKind.i64.wrap ((n : Int) + z) = s) (hm : s = (m : Int)) :
    Calls Try.prog 39 #[.pointer (some ⟨b, 7, none⟩), .int .i64 z] w fun e w' => e = .returned (.int .i64 s) ∧ w'.heap[b]? = some (.cells (poCells r m ws) 62) ∧ Chg [b] w w' := by
  subst hm
  refine (addn_i64 ⟨b, 7, none⟩ (n : Int) z _ w (by rw [at_cell hb, po_cell7]) (at_free hb 7) hs).mono ?_
  rintro e w' ⟨rfl, rfl⟩
  exact ⟨rfl, prow_kept hb m, (chg_refl w [b]).set (.inl (by simp)) _⟩
end Go.Proofs.Ytmhpldnmapjghaa
