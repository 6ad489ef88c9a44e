/-
  Contracts for package calm: how many are kept at most, the last ones, one more put behind; the least and the greatest of a slice. The condition of a call: the object lies there, a slice reads as numbers.
-/
import Derived.Test.YtecggbndlbkhdaaGreatY7
set_option linter.unusedSimpArgs false
set_option linter.unusedVariables false
namespace Go.Proofs.YtecggbndlbkhdaaGreat
set_option maxRecDepth 100000
open Go.RowKit

theorem most_le {c : Ca} (h : c.Ok) : c.most ≤ 61 := by
  have := h.u; have := h.d
  unfold Ca.most; omega
theorem room_any {b : Nat} {c : Ca} {w : World} (H : CaAt w b c) :
    Calls Tryz.prog 334 #[.pointer (some ⟨b, 0, none⟩)] w fun e w' => e = .returned (.int .i64 (c.most : Int)) ∧ w.grownBy w' none := by
  obtain ⟨c0, c1, c2, fz⟩ := H.cells
  have hu := H.ok.u; have hd := H.ok.d
  clear H
  have hm : (c.most : Int) = max (c.up : Int) (c.down : Int) + 1 := by unfold Ca.most; omega
  generalize c.most = m at *
  go_enter Tryz.func334, Tryz.ntmps334
  go_wp2_with fail
  go_quiet (fail)
  go_wp2_with fail
  all_goals go_ret
  all_goals exact ⟨congrArg (fun z => Ending.returned (.int .i64 z)) (by omega), ⟨rfl, rfl, rfl, Nat.le_refl _, fun _ _ _ => rfl⟩⟩
theorem last_any {b : Nat} {c : Ca} (k : Nat) (hk : k ≤ 60) {w : World} (H : CaAt w b c) :
    Calls Tryz.prog 370 #[.pointer (some ⟨b, 0, none⟩), .int .i64 (k : Int)] w fun e w' => (∃ v, e = .returned v ∧ IntsAt w' v (lastL c.l (k + 1))) ∧ w.grownBy w' none := by
  have hn := H.ok.n61
  have A := hid (all_any H)
  have IV := hid (fun W (h : w.grownBy W none) => (H.grown h).ints)
  unfold lastL
  generalize c.l = l at *
  generalize l.length = n at *
  clear H
  go_enter Tryz.func370, Tryz.ntmps370
  go_wp2_with fail
  refine A.out.mono ?_
  rintro e w1 ⟨rfl, hg⟩
  have G := hid hg; clear hg
  rcases Nat.lt_or_ge (k + 1) n with hle | hle
  · have e1 : max (0 : Int) ((n : Int) - 1 - (k : Int)) = (n : Int) - 1 - (k : Int) := by omega
    have e2 : (0 : Int) ≤ (n : Int) - 1 - (k : Int) := by omega
    have e3 : ¬ (n : Int) - 1 ≤ (k : Int) := by omega
    go_wp2_with fail
    go_ret
    refine ⟨⟨_, rfl, ?_⟩, G.out⟩
    rw [show n - (k + 1) = n - 1 - k by omega]
    exact ints_slice1 (IV.out _ G.out) (by omega)
  · have e1 : max (0 : Int) ((n : Int) - 1 - (k : Int)) = 0 := by omega
    have e3 : (n : Int) - 1 ≤ (k : Int) := by omega
    go_wp2_with fail
    go_ret
    refine ⟨⟨_, rfl, ?_⟩, G.out⟩
    rw [show n - (k + 1) = 0 by omega]
    exact IV.out _ G.out

set_option maxHeartbeats 800000 in
theorem min_any (v : Value) (l : List Int) (w : World) (h : IntsAt w v l) (hl : l ≠ []) :
    Calls Tryz.prog 369 #[v] w fun e w' => e = .returned (.int .i64 (loL l)) ∧ w = w' := by
  have HI := hid h
  obtain ⟨p, c, rfl⟩ := h.form
  obtain ⟨n, hn⟩ : ∃ n, l.length = n := ⟨_, rfl⟩
  have HN := hid hn
  have hlen := h.len
  have hpos := List.length_pos_iff.2 hl
  obtain ⟨ab, ao, rfl, -, hcc, hc0⟩ := h.cell hpos
  have hz := hid (show loTo l 1 = l[0] by
    cases l with
    | nil => exact absurd rfl hl
    | cons a t => show min a a = a; omega)
  unfold loL
  rw [hn] at HI hlen hpos hcc ⊢
  unfold maxLen at hlen
  rw [← hz.out, Nat.add_zero] at hc0
  clear h hn hl
  go_enter Tryz.func369, Tryz.ntmps369
  go_wp2_with fail
  go_loopw [3, 4] (fun m i wr => ∃ k : Nat, 1 ≤ k ∧ k ≤ n ∧ i = .int .i64 (k : Int) ∧ m = .int .i64 (loTo l k) ∧ w = wr) (fun _ i _ => n - (intOf i).toNat)
  case atStart => exact ⟨1, Nat.le_refl _, hpos, rfl, rfl, rfl⟩
  case round =>
    obtain ⟨k, hk1, hk, rfl, rfl, rfl⟩ := hrel
    by_cases hlt : k < n
    · have hkl : k < l.length := by rw [HN.out]; exact hlt
      obtain ⟨ab', ao', e, -, -, hcell⟩ := HI.out.cell hkl
      cases e
      have hx := List.getElem?_eq_getElem hkl
      generalize l[k] = y at *
      have hs := hid (show loTo l (k + 1) = min (loTo l k) y by
        show min (loTo l k) (l.getD k 0) = _
        rw [getD_at hx])
      clear hx hkl hz hc0
      generalize loTo l k = r at *
      go_wp2_with fail
      all_goals go_roundw
      all_goals first | (case measure => simp [intOf]; omega) | (case rel => refine ⟨k + 1, by omega, by omega, by go_num, ?_, trivial⟩; rw [hs.out]; first | done | exact congrArg (Value.int .i64) (by omega))
    · obtain rfl : k = n := by omega
      clear hc0 hz
      obtain ⟨r, hr⟩ : ∃ r, loTo l k = r := ⟨_, rfl⟩
      rw [hr]
      have HR := hid hr; clear hr
      go_wp2_with fail
      go_ret
      exact ⟨congrArg (fun z => Ending.returned (.int .i64 z)) HR.out.symm, rfl⟩
set_option maxHeartbeats 800000 in
theorem max_any (v : Value) (l : List Int) (w : World) (h : IntsAt w v l) (hl : l ≠ []) :
    Calls Tryz.prog 371 #[v] w fun e w' => e = .returned (.int .i64 (hiL l)) ∧ w = w' := by
  have HI := hid h
  obtain ⟨p, c, rfl⟩ := h.form
  obtain ⟨n, hn⟩ : ∃ n, l.length = n := ⟨_, rfl⟩
  have HN := hid hn
  have hlen := h.len
  have hpos := List.length_pos_iff.2 hl
  obtain ⟨ab, ao, rfl, -, hcc, hc0⟩ := h.cell hpos
  have hz := hid (show hiTo l 1 = l[0] by
    cases l with
    | nil => exact absurd rfl hl
    | cons a t => show max a a = a; omega)
  unfold hiL
  rw [hn] at HI hlen hpos hcc ⊢
  unfold maxLen at hlen
  rw [← hz.out, Nat.add_zero] at hc0
  clear h hn hl
  go_enter Tryz.func371, Tryz.ntmps371
  go_wp2_with fail
  go_loopw [3, 4] (fun m i wr => ∃ k : Nat, 1 ≤ k ∧ k ≤ n ∧ i = .int .i64 (k : Int) ∧ m = .int .i64 (hiTo l k) ∧ w = wr) (fun _ i _ => n - (intOf i).toNat)
  case atStart => exact ⟨1, Nat.le_refl _, hpos, rfl, rfl, rfl⟩
  case round =>
    obtain ⟨k, hk1, hk, rfl, rfl, rfl⟩ := hrel
    by_cases hlt : k < n
    · have hkl : k < l.length := by rw [HN.out]; exact hlt
      obtain ⟨ab', ao', e, -, -, hcell⟩ := HI.out.cell hkl
      cases e
      have hx := List.getElem?_eq_getElem hkl
      generalize l[k] = y at *
      have hs := hid (show hiTo l (k + 1) = max (hiTo l k) y by
        show max (hiTo l k) (l.getD k 0) = _
        rw [getD_at hx])
      clear hx hkl hz hc0
      generalize hiTo l k = r at *
      go_wp2_with fail
      all_goals go_roundw
      all_goals first | (case measure => simp [intOf]; omega) | (case rel => refine ⟨k + 1, by omega, by omega, by go_num, ?_, trivial⟩; rw [hs.out]; first | done | exact congrArg (Value.int .i64) (by omega))
    · obtain rfl : k = n := by omega
      clear hc0 hz
      obtain ⟨r, hr⟩ : ∃ r, hiTo l k = r := ⟨_, rfl⟩
      rw [hr]
      have HR := hid hr; clear hr
      go_wp2_with fail
      go_ret
      exact ⟨congrArg (fun z => Ending.returned (.int .i64 z)) HR.out.symm, rfl⟩

/-- the operation copy -/
theorem wp_copyN {w : World} {o : Oper} {a : Act} {K : Act → World → Prop} {Q : Exit → Act → World → Prop} (d s : Operand)
    (ho : o.op = .call { callee := .builtin .copy, args := #[d, s], argTypes := #[22, 22] }) (v u : Value) (hd : a.eval d = v) (hs : a.eval s = u) {v' : Value} {w' : World}
    (hr : (Builtin.copy_ #[22, 22] o.type #[v, u]).run Tryz.prog w = .ok v' w') (h : K (a.put o.dst v') w') : o.wp Tryz.prog a w K Q := by
  unfold Oper.wp execOp
  simp only [ho, resolve, invoke, builtin, Sem.run_bind, Sem.run_pure, Result.andThen_ok, List.map_toArray, List.map_cons, List.map_nil, hd, hs, hr]
  exact h
/-- numbers into the row -/
theorem copy_into {w : World} {b u d n : Nat} {ws : List Int} (hb : w.heap[b]? = some (.cells (caCells u d n ws) 356)) (hw : ws.length = 61) {v : Value} {l : List Int} (hv : IntsAt w v l) (hl : l.length ≤ 61) (ty : TypeId) :
    ∃ w', (Builtin.copy_ #[22, 22] ty #[.slice (some ⟨b, 3, none⟩) 61 61, v]).run Tryz.prog w = .ok (goInt l.length) w' ∧ w'.heap[b]? = some (.cells (caCells u d n (l ++ ws.drop l.length)) 356) ∧ Chg [b] w w' := by
  obtain ⟨i, hi, hz0, hz1, hz2⟩ := info_parts info_num
  have hsz : (Tryz.prog.info? 3).map (·.size) = some 1 := by rw [hi]; simp [hz1]
  have hcl : (caCells u d n ws).size = 64 := by simp [caCells, hw]
  rcases hv with ⟨rfl, rfl⟩ | ⟨a, cap, rfl, h1, h2, h3⟩
  · refine ⟨w, ?_, by simpa using hb, chg_refl _ _⟩
    exact run_copy_nil Tryz.prog w 22 22 ty 3 ⟨b, 3, none⟩ 61 61 Tryz.underlying22 (by rw [hi]; rfl)
  · have hmin : (l.map iv).length = Nat.min l.length 61 := by rw [List.length_map]; exact (Nat.min_eq_left hl).symm
    refine ⟨_, (run_copy_row Tryz.prog w 22 22 ty 3 b 3 61 61 a l.length cap (caCells u d n ws) _ (l.map iv) Tryz.underlying22 hsz hb hmin (fun j x hj => ?_) (by rw [List.length_map, hcl]; omega) (fun x hx => ?_)).trans (by rw [List.length_map]), ?_, ?_⟩
    · rw [List.getElem?_map] at hj
      by_cases hlt : j < l.length
      · rw [List.getElem?_eq_getElem hlt] at hj; cases hj; exact h3 j hlt
      · rw [List.getElem?_eq_none (by omega)] at hj; cases hj
    · obtain ⟨c, _, rfl⟩ := List.mem_map.1 hx; rfl
    · rw [setRow_heap w b _ _ _ _ hb]
      simp [caCells, Nat.add_comm 3]
    · exact ⟨rfl, rfl, rfl, by simp [World.setRow], fun k hk hn => setRow_other w b k _ (by intro e; exact hn (by simp [e]))⟩
/-- how many are kept is another now; one of the row is -/
theorem row_kept {w : World} {b u d n : Nat} {ws : List Int} (hb : w.heap[b]? = some (.cells (caCells u d n ws) 356)) (m : Nat) : (w.setCell ⟨b, 2, none⟩ (.int .i64 (m : Int))).heap[b]? = some (.cells (caCells u d m ws) 356) := by
  rw [at_set hb]; simp [caCells, iv]
theorem row_want {w : World} {b u d n : Nat} {ws : List Int} (hb : w.heap[b]? = some (.cells (caCells u d n ws) 356)) (k : Nat) (x : Int) : (w.setCell ⟨b, 3 + k, none⟩ (.int .i64 x)).heap[b]? = some (.cells (caCells u d n (ws.set k x)) 356) := by
  rw [at_set hb]; simp [caCells, iv, Nat.add_comm 3]
theorem keptn {w : World} {b u d n m : Nat} {ws : List Int} (hb : w.heap[b]? = some (.cells (caCells u d n ws) 356)) (z s : Int) (hs : IntKind.i64.wrap ((n : Int) + z) = s) (hm : s = (m : Int)) :
    Calls Tryz.prog 155 #[.pointer (some ⟨b, 2, none⟩), .int .i64 z] w fun e w' => e = .returned (.int .i64 s) ∧ w'.heap[b]? = some (.cells (caCells u d m ws) 356) ∧ Chg [b] w w' := by
  subst hm
  refine (addn_i64 ⟨b, 2, none⟩ (n : Int) z _ w (by rw [at_cell hb, ca_cell2]) (at_free hb 2) hs).mono ?_
  rintro e w' ⟨rfl, rfl⟩
  exact ⟨rfl, row_kept hb m, (chg_refl w [b]).set (.inl (by simp)) _⟩
end Go.Proofs.YtecggbndlbkhdaaGreat
