/-
  Contract for package state: an epoch's samples by metrics, of those who are heard. The condition: the state lies there.
  Contract for package state: the epoch's end, and what is said of it plainly. The condition: the state lies there.
-/
import Derived.Test.YtecggbndlbkhdaaGreatY32
section
set_option linter.unusedSimpArgs false
set_option linter.unusedVariables false
namespace Go.Proofs.YtecggbndlbkhdaaGreat
set_option maxRecDepth 100000
open Go.RowKit

theorem zdel_nil {X : SBl} {c : Conf} {s : Ste} {sb : Nat} {w : World} (hK : HrK X c s sb w) :
    Calls Tryz.prog 240 #[.slice none 0 0, hrdF sb] w fun e w' => e = .returned (.slice none 0 0) ∧ w.grownBy w' none := by
  have IX := hid (zindex_any hK _ [] (SAt.nil w) (by decide))
  clear hK
  go_enter Tryz.func240, Tryz.ntmps240
  go_wp2_with fail
  refine IX.out.mono ?_
  rintro e w1 ⟨i, rfl, hf, hg1⟩
  have G1 := hid hg1
  clear IX hg1
  rcases hf with ⟨rfl, -⟩ | ⟨k, -, hk, -⟩
  · go_wp2_with fail
    go_ret
    exact ⟨rfl, G1.out⟩
  · cases hk
/-- the same of a slice of the call's own -/
theorem zdel_own {X : SBl} {c : Conf} {s : Ste} {sb base : Nat} {w : World} {v : Value} {L : List Sm} (hK : HrK X c s sb w) (ho : OwnZ base w v L) (hlen : L.length ≤ 100000) (hg : ∀ g, v.ownBlock = some g → g ∉ X.all ∧ g ≠ sb) :
    Calls Tryz.prog 240 #[v, hrdF sb] w fun e w' => ∃ v', e = .returned v' ∧ OwnZ base w' v' (heardL s.s.H L) ∧ Chg v.ownBlock.toList w w' := by
  obtain ⟨h0, ⟨rfl, h1⟩ | ⟨g, cap, cur, rfl, hb, hh, hcap, hmx, hcs, htk⟩⟩ := ho
  · obtain rfl := List.eq_nil_of_length_eq_zero h1
    refine (zdel_nil hK).mono ?_
    rintro e w' ⟨rfl, hg'⟩
    exact ⟨_, rfl, OwnZ.nil _ _, chg_grown hg' _⟩
  · have hB : ZBlk w g L (cur.toList.drop (L.length * 4)) := by
      have e : flatS L ++ cur.toList.drop (L.length * 4) = cur.toList := by rw [← htk]; exact List.take_append_drop _ _
      show w.heap[g]? = some (.cells (flatS L ++ cur.toList.drop (L.length * 4)).toArray _)
      rw [e]; exact hh
    refine (zdel_any hK hB hlen hcap hmx (hg g rfl)).mono ?_
    rintro e w' ⟨rfl, ⟨R', hZ, hR⟩, hc⟩
    have hl := heardL_len s.s.H L
    refine ⟨_, rfl, ⟨by rw [flatS_len], .inr ⟨g, cap, _, rfl, hb, hZ, by omega, hmx, ?_, ?_⟩⟩, hc⟩
    · have hq : cur.toList.length = cap * 4 := by rw [Array.length_toList]; exact hcs
      rw [List.size_toArray, hR, List.length_append, flatS_len, List.length_drop, hq]
      have : L.length * 4 ≤ cap * 4 := Nat.mul_le_mul_right 4 hcap
      omega
    · show (flatS (heardL s.s.H L) ++ R').take ((heardL s.s.H L).length * 4) = _
      rw [List.take_append_of_le_length (by rw [flatS_len]; exact Nat.le_refl _), List.take_of_length_le (by rw [flatS_len]; exact Nat.le_refl _)]
theorem info_zrows : (Tryz.prog.info? 86).map (fun i => (i.zero, i.size, i.bytes)) = some (some (.slice none 0 0), 1, 24) := by kernel_rfl
theorem mk_zrows (n : Nat) (hn : n ≤ 16) (u : World) : (Instr.makeSlice 268 (.int .i64 (n : Int)) (.int .i64 (n : Int))).run Tryz.prog u = .ok (.slice (some ⟨u.heap.size, 0, none⟩) n n) (u.alloc (.cells (Array.replicate n (.slice none 0 0)) 86)) := by
  obtain ⟨i, hi, hz0, hz1, hz2⟩ := info_parts info_zrows
  have := run_makeSlice (P := Tryz.prog) u 268 86 i _ Tryz.underlying268 hi hz0 .i64 .i64 (n : Int) (n : Int) (by omega) (Int.le_refl _) (by rw [hz1]; omega) (by rw [hz2]; omega) (by omega)
  rw [this, hz1]
  simp [list_made, Value.cells]
/-- rows of the call's own -/
def RowsO (base : Nat) (W : World) (v : Value) (ls : List (Value × List Sm)) : Prop := ∃ rb, v = .slice (some ⟨rb, 0, none⟩) ls.length ls.length ∧ base ≤ rb ∧ W.heap[rb]? = some (.cells (ls.map Prod.fst).toArray 86) ∧ (∀ x ∈ ls, OwnZ base W x.1 x.2) ∧ ls.length ≤ 16
theorem RowsO.reads {base : Nat} {W : World} {v : Value} {ls : List (Value × List Sm)} (h : RowsO base W v ls) : RowsS W v ls := by
  obtain ⟨rb, rfl, -, hb, ho, hl⟩ := h
  refine .inr ⟨rb, 0, ls.length, rfl, Nat.le_refl _, by unfold maxLen; omega, fun i hi => ⟨?_, (ho _ (List.getElem_mem hi)).reads⟩⟩
  rw [Nat.zero_add, at_cell hb i, List.getElem?_toArray, List.getElem?_map, List.getElem?_eq_getElem hi]
  rfl
theorem RowsO.chg {base : Nat} {W W' : World} {v : Value} {ls : List (Value × List Sm)} {F : List Nat} (h : RowsO base W v ls) (hc : Chg F W W') (hF : ∀ x ∈ F, x < base) : RowsO base W' v ls := by
  obtain ⟨rb, e, hr, hb, ho, hl⟩ := h
  exact ⟨rb, e, hr, hc.at hb fun hm => by have := hF _ hm; omega, fun x hx => (ho x hx).chg hc fun g hg hm => by have := ((ho x hx).at g hg).1; have := hF g hm; omega, hl⟩
theorem RowsO.grown {base : Nat} {W W' : World} {v : Value} {ls : List (Value × List Sm)} (h : RowsO base W v ls) (hg : W.grownBy W' none) : RowsO base W' v ls := h.chg (chg_grown hg []) (by simp)
theorem RowsO.drew {base : Nat} {W : World} {v : Value} {ls : List (Value × List Sm)} (h : RowsO base W v ls) : RowsO base W.drew v ls := h.chg ((chg_refl W []).drew) (by simp)
/-- the rows so far, in their block -/
structure Hrd (w1 : World) (rb m k : Nat) (F : Nat → List Sm) (ls : List (Value × List Sm)) (W : World) : Prop where
  len : ls.length = k
  blk : W.heap[rb]? = some (.cells (ls.map Prod.fst ++ List.replicate (m - k) (Value.slice none 0 0)).toArray 86)
  own : ∀ x ∈ ls, OwnZ (rb + 1) W x.1 x.2
  is : ls.map Prod.snd = (List.range k).map F
  gr : w1.grownBy W none
theorem Hrd.next {w1 W W3 : World} {rb m k : Nat} {F : Nat → List Sm} {ls : List (Value × List Sm)} (h : Hrd w1 rb m k F ls W) (hk : k < m) (hrb : w1.heap.size ≤ rb) {v : Value} {base : Nat} (ho : OwnZ base W3 v (F k)) (hb : rb + 1 ≤ base) (hg : W.grownBy W3 none) :
    Hrd w1 rb m (k + 1) F (ls ++ [(v, F k)]) (W3.setCell ⟨rb, k, none⟩ v) := by
  have hs : Chg [rb] W3 (W3.setCell ⟨rb, k, none⟩ v) := (chg_refl W3 _).set (.inl (by simp)) _
  refine ⟨by rw [List.length_append, h.len]; rfl, ?_, fun x hx => ?_, ?_, gb_new (gb_trans h.gr hg (.inl rfl)) hrb v⟩
  · have := at_set (at_grown h.blk hg (by simp)) k v
    rw [this, set_arr]
    congr 2
    rw [List.set_append_right _ _ (by rw [List.length_map, h.len]; exact Nat.le_refl _), List.length_map, h.len, Nat.sub_self, List.map_append, List.append_assoc]
    obtain ⟨j, hj⟩ : ∃ j, m - k = j + 1 := ⟨m - k - 1, by omega⟩
    rw [hj, List.replicate_succ, List.set_cons_zero, show m - (k + 1) = j by omega]
    rfl
  · rcases List.mem_append.1 hx with hx | hx
    · refine ((h.own x hx).grown hg).chg hs fun g hg hm => ?_
      have := ((h.own x hx).at g hg).1
      rw [List.mem_singleton.1 hm] at this
      omega
    · rw [List.mem_singleton.1 hx]
      refine (ho.le hb).chg hs fun g hg hm => ?_
      have := (ho.at g hg).1
      rw [List.mem_singleton.1 hm] at this
      omega
  · rw [List.map_append, h.is, List.range_succ, List.map_append]; rfl
set_option maxHeartbeats 3200000 in
theorem suheard_any {w : World} {X : SBl} {c : Conf} {s : Ste} (hK : StAt w X c s) (hlen : s.t.length ≤ 1000) {m : Nat} (hm : c.m = (m : Int)) (hm4 : m ≤ 4) (e : Int) (he : wf64 e) :
    Calls Tryz.prog 151 #[.pointer (some ⟨X.b, 0, none⟩), .int .i64 e] w fun x w' => ∃ v ls, x = .returned v ∧ RowsO w.heap.size w' v ls ∧ ls.map Prod.snd = (List.range m).map (fun k : Nat => heardL s.s.H (ofT s.t e (k : Int))) ∧ w.grownBy w' none := by
  have hB0 := at_new w (.cells #[.pointer (some ⟨X.b, 0, none⟩)] 29)
  have HK0 := hid (show HrK X c s w.heap.size (w.alloc (.cells #[.pointer (some ⟨X.b, 0, none⟩)] 29)) from ⟨hK.alloc _, hB0⟩)
  have HL := hid hlen; have HE := hid he; have HX := hid (show ∀ x ∈ X.all, x < w.heap.size from hK.lt)
  have cm := HK0.out.st.conf.2.2.1
  have c0 := at_cell HK0.out.box 0
  rw [hm] at cm
  have G0 := hid (World.grownBy_alloc w (.cells #[.pointer (some ⟨X.b, 0, none⟩)] 29) none)
  have hmk := mk_zrows m (by omega)
  have SZ := hid (show (w.alloc (.cells #[.pointer (some ⟨X.b, 0, none⟩)] 29)).heap.size = w.heap.size + 1 from size_new _ _)
  obtain ⟨F, hF⟩ : ∃ F : Nat → List Sm, (fun k : Nat => heardL s.s.H (ofT s.t e (k : Int))) = F := ⟨_, rfl⟩
  have HF := hid (show ∀ k : Nat, heardL s.s.H (ofT s.t e (k : Int)) = F k from fun k => congrFun hF k)
  rw [hF]
  clear hK hlen he hB0 hm hF
  go_enter Tryz.func151, Tryz.ntmps151
  go_upto_region 1 with fail
  generalize hsb : w.heap.size = sb at HK0 SZ c0 HX ⊢
  generalize w.alloc (.cells #[.pointer (some ⟨X.b, 0, none⟩)] 29) = w1 at *
  have HSB := hid hsb
  clear hsb
  have S0 := hid (show Hrd w1 w1.heap.size m 0 F [] (w1.alloc (.cells (Array.replicate m (.slice none 0 0)) 86)) from ⟨rfl, by simpa using at_new w1 (.cells (Array.replicate m (.slice none 0 0)) 86), by simp, rfl, World.grownBy_alloc _ _ _⟩)
  go_upto_region 2 with fail
  clear cm c0
  generalize hrb : w1.heap.size = rb at S0 SZ ⊢
  have RB := hid (show w1.heap.size ≤ rb from Nat.le_of_eq hrb)
  have RE := hid hrb
  generalize w1.alloc (.cells (Array.replicate m (.slice none 0 0)) 86) = w2 at *
  clear hrb hmk
  go_wp2_with fail
  go_loopw [6, 15] (fun _ i wr => ∃ (k : Nat) (ls : List (Value × List Sm)), k ≤ m ∧ i = .int .i64 (k : Int) ∧ Hrd w1 rb m k F ls wr) (fun _ i _ => m - (intOf i).toNat)
  case atStart => exact ⟨0, [], Nat.zero_le _, rfl, S0.out⟩
  case round =>
    obtain ⟨k, ls, hk, rfl, hH⟩ := hrel
    have HH := hid hH
    have HKR := hid (HK0.out.grown hH.gr)
    by_cases hlt : k < m
    · have c0 := at_cell HKR.out.box 0
      obtain ⟨-, -, c28, -⟩ := HKR.out.st.cells
      have TOF := hid (tof_any HKR.out.st.table (by have := HL.out; omega) e (k : Int) HE.out (by unfold wf64; omega))
      have RS := hid (gb_size hH.gr)
      have LRB := hid (at_lt hH.blk)
      clear hH
      go_wp2_with fail
      refine TOF.out.mono ?_
      rintro x w3 ⟨v3, rfl, hz, hg⟩
      have HK3 := hid (HKR.out.grown hg)
      have hOF : (ofT s.t e (k : Int)).length ≤ 100000 := by have := ofT_len s.t e (k : Int); have := HL.out; omega
      have NEW := hid (show ∀ g, v3.ownBlock = some g → wr.heap.size ≤ g from fun g h => (hz.at g h).1)
      have DEL := hid (zdel_own HK3.out hz hOF fun g h => by
        have h1 := NEW.out g h
        have h2 := RS.out
        have h3 := SZ.out
        have h4 := RE.out
        refine ⟨fun hm => ?_, ?_⟩
        · have := HX.out g hm; omega
        · have := at_lt HKR.out.box; omega)
      rw [HF.out k] at DEL
      have G3 := hid hg
      obtain ⟨p3, k3, rfl⟩ := hz.form
      clear hz hg hOF TOF c28 HK3
      have c0' := at_cell (at_grown HKR.out.box G3.out (by simp)) 0
      go_wp2_with fail
      refine DEL.out.mono ?_
      rintro x w4 ⟨v4, rfl, ho, hc⟩
      have G4 := hid (show wr.grownBy w4 none from ((chg_grown G3.out []).trans hc (fun y hy => .inr (NEW.out y (by simpa using hy)))).free (by simp))
      have OW := hid ho
      have FIN := hid (HH.out.next hlt RB.out ho LRB.out G4.out)
      have hb4 := at_grown HH.out.blk G4.out (by simp)
      have f4 := at_free hb4 k
      have c4 : w4.cell? ⟨rb, k, none⟩ = some (.slice none 0 0) := by
        rw [at_cell hb4 k, List.getElem?_toArray, List.getElem?_append_right (by rw [List.length_map, HH.out.len]; exact Nat.le_refl _), List.length_map, HH.out.len, Nat.sub_self, List.getElem?_replicate, if_pos (by omega)]
      obtain ⟨p4, k4, rfl⟩ := ho.form
      clear ho hc DEL c0 c0' hb4
      go_wp2_with fail
      go_roundw
      case rel => exact ⟨k + 1, _, hlt, by go_num, FIN.out⟩
      case measure => simp [intOf]; omega
    · obtain rfl : k = m := by omega
      clear hH
      go_wp2_with fail
      go_ret
      refine ⟨.slice (some ⟨rb, 0, none⟩) k k, ls, rfl, ?_, HH.out.is, gb_trans G0.out HH.out.gr (.inl rfl)⟩
      have hb := HH.out.blk
      rw [Nat.sub_self, List.replicate_zero, List.append_nil] at hb
      have h3 := SZ.out
      have h4 := RE.out
      have h5 := HSB.out
      exact ⟨rb, by rw [HH.out.len], by omega, hb, fun x hx => (HH.out.own x hx).le (by omega), by rw [HH.out.len]; omega⟩
end Go.Proofs.YtecggbndlbkhdaaGreat
end
section
set_option linter.unusedSimpArgs false
set_option linter.unusedVariables false
namespace Go.Proofs.YtecggbndlbkhdaaGreat
set_option maxRecDepth 100000
open Go.RowKit

theorem full_is {s : Ste} {k : Nat} (hm : mayL ((s.row k).map Sm.val) = true) (hf : 0 ≤ s.p.f) (hq : 2 * s.p.f + 1 ≤ s.p.q) : s.full k = fullR s.p.q (s.row k) := by
  unfold Ste.full fullR Ste.mean
  by_cases h : s.p.q ≤ ((s.row k).length : Int)
  · have hl : leaves ((s.row k).map Sm.val) s.p.f := ⟨hm, hf, by rw [List.length_map]; omega⟩
    obtain ⟨f, ef⟩ : ∃ f : Nat, s.p.f = (f : Int) := ⟨s.p.f.toNat, by omega⟩
    have hp : 0 < (midL ((s.row k).map Sm.val) s.p.f).length := by
      rw [ef] at hl ⊢
      rw [midL_in hl, cutL_len, List.length_map]
      omega
    rw [meanL_in hp rfl]
    have h0 : (0 : Int) < ((s.row k).length : Int) := by omega
    simp [h]; omega
  · simp [h]
theorem bel_rows {s : Ste} (hm : ∀ k, mayL ((s.row k).map Sm.val) = true) (hf : 0 ≤ s.p.f) (hq : 2 * s.p.f + 1 ≤ s.p.q) : belR s.p.q s.p.f s.rows = if s.holds = true then ([], false) else (s.vals, true) := by
  have e1 : s.rows.all (fullR s.p.q) = (List.range s.p.m.toNat).all s.full := by
    unfold Ste.rows
    rw [List.all_map]
    congr 1
    funext k
    exact (full_is (hm k) hf hq).symm
  have e2 : s.rows.map (meanR s.p.f) = s.vals := by
    unfold Ste.rows Ste.vals
    rw [List.map_map]
    rfl
  unfold belR Ste.holds
  rw [e1, e2]
  cases (List.range s.p.m.toNat).all s.full <;> rfl
theorem sc_ok {c : Conf} {s0 s : Ste} (hO : SuOf c s0) (hk : Ste.Ok s0 s) : s.s.ok := by
  obtain ⟨n, en, hms, es⟩ := hO.sn
  obtain ⟨h1, h2, h3⟩ := hk.ss
  unfold MaySc at hms
  have e1 : s0.s.st = c.strikes := by rw [es]; rfl
  have e2 : s0.s.pr = c.probe := by rw [es]; rfl
  have e3 : s0.s.far = c.far := by rw [es]; rfl
  have hn := hO.n
  have hl := hk.sl
  refine ⟨by rw [hl]; omega, by rw [hl]; omega, by rw [h1, e1]; omega, by rw [h2, e2]; omega, by rw [h3, e3]; omega, fun x hx => ?_⟩
  obtain ⟨a, b, d⟩ := hk.sh x hx
  refine ⟨a, ?_⟩
  rw [e1] at d
  rw [e2] at b
  cases hb : x.1 with
  | true => have := b hb; omega
  | false => have := d hb; omega
/-- a decision is kept -/
theorem sukeep_any {w : World} {X : SBl} {c : Conf} {s : Ste} (hK : StAt w X c s) (d : Dc) (hl : s.ds.length ≤ 64) :
    Calls Tryz.prog 156 #[.pointer (some ⟨X.b, 0, none⟩), dcV d] w fun e w' => e = .returned (.tuple #[]) ∧ SuK w X.all X.b c { s with ds := keep64 (s.ds ++ [d]) } w' := by
  unfold keep64
  rw [List.length_append, List.length_singleton]
  by_cases h : s.ds.length = 64
  · rw [h, List.drop_append_of_le_length (by omega)]
    exact sukeep_full hK d h
  · rw [show s.ds.length + 1 - 64 = 0 by omega, List.drop_zero]
    exact sukeep_room hK d (by omega)
/-- what the end keeps: the state, its own two blocks, the rows -/
structure EnK (w : World) (c : Conf) (b b2 : Nat) (s : Ste) (v : Value) (ls : List (Value × List Sm)) (base : Nat) (X : SBl) (W : World) : Prop where
  eb : X.b = b
  st : StAt W X c s
  r2 : W.heap[b2]? = some (dcObj zD)
  n2 : w.heap.size ≤ b2 ∧ b2 ∉ X.all
  ch : ∀ A : List Nat, (∀ x ∈ X.all, x ∈ A) → Chg A w W
  rows : RowsO base W v ls
  lt : ∀ x ∈ X.all, x < base
section
variable {w W W' : World} {c : Conf} {b b2 base : Nat} {s s' : Ste} {v : Value} {ls : List (Value × List Sm)} {X : SBl} {F : List Nat}
theorem EnK.grown (h : EnK w c b b2 s v ls base X W) (hg : W.grownBy W' none) : EnK w c b b2 s v ls base X W' :=
  ⟨h.eb, h.st.grown hg, at_grown h.r2 hg (by simp), h.n2, fun A hA => (h.ch A hA).grown hg, h.rows.grown hg, h.lt⟩
theorem EnK.drew (h : EnK w c b b2 s v ls base X W) : EnK w c b b2 s v ls base X W.drew := ⟨h.eb, h.st.drew, h.r2, h.n2, fun A hA => (h.ch A hA).drew, h.rows.drew, h.lt⟩
/-- the state changes in its own blocks -/
theorem EnK.step (h : EnK w c b b2 s v ls base X W) (ht : StAt W' X c s') (hc : Chg F W W') (hF : ∀ x ∈ F, x ∈ X.all) : EnK w c b b2 s' v ls base X W' :=
  ⟨h.eb, ht, hc.at h.r2 fun hm => h.n2.2 (hF _ hm), h.n2, fun A hA => (h.ch A hA).then (hc.more fun x hx => hA x (hF x hx)), h.rows.chg hc fun x hx => h.lt x (hF x hx), h.lt⟩
end
end Go.Proofs.YtecggbndlbkhdaaGreat
end
