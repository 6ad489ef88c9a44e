/-
  Contracts of the document's table: May, Of, Drop. The condition: the table lies there.
-/
import Derived.Test.YtjjcnojckbeekaaTbR
set_option linter.unusedSimpArgs false
set_option linter.unusedVariables false
namespace Go.Proofs.Ytjjcnojckbeekaa
set_option maxRecDepth 100000
open Go.RowKit

set_option maxHeartbeats 6400000 in
theorem rmay_look {base : Nat} {n m f : Int} {L : List Sm} {rb : Nat} {w : World} (h : RtAt base n m f L rb w) (hlen : L.length ≤ 100000) (s : Sm) (now : Int) (he : wf64 s.ep) (hn : wf64 now) (hA : AdmT n m s) (hF : now ≤ s.ep ∧ s.ep - now < f) :
    Calls Try.prog 11 #[.pointer (some ⟨rb, 0, none⟩), .agg #[.int .i64 s.who, .int .i64 s.met, .int .i64 s.ep, .int .i64 s.val], .int .i64 now] w fun e w' => e = .returned (.int .i64 (if There L s.pl then 8 else 0)) ∧ w.grownBy w' none := by
  obtain ⟨r, hr⟩ : ∃ r : Int, r = if There L s.pl then 8 else 0 := ⟨_, rfl⟩
  rw [← hr]
  have HR := hid hr
  obtain ⟨p, c, c0, c1, c2, c3, hown, hob⟩ := (h.alloc (.cells #[.int .i64 s.who, .int .i64 s.met, .int .i64 s.ep, .int .i64 s.val] 29)).cells
  obtain ⟨N, hN⟩ : ∃ N, L.length = N := ⟨_, rfl⟩
  rw [hN] at c3 hown hob
  have HN := hid hN
  have HK := hid hlen
  have HRD := hid hown.reads
  have HOB := hid hob
  have hb := h.lt
  have hnm := h.nm
  unfold MayNew at hnm
  clear h hr hown hob hN hlen
  obtain ⟨a, y, e, v⟩ := s
  unfold AdmT at hA
  unfold wf64 at he hn
  simp only at *
  obtain ⟨h1, h2, h3, h4, h5, h6⟩ := hA
  obtain ⟨h7, h8⟩ := hF
  have hbx := at_new w (.cells #[.int .i64 a, .int .i64 y, .int .i64 e, .int .i64 v] 29)
  have HBX := hid hbx
  have e0 := at_cell hbx 0
  have e1 := at_cell hbx 1
  have e2 := at_cell hbx 2
  have e3 := at_cell hbx 3
  clear hbx
  have G0 := hid (World.grownBy_alloc w (.cells #[.int .i64 a, .int .i64 y, .int .i64 e, .int .i64 v] 29) none)
  have f1 : ¬ a < 0 := by omega
  have f2 : ¬ n ≤ a := by omega
  have f3 : ¬ y < 0 := by omega
  have f4 : ¬ m ≤ y := by omega
  have f5 : ¬ v < 0 := by omega
  have f6 : ¬ 1099511627776 < v := by omega
  have s2 : IntKind.u64.wrap f = f := by simp only [IntKind.wrap_u64]; omega
  have s1 : IntKind.u64.wrap (IntKind.u64.wrap e - IntKind.u64.wrap now) = e - now := by
    simp only [IntKind.wrap_u64]; omega
  have g1 : ¬ e < now := by omega
  have g2 : ¬ f ≤ e - now := by omega
  go_enter Try.func11, Try.ntmps11
  go_wp2_with fail
  generalize hW1 : w.alloc (.cells #[.int .i64 a, .int .i64 y, .int .i64 e, .int .i64 v] 29) = W1 at *
  clear hW1
  go_quiet (fail)
  go_wp2_with fail
  clear f1 f2 f3 f4 f5 f6 h1 h2 h3 h4 h5 h6 c0 c1 e0 e1 e3
  go_quiet (fail)
  go_wp2_with fail
  clear h7 h8 g1 g2 s1 s2 he hn hnm c2 c3 e2
  go_loopw [7] (fun i wr => ∃ k : Nat, k ≤ N ∧ i = .int .i64 (k : Int) ∧ (∀ i, (hi : i < L.length) → i < k → L[i].pl ≠ Sm.pl ⟨a, y, e, v⟩) ∧ W1.grownBy wr none) (fun i _ => N - (intOf i).toNat)
  case atStart => exact ⟨0, Nat.zero_le _, rfl, fun i hi hk => absurd hk (Nat.not_lt_zero i), gb_drewN (gb_drewN (.refl W1 none) _) _⟩
  case round =>
    obtain ⟨k, hk, rfl, hall, hgr⟩ := hrel
    have HA := hid hall
    have HGR := hid hgr
    have hob := at_grown HOB.out hgr (by simp)
    have hbx := at_grown HBX.out hgr (by simp)
    have c3 := at_cell hob 3
    clear hall hgr hob
    by_cases hkn : k < N
    · have hkn' : (k : Int) < (N : Int) := by omega
      have hlt1 : k + 1 ≤ N := hkn
      have hkL : k < L.length := by rw [HN.out]; exact hkn
      have hk6 : k < 100000 := by have := HK.out; have := HN.out; omega
      obtain ⟨g, o, rfl, -, hnc, a0, a1, a2, a3⟩ := (HRD.out.grown HGR.out).cells (i := k) hkL
      have hmem : L[k] ∈ L := List.getElem_mem hkL
      have hnext : L[k].pl ≠ Sm.pl ⟨a, y, e, v⟩ → ∀ i, (hi : i < L.length) → i < k + 1 → L[i].pl ≠ Sm.pl ⟨a, y, e, v⟩ := fun hx i hi hik => by
        rcases Nat.lt_or_ge i k with h | h
        · exact HA.out i hi h
        · have : i = k := by omega
          subst this; exact hx
      generalize L[k] = z at *
      have HMEM := hid hmem
      have HNEXT := hid hnext
      clear hmem hnext
      obtain ⟨zw, zm, ze, zv⟩ := z
      simp only at a0 a1 a2 a3
      have e0 := at_cell (at_alloc hbx (.cells #[.int .i64 zw, .int .i64 zm, .int .i64 ze, .int .i64 zv] 29)) 0
      have e1 := at_cell (at_alloc hbx (.cells #[.int .i64 zw, .int .i64 zm, .int .i64 ze, .int .i64 zv] 29)) 1
      have e2 := at_cell (at_alloc hbx (.cells #[.int .i64 zw, .int .i64 zm, .int .i64 ze, .int .i64 zv] 29)) 2
      clear hbx
      by_cases d1 : zw = a
      · subst d1
        by_cases d2 : zm = y
        · subst d2
          by_cases d3 : ze = e
          · subst d3
            have HRR := hid (show r = 8 by rw [HR.out, if_pos ⟨_, HMEM.out, rfl⟩])
            clear HNEXT HMEM
            go_wp2_with fail
            go_ret
            exact ⟨by rw [HRR.out]; rfl, gb_trans G0.out (gb_alloc HGR.out _) (.inl rfl)⟩
          · have HN2 := hid (HNEXT.out (by simp only [Sm.pl, ne_eq, Prod.mk.injEq]; omega))
            clear HNEXT HMEM
            go_wp2_with fail
            go_roundw
            case rel => exact ⟨k + 1, hlt1, by go_num, HN2.out, gb_alloc HGR.out _⟩
            case measure => simp [intOf]; omega
        · have HN2 := hid (HNEXT.out (by simp only [Sm.pl, ne_eq, Prod.mk.injEq]; omega))
          clear HNEXT HMEM
          go_wp2_with fail
          go_roundw
          case rel => exact ⟨k + 1, hlt1, by go_num, HN2.out, gb_alloc HGR.out _⟩
          case measure => simp [intOf]; omega
      · have HN2 := hid (HNEXT.out (by simp only [Sm.pl, ne_eq, Prod.mk.injEq]; omega))
        clear HNEXT HMEM
        go_wp2_with fail
        go_roundw
        case rel => exact ⟨k + 1, hlt1, by go_num, HN2.out, gb_alloc HGR.out _⟩
        case measure => simp [intOf]; omega
    · obtain rfl : k = N := by omega
      have HRR := hid (show r = 0 by rw [HR.out, if_neg (fun ⟨x, hx, hp⟩ => by obtain ⟨i, hi, rfl⟩ := List.getElem_of_mem hx; exact HA.out i hi (by rw [← HN.out]; exact hi) hp)])
      clear hbx
      go_wp2_with fail
      go_ret
      exact ⟨by rw [HRR.out]; rfl, gb_trans G0.out HGR.out (.inl rfl)⟩
theorem rmay_any {base : Nat} {n m f : Int} {L : List Sm} {rb : Nat} {w : World} (h : RtAt base n m f L rb w) (hlen : L.length ≤ 100000) (s : Sm) (now : Int) (he : wf64 s.ep) (hn : wf64 now) :
    Calls Try.prog 11 #[.pointer (some ⟨rb, 0, none⟩), .agg #[.int .i64 s.who, .int .i64 s.met, .int .i64 s.ep, .int .i64 s.val], .int .i64 now] w fun e w' => e = .returned (.int .i64 (mayT n m f L s now)) ∧ w.grownBy w' none := by
  unfold mayT
  split
  · next h1 => exact rmay_arg h s now h1
  · next h1 =>
    have h1 := Classical.not_not.1 h1
    split
    · next h2 => exact rmay_stale h s now he hn h1 h2
    · next h2 => exact rmay_look h hlen s now he hn h1 (Classical.not_not.1 h2)
theorem filt_snoc (L : List Sm) (p : Sm → Bool) (k : Nat) (h : k < L.length) : (L.take (k + 1)).filter p = (L.take k).filter p ++ (if p L[k] = true then [L[k]] else []) := by
  rw [List.take_succ_eq_append_getElem h, List.filter_append]
  congr 1
  by_cases hp : p L[k] = true <;> simp [hp]
set_option maxHeartbeats 3200000 in
theorem rof_any {base : Nat} {n m f : Int} {L : List Sm} {rb : Nat} {w : World} (h : RtAt base n m f L rb w) (hlen : L.length ≤ 100000) (e me : Int) :
    Calls Try.prog 19 #[.pointer (some ⟨rb, 0, none⟩), .int .i64 e, .int .i64 me] w fun x w' => ∃ v, x = .returned v ∧ OwnZ w.heap.size w' v (ofT L e me) ∧ w.grownBy w' none := by
  obtain ⟨p, c, -, -, -, c3, hown, hob⟩ := h.cells
  obtain ⟨M, hM⟩ : ∃ M, L.length = M := ⟨_, rfl⟩
  rw [hM] at c3 hown hob
  have HM := hid hM
  have HM5 := hid hlen
  have HO3 := hid hown.reads
  have HOB := hid hob
  clear h hown hob hM hlen
  go_enter Try.func19, Try.ntmps19
  go_wp2_with fail
  go_loopw [7, 8] (fun v i wr => ∃ (k : Nat) (vv : Value), v = vv ∧ k ≤ M ∧ i = .int .i64 (k : Int) ∧ OwnZ w.heap.size wr vv (ofT (L.take k) e me) ∧ w.grownBy wr none) (fun _ i _ => M - (intOf i).toNat)
  case atStart => exact ⟨0, _, rfl, Nat.zero_le _, rfl, OwnZ.nil _ _, .refl _ _⟩
  case round =>
    obtain ⟨k, v, hv, hk, rfl, hown, hgr⟩ := hrel
    have hv' := hv.symm
    clear hv
    subst hv'
    have HOWN := hid hown
    have HGR := hid hgr
    have c3 := at_cell (at_grown HOB.out hgr (by simp)) 3
    clear hown hgr
    by_cases hkn : k < M
    · have hkn' : (k : Int) < (M : Int) := by omega
      have hlt1 : k + 1 ≤ M := hkn
      have hkL : k < L.length := by rw [HM.out]; exact hkn
      have hk6 : k < 100000 := by have := HM5.out; have := HM.out; omega
      obtain ⟨g, o, rfl, -, hnc, a0, a1, a2, a3⟩ := (HO3.out.grown HGR.out).cells (i := k) hkL
      have hsn := filt_snoc L (fun s => decide (s.ep = e ∧ s.met = me)) k hkL
      have hle : (ofT (L.take k) e me).length ≤ 100000 := Nat.le_trans (List.length_filter_le _ _) (by rw [List.length_take]; omega)
      generalize L[k] = s at *
      have HSN := hid hsn
      have HLE := hid hle
      clear hsn hle
      obtain ⟨sw, sm, se, sv⟩ := s
      simp only at a0 a1 a2 a3
      by_cases he : se = e
      · subst he
        by_cases hm : sm = me
        · subst hm
          have HT := hid (show ofT (L.take (k + 1)) se sm = ofT (L.take k) se sm ++ [⟨sw, sm, se, sv⟩] by have h := HSN.out; unfold ofT; rw [h, if_pos (decide_eq_true ⟨rfl, rfl⟩)])
          go_wp2_with (first
            | (refine append_smp rfl _ _ rfl w.heap.size _ _ rfl (HOWN.out.grown (World.grownBy_alloc wr (.cells #[.int .i64 sw, .int .i64 sm, .int .i64 se, .int .i64 sv] 29) none)) _ [⟨sw, sm, se, sv⟩] rfl (smp_new _ ⟨sw, sm, se, sv⟩) (by have := HLE.out; simp only [List.length_cons, List.length_nil]; omega) (gb_alloc HGR.out _).size ?_; intro v' w5 hown3 hg3 hat3; have HO5 := hid hown3; have HG5 := hid (gb_ownZ (gb_alloc HGR.out _) (HOWN.out.grown (World.grownBy_alloc wr (.cells #[.int .i64 sw, .int .i64 sm, .int .i64 se, .int .i64 sv] 29) none)) (Nat.le_refl _) hg3); obtain ⟨p5, c5, rfl⟩ := hown3.form; clear hown3 hg3 hat3))
          go_roundw
          case rel => exact ⟨k + 1, _, rfl, hlt1, by go_num, by rw [HT.out]; have h := HO5.out; simp only [List.length_append, List.length_cons, List.length_nil, Nat.zero_add] at h; exact h, HG5.out⟩
          case measure => simp [intOf]; omega
        · have HT := hid (show ofT (L.take (k + 1)) se me = ofT (L.take k) se me by have h := HSN.out; unfold ofT; rw [h, if_neg (by simp [hm]), List.append_nil])
          obtain ⟨p3, c3', rfl⟩ := HOWN.out.form
          go_wp2_with fail
          go_roundw
          case rel => exact ⟨k + 1, _, rfl, hlt1, by go_num, by rw [HT.out]; exact HOWN.out, HGR.out⟩
          case measure => simp [intOf]; omega
      · have HT := hid (show ofT (L.take (k + 1)) e me = ofT (L.take k) e me by have h := HSN.out; unfold ofT; rw [h, if_neg (by simp [he]), List.append_nil])
        obtain ⟨p3, c3', rfl⟩ := HOWN.out.form
        go_wp2_with fail
        go_roundw
        case rel => exact ⟨k + 1, _, rfl, hlt1, by go_num, by rw [HT.out]; exact HOWN.out, HGR.out⟩
        case measure => simp [intOf]; omega
    · obtain rfl : k = M := by omega
      have hown := HOWN.out
      rw [← HM.out, List.take_length] at hown
      have HLF := hid hown
      obtain ⟨p3, c3', rfl⟩ := hown.form
      clear hown
      go_wp2_with fail
      go_ret
      exact ⟨_, rfl, HLF.out, HGR.out⟩
theorem RtAt.put {base b1 : Nat} {n m f : Int} {L L' : List Sm} {rb : Nat} {W : World} {v : Value} (h : RtAt base n m f L rb W) (hown : OwnZ b1 W v L') (hb : base ≤ b1) (hf : Fine n L') : RtAt base n m f L' rb (W.setCell ⟨rb, 3, none⟩ v) := by
  have hc : Chg [rb] W (W.setCell ⟨rb, 3, none⟩ v) := (chg_refl W [rb]).set (.inl (by simp)) v
  obtain ⟨v0, ho, _⟩ := h.obj
  refine ⟨⟨v, at_set ho 3 v, (hown.chg hc (fun g hg hm => ?_)).le hb⟩, h.lo, Nat.le_trans h.le hc.size, hf, h.nm⟩
  have h1 := (hown.lt g hg).1; have h2 := h.lo; simp at hm; omega
set_option maxHeartbeats 3200000 in
theorem rdrop_any {base : Nat} {n m f : Int} {L : List Sm} {rb : Nat} {w : World} (h : RtAt base n m f L rb w) (hlen : L.length ≤ 100000) (E : Int) :
    Calls Try.prog 15 #[.pointer (some ⟨rb, 0, none⟩), .int .i64 E] w fun x w' => x = .returned (.int .i64 ((L.length - (dropT L E).length : Nat) : Int)) ∧ RtAt base n m f (dropT L E) rb w' ∧ Chg [rb] w w' := by
  have HT0 := hid h
  obtain ⟨p, c, -, -, -, c3, hown, hob⟩ := h.cells
  obtain ⟨M, hM⟩ : ∃ M, L.length = M := ⟨_, rfl⟩
  rw [hM] at c3 hown hob ⊢
  have HM := hid hM
  have HM5 := hid hlen
  have HO3 := hid hown.reads
  have HOB := hid hob
  obtain ⟨D, hD⟩ : ∃ D, D = (dropT L E).length := ⟨_, rfl⟩
  have hdl : (dropT L E).length ≤ M := by rw [← hM]; exact List.length_filter_le _ _
  rw [← hD] at hdl ⊢
  obtain ⟨R, hR⟩ : ∃ R, R = M - D := ⟨_, rfl⟩
  rw [← hR]
  have HS := hid (show IntKind.i64.wrap ((M : Int) - (D : Int)) = (R : Int) by rw [show (M : Int) - (D : Int) = (R : Int) by omega]; have := HM5.out; have := HM.out; exact IntWalk.i64_in _ (by omega))
  have HD := hid hD
  clear h hown hob hM hlen hD hdl hR
  go_enter Try.func15, Try.ntmps15
  go_wp2_with fail
  go_loopw [5, 6] (fun v i wr => ∃ (k : Nat) (vv : Value), v = vv ∧ k ≤ M ∧ i = .int .i64 (k : Int) ∧ OwnZ w.heap.size wr vv (dropT (L.take k) E) ∧ w.grownBy wr none) (fun _ i _ => M - (intOf i).toNat)
  case atStart => exact ⟨0, _, rfl, Nat.zero_le _, rfl, OwnZ.nil _ _, .refl _ _⟩
  case round =>
    obtain ⟨k, v, hv, hk, rfl, hown, hgr⟩ := hrel
    have hv' := hv.symm
    clear hv
    subst hv'
    have HOWN := hid hown
    have HGR := hid hgr
    have hob := at_grown HOB.out hgr (by simp)
    have c3 := at_cell hob 3
    have k4 := at_free hob 3
    clear hown hgr hob
    by_cases hkn : k < M
    · have hkn' : (k : Int) < (M : Int) := by omega
      have hlt1 : k + 1 ≤ M := hkn
      have hkL : k < L.length := by rw [HM.out]; exact hkn
      have hk6 : k < 100000 := by have := HM5.out; have := HM.out; omega
      obtain ⟨g, o, rfl, -, hnc, a0, a1, a2, a3⟩ := (HO3.out.grown HGR.out).cells (i := k) hkL
      have hsn := filt_snoc L (fun s => decide (E < s.ep)) k hkL
      have hle : (dropT (L.take k) E).length ≤ 100000 := Nat.le_trans (List.length_filter_le _ _) (by rw [List.length_take]; omega)
      generalize L[k] = s at *
      have HSN := hid hsn
      have HLE := hid hle
      clear hsn hle
      by_cases he : E < s.ep
      · have HT := hid (show dropT (L.take (k + 1)) E = dropT (L.take k) E ++ [s] by have h := HSN.out; unfold dropT; rw [h, if_pos (decide_eq_true he)])
        go_wp2_with (first
          | (refine append_smp rfl _ _ rfl w.heap.size _ _ rfl (HOWN.out.grown (World.grownBy_alloc wr (.cells #[.int .i64 s.who, .int .i64 s.met, .int .i64 s.ep, .int .i64 s.val] 29) none)) _ [s] rfl (smp_new _ s) (by have := HLE.out; simp only [List.length_cons, List.length_nil]; omega) (gb_alloc HGR.out _).size ?_; intro v' w5 hown3 hg3 hat3; have HO5 := hid hown3; have HG5 := hid (gb_ownZ (gb_alloc HGR.out _) (HOWN.out.grown (World.grownBy_alloc wr (.cells #[.int .i64 s.who, .int .i64 s.met, .int .i64 s.ep, .int .i64 s.val] 29) none)) (Nat.le_refl _) hg3); obtain ⟨p5, c5, rfl⟩ := hown3.form; clear hown3 hg3 hat3))
        go_roundw
        case rel => exact ⟨k + 1, _, rfl, hlt1, by go_num, by rw [HT.out]; have h := HO5.out; simp only [List.length_append, List.length_cons, List.length_nil, Nat.zero_add] at h; exact h, HG5.out⟩
        case measure => simp [intOf]; omega
      · have HT := hid (show dropT (L.take (k + 1)) E = dropT (L.take k) E by have h := HSN.out; unfold dropT; rw [h, if_neg (by simp [he]), List.append_nil])
        obtain ⟨p3, c3', rfl⟩ := HOWN.out.form
        go_wp2_with fail
        go_roundw
        case rel => exact ⟨k + 1, _, rfl, hlt1, by go_num, by rw [HT.out]; exact HOWN.out, HGR.out⟩
        case measure => simp [intOf]; omega
    · obtain rfl : k = M := by omega
      have hown := HOWN.out
      rw [← HM.out, List.take_length] at hown
      have HLF := hid hown
      obtain ⟨p3, c3', rfl⟩ := hown.form
      rw [← HD.out] at HLF ⊢
      have hs5 := HS.out
      have HF := hid ((HT0.out.grown HGR.out).put HLF.out (HT0.out.le) (HT0.out.fine.sub _))
      have HCG := hid ((chg_grown HGR.out [rb]).set (p := ⟨rb, 3, none⟩) (.inl (by simp)) (.slice p3 D c3'))
      clear hown hk
      go_wp2_with fail
      go_ret
      exact ⟨rfl, HF.out, HCG.out⟩
end Go.Proofs.Ytjjcnojckbeekaa
