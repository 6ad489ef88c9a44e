/-
  Numbers as bytes, eight each, and as a text of bytes. No condition. Nothing of the program's functions is named here.
  Contract: no gate of a configuration that may not be; and whom a configuration's made gate is of. No condition.
  Contracts for package trim: Median, Mean, Span. The condition: slices that read as numbers.
  Contracts for package score: the middle of a row; each collector's mark. The condition: the score lies there, the rows read as samples.
-/
import Derived.Test.YtecggbndlbkhdaaGreatY4
import Derived.Test.YtecggbndlbkhdaaGreatNVn
import Derived.Test.YtecggbndlbkhdaaGreatY8
import Derived.Test.YtecggbndlbkhdaaGreatY23
import Derived.StillTailTactics
section
set_option linter.unusedSimpArgs false
set_option linter.unusedVariables false
namespace Go.Proofs.YtecggbndlbkhdaaGreat
set_option maxRecDepth 100000
open Go.RowKit

/-- numbers as bytes, eight each -/
def wb (ws : List Nat) : List UInt8 := putAll (ws.map (BitVec.ofNat 64))
theorem wb_length (ws : List Nat) : (wb ws).length = 8 * ws.length := by unfold wb; rw [putAll_length, List.length_map]
theorem wb_cons (x : Nat) (ws : List Nat) : wb (x :: ws) = put8 (BitVec.ofNat 64 x) ++ wb ws := by simp [wb, putAll]
theorem wb_append (a b : List Nat) : wb (a ++ b) = wb a ++ wb b := by simp [wb, putAll]
theorem wb_nil : wb [] = [] := rfl
/-- numbers as a text of bytes -/
def sb (ws : List Nat) : ByteArray := ⟨(wb ws).toArray⟩
end Go.Proofs.YtecggbndlbkhdaaGreat
end
section
set_option linter.unusedSimpArgs false
set_option linter.unusedVariables false
namespace Go.Proofs.YtecggbndlbkhdaaGreat
set_option maxRecDepth 100000
open Go.RowKit

end Go.Proofs.YtecggbndlbkhdaaGreat
end
section
set_option linter.unusedSimpArgs false
set_option linter.unusedVariables false
namespace Go.Proofs.YtecggbndlbkhdaaGreat
set_option maxRecDepth 100000
open Go.RowKit

theorem median_any (v : Value) (l : List Int) (w : World) (h : IntsAt w v l) :
    Calls Tryz.prog 372 #[v] w fun e w' => e = .returned (.tuple #[.int .i64 (medOf l).1, .bool (medOf l).2]) ∧ w.grownBy w' none := by
  have C1 := hid (tmay_any v l w h)
  have HI := hid h
  obtain ⟨p, c, rfl⟩ := h.form
  have hn := h.len
  unfold maxLen at hn
  unfold medOf
  cases hm : mayL l with
  | false =>
    rw [hm] at C1
    rw [if_neg (by decide)]
    generalize l.length = n at *
    clear hm h
    go_enter Tryz.func372, Tryz.ntmps372
    go_wp2_with fail
    refine C1.out.mono ?_
    rintro e w1 ⟨rfl, hg⟩
    have G1 := hid hg; clear hg C1
    go_wp2_with fail
    go_ret2
    exact ⟨rfl, G1.out⟩
  | true =>
    rw [hm] at C1
    rw [if_pos rfl]
    have hl := ((mayL_iff l).1 hm).1
    have HL := hid (show l.length ≤ 1000000 by omega)
    obtain ⟨z, hz⟩ : ∃ z, atOf l (((l.length : Int) - 1).tdiv 2) = z := ⟨_, rfl⟩
    rw [hz]
    have HZ := hid hz
    obtain ⟨n, hnn⟩ : ∃ n, l.length = n := ⟨_, rfl⟩
    rw [hnn] at C1 HI hn HL HZ hl ⊢
    have HN := hid hnn
    clear hm h hz hnn
    have e1 : IntKind.i64.wrap ((n : Int) - 1) = (n : Int) - 1 := IntWalk.i64_in _ (by omega)
    have e2 : IntKind.i64.wrap (((n : Int) - 1).tdiv 2) = ((n : Int) - 1).tdiv 2 := IntWalk.i64_in _ (by
      rcases Nat.eq_zero_or_pos n with h0 | h0
      · subst h0; decide
      · rw [Int.tdiv_eq_ediv_of_nonneg (by omega)]; omega)
    generalize hk : ((n : Int) - 1).tdiv 2 = k at *
    go_enter Tryz.func372, Tryz.ntmps372
    go_wp2_with fail
    refine C1.out.mono ?_
    rintro e w1 ⟨rfl, hg⟩
    have I1 := hid (HI.out.grown hg)
    have G1 := hid hg; clear hg C1 HI
    go_wp2_with fail
    refine (oat_any _ _ _ _ I1.out (by rw [HN.out]; exact HL.out)).mono ?_
    rintro e w2 ⟨rfl, hg⟩
    rw [HZ.out]
    have G2 := hid (gb_trans G1.out hg (.inl rfl))
    clear hg G1 I1
    go_wp2_with fail
    go_ret2
    exact ⟨rfl, G2.out⟩

theorem mean_div {m : List Int} (hl : m.length ≤ 1000) (h : ∀ x ∈ m, 0 ≤ x ∧ x ≤ 1099511627776) (hp : 0 < m.length) {s : Int} (hs : m.sum = s) :
    IntKind.i64.wrap (s.tdiv (m.length : Int)) = s / (m.length : Int) ∧ 0 ≤ s ∧ s ≤ 1099511627776000 := by
  have hb := sumTo_bounds hl h m.length
  rw [sumTo_all, hs] at hb
  have hd : s / (m.length : Int) ≤ s := Int.ediv_le_self _ hb.1
  have hd0 : 0 ≤ s / (m.length : Int) := Int.ediv_nonneg hb.1 (by omega)
  refine ⟨?_, hb⟩
  rw [Int.tdiv_eq_ediv_of_nonneg hb.1]
  exact IntWalk.i64_in _ (by omega)

set_option maxHeartbeats 800000 in
theorem mean_any (v : Value) (l : List Int) (f : Int) (w : World) (h : IntsAt w v l) (hf : -9223372036854775808 ≤ f ∧ f ≤ 9223372036854775807) :
    Calls Tryz.prog 310 #[v, .int .i64 f] w fun e w' => e = .returned (.tuple #[.int .i64 (meanL (midL l f)).1, .bool (meanL (midL l f)).2]) ∧ w.grownBy w' none := by
  have C1 := hid (left_any v l f w h hf)
  have hok := midL_ok l f
  generalize midL l f = m at *
  obtain ⟨p, c, rfl⟩ := h.form
  generalize l.length = n0 at *
  clear h hf
  obtain ⟨n, hnn⟩ : ∃ n, m.length = n := ⟨_, rfl⟩
  have HN := hid hnn
  rcases Nat.eq_zero_or_pos n with h0 | h0
  · subst h0
    have hm : m = [] := List.eq_nil_of_length_eq_zero hnn
    subst hm
    clear hok hnn HN
    go_enter Tryz.func310, Tryz.ntmps310
    go_wp2_with fail
    refine C1.out.mono ?_
    rintro e w1 ⟨u, rfl, hi, hg⟩
    have G1 := hid hg
    obtain ⟨pu, cu, rfl⟩ := hi.form
    clear hg C1 hi
    go_wp2_with fail
    go_ret2
    exact ⟨rfl, G1.out⟩
  obtain ⟨S, hS⟩ : ∃ S, m.sum = S := ⟨_, rfl⟩
  have hd := mean_div hok.1 hok.2 (by omega) hS
  rw [meanL_in (by omega) hS, hnn]
  rw [hnn] at hd
  have HALL := hid (show sumTo m n = S by rw [← hnn, sumTo_all, hS])
  have HB := hid (sumTo_bounds hok.1 hok.2)
  have hE := hd.1
  have hS0 := hd.2
  have hn1 : n ≤ 1000 := hnn ▸ hok.1
  clear hok hS hd
  have hnz : ((n : Int) == 0) = false := by simp; omega
  go_enter Tryz.func310, Tryz.ntmps310
  go_wp2_with fail
  refine C1.out.mono ?_
  rintro e w1 ⟨u, rfl, hi, hg⟩
  have G1 := hid hg; have I1 := hid hi
  obtain ⟨pu, cu, rfl⟩ := hi.form
  rw [hnn] at I1 ⊢
  clear hg C1 hi hnn
  have HC := hid (at_new w1 (.cells #[.int .i64 0] 130))
  have HG := hid (World.grownBy_alloc w1 (.cells #[.int .i64 0] 130) none)
  go_wp2_with fail
  go_loopw [9, 18] (fun _ i wr => ∃ k : Nat, k ≤ n ∧ i = .int .i64 (k : Int) ∧ wr.heap[w1.heap.size]? = some (.cells #[.int .i64 (sumTo m k)] 130) ∧ w1.grownBy wr none) (fun _ i _ => n - (intOf i).toNat)
  case atStart => exact ⟨0, Nat.zero_le _, rfl, by rw [sumTo_zero]; exact HC.out, HG.out⟩
  case round =>
    obtain ⟨k, hk, rfl, hb, hgr⟩ := hrel
    have HBL := hid hb; have HGR := hid hgr
    have c0 := at_cell hb 0
    have f0 := at_free hb 0
    clear hb hgr HC HG
    by_cases hlt : k < n
    · have hkl : k < m.length := by rw [HN.out]; exact hlt
      obtain ⟨ab, ao, rfl, -, hcc, hcell⟩ := (I1.out.grown HGR.out).cell hkl
      have hx := List.getElem?_eq_getElem hkl
      generalize m[k] = y at *
      have hs := sumTo_succ hx
      have b1 := HB.out k
      have b2 := HB.out (k + 1)
      rw [hs] at b2
      have HS := hid hs; clear hs hx
      generalize sumTo m k = r at *
      have A0 := hid (addn_i64 _ _ y (r + y) _ c0 f0 (IntWalk.i64_in _ (by omega)))
      have ht := hid (at_set HBL.out 0 (.int .i64 (r + y)))
      have hg2 := hid (gb_new HGR.out (p := ⟨w1.heap.size, 0, none⟩) (Nat.le_refl _) (.int .i64 (r + y)))
      clear HBL HGR
      go_wp2_with fail
      refine A0.out.mono ?_
      rintro e w2 ⟨rfl, hw⟩
      subst hw
      clear A0
      go_wp2_with fail
      go_roundw
      case rel => exact ⟨k + 1, by omega, by go_num, by rw [HS.out]; exact ht.out, hg2.out⟩
      case measure => simp [intOf]; omega
    · obtain rfl : k = n := by omega
      rw [HALL.out] at c0
      have L0 := hid (load_i64 _ _ _ c0)
      clear HBL HB c0 f0
      go_wp2_with fail
      refine L0.out.mono ?_
      rintro e w2 ⟨rfl, rfl⟩
      clear L0
      go_wp2_with fail
      go_ret2
      exact ⟨rfl, gb_trans G1.out HGR.out (.inl rfl)⟩

end Go.Proofs.YtecggbndlbkhdaaGreat
end
section
set_option linter.unusedSimpArgs false
set_option linter.unusedVariables false
namespace Go.Proofs.YtecggbndlbkhdaaGreat
set_option maxRecDepth 100000
open Go.RowKit

theorem midS_ok {r : List Sm} {q : Int} (h : (midS r q).2 = true) : (∀ x ∈ r, 0 ≤ x.val ∧ x.val ≤ 1099511627776) ∧ 0 ≤ (midS r q).1 ∧ (midS r q).1 ≤ 1099511627776 := by
  unfold midS at *
  split at h
  · next hc =>
    rw [if_pos hc]
    unfold medOf at *
    split at h
    · next hm =>
      rw [if_pos hm]
      have hv := ((mayL_iff _).1 hm).2
      refine ⟨fun x hx => hv _ (List.mem_map_of_mem hx), ?_⟩
      unfold atOf at *
      split at h
      · next hk =>
        rw [if_pos hk]
        generalize (((r.map Sm.val).length : Int) - 1).tdiv 2 = k at *
        have hlt : k.toNat < (ms (r.map Sm.val)).length := by rw [ms_len]; omega
        have hmem : (ms (r.map Sm.val))[k.toNat] ∈ r.map Sm.val := (ms_perm _).subset (List.getElem_mem hlt)
        simpa [List.getElem?_eq_getElem hlt] using hv _ hmem
      · cases h
    · cases h
  · cases h
/-- numbers that are laid one by one -/
def fillI (vs : List Int) (k : Nat) : List Int := vs.take k ++ List.replicate (vs.length - k) 0
theorem fillI_zero (vs : List Int) : fillI vs 0 = List.replicate vs.length 0 := by simp [fillI]
theorem fillI_all (vs : List Int) : fillI vs vs.length = vs := by simp [fillI]
theorem fillI_set {vs : List Int} {k : Nat} {x : Int} (h : vs[k]? = some x) : (fillI vs k).set k x = fillI vs (k + 1) := by
  obtain ⟨hk, rfl⟩ := List.getElem?_eq_some_iff.1 h
  unfold fillI
  rw [List.set_append_right _ _ (by rw [List.length_take]; omega), List.length_take, show k - min k vs.length = 0 by omega, List.take_succ_eq_append_getElem hk, List.append_assoc]
  congr 1
  rw [show vs.length - k = (vs.length - (k + 1)) + 1 by omega, List.replicate_succ]
  rfl
theorem fillI_at {vs : List Int} {k : Nat} (h : k < vs.length) : (fillI vs k)[k]? = some 0 := by
  unfold fillI
  rw [List.getElem?_append_right (by rw [List.length_take]; omega), List.length_take, show k - min k vs.length = 0 by omega, List.getElem?_replicate, if_pos (by omega)]
theorem blk_at {W : World} {b k : Nat} {l : List Int} {x : Int} {t : TypeId} (h : W.heap[b]? = some (.cells (l.map iv).toArray t)) (hx : l[k]? = some x) : W.cell? ⟨b, k, none⟩ = some (.int .i64 x) := by
  rw [at_cell h, List.getElem?_toArray, List.getElem?_map, hx]; rfl
theorem list_made (x : Value) (n : Nat) : madeCells #[x] n = (List.replicate n x).toArray := by
  apply Array.toList_inj.1
  rw [toList_madeCells_one]
theorem mk_i64s (n : Nat) (hn : n ≤ 1000) (u : World) : (Instr.makeSlice 73 (.int .i64 (n : Int)) (.int .i64 (n : Int))).run Tryz.prog u = .ok (.slice (some ⟨u.heap.size, 0, none⟩) n n) (u.alloc (.cells (Array.replicate n (iv 0)) 2)) := by
  obtain ⟨i, hi, hz0, hz1, hz2⟩ := info_parts info_i64
  have := run_makeSlice (P := Tryz.prog) u 73 2 i _ Tryz.underlying73 hi hz0 .i64 .i64 (n : Int) (n : Int) (by omega) (Int.le_refl _) (by rw [hz1]; omega) (by rw [hz2]; omega) (by omega)
  rw [this, hz1]
  simp [list_made, iv, Value.cells]
theorem info_mark : (Tryz.prog.info? 372).map (fun i => (i.zero, i.size, i.bytes)) = some (some (.int .i64 0), 1, 8) := by kernel_rfl
theorem mk_marks (n : Nat) (hn : n ≤ 1000) (u : World) : (Instr.makeSlice 370 (.int .i64 (n : Int)) (.int .i64 (n : Int))).run Tryz.prog u = .ok (.slice (some ⟨u.heap.size, 0, none⟩) n n) (u.alloc (.cells (Array.replicate n (iv 0)) 372)) := by
  obtain ⟨i, hi, hz0, hz1, hz2⟩ := info_parts info_mark
  have := run_makeSlice (P := Tryz.prog) u 370 372 i _ Tryz.underlying370 hi hz0 .i64 .i64 (n : Int) (n : Int) (by omega) (Int.le_refl _) (by rw [hz1]; omega) (by rw [hz2]; omega) (by omega)
  rw [this, hz1]
  simp [list_made, iv, Value.cells]
theorem rep_iv (n : Nat) : Array.replicate n (iv 0) = ((List.replicate n (0 : Int)).map iv).toArray := by simp
/-- a block of numbers -/
theorem blk_ints {W : World} {b : Nat} {l : List Int} {t : TypeId} (h : W.heap[b]? = some (.cells (l.map iv).toArray t)) (hl : l.length ≤ maxLen) : IntsAt W (.slice (some ⟨b, 0, none⟩) l.length l.length) l :=
  .inr ⟨_, _, rfl, Nat.le_refl _, hl, fun i hi => by
    have : ((⟨b, 0, none⟩ : Addr).add i) = ⟨b, i, none⟩ := by simp [Addr.add]; exact fun e => e.symm
    rw [this, at_cell h]; simp [iv, hi]⟩
theorem blk_set {W : World} {b k : Nat} {l l' : List Int} {x : Int} {t : TypeId} (h : W.heap[b]? = some (.cells (l.map iv).toArray t)) (e : l.set k x = l') : (W.setCell ⟨b, k, none⟩ (.int .i64 x)).heap[b]? = some (.cells (l'.map iv).toArray t) := by
  rw [at_set h, List.setIfInBounds_toArray, ← e, List.map_set]; rfl

set_option maxHeartbeats 800000 in
theorem smiddle_any (v : Value) (r : List Sm) (q : Int) (w : World) (hv : SAt w v r) (hl : r.length ≤ 1000) :
    Calls Tryz.prog 317 #[v, .int .i64 q] w fun e w' => e = .returned (.tuple #[.int .i64 (midS r q).1, .bool (midS r q).2]) ∧ w.grownBy w' none := by
  have HI := hid hv
  obtain ⟨p, c, rfl⟩ := hv.form
  obtain ⟨n, hn⟩ : ∃ n, r.length = n := ⟨_, rfl⟩
  have HN := hid hn
  unfold midS
  rw [hn] at HI hl ⊢
  have HQ := hid (quorum_any (n : Int) q w)
  clear hv hn
  by_cases hq : q ≤ (n : Int) ∧ 0 < (n : Int)
  · rw [if_pos hq]
    have hqq : (decide (q ≤ (n : Int)) && decide (0 < (n : Int))) = true := by simp; omega
    rw [hqq] at HQ
    have hn0 : 0 < n := by omega
    clear hqq hq
    have hlen : (r.map Sm.val).length = n := by rw [List.length_map]; exact HN.out
    obtain ⟨vs, hvs⟩ : ∃ vs, r.map Sm.val = vs := ⟨_, rfl⟩
    rw [hvs] at hlen ⊢
    have HLEN := hid hlen
    have HVS := hid (show ∀ (k : Nat) (x : Sm), r[k]? = some x → vs[k]? = some x.val by
      intro k x hx; rw [← hvs, List.getElem?_map, hx]; rfl)
    have hmk := mk_i64s n hl
    clear hlen hvs
    go_enter Tryz.func317, Tryz.ntmps317
    go_wp2_with fail
    refine HQ.out.mono ?_
    rintro e w1 ⟨rfl, hg⟩
    have B0 := hid (at_new w1 (.cells (Array.replicate n (iv 0)) 2))
    have G1 := hid (gb_alloc hg (.cells (Array.replicate n (iv 0)) 2))
    have HLE := hid hg.size
    clear hg HQ
    go_wp2_with fail
    generalize w1.alloc (.cells (Array.replicate n (iv 0)) 2) = w2 at *
    generalize w1.heap.size = mb at *
    rw [rep_iv, ← HLEN.out, ← fillI_zero] at B0
    go_loopw [19] (fun i wr => ∃ (k : Nat), k ≤ n ∧ i = .int .i64 (k : Int) ∧ wr.heap[mb]? = some (.cells ((fillI vs k).map iv).toArray 2) ∧ w.grownBy wr none)
      (fun i _ => n - (intOf i).toNat)
    case atStart => exact ⟨0, Nat.zero_le _, rfl, B0.out, G1.out⟩
    case round =>
      obtain ⟨k, hk, rfl, hbl, hgr⟩ := hrel
      have HBL := hid hbl
      have HGR := hid hgr
      by_cases hlt : k < n
      · have hkl : k < r.length := by rw [HN.out]; exact hlt
        obtain ⟨ab, ao, rfl, -, hcc, e0, e1, e2, e3⟩ := (HI.out.grown HGR.out).cells hkl
        have hx := List.getElem?_eq_getElem hkl
        generalize r[k] = x at *
        obtain ⟨z0, z1, z2, z3⟩ := x
        dsimp only at e0 e1 e2 e3
        have hy := HVS.out k _ hx
        dsimp only at hy
        have HB := hid (at_alloc HBL.out (.cells #[.int .i64 z0, .int .i64 z1, .int .i64 z2, .int .i64 z3] 91))
        have ck := blk_at HB.out (fillI_at (vs := vs) (k := k) (by rw [HLEN.out]; exact hlt))
        have fk := at_free HB.out k
        have NB := hid (blk_set HB.out (fillI_set hy))
        have NG := hid (gb_new (gb_alloc HGR.out (.cells #[.int .i64 z0, .int .i64 z1, .int .i64 z2, .int .i64 z3] 91)) (p := ⟨mb, k, none⟩) HLE.out (.int .i64 z3))
        clear hx hy HB HBL HGR hkl
        go_wp2_with fail
        go_roundw
        case rel => exact ⟨k + 1, by omega, by go_num, NB.out, NG.out⟩
        case measure => simp [intOf]; omega
      · obtain rfl : k = n := by omega
        rw [← HLEN.out, fillI_all] at HBL
        have HM := hid (median_any (.slice (some ⟨mb, 0, none⟩) vs.length vs.length) vs wr (blk_ints HBL.out (by rw [HLEN.out]; unfold maxLen; omega)))
        rw [HLEN.out] at HM
        clear HBL
        go_wp2_with fail
        refine HM.out.mono ?_
        rintro e w3 ⟨rfl, hg⟩
        have G3 := hid (gb_trans HGR.out hg (.inl rfl))
        clear hg HM
        go_wp2_with fail
        go_ret2
        exact ⟨rfl, G3.out⟩
  · rw [if_neg hq]
    have hqq : (decide (q ≤ (n : Int)) && decide (0 < (n : Int))) = false := by simp; omega
    rw [hqq] at HQ
    clear hqq hq
    go_enter Tryz.func317, Tryz.ntmps317
    go_wp2_with fail
    refine HQ.out.mono ?_
    rintro e w1 ⟨rfl, hg⟩
    have G1 := hid hg; clear hg HQ
    go_wp2_with fail
    go_ret2
    exact ⟨rfl, G1.out⟩
end Go.Proofs.YtecggbndlbkhdaaGreat
end
