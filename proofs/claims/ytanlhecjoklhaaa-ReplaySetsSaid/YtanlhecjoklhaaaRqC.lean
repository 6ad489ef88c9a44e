/-
  The document's own Replay: Set. The condition of a call: the object lies there.
-/
import Derived.Test.YtanlhecjoklhaaaRqB
set_option linter.unusedSimpArgs false
set_option linter.unusedVariables false
namespace Go.Proofs.Ytanlhecjoklhaaa
set_option maxRecDepth 100000
open Go.RowKit

/-- the numbers of the k lowest bits -/
def bitsTo (t : Int) (x : BitVec 64) : Nat → List Int
  | 0 => []
  | k + 1 => if x.getLsbD k = true then bitsTo t x k ++ [t - (k : Int)] else bitsTo t x k
theorem bitsTo_len (t : Int) (x : BitVec 64) (k : Nat) : (bitsTo t x k).length ≤ k := by
  induction k with
  | zero => simp [bitsTo]
  | succ k ih => 
    unfold bitsTo
    split
    · rw [List.length_append, List.length_singleton]; omega
    · omega
theorem bitsTo_mem (t : Int) (x : BitVec 64) (k : Nat) (n : Int) : n ∈ bitsTo t x k ↔ ∃ i : Nat, i < k ∧ x.getLsbD i = true ∧ n = t - (i : Int) := by
  induction k with
  | zero => simp [bitsTo]
  | succ k ih =>
    unfold bitsTo
    split
    · next h =>
      rw [List.mem_append, ih, List.mem_singleton]
      constructor
      · rintro (⟨i, h1, h2⟩ | h1)
        · exact ⟨i, by omega, h2⟩
        · exact ⟨k, by omega, h, h1⟩
      · rintro ⟨i, h1, h2, h3⟩
        by_cases e : i = k
        · subst e; exact .inr h3
        · exact .inl ⟨i, by omega, h2, h3⟩
    · next h =>
      rw [ih]
      constructor
      · rintro ⟨i, h1, h2⟩; exact ⟨i, by omega, h2⟩
      · rintro ⟨i, h1, h2, h3⟩
        by_cases e : i = k
        · subst e; exact absurd h2 h
        · exact ⟨i, by omega, h2, h3⟩
theorem rql_set (win : Nat) (t : Int) (x : BitVec 64) (hw : win ≤ 64) : RqL (bitsTo t x 64) ⟨win, t, x⟩ := by
  refine ⟨fun n hn => ?_, fun n h1 h2 => ?_⟩
  · obtain ⟨i, _, _, rfl⟩ := (bitsTo_mem t x 64 n).1 hn
    show t - (i : Int) ≤ t
    omega
  · have h1' : t - win < n := h1
    have h2' : n ≤ t := h2
    show _ ↔ x.getLsbD (t - n).toNat = true
    rw [bitsTo_mem]
    constructor
    · rintro ⟨i, _, h3, rfl⟩
      have e : (t - (t - (i : Int))).toNat = i := by omega
      rw [e]; exact h3
    · intro h3
      exact ⟨(t - n).toNat, by omega, h3, by omega⟩
/-- may it be set, bit by bit? -/
theorem rp_can_iff {r : Rp} (ok : r.Ok) (t : Int) (x : BitVec 64) : r.can t x = true ↔ 0 ≤ t ∧ t ≤ 1099511627776 ∧ (x.getLsbD 0 = decide (0 < t)) ∧ ∀ i : Nat, i < 64 → x.getLsbD i = true → i < r.win ∧ 1 ≤ t - (i : Int) := by
  have w1 := ok.w1; have w2 := ok.w2
  unfold Rp.can
  rw [decide_eq_true_eq, low_none _ _ (by omega)]
  constructor
  · rintro ⟨h1, h2, h3, h4⟩
    refine ⟨h1, h2, ?_, fun i _ hb => ?_⟩
    · by_cases h : 0 < t
      · rw [h4 h]; simp [h]
      · have : x.getLsbD 0 = false := by
          cases hb : x.getLsbD 0 with
          | false => rfl
          | true => have := h3 0 hb; omega
        rw [this]; simp [h]
    · have := h3 i hb
      omega
  · rintro ⟨h1, h2, h3, h4⟩
    refine ⟨h1, h2, fun i hb => ?_, fun h => by rw [h3]; simp [h]⟩
    have hi : i < 64 := by
      rcases Nat.lt_or_ge i 64 with h | h
      · exact h
      · rw [BitVec.getLsbD_of_ge _ _ h] at hb; cases hb
    have := h4 i hi hb
    omega
theorem rp_bad {r : Rp} (ok : r.Ok) (t : Int) (x : BitVec 64) (i : Nat) (hi : i < 64) (hb : x.getLsbD i = true) (h : (r.win : Int) ≤ (i : Int) ∨ t - (i : Int) < 1) : r.set t x = (1, r) := by
  unfold Rp.set
  rw [if_neg]
  intro hc
  have := ((rp_can_iff ok t x).1 hc).2.2.2 i hi hb
  omega
theorem rp_bad0 {r : Rp} (ok : r.Ok) (t : Int) (x : BitVec 64) (h : ¬ (0 ≤ t ∧ t ≤ 1099511627776 ∧ x.getLsbD 0 = decide (0 < t))) : r.set t x = (1, r) := by
  unfold Rp.set
  rw [if_neg]
  intro hc
  obtain ⟨h1, h2, h3, _⟩ := (rp_can_iff ok t x).1 hc
  exact h ⟨h1, h2, h3⟩
theorem rp_good {r : Rp} (ok : r.Ok) (t : Int) (x : BitVec 64) (h : 0 ≤ t ∧ t ≤ 1099511627776 ∧ x.getLsbD 0 = decide (0 < t)) (h4 : ∀ i : Nat, i < 64 → x.getLsbD i = true → i < r.win ∧ 1 ≤ t - (i : Int)) : r.set t x = (0, ⟨r.win, t, x⟩) ∧ Rp.Ok ⟨r.win, t, x⟩ := by
  have hc : r.can t x = true := (rp_can_iff ok t x).2 ⟨h.1, h.2.1, h.2.2, h4⟩
  exact ⟨by unfold Rp.set; rw [if_pos hc], rp_can ok hc⟩
theorem bit0_one (x : BitVec 64) : (q (x &&& 1#64) == 1) = x.getLsbD 0 := by
  rw [show (1 : Int) = q 1#64 from rfl, q_beq, Bool.eq_iff_iff, beq_iff_eq]
  constructor
  · intro h
    have h0 : (x &&& 1#64).getLsbD 0 = (1#64).getLsbD 0 := by rw [h]
    simpa using h0
  · intro h
    apply BitVec.eq_of_getLsbD_eq
    intro i hi
    by_cases h0 : i = 0
    · subst h0; simpa using h
    · simp [BitVec.getLsbD_one, h0]
set_option maxHeartbeats 1600000 in
theorem qset_bad {b K : Nat} {v : Value} {r : Rp} (t : Int) (x : BitVec 64) (w : World) (H : RqAt w b v K r) (h : ¬ (0 ≤ t ∧ t ≤ 1099511627776 ∧ x.getLsbD 0 = decide (0 < t))) :
    Calls Try.prog 19 #[.pointer (some ⟨b, 0, none⟩), .int .i64 t, .int .u64 (q x)] w (LeavesQ w b v (K + 64) (r.set t x)) := by
  rw [rp_bad0 H.ok t x h]
  have L := hid (leavesQ_same (w' := w) 1 H (.refl w none) (K + 64) (by omega))
  clear H
  by_cases h1 : t < 0
  · have d1 : decide (t < 0) = true := by simpa using h1
    clear h
    go_enter Try.func19, Try.ntmps19
    go_wp2_with fail
    go_ret
    exact L.out
  have d1 : decide (t < 0) = false := by simpa using h1
  by_cases h2 : 1099511627776 < t
  · have d2 : decide (1099511627776 < t) = true := by simpa using h2
    clear h
    go_enter Try.func19, Try.ntmps19
    go_wp2_with fail
    go_ret
    exact L.out
  have d2 : decide (1099511627776 < t) = false := by simpa using h2
  have h3 : x.getLsbD 0 ≠ decide (0 < t) := fun e => h ⟨by omega, by omega, e⟩
  have s4 := q_and_one x
  have s5 := bit0_one x
  clear h
  generalize x &&& 1#64 = y at *
  generalize x.getLsbD 0 = z at *
  obtain ⟨u, hu⟩ : ∃ u, decide (0 < t) = u := ⟨_, rfl⟩
  rw [hu] at h3
  cases z <;> cases u <;> first | exact absurd rfl h3 | skip
  all_goals
    clear h3
    go_enter Try.func19, Try.ntmps19
    go_wp2_with fail
    go_ret
    exact L.out
theorem rq_set {w w1 : World} {b K : Nat} {v v' : Value} {r : Rp} {t : Int} {x : BitVec 64} (H : RqAt w b v K r) (hg : w.grownBy w1 none) (ho : OwnI w.heap.size w1 v' (bitsTo t x 64)) (ok : Rp.Ok ⟨r.win, t, x⟩) :
    LeavesQ w b v (K + 64) (0, ⟨r.win, t, x⟩) (.returned (.int .i64 0)) ((w1.setCell ⟨b, 1, none⟩ (.int .i64 t)).setCell ⟨b, 2, none⟩ v') := by
  have hl := H.lt
  have hc2 : Chg [b] w1 ((w1.setCell ⟨b, 1, none⟩ (.int .i64 t)).setCell ⟨b, 2, none⟩ v') := ((chg_refl w1 [b]).set (.inl (by simp)) _).set (.inl (by simp)) _
  have hne : b ∉ ownL v' := fun h => by have := (ho.at b h).1; omega
  refine ⟨rfl, v', ⟨?_, ⟨_, (ho.le (Nat.zero_le _)).chg hc2 (fun g hg => by simp; intro e; subst e; exact hne hg), rql_set r.win t x ok.w2, by have := bitsTo_len t x 64; omega⟩, hne, ok⟩, ?_, fun g hg => .inr (ho.at g hg).1⟩
  · exact at_set (at_set (at_grown H.top hg (by simp)) 1 (.int .i64 t)) 2 v'
  · exact (chg_grown hg _).then (hc2.more fun x hx => by simp at hx; simp [hx])
set_option maxHeartbeats 4000000 in
theorem qset_good {b K : Nat} {v : Value} {r : Rp} (t : Int) (x : BitVec 64) (w : World) (H : RqAt w b v K r) (h : 0 ≤ t ∧ t ≤ 1099511627776 ∧ x.getLsbD 0 = decide (0 < t)) :
    Calls Try.prog 19 #[.pointer (some ⟨b, 0, none⟩), .int .i64 t, .int .u64 (q x)] w (LeavesQ w b v (K + 64) (r.set t x)) := by
  obtain ⟨c0, c1, c2, f1, f2⟩ := H.tops
  have hh := H.lt.1
  have w2 := H.ok.w2
  have GOOD := hid (fun h4 => rp_good H.ok t x h h4)
  have BAD := hid (fun i => rp_bad H.ok t x i)
  have L0 := hid (fun w1 hg => leavesQ_same (w' := w1) 1 H hg (K + 64) (by omega))
  have L1 := hid (fun w1 v' hg ho ok => rq_set (w1 := w1) (v' := v') (t := t) (x := x) H hg ho ok)
  have HT := hid H.top
  clear H
  obtain ⟨h1, h2, h3⟩ := h
  have d1 : decide (t < 0) = false := by simpa using h1
  have d2 : decide (1099511627776 < t) = false := by simpa using h2
  have s4 := q_and_one x
  have s5 := bit0_one x
  rw [h3] at s5
  clear h3
  obtain ⟨R, hR⟩ : ∃ R, R = r.set t x := ⟨_, rfl⟩
  rw [← hR]
  have HR := hid hR; clear hR
  generalize x &&& 1#64 = y at *
  go_enter Try.func19, Try.ntmps19
  go_wp2_with fail
  go_loopw [7, 8] (fun u i wr => ∃ k : Nat, k ≤ 64 ∧ i = .int .i64 (k : Int) ∧ OwnI w.heap.size wr u (bitsTo t x k) ∧ w.grownBy wr none ∧ ∀ j : Nat, j < k → x.getLsbD j = true → j < r.win ∧ 1 ≤ t - (j : Int)) (fun _ i _ => 64 - (intOf i).toNat)
  case atStart => exact ⟨0, by omega, rfl, OwnI.nil _ _, .refl w none, fun j hj => absurd hj (Nat.not_lt_zero _)⟩
  case round =>
    obtain ⟨k, hk, rfl, ho, hg, hgood⟩ := hrel
    obtain ⟨p, n, c, rfl⟩ := ho.slice
    have HO := hid ho; have HG := hid hg; have HGD := hid hgood
    have ht := at_grown HT.out hg (by simp)
    have e0 : wr.cell? ⟨b, 0, none⟩ = some (.int .i64 (r.win : Int)) := at_cell ht 0
    have e1 : wr.cell? ⟨b, 1, none⟩ = some (.int .i64 r.top) := at_cell ht 1
    have e2 : wr.cell? ⟨b, 2, none⟩ = some v := at_cell ht 2
    have e3 := at_free ht 1; have e4 := at_free ht 2
    clear ho hg hgood ht
    by_cases hlt : k < 64
    · have s6 := q_and_one (x >>> k)
      have s7 : (q ((x >>> k) &&& 1#64) == 0) = !x.getLsbD k := by
        rw [q_zero, Bool.eq_iff_iff, decide_eq_true_eq, shr_bit]; simp
      cases hz : x.getLsbD k with
      | false =>
        rw [hz] at s7
        have hgood2 : ∀ j : Nat, j < k + 1 → x.getLsbD j = true → j < r.win ∧ 1 ≤ t - (j : Int) := fun j hj hb => by
          by_cases e : j = k
          · subst e; rw [hz] at hb; cases hb
          · exact HGD.out j (by omega) hb
        have e : bitsTo t x (k + 1) = bitsTo t x k := by rw [bitsTo, if_neg (by rw [hz]; decide)]
        have HE := hid e; have HGD2 := hid hgood2
        clear hz e hgood2
        generalize x >>> k &&& 1#64 = m at *
        go_wp2_with fail
        go_roundw
        case rel => exact ⟨k + 1, by omega, by go_num, by rw [HE.out]; exact HO.out, HG.out, HGD2.out⟩
        case measure => simp [intOf]; omega
      | true =>
        rw [hz] at s7
        have HZ := hid hz; clear hz
        have s8 : IntKind.i64.wrap (t - (k : Int)) = t - (k : Int) := IntWalk.i64_in _ (by omega)
        generalize x >>> k &&& 1#64 = m at *
        by_cases g1 : r.win ≤ k
        · have g2 : decide (r.win ≤ k) = true := by simpa using g1
          have hb := BAD.out k hlt HZ.out (.inl (by omega))
          go_wp2_with fail
          go_ret
          rw [HR.out, hb]
          exact L0.out _ HG.out
        have g2 : decide (r.win ≤ k) = false := by simpa using g1
        by_cases g3 : t - (k : Int) < 1
        · have g4 : decide (t - (k : Int) < 1) = true := by simpa using g3
          have hb := BAD.out k hlt HZ.out (.inr g3)
          go_wp2_with fail
          go_ret
          rw [HR.out, hb]
          exact L0.out _ HG.out
        have g4 : decide (t - (k : Int) < 1) = false := by simpa using g3
        have hgood2 : ∀ j : Nat, j < k + 1 → x.getLsbD j = true → j < r.win ∧ 1 ≤ t - (j : Int) := fun j hj hb => by
          by_cases e : j = k
          · subst e; omega
          · exact HGD.out j (by omega) hb
        have e : bitsTo t x (k + 1) = bitsTo t x k ++ [t - (k : Int)] := by rw [bitsTo, if_pos HZ.out]
        have HE := hid e; have HGD2 := hid hgood2
        have hlen : (bitsTo t x k).length + 1 ≤ 1000000 := by have := bitsTo_len t x k; omega
        have HLEN := hid hlen
        have hsz := gb_size HG.out
        clear e hgood2 hlen
        generalize hl : bitsTo t x k = l at *
        clear hl
        go_wp2_with (at_builtin; refine append_int rfl _ _ rfl w.heap.size (.slice p n c) l (by rfl) (HO.out.chg ((chg_refl wr []).alloc _) (by simp)) wr.heap.size (t - (k : Int)) (by rfl) (at_cell (at_new wr _) 0) HLEN.out (by simp; omega) ?_; intro u2 w3 hown hgrow hat; obtain ⟨p', n', c', rfl⟩ := hown.slice; have O1 := hid hown; have G1 := hid hgrow; clear hown hgrow hat)
        go_roundw
        case rel => exact ⟨k + 1, by omega, by go_num, by rw [HE.out]; exact O1.out, (((chg_grown HG.out []).alloc _).trans (chg_own G1.out) (fun g hg => .inr (HO.out.at g hg).1)).free (by simp), HGD2.out⟩
        case measure => simp [intOf]; omega
    · have hk64 : k = 64 := by omega
      subst hk64
      obtain ⟨g1, g2⟩ := GOOD.out (fun i hi hb => HGD.out i hi hb)
      have G1 := hid g1; have G2 := hid g2
      clear g1 g2
      go_wp2_with fail
      go_ret
      rw [HR.out, G1.out]
      exact L1.out _ _ HG.out HO.out G2.out
theorem qset_any {b K : Nat} {v : Value} {r : Rp} (t : Int) (x : BitVec 64) (w : World) (H : RqAt w b v K r) :
    Calls Try.prog 19 #[.pointer (some ⟨b, 0, none⟩), .int .i64 t, .int .u64 (q x)] w (LeavesQ w b v (K + 64) (r.set t x)) := by
  by_cases h : 0 ≤ t ∧ t ≤ 1099511627776 ∧ x.getLsbD 0 = decide (0 < t)
  · exact qset_good t x w H h
  · exact qset_bad t x w H h
end Go.Proofs.Ytanlhecjoklhaaa
