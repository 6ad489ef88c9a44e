/-
  The document's own Replay: what one is; has, New, May. The condition of a call: the object lies there.
  Contracts for a holder's two windows, which of them is now's and which the old one's; a gate's ring, windows; whether an epoch is in time. The condition: the gate lies there.
-/
import Derived.Test.YtfhifnhnkgdnlaaGreatZ5
import Derived.Deep.QuietTactic
import Derived.BigQuiet
import Derived.Test.YtfhifnhnkgdnlaaGreatZ4
section
set_option linter.unusedSimpArgs false
set_option linter.unusedVariables false
namespace Go.Proofs.YtfhifnhnkgdnlaaGreat
set_option maxRecDepth 100000
open Go.RowKit

/-- the numbers that are kept, and the model -/
structure RqL (L : List Int) (r : Rp) : Prop where
  le : ∀ n, n ∈ L → n ≤ r.top
  win : ∀ n, r.top - r.win < n → n ≤ r.top → (n ∈ L ↔ r.bits.getLsbD (r.top - n).toNat = true)
theorem rql_new (n : Nat) : RqL [] (.new n) := ⟨fun _ h => (by cases h), fun m _ _ => (by simp [Rp.new])⟩
theorem rql_may {L : List Int} {r : Rp} (h : RqL L r) (n : Int) : r.may n = (decide (1 ≤ n) && decide (n ≤ 1099511627776) && decide (r.top - r.win < n) && !decide (n ∈ L)) := by
  unfold Rp.may
  by_cases h1 : 1 ≤ n <;> by_cases h2 : n ≤ 1099511627776
  · by_cases h3 : r.top < n
    · have h4 : n ∉ L := fun hm => by have := h.le n hm; omega
      have h5 : r.top - r.win < n := by omega
      simp [h1, h2, h3, h4, h5]
    · by_cases h4 : r.top - r.win < n
      · have := h.win n h4 (by omega)
        have h5 : r.top - n < r.win := by omega
        rw [Bool.eq_iff_iff]
        simp only [h1, h2, h3, h4, h5, decide_eq_true_eq, Bool.and_eq_true, Bool.not_eq_true', decide_eq_false_iff_not, this, true_and, false_or, Bool.not_eq_true]
      · have h5 : ¬ r.top - n < r.win := by omega
        rw [Bool.eq_iff_iff]
        simp only [h1, h2, h3, h4, h5, decide_eq_true_eq, Bool.and_eq_true, decide_false, decide_true]
        simp
  all_goals simp [h1, h2]
theorem rql_put {L : List Int} {r : Rp} (h : RqL L r) (ok : r.Ok) {n : Int} (hm : r.may n = true) : RqL (L ++ [n]) (r.put n) ∧ (r.put n).top = max r.top n := by
  obtain ⟨m1, m2, m3⟩ := of_decide_eq_true hm
  have w2 := ok.w2
  unfold Rp.put
  split
  · next hl =>
    refine ⟨⟨fun m hm => ?_, fun m h1 h2 => ?_⟩, by show n = _; omega⟩
    · show m ≤ n
      rcases List.mem_append.1 hm with hm | hm
      · have := h.le m hm; omega
      · simp at hm; omega
    · have h1' : n - r.win < m := h1
      have h2' : m ≤ n := h2
      show _ ↔ ((r.bits <<< (n - r.top).toNat &&& low r.win) ||| 1#64).getLsbD (n - m).toNat = true
      by_cases e : m = n
      · subst e; simp
      · have e0 : (n - m).toNat ≠ 0 := by omega
        have e1 : (1#64).getLsbD (n - m).toNat = false := by simp [BitVec.getLsbD_one, e0]
        have e2 : (n - m).toNat < r.win := by omega
        have e3 : (n - m).toNat < 64 := by omega
        rw [BitVec.getLsbD_or, e1, Bool.or_false, BitVec.getLsbD_and, low_bit _ _ w2, BitVec.getLsbD_shiftLeft]
        simp only [e2, e3, decide_true, Bool.and_true, Bool.true_and]
        by_cases e4 : (n - m).toNat < (n - r.top).toNat
        · have hn : m ∉ L := fun hm => by have := h.le m hm; omega
          simp [e4, hn, e]
        · have hw := h.win m (by omega) (by omega)
          have e5 : (n - m).toNat - (n - r.top).toNat = (r.top - m).toNat := by omega
          rw [e5]
          simp [e4, e, hw]
  · next hl =>
    refine ⟨⟨fun m hm => ?_, fun m h1 h2 => ?_⟩, by show r.top = _; omega⟩
    · show m ≤ r.top
      rcases List.mem_append.1 hm with hm | hm
      · exact h.le m hm
      · simp at hm; omega
    · have h1' : r.top - r.win < m := h1
      have h2' : m ≤ r.top := h2
      have hw := h.win m h1' h2'
      show _ ↔ (r.bits ||| 1#64 <<< (r.top - n).toNat).getLsbD (r.top - m).toNat = true
      rw [BitVec.getLsbD_or, one_bit]
      have e3 : (r.top - m).toNat < 64 := by omega
      have e4 : ((r.top - m).toNat = (r.top - n).toNat) ↔ m = n := by omega
      simp only [e3, e4, decide_true, Bool.and_true, Bool.or_eq_true, decide_eq_true_eq, List.mem_append, List.mem_singleton, hw]

/-- a Replay of the document's -/
structure RqAt (w : World) (b : Nat) (v : Value) (K : Nat) (r : Rp) : Prop where
  top : w.heap[b]? = some (.cells #[.int .i64 (r.win : Int), .int .i64 r.top, v] 70)
  row : ∃ L, OwnI 0 w v L ∧ RqL L r ∧ L.length ≤ K
  nb : b ∉ ownL v
  ok : r.Ok
section
variable {w w' : World} {b K K' : Nat} {v : Value} {r : Rp} {F : List Nat}
theorem RqAt.chg (H : RqAt w b v K r) (hc : Chg F w w') (hb : b ∉ F) (hv : ∀ g, g ∈ ownL v → g ∉ F) : RqAt w' b v K r :=
  ⟨hc.at H.top hb, by obtain ⟨L, h1, h2⟩ := H.row; exact ⟨L, h1.chg hc hv, h2⟩, H.nb, H.ok⟩
theorem RqAt.grown (H : RqAt w b v K r) (hg : w.grownBy w' none) : RqAt w' b v K r := H.chg (chg_grown hg []) (by simp) (by simp)
theorem RqAt.drew (H : RqAt w b v K r) : RqAt w.drew b v K r := H.chg ((chg_refl w []).drew) (by simp) (by simp)
theorem RqAt.more (H : RqAt w b v K r) (h : K ≤ K') : RqAt w b v K' r := ⟨H.top, by obtain ⟨L, h1, h2, h3⟩ := H.row; exact ⟨L, h1, h2, by omega⟩, H.nb, H.ok⟩
theorem RqAt.lt (H : RqAt w b v K r) : b < w.heap.size ∧ ∀ g, g ∈ ownL v → g < w.heap.size := ⟨at_lt H.top, by obtain ⟨L, h1, _⟩ := H.row; exact fun g hg => (h1.at g hg).2⟩
theorem RqAt.tops (H : RqAt w b v K r) : w.cell? ⟨b, 0, none⟩ = some (.int .i64 (r.win : Int)) ∧ w.cell? ⟨b, 1, none⟩ = some (.int .i64 r.top) ∧ w.cell? ⟨b, 2, none⟩ = some v ∧ w.frozen? ⟨b, 1, none⟩ = false ∧ w.frozen? ⟨b, 2, none⟩ = false :=
  ⟨at_cell H.top 0, at_cell H.top 1, at_cell H.top 2, at_free H.top 1, at_free H.top 2⟩
end

set_option maxHeartbeats 1600000 in
theorem fhas_any {b : Nat} {v : Value} {L : List Int} (n : Int) (w : World) (hb : w.cell? ⟨b, 2, none⟩ = some v) (ho : OwnI 0 w v L) (hl : L.length ≤ 1000000) (res : Bool) (hr : decide (n ∈ L) = res) :
    Calls Tryz.prog 74 #[.pointer (some ⟨b, 0, none⟩), .int .i64 n] w fun e w' => e = .returned (.bool res) ∧ w = w' := by
  have HR := hid hr; clear hr
  obtain ⟨p, c, rfl⟩ := ho.form
  have HO := hid ho; clear ho
  generalize hlen : L.length = len at *
  have HL := hid hlen; clear hlen
  go_enter Tryz.func74, Tryz.ntmps74
  go_wp2_with fail
  go_loop [5] (fun i => ∃ k : Nat, k ≤ len ∧ i = .int .i64 (k : Int) ∧ ∀ j, j < k → L[j]? ≠ some n) (fun i => len - (intOf i).toNat)
  case atStart => exact ⟨0, Nat.zero_le _, rfl, fun j h => absurd h (Nat.not_lt_zero _)⟩
  case round =>
    obtain ⟨k, hk, rfl, hno⟩ := hrel
    have HN := hid hno; clear hno
    by_cases hlt : k < len
    · obtain ⟨z, hz⟩ : ∃ z, L[k]? = some z := ⟨_, List.getElem?_eq_getElem (by rw [HL.out]; exact hlt)⟩
      obtain ⟨g, rfl, hc, ck⟩ : ∃ g, p = some ⟨g, 0, none⟩ ∧ len ≤ c ∧ w.cell? ⟨g, k, none⟩ = some (.int .i64 z) := by
        obtain ⟨g, c', e, hc, hcell⟩ := HO.out.cells (i := k) (by rw [HL.out]; exact hlt)
        have hk' : k < L.length := by rw [HL.out]; exact hlt
        cases e
        refine ⟨g, rfl, by rw [← HL.out]; exact hc, ?_⟩
        rw [hcell k hk']
        rw [List.getElem?_eq_getElem hk'] at hz
        rw [Option.some.inj hz]
      by_cases he : z = n
      · have hd : decide (n ∈ L) = true := decide_eq_true (he ▸ List.mem_of_getElem? hz)
        have d1 : (z == n) = true := by simpa using he
        clear he hz
        have hr := HR.out
        rw [hd] at hr
        subst hr
        clear hd HR
        go_wp2_with fail
        go_ret
        exact ⟨rfl, rfl⟩
      · have hn2 : ∀ j, j < k + 1 → L[j]? ≠ some n := fun j hj => by
          by_cases e : j = k
          · subst e; rw [hz]; simpa using he
          · exact HN.out j (by omega)
        have HN2 := hid hn2; clear hn2
        have d1 : (z == n) = false := by simpa using he
        clear he hz
        go_wp2_with fail
        go_round
        case rel => exact ⟨k + 1, by omega, by go_num, HN2.out⟩
        case measure => simp [intOf]; omega
    · have hd : decide (n ∈ L) = false := decide_eq_false fun hm => by
        obtain ⟨j, hj, e⟩ := List.mem_iff_getElem.1 hm
        have := HL.out
        exact HN.out j (by omega) (by rw [List.getElem?_eq_getElem hj, e])
      have hr := HR.out
      rw [hd] at hr
      subst hr
      clear hd HR
      go_wp2_with fail
      go_ret
      exact ⟨rfl, rfl⟩

/-- New -/
def MadeQ (w : World) (r : Rp) (e : Ending) (w' : World) : Prop := ∃ b, e = .returned (.pointer (some ⟨b, 0, none⟩)) ∧ RqAt w' b (.slice none 0 0) 0 r ∧ w.grownBy w' none ∧ w.heap.size ≤ b
theorem qnew_nil (n : Int) (h : n < 1 ∨ 64 < n) (w : World) :
    Calls Tryz.prog 45 #[.int .i64 n] w fun e w' => e = .returned (.pointer none) ∧ w = w' := by
  by_cases h1 : n < 1
  · have d1 : decide (n < 1) = true := by simpa using h1
    clear h
    go_enter Tryz.func45, Tryz.ntmps45
    go_wp2_with fail
    go_ret
    exact ⟨rfl, rfl⟩
  · have d1 : decide (n < 1) = false := by simpa using h1
    have d2 : decide (64 < n) = true := by simp; omega
    clear h
    go_enter Tryz.func45, Tryz.ntmps45
    go_wp2_with fail
    go_ret
    exact ⟨rfl, rfl⟩
set_option maxHeartbeats 1600000 in
theorem qnew_ok (n : Nat) (h1 : 1 ≤ n) (h2 : n ≤ 64) (w : World) :
    Calls Tryz.prog 45 #[.int .i64 (n : Int)] w (MadeQ w (.new n)) := by
  have L : Hid (RqAt (w.alloc (.cells #[.int .i64 (n : Int), .int .i64 0, .slice none 0 0] 70)) w.heap.size (.slice none 0 0) 0 (.new n)) := hid ⟨at_new w _, ⟨[], OwnI.nil _ _, rql_new n, Nat.le_refl _⟩, by simp [ownL, Value.ownBlock], rp_new_ok h1 h2⟩
  have d1 : decide ((n : Int) < 1) = false := by simp; omega
  have d2 : decide ((64 : Int) < (n : Int)) = false := by simp; omega
  go_enter Tryz.func45, Tryz.ntmps45
  go_wp2_with fail
  go_ret
  exact ⟨_, rfl, L.out, gb_alloc (.refl w none) _, Nat.le_refl _⟩

/-- May -/
theorem gb_drewQ (w : World) (n : Nat) : w.grownBy (w.drewN n) none := ⟨rfl, rfl, rfl, Nat.le_refl _, fun _ _ _ => rfl⟩
theorem qmay_off {b K : Nat} {v : Value} {r : Rp} (n : Int) (w : World) (H : RqAt w b v K r) (h : ¬ (1 ≤ n ∧ n ≤ 1099511627776 ∧ r.top - r.win < n)) :
    Calls Tryz.prog 61 #[.pointer (some ⟨b, 0, none⟩), .int .i64 n] w fun e w' => e = .returned (.bool false) ∧ w.grownBy w' none := by
  obtain ⟨c0, c1, c2, f1, f2⟩ := H.tops
  have t0 := H.ok.t0; have t1 := H.ok.t1; have w2 := H.ok.w2
  clear H
  generalize r.top = t at *
  generalize r.win = m at *
  by_cases h1 : 1 ≤ n
  · have d1 : decide (1 ≤ n) = true := by simpa using h1
    by_cases h2 : n ≤ 1099511627776
    · have d2 : decide (n ≤ 1099511627776) = true := by simpa using h2
      have d3 : decide (t - m < n) = false := by simp; omega
      have s1 : IntKind.i64.wrap (t - m) = t - m := IntWalk.i64_in _ (by omega)
      clear h
      go_enter Tryz.func61, Tryz.ntmps61
      go_wp2_with fail
      go_quiet (fail)
      go_wp2_with fail
      go_ret
      exact ⟨rfl, gb_drewQ w _⟩
    · have d2 : decide (n ≤ 1099511627776) = false := by simpa using h2
      clear h
      go_enter Tryz.func61, Tryz.ntmps61
      go_wp2_with fail
      go_quiet (fail)
      go_wp2_with fail
      go_ret
      exact ⟨rfl, gb_drewQ w _⟩
  · have d1 : decide (1 ≤ n) = false := by simpa using h1
    clear h
    go_enter Tryz.func61, Tryz.ntmps61
    go_wp2_with fail
    go_quiet (fail)
    go_wp2_with fail
    go_ret
    exact ⟨rfl, gb_drewQ w _⟩
theorem qmay_on {b K : Nat} {v : Value} {r : Rp} (n : Int) (w : World) (H : RqAt w b v K r) (hK : K ≤ 1000000) (h1 : 1 ≤ n) (h2 : n ≤ 1099511627776) (h3 : r.top - r.win < n) :
    Calls Tryz.prog 61 #[.pointer (some ⟨b, 0, none⟩), .int .i64 n] w fun e w' => e = .returned (.bool (r.may n)) ∧ w.grownBy w' none := by
  obtain ⟨c0, c1, c2, f1, f2⟩ := H.tops
  have t0 := H.ok.t0; have t1 := H.ok.t1; have w2 := H.ok.w2
  obtain ⟨L, l1, l2, l3⟩ := H.row
  obtain ⟨z, hz⟩ : ∃ z, decide (n ∈ L) = z := ⟨_, rfl⟩
  have hm : r.may n = !z := by rw [rql_may l2 n, hz]; simp [h1, h2, h3]
  have C := fun w1 (hg : w.grownBy w1 none) => fhas_any n w1 (hg.cell c2 (by simp)) (l1.chg (chg_grown hg []) (by simp)) (by omega) z hz
  rw [hm]
  have HC := hid C
  clear C hm hz l1 l2 H
  generalize r.top = t at *
  generalize r.win = m at *
  have d1 : decide (1 ≤ n) = true := by simpa using h1
  have d2 : decide (n ≤ 1099511627776) = true := by simpa using h2
  have d3 : decide (t - m < n) = true := by simpa using h3
  have s1 : IntKind.i64.wrap (t - m) = t - m := IntWalk.i64_in _ (by omega)
  go_enter Tryz.func61, Tryz.ntmps61
  go_wp2_with fail
  go_quiet ((go_at_call 74; exact Calls.quiet_of_same (still_of (HC.out _ (gb_drewQ w _)))))
  go_wp2_with fail
  go_ret
  exact ⟨rfl, gb_drewQ w _⟩
theorem qmay_any {b K : Nat} {v : Value} {r : Rp} (n : Int) (w : World) (H : RqAt w b v K r) (hK : K ≤ 1000000) :
    Calls Tryz.prog 61 #[.pointer (some ⟨b, 0, none⟩), .int .i64 n] w fun e w' => e = .returned (.bool (r.may n)) ∧ w.grownBy w' none := by
  by_cases h : 1 ≤ n ∧ n ≤ 1099511627776 ∧ r.top - r.win < n
  · exact qmay_on n w H hK h.1 h.2.1 h.2.2
  · obtain ⟨L, l1, l2, l3⟩ := H.row
    have hm : r.may n = false := by
      rw [rql_may l2 n]
      by_cases h1 : 1 ≤ n <;> by_cases h2 : n ≤ 1099511627776 <;> by_cases h3 : r.top - r.win < n <;> simp [h1, h2, h3] <;> exact absurd ⟨h1, h2, h3⟩ h
    rw [hm]
    exact qmay_off n w H h
end Go.Proofs.YtfhifnhnkgdnlaaGreat
end
section
set_option linter.unusedSimpArgs false
set_option linter.unusedVariables false
namespace Go.Proofs.YtfhifnhnkgdnlaaGreat
set_option maxRecDepth 100000
open Go.RowKit

theorem hold_now (h k a b : Nat) (t : Int) (w : World) (t0 : 0 ≤ t) (c0 : w.cell? ⟨h, k, none⟩ = some (.int .u32 t)) (c1 : w.cell? ⟨h, k + 1, none⟩ = some (.pointer (some ⟨a, 0, none⟩))) (c2 : w.cell? ⟨h, k + 2, none⟩ = some (.pointer (some ⟨b, 0, none⟩))) :
    Calls Tryz.prog 69 #[.pointer (some ⟨h, k, none⟩)] w fun e w' => e = .returned (.pointer (some ⟨side t a b, 0, none⟩)) ∧ w.grownBy w' none := by
  have CL := hid (fun n => load_u32 ⟨h, k, none⟩ t (w.drewN n) c0)
  by_cases ht : t % 2 = 0
  · have e1 : Int.tmod t 2 = 0 := by rw [Int.tmod_eq_emod_of_nonneg t0]; exact ht
    rw [show side t a b = a from if_pos ht]
    clear ht
    go_enter Tryz.func69, Tryz.ntmps69
    go_wp2_with fail
    go_quiet ((go_at_call 108; exact Calls.quiet_of_same (still_of (CL.out _))))
    go_wp2_with fail
    go_ret
    exact ⟨rfl, gb_drewQ w _⟩
  · have e1 : Int.tmod t 2 = 1 := by rw [Int.tmod_eq_emod_of_nonneg t0]; omega
    rw [show side t a b = b from if_neg ht]
    clear ht
    go_enter Tryz.func69, Tryz.ntmps69
    go_wp2_with fail
    go_quiet ((go_at_call 108; exact Calls.quiet_of_same (still_of (CL.out _))))
    go_wp2_with fail
    go_ret
    exact ⟨rfl, gb_drewQ w _⟩
/-- one turn more -/
def succT (t : Int) : Int := (t + 1) % 4294967296
theorem wrap_succT (t : Int) : IntKind.u32.wrap (t + 1) = succT t := by simp [succT, IntKind.wrap, IntKind.bits, IntKind.signed]
theorem succT_0 (t : Int) : 0 ≤ succT t := Int.emod_nonneg _ (by decide)
theorem succT_lt (t : Int) : succT t < 4294967296 := Int.emod_lt_of_pos _ (by decide)
theorem succT_mod (t : Int) : succT t % 2 = (t + 1) % 2 := by unfold succT; omega
theorem hold_old (h k a b : Nat) (t : Int) (w : World) (t0 : 0 ≤ t) (c0 : w.cell? ⟨h, k, none⟩ = some (.int .u32 t)) (c1 : w.cell? ⟨h, k + 1, none⟩ = some (.pointer (some ⟨a, 0, none⟩))) (c2 : w.cell? ⟨h, k + 2, none⟩ = some (.pointer (some ⟨b, 0, none⟩))) :
    Calls Tryz.prog 70 #[.pointer (some ⟨h, k, none⟩)] w fun e w' => e = .returned (.pointer (some ⟨side t b a, 0, none⟩)) ∧ w.grownBy w' none := by
  have CL := hid (fun n => load_u32 ⟨h, k, none⟩ t (w.drewN n) c0)
  have e0 := wrap_succT t
  have e2 := Int.tmod_eq_emod_of_nonneg (b := 2) (succT_0 t)
  rw [succT_mod] at e2
  by_cases ht : t % 2 = 0
  · have e1 : Int.tmod (succT t) 2 = 1 := by rw [e2]; omega
    rw [show side t b a = b from if_pos ht]
    clear ht e2
    generalize succT t = t1 at *
    go_enter Tryz.func70, Tryz.ntmps70
    go_wp2_with fail
    go_quiet ((go_at_call 108; exact Calls.quiet_of_same (still_of (CL.out _))))
    go_wp2_with fail
    go_ret
    exact ⟨rfl, gb_drewQ w _⟩
  · have e1 : Int.tmod (succT t) 2 = 0 := by rw [e2]; omega
    rw [show side t b a = a from if_neg ht]
    clear ht e2
    generalize succT t = t1 at *
    go_enter Tryz.func70, Tryz.ntmps70
    go_wp2_with fail
    go_quiet ((go_at_call 108; exact Calls.quiet_of_same (still_of (CL.out _))))
    go_wp2_with fail
    go_ret
    exact ⟨rfl, gb_drewQ w _⟩
theorem side_self (t : Int) (a b : Nat) : side t (side t a b) (side t b a) = a := by unfold side; split <;> rfl

theorem gring_any {F : List Nat} {B : GBl} {G : Gt} (w : World) (K : GtAt w F B G) :
    Calls Tryz.prog 22 #[.pointer (some ⟨B.g, 0, none⟩)] w fun e w' => e = .returned (.pointer (some ⟨B.rb, 0, none⟩)) ∧ w = w' := by
  obtain ⟨c0, c1, c2, c3, c4⟩ := K.tops
  clear K
  go_enter Tryz.func22, Tryz.ntmps22
  go_wp2
  go_ret
  exact ⟨rfl, rfl⟩
theorem greplay_in {F : List Nat} {B : GBl} {G : Gt} (i : Nat) (w : World) (K : GtAt w F B G) (hi : i < G.r.n) :
    Calls Tryz.prog 23 #[.pointer (some ⟨B.g, 0, none⟩), .int .i64 (i : Int)] w fun e w' => e = .returned (.pointer (some ⟨B.A i, 0, none⟩)) ∧ w.grownBy w' none := by
  have F1 := hid (gfind_in i w K hi)
  obtain ⟨c0, c1, c2, f0, f1, f2⟩ := K.cells hi
  have C := hid (hold_now B.hb (i * 3) _ _ _ w (K.t0 i).1 c0 c1 c2)
  rw [side_self] at C
  clear K c0 c1 c2 f0 f1 f2
  go_enter Tryz.func23, Tryz.ntmps23
  go_wp2_with fail
  refine F1.out.mono ?_
  rintro e w1 ⟨rfl, rfl⟩
  go_wp2_with fail
  refine C.out.mono ?_
  rintro e w1 ⟨rfl, hg⟩
  have G1 := hid hg; clear hg
  go_wp2_with fail
  go_ret
  exact ⟨rfl, G1.out⟩
theorem greplay_out {F : List Nat} {B : GBl} {G : Gt} (x : Int) (w : World) (K : GtAt w F B G) (hx : x < 0 ∨ (G.r.n : Int) ≤ x) :
    Calls Tryz.prog 23 #[.pointer (some ⟨B.g, 0, none⟩), .int .i64 x] w fun e w' => e = .returned (.pointer none) ∧ w = w' := by
  have F1 := hid (gfind_out x w K hx)
  clear K hx
  go_enter Tryz.func23, Tryz.ntmps23
  go_wp2_with fail
  refine F1.out.mono ?_
  rintro e w1 ⟨rfl, rfl⟩
  go_wp2_with fail
  go_ret
  exact ⟨rfl, rfl⟩
theorem gold_in {F : List Nat} {B : GBl} {G : Gt} (i : Nat) (w : World) (K : GtAt w F B G) (hi : i < G.r.n) :
    Calls Tryz.prog 24 #[.pointer (some ⟨B.g, 0, none⟩), .int .i64 (i : Int)] w fun e w' => e = .returned (.pointer (some ⟨B.O i, 0, none⟩)) ∧ w.grownBy w' none := by
  have F1 := hid (gfind_in i w K hi)
  obtain ⟨c0, c1, c2, f0, f1, f2⟩ := K.cells hi
  have C := hid (hold_old B.hb (i * 3) _ _ _ w (K.t0 i).1 c0 c1 c2)
  rw [side_self] at C
  clear K c0 c1 c2 f0 f1 f2
  go_enter Tryz.func24, Tryz.ntmps24
  go_wp2_with fail
  refine F1.out.mono ?_
  rintro e w1 ⟨rfl, rfl⟩
  go_wp2_with fail
  refine C.out.mono ?_
  rintro e w1 ⟨rfl, hg⟩
  have G1 := hid hg; clear hg
  go_wp2_with fail
  go_ret
  exact ⟨rfl, G1.out⟩

/-- an epoch in time -/
theorem intime_any {F : List Nat} {B : GBl} {G : Gt} (epoch now : Int) (w : World) (K : GtAt w F B G) (h1 : epoch ≤ 1099511627776) (h2 : -9223372036854775808 ≤ now) :
    Calls Tryz.prog 58 #[.pointer (some ⟨B.g, 0, none⟩), .int .i64 epoch, .int .i64 now] w fun e w' => e = .returned (.bool (G.time epoch now)) ∧ w = w' := by
  obtain ⟨c0, c1, c2, c3, c4⟩ := K.tops
  have f1 := K.ok.f1
  have f2 := K.ok.f2
  unfold Gt.time
  clear K
  generalize G.fresh = f at *
  by_cases h : now ≤ epoch
  · have d1 : decide (now ≤ epoch) = true := by simpa using h
    have e : decide (now ≤ epoch ∧ epoch < now + (f : Int)) = decide (epoch < now + (f : Int)) := by simp [h]
    rw [e]
    have s1 : IntKind.i64.wrap (now + (f : Int)) = now + (f : Int) := IntWalk.i64_in _ (by omega)
    go_enter Tryz.func58, Tryz.ntmps58
    go_wp2
    go_ret
    exact ⟨rfl, rfl⟩
  · have d1 : decide (now ≤ epoch) = false := by simpa using h
    have e : decide (now ≤ epoch ∧ epoch < now + (f : Int)) = false := by simp [h]
    rw [e]
    go_enter Tryz.func58, Tryz.ntmps58
    go_wp2
    go_ret
    exact ⟨rfl, rfl⟩
end Go.Proofs.YtfhifnhnkgdnlaaGreat
end
