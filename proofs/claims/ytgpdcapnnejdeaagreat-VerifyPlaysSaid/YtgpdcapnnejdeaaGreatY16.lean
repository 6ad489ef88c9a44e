/-
  The document's own Replay: what one is; has, New, May. The condition of a call: the object lies there. And 3 texts more that this one stands on. No condition.
-/
import Derived.Test.YtgpdcapnnejdeaaGreatY12
import Derived.Test.YtgpdcapnnejdeaaGreatY20
import Derived.Deep.QuietTactic
import Derived.BigQuiet
import Derived.Test.YtgpdcapnnejdeaaGreatRows
import Derived.ProofKit
import Derived.OpenShut
import Derived.ChangeOld
import Derived.Below
import Derived.Test.YtgpdcapnnejdeaaGreatNCfRef
section
set_option linter.unusedSimpArgs false
set_option linter.unusedVariables false
namespace Go.Proofs.YtgpdcapnnejdeaaGreat
set_option maxRecDepth 100000
open Go.RowKit

structure RqL (L : List Int) (r : Rp) : Prop where
 le : ∀ n, n ∈ L → n ≤ r.top
 win : ∀ n, r.top - r.win < n → n ≤ r.top → (n ∈ L ↔ r.bits.getLsbD (r.top - n).toNat = true)
theorem rql_new (n : Nat) : RqL [] (.new n) := ⟨fun _ h => (by cases h), fun m _ _ => (by simp [Rp.new])⟩
theorem rql_may {L : List Int} {r : Rp} (h : RqL L r) (n : Int) : r.may n = (decide (1 ≤ n) && decide (n ≤ 1099511627776) && decide (r.top - r.win < n) && !decide (n ∈ L)) := by
 unfold Rp.may
 by_cases h1 : 1 ≤ n <;> by_cases h2 : n ≤ 1099511627776
 ·by_cases h3 : r.top < n
  ·have h4 : n ∉ L := fun hm => by have := h.le n hm; omega
   have h5 : r.top - r.win < n := by omega
   simp [h1, h2, h3, h4, h5]
  ·by_cases h4 : r.top - r.win < n
   ·have := h.win n h4 (by omega)
    have h5 : r.top - n < r.win := by omega
    rw [Bool.eq_iff_iff]
    simp only [h1, h2, h3, h4, h5, decide_eq_true_eq, Bool.and_eq_true, Bool.not_eq_true', decide_eq_false_iff_not, this, true_and, false_or, Bool.not_eq_true]
   ·have h5 : ¬ r.top - n < r.win := by omega
    rw [Bool.eq_iff_iff]
    simp only [h1, h2, h3, h4, h5, decide_eq_true_eq, Bool.and_eq_true, decide_false, decide_true]
    simp
 all_goals simp [h1, h2]
theorem rql_put {L : List Int} {r : Rp} (h : RqL L r) (ok : r.Ok) {n : Int} (hm : r.may n = true) : RqL (L ++ [n]) (r.put n) ∧ (r.put n).top = max r.top n := by
 obtain ⟨m1, m2, m3⟩ := of_decide_eq_true hm
 have w2 := ok.w2
 unfold Rp.put
 split
 ·next hl =>
  refine ⟨⟨fun m hm => ?_, fun m h1 h2 => ?_⟩, by show n = _; omega⟩
  ·show m ≤ n
   rcases List.mem_append.1 hm with hm | hm
   ·have := h.le m hm; omega
   ·simp at hm; omega
  ·have h1' : n - r.win < m := h1
   have h2' : m ≤ n := h2
   show _ ↔ ((r.bits <<< (n - r.top).toNat &&& low r.win) ||| 1#64).getLsbD (n - m).toNat = true
   by_cases e : m = n
   ·subst e; simp
   ·have e0 : (n - m).toNat ≠ 0 := by omega
    have e1 : (1#64).getLsbD (n - m).toNat = false := by simp [BitVec.getLsbD_one, e0]
    have e2 : (n - m).toNat < r.win := by omega
    have e3 : (n - m).toNat < 64 := by omega
    rw [BitVec.getLsbD_or, e1, Bool.or_false, BitVec.getLsbD_and, low_bit _ _ w2, BitVec.getLsbD_shiftLeft]
    simp only [e2, e3, decide_true, Bool.and_true, Bool.true_and]
    by_cases e4 : (n - m).toNat < (n - r.top).toNat
    ·have hn : m ∉ L := fun hm => by have := h.le m hm; omega
     simp [e4, hn, e]
    ·have hw := h.win m (by omega) (by omega)
     have e5 : (n - m).toNat - (n - r.top).toNat = (r.top - m).toNat := by omega
     rw [e5]
     simp [e4, e, hw]
 ·next hl =>
  refine ⟨⟨fun m hm => ?_, fun m h1 h2 => ?_⟩, by show r.top = _; omega⟩
  ·show m ≤ r.top
   rcases List.mem_append.1 hm with hm | hm
   ·exact h.le m hm
   ·simp at hm; omega
  ·have h1' : r.top - r.win < m := h1
   have h2' : m ≤ r.top := h2
   have hw := h.win m h1' h2'
   show _ ↔ (r.bits ||| 1#64 <<< (r.top - n).toNat).getLsbD (r.top - m).toNat = true
   rw [BitVec.getLsbD_or, one_bit]
   have e3 : (r.top - m).toNat < 64 := by omega
   have e4 : ((r.top - m).toNat = (r.top - n).toNat) ↔ m = n := by omega
   simp only [e3, e4, decide_true, Bool.and_true, Bool.or_eq_true, decide_eq_true_eq, List.mem_append, List.mem_singleton, hw]

structure RqAt (w : World) (b : Nat) (v : Value) (K : Nat) (r : Rp) : Prop where
 top : w.heap[b]? = some (.cells #[.int .i64 (r.win : Int), .int .i64 r.top, v] 70)
 row : ∃ L, OwnI 0 w v L ∧ RqL L r ∧ L.length ≤ K
 nb : b ∉ ownL v
 ok : r.Ok
section
variable {w w' : World} {b K K' : Nat} {v : Value} {r : Rp} {F : List Nat}
theorem RqAt.chg (H : RqAt w b v K r) (hc : Chg F w w') (hb : b ∉ F) (hv : ∀ g, g ∈ ownL v → g ∉ F) : RqAt w' b v K r :=
 ⟨hc.at H.top hb, by obtain ⟨L, h1, h2⟩ := H.row; exact ⟨L, h1.chg hc hv, h2⟩, H.nb, H.ok⟩
theorem RqAt.grown (H : RqAt w b v K r) (hg : w.grownBy w' none) : RqAt w' b v K r := H.chg (chg_grown hg []) (by simp) (by simp)
theorem RqAt.drew (H : RqAt w b v K r) : RqAt w.drew b v K r := H.chg ((chg_refl w []).drew) (by simp) (by simp)
theorem RqAt.more (H : RqAt w b v K r) (h : K ≤ K') : RqAt w b v K' r := ⟨H.top, by obtain ⟨L, h1, h2, h3⟩ := H.row; exact ⟨L, h1, h2, by omega⟩, H.nb, H.ok⟩
theorem RqAt.lt (H : RqAt w b v K r) : b < w.heap.size ∧ ∀ g, g ∈ ownL v → g < w.heap.size := ⟨at_lt H.top, by obtain ⟨L, h1, _⟩ := H.row; exact fun g hg => (h1.at g hg).2⟩
theorem RqAt.tops (H : RqAt w b v K r) : w.cell? ⟨b, 0, none⟩ = some (.int .i64 (r.win : Int)) ∧ w.cell? ⟨b, 1, none⟩ = some (.int .i64 r.top) ∧ w.cell? ⟨b, 2, none⟩ = some v ∧ w.frozen? ⟨b, 1, none⟩ = false ∧ w.frozen? ⟨b, 2, none⟩ = false :=
 ⟨at_cell H.top 0, at_cell H.top 1, at_cell H.top 2, at_free H.top 1, at_free H.top 2⟩
end

set_option maxHeartbeats 1600000 in
theorem fhas_any {b : Nat} {v : Value} {L : List Int} (n : Int) (w : World) (hb : w.cell? ⟨b, 2, none⟩ = some v) (ho : OwnI 0 w v L) (hl : L.length ≤ 1000000) (res : Bool) (hr : decide (n ∈ L) = res) :
  Calls Tryz.prog 74 #[.pointer (some ⟨b, 0, none⟩), .int .i64 n] w fun e w' => e = .returned (.bool res) ∧ w = w' := by
 have HR := hid hr; clear hr
 obtain ⟨p, c, rfl⟩ := ho.form
 have HO := hid ho; clear ho
 generalize hlen : L.length = len at *
 have HL := hid hlen; clear hlen
 go_enter Tryz.func74, Tryz.ntmps74
 go_wp2_with fail
 go_loop [5] (fun i => ∃ k : Nat, k ≤ len ∧ i = .int .i64 (k : Int) ∧ ∀ j, j < k → L[j]? ≠ some n) (fun i => len - (intOf i).toNat)
 case atStart => exact ⟨0, Nat.zero_le _, rfl, fun j h => absurd h (Nat.not_lt_zero _)⟩
 case round =>
  obtain ⟨k, hk, rfl, hno⟩ := hrel
  have HN := hid hno; clear hno
  by_cases hlt : k < len
  ·obtain ⟨z, hz⟩ : ∃ z, L[k]? = some z := ⟨_, List.getElem?_eq_getElem (by rw [HL.out]; exact hlt)⟩
   obtain ⟨g, rfl, hc, ck⟩ : ∃ g, p = some ⟨g, 0, none⟩ ∧ len ≤ c ∧ w.cell? ⟨g, k, none⟩ = some (.int .i64 z) := by
    obtain ⟨g, c', e, hc, hcell⟩ := HO.out.cells (i := k) (by rw [HL.out]; exact hlt)
    have hk' : k < L.length := by rw [HL.out]; exact hlt
    cases e
    refine ⟨g, rfl, by rw [← HL.out]; exact hc, ?_⟩
    rw [hcell k hk']
    rw [List.getElem?_eq_getElem hk'] at hz
    rw [Option.some.inj hz]
   by_cases he : z = n
   ·have hd : decide (n ∈ L) = true := decide_eq_true (he ▸ List.mem_of_getElem? hz)
    have d1 : (z == n) = true := by simpa using he
    clear he hz
    have hr := HR.out
    rw [hd] at hr
    subst hr
    clear hd HR
    go_wp2_with fail
    go_ret
    exact ⟨rfl, rfl⟩
   ·have hn2 : ∀ j, j < k + 1 → L[j]? ≠ some n := fun j hj => by
     by_cases e : j = k
     ·subst e; rw [hz]; simpa using he
     ·exact HN.out j (by omega)
    have HN2 := hid hn2; clear hn2
    have d1 : (z == n) = false := by simpa using he
    clear he hz
    go_wp2_with fail
    go_round
    case rel => exact ⟨k + 1, by omega, by go_num, HN2.out⟩
    case measure => simp [intOf]; omega
  ·have hd : decide (n ∈ L) = false := decide_eq_false fun hm => by
    obtain ⟨j, hj, e⟩ := List.mem_iff_getElem.1 hm
    have := HL.out
    exact HN.out j (by omega) (by rw [List.getElem?_eq_getElem hj, e])
   have hr := HR.out
   rw [hd] at hr
   subst hr
   clear hd HR
   go_wp2_with fail
   go_ret
   exact ⟨rfl, rfl⟩

def MadeQ (w : World) (r : Rp) (e : Ending) (w' : World) : Prop := ∃ b, e = .returned (.pointer (some ⟨b, 0, none⟩)) ∧ RqAt w' b (.slice none 0 0) 0 r ∧ w.grownBy w' none ∧ w.heap.size ≤ b
set_option maxHeartbeats 1600000 in
theorem qnew_ok (n : Nat) (h1 : 1 ≤ n) (h2 : n ≤ 64) (w : World) :
  Calls Tryz.prog 45 #[.int .i64 (n : Int)] w (MadeQ w (.new n)) := by
 have L : Hid (RqAt (w.alloc (.cells #[.int .i64 (n : Int), .int .i64 0, .slice none 0 0] 70)) w.heap.size (.slice none 0 0) 0 (.new n)) := hid ⟨at_new w _, ⟨[], OwnI.nil _ _, rql_new n, Nat.le_refl _⟩, by simp [ownL, Value.ownBlock], rp_new_ok h1 h2⟩
 have d1 : decide ((n : Int) < 1) = false := by simp; omega
 have d2 : decide ((64 : Int) < (n : Int)) = false := by simp; omega
 go_enter Tryz.func45, Tryz.ntmps45
 go_wp2_with fail
 go_ret
 exact ⟨_, rfl, L.out, gb_alloc (.refl w none) _, Nat.le_refl _⟩

theorem gb_drewQ (w : World) (n : Nat) : w.grownBy (w.drewN n) none := ⟨rfl, rfl, rfl, Nat.le_refl _, fun _ _ _ => rfl⟩
theorem qmay_off {b K : Nat} {v : Value} {r : Rp} (n : Int) (w : World) (H : RqAt w b v K r) (h : ¬ (1 ≤ n ∧ n ≤ 1099511627776 ∧ r.top - r.win < n)) :
  Calls Tryz.prog 61 #[.pointer (some ⟨b, 0, none⟩), .int .i64 n] w fun e w' => e = .returned (.bool false) ∧ w.grownBy w' none := by
 obtain ⟨c0, c1, c2, f1, f2⟩ := H.tops
 have t0 := H.ok.t0; have t1 := H.ok.t1; have w2 := H.ok.w2
 clear H
 generalize r.top = t at *
 generalize r.win = m at *
 by_cases h1 : 1 ≤ n
 ·have d1 : decide (1 ≤ n) = true := by simpa using h1
  by_cases h2 : n ≤ 1099511627776
  ·have d2 : decide (n ≤ 1099511627776) = true := by simpa using h2
   have d3 : decide (t - m < n) = false := by simp; omega
   have s1 : IntKind.i64.wrap (t - m) = t - m := IntWalk.i64_in _ (by omega)
   clear h
   go_enter Tryz.func61, Tryz.ntmps61
   go_wp2_with fail
   go_quiet (fail)
   go_wp2_with fail
   go_ret
   exact ⟨rfl, gb_drewQ w _⟩
  ·have d2 : decide (n ≤ 1099511627776) = false := by simpa using h2
   clear h
   go_enter Tryz.func61, Tryz.ntmps61
   go_wp2_with fail
   go_quiet (fail)
   go_wp2_with fail
   go_ret
   exact ⟨rfl, gb_drewQ w _⟩
 ·have d1 : decide (1 ≤ n) = false := by simpa using h1
  clear h
  go_enter Tryz.func61, Tryz.ntmps61
  go_wp2_with fail
  go_quiet (fail)
  go_wp2_with fail
  go_ret
  exact ⟨rfl, gb_drewQ w _⟩
theorem qmay_on {b K : Nat} {v : Value} {r : Rp} (n : Int) (w : World) (H : RqAt w b v K r) (hK : K ≤ 1000000) (h1 : 1 ≤ n) (h2 : n ≤ 1099511627776) (h3 : r.top - r.win < n) :
  Calls Tryz.prog 61 #[.pointer (some ⟨b, 0, none⟩), .int .i64 n] w fun e w' => e = .returned (.bool (r.may n)) ∧ w.grownBy w' none := by
 obtain ⟨c0, c1, c2, f1, f2⟩ := H.tops
 have t0 := H.ok.t0; have t1 := H.ok.t1; have w2 := H.ok.w2
 obtain ⟨L, l1, l2, l3⟩ := H.row
 obtain ⟨z, hz⟩ : ∃ z, decide (n ∈ L) = z := ⟨_, rfl⟩
 have hm : r.may n = !z := by rw [rql_may l2 n, hz]; simp [h1, h2, h3]
 have C := fun w1 (hg : w.grownBy w1 none) => fhas_any n w1 (hg.cell c2 (by simp)) (l1.chg (chg_grown hg []) (by simp)) (by omega) z hz
 rw [hm]
 have HC := hid C
 clear C hm hz l1 l2 H
 generalize r.top = t at *
 generalize r.win = m at *
 have d1 : decide (1 ≤ n) = true := by simpa using h1
 have d2 : decide (n ≤ 1099511627776) = true := by simpa using h2
 have d3 : decide (t - m < n) = true := by simpa using h3
 have s1 : IntKind.i64.wrap (t - m) = t - m := IntWalk.i64_in _ (by omega)
 go_enter Tryz.func61, Tryz.ntmps61
 go_wp2_with fail
 go_quiet ((go_at_call 74; exact Calls.quiet_of_same (still_of (HC.out _ (gb_drewQ w _)))))
 go_wp2_with fail
 go_ret
 exact ⟨rfl, gb_drewQ w _⟩
theorem qmay_any {b K : Nat} {v : Value} {r : Rp} (n : Int) (w : World) (H : RqAt w b v K r) (hK : K ≤ 1000000) :
  Calls Tryz.prog 61 #[.pointer (some ⟨b, 0, none⟩), .int .i64 n] w fun e w' => e = .returned (.bool (r.may n)) ∧ w.grownBy w' none := by
 by_cases h : 1 ≤ n ∧ n ≤ 1099511627776 ∧ r.top - r.win < n
 ·exact qmay_on n w H hK h.1 h.2.1 h.2.2
 ·obtain ⟨L, l1, l2, l3⟩ := H.row
  have hm : r.may n = false := by
   rw [rql_may l2 n]
   by_cases h1 : 1 ≤ n <;> by_cases h2 : n ≤ 1099511627776 <;> by_cases h3 : r.top - r.win < n <;> simp [h1, h2, h3] <;> exact absurd ⟨h1, h2, h3⟩ h
  rw [hm]
  exact qmay_off n w H h
end Go.Proofs.YtgpdcapnnejdeaaGreat
end
section
namespace Go.Proofs.YtgpdcapnnejdeaaGreat
set_option maxRecDepth 100000
open Go.ChangeShapes Go.WideShapes Go.ChangeAt Go.RowKit

theorem own : ownKnob Tryz.prog.godebug = none := by kernel_rfl
theorem laidOut : laidOutB Tryz.prog = true := by kernel_rfl

theorem all_below {P : Program} (hP : laidOutB P = true) {H : Type} {enc : TypeId × Value → H} {W W' : World} (hb : Below W.heap.size W W') {ts : List TypeId} :
  ∀ {vs : List Value} {ds : List (DataW H)} {ps : List MemPlace}, (ts.all fun t => P.readableRec t && decide (t < P.types.size)) = true →
   DataW.TrodAll enc P W 0 (fun _ => true) true ts vs ds ps → (∀ x ∈ ps, x.block < W.heap.size) →
   DataW.TrodAll enc P W' 0 (fun b => decide (b < W.heap.size)) true ts vs ds ps := by
 induction ts with
 | nil =>
  intro vs ds ps _ h _
  obtain ⟨rfl, rfl, rfl⟩ := trodAll_nil h
  rfl
 | cons t ts ih =>
  intro vs ds ps ht h hlt
  obtain ⟨v, vs', d, ds', p, q, rfl, rfl, rfl, h1, h2⟩ := trodAll_cons h
  simp only [List.all_cons, Bool.and_eq_true, decide_eq_true_eq] at ht
  exact ⟨p, q, Below.trod hP ht.1.1 ht.1.2 h1 hb (fun x hx => hlt x (List.mem_append_left _ hx)), ih ht.2 h2 (fun x hx => hlt x (List.mem_append_right _ hx)), rfl⟩
end Go.Proofs.YtgpdcapnnejdeaaGreat
end
section
set_option linter.unusedSimpArgs false
namespace Go.Proofs.YtgpdcapnnejdeaaGreat
set_option maxRecDepth 100000
open Go.ChangeShapes Go.WideShapes Go.ChangeAt Go.RowKit

def IntsAt (w : World) (v : Value) (l : List Int) : Prop :=
 (v = .slice none 0 0 ∧ l = []) ∨
 ∃ a cap, v = .slice (some a) l.length cap ∧ l.length ≤ cap ∧ cap ≤ maxLen ∧ ∀ i, (h : i < l.length) → w.cell? (a.add i) = some (.int .i64 l[i])
theorem IntsAt.grown {w w1 : World} {v : Value} {l : List Int} (h : IntsAt w v l) (hg : w.grownBy w1 none) : IntsAt w1 v l := by
 rcases h with h | ⟨a, cap, rfl, h1, h2, h3⟩
 ·exact .inl h
 ·exact .inr ⟨a, cap, rfl, h1, h2, fun i hi => hg.cell (h3 i hi) (by simp)⟩
theorem IntsAt.cells {w : World} {v : Value} {l : List Int} (h : IntsAt w v l) (hp : 0 < l.length) :
  ∃ ab ao cap, v = .slice (some ⟨ab, ao, none⟩) l.length cap ∧ ∀ i, (h : i < l.length) → w.cell? ⟨ab, ao + i, none⟩ = some (.int .i64 l[i]) := by
 rcases h with ⟨_, rfl⟩ | ⟨⟨ab, ao, asp⟩, cap, rfl, _, _, h3⟩
 ·cases hp
 ·have h0 := h3 0 hp
  have hsp : asp = none := by simpa [Addr.add] using World.cell?_spot h0
  subst hsp
  refine ⟨ab, ao, cap, rfl, fun i hi => ?_⟩
  have := h3 i hi
  unfold Addr.add at this
  split at this
  ·next h => subst h; simpa using this
  ·simpa using this
section
variable {H : Type} {enc : TypeId × Value → H} {w : World} {base : Nat} {d : DataW H} {ps : List MemPlace} {v : Value} {t e : TypeId}
theorem open_intlist (ht : Tryz.prog.underlying t = some (.slice e)) (he : Tryz.prog.underlying e = some (.int .i64)) (hc : Tryz.prog.cellsOf e = 1)
  (hval : Value.okWide Tryz.prog w .any base t v) (h : DataW.Trod enc Tryz.prog w 0 (fun _ => true) true t v d ps) :
  ∃ l : List Int, ∃ p c, v = .slice p l.length c ∧ IntsAt w v l := by
 obtain ⟨a0, len, cap, rfl⟩ := okWide_slice ht hval
 obtain ⟨fuel, hf⟩ := h
 rcases open_ints ht he hc hf with ⟨hcs, _⟩ | ⟨a, len', cap', zs, hcs, _, hl, hm, hz, _, hcell, _⟩
 ·simp [Value.cells] at hcs
  obtain ⟨rfl, rfl, rfl⟩ := hcs
  exact ⟨[], none, 0, rfl, .inl ⟨rfl, rfl⟩⟩
 ·simp [Value.cells] at hcs
  obtain ⟨rfl, rfl, rfl⟩ := hcs
  have hz' : zs.length = cap := by simpa using hz
  refine ⟨zs.take len, some a, cap, by simp; omega, .inr ⟨a, cap, by simp; omega, by simp; omega, hm, fun i hi => ?_⟩⟩
  simp at hi
  rw [hcell i (by omega)]
  simp [List.getD_eq_getElem?_getD, List.getElem?_eq_getElem (show i < zs.length by omega)]
end
end Go.Proofs.YtgpdcapnnejdeaaGreat
end
section
set_option linter.unusedSimpArgs false
namespace Go.Proofs.YtgpdcapnnejdeaaGreat
set_option maxRecDepth 100000
open Go.RowKit

theorem refmay_any (c : Conf) (w : World) :
  Calls Tryz.prog 43 #[cf c] w fun e w' => e = .returned (.bool ((st22 c).getD ⟨#[]⟩).toList.isEmpty) ∧ w.grownBy w' none := by
 have h0 := boxc_new w c
 have H0 := hid h0; clear h0
 have hw := refwrong_any c
 obtain ⟨s, hs⟩ : ∃ s, s = (st22 c).getD ⟨#[]⟩ := ⟨_, rfl⟩
 rw [← hs] at hw ⊢
 clear hs
 go_enter Tryz.func43, Tryz.ntmps43
 go_wp2_with (refine wpList_conf H0.out.box rfl rfl rfl rfl ?_)
 refine (hw _).mono ?_
 rintro e w1 ⟨rfl, hg⟩
 have G1 := hid hg; clear hg
 go_wp2_with fail
 go_ret
 exact ⟨rfl, gb_trans (gb_alloc (.refl w none) _) G1.out (.inl rfl)⟩
end Go.Proofs.YtgpdcapnnejdeaaGreat
end
