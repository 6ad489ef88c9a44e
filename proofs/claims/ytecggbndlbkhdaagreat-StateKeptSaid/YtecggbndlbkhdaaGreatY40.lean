/-
  The reader of numbers: how many items follow; flags. The condition: the reader lies there, the bytes read.
  The reader of numbers: a list. The condition: the reader lies there, the bytes read, and are not many.
  Contract for package state: one collector's numbers are read and set. The condition: the state lies there, and the reader.
-/
import Derived.Test.YtecggbndlbkhdaaGreatJ0
import Derived.Test.YtecggbndlbkhdaaGreatY39
import Derived.Test.YtecggbndlbkhdaaGreatY3
import Derived.Test.YtecggbndlbkhdaaGreatNRpC
import Derived.Deep.RegionHeld3
section
set_option linter.unusedSimpArgs false
set_option linter.unusedVariables false
namespace Go.Proofs.YtecggbndlbkhdaaGreat
set_option maxRecDepth 100000
open Go.RowKit

theorem u64_nx (B : List UInt8) : IntKind.u64.wrap (nx B) = q (nxW B) := by rw [u64_w64, nx, w64_biN]
/-- how many items follow, of k numbers each -/
def itN (B : List UInt8) (k : Nat) : Nat := min (nxW B).toNat ((B.drop 8).length / (8 * k))
theorem isset_any (x : Int) (w : World) : Calls Tryz.prog 267 #[.int .i64 x] w fun e w' => e = .returned (.bool (x == 1)) ∧ w = w' := by
  go_enter Tryz.func267, Tryz.ntmps267
  go_wp2_with fail
  go_ret
  exact ⟨rfl, rfl⟩
set_option maxHeartbeats 1600000 in
theorem items1 {w W : World} {rb : Nat} {B : List UInt8} (h : RdK w rb B W) :
    Calls Tryz.prog 271 #[.pointer (some ⟨rb, 0, none⟩), .int .i64 1] W fun e W' => e = .returned (.int .i64 (itN B 1 : Nat)) ∧ RdK w rb (B.drop 8) W' ∧ Chg [rb] W W' := by
  have NX := hid (sunext_any h)
  have hu := u64_nx B
  have hq := (nxW B).isLt
  obtain ⟨Q, hQ⟩ : ∃ Q, (nxW B).toNat = Q := ⟨_, rfl⟩
  have eq1 : q (nxW B) = (Q : Int) := by unfold q; rw [hQ]
  rw [hQ] at hq
  have hle : (B.drop 8).length ≤ 9223372036854775807 := by
    obtain ⟨v, _, hb⟩ := h.obj
    have := hb.le
    unfold maxLen at this
    rw [List.length_drop]; omega
  have HI := hid (show itN B 1 = min Q ((B.drop 8).length / 8) by unfold itN; rw [hQ])
  rw [eq1] at hu
  clear h eq1 hQ
  obtain ⟨m, hm⟩ : ∃ m, (B.drop 8).length = m := ⟨_, rfl⟩
  rw [hm] at hle HI
  have HM := hid hm
  obtain ⟨z, hz⟩ : ∃ z, nx B = z := ⟨_, rfl⟩
  rw [hz] at hu NX
  rw [HI.out]
  have t1 : Int.tdiv (m : Int) 8 = ((m / 8 : Nat) : Int) := by rw [Int.tdiv_eq_ediv_of_nonneg (by omega)]; omega
  obtain ⟨D, hD⟩ : ∃ D, m / 8 = D := ⟨_, rfl⟩
  rw [hD] at t1
  have hDm : D ≤ m := by omega
  have t2 : IntKind.i64.wrap (D : Int) = (D : Int) := IntWalk.i64_in _ (by omega)
  have t3 : IntKind.u64.wrap (D : Int) = (D : Int) := by simp [IntKind.wrap, IntKind.bits, IntKind.signed]; omega
  have t4 : min (Q : Int) (D : Int) = ((min Q D : Nat) : Int) := by omega
  have t5 : IntKind.i64.wrap ((min Q D : Nat) : Int) = ((min Q D : Nat) : Int) := IntWalk.i64_in _ (by omega)
  rw [hD]
  obtain ⟨E, hE⟩ : ∃ E, min Q D = E := ⟨_, rfl⟩
  rw [hE] at t4 t5 ⊢
  clear hm hz HI hD hE
  go_enter Tryz.func271, Tryz.ntmps271
  go_wp2_with fail
  refine NX.out.mono ?_
  rintro e W1 ⟨rfl, hr, hc⟩
  obtain ⟨v, hv, hb⟩ := hr.obj
  have HR := hid hr; have HC := hid hc
  obtain ⟨p, c, rfl⟩ := hb.form
  have c0 := at_cell hv 0
  rw [HM.out] at c0
  clear hr hc hv hb NX hq
  go_wp2_with fail
  go_ret
  exact ⟨rfl, HR.out, HC.out⟩
set_option maxHeartbeats 1600000 in
theorem items4 {w W : World} {rb : Nat} {B : List UInt8} (h : RdK w rb B W) :
    Calls Tryz.prog 271 #[.pointer (some ⟨rb, 0, none⟩), .int .i64 4] W fun e W' => e = .returned (.int .i64 (itN B 4 : Nat)) ∧ RdK w rb (B.drop 8) W' ∧ Chg [rb] W W' := by
  have NX := hid (sunext_any h)
  have hu := u64_nx B
  have hq := (nxW B).isLt
  obtain ⟨Q, hQ⟩ : ∃ Q, (nxW B).toNat = Q := ⟨_, rfl⟩
  have eq1 : q (nxW B) = (Q : Int) := by unfold q; rw [hQ]
  rw [hQ] at hq
  have hle : (B.drop 8).length ≤ 9223372036854775807 := by
    obtain ⟨v, _, hb⟩ := h.obj
    have := hb.le
    unfold maxLen at this
    rw [List.length_drop]; omega
  have HI := hid (show itN B 4 = min Q ((B.drop 8).length / 32) by unfold itN; rw [hQ])
  rw [eq1] at hu
  clear h eq1 hQ
  obtain ⟨m, hm⟩ : ∃ m, (B.drop 8).length = m := ⟨_, rfl⟩
  rw [hm] at hle HI
  have HM := hid hm
  obtain ⟨z, hz⟩ : ∃ z, nx B = z := ⟨_, rfl⟩
  rw [hz] at hu NX
  rw [HI.out]
  have t1 : Int.tdiv (m : Int) 32 = ((m / 32 : Nat) : Int) := by rw [Int.tdiv_eq_ediv_of_nonneg (by omega)]; omega
  obtain ⟨D, hD⟩ : ∃ D, m / 32 = D := ⟨_, rfl⟩
  rw [hD] at t1
  have hDm : D ≤ m := by omega
  have t2 : IntKind.i64.wrap (D : Int) = (D : Int) := IntWalk.i64_in _ (by omega)
  have t3 : IntKind.u64.wrap (D : Int) = (D : Int) := by simp [IntKind.wrap, IntKind.bits, IntKind.signed]; omega
  have t4 : min (Q : Int) (D : Int) = ((min Q D : Nat) : Int) := by omega
  have t5 : IntKind.i64.wrap ((min Q D : Nat) : Int) = ((min Q D : Nat) : Int) := IntWalk.i64_in _ (by omega)
  rw [hD]
  obtain ⟨E, hE⟩ : ∃ E, min Q D = E := ⟨_, rfl⟩
  rw [hE] at t4 t5 ⊢
  clear hm hz HI hD hE
  go_enter Tryz.func271, Tryz.ntmps271
  go_wp2_with fail
  refine NX.out.mono ?_
  rintro e W1 ⟨rfl, hr, hc⟩
  obtain ⟨v, hv, hb⟩ := hr.obj
  have HR := hid hr; have HC := hid hc
  obtain ⟨p, c, rfl⟩ := hb.form
  have c0 := at_cell hv 0
  rw [HM.out] at c0
  clear hr hc hv hb NX hq
  go_wp2_with fail
  go_ret
  exact ⟨rfl, HR.out, HC.out⟩
set_option maxHeartbeats 1600000 in
theorem items8 {w W : World} {rb : Nat} {B : List UInt8} (h : RdK w rb B W) :
    Calls Tryz.prog 271 #[.pointer (some ⟨rb, 0, none⟩), .int .i64 8] W fun e W' => e = .returned (.int .i64 (itN B 8 : Nat)) ∧ RdK w rb (B.drop 8) W' ∧ Chg [rb] W W' := by
  have NX := hid (sunext_any h)
  have hu := u64_nx B
  have hq := (nxW B).isLt
  obtain ⟨Q, hQ⟩ : ∃ Q, (nxW B).toNat = Q := ⟨_, rfl⟩
  have eq1 : q (nxW B) = (Q : Int) := by unfold q; rw [hQ]
  rw [hQ] at hq
  have hle : (B.drop 8).length ≤ 9223372036854775807 := by
    obtain ⟨v, _, hb⟩ := h.obj
    have := hb.le
    unfold maxLen at this
    rw [List.length_drop]; omega
  have HI := hid (show itN B 8 = min Q ((B.drop 8).length / 64) by unfold itN; rw [hQ])
  rw [eq1] at hu
  clear h eq1 hQ
  obtain ⟨m, hm⟩ : ∃ m, (B.drop 8).length = m := ⟨_, rfl⟩
  rw [hm] at hle HI
  have HM := hid hm
  obtain ⟨z, hz⟩ : ∃ z, nx B = z := ⟨_, rfl⟩
  rw [hz] at hu NX
  rw [HI.out]
  have t1 : Int.tdiv (m : Int) 64 = ((m / 64 : Nat) : Int) := by rw [Int.tdiv_eq_ediv_of_nonneg (by omega)]; omega
  obtain ⟨D, hD⟩ : ∃ D, m / 64 = D := ⟨_, rfl⟩
  rw [hD] at t1
  have hDm : D ≤ m := by omega
  have t2 : IntKind.i64.wrap (D : Int) = (D : Int) := IntWalk.i64_in _ (by omega)
  have t3 : IntKind.u64.wrap (D : Int) = (D : Int) := by simp [IntKind.wrap, IntKind.bits, IntKind.signed]; omega
  have t4 : min (Q : Int) (D : Int) = ((min Q D : Nat) : Int) := by omega
  have t5 : IntKind.i64.wrap ((min Q D : Nat) : Int) = ((min Q D : Nat) : Int) := IntWalk.i64_in _ (by omega)
  rw [hD]
  obtain ⟨E, hE⟩ : ∃ E, min Q D = E := ⟨_, rfl⟩
  rw [hE] at t4 t5 ⊢
  clear hm hz HI hD hE
  go_enter Tryz.func271, Tryz.ntmps271
  go_wp2_with fail
  refine NX.out.mono ?_
  rintro e W1 ⟨rfl, hr, hc⟩
  obtain ⟨v, hv, hb⟩ := hr.obj
  have HR := hid hr; have HC := hid hc
  obtain ⟨p, c, rfl⟩ := hb.form
  have c0 := at_cell hv 0
  rw [HM.out] at c0
  clear hr hc hv hb NX hq
  go_wp2_with fail
  go_ret
  exact ⟨rfl, HR.out, HC.out⟩
end Go.Proofs.YtecggbndlbkhdaaGreat
end
section
set_option linter.unusedSimpArgs false
set_option linter.unusedVariables false
namespace Go.Proofs.YtecggbndlbkhdaaGreat
set_option maxRecDepth 100000
open Go.RowKit

theorem mk_numsE (n : Nat) (hn : n ≤ 1000000) (u : World) : (Instr.makeSlice 22 (.int .i64 (n : Int)) (.int .i64 (n : Int))).run Tryz.prog u = .ok (.slice (some ⟨u.heap.size, 0, none⟩) n n) (u.alloc (.cells (Array.replicate n (iv 0)) 3)) := by
  obtain ⟨i, hi, hz0, hz1, hz2⟩ := info_parts info_num
  have := run_makeSlice (P := Tryz.prog) u 22 3 i _ Tryz.underlying22 hi hz0 .i64 .i64 (n : Int) (n : Int) (by omega) (Int.le_refl _) (by rw [hz1]; omega) (by rw [hz2]; omega) (by omega)
  rw [this, hz1]
  simp [list_made, iv, Value.cells]
/-- the numbers that follow, as many -/
def nxs (B : List UInt8) (k : Nat) : List Int := (List.range k).map fun i => nx (B.drop (8 * i))
theorem nxs_len (B : List UInt8) (k : Nat) : (nxs B k).length = k := by unfold nxs; rw [List.length_map, List.length_range]
theorem nxs_at (B : List UInt8) {k i : Nat} (h : i < k) : (nxs B k)[i]? = some (nx (B.drop (8 * i))) := by
  unfold nxs
  rw [List.getElem?_map, List.getElem?_range h]; rfl
set_option maxHeartbeats 1600000 in
theorem rdlist_any {w W : World} {rb : Nat} {B : List UInt8} (h : RdK w rb B W) (hlen : B.length ≤ 1000000) :
    Calls Tryz.prog 268 #[.pointer (some ⟨rb, 0, none⟩)] W fun e W' => ∃ v, e = .returned v ∧ OwnN W.heap.size W' v (nxs (B.drop 8) (itN B 1)) ∧ RdK w rb ((B.drop 8).drop (8 * itN B 1)) W' ∧ Chg [rb] W W' := by
  have IT := hid (items1 h)
  have hE : itN B 1 ≤ 1000000 := by unfold itN; rw [List.length_drop]; omega
  obtain ⟨E, he⟩ : ∃ E, itN B 1 = E := ⟨_, rfl⟩
  rw [he] at IT hE ⊢
  have hrb : rb < W.heap.size := by obtain ⟨v, h1, _⟩ := h.obj; exact at_lt h1
  have HRB := hid hrb
  obtain ⟨B1, hB1⟩ : ∃ B1, B.drop 8 = B1 := ⟨_, rfl⟩
  rw [hB1] at IT ⊢
  obtain ⟨vs, hvs⟩ : ∃ vs, nxs B1 E = vs := ⟨_, rfl⟩
  have HVS := hid (show ∀ k, k < E → vs[k]? = some (nx (B1.drop (8 * k))) from fun k hk => by rw [← hvs]; exact nxs_at B1 hk)
  have HVL := hid (show vs.length = E by rw [← hvs]; exact nxs_len B1 E)
  rw [hvs]
  have hmk := mk_numsE E hE
  clear h he hlen hrb hB1 hvs
  go_enter Tryz.func268, Tryz.ntmps268
  go_wp2_with fail
  refine IT.out.mono ?_
  rintro e W1 ⟨rfl, hr, hc⟩
  have B0 := hid (at_new W1 (.cells (Array.replicate E (iv 0)) 3))
  have R1 := hid (hr.grown (World.grownBy_alloc W1 (.cells (Array.replicate E (iv 0)) 3) none))
  have C1 := hid (hc.alloc (.cells (Array.replicate E (iv 0)) 3))
  have LO := hid hc.size
  clear hr hc IT
  go_wp2_with fail
  generalize W1.alloc (.cells (Array.replicate E (iv 0)) 3) = W2 at *
  generalize W1.heap.size = mb at *
  rw [rep_iv, ← HVL.out, ← fillI_zero] at B0
  go_loopw [10] (fun i wr => ∃ (k : Nat), k ≤ E ∧ i = .int .i64 (k : Int) ∧ wr.heap[mb]? = some (.cells ((fillI vs k).map iv).toArray 3) ∧ RdK w rb (B1.drop (8 * k)) wr ∧ Chg [rb] W wr)
    (fun i _ => E - (intOf i).toNat)
  case atStart => exact ⟨0, Nat.zero_le _, rfl, B0.out, R1.out, C1.out⟩
  case round =>
    obtain ⟨k, hk, rfl, hbl, hr, hc⟩ := hrel
    have HBL := hid hbl; have HR := hid hr; have HC := hid hc
    clear hbl hr hc
    by_cases hlt : k < E
    · have NX := hid (sunext_any HR.out)
      have NS := hid (show (B1.drop (8 * k)).drop 8 = B1.drop (8 * (k + 1)) by rw [List.drop_drop]; congr 1)
      rw [NS.out] at NX
      go_wp2_with fail
      refine NX.out.mono ?_
      rintro e W3 ⟨rfl, hr, hc⟩
      have hb3 := hc.at HBL.out (by have h1 := HRB.out; have h2 := LO.out; simp; omega)
      have ck := blk_at hb3 (fillI_at (vs := vs) (k := k) (by rw [HVL.out]; exact hlt))
      have fk := at_free hb3 k
      have NB := hid (blk_set hb3 (fillI_set (HVS.out k hlt)))
      have hs : Chg [mb] W3 (W3.setCell ⟨mb, k, none⟩ (.int .i64 (nx (B1.drop (8 * k))))) := (chg_refl W3 _).set (.inl (by simp)) _
      have NR := hid (hr.chg hs (fun x hx => by have h1 := HRB.out; have h2 := LO.out; have h3 := hr.lo; rw [List.mem_singleton.1 hx]; omega))
      have NC := hid ((HC.out.then hc).trans hs (fun x hx => .inr (by rw [List.mem_singleton.1 hx]; exact LO.out)))
      clear hr hc hb3 NX HBL HR HC hs
      go_wp2_with fail
      go_roundw
      case rel => exact ⟨k + 1, by omega, by go_num, NB.out, NR.out, NC.out⟩
      case measure => simp [intOf]; omega
    · obtain rfl : k = E := by omega
      have hb := HBL.out
      rw [← HVL.out, fillI_all] at hb
      have HO := hid (show OwnN W.heap.size wr (.slice (some ⟨mb, 0, none⟩) vs.length vs.length) vs from ⟨by simp, .inr ⟨mb, vs.length, _, rfl, LO.out, hb, Nat.le_refl _, by rw [HVL.out]; unfold maxLen; omega, by simp, by simp [List.take_of_length_le]⟩⟩)
      rw [HVL.out] at HO
      clear hb HBL
      go_wp2_with fail
      go_ret
      exact ⟨_, rfl, HO.out, HR.out, HC.out⟩
end Go.Proofs.YtecggbndlbkhdaaGreat
end
section
set_option linter.unusedSimpArgs false
set_option linter.unusedVariables false
namespace Go.Proofs.YtecggbndlbkhdaaGreat
set_option maxRecDepth 100000
open Go.RowKit

/-- a state that is read, beside the reader -/
def GcK (w : World) (rb : Nat) (X : SBl) (c : Conf) (s : Ste) (B : List UInt8) (W : World) : Prop := StAt W X c s ∧ RdK w rb B W
/-- all of it is the call's own -/
def Own19 (w : World) (rb : Nat) (X : SBl) : Prop := ∀ x ∈ X.all, w.heap.size ≤ x ∧ x ≠ rb
def Sc.setH (s : Sc) (k : Nat) (a c : Int) (o : Bool) : Sc := match cntOf s.st s.pr a c o with | some z => s.put k (o, z) | none => s
theorem scset_any {s : Sc} {b hb : Nat} {w : World} (h : ScAt s b hb w) (k : Nat) (hk : k < s.H.length) (a c : Int) (o : Bool) :
    Calls Tryz.prog 266 #[.pointer (some ⟨b, 0, none⟩), .int .i64 (k : Int), .agg #[.int .i64 a, .int .i64 c, .bool o]] w fun e w' => (∃ z, e = .returned (.int .i64 z)) ∧ ScAt (s.setH k a c o) b hb w' ∧ Chg [hb] w w' := by
  unfold Sc.setH
  cases hz : cntOf s.st s.pr a c o with
  | none => exact (set_bad h k hk a c o hz).mono fun e w' ⟨h1, hg⟩ => ⟨⟨_, h1⟩, h.grown hg, chg_grown hg _⟩
  | some z => exact (set_in h k _ (List.getElem?_eq_getElem hk) a c o z hz).mono fun e w' ⟨h1, h2, h3⟩ => ⟨⟨_, h1⟩, h2, h3⟩
section
variable {w W W' : World} {rb : Nat} {X : SBl} {c : Conf} {s s' : Ste} {B : List UInt8} {F : List Nat} {i : Nat}
theorem GcK.grown (h : GcK w rb X c s B W) (hg : W.grownBy W' none) : GcK w rb X c s B W' := ⟨h.1.grown hg, h.2.grown hg⟩
theorem GcK.drew (h : GcK w rb X c s B W) : GcK w rb X c s B W.drew := ⟨h.1.drew, h.2.drew⟩
theorem GcK.step (h : GcK w rb X c s B W) (hn : Own19 w rb X) (ht : StAt W' X c s') (hc : Chg F W W') (hF : ∀ x ∈ F, x ∈ X.all) : GcK w rb X c s' B W' := ⟨ht, h.2.chg hc fun x hx => hn x (hF x hx)⟩
theorem GcK.next (h : GcK w rb X c s B W) (hn : Own19 w rb X) :
    Calls Tryz.prog 175 #[.pointer (some ⟨rb, 0, none⟩)] W fun e W' => e = .returned (.int .i64 (nx B)) ∧ GcK w rb X c s (B.drop 8) W' :=
  (sunext_any h.2).mono fun e W' ⟨h1, h2, h3⟩ => ⟨h1, h.1.chg h3 fun x hx hm => (hn x hx).2 (List.mem_singleton.1 hm), h2⟩
theorem GtAt.ringSame {F : List Nat} {B : GBl} {G : Gt} (K : GtAt W F B G) (hi : i < G.r.n) (R : RgAt W' B.rb B.rh G.r) (hc : Chg [B.rh] W W') : GtAt W' F B G := by
  have e : G.r.put i (G.r.gen i) (G.r.since i) = G.r := by
    unfold Rg.put
    have e1 : (fun j => if j = i then G.r.gen i else G.r.gen j) = G.r.gen := funext fun j => by split <;> simp [*]
    have e2 : (fun j => if j = i then G.r.since i else G.r.since j) = G.r.since := funext fun j => by split <;> simp [*]
    rw [e1, e2]
  have := K.rung (i := i) (g := G.r.gen i) (s := G.r.since i) (by rw [e]; exact R) hc
  rw [e] at this
  exact this
theorem Rg.set_n (r : Rg) (a b d : Int) : (r.set a b d).2.n = r.n := by unfold Rg.set Rg.put; (repeat' split) <;> rfl
/-- the gate's own blocks -/
theorem StAt.gateSame (h : StAt W X c s) {G : Gt} (hg : GtAt W' X.F X.g G) (hc : Chg X.F W W') : StAt W' X c { s with g := G } := by
  have n : ∀ {x : Nat}, X.o x ≠ 1 → x ∉ X.F := fun hx hm => hx (h.og _ hm)
  exact ⟨hc.at h.row (n (by rw [h.ob]; decide)), hg, h.table.chg hc (n (by rw [h.ot.1]; decide)) (n (by rw [h.ot.2]; decide)), h.score.chg hc (n (by rw [h.os.1]; decide)) (n (by rw [h.os.2]; decide)), h.law.chg hc fun x hx => n (by rw [h.ol x hx]; decide),
    h.decs.chg hc fun g hg => n (by rw [h.od g hg]; decide), h.ob, h.og, h.ot, h.os, h.ol, h.od⟩
theorem GcK.ring (h : GcK w rb X c s B W) (hn : Own19 w rb X) (hi : i < s.g.r.n) {g n : Int} (hr : RgAt W' X.g.rb X.g.rh (s.g.r.set (i : Int) g n).2) (hc : Chg [X.g.rh] W W') : GcK w rb X c { s with g := { s.g with r := (s.g.r.set (i : Int) g n).2 } } B W' := by
  have hF : ∀ x ∈ [X.g.rh], x ∈ X.F := fun x hx => by rw [List.mem_singleton.1 hx]; exact h.1.gate.mrh
  refine h.step hn ?_ hc fun x hx => X.mF (hF x hx)
  refine h.1.gateSame ?_ (hc.more hF)
  unfold Rg.set at hr ⊢
  rw [if_pos (by omega)] at hr ⊢
  split
  · next h1 => rw [if_pos h1] at hr; exact h.1.gate.rung hr hc
  · next h1 =>
    rw [if_neg h1] at hr
    exact h.1.gate.ringSame hi hr hc
theorem GcK.now (h : GcK w rb X c s B W) (hn : Own19 w rb X) (hi : i < s.g.r.n) {t : Int} {x : BitVec 64} (hr : RpAt W' (X.g.A i) ((s.g.now i).set t x).2) (hc : Chg [X.g.A i] W W') : GcK w rb X c { s with g := { s.g with now := fun j => if j = i then ((s.g.now i).set t x).2 else s.g.now j } } B W' := by
  have hF : ∀ x ∈ [X.g.A i], x ∈ X.F := fun x hx => by rw [List.mem_singleton.1 hx]; exact h.1.gate.ma i hi
  refine h.step hn (h.1.gateSame (h.1.gate.tookNow hi hr ?_ hc) (hc.more hF)) hc fun x hx => X.mF (hF x hx)
  rw [← h.1.gate.ok.nw i]; unfold Rp.set; split <;> rfl
theorem GcK.old (h : GcK w rb X c s B W) (hn : Own19 w rb X) (hi : i < s.g.r.n) {t : Int} {x : BitVec 64} (hr : RpAt W' (X.g.O i) ((s.g.old i).set t x).2) (hc : Chg [X.g.O i] W W') : GcK w rb X c { s with g := { s.g with old := fun j => if j = i then ((s.g.old i).set t x).2 else s.g.old j } } B W' := by
  have hF : ∀ x ∈ [X.g.O i], x ∈ X.F := fun x hx => by rw [List.mem_singleton.1 hx]; exact h.1.gate.mo i hi
  refine h.step hn (h.1.gateSame (h.1.gate.tookOld hi hr ?_ hc) (hc.more hF)) hc fun x hx => X.mF (hF x hx)
  rw [← h.1.gate.ok.ow i]; unfold Rp.set; split <;> rfl
end
/-- one collector's numbers set, as they are read -/
def Ste.setCo (s : Ste) (i : Nat) (B : List UInt8) : Ste :=
  { s with
    g := { s.g with
      r := (s.g.r.set (i : Int) (nx B) (nx (B.drop 8))).2
      now := fun j => if j = i then ((s.g.now i).set (nx (B.drop 16)) (nxW (B.drop 24))).2 else s.g.now j
      old := fun j => if j = i then ((s.g.old i).set (nx (B.drop 32)) (nxW (B.drop 40))).2 else s.g.old j }
    s := s.s.setH i (nx (B.drop 48)) (nx (B.drop 56)) (nx (B.drop 64) == 1) }
set_option maxHeartbeats 3200000 in
theorem getco_any {w W : World} {rb : Nat} {X : SBl} {c : Conf} {s : Ste} {B : List UInt8} (h : GcK w rb X c s B W) (hn : Own19 w rb X) (i : Nat) (hi : i < s.g.r.n) (hi2 : i < s.s.H.length) :
    Calls Tryz.prog 176 #[.pointer (some ⟨X.b, 0, none⟩), .pointer (some ⟨rb, 0, none⟩), .int .i64 (i : Int)] W fun e W' => e = .returned (.tuple #[]) ∧ GcK w rb X c (s.setCo i B) (B.drop 72) W' := by
  have T0 := hid h; have HN := hid hn; have HI := hid hi; have HSI := hid hi2
  have HI2 := hid (show i < (s.g.r.set (i : Int) (nx B) (nx (B.drop 8))).2.n by rw [Rg.set_n]; exact hi)
  obtain ⟨nw, hnw⟩ : ∃ nw, s.now = nw := ⟨_, rfl⟩
  have HNW := hid hnw
  clear h hn hi hi2 hnw
  go_enter Tryz.func176, Tryz.ntmps176
  obtain ⟨-, c27, -⟩ := T0.out.1.cells
  go_wp2_with fail
  refine (gring_any _ T0.out.1.gate).mono ?_
  rintro e w2 ⟨rfl, rfl⟩
  clear c27
  go_wp2_with fail
  refine (T0.out.next HN.out).mono ?_
  rintro e V1 ⟨rfl, hT⟩
  have T1 := hid hT
  clear hT T0
  go_wp2_with fail
  refine (T1.out.next HN.out).mono ?_
  rintro e V2 ⟨rfl, hT⟩
  rw [List.drop_drop] at hT
  have T2 := hid hT
  clear hT T1
  go_wp2_with fail
  refine (rset_any (i : Int) (nx B) (nx (B.drop 8)) _ T2.out.1.gate.ring).mono ?_
  rintro e V3 ⟨rfl, hr, hc⟩
  have T3 := hid (T2.out.ring HN.out HI.out hr hc)
  clear hr hc T2
  obtain ⟨-, c27, -⟩ := T3.out.1.cells
  go_wp2_with fail
  refine (greplay_in i _ T3.out.1.gate HI2.out).mono ?_
  rintro e V4 ⟨rfl, hg⟩
  have T4 := hid (T3.out.grown hg)
  clear hg c27 T3
  go_wp2_with fail
  refine (T4.out.next HN.out).mono ?_
  rintro e V5 ⟨rfl, hT⟩
  rw [List.drop_drop] at hT
  have T5 := hid hT
  clear hT T4
  go_wp2_with fail
  refine (T5.out.next HN.out).mono ?_
  rintro e V6 ⟨rfl, hT⟩
  rw [List.drop_drop] at hT
  have T6 := hid hT
  clear hT T5
  have hcv := u64_nx (B.drop 24)
  go_wp2_with fail
  refine (pset_any (nx (B.drop 16)) (nxW (B.drop 24)) _ (T6.out.1.gate.now i HI2.out)).mono ?_
  rintro e V7 ⟨rfl, hr, hc⟩
  have T7 := hid (T6.out.now HN.out HI2.out hr hc)
  clear hr hc T6 hcv
  obtain ⟨-, c27, -⟩ := T7.out.1.cells
  go_wp2_with fail
  refine (gold_in i _ T7.out.1.gate HI2.out).mono ?_
  rintro e V8 ⟨rfl, hg⟩
  have T8 := hid (T7.out.grown hg)
  clear hg c27 T7
  go_wp2_with fail
  refine (T8.out.next HN.out).mono ?_
  rintro e V9 ⟨rfl, hT⟩
  rw [List.drop_drop] at hT
  have T9 := hid hT
  clear hT T8
  go_wp2_with fail
  refine (T9.out.next HN.out).mono ?_
  rintro e V10 ⟨rfl, hT⟩
  rw [List.drop_drop] at hT
  have T10 := hid hT
  clear hT T9
  have hcv := u64_nx (B.drop 40)
  go_wp2_with fail
  refine (pset_any (nx (B.drop 32)) (nxW (B.drop 40)) _ (T10.out.1.gate.old i HI2.out)).mono ?_
  rintro e V11 ⟨rfl, hr, hc⟩
  have T11 := hid (T10.out.old HN.out HI2.out hr hc)
  clear hr hc T10 hcv
  go_upto_region 3 with fail
  have T := hid (T11.out.drew)
  clear T11
  have RX := hid (show V11.drew.heap[X.b]? = some (.cells (suCells c nw X) 132) from by rw [← HNW.out]; exact T.out.1.row)
  refine wp_region_last (S := (fun w' => (w'.heap[X.b]? = some (.cells (suCells c nw X) 132)))) 13 13 #[false, false, false, false, false, false, false, false, false, false, false, false, false, true] (by kernel_rfl) (by kernel_rfl) (by kernel_rfl) (by kernel_rfl) RX.out (fun hHeld => ?_)
  try dsimp only at hHeld
  refine jU 0 hHeld ?_
  try simp only [jX, jD, jE, jF]
  refine jU 1 hHeld ?_
  try simp only [jX, jD, jE, jF]
  refine jU 2 hHeld ?_
  try simp only [jX, jD, jE, jF]
  refine' jT 3 rfl (by rfl) ?_ hHeld ?_
  rotate_left
  · (intro w hSw; (try dsimp only at hSw); have R := hSw; have c29 := at_cell R 29; go_simp; try with_reducible rfl)
  try simp only [jX, jD, jE, jF]
  refine jU 4 hHeld ?_
  try simp only [jX, jD, jE, jF]
  refine jU 5 hHeld ?_
  try simp only [jX, jD, jE, jF]
  refine jU 7 hHeld ?_
  try simp only [jX, jD, jE, jF]
  refine jU 9 hHeld ?_
  try simp only [jX, jD, jE, jF]
  refine jR [6] ?_
  refine jG rfl (fun K hK => ?_) AllReadyH.nil
  try simp only [jD, jE, jF]
  go_simp
  have hH2 := hHeld
  have R := hH2
  refine ((T.out.next HN.out)).mono ?_
  rintro e w1006 ⟨rfl, hT⟩
  have R : w1006.heap[X.b]? = some (.cells (suCells c nw X) 132) := by rw [← HNW.out]; exact hT.1.row
  rw [List.drop_drop] at hT
  replace T := hid hT
  clear hT
  have hg := True.intro
  have L6 := hid (show (w1006.heap[X.b]? = some (.cells (suCells c nw X) 132)) from R)
  clear hHeld hg R
  go_wp2_with fail
  refine hK.out _ _ ?_ (fun hHeld => ?_)
  · exact L6.out
  clear hK K
  try dsimp only at hHeld
  try simp only [jX, jD, jE, jF]
  refine jR [8] ?_
  refine jG rfl (fun K hK => ?_) AllReadyH.nil
  try simp only [jD, jE, jF]
  go_simp
  have hH2 := hHeld
  have R := hH2
  refine ((T.out.next HN.out)).mono ?_
  rintro e w1008 ⟨rfl, hT⟩
  have R : w1008.heap[X.b]? = some (.cells (suCells c nw X) 132) := by rw [← HNW.out]; exact hT.1.row
  rw [List.drop_drop] at hT
  replace T := hid hT
  clear hT
  have hg := True.intro
  have L8 := hid (show (w1008.heap[X.b]? = some (.cells (suCells c nw X) 132)) from R)
  clear hHeld hg R
  go_wp2_with fail
  refine hK.out _ _ ?_ (fun hHeld => ?_)
  · exact L8.out
  clear hK K
  try dsimp only at hHeld
  try simp only [jX, jD, jE, jF]
  refine jR [10] ?_
  refine jG rfl (fun K hK => ?_) AllReadyH.nil
  try simp only [jD, jE, jF]
  go_simp
  have hH2 := hHeld
  have R := hH2
  refine ((T.out.next HN.out)).mono ?_
  rintro e w1010 ⟨rfl, hT⟩
  have R : w1010.heap[X.b]? = some (.cells (suCells c nw X) 132) := by rw [← HNW.out]; exact hT.1.row
  rw [List.drop_drop] at hT
  replace T := hid hT
  clear hT
  have hg := True.intro
  have L10 := hid (show (w1010.heap[X.b]? = some (.cells (suCells c nw X) 132)) from R)
  clear hHeld hg R
  go_wp2_with fail
  refine hK.out _ _ ?_ (fun hHeld => ?_)
  · exact L10.out
  clear hK K
  try dsimp only at hHeld
  try simp only [jX, jD, jE, jF]
  refine jR [11] ?_
  refine jG rfl (fun K hK => ?_) AllReadyH.nil
  try simp only [jD, jE, jF]
  go_simp
  have hH2 := hHeld
  have R := hH2
  refine ((grow_of (isset_any _ _))).mono ?_
  rintro e w1011 ⟨rfl, hg⟩
  replace T := hid (T.out.grown hg)
  have R := at_grown R hg (by simp)
  have L11 := hid (show (w1011.heap[X.b]? = some (.cells (suCells c nw X) 132)) from R)
  clear hHeld hg R
  go_wp2_with fail
  refine hK.out _ _ ?_ (fun hHeld => ?_)
  · exact L11.out
  clear hK K
  try dsimp only at hHeld
  try simp only [jX, jD, jE, jF]
  refine jU 12 hHeld ?_
  try simp only [jX, jD, jE, jF]
  refine wpAnyH_done (by kernel_rfl) ?_ _
  have R := hHeld
  clear R
  refine atLast_step (o := _) rfl (fun K hK => ?_)
  try simp only [jD, jE, jF]
  go_simp
  have SS := hid (scset_any T.out.1.score i HSI.out (nx (B.drop 48)) (nx (B.drop 56)) (nx (B.drop 64) == 1))
  refine SS.out.mono ?_
  rintro e W9 ⟨⟨z9, rfl⟩, hs, hc⟩
  have FN := hid (T.out.step HN.out (T.out.1.scoreNew hs hc) hc (fun x hx => by rw [List.mem_singleton.1 hx]; exact X.mt.2.2.2))
  clear hs hc SS T
  go_wp2_with fail
  refine hK.out _ _ ?_
  clear hK K
  try simp only [jX, jD, jE, jF]
  go_wp2_with fail
  go_end0
  exact ⟨rfl, FN.out⟩
end Go.Proofs.YtecggbndlbkhdaaGreat
end
