/-
  The document's own Replay: Take, Bits. The condition of a call: the object lies there.
-/
import Derived.Test.YtgpdcapnnejdeaaGreatY16
set_option linter.unusedSimpArgs false
set_option linter.unusedVariables false
namespace Go.Proofs.YtgpdcapnnejdeaaGreat
set_option maxRecDepth 100000
open Go.RowKit

theorem OwnI.slice {base : Nat} {w : World} {v : Value} {l : List Int} (h : OwnI base w v l) : ∃ p k c, v = .slice p k c := by
 obtain ⟨p, c, e⟩ := h.form
 exact ⟨p, _, c, e⟩
def LeavesQ (w : World) (b : Nat) (v : Value) (K : Nat) (k : Int × Rp) (e : Ending) (w' : World) : Prop :=
 e = .returned (.int .i64 k.1) ∧ ∃ v', RqAt w' b v' K k.2 ∧ Chg (b :: ownL v) w w' ∧ ∀ g, g ∈ ownL v' → g ∈ ownL v ∨ w.heap.size ≤ g
theorem leavesQ_same {w w' : World} {b K : Nat} {v : Value} {r : Rp} (c : Int) (H : RqAt w b v K r) (hg : w.grownBy w' none) (K' : Nat) (hK : K ≤ K') : LeavesQ w b v K' (c, r) (.returned (.int .i64 c)) w' :=
 ⟨rfl, v, (H.grown hg).more hK, chg_grown hg _, fun g h => .inl h⟩
theorem ownL_of {v v' : Value} {m : Nat} (h : v'.ownBlock = v.ownBlock ∨ v'.ownBlock = some m) : ∀ g, g ∈ ownL v' → g ∈ ownL v ∨ g = m := by
 intro g hg
 unfold ownL at hg ⊢
 rcases h with h | h
 ·rw [h] at hg; exact .inl hg
 ·rw [h] at hg; exact .inr (by simpa using hg)
theorem own_ne {v : Value} {b : Nat} (h : b ∉ ownL v) : some b ≠ v.ownBlock := by
 intro e
 exact h (by unfold ownL; rw [← e]; simp)
theorem chg_own {w w' : World} {v : Value} (h : w.grownBy w' v.ownBlock) : Chg (ownL v) w w' := by
 unfold ownL
 cases hv : v.ownBlock with
 | none => rw [hv] at h; exact chg_grown h _
 | some g => rw [hv] at h; exact chg_row h
theorem put_win (r : Rp) (n : Int) : (r.put n).win = r.win := by unfold Rp.put; split; all_goals rfl

theorem qtake_no {b K : Nat} {v : Value} {r : Rp} (n : Int) (w : World) (H : RqAt w b v K r) (hK : K ≤ 1000000) (hm : r.may n = false) :
  Calls Tryz.prog 67 #[.pointer (some ⟨b, 0, none⟩), .int .i64 n] w (LeavesQ w b v (K + 1) (6, r)) := by
 have H1 := qmay_any n w H hK
 rw [hm] at H1
 have H2 := hid H1
 have L := hid (fun w' hg => leavesQ_same (w' := w') 6 H hg (K + 1) (by omega))
 clear H H1 hm
 go_enter Tryz.func67, Tryz.ntmps67
 go_wp2_with fail
 refine H2.out.mono ?_
 rintro e w1 ⟨rfl, hg⟩
 have HG := hid hg; clear hg
 go_wp2_with fail
 go_ret
 exact L.out _ HG.out

theorem rq_appended {w w1 w2 : World} {b K : Nat} {v v' : Value} {r : Rp} {n : Int} {L : List Int} {o : Obj} {m : Int} (H : RqAt w1 b v K r) (hg0 : w.grownBy w1 none)
  (l2 : RqL L r) (l3 : L.length ≤ K) (hm : r.may n = true) (o1 : OwnI 0 w2 v' (L ++ [n])) (g1 : (w1.alloc o).grownBy w2 v.ownBlock) (a1 : v'.ownBlock = v.ownBlock ∨ v'.ownBlock = some (w1.alloc o).heap.size) (hmx : m = max r.top n) :
  LeavesQ w b v (K + 1) (0, r.put n) (.returned (.int .i64 0)) ((w2.setCell ⟨b, 2, none⟩ v').setCell ⟨b, 1, none⟩ (.int .i64 m)) := by
 have hl := H.lt
 have hb2 : w2.heap[b]? = some (.cells #[.int .i64 (r.win : Int), .int .i64 r.top, v] 70) := at_grown (at_alloc H.top _) g1 (own_ne H.nb)
 obtain ⟨h1, h2⟩ := rql_put l2 H.ok hm
 have hne : b ∉ ownL v' := fun h => by
  rcases ownL_of a1 b h with h | h
  ·exact H.nb h
  ·have := hl.1
   simp at h
   omega
 have hc2 : Chg [b] w2 ((w2.setCell ⟨b, 2, none⟩ v').setCell ⟨b, 1, none⟩ (.int .i64 m)) := ((chg_refl w2 [b]).set (.inl (by simp)) _).set (.inl (by simp)) _
 refine ⟨rfl, v', ⟨?_, ⟨L ++ [n], o1.chg hc2 (fun g hg => by simp; intro e; subst e; exact hne hg), h1, by simp; omega⟩, hne, H.ok.put hm⟩, ?_, fun g hg => ?_⟩
 ·have := at_set (at_set hb2 2 v') 1 (.int .i64 m)
  rw [this, h2, put_win, hmx]
  rfl
 ·have e1 : Chg (b :: ownL v) w (w1.alloc o) := (chg_grown hg0 _).alloc o
  have e2 : Chg (b :: ownL v) (w1.alloc o) w2 := (chg_own g1).more fun x hx => List.mem_cons_of_mem _ hx
  exact (e1.then e2).then (hc2.more fun x hx => by simp at hx; simp [hx])
 ·rcases ownL_of a1 g hg with h | h
  ·exact .inl h
  ·have := gb_size hg0
   exact .inr (by simp at h; omega)
set_option maxHeartbeats 1600000 in
theorem qtake_ok {b K : Nat} {v : Value} {r : Rp} (n : Int) (w : World) (H : RqAt w b v K r) (hK : K ≤ 999999) (hm : r.may n = true) :
  Calls Tryz.prog 67 #[.pointer (some ⟨b, 0, none⟩), .int .i64 n] w (LeavesQ w b v (K + 1) (0, r.put n)) := by
 have H1 := qmay_any n w H (by omega)
 rw [hm] at H1
 have H2 := hid H1
 have H0 := hid H
 have HM := hid hm
 clear H H1 hm
 go_enter Tryz.func67, Tryz.ntmps67
 go_wp2_with fail
 refine H2.out.mono ?_
 rintro e w1 ⟨rfl, hg⟩
 have HG := hid hg
 have H3 := hid (H0.out.grown hg)
 obtain ⟨c0, c1, c2, f1, f2⟩ := H3.out.tops
 obtain ⟨L, l1, l2, l3⟩ := H3.out.row
 obtain ⟨p, c, hv⟩ := l1.form
 subst hv
 have L1 := hid l1; have L2 := hid l2; have L3 := hid l3
 have hlen : L.length + 1 ≤ 1000000 := by omega
 have F : Hid (∀ w2 v' m, OwnI 0 w2 v' (L ++ [n]) → (w1.alloc (.cells #[.int .i64 n] 2)).grownBy w2 (Value.slice p L.length c).ownBlock → (v'.ownBlock = (Value.slice p L.length c).ownBlock ∨ v'.ownBlock = some (w1.alloc (.cells #[.int .i64 n] 2)).heap.size) → m = max r.top n → LeavesQ w b (.slice p L.length c) (K + 1) (0, r.put n) (.returned (.int .i64 0)) ((w2.setCell ⟨b, 2, none⟩ v').setCell ⟨b, 1, none⟩ (.int .i64 m))) :=
  hid fun w2 v' m o1 g1 a1 hmx => rq_appended H3.out HG.out L2.out L3.out HM.out o1 g1 a1 hmx
 clear hg l1 l2 l3 H0 HM HG H2 hK
 have htop : Hid (w1.heap[b]? = some (.cells #[.int .i64 (r.win : Int), .int .i64 r.top, .slice p L.length c] 70)) := hid H3.out.top
 have hnb := hid (own_ne H3.out.nb)
 generalize r.top = t at *
 by_cases hmx : t < n
 all_goals
  go_wp2_with (at_builtin; refine append_int rfl _ _ rfl 0 (.slice p L.length c) L (by rfl) (L1.out.chg ((chg_refl w1 []).alloc _) (by simp)) w1.heap.size n (by rfl) (at_cell (at_new w1 _) 0) hlen (Nat.zero_le _) ?_; intro v' w2 hown hgrow hat; obtain ⟨p', k', c', rfl⟩ := hown.slice; have O1 := hid hown; have G1 := hid hgrow; have A1 := hid hat; have b2 : w2.heap[b]? = some (.cells #[.int .i64 (r.win : Int), .int .i64 t, .slice p L.length c] 70) := at_grown (at_alloc htop.out _) hgrow hnb.out; have e1 : w2.cell? ⟨b, 1, none⟩ = some (.int .i64 t) := at_cell b2 1; have e2 : w2.cell? ⟨b, 2, none⟩ = some (.slice p L.length c) := at_cell b2 2; have e3 := at_free b2 1; have e4 := at_free b2 2; clear hown hgrow hat b2)
  go_ret
  first
  | exact F.out _ _ n O1.out G1.out A1.out (by omega)
  | exact F.out _ _ t O1.out G1.out A1.out (by omega)
  | exact F.out _ _ _ O1.out G1.out A1.out rfl
theorem qtake_any {b K : Nat} {v : Value} {r : Rp} (n : Int) (w : World) (H : RqAt w b v K r) (hK : K ≤ 999999) :
  Calls Tryz.prog 67 #[.pointer (some ⟨b, 0, none⟩), .int .i64 n] w (LeavesQ w b v (K + 1) (r.take n)) := by
 unfold Rp.take
 by_cases hm : r.may n = true
 ·rw [if_pos hm]; exact qtake_ok n w H hK hm
 ·rw [if_neg hm]; exact qtake_no n w H (by omega) (by simpa using hm)

theorem low_step (x : BitVec 64) (k : Nat) (hk : k < 64) : (x &&& low (k + 1)) = if x.getLsbD k = true then (x &&& low k) ||| 1#64 <<< k else x &&& low k := by
 apply BitVec.eq_of_getLsbD_eq
 intro i hi
 have e : (1#64 <<< k).getLsbD i = (decide (i = k) && decide (i < 64)) := one_bit k i
 split
 ·next h =>
  rw [BitVec.getLsbD_or, BitVec.getLsbD_and, BitVec.getLsbD_and, low_bit _ _ (by omega), low_bit _ _ (by omega), e]
  by_cases h1 : i = k
  ·subst h1; simp [h, hi]
  ·have h2 : (i < k + 1) = (i < k) := by apply propext; omega
   simp [h1, h2]
 ·next h =>
  rw [BitVec.getLsbD_and, BitVec.getLsbD_and, low_bit _ _ (by omega), low_bit _ _ (by omega)]
  by_cases h1 : i = k
  ·subst h1; simp [h]
  ·have h2 : (i < k + 1) = (i < k) := by apply propext; omega
   simp [h2]
theorem low_all {r : Rp} (ok : r.Ok) : r.bits &&& low r.win = r.bits := by
 apply BitVec.eq_of_getLsbD_eq
 intro i hi
 rw [BitVec.getLsbD_and, low_bit _ _ ok.w2]
 by_cases h : r.bits.getLsbD i = true
 ·simp [h, (ok.bs i h).1, hi]
 ·simp at h; simp [h]
set_option maxHeartbeats 1600000 in
theorem qbits_any {b K : Nat} {v : Value} {r : Rp} (w : World) (H : RqAt w b v K r) (hK : K ≤ 1000000) :
  Calls Tryz.prog 29 #[.pointer (some ⟨b, 0, none⟩)] w fun e w' => e = .returned (.int .u64 (q r.bits)) ∧ w = w' := by
 obtain ⟨c0, c1, c2, f1, f2⟩ := H.tops
 have t0 := H.ok.t0; have t1 := H.ok.t1; have w2 := H.ok.w2
 obtain ⟨L, l1, l2, l3⟩ := H.row
 have C : Hid (∀ (i : Nat), i < r.win → ∃ z, decide (r.top - (i : Int) ∈ L) = z ∧ (1 ≤ r.top - (i : Int) → z = r.bits.getLsbD i) ∧ (¬ 1 ≤ r.top - (i : Int) → r.bits.getLsbD i = false)) := hid fun i hi => by
  refine ⟨_, rfl, fun h => ?_, fun h => ?_⟩
  ·have := l2.win (r.top - (i : Int)) (by omega) (by omega)
   have e : (r.top - (r.top - (i : Int))).toNat = i := by omega
   rw [e] at this
   rw [Bool.eq_iff_iff, decide_eq_true_eq]
   exact this
  ·cases hb : r.bits.getLsbD i with
   | false => rfl
   | true => have := (H.ok.bs i hb).2; omega
 have HL := hid l1
 have hl : L.length ≤ 1000000 := by omega
 have E := hid (low_all H.ok)
 have S := hid (fun k (hk : k < 64) => low_step r.bits k hk)
 clear H l1 l2 l3
 generalize r.top = t at *
 generalize r.win = m at *
 generalize r.bits = x at *
 go_enter Tryz.func29, Tryz.ntmps29
 go_wp2_with fail
 go_loop [3, 4] (fun y i => ∃ k : Nat, k ≤ m ∧ i = .int .i64 (k : Int) ∧ y = .int .u64 (q (x &&& low k))) (fun _ i => m - (intOf i).toNat)
 case atStart => exact ⟨0, Nat.zero_le _, rfl, by rw [show low 0 = 0#64 by decide]; simp; rfl⟩
 case round =>
  obtain ⟨k, hk, rfl, rfl⟩ := hrel
  by_cases hlt : k < m
  ·obtain ⟨z, hz, z1, z2⟩ := C.out k hlt
   have s1 : IntKind.i64.wrap (t - (k : Int)) = t - (k : Int) := IntWalk.i64_in _ (by omega)
   have st := S.out k (by omega)
   have HZ := hid hz; clear hz
   by_cases h1 : 1 ≤ t - (k : Int)
   ·have d1 : decide (1 ≤ t - (k : Int)) = true := by simpa using h1
    have hz := z1 h1
    clear z1 z2
    rw [← hz] at st
    clear hz
    cases z with
    | true =>
     rw [if_pos rfl] at st
     have HST := hid st; clear st
     have s2 := wrap_pow k
     go_wp2_with fail
     refine (fhas_any _ _ c2 HL.out hl true HZ.out).mono ?_
     rintro e w1 ⟨rfl, rfl⟩
     go_wp2_with fail
     go_round
     case rel => exact ⟨k + 1, by omega, by go_num, by rw [HST.out]⟩
     case measure => simp [intOf]; omega
    | false =>
     rw [if_neg (by decide)] at st
     have HST := hid st; clear st
     go_wp2_with fail
     refine (fhas_any _ _ c2 HL.out hl false HZ.out).mono ?_
     rintro e w1 ⟨rfl, rfl⟩
     go_wp2_with fail
     go_round
     case rel => exact ⟨k + 1, by omega, by go_num, by rw [HST.out]⟩
     case measure => simp [intOf]; omega
   ·have d1 : decide (1 ≤ t - (k : Int)) = false := by simpa using h1
    rw [z2 (by omega), if_neg (by decide)] at st
    have HST := hid st; clear st z1 z2
    go_wp2_with fail
    go_round
    case rel => exact ⟨k + 1, by omega, by go_num, by rw [HST.out]⟩
    case measure => simp [intOf]; omega
  ·have hkm : k = m := by omega
   subst hkm
   go_wp2_with fail
   go_ret
   exact ⟨by rw [E.out]; rfl, rfl⟩
end Go.Proofs.YtgpdcapnnejdeaaGreat
