/-
  Contracts for the document's own root and collectors' keys. No condition. And 5 texts more that this one stands on. No condition.
-/
import Derived.Test.YtgpdcapnnejdeaaGreatNMacG
import Derived.WalkKit
import Derived.Test.YtgpdcapnnejdeaaGreatY8
import Derived.Test.YtgpdcapnnejdeaaGreatNCfFit
import Derived.Still
import Derived.Deep.QuietTactic
import Derived.KernelRfl
section
set_option linter.unusedSimpArgs false
namespace Go.Proofs.YtgpdcapnnejdeaaGreat
set_option maxRecDepth 100000
open Go.RowKit

theorem refkey_derive (k : Two64) (s : ByteArray) (hs : s.size ≤ 1000) (n : BitVec 64) (w : World) :
  Calls Tryz.prog 51 #[.agg #[.int .u64 (q k.a), .int .u64 (q k.b)], .string s, .int .u64 (q n)] w fun e w' => e = .returned (.agg #[.int .u64 (q (keyOf k s n).a), .int .u64 (q (keyOf k s n).b)]) ∧ w.grownBy w' none := refderive_any k.a k.b s hs n w

set_option maxHeartbeats 1600000 in
theorem refroot_any (seed : BitVec 64) (w : World) :
  Calls Tryz.prog 52 #[.int .u64 (q seed)] w fun e w' => e = .returned (.agg #[.int .u64 (q (rootOf seed).a), .int .u64 (q (rootOf seed).b)]) ∧ w.grownBy w' none := by
 have hq := q_succ seed
 have hd := refkey_derive ⟨seed, seed + 1⟩ ⟨#[114, 111, 111, 116]⟩ (by decide) 0 (w.alloc (.cells #[.int .u64 0, .int .u64 0] 49))
 change Calls _ _ _ _ (fun e w' => e = .returned (.agg #[.int .u64 (q (rootOf seed).a), .int .u64 (q (rootOf seed).b)]) ∧ _) at hd
 generalize rootOf seed = r at hd ⊢
 have A0 := hid (Ans.new w 49 (.int .u64 0) (.int .u64 0))
 have HD := hid hd; clear hd
 go_enter Tryz.func52, Tryz.ntmps52
 go_wp2_with fail
 refine HD.out.mono ?_
 rintro e w1 ⟨rfl, hg⟩
 have A1 := hid (A0.out.grown hg); clear hg HD
 obtain ⟨x, y, c0, c1, f0, f1⟩ := A1.out.cells
 go_wp2_with fail
 clear c0 c1 f0 f1
 have hst := A1.out.store (.int .u64 (q r.a)) (.int .u64 (q r.b))
 generalize (w1.setCell ⟨w.heap.size, 0, none⟩ (.int .u64 (q r.a))).setCell ⟨w.heap.size, 1, none⟩ (.int .u64 (q r.b)) = wx at hst ⊢
 obtain ⟨r0, r1⟩ := pair_cells hst.1
 exact bodyPost_ret (v := .agg #[.int .u64 (q r.a), .int .u64 (q r.b)]) (by simp [results, Tryz.results52, go_sem, r0, r1]) rfl ⟨rfl, hst.2⟩

set_option maxHeartbeats 1600000 in
theorem refof_any (seed : BitVec 64) (who gen : Int) (w : World) :
  Calls Tryz.prog 17 #[.int .u64 (q seed), .int .i64 who, .int .i64 gen] w fun e w' => e = .returned (.agg #[.int .u64 (q (ofOf seed who gen).a), .int .u64 (q (ofOf seed who gen).b)]) ∧ w.grownBy w' none := by
 have hq1 := wrap_i64 who
 have hq2 := wrap_i64 gen
 have hd := fun w => refroot_any seed w
 unfold ofOf
 generalize rootOf seed = r at hd ⊢
 have hd1 := fun w => refkey_derive r ⟨#[119, 104, 111]⟩ (by decide) (BitVec.ofInt 64 who) w
 generalize keyOf r ⟨#[119, 104, 111]⟩ (BitVec.ofInt 64 who) = k1 at hd1 ⊢
 have hd2 := fun w => refkey_derive k1 ⟨#[103, 101, 110]⟩ (by decide) (BitVec.ofInt 64 gen) w
 generalize keyOf k1 ⟨#[103, 101, 110]⟩ (BitVec.ofInt 64 gen) = k2 at hd2 ⊢
 have HD := hid hd; have HD1 := hid hd1; have HD2 := hid hd2; clear hd hd1 hd2
 have A0 := hid (Ans.new w 49 (.int .u64 0) (.int .u64 0))
 go_enter Tryz.func17, Tryz.ntmps17
 go_wp2_with fail
 refine (HD.out _).mono ?_
 rintro e w1 ⟨rfl, hg⟩
 have A1 := hid (A0.out.grown hg); clear hg
 go_wp2_with fail
 refine (HD1.out _).mono ?_
 rintro e w2 ⟨rfl, hg⟩
 have A2 := hid (A1.out.grown hg); clear hg
 go_wp2_with fail
 refine (HD2.out _).mono ?_
 rintro e w3 ⟨rfl, hg⟩
 have A3 := hid (A2.out.grown hg); clear hg
 obtain ⟨x, y, c0, c1, f0, f1⟩ := A3.out.cells
 go_wp2_with fail
 clear c0 c1 f0 f1
 have hst := A3.out.store (.int .u64 (q k2.a)) (.int .u64 (q k2.b))
 generalize (w3.setCell ⟨w.heap.size, 0, none⟩ (.int .u64 (q k2.a))).setCell ⟨w.heap.size, 1, none⟩ (.int .u64 (q k2.b)) = wx at hst ⊢
 obtain ⟨r0, r1⟩ := pair_cells hst.1
 exact bodyPost_ret (v := .agg #[.int .u64 (q k2.a), .int .u64 (q k2.b)]) (by simp [results, Tryz.results17, go_sem, r0, r1]) rfl ⟨rfl, hst.2⟩
end Go.Proofs.YtgpdcapnnejdeaaGreat
end
section
namespace Go.Proofs.YtgpdcapnnejdeaaGreat
set_option maxRecDepth 100000
open Go.RowKit
theorem umod_small (x : Int) (m : Nat) (h0 : 0 < m) : ∃ k : Nat, k < m ∧ (IntKind.u64.wrap x).tmod (m : Int) = (k : Int) := by
 have h : 0 ≤ IntKind.u64.wrap x := by
  show 0 ≤ x % _
  exact Int.emod_nonneg _ (by decide)
 rw [Int.tmod_eq_emod_of_nonneg h]
 have a := Int.emod_nonneg (IntKind.u64.wrap x) (b := (m : Int)) (by omega)
 have b := Int.emod_lt_of_pos (IntKind.u64.wrap x) (b := (m : Int)) (by omega)
 exact ⟨((IntKind.u64.wrap x) % (m : Int)).toNat, by omega, by omega⟩
end Go.Proofs.YtgpdcapnnejdeaaGreat
end
section
namespace Go.Proofs.YtgpdcapnnejdeaaGreat
set_option maxRecDepth 100000
open Go.RowKit
theorem umod_int (x : Int) (m : Nat) (h0 : 0 < m) : ∃ k : Int, 0 ≤ k ∧ k < (m : Int) ∧ (IntKind.u64.wrap x).tmod (m : Int) = k := by
 obtain ⟨k, h1, h2⟩ := umod_small x m h0
 exact ⟨k, by omega, by omega, h2⟩
end Go.Proofs.YtgpdcapnnejdeaaGreat
end
section
set_option linter.unusedSimpArgs false
namespace Go.Proofs.YtgpdcapnnejdeaaGreat
set_option maxRecDepth 100000
open Go.RowKit
end Go.Proofs.YtgpdcapnnejdeaaGreat
end
section
set_option linter.unusedSectionVars false
set_option linter.unusedSimpArgs false
namespace Go.Proofs.YtgpdcapnnejdeaaGreat
set_option maxRecDepth 100000
open Go.RowKit
theorem lo_is {f : Int} (h : 0 ≤ f ∧ f ≤ 2) : wrap64 (wrap64 (2 * f) + 1) = 2 * f + 1 := by
 rw [wrap_small (x := 2 * f) (by omega) (by omega), wrap_small (by omega) (by omega)]
theorem cwithin_in {x lo hi : Int} (h : lo ≤ x ∧ x ≤ hi) : cwithin x lo hi = true := by simp [cwithin, h]
section
variable {c : Conf} (h : Fine c)
include h
theorem part1 : cwithin c.n 1 16 = true := cwithin_in (by have := h.f; have := h.n; omega)
theorem part2 : cwithin c.f 0 (wrap64 ((wrap64 (c.n - 1)).tdiv 3)) = true := by rw [third (by have := h.f; have := h.n; omega) (by have := h.f; have := h.n; omega)]; have := h.f; have := h.n; simp; omega
theorem part3 : cwithin c.m 1 4 = true := cwithin_in (by have := h.m; omega)
theorem part4 : cwithin c.quorum (wrap64 (wrap64 (2 * c.f) + 1)) c.n = true := by rw [lo_is h.f]; exact cwithin_in h.quorum
theorem part5 : cwithin c.fresh 1 8 = true := cwithin_in (by have := h.fresh; omega)
theorem part6 : cwithin c.grace 1 100 = true := cwithin_in (by have := h.grace; omega)
theorem part7 : cwithin c.window 1 64 = true := cwithin_in (by have := h.window; omega)
theorem part8 : tgts c.m c.t0 c.t1 c.t2 c.t3 = true := by
 have h0 := h.t0
 have e0 : tgt c.m 0 c.t0 = true := by unfold tgt; rw [if_pos (by have := h.m; omega)]; exact cwithin_in (by omega)
 have e2 : tgt c.m 2 c.t2 = true := by unfold tgt; rw [if_neg (by have := h.m; omega), h.t2]; rfl
 have e3 : tgt c.m 3 c.t3 = true := by unfold tgt; rw [if_neg (by have := h.m; omega), h.t3]; rfl
 have e1 : tgt c.m 1 c.t1 = true := by
  rcases h.m with ⟨hm, h1⟩ | ⟨hm, h1, h2⟩
  ·unfold tgt; rw [if_neg (by omega), h1]; rfl
  ·unfold tgt; rw [if_pos (by omega)]; exact cwithin_in (by omega)
 unfold tgts
 rw [e0, e1, e2, e3]
 rfl
theorem part9 : cwithin c.tol 0 1000 = true := cwithin_in (by have := h.tol; omega)
theorem part10 : cwithin c.min 1 10000 = true := cwithin_in (by have := h.min; omega)
theorem part11 : cwithin c.max c.min 10000 = true := cwithin_in (by have := h.min; have := h.max; omega)
theorem part12 : cwithin c.calmup 0 60 = true := cwithin_in (by have := h.calmup; omega)
theorem part13 : cwithin c.calmdown 0 60 = true := cwithin_in (by have := h.calmdown; omega)
theorem part14 : cwithin c.podsup 1 1000 = true := cwithin_in (by have := h.podsup; omega)
theorem part15 : cwithin c.pctup 1 1000 = true := cwithin_in (by have := h.pctup; omega)
theorem part16 : cwithin c.podsdown 1 1000 = true := cwithin_in (by have := h.podsdown; omega)
theorem part17 : cwithin c.pctdown 1 100 = true := cwithin_in (by have := h.pctdown; omega)
theorem part18 : cwithin c.period 1 60 = true := cwithin_in (by have := h.period; omega)
theorem part19 : cwithin c.far 0 1099511627776 = true := cwithin_in (by have := h.far; omega)
theorem part20 : cwithin c.strikes 1 100 = true := cwithin_in (by have := h.strikes; omega)
theorem part21 : cwithin c.probe 1 100 = true := cwithin_in (by have := h.probe; omega)
theorem part22 : cwithin c.sectors 64 4096 = true := cwithin_in (by have := h.sectors; omega)
theorem fine_none : st22 c = none := ok22 (ok21 (ok20 (ok19 (ok18 (ok17 (ok16 (ok15 (ok14 (ok13 (ok12 (ok11 (ok10 (ok9 (ok8 (ok7 (ok6 (ok5 (ok4 (ok3 (ok2 (ok1 (c := c) (part1 h)) (part2 h)) (part3 h)) (part4 h)) (part5 h)) (part6 h)) (part7 h)) (part8 h)) (part9 h)) (part10 h)) (part11 h)) (part12 h)) (part13 h)) (part14 h)) (part15 h)) (part16 h)) (part17 h)) (part18 h)) (part19 h)) (part20 h)) (part21 h)) (part22 h)
end
end Go.Proofs.YtgpdcapnnejdeaaGreat
end
section
namespace Go.Proofs.YtgpdcapnnejdeaaGreat
set_option maxRecDepth 100000
open Go.RowKit

def sigOf (ops : Array Oper) (o : Oper) : Option Nat × List Nat × List Nat := (o.dst, o.looksAt ops, (o.after.toList.filter fun e => Region.binds .any e).map (·.on))
def sigApart (s t : Option Nat × List Nat × List Nat) : Bool :=
 (match s.1 with
  | some d => !t.2.1.contains d && t.1 != some d
  | none => true) &&
 (match t.1 with
  | some d => !s.2.1.contains d
  | none => true)
def sigChk : List (Option Nat × List Nat × List Nat) → Nat → Bool
 | [], _ => true
 | s :: rest, k => s.2.2.all (fun e => decide (e < k)) && (rest.all fun t => t.2.2.contains k || sigApart s t) && sigChk rest (k + 1)
theorem sigApart_of {ops : Array Oper} {x y : Oper} (h : sigApart (sigOf ops x) (sigOf ops y) = true) : x.apart ops y = true := by
 unfold sigApart sigOf at h
 unfold Oper.apart
 exact h
theorem sigChk_at : ∀ (P : List (Option Nat × List Nat × List Nat)) (k i : Nat) (s : Option Nat × List Nat × List Nat), sigChk P k = true → P[i]? = some s →
  (∀ e ∈ s.2.2, e < k + i) ∧ ∀ (j : Nat) (t : Option Nat × List Nat × List Nat), i < j → P[j]? = some t → (k + i ∈ t.2.2 ∨ sigApart s t = true)
 | [], k, i, s, _, h => by simp at h
 | p :: P, k, 0, s, hc, h => by
  simp only [List.getElem?_cons_zero, Option.some.injEq] at h
  subst h
  simp only [sigChk, Bool.and_eq_true, List.all_eq_true, decide_eq_true_eq, Bool.or_eq_true, List.contains_iff_mem] at hc
  refine ⟨fun e he => hc.1.1 e he, fun j t hj ht => ?_⟩
  cases j with
  | zero => omega
  | succ j =>
   rw [List.getElem?_cons_succ] at ht
   exact hc.1.2 t (List.mem_of_getElem? ht)
 | p :: P, k, i + 1, s, hc, h => by
  simp only [sigChk, Bool.and_eq_true] at hc
  rw [List.getElem?_cons_succ] at h
  have r := sigChk_at P (k + 1) i s hc.2 h
  rw [show k + 1 + i = k + (i + 1) by omega] at r
  refine ⟨r.1, fun j t hj ht => ?_⟩
  cases j with
  | zero => omega
  | succ j => rw [List.getElem?_cons_succ] at ht; exact r.2 j t (by omega) ht
theorem lexFrom_of {ops : Array Oper} {P : List (Option Nat × List Nat × List Nat)} (hP : ops.toList.map (sigOf ops) = P) (hC : sigChk P 0 = true) :
  ∀ (n k : Nat) (listed : Array Bool), n + k = ops.size → listed.size = ops.size → (∀ i, i < ops.size → listed[i]? = some (decide (i < k))) → Region.lexFrom .any ops n k listed = true
 | 0, k, listed, hn, hs, hl => by
  simp only [Region.lexFrom, List.isEmpty_iff, Region.ready, List.filter_eq_nil_iff, List.mem_range]
  intro i hi
  have h1 := hl i hi
  rw [decide_eq_true (by omega)] at h1
  simp [Array.getD_eq_getD_getElem?, h1]
 | n + 1, k, listed, hn, hs, hl => by
  have hk : k < ops.size := by omega
  have hok : ops[k]? = some ops[k] := Array.getElem?_eq_getElem hk
  have hPk : P[k]? = some (sigOf ops ops[k]) := by
   rw [← hP, List.getElem?_map, Array.getElem?_toList, hok]; rfl
  obtain ⟨ha, hb⟩ := sigChk_at P 0 k _ hC hPk
  rw [Nat.zero_add] at ha hb
  have hd : ∀ (i : Nat) (d : Bool), i < ops.size → listed.getD i d = decide (i < k) := fun i d hi => by
   rw [Array.getD_eq_getD_getElem?, hl i hi]; rfl
  have ih := lexFrom_of hP hC n (k + 1) (listed.setIfInBounds k true) (by omega) (by simpa using hs) (fun i hi => by
   rw [Array.getElem?_setIfInBounds]
   split
   ·next e => subst e; rw [if_pos (by omega), decide_eq_true (by omega)]
   ·next e => rw [hl i hi]; congr 1; exact decide_eq_decide.2 (by omega))
  simp only [Region.lexFrom, Bool.and_eq_true]
  refine ⟨⟨?_, ?_⟩, ih⟩
  ·rw [List.contains_iff_mem]
   unfold Region.ready
   rw [List.mem_filter]
   refine ⟨List.mem_range.2 hk, ?_⟩
   rw [hd k true hk, hok]
   simp only [Nat.lt_irrefl, decide_false, Bool.not_false, Bool.true_and, Option.map_some, Option.getD_some]
   rw [Array.all_eq_true_iff_forall_mem]
   intro e he
   cases hbd : Region.binds .any e with
   | false => rfl
   | true =>
    have hlt := ha e.on (by unfold sigOf; exact List.mem_map.2 ⟨e, List.mem_filter.2 ⟨by simpa using he, hbd⟩, rfl⟩)
    rw [hd e.on false (by omega), decide_eq_true hlt]; rfl
  ·unfold Region.free
   rw [hok]
   simp only [List.all_eq_true, List.mem_range]
   intro j hj
   rcases Nat.lt_trichotomy j k with h | h | h
   ·rw [hd j true hj, decide_eq_true h]; simp
   ·subst h; simp
   ·have hoj : ops[j]? = some ops[j] := Array.getElem?_eq_getElem hj
    have hPj : P[j]? = some (sigOf ops ops[j]) := by
     rw [← hP, List.getElem?_map, Array.getElem?_toList, hoj]; rfl
    rw [hoj]
    have hor := hb j _ h hPj
    simp only [Bool.or_eq_true]
    right
    rcases hor with hm | hm
    ·left
     unfold sigOf at hm
     obtain ⟨e, he, heq⟩ := List.mem_map.1 hm
     obtain ⟨he1, he2⟩ := List.mem_filter.1 he
     rw [Array.any_eq_true']
     exact ⟨e, by simpa using he1, by rw [he2, heq]; simp⟩
    ·right; exact sigApart_of hm
theorem lexB_of {l : List Oper} (P : List (Option Nat × List Nat × List Nat)) (hs : Region.noSelect l.toArray = true) (hP : l.map (sigOf l.toArray) = P) (hC : sigChk P 0 = true) : Region.lexB .any l.toArray = true := by
 unfold Region.lexB
 rw [hs, Bool.true_and]
 exact lexFrom_of (ops := l.toArray) (by simpa using hP) hC _ 0 _ (by omega) (by simp) (fun i hi => by
  rw [Array.getElem?_replicate, if_pos hi, decide_eq_false (Nat.not_lt_zero i)])
end Go.Proofs.YtgpdcapnnejdeaaGreat
end
