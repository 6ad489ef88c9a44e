/-
  Contracts for the document's own rings: which key is there. The condition of a call: the ring lies there.
-/
import Derived.Test.YtgpdcapnnejdeaaGreatY14
import Derived.Test.YtgpdcapnnejdeaaGreatY15
import Derived.Test.YtgpdcapnnejdeaaGreatY8
import Derived.Deep.QuietTactic
import Derived.BigQuiet
import Derived.IntWalk
set_option linter.unusedSimpArgs false
set_option linter.unusedVariables false
namespace Go.Proofs.YtgpdcapnnejdeaaGreat
set_option maxRecDepth 100000
open Go.RowKit

theorem gb_drewN {w w1 : World} {r : Option Nat} (h : w.grownBy w1 r) (n : Nat) : w.grownBy (w1.drewN n) r := ⟨h.os, h.tape, h.output, h.size, h.block⟩
structure AnsF (w : World) (b g s : Nat) (r : Rg) (w' : World) : Prop where
 a : Ans w 49 w'
 r : RfAt w' b g s r
theorem AnsF.new {w : World} {b g s : Nat} {r : Rg} (H : RfAt w b g s r) : AnsF w b g s r (w.alloc (.cells #[.int .u64 0, .int .u64 0] 49)) := ⟨.new w _ _ _, H.grown (World.grownBy_alloc w _ none)⟩
theorem AnsF.grown {w w1 w2 : World} {b g s : Nat} {r : Rg} (A : AnsF w b g s r w1) (hg : w1.grownBy w2 none) : AnsF w b g s r w2 := ⟨A.a.grown hg, A.r.grown hg⟩
theorem AnsF.drewN {w w1 : World} {b g s : Nat} {r : Rg} (A : AnsF w b g s r w1) (n : Nat) : AnsF w b g s r (w1.drewN n) := ⟨⟨A.a.ans, gb_drewN A.a.g n⟩, ⟨A.r.top, A.r.gens, A.r.sinces, A.r.bg, A.r.bs, A.r.gs, A.r.ok⟩⟩

set_option maxHeartbeats 3200000 in
theorem fkey_now {b g s : Nat} {r : Rg} (i : Nat) (now : Int) (w : World) (H : RfAt w b g s r) (hi : i < r.n) :
  Calls Tryz.prog 100 #[.pointer (some ⟨b, 0, none⟩), .int .i64 (i : Int), .int .i64 (r.gen i), .int .i64 now] w fun e w' => e = .returned (.tuple #[.agg #[.int .u64 (q (ofOf r.seed i (r.gen i)).a), .int .u64 (q (ofOf r.seed i (r.gen i)).b)], .int .i64 0]) ∧ w.grownBy w' none := by
 have A0 := hid (AnsF.new H)
 have hok := H.ok
 clear H
 have HO := hid (fun w => refof_any r.seed (i : Int) (r.gen i) w)
 generalize ofOf r.seed i (r.gen i) = k at HO ⊢
 have hC := fun w' (A : AnsF w b g s r w') => A.r.cells hi
 have hT := fun w' (A : AnsF w b g s r w') => A.r.tops
 have n2 := hok.n2
 have i0 : (0 : Int) ≤ (i : Int) := by omega
 have e1 : decide ((i : Int) < 0) = false := by simp
 have e2 : decide (r.n ≤ i) = false := by simp; omega
 have i1 : (i : Int) < (r.n : Int) := by omega
 have q0 := hok.e0 i; have q1 := hok.e1 i; have q2 := hok.s0 i; have q3 := hok.s1 i; have q4 := hok.g1; have q5 := hok.g2
 clear hok
 generalize r.gen i = x at *
 generalize r.since i = y at *
 generalize r.grace = gr at *
 generalize r.n = n at *
 generalize r.seed = sd at *
 have HC := hid hC; have HT := hid hT; clear hC hT
 have d0 : decide (0 ≤ x) = true := by simpa using q0
 go_enter Tryz.func100, Tryz.ntmps100
 go_upto_region 1 with fail
 refine wp_gen (fun wx => AnsF w b g s r wx) A0.out ?_
 clear A0
 intro w1 hA
 obtain ⟨t0, t1, t2, t3⟩ := HT.out _ hA
 obtain ⟨c0, c1, f0, f1⟩ := HC.out _ hA
 have A1 := hid hA; clear hA
 go_wp2_with fail
 go_quiet (fail)
 go_wp2_with fail
 refine (HO.out _).mono ?_
 rintro e w3 ⟨rfl, hg⟩
 have A3 := hid ((A1.out.drewN _).grown hg); clear hg A1 c0 c1 f0 f1 t0 t1 t2 t3
 obtain ⟨x9, y9, c0, c1, f0, f1⟩ := A3.out.a.cells
 go_wp2_with fail
 clear c0 c1 f0 f1
 have hst := A3.out.a.store (.int .u64 (q k.a)) (.int .u64 (q k.b))
 generalize (w3.setCell ⟨w.heap.size, 0, none⟩ (.int .u64 (q k.a))).setCell ⟨w.heap.size, 1, none⟩ (.int .u64 (q k.b)) = wx at hst ⊢
 have r0 : wx.cell? ⟨w.heap.size, 0, none⟩ = some (.int .u64 (q k.a)) := at_cell hst.1 0
 have r1 : wx.cell? ⟨w.heap.size, 1, none⟩ = some (.int .u64 (q k.b)) := at_cell hst.1 1
 exact bodyPost_ret (v := .tuple #[.agg #[.int .u64 (q k.a), .int .u64 (q k.b)], .int .i64 0]) (by simp [results, Tryz.results100, go_sem, r0, r1]) rfl ⟨rfl, hst.2⟩

set_option maxHeartbeats 3200000 in
theorem fkey_old {b g s : Nat} {r : Rg} (i : Nat) (now : Int) (w : World) (H : RfAt w b g s r) (hi : i < r.n) (hg1 : 1 ≤ r.gen i) (hnow : now < r.since i + (r.grace : Int)) :
  Calls Tryz.prog 100 #[.pointer (some ⟨b, 0, none⟩), .int .i64 (i : Int), .int .i64 (r.gen i - 1), .int .i64 now] w fun e w' => e = .returned (.tuple #[.agg #[.int .u64 (q (ofOf r.seed i (r.gen i - 1)).a), .int .u64 (q (ofOf r.seed i (r.gen i - 1)).b)], .int .i64 0]) ∧ w.grownBy w' none := by
 have A0 := hid (AnsF.new H)
 have hok := H.ok
 clear H
 have HO := hid (fun w => refof_any r.seed (i : Int) (r.gen i - 1) w)
 generalize ofOf r.seed i (r.gen i - 1) = k at HO ⊢
 have hC := fun w' (A : AnsF w b g s r w') => A.r.cells hi
 have hT := fun w' (A : AnsF w b g s r w') => A.r.tops
 have n2 := hok.n2
 have i0 : (0 : Int) ≤ (i : Int) := by omega
 have e1 : decide ((i : Int) < 0) = false := by simp
 have e2 : decide (r.n ≤ i) = false := by simp; omega
 have i1 : (i : Int) < (r.n : Int) := by omega
 have q0 := hok.e0 i; have q1 := hok.e1 i; have q2 := hok.s0 i; have q3 := hok.s1 i; have q4 := hok.g1; have q5 := hok.g2
 clear hok
 generalize r.gen i = x at *
 generalize r.since i = y at *
 generalize r.grace = gr at *
 generalize r.n = n at *
 generalize r.seed = sd at *
 have HC := hid hC; have HT := hid hT; clear hC hT
 have d0 : decide (0 ≤ x - 1) = true := by simp; omega
 have d1 : (x - 1 == x) = false := by simp; omega
 have d2 : decide (now < y + (gr : Int)) = true := by simpa using hnow
 go_enter Tryz.func100, Tryz.ntmps100
 go_upto_region 1 with fail
 refine wp_gen (fun wx => AnsF w b g s r wx) A0.out ?_
 clear A0
 intro w1 hA
 obtain ⟨t0, t1, t2, t3⟩ := HT.out _ hA
 obtain ⟨c0, c1, f0, f1⟩ := HC.out _ hA
 have A1 := hid hA; clear hA
 go_wp2_with fail
 go_quiet (fail)
 go_wp2_with fail
 refine (HO.out _).mono ?_
 rintro e w3 ⟨rfl, hg⟩
 have A3 := hid ((A1.out.drewN _).grown hg); clear hg A1 c0 c1 f0 f1 t0 t1 t2 t3
 obtain ⟨x9, y9, c0, c1, f0, f1⟩ := A3.out.a.cells
 go_wp2_with fail
 clear c0 c1 f0 f1
 have hst := A3.out.a.store (.int .u64 (q k.a)) (.int .u64 (q k.b))
 generalize (w3.setCell ⟨w.heap.size, 0, none⟩ (.int .u64 (q k.a))).setCell ⟨w.heap.size, 1, none⟩ (.int .u64 (q k.b)) = wx at hst ⊢
 have r0 : wx.cell? ⟨w.heap.size, 0, none⟩ = some (.int .u64 (q k.a)) := at_cell hst.1 0
 have r1 : wx.cell? ⟨w.heap.size, 1, none⟩ = some (.int .u64 (q k.b)) := at_cell hst.1 1
 exact bodyPost_ret (v := .tuple #[.agg #[.int .u64 (q k.a), .int .u64 (q k.b)], .int .i64 0]) (by simp [results, Tryz.results100, go_sem, r0, r1]) rfl ⟨rfl, hst.2⟩

set_option maxHeartbeats 3200000 in
theorem fkey_gen {b g s : Nat} {r : Rg} (i : Nat) (gen : Int) (now : Int) (w : World) (H : RfAt w b g s r) (hi : i < r.n) (hk : ¬ r.keyIs i gen now) :
  Calls Tryz.prog 100 #[.pointer (some ⟨b, 0, none⟩), .int .i64 (i : Int), .int .i64 gen, .int .i64 now] w fun e w' => e = .returned (.tuple #[.agg #[.int .u64 0, .int .u64 0], .int .i64 4]) ∧ w.grownBy w' none := by
 have A0 := hid (AnsF.new H)
 have hok := H.ok
 clear H
 unfold Rg.keyIs at hk
 have hC := fun w' (A : AnsF w b g s r w') => A.r.cells hi
 have hT := fun w' (A : AnsF w b g s r w') => A.r.tops
 have n2 := hok.n2
 have i0 : (0 : Int) ≤ (i : Int) := by omega
 have e1 : decide ((i : Int) < 0) = false := by simp
 have e2 : decide (r.n ≤ i) = false := by simp; omega
 have i1 : (i : Int) < (r.n : Int) := by omega
 have q0 := hok.e0 i; have q1 := hok.e1 i; have q2 := hok.s0 i; have q3 := hok.s1 i; have q4 := hok.g1; have q5 := hok.g2
 clear hok
 generalize r.gen i = x at *
 generalize r.since i = y at *
 generalize r.grace = gr at *
 generalize r.n = n at *
 generalize r.seed = sd at *
 have HC := hid hC; have HT := hid hT; clear hC hT
 by_cases h0 : gen < 0
 ·have d0 : decide (0 ≤ gen) = false := by simp; omega
  clear hk
  go_enter Tryz.func100, Tryz.ntmps100
  go_upto_region 1 with fail
  refine wp_gen (fun wx => AnsF w b g s r wx) A0.out ?_
  clear A0
  intro w1 hA
  obtain ⟨t0, t1, t2, t3⟩ := HT.out _ hA
  obtain ⟨c0, c1, f0, f1⟩ := HC.out _ hA
  have A1 := hid hA; clear hA
  go_wp2_with fail
  go_quiet (fail)
  have A3 := hid (A1.out.drewN nq); clear A1 c0 c1 f0 f1 t0 t1 t2 t3
  generalize w1.drewN nq = w3 at *
  obtain ⟨x9, y9, c0, c1, f0, f1⟩ := A3.out.a.cells
  go_wp2_with fail
  clear c0 c1 f0 f1
  have hst := A3.out.a.store (.int .u64 0) (.int .u64 0)
  generalize (w3.setCell ⟨w.heap.size, 0, none⟩ (.int .u64 0)).setCell ⟨w.heap.size, 1, none⟩ (.int .u64 0) = wx at hst ⊢
  have r0 : wx.cell? ⟨w.heap.size, 0, none⟩ = some (.int .u64 0) := at_cell hst.1 0
  have r1 : wx.cell? ⟨w.heap.size, 1, none⟩ = some (.int .u64 0) := at_cell hst.1 1
  exact bodyPost_ret (v := .tuple #[.agg #[.int .u64 0, .int .u64 0], .int .i64 4]) (by simp [results, Tryz.results100, go_sem, r0, r1]) rfl ⟨rfl, hst.2⟩
 have d0 : decide (0 ≤ gen) = true := by simp; omega
 have d1 : (gen == x) = false := by simp; omega
 by_cases h1 : gen = x - 1
 ·have d2 : decide (now < y + (gr : Int)) = false := by simp; omega
  have g1 : 1 ≤ x := by omega
  subst h1
  clear hk h0
  go_enter Tryz.func100, Tryz.ntmps100
  go_upto_region 1 with fail
  refine wp_gen (fun wx => AnsF w b g s r wx) A0.out ?_
  clear A0
  intro w1 hA
  obtain ⟨t0, t1, t2, t3⟩ := HT.out _ hA
  obtain ⟨c0, c1, f0, f1⟩ := HC.out _ hA
  have A1 := hid hA; clear hA
  go_wp2_with fail
  go_quiet (fail)
  have A3 := hid (A1.out.drewN nq); clear A1 c0 c1 f0 f1 t0 t1 t2 t3
  generalize w1.drewN nq = w3 at *
  obtain ⟨x9, y9, c0, c1, f0, f1⟩ := A3.out.a.cells
  go_wp2_with fail
  clear c0 c1 f0 f1
  have hst := A3.out.a.store (.int .u64 0) (.int .u64 0)
  generalize (w3.setCell ⟨w.heap.size, 0, none⟩ (.int .u64 0)).setCell ⟨w.heap.size, 1, none⟩ (.int .u64 0) = wx at hst ⊢
  have r0 : wx.cell? ⟨w.heap.size, 0, none⟩ = some (.int .u64 0) := at_cell hst.1 0
  have r1 : wx.cell? ⟨w.heap.size, 1, none⟩ = some (.int .u64 0) := at_cell hst.1 1
  exact bodyPost_ret (v := .tuple #[.agg #[.int .u64 0, .int .u64 0], .int .i64 4]) (by simp [results, Tryz.results100, go_sem, r0, r1]) rfl ⟨rfl, hst.2⟩
 ·have d2 : (gen == x - 1) = false := by simp; omega
  clear hk
  go_enter Tryz.func100, Tryz.ntmps100
  go_upto_region 1 with fail
  refine wp_gen (fun wx => AnsF w b g s r wx) A0.out ?_
  clear A0
  intro w1 hA
  obtain ⟨t0, t1, t2, t3⟩ := HT.out _ hA
  obtain ⟨c0, c1, f0, f1⟩ := HC.out _ hA
  have A1 := hid hA; clear hA
  go_wp2_with fail
  go_quiet (fail)
  have A3 := hid (A1.out.drewN nq); clear A1 c0 c1 f0 f1 t0 t1 t2 t3
  generalize w1.drewN nq = w3 at *
  obtain ⟨x9, y9, c0, c1, f0, f1⟩ := A3.out.a.cells
  go_wp2_with fail
  clear c0 c1 f0 f1
  have hst := A3.out.a.store (.int .u64 0) (.int .u64 0)
  generalize (w3.setCell ⟨w.heap.size, 0, none⟩ (.int .u64 0)).setCell ⟨w.heap.size, 1, none⟩ (.int .u64 0) = wx at hst ⊢
  have r0 : wx.cell? ⟨w.heap.size, 0, none⟩ = some (.int .u64 0) := at_cell hst.1 0
  have r1 : wx.cell? ⟨w.heap.size, 1, none⟩ = some (.int .u64 0) := at_cell hst.1 1
  exact bodyPost_ret (v := .tuple #[.agg #[.int .u64 0, .int .u64 0], .int .i64 4]) (by simp [results, Tryz.results100, go_sem, r0, r1]) rfl ⟨rfl, hst.2⟩

set_option maxHeartbeats 1600000 in
theorem fkey_who {b g s : Nat} {r : Rg} (x gen now : Int) (w : World) (H : RfAt w b g s r) (hx : x < 0 ∨ (r.n : Int) ≤ x) :
  Calls Tryz.prog 100 #[.pointer (some ⟨b, 0, none⟩), .int .i64 x, .int .i64 gen, .int .i64 now] w fun e w' => e = .returned (.tuple #[.agg #[.int .u64 0, .int .u64 0], .int .i64 3]) ∧ w.grownBy w' none := by
 have A0 := hid (AnsF.new H)
 have hT := fun w' (A : AnsF w b g s r w') => A.r.tops
 clear H
 generalize r.n = n at *
 have HT := hid hT; clear hT
 by_cases h : x < 0
 ·have e1 : decide (x < 0) = true := by simpa using h
  clear hx
  go_enter Tryz.func100, Tryz.ntmps100
  go_upto_region 1 with fail
  refine wp_gen (fun wx => AnsF w b g s r wx) A0.out ?_
  clear A0
  intro w1 hA
  obtain ⟨t0, t1, t2, t3⟩ := HT.out _ hA
  have A3 := hid hA; clear hA t0 t1 t2 t3
  generalize w1 = w3 at *
  obtain ⟨x9, y9, c0, c1, f0, f1⟩ := A3.out.a.cells
  go_wp2_with fail
  clear c0 c1 f0 f1
  have hst := A3.out.a.store (.int .u64 0) (.int .u64 0)
  generalize (w3.setCell ⟨w.heap.size, 0, none⟩ (.int .u64 0)).setCell ⟨w.heap.size, 1, none⟩ (.int .u64 0) = wx at hst ⊢
  have r0 : wx.cell? ⟨w.heap.size, 0, none⟩ = some (.int .u64 0) := at_cell hst.1 0
  have r1 : wx.cell? ⟨w.heap.size, 1, none⟩ = some (.int .u64 0) := at_cell hst.1 1
  exact bodyPost_ret (v := .tuple #[.agg #[.int .u64 0, .int .u64 0], .int .i64 3]) (by simp [results, Tryz.results100, go_sem, r0, r1]) rfl ⟨rfl, hst.2⟩
 ·have e1 : decide (x < 0) = false := by simpa using h
  have e2 : decide ((n : Int) ≤ x) = true := by simp; omega
  clear hx
  go_enter Tryz.func100, Tryz.ntmps100
  go_upto_region 1 with fail
  refine wp_gen (fun wx => AnsF w b g s r wx) A0.out ?_
  clear A0
  intro w1 hA
  obtain ⟨t0, t1, t2, t3⟩ := HT.out _ hA
  have A3 := hid hA; clear hA
  obtain ⟨x9, y9, c0, c1, f0, f1⟩ := A3.out.a.cells
  go_wp2_with fail
  clear c0 c1 f0 f1 t0 t1 t2 t3
  have hst := A3.out.a.store (.int .u64 0) (.int .u64 0)
  generalize (w1.setCell ⟨w.heap.size, 0, none⟩ (.int .u64 0)).setCell ⟨w.heap.size, 1, none⟩ (.int .u64 0) = wx at hst ⊢
  have r0 : wx.cell? ⟨w.heap.size, 0, none⟩ = some (.int .u64 0) := at_cell hst.1 0
  have r1 : wx.cell? ⟨w.heap.size, 1, none⟩ = some (.int .u64 0) := at_cell hst.1 1
  exact bodyPost_ret (v := .tuple #[.agg #[.int .u64 0, .int .u64 0], .int .i64 3]) (by simp [results, Tryz.results100, go_sem, r0, r1]) rfl ⟨rfl, hst.2⟩

theorem fkey_any {b g s : Nat} {r : Rg} (who gen now : Int) (w : World) (H : RfAt w b g s r) :
  Calls Tryz.prog 100 #[.pointer (some ⟨b, 0, none⟩), .int .i64 who, .int .i64 gen, .int .i64 now] w fun e w' => e = .returned (keyVal (r.key who gen now)) ∧ w.grownBy w' none := by
 by_cases h0 : 0 ≤ who ∧ who < (r.n : Int)
 ·obtain ⟨i, rfl⟩ := Int.eq_ofNat_of_zero_le h0.1
  have hi : i < r.n := by have := h0.2; omega
  by_cases hk : r.keyIs i gen now
  ·rw [show r.key (i : Int) gen now = (ofOf r.seed i gen, 0) by unfold Rg.key; rw [if_pos h0, Int.toNat_natCast, if_pos hk]]
   obtain ⟨k0, rfl | ⟨rfl, hn⟩⟩ := hk
   ·exact fkey_now i now w H hi
   ·exact fkey_old i now w H hi (by omega) hn
  ·rw [show r.key (i : Int) gen now = (⟨0, 0⟩, 4) by unfold Rg.key; rw [if_pos h0, Int.toNat_natCast, if_neg hk]]
   exact fkey_gen i gen now w H hi hk
 ·rw [show r.key who gen now = (⟨0, 0⟩, 3) by unfold Rg.key; rw [if_neg h0]]
  exact fkey_who who gen now w H (by omega)
end Go.Proofs.YtgpdcapnnejdeaaGreat
