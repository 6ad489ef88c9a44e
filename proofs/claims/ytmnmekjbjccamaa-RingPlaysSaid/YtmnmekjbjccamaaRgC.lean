/-
  Contracts for package ring's Key: the old key, what is no key. The condition of a call: the ring lies there; or it is nil.
-/
import Derived.Test.YtmnmekjbjccamaaRgB
set_option linter.unusedSimpArgs false
set_option linter.unusedVariables false
namespace Go.Proofs.Ytmnmekjbjccamaa
set_option maxRecDepth 100000
open Go.RowKit

set_option maxHeartbeats 1600000 in
theorem rkey_old {b h : Nat} {r : Rg} (i : Nat) (now : Int) (w : World) (H : RgAt w b h r) (hi : i < r.n) (hg1 : 1 ≤ r.gen i) (hnow : now < r.since i + (r.grace : Int)) :
    Calls Try.prog 27 #[.pointer (some ⟨b, 0, none⟩), .int .i64 (i : Int), .int .i64 (r.gen i - 1), .int .i64 now] w fun e w' => e = .returned (.tuple #[.agg #[.int .u64 (q (ofOf r.seed i (r.gen i - 1)).a), .int .u64 (q (ofOf r.seed i (r.gen i - 1)).b)], .int .i64 0]) ∧ w.grownBy w' none := by
  have hok := H.ok
  have A0 := hid (AnsR.new H)
  clear H
  have hC := fun w' (A : AnsR w b h r w') => find_in i w' A.r hi
  have hH := fun w' (A : AnsR w b h r w') => A.r.cells hi
  have hT := fun w' (A : AnsR w b h r w') => A.r.tops
  have HO := hid (fun w => of_any r.seed (i : Int) (r.gen i - 1) w)
  generalize ofOf r.seed i (r.gen i - 1) = k at HO ⊢
  have q0 := hok.e0 i; have q1 := hok.e1 i; have q2 := hok.s0 i; have q3 := hok.s1 i; have q4 := hok.g1; have q5 := hok.g2
  clear hok
  generalize r.gen i = g at *
  generalize r.since i = s at *
  generalize r.grace = gr at *
  generalize r.seed = sd at *
  have HC := hid hC; have HH := hid hH; have HT := hid hT; clear hC hH hT
  have hne : (g - 1 == g) = false := by simp; omega
  go_enter Try.func27, Try.ntmps27
  go_wp2_with fail
  refine (HC.out _ A0.out).mono ?_
  rintro e w1 ⟨rfl, hw⟩
  have A1 := hid (show AnsR w b h r w1 from hw ▸ A0.out); clear hw A0
  obtain ⟨c0, c1, f0, f1⟩ := HH.out _ A1.out
  go_wp2_with fail
  refine (has_at _ rfl g _ c0).mono ?_
  rintro e w2 ⟨rfl, hw⟩
  have A2 := hid (show AnsR w b h r w2 from hw ▸ A1.out); clear hw A1 c0 c1 f0 f1
  obtain ⟨c0, c1, f0, f1⟩ := HH.out _ A2.out
  obtain ⟨t0, t1, t2⟩ := HT.out _ A2.out
  go_wp2_with fail
  refine (spares_yes h (i * 2) g s gr now _ c0 c1 hg1 q1 q2 q3 (by omega) (by omega) hnow).mono ?_
  rintro e w4 ⟨rfl, hw⟩
  have A4 := hid (show AnsR w b h r w4 from hw ▸ A2.out); clear hw A2 c0 c1 f0 f1 t0 t1 t2
  obtain ⟨t0, t1, t2⟩ := HT.out _ A4.out
  go_wp2_with fail
  refine (HO.out _).mono ?_
  rintro e w3 ⟨rfl, hg⟩
  have A3 := hid (A4.out.grown hg); clear hg t0 t1 t2 A4
  obtain ⟨x, y, c0, c1, f0, f1⟩ := A3.out.a.cells
  go_wp2_with fail
  clear c0 c1 f0 f1
  have hst := A3.out.a.store (.int .u64 (q k.a)) (.int .u64 (q k.b))
  generalize (w3.setCell ⟨w.heap.size, 0, none⟩ (.int .u64 (q k.a))).setCell ⟨w.heap.size, 1, none⟩ (.int .u64 (q k.b)) = wx at hst ⊢
  have r0 : wx.cell? ⟨w.heap.size, 0, none⟩ = some (.int .u64 (q k.a)) := at_cell hst.1 0
  have r1 : wx.cell? ⟨w.heap.size, 1, none⟩ = some (.int .u64 (q k.b)) := at_cell hst.1 1
  exact bodyPost_ret (v := .tuple #[.agg #[.int .u64 (q k.a), .int .u64 (q k.b)], .int .i64 0]) (by simp [results, Try.results27, go_sem, r0, r1]) rfl ⟨rfl, hst.2⟩

set_option maxHeartbeats 1600000 in
theorem rkey_gen {b h : Nat} {r : Rg} (i : Nat) (gen now : Int) (w : World) (H : RgAt w b h r) (hi : i < r.n) (hk : ¬ r.keyIs i gen now) :
    Calls Try.prog 27 #[.pointer (some ⟨b, 0, none⟩), .int .i64 (i : Int), .int .i64 gen, .int .i64 now] w fun e w' => e = .returned (.tuple #[.agg #[.int .u64 0, .int .u64 0], .int .i64 4]) ∧ w.grownBy w' none := by
  have hok := H.ok
  have A0 := hid (AnsR.new H)
  clear H
  have hC := fun w' (A : AnsR w b h r w') => find_in i w' A.r hi
  have hH := fun w' (A : AnsR w b h r w') => A.r.cells hi
  have hT := fun w' (A : AnsR w b h r w') => A.r.tops
  have q0 := hok.e0 i; have q1 := hok.e1 i; have q2 := hok.s0 i; have q3 := hok.s1 i; have q4 := hok.g1; have q5 := hok.g2
  clear hok
  unfold Rg.keyIs at hk
  generalize r.gen i = g at *
  generalize r.since i = s at *
  generalize r.grace = gr at *
  generalize r.seed = sd at *
  have HC := hid hC; have HH := hid hH; have HT := hid hT; clear hC hH hT
  have hne : (gen != g) = true := by simp; omega
  have hno : gen < 0 ∨ gen ≠ g - 1 ∨ s + (gr : Int) ≤ now := by omega
  have HK := hid hk; clear hk
  go_enter Try.func27, Try.ntmps27
  go_wp2_with fail
  refine (HC.out _ A0.out).mono ?_
  rintro e w1 ⟨rfl, hw⟩
  have A1 := hid (show AnsR w b h r w1 from hw ▸ A0.out); clear hw A0
  obtain ⟨c0, c1, f0, f1⟩ := HH.out _ A1.out
  go_wp2_with fail
  refine (has_at _ rfl g _ c0).mono ?_
  rintro e w2 ⟨rfl, hw⟩
  have A2 := hid (show AnsR w b h r w2 from hw ▸ A1.out); clear hw A1 c0 c1 f0 f1
  obtain ⟨c0, c1, f0, f1⟩ := HH.out _ A2.out
  obtain ⟨t0, t1, t2⟩ := HT.out _ A2.out
  go_wp2_with fail
  refine (spares_no h (i * 2) g s gr gen now _ c0 c1 q0 q1 q2 q3 (by omega) (by omega) hno).mono ?_
  rintro e w3 ⟨rfl, hw⟩
  have A3 := hid (show AnsR w b h r w3 from hw ▸ A2.out); clear hw A2 c0 c1 f0 f1 t0 t1 t2 hno
  obtain ⟨x, y, c0, c1, f0, f1⟩ := A3.out.a.cells
  go_wp2_with fail
  clear c0 c1 f0 f1
  have hst := A3.out.a.store (.int .u64 0) (.int .u64 0)
  generalize (w3.setCell ⟨w.heap.size, 0, none⟩ (.int .u64 0)).setCell ⟨w.heap.size, 1, none⟩ (.int .u64 0) = wx at hst ⊢
  have r0 : wx.cell? ⟨w.heap.size, 0, none⟩ = some (.int .u64 0) := at_cell hst.1 0
  have r1 : wx.cell? ⟨w.heap.size, 1, none⟩ = some (.int .u64 0) := at_cell hst.1 1
  exact bodyPost_ret (v := .tuple #[.agg #[.int .u64 0, .int .u64 0], .int .i64 4]) (by simp [results, Try.results27, go_sem, r0, r1]) rfl ⟨rfl, hst.2⟩

set_option maxHeartbeats 1600000 in
theorem rkey_who {b h : Nat} {r : Rg} (x gen now : Int) (w : World) (H : RgAt w b h r) (hx : x < 0 ∨ (r.n : Int) ≤ x) :
    Calls Try.prog 27 #[.pointer (some ⟨b, 0, none⟩), .int .i64 x, .int .i64 gen, .int .i64 now] w fun e w' => e = .returned (.tuple #[.agg #[.int .u64 0, .int .u64 0], .int .i64 3]) ∧ w.grownBy w' none := by
  have A0 := hid (AnsR.new H)
  have HC := hid (fun w' (A : AnsR w b h r w') => find_out x w' A.r hx)
  clear H
  go_enter Try.func27, Try.ntmps27
  go_wp2_with fail
  refine (HC.out _ A0.out).mono ?_
  rintro e w3 ⟨rfl, hw⟩
  have A3 := hid (show AnsR w b h r w3 from hw ▸ A0.out); clear hw A0
  obtain ⟨x, y, c0, c1, f0, f1⟩ := A3.out.a.cells
  go_wp2_with fail
  clear c0 c1 f0 f1
  have hst := A3.out.a.store (.int .u64 0) (.int .u64 0)
  generalize (w3.setCell ⟨w.heap.size, 0, none⟩ (.int .u64 0)).setCell ⟨w.heap.size, 1, none⟩ (.int .u64 0) = wx at hst ⊢
  have r0 : wx.cell? ⟨w.heap.size, 0, none⟩ = some (.int .u64 0) := at_cell hst.1 0
  have r1 : wx.cell? ⟨w.heap.size, 1, none⟩ = some (.int .u64 0) := at_cell hst.1 1
  exact bodyPost_ret (v := .tuple #[.agg #[.int .u64 0, .int .u64 0], .int .i64 3]) (by simp [results, Try.results27, go_sem, r0, r1]) rfl ⟨rfl, hst.2⟩

set_option maxHeartbeats 1600000 in
theorem rkey_nil (x gen now : Int) (w : World) :
    Calls Try.prog 27 #[.pointer none, .int .i64 x, .int .i64 gen, .int .i64 now] w fun e w' => e = .returned (.tuple #[.agg #[.int .u64 0, .int .u64 0], .int .i64 1]) ∧ w.grownBy w' none := by
  have A0 := hid (Ans.new w 34 (.int .u64 0) (.int .u64 0))
  go_enter Try.func27, Try.ntmps27
  go_wp2_with fail
  refine (find_nil x _).mono ?_
  rintro e w3 ⟨rfl, hw⟩
  have A3 := hid (show Ans w 34 w3 from hw ▸ A0.out); clear hw A0
  obtain ⟨x, y, c0, c1, f0, f1⟩ := A3.out.cells
  go_wp2_with fail
  clear c0 c1 f0 f1
  have hst := A3.out.store (.int .u64 0) (.int .u64 0)
  generalize (w3.setCell ⟨w.heap.size, 0, none⟩ (.int .u64 0)).setCell ⟨w.heap.size, 1, none⟩ (.int .u64 0) = wx at hst ⊢
  have r0 : wx.cell? ⟨w.heap.size, 0, none⟩ = some (.int .u64 0) := at_cell hst.1 0
  have r1 : wx.cell? ⟨w.heap.size, 1, none⟩ = some (.int .u64 0) := at_cell hst.1 1
  exact bodyPost_ret (v := .tuple #[.agg #[.int .u64 0, .int .u64 0], .int .i64 1]) (by simp [results, Try.results27, go_sem, r0, r1]) rfl ⟨rfl, hst.2⟩

/-- what Key answers -/
def Rg.key (r : Rg) (who gen now : Int) : Two64 × Int :=
  if 0 ≤ who ∧ who < (r.n : Int) then if r.keyIs who.toNat gen now then (ofOf r.seed who gen, 0) else (⟨0, 0⟩, 4) else (⟨0, 0⟩, 3)
def keyVal (k : Two64 × Int) : Value := .tuple #[.agg #[.int .u64 (q k.1.a), .int .u64 (q k.1.b)], .int .i64 k.2]
theorem rkey_any {b h : Nat} {r : Rg} (who gen now : Int) (w : World) (H : RgAt w b h r) :
    Calls Try.prog 27 #[.pointer (some ⟨b, 0, none⟩), .int .i64 who, .int .i64 gen, .int .i64 now] w fun e w' => e = .returned (keyVal (r.key who gen now)) ∧ w.grownBy w' none := by
  by_cases h0 : 0 ≤ who ∧ who < (r.n : Int)
  · obtain ⟨i, rfl⟩ := Int.eq_ofNat_of_zero_le h0.1
    have hi : i < r.n := by have := h0.2; omega
    by_cases hk : r.keyIs i gen now
    · rw [show r.key (i : Int) gen now = (ofOf r.seed i gen, 0) by unfold Rg.key; rw [if_pos h0, Int.toNat_natCast, if_pos hk]]
      obtain ⟨k0, rfl | ⟨rfl, hn⟩⟩ := hk
      · exact rkey_now i now w H hi
      · exact rkey_old i now w H hi (by omega) hn
    · rw [show r.key (i : Int) gen now = (⟨0, 0⟩, 4) by unfold Rg.key; rw [if_pos h0, Int.toNat_natCast, if_neg hk]]
      exact rkey_gen i gen now w H hi hk
  · rw [show r.key who gen now = (⟨0, 0⟩, 3) by unfold Rg.key; rw [if_neg h0]]
    exact rkey_who who gen now w H (by omega)
end Go.Proofs.Ytmnmekjbjccamaa
