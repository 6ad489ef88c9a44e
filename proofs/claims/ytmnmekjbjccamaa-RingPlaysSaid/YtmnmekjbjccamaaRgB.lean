/-
  Contracts for package ring's calls. The condition of a call: the ring lies there; or it is nil.
-/
import Derived.Test.YtmnmekjbjccamaaRg
import Derived.Test.YtmnmekjbjccamaaMacO
set_option linter.unusedSimpArgs false
set_option linter.unusedVariables false
namespace Go.Proofs.Ytmnmekjbjccamaa
set_option maxRecDepth 100000
open Go.RowKit

/-- is the old key still there? -/
theorem spares_yes (h k : Nat) (g s gr now : Int) (w : World) (c0 : w.cell? ⟨h, k, none⟩ = some (.int .i64 g)) (c1 : w.cell? ⟨h, k + 1, none⟩ = some (.int .i64 s))
    (g0 : 1 ≤ g) (g1 : g ≤ 60000) (s0 : 0 ≤ s) (s1 : s ≤ 1099511627776) (r0 : 0 ≤ gr) (r1 : gr ≤ 100) (hn : now < s + gr) :
    Calls Try.prog 44 #[.pointer (some ⟨h, k, none⟩), .int .i64 (g - 1), .int .i64 now, .int .i64 gr] w fun e w' => e = .returned (.bool true) ∧ w = w' := by
  have d0 : (0 : Int) ≤ g - 1 := by omega
  go_enter Try.func44, Try.ntmps44
  go_wp2_with fail
  refine (has_at _ rfl g _ c0).mono ?_
  rintro e w' ⟨rfl, rfl⟩
  go_wp2_with fail
  go_ret
  exact ⟨rfl, rfl⟩
theorem spares_no (h k : Nat) (g s gr gen now : Int) (w : World) (c0 : w.cell? ⟨h, k, none⟩ = some (.int .i64 g)) (c1 : w.cell? ⟨h, k + 1, none⟩ = some (.int .i64 s))
    (g0 : 0 ≤ g) (g1 : g ≤ 60000) (s0 : 0 ≤ s) (s1 : s ≤ 1099511627776) (r0 : 0 ≤ gr) (r1 : gr ≤ 100) (hn : gen < 0 ∨ gen ≠ g - 1 ∨ s + gr ≤ now) :
    Calls Try.prog 44 #[.pointer (some ⟨h, k, none⟩), .int .i64 gen, .int .i64 now, .int .i64 gr] w fun e w' => e = .returned (.bool false) ∧ w = w' := by
  by_cases h0 : gen < 0
  · have d0 : decide (0 ≤ gen) = false := by simp; omega
    go_enter Try.func44, Try.ntmps44
    go_wp2_with fail
    go_ret
    exact ⟨rfl, rfl⟩
  · have d0 : decide (0 ≤ gen) = true := by simp; omega
    have d1 : (0 : Int) ≤ gen := by omega
    by_cases h1 : gen = g - 1
    · subst h1
      have d2 : decide (now < s + gr) = false := by simp; omega
      go_enter Try.func44, Try.ntmps44
      go_wp2_with fail
      refine (has_at _ rfl g _ c0).mono ?_
      rintro e w' ⟨rfl, rfl⟩
      go_wp2_with fail
      go_ret
      exact ⟨rfl, rfl⟩
    · have d2 : (gen == g - 1) = false := by simpa using h1
      go_enter Try.func44, Try.ntmps44
      go_wp2_with fail
      refine (has_at _ rfl g _ c0).mono ?_
      rintro e w' ⟨rfl, rfl⟩
      go_wp2_with fail
      go_ret
      exact ⟨rfl, rfl⟩

/-- which keys there are -/
def Rg.keyIs (r : Rg) (i : Nat) (gen now : Int) : Prop := 0 ≤ gen ∧ (gen = r.gen i ∨ gen = r.gen i - 1 ∧ now < r.since i + (r.grace : Int))
instance (r : Rg) (i : Nat) (gen now : Int) : Decidable (r.keyIs i gen now) := by unfold Rg.keyIs; infer_instance

/-- a call that has its answer's block, and a ring that came in -/
structure AnsR (w : World) (b h : Nat) (r : Rg) (w' : World) : Prop where
  a : Ans w 34 w'
  r : RgAt w' b h r
theorem AnsR.new {w : World} {b h : Nat} {r : Rg} (H : RgAt w b h r) : AnsR w b h r (w.alloc (.cells #[.int .u64 0, .int .u64 0] 34)) := ⟨.new w _ _ _, H.grown (World.grownBy_alloc w _ none)⟩
theorem AnsR.grown {w w1 w2 : World} {b h : Nat} {r : Rg} (A : AnsR w b h r w1) (hg : w1.grownBy w2 none) : AnsR w b h r w2 := ⟨A.a.grown hg, A.r.grown hg⟩


set_option maxHeartbeats 1600000 in
theorem rkey_now {b h : Nat} {r : Rg} (i : Nat) (now : Int) (w : World) (H : RgAt w b h r) (hi : i < r.n) :
    Calls Try.prog 27 #[.pointer (some ⟨b, 0, none⟩), .int .i64 (i : Int), .int .i64 (r.gen i), .int .i64 now] w fun e w' => e = .returned (.tuple #[.agg #[.int .u64 (q (ofOf r.seed i (r.gen i)).a), .int .u64 (q (ofOf r.seed i (r.gen i)).b)], .int .i64 0]) ∧ w.grownBy w' none := by
  have hf := fun w (A : AnsR w b h r w) => A
  have A0 := hid (AnsR.new H)
  clear hf H
  have HO := hid (fun w => of_any r.seed (i : Int) (r.gen i) w)
  generalize ofOf r.seed i (r.gen i) = k at HO ⊢
  have hC := fun w' (A : AnsR w b h r w') => find_in i w' A.r hi
  have hH := fun w' (A : AnsR w b h r w') => A.r.cells hi
  have hT := fun w' (A : AnsR w b h r w') => A.r.tops
  generalize r.gen i = g at *
  generalize r.seed = sd at *
  have HC := hid hC; have HH := hid hH; have HT := hid hT; clear hC hH hT
  go_enter Try.func27, Try.ntmps27
  go_wp2_with fail
  refine (HC.out _ A0.out).mono ?_
  rintro e w1 ⟨rfl, hw⟩
  have A1 := hid (show AnsR w b h r w1 from hw ▸ A0.out); clear hw A0
  obtain ⟨c0, c1, f0, f1⟩ := HH.out _ A1.out
  go_wp2_with fail
  refine (has_at _ rfl g _ c0).mono ?_
  rintro e w2 ⟨rfl, hw⟩
  have A2 := hid (show AnsR w b h r w2 from hw ▸ A1.out); clear hw A1 c0 c1 f0 f1
  obtain ⟨t0, t1, t2⟩ := HT.out _ A2.out
  go_wp2_with fail
  refine (HO.out _).mono ?_
  rintro e w3 ⟨rfl, hg⟩
  have A3 := hid (A2.out.grown hg); clear hg t0 t1 t2 A2
  obtain ⟨x, y, c0, c1, f0, f1⟩ := A3.out.a.cells
  go_wp2_with fail
  clear c0 c1 f0 f1
  have hst := A3.out.a.store (.int .u64 (q k.a)) (.int .u64 (q k.b))
  generalize (w3.setCell ⟨w.heap.size, 0, none⟩ (.int .u64 (q k.a))).setCell ⟨w.heap.size, 1, none⟩ (.int .u64 (q k.b)) = wx at hst ⊢
  obtain ⟨r0, r1⟩ := pair_cells hst.1
  exact bodyPost_ret (v := .tuple #[pair k.a k.b, .int .i64 0]) (by simp [results, Try.results27, go_sem, r0, r1]) rfl ⟨rfl, hst.2⟩
end Go.Proofs.Ytmnmekjbjccamaa
