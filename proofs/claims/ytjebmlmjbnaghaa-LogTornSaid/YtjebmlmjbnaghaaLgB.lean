/-
  Contracts for package log's Sum and the document's own. The condition: at most 100 bytes.
-/
import Derived.Test.YtjebmlmjbnaghaaLgA
import Derived.LoopTactic
set_option linter.unusedSimpArgs false
set_option linter.unusedVariables false
namespace Go.Proofs.Ytjebmlmjbnaghaa
set_option maxRecDepth 100000
open Go.RowKit

theorem addn_u32 (a : Addr) (x y s : Int) (w : World) (hc : w.cell? a = some (.int .u32 x)) (hz : w.frozen? a = false) (hs : IntKind.u32.wrap (x + y) = s) :
    Calls Try.prog 29 #[.pointer (some a), .int .u32 y] w fun e w' => e = .returned (.int .u32 s) ∧ w' = w.setCell a (.int .u32 s) := by
  have hadd := run_call_add (P := Try.prog) Try.func33 (by kernel_rfl) (by kernel_rfl) (by kernel_rfl) .u32 (by kernel_rfl) (y := y) (s := s) hc hz (by rw [show Op.intArith .add .u32 x y = pure (.int .u32 (IntKind.u32.wrap (x + y))) from rfl, hs]; rfl)
  clear hs
  go_enter Try.func29, Try.ntmps29
  go_wp2
  go_ret
  exact ⟨rfl, rfl⟩
theorem load_u32 (a : Addr) (x : Int) (w : World) (hc : w.cell? a = some (.int .u32 x)) :
    Calls Try.prog 30 #[.pointer (some a)] w fun e w' => e = .returned (.int .u32 x) ∧ w = w' := by
  have hl := run_call_load (P := Try.prog) Try.func34 (by kernel_rfl) (by kernel_rfl) (by kernel_rfl) .u32 (by kernel_rfl) hc
  go_enter Try.func30, Try.ntmps30
  go_wp2
  go_ret
  exact ⟨rfl, rfl⟩

theorem sumF_small {l : List UInt8} {k : Nat} (hk : k ≤ 100) : sumF l k ≤ 2560000 := by
  have h1 := sumF_le l k
  have h2 : k * k ≤ 100 * 100 := Nat.mul_le_mul hk hk
  omega
theorem sumF_succ (l : List UInt8) (k : Nat) : sumF l (k + 1) = sumF l k + (k + 1) * ((l.getD k 0).toNat + 1) := rfl
/-- what a round of the sum reckons -/
theorem sum_round (l : List UInt8) (k : Nat) (hk : k < 100) : ∃ P : Int, 0 ≤ P ∧ P ≤ 2560000 ∧ IntKind.u32.wrap (((k : Int) + 1) * (((l.getD k 0).toNat : Int) + 1)) = P ∧ IntKind.u32.wrap ((sumF l k : Int) + P) = (sumF l (k + 1) : Int) := by
  have h1 := sumF_small (l := l) (k := k + 1) (by omega)
  have h2 := sumF_succ l k
  have hm : (((k + 1) * ((l.getD k 0).toNat + 1) : Nat) : Int) = ((k : Int) + 1) * (((l.getD k 0).toNat : Int) + 1) := by push_cast; rfl
  refine ⟨(((k + 1) * ((l.getD k 0).toNat + 1) : Nat) : Int), by omega, by omega, ?_, ?_⟩
  · rw [← hm, IntKind.wrap_u32]; omega
  · rw [IntKind.wrap_u32, h2]; omega
theorem byteD {l : List UInt8} {i : Nat} (h : i < l.length) : l.getD i 0 = l[i] := by simp [h]

set_option maxHeartbeats 1600000 in
theorem lsum_any (l : List UInt8) (v : Value) (w : World) (hl : BytesAt w v l) (h100 : l.length ≤ 100) :
    Calls Try.prog 19 #[v] w fun e w' => e = .returned (.int .u32 (sumN l : Int)) ∧ w.grownBy w' none := by
  obtain ⟨p, c, rfl⟩ := hl.form
  have A0 := hid (at_new w (.cells #[.int .u32 0] 66))
  have HL := hid hl
  have h100' : (l.length : Int) ≤ 100 := by omega
  clear hl
  go_enter Try.func19, Try.ntmps19
  go_wp2_with fail
  go_loopw [8] (fun i wr => ∃ k : Nat, k ≤ l.length ∧ i = .int .i64 (k : Int) ∧ wr.heap[w.heap.size]? = some (.cells #[.int .u32 (sumF l k : Int)] 66) ∧ w.grownBy wr none) (fun i _ => l.length - (intOf i).toNat)
  case atStart => exact ⟨0, by omega, rfl, A0.out, gb_alloc (.refl w none) _⟩
  case round =>
    obtain ⟨k, hk, rfl, hb, hg⟩ := hrel
    have HB := hid hb; have HG := hid hg; clear hb hg
    have a0 : wr.cell? ⟨w.heap.size, 0, none⟩ = some (.int .u32 (sumF l k : Int)) := by rw [at_cell HB.out 0]; rfl
    have f0 : wr.frozen? ⟨w.heap.size, 0, none⟩ = false := at_free HB.out 0
    have hk0 : (0 : Int) ≤ (k : Int) := by omega
    by_cases hlt : k < l.length
    · have hk1 : (k : Int) < (l.length : Int) := by omega
      have hk2 : (k : Int) < 100 := by omega
      obtain ⟨ab, ao, cap, hf, hc⟩ := HL.out.cells (by omega)
      have c0 : wr.cell? ⟨ab, ao + k, none⟩ = some (.int .u8 ((l.getD k 0).toNat : Int)) := by
        rw [byteD hlt]; exact HG.out.cell (hc k hlt) (by simp)
      have hcap : l.length ≤ cap := by
        rcases HL.out with ⟨h, _⟩ | ⟨_, _, h, h2, _⟩
        · rw [h] at hf; cases hf
        · rw [h] at hf; cases hf; exact h2
      cases hf
      clear hc
      obtain ⟨P, hp0, hp1, hp2, hp3⟩ := sum_round l k (by omega)
      have hx := (l.getD k 0).toNat_lt
      have HS := hid (at_set HB.out 0 (.int .u32 (sumF l (k + 1) : Int)))
      have HP := hid (addn_u32 ⟨w.heap.size, 0, none⟩ _ _ _ wr a0 f0 hp3)
      generalize ((l.getD k 0).toNat : Nat) = x at *
      generalize (sumF l k : Int) = S at *
      clear hp3 a0 f0
      go_wp2_with fail
      refine HP.out.mono ?_
      rintro e w1 ⟨rfl, rfl⟩
      go_wp2_with fail
      go_roundw
      case rel => exact ⟨k + 1, by omega, by go_num, HS.out, gb_new HG.out (Nat.le_refl _) _⟩
      case measure => simp [intOf]; omega
    · have hk8 : k = l.length := by omega
      subst hk8
      have HP := hid (load_u32 ⟨w.heap.size, 0, none⟩ _ wr a0)
      clear a0 f0
      go_wp2_with fail
      refine HP.out.mono ?_
      rintro e w1 ⟨rfl, rfl⟩
      go_wp2_with fail
      go_ret
      exact ⟨rfl, HG.out⟩

theorem byteAt_size (s : ByteArray) (i : Nat) (h : i < s.size) : s.data.toList.getD i 0 = s[i] := by
  have h2 : i < s.data.toList.length := by simpa using h
  rw [byteD h2]; rfl
set_option maxHeartbeats 1600000 in
theorem rsum_any (s : ByteArray) (h100 : s.size ≤ 100) (w : World) :
    Calls Try.prog 20 #[.string s] w fun e w' => e = .returned (.int .u32 (sumN s.data.toList : Int)) ∧ w = w' := by
  obtain ⟨N, hN⟩ : ∃ N, N = s.size := ⟨_, rfl⟩
  have hL : sumN s.data.toList = sumF s.data.toList N := by unfold sumN; rw [hN]; simp
  have h100' : (s.size : Int) ≤ 100 := by omega
  have HN := hid hN
  rw [hL]
  clear hL hN
  go_enter Try.func20, Try.ntmps20
  go_wp2_with fail
  go_loop [3, 4] (fun n i => ∃ k : Nat, k ≤ s.size ∧ i = .int .i64 (k : Int) ∧ n = .int .u32 (sumF s.data.toList k : Int)) (fun _ i => s.size - (intOf i).toNat)
  case atStart => exact ⟨0, by omega, rfl, rfl⟩
  case round =>
    obtain ⟨k, hk, rfl, rfl⟩ := hrel
    have hk0 : (0 : Int) ≤ (k : Int) := by omega
    by_cases hlt : k < s.size
    · have hk1 : (k : Int) < (s.size : Int) := by omega
      have hk2 : (k : Int) < 100 := by omega
      have hb := byteAt_size s k hlt
      obtain ⟨P, hp0, hp1, hp2, hp3⟩ := sum_round s.data.toList k (by omega)
      have HS := hid hp3
      rw [hb] at hp2
      have hx := (s[k]).toNat_lt
      have h4 := sumF_small (l := s.data.toList) (k := k) (by omega)
      have h5 := sumF_small (l := s.data.toList) (k := k + 1) (by omega)
      clear hb
      go_wp2_with fail
      go_round
      case rel => exact ⟨k + 1, by omega, by go_num, by rw [← HS.out]⟩
      case measure => simp [intOf]; omega
    · have hk8 : k = s.size := by omega
      subst hk8
      go_wp2_with fail
      go_ret
      exact ⟨by rw [HN.out]; rfl, rfl⟩
end Go.Proofs.Ytjebmlmjbnaghaa
