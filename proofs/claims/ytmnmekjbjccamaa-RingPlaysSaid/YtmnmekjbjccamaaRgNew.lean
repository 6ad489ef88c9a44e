/-
  Contracts for making a ring: the program's and the document's. No condition.
-/
import Derived.Test.YtmnmekjbjccamaaRfB
import Derived.Test.YtmnmekjbjccamaaRefSum
set_option linter.unusedSimpArgs false
set_option linter.unusedVariables false
namespace Go.Proofs.Ytmnmekjbjccamaa
set_option maxRecDepth 100000
open Go.RowKit

theorem made_all (a : Value) (m j : Nat) (h : j < m) : (madeCells #[a, a] m)[j]? = some a := by
  have : j % 2 = 0 ∨ j % 2 = 1 := by omega
  rcases this with e | e <;> simp [madeCells, h, e]
theorem made_one (a : Value) (m j : Nat) (h : j < m) : (madeCells #[a] m)[j]? = some a := by
  rw [← Array.getElem?_toList, toList_madeCells_one, List.getElem?_replicate, if_pos h]
theorem info_holder : (Try.prog.info? 86).map (fun i => (i.zero, i.size, i.bytes)) = some (some (.agg #[.int .i64 0, .int .i64 0]), 2, 16) := by kernel_rfl
theorem info_int : (Try.prog.info? 3).map (fun i => (i.zero, i.size, i.bytes)) = some (some (.int .i64 0), 1, 8) := by kernel_rfl
theorem info_int64 : (Try.prog.info? 2).map (fun i => (i.zero, i.size, i.bytes)) = some (some (.int .i64 0), 1, 8) := by kernel_rfl
def hCells (n : Nat) : Array Value := madeCells #[.int .i64 0, .int .i64 0] (n * 2)
def iCells (n : Nat) : Array Value := madeCells #[.int .i64 0] n
theorem mk_holders (n : Nat) (hn : n ≤ 16) (u : World) : (Instr.makeSlice 74 (.int .i64 (n : Int)) (.int .i64 (n : Int))).run Try.prog u = .ok (.slice (some ⟨u.heap.size, 0, none⟩) n n) (u.alloc (.cells (hCells n) 86)) := by
  obtain ⟨i, hi, hz0, hz1, hz2⟩ := info_parts info_holder
  have := run_makeSlice (P := Try.prog) u 74 86 i _ Try.underlying74 hi hz0 .i64 .i64 (n : Int) (n : Int) (by omega) (Int.le_refl _) (by rw [hz1]; omega) (by rw [hz2]; omega) (by omega)
  rw [this, hz1]
  simp [hCells, Value.cells]
theorem mk_ints (n : Nat) (hn : n ≤ 16) (u : World) : (Instr.makeSlice 46 (.int .i64 (n : Int)) (.int .i64 (n : Int))).run Try.prog u = .ok (.slice (some ⟨u.heap.size, 0, none⟩) n n) (u.alloc (.cells (iCells n) 3)) := by
  obtain ⟨i, hi, hz0, hz1, hz2⟩ := info_parts info_int
  have := run_makeSlice (P := Try.prog) u 46 3 i _ Try.underlying46 hi hz0 .i64 .i64 (n : Int) (n : Int) (by omega) (Int.le_refl _) (by rw [hz1]; omega) (by rw [hz2]; omega) (by omega)
  rw [this, hz1]
  simp [iCells, Value.cells]
theorem mk_int64s (n : Nat) (hn : n ≤ 16) (u : World) : (Instr.makeSlice 47 (.int .i64 (n : Int)) (.int .i64 (n : Int))).run Try.prog u = .ok (.slice (some ⟨u.heap.size, 0, none⟩) n n) (u.alloc (.cells (iCells n) 2)) := by
  obtain ⟨i, hi, hz0, hz1, hz2⟩ := info_parts info_int64
  have := run_makeSlice (P := Try.prog) u 47 2 i _ Try.underlying47 hi hz0 .i64 .i64 (n : Int) (n : Int) (by omega) (Int.le_refl _) (by rw [hz1]; omega) (by rw [hz2]; omega) (by omega)
  rw [this, hz1]
  simp [iCells, Value.cells]

/-- what New makes -/
def MadeR (w : World) (r : Rg) (e : Ending) (w' : World) : Prop := ∃ b h, e = .returned (.pointer (some ⟨b, 0, none⟩)) ∧ RgAt w' b h r ∧ w.grownBy w' none ∧ w.heap.size ≤ b ∧ w.heap.size ≤ h
def MadeF (w : World) (r : Rg) (e : Ending) (w' : World) : Prop := ∃ b g s, e = .returned (.pointer (some ⟨b, 0, none⟩)) ∧ RfAt w' b g s r ∧ w.grownBy w' none ∧ w.heap.size ≤ b ∧ w.heap.size ≤ g ∧ w.heap.size ≤ s

theorem rnew_nil (seed : BitVec 64) (n grace : Int) (h : ¬ (1 ≤ n ∧ n ≤ 16 ∧ 1 ≤ grace ∧ grace ≤ 100)) (w : World) :
    Calls Try.prog 20 #[.int .u64 (q seed), .int .i64 n, .int .i64 grace] w fun e w' => e = .returned (.pointer none) ∧ w = w' := by
  by_cases h1 : 1 ≤ n ∧ n ≤ 16
  · have h2 : grace < 1 ∨ 100 < grace := by omega
    obtain ⟨h3, h4⟩ := h1
    clear h
    go_enter Try.func20, Try.ntmps20
    go_wp2_with fail
    refine (within_in n 1 16 h3 h4 _).mono ?_
    rintro e w1 ⟨rfl, rfl⟩
    go_wp2_with fail
    refine (within_out grace 1 100 h2 _).mono ?_
    rintro e w1 ⟨rfl, rfl⟩
    go_wp2_with fail
    go_ret
    exact ⟨rfl, rfl⟩
  · have h2 : n < 1 ∨ 16 < n := by omega
    clear h h1
    go_enter Try.func20, Try.ntmps20
    go_wp2_with fail
    refine (within_out n 1 16 h2 _).mono ?_
    rintro e w1 ⟨rfl, rfl⟩
    go_wp2_with fail
    go_ret
    exact ⟨rfl, rfl⟩

theorem made_rg (seed : BitVec 64) (n grace : Nat) (h1 : 1 ≤ n) (h2 : n ≤ 16) (h3 : 1 ≤ grace) (h4 : grace ≤ 100) (w : World) :
    RgAt ((w.alloc (.cells (hCells n) 86)).alloc (.cells #[.int .u64 (q seed), .int .i64 (grace : Int), .slice (some ⟨w.heap.size, 0, none⟩) n n] 76)) (w.heap.size + 1) w.heap.size (.new seed n grace) :=
  ⟨at_new2 w _ _, ⟨_, at_alloc (at_new w _) _, fun i hi => ⟨made_all _ _ _ (by have : i < n := hi; omega), made_all _ _ _ (by have : i < n := hi; omega)⟩⟩, by omega, rg_new_ok seed h1 h2 h3 h4⟩

set_option maxHeartbeats 1600000 in
theorem rnew_ok (seed : BitVec 64) (n grace : Nat) (h1 : 1 ≤ n) (h2 : n ≤ 16) (h3 : 1 ≤ grace) (h4 : grace ≤ 100) (w : World) :
    Calls Try.prog 20 #[.int .u64 (q seed), .int .i64 (n : Int), .int .i64 (grace : Int)] w (MadeR w (.new seed n grace)) := by
  have L := hid (made_rg seed n grace h1 h2 h3 h4 w)
  have hm := mk_holders n h2 w
  go_enter Try.func20, Try.ntmps20
  go_wp2_with fail
  refine (within_in (n : Int) 1 16 (by omega) (by omega) _).mono ?_
  rintro e w1 ⟨rfl, rfl⟩
  go_wp2_with fail
  refine (within_in (grace : Int) 1 100 (by omega) (by omega) _).mono ?_
  rintro e w1 ⟨rfl, rfl⟩
  go_wp2_with fail
  go_ret
  exact ⟨_, _, rfl, L.out, gb_alloc (gb_alloc (.refl w none) _) _, by omega, Nat.le_refl _⟩

theorem fnew_nil (seed : BitVec 64) (n grace : Int) (h : ¬ (1 ≤ n ∧ n ≤ 16 ∧ 1 ≤ grace ∧ grace ≤ 100)) (w : World) :
    Calls Try.prog 21 #[.int .u64 (q seed), .int .i64 n, .int .i64 grace] w fun e w' => e = .returned (.pointer none) ∧ w = w' := by
  by_cases h1 : n < 1
  · have d1 : decide (n < 1) = true := by simpa using h1
    clear h
    go_enter Try.func21, Try.ntmps21
    go_wp2_with fail
    go_ret
    exact ⟨rfl, rfl⟩
  have d1 : decide (n < 1) = false := by simpa using h1
  by_cases h2 : 16 < n
  · have d2 : decide (16 < n) = true := by simpa using h2
    clear h
    go_enter Try.func21, Try.ntmps21
    go_wp2_with fail
    go_ret
    exact ⟨rfl, rfl⟩
  have d2 : decide (16 < n) = false := by simpa using h2
  by_cases h3 : grace < 1
  · have d3 : decide (grace < 1) = true := by simpa using h3
    clear h
    go_enter Try.func21, Try.ntmps21
    go_wp2_with fail
    go_ret
    exact ⟨rfl, rfl⟩
  have d3 : decide (grace < 1) = false := by simpa using h3
  have d4 : decide (100 < grace) = true := by simp; omega
  clear h
  go_enter Try.func21, Try.ntmps21
  go_wp2_with fail
  go_ret
  exact ⟨rfl, rfl⟩

theorem made_rf1 (seed : BitVec 64) (n grace : Nat) (h1 : 1 ≤ n) (h2 : n ≤ 16) (h3 : 1 ≤ grace) (h4 : grace ≤ 100) (w : World) :
    RfAt (((w.alloc (.cells (iCells n) 3)).alloc (.cells (iCells n) 2)).alloc (.cells #[.int .u64 (q seed), .int .i64 (grace : Int), .slice (some ⟨w.heap.size, 0, none⟩) n n, .slice (some ⟨w.heap.size + 1, 0, none⟩) n n] 49)) (w.heap.size + 1 + 1) w.heap.size (w.heap.size + 1) (.new seed n grace) :=
  ⟨by have := at_new2 (w.alloc (.cells (iCells n) 3)) (.cells (iCells n) 2) (.cells #[.int .u64 (q seed), .int .i64 (grace : Int), .slice (some ⟨w.heap.size, 0, none⟩) n n, .slice (some ⟨w.heap.size + 1, 0, none⟩) n n] 49); rwa [size_alloc] at this,
    ⟨_, at_alloc (at_alloc (at_new w _) _) _, fun i hi => made_one _ _ _ hi⟩, ⟨_, at_alloc (at_new2 w _ _) _, fun i hi => made_one _ _ _ hi⟩, by omega, by omega, by omega, rg_new_ok seed h1 h2 h3 h4⟩
theorem made_rf2 (seed : BitVec 64) (n grace : Nat) (h1 : 1 ≤ n) (h2 : n ≤ 16) (h3 : 1 ≤ grace) (h4 : grace ≤ 100) (w : World) :
    RfAt (((w.alloc (.cells (iCells n) 2)).alloc (.cells (iCells n) 3)).alloc (.cells #[.int .u64 (q seed), .int .i64 (grace : Int), .slice (some ⟨w.heap.size + 1, 0, none⟩) n n, .slice (some ⟨w.heap.size, 0, none⟩) n n] 49)) (w.heap.size + 1 + 1) (w.heap.size + 1) w.heap.size (.new seed n grace) :=
  ⟨by have := at_new2 (w.alloc (.cells (iCells n) 2)) (.cells (iCells n) 3) (.cells #[.int .u64 (q seed), .int .i64 (grace : Int), .slice (some ⟨w.heap.size + 1, 0, none⟩) n n, .slice (some ⟨w.heap.size, 0, none⟩) n n] 49); rwa [size_alloc] at this,
    ⟨_, at_alloc (at_new2 w _ _) _, fun i hi => made_one _ _ _ hi⟩, ⟨_, at_alloc (at_alloc (at_new w _) _) _, fun i hi => made_one _ _ _ hi⟩, by omega, by omega, by omega, rg_new_ok seed h1 h2 h3 h4⟩

set_option maxHeartbeats 1600000 in
theorem fnew_ok (seed : BitVec 64) (n grace : Nat) (h1 : 1 ≤ n) (h2 : n ≤ 16) (h3 : 1 ≤ grace) (h4 : grace ≤ 100) (w : World) :
    Calls Try.prog 21 #[.int .u64 (q seed), .int .i64 (n : Int), .int .i64 (grace : Int)] w (MadeF w (.new seed n grace)) := by
  have L1 := hid (made_rf1 seed n grace h1 h2 h3 h4 w)
  have L2 := hid (made_rf2 seed n grace h1 h2 h3 h4 w)
  have d1 : decide ((n : Int) < 1) = false := by simp; omega
  have d2 : decide ((16 : Int) < (n : Int)) = false := by simp; omega
  have d3 : decide ((grace : Int) < 1) = false := by simp; omega
  have d4 : decide ((100 : Int) < (grace : Int)) = false := by simp; omega
  have hm1 := mk_ints n h2
  have hm2 := mk_int64s n h2
  go_enter Try.func21, Try.ntmps21
  go_wp2_with fail
  go_region
  all_goals
    go_wp2_with fail
    go_ret
    first
    | exact ⟨_, _, _, rfl, ⟨L1.out.top, L1.out.gens, L1.out.sinces, L1.out.bg, L1.out.bs, L1.out.gs, L1.out.ok⟩, gb_drew (gb_alloc (gb_alloc (gb_alloc (.refl w none) _) _) _), by omega, by omega, by omega⟩
    | exact ⟨_, _, _, rfl, ⟨L2.out.top, L2.out.gens, L2.out.sinces, L2.out.bg, L2.out.bs, L2.out.gs, L2.out.ok⟩, gb_drew (gb_alloc (gb_alloc (gb_alloc (.refl w none) _) _) _), by omega, by omega, by omega⟩
end Go.Proofs.Ytmnmekjbjccamaa
