/-
  Contracts for package calm: the object, its inner functions; the least and the greatest of a slice. The condition of a call: the object lies there, a slice reads as numbers.
-/
import Derived.Test.YtnpaecbdejemnaaCaP
import Derived.Test.YtnpaecbdejemnaaI64
import Derived.Test.YtnpaecbdejemnaaIntN
import Derived.Test.YtnpaecbdejemnaaKf
import Derived.Laws.CopyRow
import Derived.LoopTactic
import Derived.BigQuiet
import Derived.Deep.QuietTactic
import Derived.WalkSpells
import Derived.WalkLawsBesides
set_option linter.unusedSimpArgs false
set_option linter.unusedVariables false
namespace Go.Proofs.Ytnpaecbdejemnaa
set_option maxRecDepth 100000
open Go.RowKit

/-- the cells of a Calm -/
def caCells (u d n : Nat) (ws : List Int) : Array Value := (((u : Int) :: (d : Int) :: (n : Int) :: ws).map iv).toArray
structure CaAt (w : World) (b : Nat) (c : Ca) : Prop where
  top : ∃ ws : List Int, ws.length = 61 ∧ ws.take c.l.length = c.l ∧ w.heap[b]? = some (.cells (caCells c.up c.down c.l.length ws) 46)
  ok : c.Ok
section
variable {w w' : World} {F : List Nat} {b : Nat} {c : Ca}
theorem CaAt.chg (H : CaAt w b c) (hc : Chg F w w') (hb : b ∉ F) : CaAt w' b c := by
  obtain ⟨⟨ws, h1, h2, h3⟩, ho⟩ := H
  exact ⟨⟨ws, h1, h2, hc.at h3 hb⟩, ho⟩
theorem CaAt.grown (H : CaAt w b c) (hg : w.grownBy w' none) : CaAt w' b c := H.chg (chg_grown hg []) (by simp)
theorem CaAt.drew (H : CaAt w b c) : CaAt w.drew b c := ⟨H.top, H.ok⟩
theorem CaAt.drewN (H : CaAt w b c) (n : Nat) : CaAt (w.drewN n) b c := ⟨H.top, H.ok⟩
theorem CaAt.lt (H : CaAt w b c) : b < w.heap.size := by obtain ⟨⟨ws, _, _, h3⟩, _⟩ := H; exact at_lt h3
theorem ca_cell0 (u d n : Nat) (ws : List Int) : (caCells u d n ws)[0]? = some (.int .i64 (u : Int)) := by simp [caCells, iv]
theorem ca_cell1 (u d n : Nat) (ws : List Int) : (caCells u d n ws)[1]? = some (.int .i64 (d : Int)) := by simp [caCells, iv]
theorem ca_cell2 (u d n : Nat) (ws : List Int) : (caCells u d n ws)[2]? = some (.int .i64 (n : Int)) := by simp [caCells, iv]
theorem ca_cellk (u d n : Nat) (ws : List Int) (k : Nat) : (caCells u d n ws)[3 + k]? = (ws[k]?).map iv := by
  rw [caCells, List.getElem?_toArray, Nat.add_comm]; simp
theorem CaAt.cells (H : CaAt w b c) : w.cell? ⟨b, 0, none⟩ = some (.int .i64 (c.up : Int)) ∧ w.cell? ⟨b, 1, none⟩ = some (.int .i64 (c.down : Int)) ∧ w.cell? ⟨b, 2, none⟩ = some (.int .i64 (c.l.length : Int)) ∧ ∀ k, w.frozen? ⟨b, k, none⟩ = false := by
  obtain ⟨⟨ws, h1, h2, h3⟩, ho⟩ := H
  exact ⟨by rw [at_cell h3, ca_cell0], by rw [at_cell h3, ca_cell1], by rw [at_cell h3, ca_cell2], fun k => at_free h3 k⟩
theorem Ca.Ok.n61 (h : c.Ok) : c.l.length ≤ 61 := by
  have := h.u; have := h.d; have := h.n
  unfold Ca.most at *; omega
theorem CaAt.ints (H : CaAt w b c) : IntsAt w (.slice (some ⟨b, 3, none⟩) c.l.length 61) c.l := by
  have hn := H.ok.n61
  obtain ⟨⟨ws, h1, h2, h3⟩, ho⟩ := H
  refine .inr ⟨_, 61, rfl, hn, by unfold maxLen; omega, fun i hi => ?_⟩
  rw [iadd_at, at_cell h3, ca_cellk]
  have : c.l[i]? = ws[i]? := by
    have e : (ws.take c.l.length)[i]? = c.l[i]? := by rw [h2]
    rw [← e, List.getElem?_take, if_pos hi]
  rw [← this, List.getElem?_eq_getElem hi]; rfl
end

/-- which numbers may be -/
theorem may_any (n hi : Int) (w : World) :
    Calls Try.prog 17 #[.int .i64 n, .int .i64 hi] w fun e w' => e = .returned (.bool (decide (0 ≤ n) && decide (n ≤ hi))) ∧ w = w' := by
  cases h0 : decide (0 ≤ n) with
  | false =>
    have h0' : ¬ 0 ≤ n := by simpa using h0
    go_enter Try.func17, Try.ntmps17
    go_wp2_with fail
    go_ret
    exact ⟨rfl, rfl⟩
  | true =>
    have h0' : 0 ≤ n := by simpa using h0
    go_enter Try.func17, Try.ntmps17
    go_wp2_with fail
    go_ret
    exact ⟨by simp, rfl⟩
def okC (x : Int) : Bool := decide (0 ≤ x) && decide (x ≤ 1000000)
theorem beyond_any (x : Int) (w : World) :
    Calls Try.prog 25 #[.int .i64 x] w fun e w' => e = .returned (.bool (!okC x)) ∧ w = w' := by
  have H := hid (may_any x 1000000)
  unfold okC
  generalize (decide (0 ≤ x) && decide (x ≤ 1000000)) = z at *
  go_enter Try.func25, Try.ntmps25
  go_wp2_with fail
  refine (H.out _).mono ?_
  rintro e w1 ⟨rfl, rfl⟩
  go_wp2_with fail
  go_ret
  exact ⟨rfl, rfl⟩
theorem tame_any (x : Int) (w : World) :
    Calls Try.prog 19 #[.int .i64 x] w fun e w' => e = .returned (.int .i64 (mill x)) ∧ w = w' := by
  unfold mill
  go_enter Try.func19, Try.ntmps19
  go_wp2_with fail
  all_goals go_ret
  all_goals exact ⟨congrArg (fun z => Ending.returned (.int .i64 z)) (by omega), rfl⟩
theorem arr_len : Try.prog.arrayLen 44 = 61 := by kernel_rfl
theorem arr_elem : Try.prog.elem 44 = 3 := by kernel_rfl
theorem size_num (u : World) : (sizeOf 3).run Try.prog u = .ok 1 u := by
  obtain ⟨i, hi, hz0, hz1, hz2⟩ := info_parts info_num
  simp [sizeOf, typeInfo, hi, hz1]
theorem arr_h (b n : Nat) (h : n ≤ 61) (u : World) : (Instr.sliceAt 44 (.pointer (some ⟨b, 3, none⟩)) none (some (.int .i64 (n : Int))) none).run Try.prog u = .ok (.slice (some ⟨b, 3, none⟩) n 61) u := by
  rw [run_sliceAt_array_h (P := Try.prog) u 44 ⟨b, 3, none⟩ (by kernel_rfl) .i64 (n : Int) (by omega) (by rw [arr_len]; omega), arr_elem, size_num, arr_len]
  simp [slicedAt, Result.andThen, Addr.add]
theorem arr_all (b : Nat) (u : World) : (Instr.sliceAt 44 (.pointer (some ⟨b, 3, none⟩)) none none none).run Try.prog u = .ok (.slice (some ⟨b, 3, none⟩) 61 61) u := by
  rw [run_sliceAt_array_all (P := Try.prog) u 44 ⟨b, 3, none⟩ (by kernel_rfl), arr_elem, size_num, arr_len]
  simp [slicedAt, Result.andThen, Addr.add]
theorem arr_one (b : Nat) (u : World) : (Instr.sliceAt 44 (.pointer (some ⟨b, 3, none⟩)) (some (.int .i64 1)) none none).run Try.prog u = .ok (.slice (some ⟨b, 4, none⟩) 60 60) u := by
  rw [run_sliceAt_array_l (P := Try.prog) u 44 ⟨b, 3, none⟩ (by kernel_rfl) .i64 1 (by omega) (by rw [arr_len]; omega), arr_elem, size_num, arr_len]
  simp [slicedAt, Result.andThen, Addr.add]
/-- what is kept -/
theorem all_any {b : Nat} {c : Ca} {w : World} (H : CaAt w b c) :
    Calls Try.prog 28 #[.pointer (some ⟨b, 0, none⟩)] w fun e w' => e = .returned (.slice (some ⟨b, 3, none⟩) c.l.length 61) ∧ w.grownBy w' none := by
  obtain ⟨c0, c1, c2, fz⟩ := H.cells
  have hn := H.ok.n61
  have L0 := hid (fun W (h : W.cell? ⟨b, 2, none⟩ = some (.int .i64 (c.l.length : Int))) => load_i64 ⟨b, 2, none⟩ (c.l.length : Int) W h)
  generalize c.l.length = n at *
  have hs := fun u => arr_h b n hn u
  clear H
  go_enter Try.func28, Try.ntmps28
  go_wp2_with fail
  go_quiet ((go_at_call 35; exact Calls.quiet_of_same (still_of (L0.out _ (by assumption)))))
  go_wp2_with fail
  go_ret
  exact ⟨rfl, ⟨rfl, rfl, rfl, Nat.le_refl _, fun _ _ _ => rfl⟩⟩
end Go.Proofs.Ytnpaecbdejemnaa
