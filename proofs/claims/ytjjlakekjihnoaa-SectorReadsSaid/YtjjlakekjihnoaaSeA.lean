/-
  Contracts for package sector: the object in its two blocks; a disk is made; what is asked of it and told it that writes no sector. The condition of a call: the object lies there.
-/
import Derived.Test.YtjjlakekjihnoaaSeP
import Derived.Test.YtjjlakekjihnoaaChg
import Derived.Test.YtjjlakekjihnoaaI64
import Derived.LoopTactic
import Derived.BigQuiet
set_option linter.unusedSimpArgs false
set_option linter.unusedVariables false
namespace Go.Proofs.Ytjjlakekjihnoaa
set_option maxRecDepth 100000
open Go.RowKit

@[reducible] def dkTop (sb n : Nat) (wait : Bool) (st : Nat) (down : Bool) (k : Nat) : Obj := .cells #[.slice (some ⟨sb, 0, none⟩) n n, .bool wait, .int .i64 (st : Int), .bool down, .int .i64 (k : Int)] 55
@[reducible] def secObj (l : List UInt8) : Obj := .cells (l.map bv).toArray 58
structure DkAt (w : World) (b s : Nat) (d : Dk) : Prop where
  top : w.heap[b]? = some (dkTop s d.l.length d.wait d.stays d.down d.n)
  sec : w.heap[s]? = some (secObj d.l.flatten)
  ne : b ≠ s
  ok : d.Ok
section
variable {w w' : World} {F : List Nat} {b s : Nat} {d : Dk}
theorem DkAt.chg (H : DkAt w b s d) (hc : Chg F w w') (hb : b ∉ F) (hs : s ∉ F) : DkAt w' b s d := ⟨hc.at H.top hb, hc.at H.sec hs, H.ne, H.ok⟩
theorem DkAt.grown (H : DkAt w b s d) (hg : w.grownBy w' none) : DkAt w' b s d := H.chg (chg_grown hg []) (by simp) (by simp)
theorem DkAt.drew (H : DkAt w b s d) : DkAt w.drew b s d := ⟨H.top, H.sec, H.ne, H.ok⟩
theorem DkAt.ltb (H : DkAt w b s d) : b < w.heap.size := at_lt H.top
theorem DkAt.lts (H : DkAt w b s d) : s < w.heap.size := at_lt H.sec
theorem DkAt.cells (H : DkAt w b s d) : w.cell? ⟨b, 0, none⟩ = some (.slice (some ⟨s, 0, none⟩) d.l.length d.l.length) ∧ w.cell? ⟨b, 1, none⟩ = some (.bool d.wait) ∧ w.cell? ⟨b, 2, none⟩ = some (.int .i64 (d.stays : Int)) ∧ w.cell? ⟨b, 3, none⟩ = some (.bool d.down) ∧
    w.cell? ⟨b, 4, none⟩ = some (.int .i64 (d.n : Int)) ∧ ∀ k, w.frozen? ⟨b, k, none⟩ = false :=
  ⟨by rw [at_cell H.top]; rfl, by rw [at_cell H.top]; rfl, by rw [at_cell H.top]; rfl, by rw [at_cell H.top]; rfl, by rw [at_cell H.top]; rfl, fun k => at_free H.top k⟩
/-- a sector's bytes -/
theorem DkAt.bytes (H : DkAt w b s d) {k : Nat} (hk : k < d.l.length) : BytesAt w (.slice (some ⟨s, k * 64, none⟩) 64 64) (d.at k) := by
  have h64 := H.ok.at_len hk
  refine .inr ⟨_, 64, by rw [h64], by omega, by unfold maxLen; omega, fun i hi => ?_⟩
  have hi' : i < 64 := by omega
  have e : (⟨s, k * 64, none⟩ : Addr).add i = ⟨s, k * 64 + i, none⟩ := by unfold Addr.add; split <;> simp_all
  rw [e, at_cell H.sec, List.getElem?_toArray, List.getElem?_map, flat_get _ H.ok.each k hk i hi']
  have h2 : d.l[k][i]? = some ((d.at k)[i]) := by
    rw [← Dk.at_eq hk]; exact List.getElem?_eq_getElem hi
  rw [h2]; rfl
end
theorem info_sec : (Try.prog.info? 58).map (fun i => (i.zero, i.size, i.bytes)) = some (some (.agg (Array.replicate 64 (.int .u8 0))), 64, 64) := by kernel_rfl
theorem made_secs (n : Nat) : madeCells (Array.replicate 64 (Value.int .u8 0)) (n * 64) = ((List.replicate n (List.replicate 64 (0 : UInt8))).flatten.map bv).toArray := by
  rw [flat_zero, List.map_replicate]
  apply Array.ext
  · simp [madeCells]
  · intro i h1 h2
    have h3 : i % 64 < (Array.replicate 64 (Value.int .u8 0)).size := by simp; omega
    simp [madeCells, bv]
    rw [getElem!_pos (Array.replicate 64 (Value.int .u8 0)) (i % 64) h3, Array.getElem_replicate]
theorem mk_secs (n : Nat) (hn : n ≤ 4096) (u : World) : (Instr.makeSlice 48 (.int .i64 (n : Int)) (.int .i64 (n : Int))).run Try.prog u = .ok (.slice (some ⟨u.heap.size, 0, none⟩) n n) (u.alloc (secObj (List.replicate n (List.replicate 64 (0 : UInt8))).flatten)) := by
  obtain ⟨i, hi, hz0, hz1, hz2⟩ := info_parts info_sec
  have := run_makeSlice (P := Try.prog) u 48 58 i _ Try.underlying48 hi hz0 .i64 .i64 (n : Int) (n : Int) (by omega) (Int.le_refl _) (by rw [hz1]; omega) (by rw [hz2]; omega) (by omega)
  rw [this, hz1]
  unfold secObj
  rw [← made_secs]
  simp [Value.cells]
/-- what New makes -/
def DkMade (w : World) (d : Dk) (e : Ending) (w' : World) : Prop := ∃ b s, e = .returned (.pointer (some ⟨b, 0, none⟩)) ∧ DkAt w' b s d ∧ w.grownBy w' none ∧ w.heap.size ≤ b ∧ w.heap.size ≤ s
theorem dnew_nil (n : Int) (h : ¬ (1 ≤ n ∧ n ≤ 4096)) (w : World) :
    Calls Try.prog 8 #[.int .i64 n] w fun e w' => e = .returned (.pointer none) ∧ w = w' := by
  by_cases h1 : n < 1
  · have d1 : decide (n < 1) = true := by simpa using h1
    clear h
    go_enter Try.func8, Try.ntmps8
    go_wp2_with fail
    go_ret
    exact ⟨rfl, rfl⟩
  · have d1 : decide (n < 1) = false := by simpa using h1
    have d2 : decide (4096 < n) = true := by simp; omega
    clear h h1
    go_enter Try.func8, Try.ntmps8
    go_wp2_with fail
    go_ret
    exact ⟨rfl, rfl⟩
theorem made_dk (n : Nat) (h1 : 1 ≤ n) (h2 : n ≤ 4096) (w : World) :
    DkAt ((w.alloc (secObj (List.replicate n (List.replicate 64 (0 : UInt8))).flatten)).alloc (dkTop w.heap.size n false 0 false 0)) (w.heap.size + 1) w.heap.size (.new n) :=
  ⟨by
    have := at_new (w.alloc (secObj (List.replicate n (List.replicate 64 (0 : UInt8))).flatten)) (dkTop w.heap.size n false 0 false 0)
    rw [show (w.alloc (secObj (List.replicate n (List.replicate 64 (0 : UInt8))).flatten)).heap.size = w.heap.size + 1 from by show (w.heap.push _).size = _; simp] at this
    rw [this]; simp, at_alloc (at_new w _) _, by omega, Dk.new_ok h1 h2⟩
set_option maxHeartbeats 1600000 in
theorem dnew_ok (n : Nat) (h1 : 1 ≤ n) (h2 : n ≤ 4096) (w : World) :
    Calls Try.prog 8 #[.int .i64 (n : Int)] w (DkMade w (.new n)) := by
  have L := hid (made_dk n h1 h2 w)
  have hm := mk_secs n h2 w
  have d1 : decide ((n : Int) < 1) = false := by simp; omega
  have d2 : decide (4096 < (n : Int)) = false := by simp; omega
  generalize secObj (List.replicate n (List.replicate 64 (0 : UInt8))).flatten = O at *
  clear h1 h2
  go_enter Try.func8, Try.ntmps8
  go_wp2_with fail
  go_ret
  exact ⟨_, _, rfl, L.out, gb_alloc (gb_alloc (.refl w none) _) _, by omega, Nat.le_refl _⟩
theorem dnew_as (n : Nat) {N : Int} (hN : (n : Int) = N) (h1 : 1 ≤ n) (h2 : n ≤ 4096) (w : World) : Calls Try.prog 8 #[.int .i64 N] w (DkMade w (.new n)) := by
  subst hN; exact dnew_ok n h1 h2 w

section
variable {w : World} {b s : Nat} {d : Dk}
theorem len_nil (w : World) : Calls Try.prog 26 #[.pointer none] w fun e w' => e = .returned (.int .i64 0) ∧ w = w' := by
  go_enter Try.func26, Try.ntmps26
  go_wp2_with fail
  go_ret
  exact ⟨rfl, rfl⟩
theorem len_any (H : DkAt w b s d) : Calls Try.prog 26 #[.pointer (some ⟨b, 0, none⟩)] w fun e w' => e = .returned (.int .i64 (d.l.length : Int)) ∧ w = w' := by
  obtain ⟨c0, c1, c2, c3, c4, f⟩ := H.cells
  go_enter Try.func26, Try.ntmps26
  go_wp2_with fail
  go_ret
  exact ⟨rfl, rfl⟩
theorem down_nil (w : World) : Calls Try.prog 15 #[.pointer none] w fun e w' => e = .returned (.bool false) ∧ w = w' := by
  go_enter Try.func15, Try.ntmps15
  go_wp2_with fail
  go_ret
  exact ⟨rfl, rfl⟩
theorem down_any (H : DkAt w b s d) : Calls Try.prog 15 #[.pointer (some ⟨b, 0, none⟩)] w fun e w' => e = .returned (.bool d.down) ∧ w = w' := by
  obtain ⟨c0, c1, c2, c3, c4, f⟩ := H.cells
  go_enter Try.func15, Try.ntmps15
  go_wp2_with fail
  go_ret
  exact ⟨rfl, rfl⟩
theorem writes_any (H : DkAt w b s d) : Calls Try.prog 16 #[.pointer (some ⟨b, 0, none⟩)] w fun e w' => e = .returned (.int .i64 (d.n : Int)) ∧ w = w' := by
  obtain ⟨c0, c1, c2, c3, c4, f⟩ := H.cells
  go_enter Try.func16, Try.ntmps16
  go_wp2_with fail
  refine (load_i64 _ _ _ c4).mono ?_
  rintro e w1 ⟨rfl, rfl⟩
  go_wp2_with fail
  go_ret
  exact ⟨rfl, rfl⟩
theorem has_nil (a : Int) (w : World) : Calls Try.prog 23 #[.pointer none, .int .i64 a] w fun e w' => e = .returned (.bool false) ∧ w = w' := by
  by_cases h : 0 ≤ a
  · have d1 : decide (0 ≤ a) = true := by simpa using h
    have d2 : decide (a < 0) = false := by simpa using h
    go_enter Try.func23, Try.ntmps23
    go_wp2_with fail
    refine (len_nil _).mono ?_
    rintro e w1 ⟨rfl, rfl⟩
    go_wp2_with fail
    go_ret
    exact ⟨rfl, rfl⟩
  · have d1 : decide (0 ≤ a) = false := by simpa using h
    go_enter Try.func23, Try.ntmps23
    go_wp2_with fail
    go_ret
    exact ⟨rfl, rfl⟩
theorem has_any (a : Int) (H : DkAt w b s d) : Calls Try.prog 23 #[.pointer (some ⟨b, 0, none⟩), .int .i64 a] w fun e w' => e = .returned (.bool (d.has a)) ∧ w = w' := by
  unfold Dk.has
  by_cases h : 0 ≤ a
  · have d1 : decide (0 ≤ a) = true := by simpa using h
    have L := hid (len_any H)
    generalize d.l.length = n at *
    clear H
    go_enter Try.func23, Try.ntmps23
    go_wp2_with fail
    refine L.out.mono ?_
    rintro e w1 ⟨rfl, rfl⟩
    go_wp2_with fail
    go_ret
    exact ⟨by simp [h], rfl⟩
  · have d1 : decide (0 ≤ a) = false := by simpa using h
    go_enter Try.func23, Try.ntmps23
    go_wp2_with fail
    go_ret
    exact ⟨by simp [h], rfl⟩

theorem DkAt.set1 (H : DkAt w b s d) (x : Bool) : DkAt (w.setCell ⟨b, 1, none⟩ (.bool x)) b s { d with wait := x } := ⟨by rw [at_set H.top]; rfl, at_set_other H.sec (by simpa using H.ne.symm) _, H.ne, ⟨H.ok.each, H.ok.lo, H.ok.hi, H.ok.st⟩⟩
theorem DkAt.set2 (H : DkAt w b s d) (x : Nat) (hx : x ≤ 64) : DkAt (w.setCell ⟨b, 2, none⟩ (.int .i64 (x : Int))) b s { d with stays := x } := ⟨by rw [at_set H.top]; rfl, at_set_other H.sec (by simpa using H.ne.symm) _, H.ne, ⟨H.ok.each, H.ok.lo, H.ok.hi, hx⟩⟩
theorem DkAt.set3 (H : DkAt w b s d) (x : Bool) : DkAt (w.setCell ⟨b, 3, none⟩ (.bool x)) b s { d with down := x } := ⟨by rw [at_set H.top]; rfl, at_set_other H.sec (by simpa using H.ne.symm) _, H.ne, ⟨H.ok.each, H.ok.lo, H.ok.hi, H.ok.st⟩⟩
theorem DkAt.set4 (H : DkAt w b s d) (x : Nat) : DkAt (w.setCell ⟨b, 4, none⟩ (.int .i64 (x : Int))) b s { d with n := x } := ⟨by rw [at_set H.top]; rfl, at_set_other H.sec (by simpa using H.ne.symm) _, H.ne, ⟨H.ok.each, H.ok.lo, H.ok.hi, H.ok.st⟩⟩
theorem DkAt.tear_fin (H : DkAt w b s d) (n z : Int) (hz : z = min (max n 0) 64) : DkAt ((w.setCell ⟨b, 1, none⟩ (.bool true)).setCell ⟨b, 2, none⟩ (.int .i64 z)) b s (d.tear n) ∧ Chg [b, s] w ((w.setCell ⟨b, 1, none⟩ (.bool true)).setCell ⟨b, 2, none⟩ (.int .i64 z)) := by
  rw [← clampS_eq] at hz; subst hz
  exact ⟨(H.set1 true).set2 (clampS n) (clampS_le n), ((chg_refl w [b, s]).set (p := ⟨b, 1, none⟩) (.inl (by simp)) (.bool true)).set (p := ⟨b, 2, none⟩) (.inl (by simp)) (.int .i64 (clampS n : Int))⟩
set_option maxHeartbeats 1600000 in
theorem tear_any (n : Int) (H : DkAt w b s d) : Calls Try.prog 9 #[.pointer (some ⟨b, 0, none⟩), .int .i64 n] w fun e w' => e = .returned (.tuple #[]) ∧ DkAt w' b s (d.tear n) ∧ Chg [b, s] w w' := by
  obtain ⟨c0, c1, c2, c3, c4, f⟩ := H.cells
  have f1 := f 1; have f2 := f 2
  have L := hid (fun z hz => H.tear_fin n z hz)
  clear H
  go_enter Try.func9, Try.ntmps9
  go_wp2_with fail
  all_goals go_end0
  all_goals exact ⟨rfl, L.out _ (by omega)⟩
set_option maxHeartbeats 1600000 in
theorem up_any (H : DkAt w b s d) : Calls Try.prog 12 #[.pointer (some ⟨b, 0, none⟩)] w fun e w' => e = .returned (.tuple #[]) ∧ DkAt w' b s d.up ∧ Chg [b, s] w w' := by
  obtain ⟨c0, c1, c2, c3, c4, f⟩ := H.cells
  have f1 := f 1; have f3 := f 3
  have L := hid ((H.set1 false).set3 false)
  have C := hid (((chg_refl w [b, s]).set (p := ⟨b, 1, none⟩) (.inl (by simp)) (.bool false)).set (p := ⟨b, 3, none⟩) (.inl (by simp)) (.bool false))
  go_enter Try.func12, Try.ntmps12
  go_wp2_with fail
  all_goals go_end0
  all_goals exact ⟨rfl, L.out, C.out⟩
end
end Go.Proofs.Ytjjlakekjihnoaa
