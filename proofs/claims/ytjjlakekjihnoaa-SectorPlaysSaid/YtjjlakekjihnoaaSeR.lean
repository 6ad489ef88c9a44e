/-
  Contracts for the document's disk: a disk is made, Write, Tear, Up, Spoil. The condition of a call: the object lies there.
-/
import Derived.Test.YtjjlakekjihnoaaSeC
import Derived.BigRegion
set_option linter.unusedSimpArgs false
set_option linter.unusedVariables false
namespace Go.Proofs.Ytjjlakekjihnoaa
set_option maxRecDepth 100000
open Go.RowKit

@[reducible] def sv (l : List UInt8) : Value := .string ⟨l.toArray⟩
@[reducible] def rdTop (sb n : Nat) (down wait : Bool) (raw : Int) (k : Nat) : Obj := .cells #[.slice (some ⟨sb, 0, none⟩) n n, .bool down, .bool wait, .int .i64 raw, .int .i64 (k : Int)] 43
@[reducible] def strObj (l : List (List UInt8)) : Obj := .cells (l.map sv).toArray 9
structure RdAt (w : World) (b s : Nat) (d : Dk) : Prop where
  top : ∃ raw : Int, clampS raw = d.stays ∧ w.heap[b]? = some (rdTop s d.l.length d.down d.wait raw d.n)
  sec : w.heap[s]? = some (strObj d.l)
  ne : b ≠ s
  ok : d.Ok
section
variable {w w' : World} {F : List Nat} {b s : Nat} {d : Dk}
theorem RdAt.chg (H : RdAt w b s d) (hc : Chg F w w') (hb : b ∉ F) (hs : s ∉ F) : RdAt w' b s d := by
  obtain ⟨raw, h1, h2⟩ := H.top
  exact ⟨⟨raw, h1, hc.at h2 hb⟩, hc.at H.sec hs, H.ne, H.ok⟩
theorem RdAt.grown (H : RdAt w b s d) (hg : w.grownBy w' none) : RdAt w' b s d := H.chg (chg_grown hg []) (by simp) (by simp)
theorem RdAt.drew (H : RdAt w b s d) : RdAt w.drew b s d := ⟨H.top, H.sec, H.ne, H.ok⟩
theorem RdAt.ltb (H : RdAt w b s d) : b < w.heap.size := by obtain ⟨raw, h1, h2⟩ := H.top; exact at_lt h2
theorem RdAt.lts (H : RdAt w b s d) : s < w.heap.size := at_lt H.sec
theorem RdAt.cells (H : RdAt w b s d) : ∃ raw : Int, clampS raw = d.stays ∧ w.cell? ⟨b, 0, none⟩ = some (.slice (some ⟨s, 0, none⟩) d.l.length d.l.length) ∧ w.cell? ⟨b, 1, none⟩ = some (.bool d.down) ∧ w.cell? ⟨b, 2, none⟩ = some (.bool d.wait) ∧ w.cell? ⟨b, 3, none⟩ = some (.int .i64 raw) ∧
    w.cell? ⟨b, 4, none⟩ = some (.int .i64 (d.n : Int)) ∧ ∀ k, w.frozen? ⟨b, k, none⟩ = false := by
  obtain ⟨raw, h1, h2⟩ := H.top
  exact ⟨raw, h1, by rw [at_cell h2]; rfl, by rw [at_cell h2]; rfl, by rw [at_cell h2]; rfl, by rw [at_cell h2]; rfl, by rw [at_cell h2]; rfl, fun k => at_free h2 k⟩
theorem RdAt.str (H : RdAt w b s d) {k : Nat} (hk : k < d.l.length) : w.cell? ⟨s, k, none⟩ = some (sv (d.at k)) ∧ w.frozen? ⟨s, k, none⟩ = false := by
  refine ⟨?_, at_free H.sec k⟩
  rw [at_cell H.sec, List.getElem?_toArray, List.getElem?_map, List.getElem?_eq_getElem hk, Dk.at_eq hk]; rfl
theorem RdAt.set1 (H : RdAt w b s d) (x : Bool) : RdAt (w.setCell ⟨b, 1, none⟩ (.bool x)) b s { d with down := x } := by
  obtain ⟨raw, h1, h2⟩ := H.top
  exact ⟨⟨raw, h1, by rw [at_set h2]; rfl⟩, at_set_other H.sec (by simpa using H.ne.symm) _, H.ne, ⟨H.ok.each, H.ok.lo, H.ok.hi, H.ok.st⟩⟩
theorem RdAt.set2 (H : RdAt w b s d) (x : Bool) : RdAt (w.setCell ⟨b, 2, none⟩ (.bool x)) b s { d with wait := x } := by
  obtain ⟨raw, h1, h2⟩ := H.top
  exact ⟨⟨raw, h1, by rw [at_set h2]; rfl⟩, at_set_other H.sec (by simpa using H.ne.symm) _, H.ne, ⟨H.ok.each, H.ok.lo, H.ok.hi, H.ok.st⟩⟩
theorem RdAt.set3 (H : RdAt w b s d) (n : Int) : RdAt (w.setCell ⟨b, 3, none⟩ (.int .i64 n)) b s { d with stays := clampS n } := by
  obtain ⟨raw, h1, h2⟩ := H.top
  exact ⟨⟨n, rfl, by rw [at_set h2]; rfl⟩, at_set_other H.sec (by simpa using H.ne.symm) _, H.ne, ⟨H.ok.each, H.ok.lo, H.ok.hi, clampS_le n⟩⟩
theorem RdAt.set4 (H : RdAt w b s d) (x : Nat) : RdAt (w.setCell ⟨b, 4, none⟩ (.int .i64 (x : Int))) b s { d with n := x } := by
  obtain ⟨raw, h1, h2⟩ := H.top
  exact ⟨⟨raw, h1, by rw [at_set h2]; rfl⟩, at_set_other H.sec (by simpa using H.ne.symm) _, H.ne, ⟨H.ok.each, H.ok.lo, H.ok.hi, H.ok.st⟩⟩
theorem RdAt.setS (H : RdAt w b s d) (k : Nat) {x : List UInt8} (hx : x.length = 64) : RdAt (w.setCell ⟨s, k, none⟩ (sv x)) b s (d.put k x) := by
  obtain ⟨raw, h1, h2⟩ := H.top
  refine ⟨⟨raw, h1, by rw [at_set_other h2 (by simpa using H.ne)]; simp⟩, ?_, H.ne, ⟨set_each H.ok.each hx, by simpa using H.ok.lo, by simpa using H.ok.hi, H.ok.st⟩⟩
  rw [at_set H.sec]
  simp [List.map_set]
end
theorem info_str : (Try.prog.info? 9).map (fun i => (i.zero, i.size, i.bytes)) = some (some (.string ⟨#[]⟩), 1, 16) := by kernel_rfl
theorem mk_strs (n : Nat) (hn : n ≤ 4096) (u : World) : (Instr.makeSlice 41 (.int .i64 (n : Int)) (.int .i64 (n : Int))).run Try.prog u = .ok (.slice (some ⟨u.heap.size, 0, none⟩) n n) (u.alloc (.cells (madeCells #[.string ⟨#[]⟩] n) 9)) := by
  obtain ⟨i, hi, hz0, hz1, hz2⟩ := info_parts info_str
  have := run_makeSlice (P := Try.prog) u 41 9 i _ Try.underlying41 hi hz0 .i64 .i64 (n : Int) (n : Int) (by omega) (Int.le_refl _) (by rw [hz1]; omega) (by rw [hz2]; omega) (by omega)
  rw [this, hz1]
  simp [Value.cells]
theorem mk_bytes' (u : World) : (Instr.makeSlice 27 (.int .i64 64) (.int .i64 64)).run Try.prog u = .ok (.slice (some ⟨u.heap.size, 0, none⟩) 64 64) (u.alloc (.cells (madeCells #[.int .u8 0] 64) 5)) := by
  obtain ⟨i, hi, hz0, hz1, hz2⟩ := info_parts info_u8
  have := run_makeSlice (P := Try.prog) u 27 5 i _ Try.underlying27 hi hz0 .i64 .i64 64 64 (by omega) (Int.le_refl _) (by rw [hz1]; omega) (by rw [hz2]; omega) (by omega)
  rw [this, hz1]
  simp [Value.cells]
theorem bytes_made (w : World) : BytesAt (w.alloc (.cells (madeCells #[.int .u8 0] 64) 5)) (.slice (some ⟨w.heap.size, 0, none⟩) 64 64) (List.replicate 64 0) := by
  refine .inr ⟨⟨w.heap.size, 0, none⟩, 64, by simp, by simp, by unfold maxLen; decide, fun i hi => ?_⟩
  have e : (⟨w.heap.size, 0, none⟩ : Addr).add i = ⟨w.heap.size, i, none⟩ := by unfold Addr.add; split <;> simp_all
  rw [e, at_cell (at_new _ _), ← Array.getElem?_toList, toList_madeCells_one, List.getElem?_replicate, if_pos (by simpa using hi), List.getElem_replicate]
  rfl
def RdMade (w : World) (d : Dk) (e : Ending) (w' : World) : Prop := ∃ b s, e = .returned (.pointer (some ⟨b, 0, none⟩)) ∧ RdAt w' b s d ∧ w.grownBy w' none ∧ w.heap.size ≤ b ∧ w.heap.size ≤ s
def z64 : ByteArray := ⟨(List.replicate 64 0).toArray⟩
/-- k of n strings are there -/
@[reducible] def strC (n k : Nat) : Array Value := (List.replicate k (Value.string z64) ++ List.replicate (n - k) (Value.string ⟨#[]⟩)).toArray
theorem strC_start (n : Nat) : madeCells #[Value.string ⟨#[]⟩] n = strC n 0 := by
  apply Array.ext'
  rw [toList_madeCells_one]
  simp [strC]
theorem strC_step {n k : Nat} (h : k < n) : (strC n k).setIfInBounds k (.string z64) = strC n (k + 1) := by
  unfold strC
  generalize Value.string z64 = a
  rw [List.setIfInBounds_toArray]
  congr 1
  apply List.ext_getElem?
  intro i
  rw [List.getElem?_set]
  simp only [List.getElem?_append, List.getElem?_replicate, List.length_replicate, List.length_append]
  repeat' split
  all_goals first | rfl | omega | (simp_all; done) | (exfalso; omega)
theorem strC_cell {n k : Nat} (h : k < n) : ∃ x, (strC n k)[k]? = some x := ⟨_, Array.getElem?_eq_getElem (by unfold strC; simp; omega)⟩
theorem strC_end (n : Nat) : (Obj.cells (strC n n) 9) = strObj (List.replicate n (List.replicate 64 0)) := by
  unfold strC strObj z64
  rw [Nat.sub_self, List.replicate_zero, List.append_nil, List.map_replicate]
set_option maxHeartbeats 1600000 in
theorem rdnew_ok (n : Nat) (h1 : 1 ≤ n) (h2 : n ≤ 4096) (w : World) :
    Calls Try.prog 17 #[.int .i64 (n : Int)] w (RdMade w (.new n)) := by
  have hm := mk_strs n h2 w
  rw [strC_start] at hm
  have hm2 := mk_bytes' (w.alloc (.cells (strC n 0) 9))
  have hcv : _ = Result.ok (Value.string z64) _ := conv_bytes (bytes_made (w.alloc (.cells (strC n 0) 9)))
  have L0 := hid (at_alloc (at_new w (.cells (strC n 0) 9)) (.cells (madeCells #[.int .u8 0] 64) 5))
  have G0 := hid (gb_alloc (gb_alloc (.refl w none) (.cells (strC n 0) 9)) (.cells (madeCells #[.int .u8 0] 64) 5))
  have FS := hid (fun k h => strC_step (n := n) (k := k) h); have FK := hid (fun k h => strC_cell (n := n) (k := k) h); have FE := hid (strC_end n)
  have HO := hid (Dk.new_ok h1 h2)
  obtain ⟨g, hg⟩ : ∃ g, g = w.heap.size := ⟨_, rfl⟩
  have HG := hid (show w.heap.size ≤ g by omega)
  rw [← hg] at hm L0
  generalize (w.alloc (.cells (strC n 0) 9)).alloc (.cells (madeCells #[.int .u8 0] 64) 5) = w2 at *
  generalize w.alloc (.cells (strC n 0) 9) = w1 at *
  generalize strC n = C at *
  generalize z64 = z at *
  have d1 : decide ((n : Int) < 1) = false := by simp; omega
  have d2 : decide (4096 < (n : Int)) = false := by simp; omega
  have hn : (n : Int) ≤ 4096 := by omega
  clear hg h1
  go_enter Try.func17, Try.ntmps17
  go_wp2_with fail
  go_loopw [5] (fun i wr => ∃ k : Nat, k ≤ n ∧ i = .int .i64 (k : Int) ∧ wr.heap[g]? = some (.cells (C k) 9) ∧ w.grownBy wr none) (fun i _ => n - (intOf i).toNat)
  case atStart => exact ⟨0, Nat.zero_le _, rfl, L0.out, G0.out⟩
  case round =>
    obtain ⟨k, hk, rfl, hrow, hgr⟩ := hrel
    have HR := hid hrow; have HGR := hid hgr; clear hrow hgr
    by_cases hlt : k < n
    · have hlt' : (k : Int) < (n : Int) := by omega
      have hk0 : (0 : Int) ≤ (k : Int) := by omega
      have fz := at_free HR.out k
      obtain ⟨x, hx⟩ := FK.out k hlt
      have hc : wr.cell? ⟨g, k, none⟩ = some x := by rw [at_cell HR.out, hx]
      have HLT := hid hlt
      clear hx
      go_wp2_with fail
      go_roundw
      case rel => exact ⟨k + 1, by have := HLT.out; omega, by go_num, by rw [at_set HR.out, FS.out k hlt], gb_new HGR.out (by exact HG.out) _⟩
      case measure => have := HLT.out; simp [intOf]; omega
    · have hk2 : k = n := by omega
      subst hk2
      go_wp2_with fail
      go_ret
      exact ⟨_, g, rfl, ⟨⟨0, rfl, by rw [at_new]; simp⟩, by rw [at_alloc HR.out, FE.out], by have := at_lt HR.out; omega, HO.out⟩, gb_alloc HGR.out _, HGR.out.size, HG.out⟩
section
variable {w : World} {b s : Nat} {d : Dk}
theorem rdtear_any (n : Int) (H : RdAt w b s d) : Calls Try.prog 19 #[.pointer (some ⟨b, 0, none⟩), .int .i64 n] w fun e w' => e = .returned (.tuple #[]) ∧ RdAt w' b s (d.tear n) ∧ Chg [b, s] w w' := by
  obtain ⟨raw, hraw, c0, c1, c2, c3, c4, f⟩ := H.cells
  have f2 := f 2; have f3 := f 3
  have L := hid ((H.set2 true).set3 n)
  have C := hid (((chg_refl w [b, s]).set (p := ⟨b, 2, none⟩) (.inl (by simp)) (.bool true)).set (p := ⟨b, 3, none⟩) (.inl (by simp)) (.int .i64 n))
  clear H hraw
  go_enter Try.func19, Try.ntmps19
  go_wp2_with fail
  go_end0
  exact ⟨rfl, L.out, C.out⟩
theorem rdup_any (H : RdAt w b s d) : Calls Try.prog 20 #[.pointer (some ⟨b, 0, none⟩)] w fun e w' => e = .returned (.tuple #[]) ∧ RdAt w' b s d.up ∧ Chg [b, s] w w' := by
  obtain ⟨raw, hraw, c0, c1, c2, c3, c4, f⟩ := H.cells
  have f1 := f 1; have f2 := f 2
  have L := hid ((H.set1 false).set2 false)
  have C := hid (((chg_refl w [b, s]).set (p := ⟨b, 1, none⟩) (.inl (by simp)) (.bool false)).set (p := ⟨b, 2, none⟩) (.inl (by simp)) (.bool false))
  clear H hraw
  go_enter Try.func20, Try.ntmps20
  go_wp2_with fail
  go_end0
  exact ⟨rfl, L.out, C.out⟩
theorem rdwrite_down (a : Int) (x : ByteArray) (H : RdAt w b s d) (h : d.down = true) : Calls Try.prog 18 #[.pointer (some ⟨b, 0, none⟩), .int .i64 a, .string x] w fun e w' => e = .returned (.int .i64 10) ∧ w = w' := by
  obtain ⟨raw, hraw, c0, c1, c2, c3, c4, f⟩ := H.cells
  rw [h] at c1
  clear H hraw
  go_enter Try.func18, Try.ntmps18
  go_wp2_with fail
  go_ret
  exact ⟨rfl, rfl⟩
theorem rdwrite_no (a : Int) (x : ByteArray) (hx : x.size ≤ 1000000) (H : RdAt w b s d) (h : d.down = false) (h2 : d.has a = false ∨ x.size ≠ 64) : Calls Try.prog 18 #[.pointer (some ⟨b, 0, none⟩), .int .i64 a, .string x] w fun e w' => e = .returned (.int .i64 1) ∧ w = w' := by
  obtain ⟨raw, hraw, c0, c1, c2, c3, c4, f⟩ := H.cells
  rw [h] at c1
  by_cases h0 : a < 0
  · have d0 : decide (a < 0) = true := by simpa using h0
    clear H hraw h2
    go_enter Try.func18, Try.ntmps18
    go_wp2_with fail
    go_ret
    exact ⟨rfl, rfl⟩
  have d0 : decide (a < 0) = false := by simpa using h0
  by_cases h1 : (d.l.length : Int) ≤ a
  · have d1 : decide ((d.l.length : Int) ≤ a) = true := by simpa using h1
    clear H hraw h2
    go_enter Try.func18, Try.ntmps18
    go_wp2_with fail
    go_ret
    exact ⟨rfl, rfl⟩
  have d1 : decide ((d.l.length : Int) ≤ a) = false := by simpa using h1
  have hs : ¬ (x.size : Int) = 64 := by
    rcases h2 with h2 | h2
    · unfold Dk.has at h2; simp at h2; omega
    · omega
  clear H hraw h2
  go_enter Try.func18, Try.ntmps18
  go_wp2_with fail
  go_ret
  exact ⟨rfl, rfl⟩
end
end Go.Proofs.Ytjjlakekjihnoaa
