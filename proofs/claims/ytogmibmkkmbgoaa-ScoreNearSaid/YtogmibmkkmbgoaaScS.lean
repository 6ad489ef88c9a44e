/-
  Contracts for package score: Set, All. The condition: the score lies there.
-/
import Derived.Test.YtogmibmkkmbgoaaScN
set_option linter.unusedSimpArgs false
set_option linter.unusedVariables false
namespace Go.Proofs.Ytogmibmkkmbgoaa
set_option maxRecDepth 100000
open Go.RowKit

theorem cntOf_fit {st pr a c z : Int} {o : Bool} (h : cntOf st pr a c o = some z) (hs : st ≤ 100) (hp : pr ≤ 100) : 0 ≤ z ∧ z ≤ 1000 := by
  unfold cntOf at h
  split at h
  · split at h
    · cases h; omega
    · cases h
  · split at h
    · cases h; omega
    · cases h
def stV (a c : Int) (o : Bool) : Value := .agg #[.int .i64 a, .int .i64 c, .bool o]
theorem set_in {s : Sc} {b hb : Nat} {w : World} (h : ScAt s b hb w) (k : Nat) (h0 : Hd) (hk : s.H[k]? = some h0) (a c : Int) (o : Bool) (z : Int) (hz : cntOf s.st s.pr a c o = some z) :
    Calls Try.prog 40 #[.pointer (some ⟨b, 0, none⟩), .int .i64 (k : Int), .agg #[.int .i64 a, .int .i64 c, .bool o]] w fun e w' => e = .returned (.int .i64 0) ∧ ScAt (s.put k (o, z)) b hb w' ∧ Chg [hb] w w' := by
  have HS := hid (h.alloc (.cells #[.int .i64 a, .int .i64 c, .bool o] 45))
  have HF := hid (find_in HS.out k (List.getElem?_eq_some_iff.1 hk).1)
  have HC := hid (count_any HS.out a c o)
  have hfit := hid (cntOf_fit hz (by have := h.ok.st; omega) (by have := h.ok.pr; omega))
  have HK := hid hk
  rw [hz] at HC
  have B0 := hid (at_new w (.cells #[.int .i64 a, .int .i64 c, .bool o] 45))
  have G0 := hid (World.grownBy_alloc w (.cells #[.int .i64 a, .int .i64 c, .bool o] 45) none)
  have e0 := at_cell B0.out 0
  have e1 := at_cell B0.out 1
  have e2 := at_cell B0.out 2
  clear h hk hz
  go_enter Try.func40, Try.ntmps40
  go_wp2_with fail
  refine HF.out.mono ?_
  rintro e w1 ⟨rfl, rfl⟩
  clear HF
  go_wp2_with fail
  refine HC.out.mono ?_
  rintro e w1 ⟨rfl, hg⟩
  have S1 := HS.out.grown hg
  have hb1 := at_grown B0.out hg (by simp)
  have q2 := at_cell hb1 2
  obtain ⟨p0, p1⟩ := S1.part HK.out
  have f0 := S1.free (k * 2)
  have K2 := S1.out HK.out o
  have hk2 := Sc.put_at HK.out (o, h0.2)
  have A2 := hid (store_i64 _ z _ _ (K2.1.part hk2).2 (K2.1.free _))
  have K3 := K2.1.cnt hk2 hfit.out
  have KK := hid (And.intro K3.1 ((chg_grown (gb_trans G0.out hg (.inl rfl)) [hb]).then (K2.2.then K3.2)))
  rw [Sc.put_put] at KK
  dsimp only at A2 KK
  clear hg S1 hb1 K2 K3 hk2 HC e0 e1 e2 hfit HK B0 G0 p1
  go_wp2_with fail
  refine A2.out.mono ?_
  rintro e w2 ⟨rfl, rfl⟩
  clear A2
  go_wp2_with fail
  go_ret
  exact ⟨rfl, KK.out.1, KK.out.2⟩
theorem set_bad {s : Sc} {b hb : Nat} {w : World} (h : ScAt s b hb w) (k : Nat) (hk : k < s.H.length) (a c : Int) (o : Bool) (hz : cntOf s.st s.pr a c o = none) :
    Calls Try.prog 40 #[.pointer (some ⟨b, 0, none⟩), .int .i64 (k : Int), .agg #[.int .i64 a, .int .i64 c, .bool o]] w fun e w' => e = .returned (.int .i64 1) ∧ w.grownBy w' none := by
  have HS := hid (h.alloc (.cells #[.int .i64 a, .int .i64 c, .bool o] 45))
  have HF := hid (find_in HS.out k hk)
  have HC := hid (count_any HS.out a c o)
  rw [hz] at HC
  have B0 := hid (at_new w (.cells #[.int .i64 a, .int .i64 c, .bool o] 45))
  have G0 := hid (World.grownBy_alloc w (.cells #[.int .i64 a, .int .i64 c, .bool o] 45) none)
  have e0 := at_cell B0.out 0
  have e1 := at_cell B0.out 1
  have e2 := at_cell B0.out 2
  clear h hk hz
  go_enter Try.func40, Try.ntmps40
  go_wp2_with fail
  refine HF.out.mono ?_
  rintro e w1 ⟨rfl, rfl⟩
  clear HF
  go_wp2_with fail
  refine HC.out.mono ?_
  rintro e w1 ⟨rfl, hg⟩
  have G1 := hid (gb_trans G0.out hg (.inl rfl))
  clear hg HC e0 e1 e2 B0 G0
  go_wp2_with fail
  go_ret
  exact ⟨rfl, G1.out⟩
theorem set_out {s : Sc} {b hb : Nat} {w : World} (h : ScAt s b hb w) (who : Int) (hk : ¬ (0 ≤ who ∧ who < (s.H.length : Int))) (a c : Int) (o : Bool) :
    Calls Try.prog 40 #[.pointer (some ⟨b, 0, none⟩), .int .i64 who, .agg #[.int .i64 a, .int .i64 c, .bool o]] w fun e w' => e = .returned (.int .i64 3) ∧ w.grownBy w' none := by
  have HS := hid (h.alloc (.cells #[.int .i64 a, .int .i64 c, .bool o] 45))
  have HF := hid (find_out HS.out who hk)
  have G0 := hid (World.grownBy_alloc w (.cells #[.int .i64 a, .int .i64 c, .bool o] 45) none)
  clear h hk
  go_enter Try.func40, Try.ntmps40
  go_wp2_with fail
  refine HF.out.mono ?_
  rintro e w1 ⟨rfl, rfl⟩
  clear HF
  go_wp2_with fail
  go_ret
  exact ⟨rfl, G0.out⟩
theorem set_nil (who a c : Int) (o : Bool) (w : World) :
    Calls Try.prog 40 #[.pointer none, .int .i64 who, .agg #[.int .i64 a, .int .i64 c, .bool o]] w fun e w' => e = .returned (.int .i64 1) ∧ w.grownBy w' none := by
  have HF := hid (find_nil who (w.alloc (.cells #[.int .i64 a, .int .i64 c, .bool o] 45)))
  have G0 := hid (World.grownBy_alloc w (.cells #[.int .i64 a, .int .i64 c, .bool o] 45) none)
  go_enter Try.func40, Try.ntmps40
  go_wp2_with fail
  refine HF.out.mono ?_
  rintro e w1 ⟨rfl, rfl⟩
  clear HF
  go_wp2_with fail
  go_ret
  exact ⟨rfl, G0.out⟩

/-- how all stand, as cells -/
def cellsZ (h : Hd) : List Value := [.int .i64 (standH h).1, .int .i64 (standH h).2.1, .bool (standH h).2.2]
def partZ (h : Hd) (j : Nat) : Value := if j = 0 then .int .i64 (standH h).1 else if j = 1 then .int .i64 (standH h).2.1 else .bool (standH h).2.2
def flatZ (H : List Hd) : List Value := H.flatMap cellsZ
theorem flatZ_get : ∀ (H : List Hd) (j : Nat), (flatZ H)[j]? = (H[j / 3]?).map fun h => partZ h (j % 3)
  | [], j => by simp [flatZ]
  | h :: H, 0 => by simp [flatZ, cellsZ, partZ]
  | h :: H, 1 => by simp [flatZ, cellsZ, partZ]
  | h :: H, 2 => by simp [flatZ, cellsZ, partZ]
  | h :: H, j + 3 => by
    have e : flatZ (h :: H) = cellsZ h ++ flatZ H := rfl
    have hl : (cellsZ h).length = 3 := rfl
    rw [e, List.getElem?_append_right (by omega), hl, show j + 3 - 3 = j by omega, flatZ_get H j, show (j + 3) / 3 = j / 3 + 1 by omega, show (j + 3) % 3 = j % 3 by omega]
    simp
theorem flatZ_len (H : List Hd) : (flatZ H).length = H.length * 3 := by
  induction H with
  | nil => rfl
  | cons h H ih =>
    have e : flatZ (h :: H) = cellsZ h ++ flatZ H := rfl
    rw [e, List.length_append, ih]; simp [cellsZ]; omega
theorem flatZ_set {H : List Hd} {k : Nat} (hk : k < H.length) (h : Hd) : (((flatZ H).set (k * 3) (.int .i64 (standH h).1)).set (k * 3 + 1) (.int .i64 (standH h).2.1)).set (k * 3 + 2) (.bool (standH h).2.2) = flatZ (H.set k h) := by
  refine List.ext_getElem? fun j => ?_
  rw [flatZ_get, List.getElem?_set, List.getElem?_set, List.getElem?_set, List.getElem?_set]
  simp only [List.length_set, flatZ_len]
  have q0 : partZ h 0 = .int .i64 (standH h).1 := rfl
  have q1 : partZ h 1 = .int .i64 (standH h).2.1 := rfl
  have q2 : partZ h 2 = .bool (standH h).2.2 := rfl
  by_cases a2 : k * 3 + 2 = j
  · have m : j % 3 = 2 := by omega
    have d : k = j / 3 := by omega
    rw [if_pos a2, if_pos (by omega), if_pos d, if_pos (by omega), m]; simp [q2]
  · rw [if_neg a2]
    by_cases a1 : k * 3 + 1 = j
    · have m : j % 3 = 1 := by omega
      have d : k = j / 3 := by omega
      rw [if_pos a1, if_pos (by omega), if_pos d, if_pos (by omega), m]; simp [q1]
    · rw [if_neg a1]
      by_cases a0 : k * 3 = j
      · have m : j % 3 = 0 := by omega
        have d : k = j / 3 := by omega
        rw [if_pos a0, if_pos (by omega), if_pos d, if_pos (by omega), m]; simp [q0]
      · rw [if_neg a0, if_neg (show ¬ k = j / 3 by omega), flatZ_get]
def fillX {α : Type} (d : α) (vs : List α) (k : Nat) : List α := vs.take k ++ List.replicate (vs.length - k) d
section
variable {α : Type} {d x : α} {vs : List α} {k : Nat}
theorem fillX_len (h : k ≤ vs.length) : (fillX d vs k).length = vs.length := by
  unfold fillX; rw [List.length_append, List.length_take, List.length_replicate]; omega
theorem fillX_zero : fillX d vs 0 = List.replicate vs.length d := by simp [fillX]
theorem fillX_all : fillX d vs vs.length = vs := by simp [fillX]
theorem fillX_set (h : vs[k]? = some x) : (fillX d vs k).set k x = fillX d vs (k + 1) := by
  obtain ⟨hk, rfl⟩ := List.getElem?_eq_some_iff.1 h
  unfold fillX
  rw [List.set_append_right _ _ (by rw [List.length_take]; omega), List.length_take, show k - min k vs.length = 0 by omega, List.take_succ_eq_append_getElem hk, List.append_assoc]
  congr 1
  rw [show vs.length - k = (vs.length - (k + 1)) + 1 by omega, List.replicate_succ]
  rfl
end
def zCells (n : Nat) : Array Value := (flatZ (List.replicate n (false, 0))).toArray
theorem info_std : (Try.prog.info? 45).map (fun i => (i.zero, i.size, i.bytes)) = some (some (.agg #[.int .i64 0, .int .i64 0, .bool false]), 3, 24) := by kernel_rfl
theorem z_made (n : Nat) : madeCells #[.int .i64 0, .int .i64 0, .bool false] (n * 3) = zCells n := by
  apply Array.ext_getElem?
  intro j
  unfold zCells
  rw [show (flatZ (List.replicate n ((false, 0) : Hd))).toArray[j]? = (flatZ (List.replicate n (false, 0)))[j]? from List.getElem?_toArray .., flatZ_get, List.getElem?_replicate]
  by_cases h : j < n * 3
  · have hjn : j / 3 < n := by omega
    rw [if_pos hjn]
    have : j % 3 = 0 ∨ j % 3 = 1 ∨ j % 3 = 2 := by omega
    rcases this with e | e | e <;> simp [madeCells, h, e, partZ, standH]
  · have hjn : ¬ j / 3 < n := by omega
    rw [if_neg hjn, Array.getElem?_eq_none (by simp [madeCells]; omega)]; rfl
theorem mk_stds (n : Nat) (hn : n ≤ 16) (u : World) : (Instr.makeSlice 52 (.int .i64 (n : Int)) (.int .i64 (n : Int))).run Try.prog u = .ok (.slice (some ⟨u.heap.size, 0, none⟩) n n) (u.alloc (.cells (zCells n) 45)) := by
  obtain ⟨i, hi, hz0, hz1, hz2⟩ := info_parts info_std
  have := run_makeSlice (P := Try.prog) u 52 45 i _ Try.underlying52 hi hz0 .i64 .i64 (n : Int) (n : Int) (by omega) (Int.le_refl _) (by rw [hz1]; omega) (by rw [hz2]; omega) (by omega)
  rw [this, hz1]
  rw [← z_made]
  simp [Value.cells]
theorem zblk_at {W : World} {zb k : Nat} {H : List Hd} {h : Hd} (hb : W.heap[zb]? = some (.cells (flatZ H).toArray 45)) (hk : H[k]? = some h) :
    W.cell? ⟨zb, k * 3, none⟩ = some (.int .i64 (standH h).1) ∧ W.cell? ⟨zb, k * 3 + 1, none⟩ = some (.int .i64 (standH h).2.1) ∧ W.cell? ⟨zb, k * 3 + 2, none⟩ = some (.bool (standH h).2.2) := by
  refine ⟨?_, ?_, ?_⟩
  · rw [at_cell hb, List.getElem?_toArray, flatZ_get, show k * 3 / 3 = k by omega, show k * 3 % 3 = 0 by omega, hk]; rfl
  · rw [at_cell hb, List.getElem?_toArray, flatZ_get, show (k * 3 + 1) / 3 = k by omega, show (k * 3 + 1) % 3 = 1 by omega, hk]; rfl
  · rw [at_cell hb, List.getElem?_toArray, flatZ_get, show (k * 3 + 2) / 3 = k by omega, show (k * 3 + 2) % 3 = 2 by omega, hk]; rfl
theorem zblk_set {W : World} {zb k : Nat} {H : List Hd} (hb : W.heap[zb]? = some (.cells (flatZ H).toArray 45)) (hk : k < H.length) (h : Hd) :
    (((W.setCell ⟨zb, k * 3, none⟩ (.int .i64 (standH h).1)).setCell ⟨zb, k * 3 + 1, none⟩ (.int .i64 (standH h).2.1)).setCell ⟨zb, k * 3 + 2, none⟩ (.bool (standH h).2.2)).heap[zb]? = some (.cells (flatZ (H.set k h)).toArray 45) := by
  have := at_set (at_set (at_set hb (k * 3) (.int .i64 (standH h).1)) (k * 3 + 1) (.int .i64 (standH h).2.1)) (k * 3 + 2) (.bool (standH h).2.2)
  rw [this, List.setIfInBounds_toArray, List.setIfInBounds_toArray, List.setIfInBounds_toArray, flatZ_set hk]
theorem scall_nil (w : World) : Calls Try.prog 25 #[.pointer none] w fun e w' => e = .returned (.slice none 0 0) ∧ w = w' := by
  go_enter Try.func25, Try.ntmps25
  go_wp2
  go_ret
  exact ⟨rfl, rfl⟩
/-- what All tells -/
def AllS (w : World) (H : List Hd) (e : Ending) (w' : World) : Prop := ∃ zb, e = .returned (.slice (some ⟨zb, 0, none⟩) H.length H.length) ∧ w'.heap[zb]? = some (.cells (flatZ H).toArray 45) ∧ w.heap.size ≤ zb ∧ w.grownBy w' none
set_option maxHeartbeats 800000 in
theorem scall_any {s : Sc} {b hb : Nat} {w : World} (h : ScAt s b hb w) : Calls Try.prog 25 #[.pointer (some ⟨b, 0, none⟩)] w (AllS w s.H) := by
  have HS := hid h
  obtain ⟨c0, c1, c2, c3⟩ := h.cells
  have h16 := h.ok.n16
  unfold AllS
  obtain ⟨n, hn⟩ : ∃ n, s.H.length = n := ⟨_, rfl⟩
  have HN := hid hn
  have HZ := hid (show zCells n = (flatZ (fillX (false, 0) s.H 0)).toArray by rw [fillX_zero, hn]; rfl)
  rw [hn] at c0 h16 ⊢
  have hmk := mk_stds n h16
  have G0 := hid (World.grownBy_alloc w (.cells (zCells n) 45) none)
  have B0 := hid (at_new w (.cells (zCells n) 45))
  clear h hn c1 c2 c3
  go_enter Try.func25, Try.ntmps25
  go_wp2_with fail
  generalize w.alloc (.cells (zCells n) 45) = w2 at *
  obtain ⟨zb, hzb⟩ : ∃ zb, zb = w.heap.size := ⟨_, rfl⟩
  have HZB := hid hzb
  rw [← hzb] at B0 ⊢
  rw [HZ.out] at B0
  clear hzb hmk HZ
  go_loopw [15] (fun i wr => ∃ (k : Nat), k ≤ n ∧ i = .int .i64 (k : Int) ∧ wr.heap[zb]? = some (.cells (flatZ (fillX (false, 0) s.H k)).toArray 45) ∧ w.grownBy wr none)
    (fun i _ => n - (intOf i).toNat)
  case atStart => exact ⟨0, Nat.zero_le _, rfl, B0.out, G0.out⟩
  case round =>
    obtain ⟨k, hk, rfl, hbl, hgr⟩ := hrel
    have HBL := hid hbl
    have HGR := hid hgr
    clear hbl hgr c0
    by_cases hlt : k < n
    · have hkl : k < s.H.length := by rw [HN.out]; exact hlt
      have hkn : (k : Int) < (n : Int) := by omega
      obtain ⟨c0, c1, c2, c3⟩ := (HS.out.grown HGR.out).cells
      rw [HN.out] at c0
      have hx := List.getElem?_eq_getElem hkl
      have HST := hid (standing_any (HS.out.grown HGR.out) k _ hx)
      have HFS := hid (fillX_set (d := ((false, 0) : Hd)) hx)
      have HFL := hid (show k < (fillX ((false, 0) : Hd) s.H k).length by rw [fillX_len (by omega)]; exact hkl)
      generalize s.H[k] = h0 at *
      generalize fillX ((false, 0) : Hd) s.H k = F at *
      clear hx hkl c1 c2 c3
      unfold standV at HST
      go_wp2_with fail
      refine HST.out.mono ?_
      rintro e w3 ⟨rfl, hg⟩
      have hb3 := at_grown HBL.out hg (by simp)
      obtain ⟨y0, y1, y2⟩ := zblk_at hb3 (List.getElem?_eq_getElem HFL.out)
      have f0 := at_free hb3 (k * 3)
      have f1 := at_free hb3 (k * 3 + 1)
      have f2 := at_free hb3 (k * 3 + 2)
      have NB := hid (zblk_set hb3 HFL.out h0)
      rw [HFS.out] at NB
      have NG := hid (gb_new (gb_new (gb_new (gb_trans HGR.out hg (.inl rfl)) (p := ⟨zb, k * 3, none⟩) (Nat.le_of_eq HZB.out.symm) (.int .i64 (standH h0).1)) (p := ⟨zb, k * 3 + 1, none⟩) (Nat.le_of_eq HZB.out.symm) (.int .i64 (standH h0).2.1)) (p := ⟨zb, k * 3 + 2, none⟩) (Nat.le_of_eq HZB.out.symm) (.bool (standH h0).2.2))
      generalize (standH h0).1 = x0 at *
      generalize (standH h0).2.1 = x1 at *
      generalize (standH h0).2.2 = x2 at *
      generalize (standH (F[k]'HFL.out)).1 = u0 at *
      generalize (standH (F[k]'HFL.out)).2.1 = u1 at *
      generalize (standH (F[k]'HFL.out)).2.2 = u2 at *
      clear hb3 hg HST HBL HGR c0
      go_wp2_with fail
      go_roundw
      case rel => exact ⟨k + 1, by omega, by go_num, NB.out, NG.out⟩
      case measure => simp [intOf]; omega
    · obtain rfl : k = n := by omega
      rw [← HN.out, fillX_all] at HBL
      go_wp2_with fail
      go_ret
      exact ⟨zb, rfl, HBL.out, Nat.le_of_eq HZB.out.symm, HGR.out⟩
end Go.Proofs.Ytogmibmkkmbgoaa
