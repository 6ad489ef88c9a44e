/-
  The program's score in its two blocks: the object and the collectors' parts. Contracts: find, Out, standing, Get, more, end. The condition: the score lies there.
-/
import Derived.Test.YtogmibmkkmbgoaaScP
import Derived.Test.YtogmibmkkmbgoaaSmC
import Derived.Test.YtogmibmkkmbgoaaI64
import Derived.Test.YtogmibmkkmbgoaaChg
import Derived.Test.YtogmibmkkmbgoaaGen
import Derived.BigQuiet
set_option linter.unusedSimpArgs false
set_option linter.unusedVariables false
namespace Go.Proofs.Ytogmibmkkmbgoaa
set_option maxRecDepth 100000
open Go.RowKit

def cellsH (h : Hd) : List Value := [.bool h.1, .int .i64 h.2]
def flatH (H : List Hd) : List Value := H.flatMap cellsH
theorem flatH_get : ∀ (H : List Hd) (j : Nat), (flatH H)[j]? = (H[j / 2]?).map fun h => if j % 2 = 0 then .bool h.1 else .int .i64 h.2
  | [], j => by simp [flatH]
  | h :: H, 0 => by simp [flatH, cellsH]
  | h :: H, 1 => by simp [flatH, cellsH]
  | h :: H, j + 2 => by
    have e : flatH (h :: H) = cellsH h ++ flatH H := rfl
    have hl : (cellsH h).length = 2 := rfl
    rw [e, List.getElem?_append_right (by omega), hl, show j + 2 - 2 = j by omega, flatH_get H j, show (j + 2) / 2 = j / 2 + 1 by omega, show (j + 2) % 2 = j % 2 by omega]
    simp
theorem flatH_len (H : List Hd) : (flatH H).length = H.length * 2 := by
  induction H with
  | nil => rfl
  | cons h H ih =>
    have e : flatH (h :: H) = cellsH h ++ flatH H := rfl
    rw [e, List.length_append, ih]; simp [cellsH]; omega
theorem flatH_cnt {H : List Hd} {k : Nat} {h : Hd} (hk : H[k]? = some h) (c : Int) : (flatH H).set (k * 2 + 1) (.int .i64 c) = flatH (H.set k (h.1, c)) := by
  refine List.ext_getElem? fun j => ?_
  obtain ⟨hl, rfl⟩ := List.getElem?_eq_some_iff.1 hk
  rw [flatH_get, List.getElem?_set, List.getElem?_set, flatH_len]
  by_cases e : k * 2 + 1 = j
  · subst e
    rw [if_pos rfl, if_pos (by omega), if_pos (by omega), if_pos hl]; simp
  · rw [if_neg e, flatH_get]
    by_cases e2 : k = j / 2
    · rw [if_pos e2, if_pos (by omega), ← e2, List.getElem?_eq_getElem hl]
      have : j % 2 = 0 := by omega
      simp [this]
    · rw [if_neg e2]
theorem flatH_out {H : List Hd} {k : Nat} {h : Hd} (hk : H[k]? = some h) (o : Bool) : (flatH H).set (k * 2) (.bool o) = flatH (H.set k (o, h.2)) := by
  refine List.ext_getElem? fun j => ?_
  obtain ⟨hl, rfl⟩ := List.getElem?_eq_some_iff.1 hk
  rw [flatH_get, List.getElem?_set, List.getElem?_set, flatH_len]
  by_cases e : k * 2 = j
  · subst e
    rw [if_pos rfl, if_pos (by omega), if_pos (by omega), if_pos hl]; simp
  · rw [if_neg e, flatH_get]
    by_cases e2 : k = j / 2
    · rw [if_pos e2, if_pos (by omega), ← e2, List.getElem?_eq_getElem hl]
      have : ¬ j % 2 = 0 := by omega
      simp [this]
    · rw [if_neg e2]

/-- the program's score -/
structure ScAt (s : Sc) (b hb : Nat) (W : World) : Prop where
  obj : W.heap[b]? = some (.cells #[.slice (some ⟨hb, 0, none⟩) s.H.length s.H.length, .int .i64 s.st, .int .i64 s.pr, .int .i64 s.far] 66)
  row : W.heap[hb]? = some (.cells (flatH s.H).toArray 73)
  ok : s.wk
section
variable {s : Sc} {b hb : Nat} {W W' : World} {F : List Nat} {k : Nat} {h0 : Hd}
theorem ScAt.chg (h : ScAt s b hb W) (hc : Chg F W W') (h1 : b ∉ F) (h2 : hb ∉ F) : ScAt s b hb W' := ⟨hc.at h.obj h1, hc.at h.row h2, h.ok⟩
theorem ScAt.grown (h : ScAt s b hb W) (hg : W.grownBy W' none) : ScAt s b hb W' := h.chg (chg_grown hg []) (by simp) (by simp)
theorem ScAt.drew (h : ScAt s b hb W) : ScAt s b hb W.drew := ⟨h.obj, h.row, h.ok⟩
theorem ScAt.alloc (h : ScAt s b hb W) (o : Obj) : ScAt s b hb (W.alloc o) := h.grown (World.grownBy_alloc W o none)
theorem ScAt.lt (h : ScAt s b hb W) : b < W.heap.size ∧ hb < W.heap.size := ⟨at_lt h.obj, at_lt h.row⟩
theorem ScAt.ne (h : ScAt s b hb W) : b ≠ hb := by
  intro e
  have h1 := h.obj
  rw [e, h.row] at h1
  have h2 : 73 = 66 := by injection h1 with h1; injection h1
  exact absurd h2 (by decide)
theorem ScAt.cells (h : ScAt s b hb W) : W.cell? ⟨b, 0, none⟩ = some (.slice (some ⟨hb, 0, none⟩) s.H.length s.H.length) ∧ W.cell? ⟨b, 1, none⟩ = some (.int .i64 s.st) ∧ W.cell? ⟨b, 2, none⟩ = some (.int .i64 s.pr) ∧ W.cell? ⟨b, 3, none⟩ = some (.int .i64 s.far) :=
  ⟨at_cell h.obj 0, at_cell h.obj 1, at_cell h.obj 2, at_cell h.obj 3⟩
theorem ScAt.part (h : ScAt s b hb W) (hk : s.H[k]? = some h0) : W.cell? ⟨hb, k * 2, none⟩ = some (.bool h0.1) ∧ W.cell? ⟨hb, k * 2 + 1, none⟩ = some (.int .i64 h0.2) := by
  constructor
  · rw [at_cell h.row, List.getElem?_toArray, flatH_get, show k * 2 / 2 = k by omega, hk]; simp
  · rw [at_cell h.row, List.getElem?_toArray, flatH_get, show (k * 2 + 1) / 2 = k by omega, hk]; simp
theorem ScAt.free (h : ScAt s b hb W) (i : Nat) : W.frozen? ⟨hb, i, none⟩ = false := at_free h.row i
theorem Sc.put_ok (h : s.wk) {c : Hd} (hc : 0 ≤ c.2 ∧ c.2 ≤ 1000) : (s.put k c).wk :=
  ⟨by simpa [Sc.put] using h.n1, by simpa [Sc.put] using h.n16, h.st, h.pr, h.far, fun x hx => by
    rcases List.mem_or_eq_of_mem_set hx with hx | rfl
    · exact h.cnt x hx
    · exact hc⟩
theorem ScAt.cnt (h : ScAt s b hb W) (hk : s.H[k]? = some h0) {c : Int} (hc : 0 ≤ c ∧ c ≤ 1000) : ScAt (s.put k (h0.1, c)) b hb (W.setCell ⟨hb, k * 2 + 1, none⟩ (.int .i64 c)) ∧ Chg [hb] W (W.setCell ⟨hb, k * 2 + 1, none⟩ (.int .i64 c)) := by
  refine ⟨⟨?_, ?_, Sc.put_ok h.ok hc⟩, (chg_refl W [hb]).set (.inl (by simp)) _⟩
  · have := at_set_other h.obj (p := ⟨hb, k * 2 + 1, none⟩) h.ne (.int .i64 c)
    simpa [Sc.put] using this
  · have := at_set h.row (k * 2 + 1) (.int .i64 c)
    rw [this, List.setIfInBounds_toArray, flatH_cnt hk]; rfl
theorem ScAt.out (h : ScAt s b hb W) (hk : s.H[k]? = some h0) (o : Bool) : ScAt (s.put k (o, h0.2)) b hb (W.setCell ⟨hb, k * 2, none⟩ (.bool o)) ∧ Chg [hb] W (W.setCell ⟨hb, k * 2, none⟩ (.bool o)) := by
  have hm := h.ok.cnt h0 (List.mem_of_getElem? hk)
  refine ⟨⟨?_, ?_, Sc.put_ok h.ok hm⟩, (chg_refl W [hb]).set (.inl (by simp)) _⟩
  · have := at_set_other h.obj (p := ⟨hb, k * 2, none⟩) h.ne (.bool o)
    simpa [Sc.put] using this
  · have := at_set h.row (k * 2) (.bool o)
    rw [this, List.setIfInBounds_toArray, flatH_out hk]; rfl
theorem Sc.put_at (hk : s.H[k]? = some h0) (c : Hd) : (s.put k c).H[k]? = some c := by
  obtain ⟨hl, rfl⟩ := List.getElem?_eq_some_iff.1 hk
  simp [Sc.put, hl]
theorem Sc.put_put (c d : Hd) : (s.put k c).put k d = s.put k d := by simp [Sc.put]
end
theorem find_in {s : Sc} {b hb : Nat} {w : World} (h : ScAt s b hb w) (k : Nat) (hk : k < s.H.length) :
    Calls Try.prog 38 #[.pointer (some ⟨b, 0, none⟩), .int .i64 (k : Int)] w fun e w' => e = .returned (.tuple #[.pointer (some ⟨hb, k * 2, none⟩), .int .i64 0]) ∧ w = w' := by
  obtain ⟨c0, c1, c2, c3⟩ := h.cells
  have h16 := h.ok.n16
  generalize s.H.length = n at *
  clear h
  go_enter Try.func38, Try.ntmps38
  go_wp2
  go_ret2
  exact ⟨rfl, rfl⟩
theorem find_out {s : Sc} {b hb : Nat} {w : World} (h : ScAt s b hb w) (who : Int) (hk : ¬ (0 ≤ who ∧ who < (s.H.length : Int))) :
    Calls Try.prog 38 #[.pointer (some ⟨b, 0, none⟩), .int .i64 who] w fun e w' => e = .returned (.tuple #[.pointer none, .int .i64 3]) ∧ w = w' := by
  obtain ⟨c0, c1, c2, c3⟩ := h.cells
  have h16 := h.ok.n16
  generalize s.H.length = n at *
  clear h
  by_cases h0 : who < 0
  · clear hk
    go_enter Try.func38, Try.ntmps38
    go_wp2
    go_ret2
    exact ⟨rfl, rfl⟩
  · have h1 : ¬ who < (n : Int) := by omega
    clear hk
    go_enter Try.func38, Try.ntmps38
    go_wp2
    go_ret2
    exact ⟨rfl, rfl⟩
theorem find_nil (who : Int) (w : World) :
    Calls Try.prog 38 #[.pointer none, .int .i64 who] w fun e w' => e = .returned (.tuple #[.pointer none, .int .i64 1]) ∧ w = w' := by
  go_enter Try.func38, Try.ntmps38
  go_wp2
  go_ret2
  exact ⟨rfl, rfl⟩
theorem out_any {s : Sc} {b hb : Nat} {w : World} (h : ScAt s b hb w) (who : Int) :
    Calls Try.prog 24 #[.pointer (some ⟨b, 0, none⟩), .int .i64 who] w fun e w' => e = .returned (.bool (outL s.H who)) ∧ w = w' := by
  by_cases hw : 0 ≤ who ∧ who < (s.H.length : Int)
  · obtain ⟨k, rfl⟩ : ∃ k : Nat, who = (k : Int) := ⟨who.toNat, by omega⟩
    have hk : k < s.H.length := by omega
    have hget := List.getElem?_eq_getElem hk
    have HF := hid (find_in h k hk)
    obtain ⟨p0, p1⟩ := h.part hget
    rw [outL_in hget]
    generalize s.H[k] = h0 at *
    obtain ⟨o, c⟩ := h0
    clear h hget hw
    go_enter Try.func24, Try.ntmps24
    go_wp2_with fail
    refine HF.out.mono ?_
    rintro e w1 ⟨rfl, rfl⟩
    clear HF
    go_wp2_with fail
    go_ret
    exact ⟨rfl, rfl⟩
  · have HF := hid (find_out h who hw)
    rw [outL_out hw]
    clear h hw
    go_enter Try.func24, Try.ntmps24
    go_wp2_with fail
    refine HF.out.mono ?_
    rintro e w1 ⟨rfl, rfl⟩
    clear HF
    go_wp2_with fail
    go_ret
    exact ⟨rfl, rfl⟩
theorem out_nil (who : Int) (w : World) :
    Calls Try.prog 24 #[.pointer none, .int .i64 who] w fun e w' => e = .returned (.bool true) ∧ w = w' := by
  have HF := hid (find_nil who w)
  go_enter Try.func24, Try.ntmps24
  go_wp2_with fail
  refine HF.out.mono ?_
  rintro e w1 ⟨rfl, rfl⟩
  clear HF
  go_wp2_with fail
  go_ret
  exact ⟨rfl, rfl⟩
end Go.Proofs.Ytogmibmkkmbgoaa
