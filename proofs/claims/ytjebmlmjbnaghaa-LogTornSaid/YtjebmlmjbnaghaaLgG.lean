/-
  Contract for package log: Get for whatever comes; the document's cells: what a walk keeps of one; which bytes are a cell's, by both ways of reading. No condition but that bytes read as bytes.
-/
import Derived.Test.YtjebmlmjbnaghaaLgF
set_option linter.unusedSimpArgs false
set_option linter.unusedVariables false
namespace Go.Proofs.Ytjebmlmjbnaghaa
set_option maxRecDepth 100000
open Go.RowKit

theorem may_of_cl {c : Cl} (h : mayN c.pass c.place c.kind c.data.length = true) : c.May := by
  unfold mayN at h
  simp at h
  exact ⟨by omega, by omega, by omega, by omega, by omega, by omega⟩
theorem may_iff (c : Cl) : mayN c.pass c.place c.kind c.data.length = true ↔ c.May := ⟨may_of_cl, may_cl⟩
theorem read_put {c : Cl} (h : c.May) : readL (putL c) = c := by
  have e := cell_put h
  have e7 : ((putL c).getD 7 0).toNat = c.data.length := by
    rw [putL_head c (by decide)]
    exact u8_small (by have := h.d; omega)
  have := h.d
  unfold cellOf at e
  rw [e7, Nat.min_eq_left h.d] at e
  unfold readL
  rw [e7, Nat.min_eq_left (by omega)]
  exact e
/-- are these a cell's bytes? -/
def goodL (l : List UInt8) : Bool := mayN (readL l).pass (readL l).place (readL l).kind (readL l).data.length && (putL (readL l) == l)
theorem good_put {c : Cl} (h : c.May) : goodL (putL c) = true := by
  unfold goodL
  rw [read_put h, may_cl h]; simp
theorem good_of {l : List UInt8} (h : goodL l = true) : (readL l).May ∧ putL (readL l) = l := by
  unfold goodL at h
  simp only [Bool.and_eq_true, beq_iff_eq] at h
  exact ⟨may_of_cl h.1, h.2⟩
theorem good_iff (l : List UInt8) : goodL l = true ↔ ∃ c : Cl, c.May ∧ l = putL c := by
  constructor
  · intro h
    obtain ⟨h1, h2⟩ := good_of h
    exact ⟨_, h1, h2.symm⟩
  · rintro ⟨c, h, rfl⟩
    exact good_put h
theorem whole_mark (l : List UInt8) : wholeL l = true ↔ ¬ markN (readL l).pass = 0 ∧ (l.getD 63 0).toNat = markN (readL l).pass := by
  have hp : (readL l).pass = passOf l := rfl
  unfold wholeL
  rw [hp]
  unfold markN
  simp only [Bool.and_eq_true, decide_eq_true_eq]
  split <;> omega
/-- what Get tells -/
def gotW (l : List UInt8) : Bool := decide (l.length = 64) && wholeL l
def gotL (l : List UInt8) : Cl := if gotW l && goodL l then readL l else zeroC
def gotC (l : List UInt8) : Int := if l.length = 64 then if gotW l && !goodL l then 12 else 0 else 1
theorem lget_any (v : Value) (l : List UInt8) (w : World) (hv : BytesAt w v l) :
    Calls Try.prog 12 #[v] w fun e w' => ∃ u, e = .returned (.tuple #[.agg (clV (gotL l) u), .bool (gotW l), .int .i64 (gotC l)]) ∧ OwnB w.heap.size w' u (gotL l).data ∧ w.grownBy w' none := by
  by_cases hl : l.length = 64
  case neg =>
    obtain ⟨p, k, rfl⟩ := hv.form
    have e1 : gotW l = false := by unfold gotW; simp [hl]
    have e2 : gotL l = zeroC := by unfold gotL; rw [e1]; rfl
    have e3 : gotC l = 1 := by unfold gotC; rw [if_neg hl]
    rw [e1, e2, e3]
    refine (lget_len p l.length k hl w).mono ?_
    rintro e w' ⟨rfl, hg⟩
    exact ⟨_, rfl, OwnB.nil _ _, hg⟩
  cases hw : wholeL l with
  | false =>
    have e1 : gotW l = false := by unfold gotW; rw [hw]; simp
    have e2 : gotL l = zeroC := by unfold gotL; rw [e1]; rfl
    have e3 : gotC l = 0 := by unfold gotC; rw [if_pos hl, e1]; rfl
    rw [e1, e2, e3]
    have hm := fun h => (Bool.eq_false_iff.1 hw) ((whole_mark l).2 h)
    by_cases h0 : markN (readL l).pass = 0
    · refine (lget_m0 v l hl w hv h0).mono ?_
      rintro e w' ⟨rfl, hg⟩
      exact ⟨_, rfl, OwnB.nil _ _, hg⟩
    · refine (lget_m1 v l hl w hv h0 (fun h => hm ⟨h0, h⟩)).mono ?_
      rintro e w' ⟨rfl, hg⟩
      exact ⟨_, rfl, OwnB.nil _ _, hg⟩
  | true =>
    obtain ⟨h0, h1⟩ := (whole_mark l).1 hw
    have e1 : gotW l = true := by unfold gotW; rw [hw]; simp [hl]
    cases hg : goodL l with
    | true =>
      have e2 : gotL l = readL l := by unfold gotL; rw [e1, hg]; rfl
      have e3 : gotC l = 0 := by unfold gotC; rw [if_pos hl, e1, hg]; rfl
      rw [e1, e2, e3]
      obtain ⟨g1, g2⟩ := good_of hg
      exact lget_yes v l hl w hv h0 h1 g1 g2
    | false =>
      have e2 : gotL l = zeroC := by unfold gotL; rw [e1, hg]; rfl
      have e3 : gotC l = 12 := by unfold gotC; rw [if_pos hl, e1, hg]; rfl
      rw [e1, e2, e3]
      cases hm : mayN (readL l).pass (readL l).place (readL l).kind (readL l).data.length with
      | false =>
        refine (lget_bad v l hl w hv h0 h1 hm).mono ?_
        rintro e w' ⟨rfl, hg⟩
        exact ⟨_, rfl, OwnB.nil _ _, hg⟩
      | true =>
        refine (lget_odd v l hl w hv h0 h1 (may_of_cl hm) (fun h => ?_)).mono ?_
        · unfold goodL at hg; rw [hm, h] at hg; simp at hg
        · rintro e w' ⟨rfl, hg⟩
          exact ⟨_, rfl, OwnB.nil _ _, hg⟩

/-- the document's cell that came in, in its block -/
structure Rk (w : World) (cs : Array Value) (W : World) : Prop where
  box : W.heap[w.heap.size]? = some (.cells cs 28)
  g : w.grownBy W none
theorem Rk.grown {w W W' : World} {cs : Array Value} (H : Rk w cs W) (hg : W.grownBy W' none) : Rk w cs W' := ⟨at_grown H.box hg (by simp), gb_trans H.g hg (.inl rfl)⟩
theorem Rk.drew {w W : World} {cs : Array Value} (H : Rk w cs W) : Rk w cs W.drew := ⟨H.box, gb_drew H.g⟩
theorem Rk.cells {w W : World} {a b c d : Value} (H : Rk w #[a, b, c, d] W) : W.cell? ⟨w.heap.size, 0, none⟩ = some a ∧ W.cell? ⟨w.heap.size, 1, none⟩ = some b ∧ W.cell? ⟨w.heap.size, 2, none⟩ = some c ∧ W.cell? ⟨w.heap.size, 3, none⟩ = some d :=
  ⟨at_cell H.box 0, at_cell H.box 1, at_cell H.box 2, at_cell H.box 3⟩
theorem rk_new (w : World) (cs : Array Value) : Rk w cs (w.alloc (.cells cs 28)) := ⟨at_new w _, gb_alloc (.refl w none) _⟩
theorem mk_zeros (m : Nat) (hm : m ≤ 48) (u : World) : (Instr.makeSlice 23 (.int .i64 (m : Int)) (.int .i64 (m : Int))).run Try.prog u = .ok (.slice (some ⟨u.heap.size, 0, none⟩) m m) (u.alloc (.cells ((List.replicate m (0 : UInt8)).map bv).toArray 5)) := by
  obtain ⟨i, hi, hz0, hz1, hz2⟩ := info_parts info_u8
  have := run_makeSlice (P := Try.prog) u 23 5 i _ Try.underlying23 hi hz0 .i64 .i64 (m : Int) (m : Int) (by omega) (Int.le_refl _) (by rw [hz1]; omega) (by rw [hz2]; omega) (by omega)
  rw [this, hz1]
  have e : madeCells #[Value.int .u8 0] m = ((List.replicate m (0 : UInt8)).map bv).toArray := by
    apply Array.ext'
    rw [toList_madeCells_one]
    simp [bv]
  rw [← e]
  simp [Value.cells]
theorem zeros_at (w : World) {m : Nat} (hm : m ≤ 48) : BytesAt (w.alloc (.cells ((List.replicate m (0 : UInt8)).map bv).toArray 5)) (.slice (some ⟨w.heap.size, 0, none⟩) m m) (List.replicate m 0) := by
  have := (own_block (base := 0) (List.replicate m (0 : UInt8)) (at_new w _) (by rw [List.length_replicate]; unfold maxLen; omega) (Nat.zero_le _)).bytes
  rwa [List.length_replicate] at this
theorem alloc_size (w : World) (o : Obj) : (w.alloc o).heap.size = w.heap.size + 1 := by show (w.heap.push o).size = _; simp
end Go.Proofs.Ytjebmlmjbnaghaa
