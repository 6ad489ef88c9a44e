/-
  A state of the call's own beside a configuration: what each call tells of it, and leaves. No condition.
-/
import Derived.Test.YtecggbndlbkhdaaGreatNSvU
import Derived.Test.YtecggbndlbkhdaaGreatY4
set_option linter.unusedSimpArgs false
set_option linter.unusedVariables false
namespace Go.Proofs.YtecggbndlbkhdaaGreat
set_option maxRecDepth 100000
open Go.RowKit

structure Sk (w : World) (xb : Nat) (c : Conf) (b : Nat) (s : Ste) (W : World) : Prop where
  box : W.heap[xb]? = some (.cells c.cells 27)
  g : w.grownBy W none
  st : ∃ Y : SBl, Y.b = b ∧ StAt W Y c s ∧ ∀ x ∈ Y.all, w.heap.size ≤ x ∧ x ≠ xb
section
variable {w W W' : World} {xb b : Nat} {c : Conf} {s s0 : Ste} {lf : Int → Option La}
theorem Sk.grown (h : Sk w xb c b s W) (hg : W.grownBy W' none) : Sk w xb c b s W' := by
  obtain ⟨Y, e, h1, h2⟩ := h.st
  exact ⟨at_grown h.box hg (by simp), gb_trans h.g hg (.inl rfl), Y, e, h1.grown hg, h2⟩
theorem Sk.drew (h : Sk w xb c b s W) : Sk w xb c b s W.drew := by
  obtain ⟨Y, e, h1, h2⟩ := h.st
  exact ⟨h.box, gb_drew h.g, Y, e, h1.drew, h2⟩
theorem Sk.alloc (h : Sk w xb c b s W) (o : Obj) : Sk w xb c b s (W.alloc o) := h.grown (World.grownBy_alloc W o none)
theorem Sk.made {X : SBl} (h : Cfx w xb c W) (hM : Made19 W c s X W') : Sk w xb c X.b s W' := by
  refine ⟨at_grown h.box hM.gr (by simp), gb_trans h.g hM.gr (.inl rfl), X, rfl, hM.st, fun x hx => ?_⟩
  have h1 := hM.lo x hx
  have h2 := at_lt h.box
  have h3 := h.g.size
  exact ⟨by omega, by omega⟩
/-- the epoch is closed -/
theorem Sk.doClose (hA : SuAll c s0 lf) (hk : Ste.Ok s0 s) (h : Sk w xb c b s W) :
    Calls Tryz.prog 24 #[.pointer (some ⟨b, 0, none⟩), rcV 3 zeroM] W fun e W' => e = .returned (.tuple #[dcV s.close.1.1, .int .i64 s.close.1.2]) ∧ Sk w xb c b s.close.2 W' := by
  obtain ⟨Y, rfl, h1, h2⟩ := h.st
  refine (sudo_close hA.of hk h1).mono ?_
  rintro e W' ⟨he, Z, ez, h3, h4, h5⟩
  refine ⟨he, h4.at h.box (fun hm => (h2 _ hm).2 rfl), ((chg_grown h.g []).trans h4 fun x hx => .inr (h2 x hx).1).free (by simp), Z, ez, h3, fun x hx => ?_⟩
  rcases h5 x hx with h6 | h6
  · exact h2 x h6
  · have h7 := at_lt h.box
    have h8 := h.g.size
    exact ⟨by omega, by omega⟩
theorem Sk.now (h : Sk w xb c b s W) : Calls Tryz.prog 32 #[.pointer (some ⟨b, 0, none⟩)] W fun e w' => e = .returned (.int .i64 s.now) ∧ W = w' := by
  obtain ⟨Y, rfl, h1, h2⟩ := h.st
  exact sunow_any h1
theorem Sk.count (h : Sk w xb c b s W) : Calls Tryz.prog 35 #[.pointer (some ⟨b, 0, none⟩)] W fun e w' => e = .returned (.int .i64 s.l.n) ∧ W = w' := by
  obtain ⟨Y, rfl, h1, h2⟩ := h.st
  exact sucount_any h1
theorem Sk.decs (hk : Ste.Ok s0 s) (h : Sk w xb c b s W) : Calls Tryz.prog 37 #[.pointer (some ⟨b, 0, none⟩)] W fun e w' => ∃ v, e = .returned v ∧ OwnD W.heap.size w' v s.ds ∧ W.grownBy w' none := by
  obtain ⟨Y, rfl, h1, h2⟩ := h.st
  exact sudecs_any h1 hk.dl
theorem Sk.bytes (hA : SuAll c s0 lf) (hk : Ste.Ok s0 s) (h : Sk w xb c b s W) : Calls Tryz.prog 31 #[.pointer (some ⟨b, 0, none⟩)] W fun e w' => ∃ v, e = .returned v ∧ OwnB W.heap.size w' v s.bytes ∧ W.grownBy w' none := by
  obtain ⟨Y, rfl, h1, h2⟩ := h.st
  exact subytes_any hA.of hk h1
end
/-- the decisions of epochs without samples: the last sixty-four -/
def decsK (n : Int) (k : Nat) : List Dc := ((List.range k).map fun i : Nat => (⟨(i : Int), n, 0, true, 0, 0, 0, 0⟩ : Dc)).drop (k - 64)
theorem decsK_len (n : Int) (k : Nat) : (decsK n k).length = min k 64 := by unfold decsK; rw [List.length_drop, List.length_map, List.length_range]; omega
theorem decsK_at (n : Int) (k : Nat) {i : Nat} (hi : i < min k 64) : (decsK n k)[i]? = some ⟨((k - min k 64 + i : Nat) : Int), n, 0, true, 0, 0, 0, 0⟩ := by
  unfold decsK
  rw [List.getElem?_drop, List.getElem?_map, List.getElem?_range (by omega), show k - 64 + i = k - min k 64 + i by omega]
  rfl
theorem decsK_succ (n : Int) (k : Nat) : keep64 (decsK n k ++ [⟨(k : Int), n, 0, true, 0, 0, 0, 0⟩]) = decsK n (k + 1) := by
  have hl := decsK_len n k
  unfold keep64
  rw [List.length_append, List.length_singleton, hl]
  unfold decsK
  rw [List.range_succ, List.map_append, List.map_singleton]
  rw [← List.drop_append_of_le_length (by rw [List.length_map, List.length_range]; omega), List.drop_drop]
  congr 1
  omega
end Go.Proofs.YtecggbndlbkhdaaGreat
