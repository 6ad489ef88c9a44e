/-
  What a walk keeps beside its calls: slices that read as numbers. And: slices of numbers (int64) that came in, with what each number may be. No condition. Nothing of the program's functions is named here.
-/
import Derived.Test.YtmhpldnmapjghaaIntL
import Derived.LoopTactic
import Derived.BigQuiet
set_option linter.unusedSimpArgs false
set_option linter.unusedVariables false
namespace Go.Proofs.Ytmhpldnmapjghaa
set_option maxRecDepth 100000
open Go.ChangeShapes Go.WideShapes Go.ChangeAt Go.RowKit

structure Kl (w : World) (L : List (Value × List Int)) (W : World) : Prop where
  gr : w.grownBy W none
  rd : ∀ p ∈ L, IntsAt W p.1 p.2
section
variable {w W W' : World} {L L' : List (Value × List Int)} {v u : Value} {l s : List Int} {p p1 p2 p3 p4 : Value × List Int}
theorem Kl.i0 (h : Kl w ((v, l) :: L) W) : IntsAt W v l := h.rd _ (List.mem_cons_self ..)
theorem Kl.tl (h : Kl w (p :: L) W) : Kl w L W := ⟨h.gr, fun q hq => h.rd q (List.mem_cons_of_mem _ hq)⟩
theorem Kl.i1 (h : Kl w (p :: (v, l) :: L) W) : IntsAt W v l := h.tl.i0
theorem Kl.i2 (h : Kl w (p :: p1 :: (v, l) :: L) W) : IntsAt W v l := h.tl.i1
theorem Kl.i3 (h : Kl w (p :: p1 :: p2 :: (v, l) :: L) W) : IntsAt W v l := h.tl.i2
theorem Kl.i4 (h : Kl w (p :: p1 :: p2 :: p3 :: (v, l) :: L) W) : IntsAt W v l := h.tl.i3
theorem Kl.grown (h : Kl w L W) (hg : W.grownBy W' none) : Kl w L W' := ⟨gb_trans h.gr hg (.inl rfl), fun q hq => (h.rd q hq).grown hg⟩
theorem Kl.drew (h : Kl w L W) : Kl w L W.drew := ⟨gb_drew h.gr, h.rd⟩
theorem Kl.drewN (h : Kl w L W) (n : Nat) : Kl w L (W.drewN n) := h.grown ⟨rfl, rfl, rfl, Nat.le_refl _, fun _ _ _ => rfl⟩
theorem Kl.alloc (h : Kl w L W) (o : Obj) : Kl w L (W.alloc o) := h.grown (World.grownBy_alloc W o none)
theorem Kl.add (h : Kl w L W) (hi : IntsAt W v l) : Kl w ((v, l) :: L) W := ⟨h.gr, fun q hq => by
  rcases List.mem_cons.1 hq with rfl | hq
  · exact hi
  · exact h.rd q hq⟩
theorem Kl.start (w : World) : Kl w [] w := ⟨.refl w none, fun q hq => by cases hq⟩
theorem Kl.size (h : Kl w L W) : w.heap.size ≤ W.heap.size := h.gr.size
end
/-- what an int64 may be -/
def Fits (l : List Int) : Prop := ∀ n ∈ l, -9223372036854775808 ≤ n ∧ n ≤ 9223372036854775807
theorem Fits.perm {l l' : List Int} (h : Fits l) (hp : l'.Perm l) : Fits l' := fun n hn => h n (hp.subset hn)
theorem Fits.append {l l' : List Int} (h : Fits l) (h' : Fits l') : Fits (l ++ l') := fun n hn => (List.mem_append.1 hn).elim (h n) (h' n)
section
variable {H : Type} {enc : TypeId × Value → H} {w : World} {base : Nat} {d : DataW H} {ps : List MemPlace} {v : Value} {t e : TypeId}
/-- a slice of numbers, each in its bounds -/
theorem open_intfit (ht : Try.prog.underlying t = some (.slice e)) (he : Try.prog.underlying e = some (.int .i64)) (hc : Try.prog.cellsOf e = 1)
    (hval : Value.okWide Try.prog w .any base t v) (h : DataW.Trod enc Try.prog w 0 (fun _ => true) true t v d ps) :
    ∃ l : List Int, ∃ p c, v = .slice p l.length c ∧ IntsAt w v l ∧ Fits l := by
  obtain ⟨a0, len, cap, rfl⟩ := okWide_slice ht hval
  obtain ⟨fuel, hf⟩ := h
  rcases open_ints ht he hc hf with ⟨hcs, _⟩ | ⟨a, len', cap', zs, hcs, _, hl, hm, hz, _, hcell, hwz⟩
  · simp [Value.cells] at hcs
    obtain ⟨rfl, rfl, rfl⟩ := hcs
    exact ⟨[], none, 0, rfl, .inl ⟨rfl, rfl⟩, fun n hn => by cases hn⟩
  · simp [Value.cells] at hcs
    obtain ⟨rfl, rfl, rfl⟩ := hcs
    have hz' : zs.length = cap := by simpa using hz
    refine ⟨zs.take len, some a, cap, by simp; omega, .inr ⟨a, cap, by simp; omega, by simp; omega, hm, fun i hi => ?_⟩, fun n hn => ?_⟩
    · simp at hi
      rw [hcell i (by omega)]
      simp [List.getD_eq_getElem?_getD, List.getElem?_eq_getElem (show i < zs.length by omega)]
    · have := hwz n (List.mem_of_mem_take hn)
      have h' : -9223372036854775808 ≤ n ∧ n ≤ 9223372036854775807 := by simpa [Lit.wf, IntKind.min, IntKind.max, IntKind.signed, IntKind.bits] using this
      exact h'
end
end Go.Proofs.Ytmhpldnmapjghaa
