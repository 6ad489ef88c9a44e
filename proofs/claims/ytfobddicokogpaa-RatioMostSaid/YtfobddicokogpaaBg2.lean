/-
  Two slices of numbers that a call makes and appends to, and others that it only reads meanwhile. No condition. Nothing of the program's functions is named here.
-/
import Derived.Test.YtfobddicokogpaaBag
set_option linter.unusedSimpArgs false
set_option linter.unusedVariables false
namespace Go.Proofs.Ytfobddicokogpaa
set_option maxRecDepth 100000
open Go.RowKit

section
variable {w W W' : World} {v1 v1' v2 v2' u : Value} {l1 l1' l2 l2' r s : List Int} {L L' : List (Value × List Int)} {p : Value × List Int}
theorem Rd.beside (h1 : Rd W' v1' u r) (h2 : Rd W v2 u r) : Rd W' v2 u r := ⟨h1.1, fun h0 a n c e => ⟨(h1.2 h0 a n c e).1, (h2.2 h0 a n c e).2⟩⟩
/-- two slices of the call's own that grow, and others beside them -/
structure Bag2 (w : World) (v1 : Value) (l1 : List Int) (v2 : Value) (l2 : List Int) (L : List (Value × List Int)) (W : World) : Prop where
  gr : w.grownBy W none
  o1 : OwnI w.heap.size W v1 l1
  o2 : OwnI w.heap.size W v2 l2
  ne : ∀ g, v1.ownBlock = some g → v2.ownBlock ≠ some g
  rd : ∀ p ∈ L, Rd W v1 p.1 p.2 ∧ Rd W v2 p.1 p.2
theorem Bag2.swap (h : Bag2 w v1 l1 v2 l2 L W) : Bag2 w v2 l2 v1 l1 L W := ⟨h.gr, h.o2, h.o1, fun g e e2 => h.ne g e2 e, fun p hp => ⟨(h.rd p hp).2, (h.rd p hp).1⟩⟩
theorem Bag2.start (w : World) : Bag2 w (.slice none 0 0) [] (.slice none 0 0) [] [] w := ⟨.refl w none, .nil _ _, .nil _ _, fun g e => by simp [Value.ownBlock] at e, fun p hp => by cases hp⟩
theorem Bag2.drew (h : Bag2 w v1 l1 v2 l2 L W) : Bag2 w v1 l1 v2 l2 L W.drew := ⟨gb_drew h.gr, h.o1.drew, h.o2.drew, h.ne, h.rd⟩
theorem Bag2.none (h : Bag2 w v1 l1 v2 l2 L W) : Bag2 w v1 l1 v2 l2 [] W := ⟨h.gr, h.o1, h.o2, h.ne, fun p hp => by cases hp⟩
theorem Bag2.app (h : Bag2 w v1 l1 v2 l2 L W) (ho : OwnI w.heap.size W' v1' s) (hg : W.grownBy W' v1.ownBlock) (ha : v1'.ownBlock = v1.ownBlock ∨ v1'.ownBlock = some W.heap.size) : Bag2 w v1' s v2 l2 L W' :=
  ⟨gb_ownI h.gr h.o1 (Nat.le_refl _) hg, ho, h.o2.grown hg (fun g e e2 => h.ne g e2.symm e), fun g e e2 => by
    rcases ha with ha | ha
    · exact h.ne g (ha ▸ e) e2
    · rw [ha] at e
      cases e
      exact absurd (h.o2.at W.heap.size (by simp [ownL, e2])).2 (Nat.lt_irrefl _),
   fun p hp => ⟨(h.rd p hp).1.app hg ha, ((h.rd p hp).1.app hg ha).beside (h.rd p hp).2⟩⟩
theorem Bag2.app2 (h : Bag2 w v1 l1 v2 l2 L W) (ho : OwnI w.heap.size W' v2' s) (hg : W.grownBy W' v2.ownBlock) (ha : v2'.ownBlock = v2.ownBlock ∨ v2'.ownBlock = some W.heap.size) : Bag2 w v1 l1 v2' s L W' := (h.swap.app ho hg ha).swap
theorem Bag2.hd (h : Bag2 w v1 l1 v2 l2 ((u, r) :: L) W) : IntsAt W u r := (h.rd _ (List.mem_cons_self ..)).1.1
theorem Bag2.tl (h : Bag2 w v1 l1 v2 l2 (p :: L) W) : Bag2 w v1 l1 v2 l2 L W := ⟨h.gr, h.o1, h.o2, h.ne, fun q hq => h.rd q (List.mem_cons_of_mem _ hq)⟩
theorem rd_new {base : Nat} {v : Value} {l : List Int} (x : Int) (h : OwnI base W v l) : Rd (W.alloc (.cells #[.int .i64 x] 2)) v (.slice (some ⟨W.heap.size, 0, Option.none⟩) 1 1) [x] := by
  refine ⟨ints_of_cells [x] (at_new W _) (by show 1 ≤ maxLen; unfold maxLen; decide), fun _ a n c e => ?_⟩
  cases e
  refine ⟨by show W.heap.size < (W.heap.push _).size; simp, fun e2 => ?_⟩
  exact absurd (h.at W.heap.size (by simp [ownL]; simpa using e2)).2 (Nat.lt_irrefl _)
/-- one more to read: a new block of one number -/
theorem Bag2.one (h : Bag2 w v1 l1 v2 l2 L W) (x : Int) : Bag2 w v1 l1 v2 l2 ((.slice (some ⟨W.heap.size, 0, Option.none⟩) 1 1, [x]) :: L) (W.alloc (.cells #[.int .i64 x] 2)) :=
  ⟨gb_alloc h.gr _, h.o1.grown (World.grownBy_alloc W _ Option.none) (by simp), h.o2.grown (World.grownBy_alloc W _ Option.none) (by simp), h.ne, fun q hq => by
    rcases List.mem_cons.1 hq with rfl | hq
    · exact ⟨rd_new x h.o1, rd_new x h.o2⟩
    · exact ⟨(h.rd q hq).1.grown (World.grownBy_alloc W _ Option.none), (h.rd q hq).2.grown (World.grownBy_alloc W _ Option.none)⟩⟩
end
end Go.Proofs.Ytfobddicokogpaa
