/-
  A slice of numbers that a call makes and appends to, and others that it only reads meanwhile. No condition. Nothing of the program's functions is named here.
-/
import Derived.Test.YtfobddicokogpaaIntL
set_option linter.unusedSimpArgs false
set_option linter.unusedVariables false
namespace Go.Proofs.Ytfobddicokogpaa
set_option maxRecDepth 100000
open Go.RowKit

/-- a slice that reads as these numbers, and lies elsewhere than vn -/
def Rd (W : World) (vn u : Value) (r : List Int) : Prop := IntsAt W u r ∧ (r ≠ [] → ∀ a n c, u = .slice (some a) n c → a.block < W.heap.size ∧ vn.ownBlock ≠ some a.block)
theorem ints_block {W : World} {u : Value} {r : List Int} (h : IntsAt W u r) (hr : r ≠ []) : ∀ a n c, u = .slice (some a) n c → a.block < W.heap.size := by
  intro a n c e
  subst e
  have hp : 0 < r.length := List.length_pos_iff.2 hr
  obtain ⟨ab, ao, cap, e, hc⟩ := h.cells hp
  cases e
  exact World.block_lt_of_cell? _ _ (hc 0 hp)
theorem ints_empty {W W' : World} {u : Value} (h : IntsAt W u []) : IntsAt W' u [] := by
  rcases h with h | ⟨a, cap, rfl, h1, h2, _⟩
  · exact .inl h
  · exact .inr ⟨a, cap, rfl, h1, h2, fun i hi => absurd hi (Nat.not_lt_zero i)⟩
section
variable {w W W' : World} {vn vn' u : Value} {r s : List Int} {L L' : List (Value × List Int)} {p : Value × List Int}
theorem Rd.grown (h : Rd W vn u r) (hg : W.grownBy W' none) : Rd W' vn u r := ⟨h.1.grown hg, fun h0 a n c e => ⟨Nat.lt_of_lt_of_le (h.2 h0 a n c e).1 hg.size, (h.2 h0 a n c e).2⟩⟩
theorem Rd.drew (h : Rd W vn u r) : Rd W.drew vn u r := h
/-- behind an append to vn -/
theorem Rd.app (h : Rd W vn u r) (hg : W.grownBy W' vn.ownBlock) (ha : vn'.ownBlock = vn.ownBlock ∨ vn'.ownBlock = some W.heap.size) : Rd W' vn' u r := by
  by_cases h0 : r = []
  · subst h0; exact ⟨ints_empty h.1, fun h => absurd rfl h⟩
  · refine ⟨?_, fun _ a n c e => ?_⟩
    · rcases h.1 with h1 | ⟨a, cap, rfl, h1, h2, h3⟩
      · exact .inl h1
      · refine .inr ⟨a, cap, rfl, h1, h2, fun i hi => hg.cell (h3 i hi) ?_⟩
        have e1 : (a.add i).block = a.block := by unfold Addr.add; split <;> rfl
        rw [e1]
        exact (h.2 h0 a _ _ rfl).2.symm
    · have h1 := h.2 h0 a n c e
      refine ⟨Nat.lt_of_lt_of_le h1.1 hg.size, ?_⟩
      rcases ha with ha | ha
      · rw [ha]; exact h1.2
      · rw [ha]; intro e2; have e3 := Option.some.inj e2; have := h1.1; omega
/-- vn lies in a new block now -/
theorem Rd.fresh (h : Rd W vn u r) (hg : W.grownBy W' none) (hv : ∀ g, vn'.ownBlock = some g → W.heap.size ≤ g) : Rd W' vn' u r :=
  ⟨h.1.grown hg, fun h0 a n c e => ⟨Nat.lt_of_lt_of_le (h.2 h0 a n c e).1 hg.size, fun e2 => absurd (h.2 h0 a n c e).1 (Nat.not_lt.2 (hv _ e2))⟩⟩
theorem Rd.at {ab ao n c i : Nat} {x : Int} (h : Rd W vn (.slice (some ⟨ab, ao, none⟩) n c) r) (hx : r[i]? = some x) : W.cell? ⟨ab, ao + i, none⟩ = some (.int .i64 x) := by
  obtain ⟨hi, rfl⟩ := List.getElem?_eq_some_iff.1 hx
  obtain ⟨ab', ao', e, _, _, hc⟩ := h.1.cell hi
  cases e; exact hc
theorem Rd.take {ab ao n c j : Nat} (h : Rd W vn (.slice (some ⟨ab, ao, none⟩) n c) r) (hj : j ≤ n) : Rd W vn (.slice (some ⟨ab, ao, none⟩) j c) (r.take j) :=
  ⟨ints_slice0 h.1 hj, fun h0 a n' c' e => by cases e; exact h.2 (fun e => h0 (by rw [e]; simp)) _ _ _ rfl⟩
theorem Rd.drop {ab ao n c j : Nat} (h : Rd W vn (.slice (some ⟨ab, ao, none⟩) n c) r) (hj : j ≤ n) : Rd W vn (.slice (some ⟨ab, ao + j, none⟩) (n - j) (c - j)) (r.drop j) :=
  ⟨ints_slice1 h.1 hj, fun h0 a n' c' e => by cases e; exact h.2 (fun e => h0 (by rw [e]; simp)) ⟨ab, ao, none⟩ _ _ rfl⟩
/-- (the model's address of what begins at the very end is the row's own) -/
theorem Rd.dropI {ab n c j : Nat} (h : Rd W vn (.slice (some ⟨ab, 0, none⟩) n c) r) (hj : j ≤ n) : Rd W vn (.slice (if c = j then some ⟨ab, 0, none⟩ else some ⟨ab, j, none⟩) (n - j) (c - j)) (r.drop j) := by
  split
  · next hc =>
    subst hc
    rcases h.1 with ⟨e, _⟩ | ⟨a, cap, e, h1, h2, h3⟩
    · cases e
    · cases e
      have hd : r.drop c = [] := List.drop_eq_nil_of_le h1
      rw [hd]
      refine ⟨.inr ⟨_, c - c, by rw [Nat.sub_eq_zero_of_le h1]; rfl, by simp, by simp, fun i hi => absurd hi (Nat.not_lt_zero i)⟩, fun h0 => absurd rfl h0⟩
  · have := h.drop hj
    rw [Nat.zero_add] at this
    exact this
/-- one number of the slice of the call's own is another now -/
theorem OwnI.set {base : Nat} {w : World} {g n c j : Nat} {l : List Int} (h : OwnI base w (.slice (some ⟨g, 0, none⟩) n c) l) (x : Int) : OwnI base (w.setCell ⟨g, j, none⟩ (.int .i64 x)) (.slice (some ⟨g, 0, none⟩) n c) (l.set j x) := by
  obtain ⟨h0, h | ⟨g', cap, cur, e, hb, hh, h1, h2, h3, h4⟩⟩ := h
  · cases h.1
  · cases e
    refine ⟨by simp, .inr ⟨g, c, cur.setIfInBounds j (.int .i64 x), by simp, hb, at_set hh j _, by simpa using h1, h2, by simpa using h3, ?_⟩⟩
    simp only [List.length_set, Nat.mul_one] at h4 ⊢
    rw [Array.toList_setIfInBounds, List.map_set, ← h4, List.take_set]
    rfl
theorem OwnI.free {base : Nat} {w : World} {g n c j : Nat} {l : List Int} (h : OwnI base w (.slice (some ⟨g, 0, none⟩) n c) l) : w.frozen? ⟨g, j, none⟩ = false := by
  obtain ⟨h0, h | ⟨g', cap, cur, e, hb, hh, _⟩⟩ := h
  · cases h.1
  · cases e; exact at_free hh j
theorem Rd.nil : Rd W vn (.slice none 0 0) [] := ⟨.nil W, fun h => absurd rfl h⟩

/-- a slice of the call's own that grows, and others beside it -/
structure Bag (w : World) (vn : Value) (r : List Int) (L : List (Value × List Int)) (W : World) : Prop where
  gr : w.grownBy W none
  own : OwnI w.heap.size W vn r
  rd : ∀ p ∈ L, Rd W vn p.1 p.2
theorem Bag.hd (h : Bag w vn r ((u, s) :: L) W) : Rd W vn u s := h.rd _ (List.mem_cons_self ..)
theorem Bag.tl (h : Bag w vn r (p :: L) W) : Bag w vn r L W := ⟨h.gr, h.own, fun q hq => h.rd q (List.mem_cons_of_mem _ hq)⟩
theorem Bag.sub (h : Bag w vn r L W) (hs : ∀ p ∈ L', p ∈ L) : Bag w vn r L' W := ⟨h.gr, h.own, fun q hq => h.rd q (hs q hq)⟩
theorem Bag.grown (h : Bag w vn r L W) (hg : W.grownBy W' none) : Bag w vn r L W' := ⟨gb_trans h.gr hg (.inl rfl), h.own.grown hg (by simp), fun q hq => (h.rd q hq).grown hg⟩
theorem Bag.drew (h : Bag w vn r L W) : Bag w vn r L W.drew := ⟨gb_drew h.gr, h.own.drew, h.rd⟩
theorem Bag.app (h : Bag w vn r L W) (ho : OwnI w.heap.size W' vn' s) (hg : W.grownBy W' vn.ownBlock) (ha : vn'.ownBlock = vn.ownBlock ∨ vn'.ownBlock = some W.heap.size) : Bag w vn' s L W' :=
  ⟨gb_ownI h.gr h.own (Nat.le_refl _) hg, ho, fun q hq => (h.rd q hq).app hg ha⟩
theorem Bag.set {g n c j : Nat} (h : Bag w (.slice (some ⟨g, 0, none⟩) n c) r L W) (x : Int) : Bag w (.slice (some ⟨g, 0, none⟩) n c) (r.set j x) L (W.setCell ⟨g, j, none⟩ (.int .i64 x)) :=
  ⟨gb_new h.gr (by have := (h.own.at g (by simp [ownL, Value.ownBlock])).1; exact this) _, h.own.set x, fun q hq => (h.rd q hq).app (vn := .slice (some ⟨g, 0, none⟩) n c) (gb_row (.refl W _) rfl _) (.inl rfl)⟩
theorem Bag.start (hg : w.grownBy W none) (hL : ∀ p ∈ L, IntsAt W p.1 p.2) : Bag w (.slice none 0 0) [] L W :=
  ⟨hg, .nil _ _, fun q hq => ⟨hL q hq, fun h0 a n c e => ⟨ints_block (hL q hq) h0 a n c e, by simp [Value.ownBlock]⟩⟩⟩
/-- an empty slice of the call's own -/
theorem Bag.fresh (h : Bag w vn r L W) : Bag w (.slice (some ⟨W.heap.size, 0, none⟩) 0 0) [] L (W.alloc (.cells #[] 2)) :=
  ⟨gb_alloc h.gr _, (OwnI.empty W).le h.gr.size, fun q hq => (h.rd q hq).fresh (World.grownBy_alloc W _ none) (fun g e => by simp [Value.ownBlock] at e; omega)⟩
/-- one more to read: a new block -/
theorem Bag.add (h : Bag w vn r L W) (l : List Int) (hl : l.length ≤ maxLen) : Bag w vn r ((.slice (some ⟨W.heap.size, 0, none⟩) l.length l.length, l) :: L) (W.alloc (.cells (l.map iv).toArray 2)) :=
  ⟨gb_alloc h.gr _, h.own.grown (World.grownBy_alloc W _ none) (by simp), fun q hq => by
    rcases List.mem_cons.1 hq with rfl | hq
    · refine ⟨ints_of_cells l (at_new W _) hl, fun _ a n c e => ?_⟩
      cases e
      refine ⟨by show W.heap.size < (W.heap.push _).size; simp, fun e2 => ?_⟩
      have := (h.own.at W.heap.size (by simp [ownL]; simpa using e2)).2
      exact absurd this (Nat.lt_irrefl _)
    · exact (h.rd q hq).grown (World.grownBy_alloc W _ none)⟩
/-- the third of three is a new block's one number now -/
theorem Bag.one {p1 p2 p3 : Value × List Int} (h : Bag w vn r [p1, p2, p3] W) (x : Int) : Bag w vn r [p1, p2, (.slice (some ⟨W.heap.size, 0, none⟩) 1 1, [x])] (W.alloc (.cells #[.int .i64 x] 2)) :=
  Bag.sub (L := [(.slice (some ⟨W.heap.size, 0, none⟩) 1 1, [x]), p1, p2, p3]) (h.add [x] (by show 1 ≤ maxLen; unfold maxLen; decide)) (by
    intro p hp
    simp only [List.mem_cons, List.not_mem_nil, or_false] at hp ⊢
    rcases hp with rfl | rfl | rfl
    · exact .inr (.inl rfl)
    · exact .inr (.inr (.inl rfl))
    · exact .inl rfl)
theorem Bag.more (h : Bag w vn r L W) (hp : Rd W vn u s) : Bag w vn r ((u, s) :: L) W :=
  ⟨h.gr, h.own, fun q hq => by
    rcases List.mem_cons.1 hq with rfl | hq
    · exact hp
    · exact h.rd q hq⟩
end
end Go.Proofs.Ytfobddicokogpaa
