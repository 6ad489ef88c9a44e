/-
  A relation on worlds: all is as it was but for some blocks that are named, and for new ones. No condition. Nothing of the program is named here.
-/
import Derived.Test.YtjebmlmjbnaghaaGrow
namespace Go.Proofs.Ytjebmlmjbnaghaa
set_option maxRecDepth 100000
open Go.RowKit

structure Chg (F : List Nat) (w w' : World) : Prop where
  os : w'.os = w.os
  tape : w'.tape = w.tape
  output : w'.output = w.output
  size : w.heap.size ≤ w'.heap.size
  block : ∀ k, k < w.heap.size → k ∉ F → w'.heap[k]? = w.heap[k]?
section
variable {F G : List Nat} {a b c w w1 w2 : World} {x : Nat} {o : Obj}
theorem chg_refl (w : World) (F : List Nat) : Chg F w w := ⟨rfl, rfl, rfl, Nat.le_refl _, fun _ _ _ => rfl⟩
theorem Chg.trans (h : Chg F a b) (k : Chg G b c) (hg : ∀ x ∈ G, x ∈ F ∨ a.heap.size ≤ x) : Chg F a c :=
  ⟨k.os.trans h.os, k.tape.trans h.tape, k.output.trans h.output, Nat.le_trans h.size k.size, fun i hi hn => by
    have h1 := h.size
    rw [k.block i (by omega) (fun hm => by
      rcases hg i hm with e | e
      · exact hn e
      · omega)]
    exact h.block i hi hn⟩
theorem chg_grown (h : a.grownBy b none) (F : List Nat) : Chg F a b := ⟨h.os, h.tape, h.output, h.size, fun i hi _ => h.block i hi (by simp)⟩
theorem chg_row (h : a.grownBy b (some x)) : Chg [x] a b := ⟨h.os, h.tape, h.output, h.size, fun i hi hn => h.block i hi (by intro e; cases e; exact hn (by simp))⟩
theorem Chg.then (h : Chg F a b) (k : Chg F b c) : Chg F a c := h.trans k fun _ hx => .inl hx
theorem Chg.more (h : Chg F a b) (hs : ∀ x ∈ F, x ∈ G) : Chg G a b := ⟨h.os, h.tape, h.output, h.size, fun i hi hn => h.block i hi fun hm => hn (hs _ hm)⟩
theorem Chg.grown (h : Chg F a b) (k : b.grownBy c none) : Chg F a c := h.then (chg_grown k F)
theorem Chg.alloc (h : Chg F a b) (o : Obj) : Chg F a (b.alloc o) := h.grown (World.grownBy_alloc b o none)
theorem Chg.drew (h : Chg F a b) : Chg F a b.drew := ⟨h.os, h.tape, h.output, h.size, h.block⟩
theorem Chg.set (h : Chg F a b) {p : Addr} (hp : p.block ∈ F ∨ a.heap.size ≤ p.block) (v : Value) : Chg F a (b.setCell p v) :=
  ⟨h.os, h.tape, h.output, by simpa [World.setCell] using h.size, fun k hk hn => by
    rw [Below.heap_setCell _ _ _ _ (by intro e; rcases hp with hp | hp; exact hn (by rw [e]; exact hp); omega)]; exact h.block k hk hn⟩
theorem Chg.at (h : Chg F a b) (hx : a.heap[x]? = some o) (hn : x ∉ F) : b.heap[x]? = some o := by
  rw [h.block x (at_lt hx) hn]; exact hx
theorem Chg.free (h : Chg F a b) (hF : ∀ x ∈ F, a.heap.size ≤ x) : a.grownBy b none :=
  ⟨h.os, h.tape, h.output, h.size, fun i hi _ => h.block i hi fun hm => by have := hF i hm; omega⟩
/-- what was made by the call itself does not count -/
theorem Chg.less (h : Chg F a b) (hF : ∀ x ∈ F, x ∈ G ∨ a.heap.size ≤ x) : Chg G a b :=
  ⟨h.os, h.tape, h.output, h.size, fun i hi hn => h.block i hi fun hm => by rcases hF i hm with e | e; exact hn e; omega⟩
theorem Chg.cell (h : Chg F a b) {p : Addr} {v : Value} (hx : a.cell? p = some v) (hn : p.block ∉ F) : b.cell? p = some v := by
  have hlt : p.block < a.heap.size := by
    rcases Nat.lt_or_ge p.block a.heap.size with hb | hb
    · exact hb
    · simp [World.cell?, Array.getElem?_eq_none hb] at hx
  rw [World.cell?_of_block (h.block _ hlt hn)]; exact hx
end
end Go.Proofs.Ytjebmlmjbnaghaa
