/-
  Contract for bytes.Clone: bytes copied into a slice of the call's own. The condition: a slice that is not nil and reads as bytes.
-/
import Derived.Test.YtjebmlmjbnaghaaByt
import Derived.Lib.SliceRun
import Derived.WalkSpells
import Derived.WalkLawsBesides
set_option linter.unusedSimpArgs false
set_option linter.unusedVariables false
namespace Go.Proofs.Ytjebmlmjbnaghaa
set_option maxRecDepth 100000
open Go.RowKit

set_option maxHeartbeats 1600000 in
/-- bytes in a slice that is not nil, copied -/
theorem clone_some (a : Addr) (n c : Nat) (l : List UInt8) (hn : l.length = n) (h1 : n ≤ 100000) (w : World) (hl : BytesAt w (.slice (some a) n c) l) :
    Calls Try.prog 32 #[.slice (some a) n c] w fun e w' => ∃ v, e = .returned v ∧ OwnB w.heap.size w' v l ∧ w.grownBy w' none := by
  have HL := hid hl; have HN := hid hn; clear hl hn
  have hnil := Lib.run_eql_slice_nil w 23 5 (some a) n c 0 0 Try.underlying23
  have he := OwnB.empty w
  have HE := hid he; clear he
  have BA := hid (HL.out.alloc (.cells #[] 5))
  go_enter Try.func32, Try.ntmps32
  go_wp2_with (refine append_bytes rfl _ _ rfl w.heap.size _ [] rfl HE.out _ l rfl BA.out (by rw [HN.out]; simp; omega) (gb_size (gb_alloc (.refl w none) _)) ?_; intro u1 w4 o4 g4 a4)
  go_ret
  exact ⟨_, rfl, by simpa using o4, gb_own (gb_alloc (.refl w none) _) HE.out (Nat.le_refl _) g4⟩
end Go.Proofs.Ytjebmlmjbnaghaa
