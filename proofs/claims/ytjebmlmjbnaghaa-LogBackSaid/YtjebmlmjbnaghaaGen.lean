/-
  Of a world keep just what is said: small lemmas for the walks. No condition. Nothing of the program is named here.
-/
import Derived.WalkKit
namespace Go.Proofs.Ytjebmlmjbnaghaa
set_option maxRecDepth 100000
open Go.RowKit
theorem wp_gen {C : Program} {c : Code} {Q : Exit → Act → World → Prop} {a : Act} {w : World} (P : World → Prop) (h : P w) (k : ∀ wx, P wx → Code.wp C c Q a wx) : Code.wp C c Q a w := k w h
theorem cut_gen {K : Act → World → Prop} {a : Act} {w : World} (P : World → Prop) (h : P w) (k : ∀ wx, P wx → K a wx) : K a w := k w h
end Go.Proofs.Ytjebmlmjbnaghaa
