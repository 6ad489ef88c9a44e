/-
  What a configuration that comes in reads as. No condition.
-/
import Derived.Test.YtmhpldnmapjghaaPlain
import Derived.Test.YtmhpldnmapjghaaCf
namespace Go.Proofs.Ytmhpldnmapjghaa
set_option maxRecDepth 100000
open Go.ChangeShapes Go.WideShapes Go.ChangeAt Go.RowKit
theorem list26 {cs : List Value} (h : cs.length = 26) : ∃ a0 a1 a2 a3 a4 a5 a6 a7 a8 a9 a10 a11 a12 a13 a14 a15 a16 a17 a18 a19 a20 a21 a22 a23 a24 a25, cs = [a0, a1, a2, a3, a4, a5, a6, a7, a8, a9, a10, a11, a12, a13, a14, a15, a16, a17, a18, a19, a20, a21, a22, a23, a24, a25] := by
  match cs, h with
  | [a0, a1, a2, a3, a4, a5, a6, a7, a8, a9, a10, a11, a12, a13, a14, a15, a16, a17, a18, a19, a20, a21, a22, a23, a24, a25], _ => exact ⟨a0, a1, a2, a3, a4, a5, a6, a7, a8, a9, a10, a11, a12, a13, a14, a15, a16, a17, a18, a19, a20, a21, a22, a23, a24, a25, rfl⟩
section
variable {H : Type} {enc : TypeId × Value → H} {w : World} {base : Nat} {d : DataW H} {ps : List MemPlace} {v : Value}
theorem open_conf (hval : Value.okWide Try.prog w .any base 26 v) (h : DataW.Trod enc Try.prog w 0 (fun _ => true) true 26 v d ps) : ∃ c : Conf, v = cf c := by
  obtain ⟨⟨cs⟩, rfl, hsz⟩ := okWide_struct Try.underlying26 hval
  obtain ⟨fuel, hf⟩ := h
  have hl : cs.length = 26 := hsz.trans (by kernel_rfl)
  obtain ⟨a0, a1, a2, a3, a4, a5, a6, a7, a8, a9, a10, a11, a12, a13, a14, a15, a16, a17, a18, a19, a20, a21, a22, a23, a24, a25, rfl⟩ := list26 hl
  obtain ⟨z0, e0, _⟩ := kindAt_reads 4 26 0 .i64 (by kernel_rfl) _ _ _ hf
  obtain ⟨z1, e1, _⟩ := kindAt_reads 4 26 1 .i64 (by kernel_rfl) _ _ _ hf
  obtain ⟨z2, e2, _⟩ := kindAt_reads 4 26 2 .i64 (by kernel_rfl) _ _ _ hf
  obtain ⟨z3, e3, _⟩ := kindAt_reads 4 26 3 .i64 (by kernel_rfl) _ _ _ hf
  obtain ⟨z4, e4, _⟩ := kindAt_reads 4 26 4 .i64 (by kernel_rfl) _ _ _ hf
  obtain ⟨z5, e5, _⟩ := kindAt_reads 4 26 5 .i64 (by kernel_rfl) _ _ _ hf
  obtain ⟨z6, e6, _⟩ := kindAt_reads 4 26 6 .i64 (by kernel_rfl) _ _ _ hf
  obtain ⟨z7, e7, _⟩ := kindAt_reads 4 26 7 .i64 (by kernel_rfl) _ _ _ hf
  obtain ⟨z8, e8, _⟩ := kindAt_reads 4 26 8 .i64 (by kernel_rfl) _ _ _ hf
  obtain ⟨z9, e9, _⟩ := kindAt_reads 4 26 9 .i64 (by kernel_rfl) _ _ _ hf
  obtain ⟨z10, e10, _⟩ := kindAt_reads 4 26 10 .i64 (by kernel_rfl) _ _ _ hf
  obtain ⟨z11, e11, _⟩ := kindAt_reads 4 26 11 .i64 (by kernel_rfl) _ _ _ hf
  obtain ⟨z12, e12, _⟩ := kindAt_reads 4 26 12 .i64 (by kernel_rfl) _ _ _ hf
  obtain ⟨z13, e13, _⟩ := kindAt_reads 4 26 13 .i64 (by kernel_rfl) _ _ _ hf
  obtain ⟨z14, e14, _⟩ := kindAt_reads 4 26 14 .i64 (by kernel_rfl) _ _ _ hf
  obtain ⟨z15, e15, _⟩ := kindAt_reads 4 26 15 .i64 (by kernel_rfl) _ _ _ hf
  obtain ⟨z16, e16, _⟩ := kindAt_reads 4 26 16 .i64 (by kernel_rfl) _ _ _ hf
  obtain ⟨z17, e17, _⟩ := kindAt_reads 4 26 17 .i64 (by kernel_rfl) _ _ _ hf
  obtain ⟨z18, e18, _⟩ := kindAt_reads 4 26 18 .i64 (by kernel_rfl) _ _ _ hf
  obtain ⟨z19, e19, _⟩ := kindAt_reads 4 26 19 .i64 (by kernel_rfl) _ _ _ hf
  obtain ⟨z20, e20, _⟩ := kindAt_reads 4 26 20 .i64 (by kernel_rfl) _ _ _ hf
  obtain ⟨z21, e21, _⟩ := kindAt_reads 4 26 21 .i64 (by kernel_rfl) _ _ _ hf
  obtain ⟨z22, e22, _⟩ := kindAt_reads 4 26 22 .i64 (by kernel_rfl) _ _ _ hf
  obtain ⟨z23, e23, _⟩ := kindAt_reads 4 26 23 .i64 (by kernel_rfl) _ _ _ hf
  obtain ⟨z24, e24, _⟩ := kindAt_reads 4 26 24 .i64 (by kernel_rfl) _ _ _ hf
  obtain ⟨z25, e25, _⟩ := kindAt_reads 4 26 25 .u64 (by kernel_rfl) _ _ _ hf
  exact ⟨⟨z0, z1, z2, z3, z4, z5, z6, z7, z8, z9, z10, z11, z12, z13, z14, z15, z16, z17, z18, z19, z20, z21, z22, z23, z24, z25⟩, by
    obtain rfl := Option.some.inj e0
    obtain rfl := Option.some.inj e1
    obtain rfl := Option.some.inj e2
    obtain rfl := Option.some.inj e3
    obtain rfl := Option.some.inj e4
    obtain rfl := Option.some.inj e5
    obtain rfl := Option.some.inj e6
    obtain rfl := Option.some.inj e7
    obtain rfl := Option.some.inj e8
    obtain rfl := Option.some.inj e9
    obtain rfl := Option.some.inj e10
    obtain rfl := Option.some.inj e11
    obtain rfl := Option.some.inj e12
    obtain rfl := Option.some.inj e13
    obtain rfl := Option.some.inj e14
    obtain rfl := Option.some.inj e15
    obtain rfl := Option.some.inj e16
    obtain rfl := Option.some.inj e17
    obtain rfl := Option.some.inj e18
    obtain rfl := Option.some.inj e19
    obtain rfl := Option.some.inj e20
    obtain rfl := Option.some.inj e21
    obtain rfl := Option.some.inj e22
    obtain rfl := Option.some.inj e23
    obtain rfl := Option.some.inj e24
    obtain rfl := Option.some.inj e25
    rfl⟩
end
end Go.Proofs.Ytmhpldnmapjghaa
