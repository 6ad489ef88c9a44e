/-
  The names of a configuration's parts, as both statements on parts lay them. No condition.
-/
import Derived.Test.YtabfeaifbjfdoaaCfAt
set_option linter.unusedSimpArgs false
namespace Go.Proofs.Ytabfeaifbjfdoaa
set_option maxRecDepth 100000
open Go.RowKit
/-- the k-th part's name -/
def nm : Nat → ByteArray
  | 0 => ⟨#[110]⟩
  | 1 => ⟨#[102]⟩
  | 2 => ⟨#[109]⟩
  | 3 => ⟨#[113, 117, 111, 114, 117, 109]⟩
  | 4 => ⟨#[102, 114, 101, 115, 104]⟩
  | 5 => ⟨#[103, 114, 97, 99, 101]⟩
  | 6 => ⟨#[119, 105, 110, 100, 111, 119]⟩
  | 7 => ⟨#[116, 97, 114, 103, 101, 116]⟩
  | 8 => ⟨#[116, 111, 108]⟩
  | 9 => ⟨#[109, 105, 110]⟩
  | 10 => ⟨#[109, 97, 120]⟩
  | 11 => ⟨#[99, 97, 108, 109, 117, 112]⟩
  | 12 => ⟨#[99, 97, 108, 109, 100, 111, 119, 110]⟩
  | 13 => ⟨#[112, 111, 100, 115, 117, 112]⟩
  | 14 => ⟨#[112, 99, 116, 117, 112]⟩
  | 15 => ⟨#[112, 111, 100, 115, 100, 111, 119, 110]⟩
  | 16 => ⟨#[112, 99, 116, 100, 111, 119, 110]⟩
  | 17 => ⟨#[112, 101, 114, 105, 111, 100]⟩
  | 18 => ⟨#[102, 97, 114]⟩
  | 19 => ⟨#[115, 116, 114, 105, 107, 101, 115]⟩
  | 20 => ⟨#[112, 114, 111, 98, 101]⟩
  | _ => ⟨#[115, 101, 99, 116, 111, 114, 115]⟩
def nmCells : Array Value := #[.string ⟨#[110]⟩, .string ⟨#[102]⟩, .string ⟨#[109]⟩, .string ⟨#[113, 117, 111, 114, 117, 109]⟩, .string ⟨#[102, 114, 101, 115, 104]⟩, .string ⟨#[103, 114, 97, 99, 101]⟩, .string ⟨#[119, 105, 110, 100, 111, 119]⟩, .string ⟨#[116, 97, 114, 103, 101, 116]⟩, .string ⟨#[116, 111, 108]⟩, .string ⟨#[109, 105, 110]⟩, .string ⟨#[109, 97, 120]⟩, .string ⟨#[99, 97, 108, 109, 117, 112]⟩, .string ⟨#[99, 97, 108, 109, 100, 111, 119, 110]⟩, .string ⟨#[112, 111, 100, 115, 117, 112]⟩, .string ⟨#[112, 99, 116, 117, 112]⟩, .string ⟨#[112, 111, 100, 115, 100, 111, 119, 110]⟩, .string ⟨#[112, 99, 116, 100, 111, 119, 110]⟩, .string ⟨#[112, 101, 114, 105, 111, 100]⟩, .string ⟨#[102, 97, 114]⟩, .string ⟨#[115, 116, 114, 105, 107, 101, 115]⟩, .string ⟨#[112, 114, 111, 98, 101]⟩, .string ⟨#[115, 101, 99, 116, 111, 114, 115]⟩]
theorem nm_cell (k : Nat) (h : k < 22) : nmCells[k]? = some (.string (nm k)) := by
  have h2 : k = 0 ∨ k = 1 ∨ k = 2 ∨ k = 3 ∨ k = 4 ∨ k = 5 ∨ k = 6 ∨ k = 7 ∨ k = 8 ∨ k = 9 ∨ k = 10 ∨ k = 11 ∨ k = 12 ∨ k = 13 ∨ k = 14 ∨ k = 15 ∨ k = 16 ∨ k = 17 ∨ k = 18 ∨ k = 19 ∨ k = 20 ∨ k = 21 := by omega
  rcases h2 with rfl | rfl | rfl | rfl | rfl | rfl | rfl | rfl | rfl | rfl | rfl | rfl | rfl | rfl | rfl | rfl | rfl | rfl | rfl | rfl | rfl | rfl <;> rfl
/-- a number out of 'uint(x) % m' -/
theorem umod_small (x : Int) (m : Nat) (h0 : 0 < m) : ∃ k : Nat, k < m ∧ (IntKind.u64.wrap x).tmod (m : Int) = (k : Int) := by
  have h : 0 ≤ IntKind.u64.wrap x := by
    show 0 ≤ x % _
    exact Int.emod_nonneg _ (by decide)
  rw [Int.tmod_eq_emod_of_nonneg h]
  have a := Int.emod_nonneg (IntKind.u64.wrap x) (b := (m : Int)) (by omega)
  have b := Int.emod_lt_of_pos (IntKind.u64.wrap x) (b := (m : Int)) (by omega)
  exact ⟨((IntKind.u64.wrap x) % (m : Int)).toNat, by omega, by omega⟩
end Go.Proofs.Ytabfeaifbjfdoaa
