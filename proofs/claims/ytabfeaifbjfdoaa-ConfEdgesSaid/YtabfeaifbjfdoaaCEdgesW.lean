/-
  The walk of the statement ConfEdges: each part at its least and its most may be; one below, one above may not. No condition.
-/
import Derived.Test.YtabfeaifbjfdoaaCfNames
import Derived.Deep.CutBlock
set_option linter.unusedSimpArgs false
namespace Go.Proofs.Ytabfeaifbjfdoaa.edges
set_option maxRecDepth 100000
open Go.RowKit

def lo : Nat → Int
  | 0 => 1
  | 1 => 0
  | 2 => 1
  | 3 => 1
  | 4 => 1
  | 5 => 1
  | 6 => 1
  | 7 => 1
  | 8 => 0
  | 9 => 1
  | 10 => 1
  | 11 => 0
  | 12 => 0
  | 13 => 1
  | 14 => 1
  | 15 => 1
  | 16 => 1
  | 17 => 1
  | 18 => 0
  | 19 => 1
  | 20 => 1
  | _ => 64
def hi : Nat → Int
  | 0 => 16
  | 1 => 1
  | 2 => 1
  | 3 => 4
  | 4 => 8
  | 5 => 100
  | 6 => 64
  | 7 => 1099511627776
  | 8 => 1000
  | 9 => 10000
  | 10 => 10000
  | 11 => 60
  | 12 => 60
  | 13 => 1000
  | 14 => 1000
  | 15 => 1000
  | 16 => 100
  | 17 => 60
  | 18 => 1099511627776
  | 19 => 100
  | 20 => 100
  | _ => 4096
def loCells : Array Value := #[.int .i64 1, .int .i64 0, .int .i64 1, .int .i64 1, .int .i64 1, .int .i64 1, .int .i64 1, .int .i64 1, .int .i64 0, .int .i64 1, .int .i64 1, .int .i64 0, .int .i64 0, .int .i64 1, .int .i64 1, .int .i64 1, .int .i64 1, .int .i64 1, .int .i64 0, .int .i64 1, .int .i64 1, .int .i64 64]
def hiCells : Array Value := #[.int .i64 16, .int .i64 1, .int .i64 1, .int .i64 4, .int .i64 8, .int .i64 100, .int .i64 64, .int .i64 1099511627776, .int .i64 1000, .int .i64 10000, .int .i64 10000, .int .i64 60, .int .i64 60, .int .i64 1000, .int .i64 1000, .int .i64 1000, .int .i64 100, .int .i64 60, .int .i64 1099511627776, .int .i64 100, .int .i64 100, .int .i64 4096]
theorem lo_cell (k : Nat) (h : k < 22) : loCells[k]? = some (.int .i64 (lo k)) := by
  have h2 : k = 0 ∨ k = 1 ∨ k = 2 ∨ k = 3 ∨ k = 4 ∨ k = 5 ∨ k = 6 ∨ k = 7 ∨ k = 8 ∨ k = 9 ∨ k = 10 ∨ k = 11 ∨ k = 12 ∨ k = 13 ∨ k = 14 ∨ k = 15 ∨ k = 16 ∨ k = 17 ∨ k = 18 ∨ k = 19 ∨ k = 20 ∨ k = 21 := by omega
  rcases h2 with rfl | rfl | rfl | rfl | rfl | rfl | rfl | rfl | rfl | rfl | rfl | rfl | rfl | rfl | rfl | rfl | rfl | rfl | rfl | rfl | rfl | rfl <;> rfl
theorem hi_cell (k : Nat) (h : k < 22) : hiCells[k]? = some (.int .i64 (hi k)) := by
  have h2 : k = 0 ∨ k = 1 ∨ k = 2 ∨ k = 3 ∨ k = 4 ∨ k = 5 ∨ k = 6 ∨ k = 7 ∨ k = 8 ∨ k = 9 ∨ k = 10 ∨ k = 11 ∨ k = 12 ∨ k = 13 ∨ k = 14 ∨ k = 15 ∨ k = 16 ∨ k = 17 ∨ k = 18 ∨ k = 19 ∨ k = 20 ∨ k = 21 := by omega
  rcases h2 with rfl | rfl | rfl | rfl | rfl | rfl | rfl | rfl | rfl | rfl | rfl | rfl | rfl | rfl | rfl | rfl | rfl | rfl | rfl | rfl | rfl | rfl <;> rfl
theorem lo_in (k : Nat) : 0 ≤ lo k ∧ lo k ≤ 64 := by unfold lo; split <;> omega
theorem hi_in (k : Nat) : 0 ≤ hi k ∧ hi k ≤ 1099511627776 := by unfold hi; split <;> omega
/-- the e-th edge -/
def edge (lo hi : Int) : Nat → Int
  | 0 => lo
  | 1 => hi
  | 2 => lo - 1
  | _ => hi + 1
@[reducible] def ec : Conf := ⟨4, 0, 1, 1, 2, 2, 32, 1000, 0, 0, 0, 100, 1, 10000, 0, 3, 4, 100, 4, 50, 2, 100, 3, 4, 256, 1⟩

/-- what the law lays: the names, the least, the most, the configuration -/
structure Es (w0 : World) (A B C x : Nat) (c : Conf) (w : World) : Prop where
  hA : w.heap[A]? = some (.cells nmCells 9)
  hB : w.heap[B]? = some (.cells loCells 2)
  hC : w.heap[C]? = some (.cells hiCells 2)
  cx : Cfx w0 x c w
theorem Es.grown {w0 w1 w2 : World} {A B C x : Nat} {c : Conf} (h : Es w0 A B C x c w1) (hg : w1.grownBy w2 none) : Es w0 A B C x c w2 := ⟨at_grown h.hA hg (by simp), at_grown h.hB hg (by simp), at_grown h.hC hg (by simp), h.cx.grown hg⟩
theorem Es.drew {w0 w1 : World} {A B C x : Nat} {c : Conf} (h : Es w0 A B C x c w1) : Es w0 A B C x c w1.drew := ⟨h.hA, h.hB, h.hC, h.cx.drew⟩

theorem edge_0 (d : Nat) (hd : d < 4) : (st22 (⟨edge (lo 0) (hi 0) d, 0, 1, 1, 2, 2, 32, 1000, 0, 0, 0, 100, 1, 10000, 0, 3, 4, 100, 4, 50, 2, 100, 3, 4, 256, 1⟩ : Conf)).getD ⟨#[]⟩ = (if d < 2 then ⟨#[]⟩ else nm 0) := by
  have h : d = 0 ∨ d = 1 ∨ d = 2 ∨ d = 3 := by omega
  rcases h with rfl | rfl | rfl | rfl <;> decide +kernel
theorem edge_1 (d : Nat) (hd : d < 4) : (st22 (⟨4, edge (lo 1) (hi 1) d, 1, 4, 2, 2, 32, 1000, 0, 0, 0, 100, 1, 10000, 0, 3, 4, 100, 4, 50, 2, 100, 3, 4, 256, 1⟩ : Conf)).getD ⟨#[]⟩ = (if d < 2 then ⟨#[]⟩ else nm 1) := by
  have h : d = 0 ∨ d = 1 ∨ d = 2 ∨ d = 3 := by omega
  rcases h with rfl | rfl | rfl | rfl <;> decide +kernel
theorem edge_2 (d : Nat) (hd : d < 4) : (st22 (⟨4, 0, edge (lo 2) (hi 2) d, 1, 2, 2, 32, 1000, 0, 0, 0, 100, 1, 10000, 0, 3, 4, 100, 4, 50, 2, 100, 3, 4, 256, 1⟩ : Conf)).getD ⟨#[]⟩ = (if d = 3 then ⟨#[116, 97, 114, 103, 101, 116]⟩ else if d < 2 then ⟨#[]⟩ else nm 2) := by
  have h : d = 0 ∨ d = 1 ∨ d = 2 ∨ d = 3 := by omega
  rcases h with rfl | rfl | rfl | rfl <;> decide +kernel
theorem edge_3 (d : Nat) (hd : d < 4) : (st22 (⟨4, 0, 1, edge (lo 3) (hi 3) d, 2, 2, 32, 1000, 0, 0, 0, 100, 1, 10000, 0, 3, 4, 100, 4, 50, 2, 100, 3, 4, 256, 1⟩ : Conf)).getD ⟨#[]⟩ = (if d < 2 then ⟨#[]⟩ else nm 3) := by
  have h : d = 0 ∨ d = 1 ∨ d = 2 ∨ d = 3 := by omega
  rcases h with rfl | rfl | rfl | rfl <;> decide +kernel
theorem edge_4 (d : Nat) (hd : d < 4) : (st22 (⟨4, 0, 1, 1, edge (lo 4) (hi 4) d, 2, 32, 1000, 0, 0, 0, 100, 1, 10000, 0, 3, 4, 100, 4, 50, 2, 100, 3, 4, 256, 1⟩ : Conf)).getD ⟨#[]⟩ = (if d < 2 then ⟨#[]⟩ else nm 4) := by
  have h : d = 0 ∨ d = 1 ∨ d = 2 ∨ d = 3 := by omega
  rcases h with rfl | rfl | rfl | rfl <;> decide +kernel
theorem edge_5 (d : Nat) (hd : d < 4) : (st22 (⟨4, 0, 1, 1, 2, edge (lo 5) (hi 5) d, 32, 1000, 0, 0, 0, 100, 1, 10000, 0, 3, 4, 100, 4, 50, 2, 100, 3, 4, 256, 1⟩ : Conf)).getD ⟨#[]⟩ = (if d < 2 then ⟨#[]⟩ else nm 5) := by
  have h : d = 0 ∨ d = 1 ∨ d = 2 ∨ d = 3 := by omega
  rcases h with rfl | rfl | rfl | rfl <;> decide +kernel
theorem edge_6 (d : Nat) (hd : d < 4) : (st22 (⟨4, 0, 1, 1, 2, 2, edge (lo 6) (hi 6) d, 1000, 0, 0, 0, 100, 1, 10000, 0, 3, 4, 100, 4, 50, 2, 100, 3, 4, 256, 1⟩ : Conf)).getD ⟨#[]⟩ = (if d < 2 then ⟨#[]⟩ else nm 6) := by
  have h : d = 0 ∨ d = 1 ∨ d = 2 ∨ d = 3 := by omega
  rcases h with rfl | rfl | rfl | rfl <;> decide +kernel
theorem edge_7 (d : Nat) (hd : d < 4) : (st22 (⟨4, 0, 1, 1, 2, 2, 32, edge (lo 7) (hi 7) d, 0, 0, 0, 100, 1, 10000, 0, 3, 4, 100, 4, 50, 2, 100, 3, 4, 256, 1⟩ : Conf)).getD ⟨#[]⟩ = (if d < 2 then ⟨#[]⟩ else nm 7) := by
  have h : d = 0 ∨ d = 1 ∨ d = 2 ∨ d = 3 := by omega
  rcases h with rfl | rfl | rfl | rfl <;> decide +kernel
theorem edge_8 (d : Nat) (hd : d < 4) : (st22 (⟨4, 0, 1, 1, 2, 2, 32, 1000, 0, 0, 0, edge (lo 8) (hi 8) d, 1, 10000, 0, 3, 4, 100, 4, 50, 2, 100, 3, 4, 256, 1⟩ : Conf)).getD ⟨#[]⟩ = (if d < 2 then ⟨#[]⟩ else nm 8) := by
  have h : d = 0 ∨ d = 1 ∨ d = 2 ∨ d = 3 := by omega
  rcases h with rfl | rfl | rfl | rfl <;> decide +kernel
theorem edge_9 (d : Nat) (hd : d < 4) : (st22 (⟨4, 0, 1, 1, 2, 2, 32, 1000, 0, 0, 0, 100, edge (lo 9) (hi 9) d, 10000, 0, 3, 4, 100, 4, 50, 2, 100, 3, 4, 256, 1⟩ : Conf)).getD ⟨#[]⟩ = (if d < 2 then ⟨#[]⟩ else nm 9) := by
  have h : d = 0 ∨ d = 1 ∨ d = 2 ∨ d = 3 := by omega
  rcases h with rfl | rfl | rfl | rfl <;> decide +kernel
theorem edge_10 (d : Nat) (hd : d < 4) : (st22 (⟨4, 0, 1, 1, 2, 2, 32, 1000, 0, 0, 0, 100, 1, edge (lo 10) (hi 10) d, 0, 3, 4, 100, 4, 50, 2, 100, 3, 4, 256, 1⟩ : Conf)).getD ⟨#[]⟩ = (if d < 2 then ⟨#[]⟩ else nm 10) := by
  have h : d = 0 ∨ d = 1 ∨ d = 2 ∨ d = 3 := by omega
  rcases h with rfl | rfl | rfl | rfl <;> decide +kernel
theorem edge_11 (d : Nat) (hd : d < 4) : (st22 (⟨4, 0, 1, 1, 2, 2, 32, 1000, 0, 0, 0, 100, 1, 10000, edge (lo 11) (hi 11) d, 3, 4, 100, 4, 50, 2, 100, 3, 4, 256, 1⟩ : Conf)).getD ⟨#[]⟩ = (if d < 2 then ⟨#[]⟩ else nm 11) := by
  have h : d = 0 ∨ d = 1 ∨ d = 2 ∨ d = 3 := by omega
  rcases h with rfl | rfl | rfl | rfl <;> decide +kernel
theorem edge_12 (d : Nat) (hd : d < 4) : (st22 (⟨4, 0, 1, 1, 2, 2, 32, 1000, 0, 0, 0, 100, 1, 10000, 0, edge (lo 12) (hi 12) d, 4, 100, 4, 50, 2, 100, 3, 4, 256, 1⟩ : Conf)).getD ⟨#[]⟩ = (if d < 2 then ⟨#[]⟩ else nm 12) := by
  have h : d = 0 ∨ d = 1 ∨ d = 2 ∨ d = 3 := by omega
  rcases h with rfl | rfl | rfl | rfl <;> decide +kernel
theorem edge_13 (d : Nat) (hd : d < 4) : (st22 (⟨4, 0, 1, 1, 2, 2, 32, 1000, 0, 0, 0, 100, 1, 10000, 0, 3, edge (lo 13) (hi 13) d, 100, 4, 50, 2, 100, 3, 4, 256, 1⟩ : Conf)).getD ⟨#[]⟩ = (if d < 2 then ⟨#[]⟩ else nm 13) := by
  have h : d = 0 ∨ d = 1 ∨ d = 2 ∨ d = 3 := by omega
  rcases h with rfl | rfl | rfl | rfl <;> decide +kernel
theorem edge_14 (d : Nat) (hd : d < 4) : (st22 (⟨4, 0, 1, 1, 2, 2, 32, 1000, 0, 0, 0, 100, 1, 10000, 0, 3, 4, edge (lo 14) (hi 14) d, 4, 50, 2, 100, 3, 4, 256, 1⟩ : Conf)).getD ⟨#[]⟩ = (if d < 2 then ⟨#[]⟩ else nm 14) := by
  have h : d = 0 ∨ d = 1 ∨ d = 2 ∨ d = 3 := by omega
  rcases h with rfl | rfl | rfl | rfl <;> decide +kernel
theorem edge_15 (d : Nat) (hd : d < 4) : (st22 (⟨4, 0, 1, 1, 2, 2, 32, 1000, 0, 0, 0, 100, 1, 10000, 0, 3, 4, 100, edge (lo 15) (hi 15) d, 50, 2, 100, 3, 4, 256, 1⟩ : Conf)).getD ⟨#[]⟩ = (if d < 2 then ⟨#[]⟩ else nm 15) := by
  have h : d = 0 ∨ d = 1 ∨ d = 2 ∨ d = 3 := by omega
  rcases h with rfl | rfl | rfl | rfl <;> decide +kernel
theorem edge_16 (d : Nat) (hd : d < 4) : (st22 (⟨4, 0, 1, 1, 2, 2, 32, 1000, 0, 0, 0, 100, 1, 10000, 0, 3, 4, 100, 4, edge (lo 16) (hi 16) d, 2, 100, 3, 4, 256, 1⟩ : Conf)).getD ⟨#[]⟩ = (if d < 2 then ⟨#[]⟩ else nm 16) := by
  have h : d = 0 ∨ d = 1 ∨ d = 2 ∨ d = 3 := by omega
  rcases h with rfl | rfl | rfl | rfl <;> decide +kernel
theorem edge_17 (d : Nat) (hd : d < 4) : (st22 (⟨4, 0, 1, 1, 2, 2, 32, 1000, 0, 0, 0, 100, 1, 10000, 0, 3, 4, 100, 4, 50, edge (lo 17) (hi 17) d, 100, 3, 4, 256, 1⟩ : Conf)).getD ⟨#[]⟩ = (if d < 2 then ⟨#[]⟩ else nm 17) := by
  have h : d = 0 ∨ d = 1 ∨ d = 2 ∨ d = 3 := by omega
  rcases h with rfl | rfl | rfl | rfl <;> decide +kernel
theorem edge_18 (d : Nat) (hd : d < 4) : (st22 (⟨4, 0, 1, 1, 2, 2, 32, 1000, 0, 0, 0, 100, 1, 10000, 0, 3, 4, 100, 4, 50, 2, edge (lo 18) (hi 18) d, 3, 4, 256, 1⟩ : Conf)).getD ⟨#[]⟩ = (if d < 2 then ⟨#[]⟩ else nm 18) := by
  have h : d = 0 ∨ d = 1 ∨ d = 2 ∨ d = 3 := by omega
  rcases h with rfl | rfl | rfl | rfl <;> decide +kernel
theorem edge_19 (d : Nat) (hd : d < 4) : (st22 (⟨4, 0, 1, 1, 2, 2, 32, 1000, 0, 0, 0, 100, 1, 10000, 0, 3, 4, 100, 4, 50, 2, 100, edge (lo 19) (hi 19) d, 4, 256, 1⟩ : Conf)).getD ⟨#[]⟩ = (if d < 2 then ⟨#[]⟩ else nm 19) := by
  have h : d = 0 ∨ d = 1 ∨ d = 2 ∨ d = 3 := by omega
  rcases h with rfl | rfl | rfl | rfl <;> decide +kernel
theorem edge_20 (d : Nat) (hd : d < 4) : (st22 (⟨4, 0, 1, 1, 2, 2, 32, 1000, 0, 0, 0, 100, 1, 10000, 0, 3, 4, 100, 4, 50, 2, 100, 3, edge (lo 20) (hi 20) d, 256, 1⟩ : Conf)).getD ⟨#[]⟩ = (if d < 2 then ⟨#[]⟩ else nm 20) := by
  have h : d = 0 ∨ d = 1 ∨ d = 2 ∨ d = 3 := by omega
  rcases h with rfl | rfl | rfl | rfl <;> decide +kernel
theorem edge_21 (d : Nat) (hd : d < 4) : (st22 (⟨4, 0, 1, 1, 2, 2, 32, 1000, 0, 0, 0, 100, 1, 10000, 0, 3, 4, 100, 4, 50, 2, 100, 3, 4, edge (lo 21) (hi 21) d, 1⟩ : Conf)).getD ⟨#[]⟩ = (if d < 2 then ⟨#[]⟩ else nm 21) := by
  have h : d = 0 ∨ d = 1 ∨ d = 2 ∨ d = 3 := by omega
  rcases h with rfl | rfl | rfl | rfl <;> decide +kernel

set_option maxHeartbeats 6400000 in
theorem walk (part ed : Int) {w : World} :
    Calls Try.prog 3 #[.int .i64 part, .int .i64 ed] w fun e w' => e = .returned (.bool true) ∧ w.grownBy w' none := by
  go_enter Try.func3, Try.ntmps3
  go_wp2_with (first | refine Great.wpList_buildSliceTo rfl 22 9 22 _ rfl w.heap.size rfl _ rfl Try.underlying22 nmCells (by kernel_rfl) ?_ | refine Great.wpList_buildSliceTo rfl 23 2 22 _ rfl (w.heap.size + 1) (size_new _ _) _ rfl Try.underlying23 loCells (by kernel_rfl) ?_ | refine Great.wpList_buildSliceTo rfl 23 2 22 _ rfl (w.heap.size + 2) ((size_new _ _).trans (congrArg (· + 1) (size_new _ _))) _ rfl Try.underlying23 hiCells (by kernel_rfl) ?_)
  refine (default_any _).mono ?_
  rintro e w1 ⟨rfl, hg⟩
  have hA1 : w1.heap[w.heap.size]? = some (.cells nmCells 9) := at_grown (at_alloc (at_alloc (at_new w _) _) _) hg (by simp)
  have hB1 : w1.heap[w.heap.size + 1]? = some (.cells loCells 2) := at_grown (at_alloc (by rw [← size_new w (.cells nmCells 9)]; exact at_new _ _) _) hg (by simp)
  have hC1 : w1.heap[w.heap.size + 2]? = some (.cells hiCells 2) := at_grown (by rw [← (size_new (w.alloc (.cells nmCells 9)) (.cells loCells 2)).trans (congrArg (· + 1) (size_new _ _))]; exact at_new _ _) hg (by simp)
  have G1 := hid (gb_trans (gb_alloc (gb_alloc (gb_alloc (.refl w none) _) _) _) hg (.inl rfl)); clear hg
  have HA := hid hA1; have HB := hid hB1; have HC := hid hC1; clear hA1 hB1 hC1
  have hw0 : ∃ m, m = w.heap.size := ⟨_, rfl⟩
  obtain ⟨m0, hm0⟩ := hw0
  rw [← hm0] at HA HB HC ⊢
  generalize m0 + 2 = C at HC ⊢
  generalize m0 + 1 = B at HB ⊢
  clear hm0
  generalize m0 = A at HA ⊢
  go_upto_region 7 with (first | refine wpList_store_new (w := w1) (cs := dflt.cells) rfl (by kernel_rfl) (by kernel_rfl) (by kernel_rfl) rfl rfl rfl rfl rfl ?_)
  have E0 := hid (show Es w A B C w1.heap.size ec (w1.alloc (.cells ec.cells 27)) from ⟨at_alloc HA.out _, at_alloc HB.out _, at_alloc HC.out _, cfx_new ec G1.out⟩)
  refine wp_gen (Es w A B C w1.heap.size ec) E0.out ?_
  clear E0 HA HB HC
  have hlow : w.heap.size ≤ w1.heap.size := gb_size G1.out
  clear G1
  generalize w1.heap.size = x at hlow ⊢
  intro w2 h2
  have E2 := hid h2; clear h2
  obtain ⟨k, hk, ek⟩ := umod_small part 22 (by omega)
  obtain ⟨d, hd, ed'⟩ := umod_small ed 4 (by omega)
  have ek' : (IntKind.u64.wrap part).tmod 22 = (k : Int) := ek
  have ed'' : (IntKind.u64.wrap ed).tmod 4 = (d : Int) := ed'
  rw [ek', ed'']
  clear ek ed' ek' ed''
  have l1 := lo_in k; have l2 := hi_in k
  have cB : w2.cell? ⟨B, k, none⟩ = some (.int .i64 (lo k)) := (at_cell E2.out.hB k).trans (lo_cell k hk)
  have cC : w2.cell? ⟨C, k, none⟩ = some (.int .i64 (hi k)) := (at_cell E2.out.hC k).trans (hi_cell k hk)
  have k0 : (0 : Int) ≤ (k : Int) := by omega
  have k1 : (k : Int) < 22 := by omega
  have lB := hid (lo_cell k hk); have lC := hid (hi_cell k hk)
  generalize hl : lo k = l at l1 cB lB
  generalize hu : hi k = u at l2 cC lC
  have hkB := lB; have hkC := lC
  have HL := hid hl; have HU := hid hu; clear hl hu lB lC
  have r1 : wrap64 (l - 1) = l - 1 := wrap_small (by omega) (by omega)
  have r2 : wrap64 (u + 1) = u + 1 := wrap_small (by omega) (by omega)
  have r3 : IntKind.i64.wrap (l - 1) = l - 1 := (IntWalk.i64_left _).trans r1
  have r4 : IntKind.i64.wrap (u + 1) = u + 1 := (IntWalk.i64_left _).trans r2
  go_cut [11] from 28 to 49 (fun v wx => v = .int .i64 (edge l u d) ∧ Es w A B C x ec wx)
  case first =>
    have hd4 : d = 0 ∨ d = 1 ∨ d = 2 ∨ d = 3 := by omega
    rcases hd4 with rfl | rfl | rfl | rfl
    · refine wp_region_held_drew (S := (fun w' => w'.cell? ⟨B, k, none⟩ = some (.int .i64 l) ∧ w'.cell? ⟨C, k, none⟩ = some (.int .i64 u) ∧ Es w A B C x ec w')) (by kernel_rfl) ⟨cB, cC, E2.out.drew⟩ (fun hHeld => ?_)
      try dsimp only at hHeld
      refine' wpAnyH_take (i := 0) (v := _) rfl (by kernel_rfl) (by kernel_rfl) (by kernel_rfl) (fun _ _ _ h => h) (Or.inl ⟨by rfl, ?_⟩) hHeld ?_
      rotate_left
      · (intro w hSw; (try dsimp only at hSw); go_simp; try with_reducible rfl)
      try simp only [Act.put, List.setIfInBounds_toArray, List.set_cons_zero, List.set_cons_succ, List.getElem_toArray, List.getElem_cons_succ, List.getElem_cons_zero]
      refine' wpAnyH_take (i := 1) (v := _) rfl (by kernel_rfl) (by kernel_rfl) (by kernel_rfl) (fun _ _ _ h => h) (Or.inl ⟨by rfl, ?_⟩) hHeld ?_
      rotate_left
      · (intro w hSw; (try dsimp only at hSw); go_simp; try with_reducible rfl)
      try simp only [Act.put, List.setIfInBounds_toArray, List.set_cons_zero, List.set_cons_succ, List.getElem_toArray, List.getElem_cons_succ, List.getElem_cons_zero]
      refine' wpAnyH_take (i := 2) (v := _) rfl (by kernel_rfl) (by kernel_rfl) (by kernel_rfl) (fun _ _ _ h => h) (Or.inl ⟨by rfl, ?_⟩) hHeld ?_
      rotate_left
      · (intro w hSw; (try dsimp only at hSw); go_simp; try with_reducible rfl)
      try simp only [Act.put, List.setIfInBounds_toArray, List.set_cons_zero, List.set_cons_succ, List.getElem_toArray, List.getElem_cons_succ, List.getElem_cons_zero]
      refine' wpAnyH_take (i := 3) (v := _) rfl (by kernel_rfl) (by kernel_rfl) (by kernel_rfl) (fun _ _ _ h => h) (Or.inl ⟨by rfl, ?_⟩) hHeld ?_
      rotate_left
      · (intro w hSw; (try dsimp only at hSw); go_simp; try with_reducible rfl)
      try simp only [Act.put, List.setIfInBounds_toArray, List.set_cons_zero, List.set_cons_succ, List.getElem_toArray, List.getElem_cons_succ, List.getElem_cons_zero]
      refine' wpAnyH_take (i := 4) (v := _) rfl (by kernel_rfl) (by kernel_rfl) (by kernel_rfl) (fun _ _ _ h => h) (Or.inl ⟨by rfl, ?_⟩) hHeld ?_
      rotate_left
      · (intro w hSw; (try dsimp only at hSw); go_simp; try with_reducible rfl)
      try simp only [Act.put, List.setIfInBounds_toArray, List.set_cons_zero, List.set_cons_succ, List.getElem_toArray, List.getElem_cons_succ, List.getElem_cons_zero]
      refine' wpAnyH_take (i := 5) (v := _) rfl (by kernel_rfl) (by kernel_rfl) (by kernel_rfl) (fun _ _ _ h => h) (Or.inl ⟨by rfl, ?_⟩) hHeld ?_
      rotate_left
      · (intro w hSw; (try dsimp only at hSw); go_simp; try with_reducible rfl)
      try simp only [Act.put, List.setIfInBounds_toArray, List.set_cons_zero, List.set_cons_succ, List.getElem_toArray, List.getElem_cons_succ, List.getElem_cons_zero]
      refine' wpAnyH_take (i := 6) (v := _) rfl (by kernel_rfl) (by kernel_rfl) (by kernel_rfl) (fun _ _ _ h => h) (Or.inl ⟨by rfl, ?_⟩) hHeld ?_
      rotate_left
      · (intro w hSw; (try dsimp only at hSw); go_simp; try with_reducible rfl)
      try simp only [Act.put, List.setIfInBounds_toArray, List.set_cons_zero, List.set_cons_succ, List.getElem_toArray, List.getElem_cons_succ, List.getElem_cons_zero]
      refine' wpAnyH_take (i := 7) (v := _) rfl (by kernel_rfl) (by kernel_rfl) (by kernel_rfl) (fun _ _ _ h => h) (Or.inl ⟨by rfl, ?_⟩) hHeld ?_
      rotate_left
      · (intro w hSw; (try dsimp only at hSw); go_simp; try with_reducible rfl)
      try simp only [Act.put, List.setIfInBounds_toArray, List.set_cons_zero, List.set_cons_succ, List.getElem_toArray, List.getElem_cons_succ, List.getElem_cons_zero]
      refine' wpAnyH_take (i := 8) (v := _) rfl (by kernel_rfl) (by kernel_rfl) (by kernel_rfl) (fun _ _ _ h => h) (Or.inl ⟨by rfl, ?_⟩) hHeld ?_
      rotate_left
      · (intro w hSw; (try dsimp only at hSw); go_simp; try with_reducible rfl)
      try simp only [Act.put, List.setIfInBounds_toArray, List.set_cons_zero, List.set_cons_succ, List.getElem_toArray, List.getElem_cons_succ, List.getElem_cons_zero]
      refine' wpAnyH_take (i := 9) (v := _) rfl (by kernel_rfl) (by kernel_rfl) (by kernel_rfl) (fun _ _ _ h => h) (Or.inl ⟨by rfl, ?_⟩) hHeld ?_
      rotate_left
      · (intro w hSw; (try dsimp only at hSw); go_simp; try with_reducible rfl)
      try simp only [Act.put, List.setIfInBounds_toArray, List.set_cons_zero, List.set_cons_succ, List.getElem_toArray, List.getElem_cons_succ, List.getElem_cons_zero]
      refine' wpAnyH_take (i := 10) (v := _) rfl (by kernel_rfl) (by kernel_rfl) (by kernel_rfl) (fun _ _ _ h => h) (Or.inl ⟨by rfl, ?_⟩) hHeld ?_
      rotate_left
      · (intro w hSw; (try dsimp only at hSw); go_simp; try with_reducible rfl)
      try simp only [Act.put, List.setIfInBounds_toArray, List.set_cons_zero, List.set_cons_succ, List.getElem_toArray, List.getElem_cons_succ, List.getElem_cons_zero]
      refine' wpAnyH_take (i := 11) (v := _) rfl (by kernel_rfl) (by kernel_rfl) (by kernel_rfl) (fun _ _ _ h => h) (Or.inl ⟨by rfl, ?_⟩) hHeld ?_
      rotate_left
      · (intro w hSw; (try dsimp only at hSw); go_simp; try with_reducible rfl)
      try simp only [Act.put, List.setIfInBounds_toArray, List.set_cons_zero, List.set_cons_succ, List.getElem_toArray, List.getElem_cons_succ, List.getElem_cons_zero]
      refine' wpAnyH_take (i := 12) (v := _) rfl (by kernel_rfl) (by kernel_rfl) (by kernel_rfl) (fun _ _ _ h => h) (Or.inl ⟨by rfl, ?_⟩) hHeld ?_
      rotate_left
      · (intro w hSw; (try dsimp only at hSw); go_simp; try with_reducible rfl)
      try simp only [Act.put, List.setIfInBounds_toArray, List.set_cons_zero, List.set_cons_succ, List.getElem_toArray, List.getElem_cons_succ, List.getElem_cons_zero]
      refine' wpAnyH_take (i := 13) (v := _) rfl (by kernel_rfl) (by kernel_rfl) (by kernel_rfl) (fun _ _ _ h => h) (Or.inl ⟨by rfl, ?_⟩) hHeld ?_
      rotate_left
      · (intro w hSw; (try dsimp only at hSw); go_simp; try with_reducible rfl)
      try simp only [Act.put, List.setIfInBounds_toArray, List.set_cons_zero, List.set_cons_succ, List.getElem_toArray, List.getElem_cons_succ, List.getElem_cons_zero]
      refine' wpAnyH_take (i := 14) (v := _) rfl (by kernel_rfl) (by kernel_rfl) (by kernel_rfl) (fun _ _ _ h => h) (Or.inl ⟨by rfl, ?_⟩) hHeld ?_
      rotate_left
      · (intro w hSw; (try dsimp only at hSw); go_simp; try with_reducible rfl)
      try simp only [Act.put, List.setIfInBounds_toArray, List.set_cons_zero, List.set_cons_succ, List.getElem_toArray, List.getElem_cons_succ, List.getElem_cons_zero]
      refine' wpAnyH_take (i := 15) (v := _) rfl (by kernel_rfl) (by kernel_rfl) (by kernel_rfl) (fun _ _ _ h => h) (Or.inl ⟨by rfl, ?_⟩) hHeld ?_
      rotate_left
      · (intro w hSw; (try dsimp only at hSw); go_simp; try with_reducible rfl)
      try simp only [Act.put, List.setIfInBounds_toArray, List.set_cons_zero, List.set_cons_succ, List.getElem_toArray, List.getElem_cons_succ, List.getElem_cons_zero]
      refine' wpAnyH_take (i := 16) (v := _) rfl (by kernel_rfl) (by kernel_rfl) (by kernel_rfl) (fun _ _ _ h => h) (Or.inl ⟨by rfl, ?_⟩) hHeld ?_
      rotate_left
      · (intro w hSw; (try dsimp only at hSw); go_simp; try with_reducible rfl)
      try simp only [Act.put, List.setIfInBounds_toArray, List.set_cons_zero, List.set_cons_succ, List.getElem_toArray, List.getElem_cons_succ, List.getElem_cons_zero]
      refine' wpAnyH_take (i := 17) (v := _) rfl (by kernel_rfl) (by kernel_rfl) (by kernel_rfl) (fun _ _ _ h => h) (Or.inl ⟨by rfl, ?_⟩) hHeld ?_
      rotate_left
      · (intro w hSw; (try dsimp only at hSw); go_simp; try with_reducible rfl)
      try simp only [Act.put, List.setIfInBounds_toArray, List.set_cons_zero, List.set_cons_succ, List.getElem_toArray, List.getElem_cons_succ, List.getElem_cons_zero]
      refine' wpAnyH_take (i := 19) (v := _) rfl (by kernel_rfl) (by kernel_rfl) (by kernel_rfl) (fun _ _ _ h => h) (Or.inl ⟨by rfl, ?_⟩) hHeld ?_
      rotate_left
      · (intro w hSw; (try dsimp only at hSw); go_simp; try with_reducible rfl)
      try simp only [Act.put, List.setIfInBounds_toArray, List.set_cons_zero, List.set_cons_succ, List.getElem_toArray, List.getElem_cons_succ, List.getElem_cons_zero]
      refine wpAnyH_ready (rs := [18]) (by kernel_rfl) (by simp) ?_
      refine AllReadyH.cons (o := _) rfl (fun K hK => ?_) AllReadyH.nil
      obtain ⟨hb1, hc1, he1⟩ := hHeld
      have K1 := hid (he1.grown (World.grownBy_alloc _ (.cells #[.int .i64 l, .int .i64 u, .int .i64 (l - 1), .int .i64 (u + 1)] 2) none))
      have cD : ((w2.alloc (.cells #[.int .i64 l, .int .i64 u, .int .i64 (l - 1), .int .i64 (u + 1)] 2)).drew).cell? ⟨w2.heap.size, 0, none⟩ = some (.int .i64 (l)) := at_cell (at_drew (at_new w2 (.cells #[.int .i64 l, .int .i64 u, .int .i64 (l - 1), .int .i64 (u + 1)] 2))) 0
      clear hb1 hc1 he1
      try simp only [List.getElem_toArray, List.getElem_cons_succ, List.getElem_cons_zero]
      go_simp
      refine hK.out _ _ ⟨(at_cell K1.out.hB k).trans hkB.out, (at_cell K1.out.hC k).trans hkC.out, K1.out⟩ (fun hHeld => ?_)
      clear hK K
      try dsimp only at hHeld
      try simp only [Act.put, List.setIfInBounds_toArray, List.set_cons_zero, List.set_cons_succ, List.getElem_toArray, List.getElem_cons_succ, List.getElem_cons_zero]
      refine held_stronger (S' := fun w' => (fun w' => w'.cell? ⟨w2.heap.size, 0, none⟩ = some (.int .i64 (l))) w' ∧ ((fun w' => w'.cell? ⟨B, k, none⟩ = some (.int .i64 l) ∧ w'.cell? ⟨C, k, none⟩ = some (.int .i64 u) ∧ Es w A B C x ec w')) w') (fun _ h => h.2) _ _ _ _ ?_
      replace hHeld := And.intro cD hHeld
      try dsimp only at hHeld
      refine' wpAnyH_take (i := 20) (v := _) rfl (by kernel_rfl) (by kernel_rfl) (by kernel_rfl) (fun _ _ _ h => h) (Or.inl ⟨by rfl, ?_⟩) hHeld ?_
      rotate_left
      · (intro w hSw; (try dsimp only at hSw); go_simp; try with_reducible rfl)
      try simp only [Act.put, List.setIfInBounds_toArray, List.set_cons_zero, List.set_cons_succ, List.getElem_toArray, List.getElem_cons_succ, List.getElem_cons_zero]
      refine' wpAnyH_take (i := 21) (v := _) rfl (by kernel_rfl) (by kernel_rfl) (by kernel_rfl) (fun _ _ _ h => h) (Or.inl ⟨by rfl, ?_⟩) hHeld ?_
      rotate_left
      · (intro w hSw; (try dsimp only at hSw); go_simp; try with_reducible rfl)
      try simp only [Act.put, List.setIfInBounds_toArray, List.set_cons_zero, List.set_cons_succ, List.getElem_toArray, List.getElem_cons_succ, List.getElem_cons_zero]
      refine' wpAnyH_take (i := 22) (v := _) rfl (by kernel_rfl) (by kernel_rfl) (by kernel_rfl) (fun _ _ _ h => h) (Or.inl ⟨by rfl, ?_⟩) hHeld ?_
      rotate_left
      · (intro w hSw; (try dsimp only at hSw); go_simp; try with_reducible rfl)
      try simp only [Act.put, List.setIfInBounds_toArray, List.set_cons_zero, List.set_cons_succ, List.getElem_toArray, List.getElem_cons_succ, List.getElem_cons_zero]
      refine wpAnyH_done (by kernel_rfl) ?_ _
      clear hHeld
      go_wp2_with fail
      go_meet
      exact ⟨rfl, K1.out⟩
    · refine wp_region_held_drew (S := (fun w' => w'.cell? ⟨B, k, none⟩ = some (.int .i64 l) ∧ w'.cell? ⟨C, k, none⟩ = some (.int .i64 u) ∧ Es w A B C x ec w')) (by kernel_rfl) ⟨cB, cC, E2.out.drew⟩ (fun hHeld => ?_)
      try dsimp only at hHeld
      refine' wpAnyH_take (i := 0) (v := _) rfl (by kernel_rfl) (by kernel_rfl) (by kernel_rfl) (fun _ _ _ h => h) (Or.inl ⟨by rfl, ?_⟩) hHeld ?_
      rotate_left
      · (intro w hSw; (try dsimp only at hSw); go_simp; try with_reducible rfl)
      try simp only [Act.put, List.setIfInBounds_toArray, List.set_cons_zero, List.set_cons_succ, List.getElem_toArray, List.getElem_cons_succ, List.getElem_cons_zero]
      refine' wpAnyH_take (i := 1) (v := _) rfl (by kernel_rfl) (by kernel_rfl) (by kernel_rfl) (fun _ _ _ h => h) (Or.inl ⟨by rfl, ?_⟩) hHeld ?_
      rotate_left
      · (intro w hSw; (try dsimp only at hSw); go_simp; try with_reducible rfl)
      try simp only [Act.put, List.setIfInBounds_toArray, List.set_cons_zero, List.set_cons_succ, List.getElem_toArray, List.getElem_cons_succ, List.getElem_cons_zero]
      refine' wpAnyH_take (i := 2) (v := _) rfl (by kernel_rfl) (by kernel_rfl) (by kernel_rfl) (fun _ _ _ h => h) (Or.inl ⟨by rfl, ?_⟩) hHeld ?_
      rotate_left
      · (intro w hSw; (try dsimp only at hSw); go_simp; try with_reducible rfl)
      try simp only [Act.put, List.setIfInBounds_toArray, List.set_cons_zero, List.set_cons_succ, List.getElem_toArray, List.getElem_cons_succ, List.getElem_cons_zero]
      refine' wpAnyH_take (i := 3) (v := _) rfl (by kernel_rfl) (by kernel_rfl) (by kernel_rfl) (fun _ _ _ h => h) (Or.inl ⟨by rfl, ?_⟩) hHeld ?_
      rotate_left
      · (intro w hSw; (try dsimp only at hSw); go_simp; try with_reducible rfl)
      try simp only [Act.put, List.setIfInBounds_toArray, List.set_cons_zero, List.set_cons_succ, List.getElem_toArray, List.getElem_cons_succ, List.getElem_cons_zero]
      refine' wpAnyH_take (i := 4) (v := _) rfl (by kernel_rfl) (by kernel_rfl) (by kernel_rfl) (fun _ _ _ h => h) (Or.inl ⟨by rfl, ?_⟩) hHeld ?_
      rotate_left
      · (intro w hSw; (try dsimp only at hSw); go_simp; try with_reducible rfl)
      try simp only [Act.put, List.setIfInBounds_toArray, List.set_cons_zero, List.set_cons_succ, List.getElem_toArray, List.getElem_cons_succ, List.getElem_cons_zero]
      refine' wpAnyH_take (i := 5) (v := _) rfl (by kernel_rfl) (by kernel_rfl) (by kernel_rfl) (fun _ _ _ h => h) (Or.inl ⟨by rfl, ?_⟩) hHeld ?_
      rotate_left
      · (intro w hSw; (try dsimp only at hSw); go_simp; try with_reducible rfl)
      try simp only [Act.put, List.setIfInBounds_toArray, List.set_cons_zero, List.set_cons_succ, List.getElem_toArray, List.getElem_cons_succ, List.getElem_cons_zero]
      refine' wpAnyH_take (i := 6) (v := _) rfl (by kernel_rfl) (by kernel_rfl) (by kernel_rfl) (fun _ _ _ h => h) (Or.inl ⟨by rfl, ?_⟩) hHeld ?_
      rotate_left
      · (intro w hSw; (try dsimp only at hSw); go_simp; try with_reducible rfl)
      try simp only [Act.put, List.setIfInBounds_toArray, List.set_cons_zero, List.set_cons_succ, List.getElem_toArray, List.getElem_cons_succ, List.getElem_cons_zero]
      refine' wpAnyH_take (i := 7) (v := _) rfl (by kernel_rfl) (by kernel_rfl) (by kernel_rfl) (fun _ _ _ h => h) (Or.inl ⟨by rfl, ?_⟩) hHeld ?_
      rotate_left
      · (intro w hSw; (try dsimp only at hSw); go_simp; try with_reducible rfl)
      try simp only [Act.put, List.setIfInBounds_toArray, List.set_cons_zero, List.set_cons_succ, List.getElem_toArray, List.getElem_cons_succ, List.getElem_cons_zero]
      refine' wpAnyH_take (i := 8) (v := _) rfl (by kernel_rfl) (by kernel_rfl) (by kernel_rfl) (fun _ _ _ h => h) (Or.inl ⟨by rfl, ?_⟩) hHeld ?_
      rotate_left
      · (intro w hSw; (try dsimp only at hSw); go_simp; try with_reducible rfl)
      try simp only [Act.put, List.setIfInBounds_toArray, List.set_cons_zero, List.set_cons_succ, List.getElem_toArray, List.getElem_cons_succ, List.getElem_cons_zero]
      refine' wpAnyH_take (i := 9) (v := _) rfl (by kernel_rfl) (by kernel_rfl) (by kernel_rfl) (fun _ _ _ h => h) (Or.inl ⟨by rfl, ?_⟩) hHeld ?_
      rotate_left
      · (intro w hSw; (try dsimp only at hSw); go_simp; try with_reducible rfl)
      try simp only [Act.put, List.setIfInBounds_toArray, List.set_cons_zero, List.set_cons_succ, List.getElem_toArray, List.getElem_cons_succ, List.getElem_cons_zero]
      refine' wpAnyH_take (i := 10) (v := _) rfl (by kernel_rfl) (by kernel_rfl) (by kernel_rfl) (fun _ _ _ h => h) (Or.inl ⟨by rfl, ?_⟩) hHeld ?_
      rotate_left
      · (intro w hSw; (try dsimp only at hSw); go_simp; try with_reducible rfl)
      try simp only [Act.put, List.setIfInBounds_toArray, List.set_cons_zero, List.set_cons_succ, List.getElem_toArray, List.getElem_cons_succ, List.getElem_cons_zero]
      refine' wpAnyH_take (i := 11) (v := _) rfl (by kernel_rfl) (by kernel_rfl) (by kernel_rfl) (fun _ _ _ h => h) (Or.inl ⟨by rfl, ?_⟩) hHeld ?_
      rotate_left
      · (intro w hSw; (try dsimp only at hSw); go_simp; try with_reducible rfl)
      try simp only [Act.put, List.setIfInBounds_toArray, List.set_cons_zero, List.set_cons_succ, List.getElem_toArray, List.getElem_cons_succ, List.getElem_cons_zero]
      refine' wpAnyH_take (i := 12) (v := _) rfl (by kernel_rfl) (by kernel_rfl) (by kernel_rfl) (fun _ _ _ h => h) (Or.inl ⟨by rfl, ?_⟩) hHeld ?_
      rotate_left
      · (intro w hSw; (try dsimp only at hSw); go_simp; try with_reducible rfl)
      try simp only [Act.put, List.setIfInBounds_toArray, List.set_cons_zero, List.set_cons_succ, List.getElem_toArray, List.getElem_cons_succ, List.getElem_cons_zero]
      refine' wpAnyH_take (i := 13) (v := _) rfl (by kernel_rfl) (by kernel_rfl) (by kernel_rfl) (fun _ _ _ h => h) (Or.inl ⟨by rfl, ?_⟩) hHeld ?_
      rotate_left
      · (intro w hSw; (try dsimp only at hSw); go_simp; try with_reducible rfl)
      try simp only [Act.put, List.setIfInBounds_toArray, List.set_cons_zero, List.set_cons_succ, List.getElem_toArray, List.getElem_cons_succ, List.getElem_cons_zero]
      refine' wpAnyH_take (i := 14) (v := _) rfl (by kernel_rfl) (by kernel_rfl) (by kernel_rfl) (fun _ _ _ h => h) (Or.inl ⟨by rfl, ?_⟩) hHeld ?_
      rotate_left
      · (intro w hSw; (try dsimp only at hSw); go_simp; try with_reducible rfl)
      try simp only [Act.put, List.setIfInBounds_toArray, List.set_cons_zero, List.set_cons_succ, List.getElem_toArray, List.getElem_cons_succ, List.getElem_cons_zero]
      refine' wpAnyH_take (i := 15) (v := _) rfl (by kernel_rfl) (by kernel_rfl) (by kernel_rfl) (fun _ _ _ h => h) (Or.inl ⟨by rfl, ?_⟩) hHeld ?_
      rotate_left
      · (intro w hSw; (try dsimp only at hSw); go_simp; try with_reducible rfl)
      try simp only [Act.put, List.setIfInBounds_toArray, List.set_cons_zero, List.set_cons_succ, List.getElem_toArray, List.getElem_cons_succ, List.getElem_cons_zero]
      refine' wpAnyH_take (i := 16) (v := _) rfl (by kernel_rfl) (by kernel_rfl) (by kernel_rfl) (fun _ _ _ h => h) (Or.inl ⟨by rfl, ?_⟩) hHeld ?_
      rotate_left
      · (intro w hSw; (try dsimp only at hSw); go_simp; try with_reducible rfl)
      try simp only [Act.put, List.setIfInBounds_toArray, List.set_cons_zero, List.set_cons_succ, List.getElem_toArray, List.getElem_cons_succ, List.getElem_cons_zero]
      refine' wpAnyH_take (i := 17) (v := _) rfl (by kernel_rfl) (by kernel_rfl) (by kernel_rfl) (fun _ _ _ h => h) (Or.inl ⟨by rfl, ?_⟩) hHeld ?_
      rotate_left
      · (intro w hSw; (try dsimp only at hSw); go_simp; try with_reducible rfl)
      try simp only [Act.put, List.setIfInBounds_toArray, List.set_cons_zero, List.set_cons_succ, List.getElem_toArray, List.getElem_cons_succ, List.getElem_cons_zero]
      refine' wpAnyH_take (i := 19) (v := _) rfl (by kernel_rfl) (by kernel_rfl) (by kernel_rfl) (fun _ _ _ h => h) (Or.inl ⟨by rfl, ?_⟩) hHeld ?_
      rotate_left
      · (intro w hSw; (try dsimp only at hSw); go_simp; try with_reducible rfl)
      try simp only [Act.put, List.setIfInBounds_toArray, List.set_cons_zero, List.set_cons_succ, List.getElem_toArray, List.getElem_cons_succ, List.getElem_cons_zero]
      refine wpAnyH_ready (rs := [18]) (by kernel_rfl) (by simp) ?_
      refine AllReadyH.cons (o := _) rfl (fun K hK => ?_) AllReadyH.nil
      obtain ⟨hb1, hc1, he1⟩ := hHeld
      have K1 := hid (he1.grown (World.grownBy_alloc _ (.cells #[.int .i64 l, .int .i64 u, .int .i64 (l - 1), .int .i64 (u + 1)] 2) none))
      have cD : ((w2.alloc (.cells #[.int .i64 l, .int .i64 u, .int .i64 (l - 1), .int .i64 (u + 1)] 2)).drew).cell? ⟨w2.heap.size, 1, none⟩ = some (.int .i64 (u)) := at_cell (at_drew (at_new w2 (.cells #[.int .i64 l, .int .i64 u, .int .i64 (l - 1), .int .i64 (u + 1)] 2))) 1
      clear hb1 hc1 he1
      try simp only [List.getElem_toArray, List.getElem_cons_succ, List.getElem_cons_zero]
      go_simp
      refine hK.out _ _ ⟨(at_cell K1.out.hB k).trans hkB.out, (at_cell K1.out.hC k).trans hkC.out, K1.out⟩ (fun hHeld => ?_)
      clear hK K
      try dsimp only at hHeld
      try simp only [Act.put, List.setIfInBounds_toArray, List.set_cons_zero, List.set_cons_succ, List.getElem_toArray, List.getElem_cons_succ, List.getElem_cons_zero]
      refine held_stronger (S' := fun w' => (fun w' => w'.cell? ⟨w2.heap.size, 1, none⟩ = some (.int .i64 (u))) w' ∧ ((fun w' => w'.cell? ⟨B, k, none⟩ = some (.int .i64 l) ∧ w'.cell? ⟨C, k, none⟩ = some (.int .i64 u) ∧ Es w A B C x ec w')) w') (fun _ h => h.2) _ _ _ _ ?_
      replace hHeld := And.intro cD hHeld
      try dsimp only at hHeld
      refine' wpAnyH_take (i := 20) (v := _) rfl (by kernel_rfl) (by kernel_rfl) (by kernel_rfl) (fun _ _ _ h => h) (Or.inl ⟨by rfl, ?_⟩) hHeld ?_
      rotate_left
      · (intro w hSw; (try dsimp only at hSw); go_simp; try with_reducible rfl)
      try simp only [Act.put, List.setIfInBounds_toArray, List.set_cons_zero, List.set_cons_succ, List.getElem_toArray, List.getElem_cons_succ, List.getElem_cons_zero]
      refine' wpAnyH_take (i := 21) (v := _) rfl (by kernel_rfl) (by kernel_rfl) (by kernel_rfl) (fun _ _ _ h => h) (Or.inl ⟨by rfl, ?_⟩) hHeld ?_
      rotate_left
      · (intro w hSw; (try dsimp only at hSw); go_simp; try with_reducible rfl)
      try simp only [Act.put, List.setIfInBounds_toArray, List.set_cons_zero, List.set_cons_succ, List.getElem_toArray, List.getElem_cons_succ, List.getElem_cons_zero]
      refine' wpAnyH_take (i := 22) (v := _) rfl (by kernel_rfl) (by kernel_rfl) (by kernel_rfl) (fun _ _ _ h => h) (Or.inl ⟨by rfl, ?_⟩) hHeld ?_
      rotate_left
      · (intro w hSw; (try dsimp only at hSw); go_simp; try with_reducible rfl)
      try simp only [Act.put, List.setIfInBounds_toArray, List.set_cons_zero, List.set_cons_succ, List.getElem_toArray, List.getElem_cons_succ, List.getElem_cons_zero]
      refine wpAnyH_done (by kernel_rfl) ?_ _
      clear hHeld
      go_wp2_with fail
      go_meet
      exact ⟨rfl, K1.out⟩
    · refine wp_region_held_drew (S := (fun w' => w'.cell? ⟨B, k, none⟩ = some (.int .i64 l) ∧ w'.cell? ⟨C, k, none⟩ = some (.int .i64 u) ∧ Es w A B C x ec w')) (by kernel_rfl) ⟨cB, cC, E2.out.drew⟩ (fun hHeld => ?_)
      try dsimp only at hHeld
      refine' wpAnyH_take (i := 0) (v := _) rfl (by kernel_rfl) (by kernel_rfl) (by kernel_rfl) (fun _ _ _ h => h) (Or.inl ⟨by rfl, ?_⟩) hHeld ?_
      rotate_left
      · (intro w hSw; (try dsimp only at hSw); go_simp; try with_reducible rfl)
      try simp only [Act.put, List.setIfInBounds_toArray, List.set_cons_zero, List.set_cons_succ, List.getElem_toArray, List.getElem_cons_succ, List.getElem_cons_zero]
      refine' wpAnyH_take (i := 1) (v := _) rfl (by kernel_rfl) (by kernel_rfl) (by kernel_rfl) (fun _ _ _ h => h) (Or.inl ⟨by rfl, ?_⟩) hHeld ?_
      rotate_left
      · (intro w hSw; (try dsimp only at hSw); go_simp; try with_reducible rfl)
      try simp only [Act.put, List.setIfInBounds_toArray, List.set_cons_zero, List.set_cons_succ, List.getElem_toArray, List.getElem_cons_succ, List.getElem_cons_zero]
      refine' wpAnyH_take (i := 2) (v := _) rfl (by kernel_rfl) (by kernel_rfl) (by kernel_rfl) (fun _ _ _ h => h) (Or.inl ⟨by rfl, ?_⟩) hHeld ?_
      rotate_left
      · (intro w hSw; (try dsimp only at hSw); go_simp; try with_reducible rfl)
      try simp only [Act.put, List.setIfInBounds_toArray, List.set_cons_zero, List.set_cons_succ, List.getElem_toArray, List.getElem_cons_succ, List.getElem_cons_zero]
      refine' wpAnyH_take (i := 3) (v := _) rfl (by kernel_rfl) (by kernel_rfl) (by kernel_rfl) (fun _ _ _ h => h) (Or.inl ⟨by rfl, ?_⟩) hHeld ?_
      rotate_left
      · (intro w hSw; (try dsimp only at hSw); go_simp; try with_reducible rfl)
      try simp only [Act.put, List.setIfInBounds_toArray, List.set_cons_zero, List.set_cons_succ, List.getElem_toArray, List.getElem_cons_succ, List.getElem_cons_zero]
      refine' wpAnyH_take (i := 4) (v := _) rfl (by kernel_rfl) (by kernel_rfl) (by kernel_rfl) (fun _ _ _ h => h) (Or.inl ⟨by rfl, ?_⟩) hHeld ?_
      rotate_left
      · (intro w hSw; (try dsimp only at hSw); go_simp; try with_reducible rfl)
      try simp only [Act.put, List.setIfInBounds_toArray, List.set_cons_zero, List.set_cons_succ, List.getElem_toArray, List.getElem_cons_succ, List.getElem_cons_zero]
      refine' wpAnyH_take (i := 5) (v := _) rfl (by kernel_rfl) (by kernel_rfl) (by kernel_rfl) (fun _ _ _ h => h) (Or.inl ⟨by rfl, ?_⟩) hHeld ?_
      rotate_left
      · (intro w hSw; (try dsimp only at hSw); go_simp; try with_reducible rfl)
      try simp only [Act.put, List.setIfInBounds_toArray, List.set_cons_zero, List.set_cons_succ, List.getElem_toArray, List.getElem_cons_succ, List.getElem_cons_zero]
      refine' wpAnyH_take (i := 6) (v := _) rfl (by kernel_rfl) (by kernel_rfl) (by kernel_rfl) (fun _ _ _ h => h) (Or.inl ⟨by rfl, ?_⟩) hHeld ?_
      rotate_left
      · (intro w hSw; (try dsimp only at hSw); go_simp; try with_reducible rfl)
      try simp only [Act.put, List.setIfInBounds_toArray, List.set_cons_zero, List.set_cons_succ, List.getElem_toArray, List.getElem_cons_succ, List.getElem_cons_zero]
      refine' wpAnyH_take (i := 7) (v := _) rfl (by kernel_rfl) (by kernel_rfl) (by kernel_rfl) (fun _ _ _ h => h) (Or.inl ⟨by rfl, ?_⟩) hHeld ?_
      rotate_left
      · (intro w hSw; (try dsimp only at hSw); go_simp; try with_reducible rfl)
      try simp only [Act.put, List.setIfInBounds_toArray, List.set_cons_zero, List.set_cons_succ, List.getElem_toArray, List.getElem_cons_succ, List.getElem_cons_zero]
      refine' wpAnyH_take (i := 8) (v := _) rfl (by kernel_rfl) (by kernel_rfl) (by kernel_rfl) (fun _ _ _ h => h) (Or.inl ⟨by rfl, ?_⟩) hHeld ?_
      rotate_left
      · (intro w hSw; (try dsimp only at hSw); go_simp; try with_reducible rfl)
      try simp only [Act.put, List.setIfInBounds_toArray, List.set_cons_zero, List.set_cons_succ, List.getElem_toArray, List.getElem_cons_succ, List.getElem_cons_zero]
      refine' wpAnyH_take (i := 9) (v := _) rfl (by kernel_rfl) (by kernel_rfl) (by kernel_rfl) (fun _ _ _ h => h) (Or.inl ⟨by rfl, ?_⟩) hHeld ?_
      rotate_left
      · (intro w hSw; (try dsimp only at hSw); go_simp; try with_reducible rfl)
      try simp only [Act.put, List.setIfInBounds_toArray, List.set_cons_zero, List.set_cons_succ, List.getElem_toArray, List.getElem_cons_succ, List.getElem_cons_zero]
      refine' wpAnyH_take (i := 10) (v := _) rfl (by kernel_rfl) (by kernel_rfl) (by kernel_rfl) (fun _ _ _ h => h) (Or.inl ⟨by rfl, ?_⟩) hHeld ?_
      rotate_left
      · (intro w hSw; (try dsimp only at hSw); go_simp; try with_reducible rfl)
      try simp only [Act.put, List.setIfInBounds_toArray, List.set_cons_zero, List.set_cons_succ, List.getElem_toArray, List.getElem_cons_succ, List.getElem_cons_zero]
      refine' wpAnyH_take (i := 11) (v := _) rfl (by kernel_rfl) (by kernel_rfl) (by kernel_rfl) (fun _ _ _ h => h) (Or.inl ⟨by rfl, ?_⟩) hHeld ?_
      rotate_left
      · (intro w hSw; (try dsimp only at hSw); go_simp; try with_reducible rfl)
      try simp only [Act.put, List.setIfInBounds_toArray, List.set_cons_zero, List.set_cons_succ, List.getElem_toArray, List.getElem_cons_succ, List.getElem_cons_zero]
      refine' wpAnyH_take (i := 12) (v := _) rfl (by kernel_rfl) (by kernel_rfl) (by kernel_rfl) (fun _ _ _ h => h) (Or.inl ⟨by rfl, ?_⟩) hHeld ?_
      rotate_left
      · (intro w hSw; (try dsimp only at hSw); go_simp; try with_reducible rfl)
      try simp only [Act.put, List.setIfInBounds_toArray, List.set_cons_zero, List.set_cons_succ, List.getElem_toArray, List.getElem_cons_succ, List.getElem_cons_zero]
      refine' wpAnyH_take (i := 13) (v := _) rfl (by kernel_rfl) (by kernel_rfl) (by kernel_rfl) (fun _ _ _ h => h) (Or.inl ⟨by rfl, ?_⟩) hHeld ?_
      rotate_left
      · (intro w hSw; (try dsimp only at hSw); go_simp; try with_reducible rfl)
      try simp only [Act.put, List.setIfInBounds_toArray, List.set_cons_zero, List.set_cons_succ, List.getElem_toArray, List.getElem_cons_succ, List.getElem_cons_zero]
      refine' wpAnyH_take (i := 14) (v := _) rfl (by kernel_rfl) (by kernel_rfl) (by kernel_rfl) (fun _ _ _ h => h) (Or.inl ⟨by rfl, ?_⟩) hHeld ?_
      rotate_left
      · (intro w hSw; (try dsimp only at hSw); go_simp; try with_reducible rfl)
      try simp only [Act.put, List.setIfInBounds_toArray, List.set_cons_zero, List.set_cons_succ, List.getElem_toArray, List.getElem_cons_succ, List.getElem_cons_zero]
      refine' wpAnyH_take (i := 15) (v := _) rfl (by kernel_rfl) (by kernel_rfl) (by kernel_rfl) (fun _ _ _ h => h) (Or.inl ⟨by rfl, ?_⟩) hHeld ?_
      rotate_left
      · (intro w hSw; (try dsimp only at hSw); go_simp; try with_reducible rfl)
      try simp only [Act.put, List.setIfInBounds_toArray, List.set_cons_zero, List.set_cons_succ, List.getElem_toArray, List.getElem_cons_succ, List.getElem_cons_zero]
      refine' wpAnyH_take (i := 16) (v := _) rfl (by kernel_rfl) (by kernel_rfl) (by kernel_rfl) (fun _ _ _ h => h) (Or.inl ⟨by rfl, ?_⟩) hHeld ?_
      rotate_left
      · (intro w hSw; (try dsimp only at hSw); go_simp; try with_reducible rfl)
      try simp only [Act.put, List.setIfInBounds_toArray, List.set_cons_zero, List.set_cons_succ, List.getElem_toArray, List.getElem_cons_succ, List.getElem_cons_zero]
      refine' wpAnyH_take (i := 17) (v := _) rfl (by kernel_rfl) (by kernel_rfl) (by kernel_rfl) (fun _ _ _ h => h) (Or.inl ⟨by rfl, ?_⟩) hHeld ?_
      rotate_left
      · (intro w hSw; (try dsimp only at hSw); go_simp; try with_reducible rfl)
      try simp only [Act.put, List.setIfInBounds_toArray, List.set_cons_zero, List.set_cons_succ, List.getElem_toArray, List.getElem_cons_succ, List.getElem_cons_zero]
      refine' wpAnyH_take (i := 19) (v := _) rfl (by kernel_rfl) (by kernel_rfl) (by kernel_rfl) (fun _ _ _ h => h) (Or.inl ⟨by rfl, ?_⟩) hHeld ?_
      rotate_left
      · (intro w hSw; (try dsimp only at hSw); go_simp; try with_reducible rfl)
      try simp only [Act.put, List.setIfInBounds_toArray, List.set_cons_zero, List.set_cons_succ, List.getElem_toArray, List.getElem_cons_succ, List.getElem_cons_zero]
      refine wpAnyH_ready (rs := [18]) (by kernel_rfl) (by simp) ?_
      refine AllReadyH.cons (o := _) rfl (fun K hK => ?_) AllReadyH.nil
      obtain ⟨hb1, hc1, he1⟩ := hHeld
      have K1 := hid (he1.grown (World.grownBy_alloc _ (.cells #[.int .i64 l, .int .i64 u, .int .i64 (l - 1), .int .i64 (u + 1)] 2) none))
      have cD : ((w2.alloc (.cells #[.int .i64 l, .int .i64 u, .int .i64 (l - 1), .int .i64 (u + 1)] 2)).drew).cell? ⟨w2.heap.size, 2, none⟩ = some (.int .i64 (l - 1)) := at_cell (at_drew (at_new w2 (.cells #[.int .i64 l, .int .i64 u, .int .i64 (l - 1), .int .i64 (u + 1)] 2))) 2
      clear hb1 hc1 he1
      try simp only [List.getElem_toArray, List.getElem_cons_succ, List.getElem_cons_zero]
      go_simp
      refine hK.out _ _ ⟨(at_cell K1.out.hB k).trans hkB.out, (at_cell K1.out.hC k).trans hkC.out, K1.out⟩ (fun hHeld => ?_)
      clear hK K
      try dsimp only at hHeld
      try simp only [Act.put, List.setIfInBounds_toArray, List.set_cons_zero, List.set_cons_succ, List.getElem_toArray, List.getElem_cons_succ, List.getElem_cons_zero]
      refine held_stronger (S' := fun w' => (fun w' => w'.cell? ⟨w2.heap.size, 2, none⟩ = some (.int .i64 (l - 1))) w' ∧ ((fun w' => w'.cell? ⟨B, k, none⟩ = some (.int .i64 l) ∧ w'.cell? ⟨C, k, none⟩ = some (.int .i64 u) ∧ Es w A B C x ec w')) w') (fun _ h => h.2) _ _ _ _ ?_
      replace hHeld := And.intro cD hHeld
      try dsimp only at hHeld
      refine' wpAnyH_take (i := 20) (v := _) rfl (by kernel_rfl) (by kernel_rfl) (by kernel_rfl) (fun _ _ _ h => h) (Or.inl ⟨by rfl, ?_⟩) hHeld ?_
      rotate_left
      · (intro w hSw; (try dsimp only at hSw); go_simp; try with_reducible rfl)
      try simp only [Act.put, List.setIfInBounds_toArray, List.set_cons_zero, List.set_cons_succ, List.getElem_toArray, List.getElem_cons_succ, List.getElem_cons_zero]
      refine' wpAnyH_take (i := 21) (v := _) rfl (by kernel_rfl) (by kernel_rfl) (by kernel_rfl) (fun _ _ _ h => h) (Or.inl ⟨by rfl, ?_⟩) hHeld ?_
      rotate_left
      · (intro w hSw; (try dsimp only at hSw); go_simp; try with_reducible rfl)
      try simp only [Act.put, List.setIfInBounds_toArray, List.set_cons_zero, List.set_cons_succ, List.getElem_toArray, List.getElem_cons_succ, List.getElem_cons_zero]
      refine' wpAnyH_take (i := 22) (v := _) rfl (by kernel_rfl) (by kernel_rfl) (by kernel_rfl) (fun _ _ _ h => h) (Or.inl ⟨by rfl, ?_⟩) hHeld ?_
      rotate_left
      · (intro w hSw; (try dsimp only at hSw); go_simp; try with_reducible rfl)
      try simp only [Act.put, List.setIfInBounds_toArray, List.set_cons_zero, List.set_cons_succ, List.getElem_toArray, List.getElem_cons_succ, List.getElem_cons_zero]
      refine wpAnyH_done (by kernel_rfl) ?_ _
      clear hHeld
      go_wp2_with fail
      go_meet
      exact ⟨rfl, K1.out⟩
    · refine wp_region_held_drew (S := (fun w' => w'.cell? ⟨B, k, none⟩ = some (.int .i64 l) ∧ w'.cell? ⟨C, k, none⟩ = some (.int .i64 u) ∧ Es w A B C x ec w')) (by kernel_rfl) ⟨cB, cC, E2.out.drew⟩ (fun hHeld => ?_)
      try dsimp only at hHeld
      refine' wpAnyH_take (i := 0) (v := _) rfl (by kernel_rfl) (by kernel_rfl) (by kernel_rfl) (fun _ _ _ h => h) (Or.inl ⟨by rfl, ?_⟩) hHeld ?_
      rotate_left
      · (intro w hSw; (try dsimp only at hSw); go_simp; try with_reducible rfl)
      try simp only [Act.put, List.setIfInBounds_toArray, List.set_cons_zero, List.set_cons_succ, List.getElem_toArray, List.getElem_cons_succ, List.getElem_cons_zero]
      refine' wpAnyH_take (i := 1) (v := _) rfl (by kernel_rfl) (by kernel_rfl) (by kernel_rfl) (fun _ _ _ h => h) (Or.inl ⟨by rfl, ?_⟩) hHeld ?_
      rotate_left
      · (intro w hSw; (try dsimp only at hSw); go_simp; try with_reducible rfl)
      try simp only [Act.put, List.setIfInBounds_toArray, List.set_cons_zero, List.set_cons_succ, List.getElem_toArray, List.getElem_cons_succ, List.getElem_cons_zero]
      refine' wpAnyH_take (i := 2) (v := _) rfl (by kernel_rfl) (by kernel_rfl) (by kernel_rfl) (fun _ _ _ h => h) (Or.inl ⟨by rfl, ?_⟩) hHeld ?_
      rotate_left
      · (intro w hSw; (try dsimp only at hSw); go_simp; try with_reducible rfl)
      try simp only [Act.put, List.setIfInBounds_toArray, List.set_cons_zero, List.set_cons_succ, List.getElem_toArray, List.getElem_cons_succ, List.getElem_cons_zero]
      refine' wpAnyH_take (i := 3) (v := _) rfl (by kernel_rfl) (by kernel_rfl) (by kernel_rfl) (fun _ _ _ h => h) (Or.inl ⟨by rfl, ?_⟩) hHeld ?_
      rotate_left
      · (intro w hSw; (try dsimp only at hSw); go_simp; try with_reducible rfl)
      try simp only [Act.put, List.setIfInBounds_toArray, List.set_cons_zero, List.set_cons_succ, List.getElem_toArray, List.getElem_cons_succ, List.getElem_cons_zero]
      refine' wpAnyH_take (i := 4) (v := _) rfl (by kernel_rfl) (by kernel_rfl) (by kernel_rfl) (fun _ _ _ h => h) (Or.inl ⟨by rfl, ?_⟩) hHeld ?_
      rotate_left
      · (intro w hSw; (try dsimp only at hSw); go_simp; try with_reducible rfl)
      try simp only [Act.put, List.setIfInBounds_toArray, List.set_cons_zero, List.set_cons_succ, List.getElem_toArray, List.getElem_cons_succ, List.getElem_cons_zero]
      refine' wpAnyH_take (i := 5) (v := _) rfl (by kernel_rfl) (by kernel_rfl) (by kernel_rfl) (fun _ _ _ h => h) (Or.inl ⟨by rfl, ?_⟩) hHeld ?_
      rotate_left
      · (intro w hSw; (try dsimp only at hSw); go_simp; try with_reducible rfl)
      try simp only [Act.put, List.setIfInBounds_toArray, List.set_cons_zero, List.set_cons_succ, List.getElem_toArray, List.getElem_cons_succ, List.getElem_cons_zero]
      refine' wpAnyH_take (i := 6) (v := _) rfl (by kernel_rfl) (by kernel_rfl) (by kernel_rfl) (fun _ _ _ h => h) (Or.inl ⟨by rfl, ?_⟩) hHeld ?_
      rotate_left
      · (intro w hSw; (try dsimp only at hSw); go_simp; try with_reducible rfl)
      try simp only [Act.put, List.setIfInBounds_toArray, List.set_cons_zero, List.set_cons_succ, List.getElem_toArray, List.getElem_cons_succ, List.getElem_cons_zero]
      refine' wpAnyH_take (i := 7) (v := _) rfl (by kernel_rfl) (by kernel_rfl) (by kernel_rfl) (fun _ _ _ h => h) (Or.inl ⟨by rfl, ?_⟩) hHeld ?_
      rotate_left
      · (intro w hSw; (try dsimp only at hSw); go_simp; try with_reducible rfl)
      try simp only [Act.put, List.setIfInBounds_toArray, List.set_cons_zero, List.set_cons_succ, List.getElem_toArray, List.getElem_cons_succ, List.getElem_cons_zero]
      refine' wpAnyH_take (i := 8) (v := _) rfl (by kernel_rfl) (by kernel_rfl) (by kernel_rfl) (fun _ _ _ h => h) (Or.inl ⟨by rfl, ?_⟩) hHeld ?_
      rotate_left
      · (intro w hSw; (try dsimp only at hSw); go_simp; try with_reducible rfl)
      try simp only [Act.put, List.setIfInBounds_toArray, List.set_cons_zero, List.set_cons_succ, List.getElem_toArray, List.getElem_cons_succ, List.getElem_cons_zero]
      refine' wpAnyH_take (i := 9) (v := _) rfl (by kernel_rfl) (by kernel_rfl) (by kernel_rfl) (fun _ _ _ h => h) (Or.inl ⟨by rfl, ?_⟩) hHeld ?_
      rotate_left
      · (intro w hSw; (try dsimp only at hSw); go_simp; try with_reducible rfl)
      try simp only [Act.put, List.setIfInBounds_toArray, List.set_cons_zero, List.set_cons_succ, List.getElem_toArray, List.getElem_cons_succ, List.getElem_cons_zero]
      refine' wpAnyH_take (i := 10) (v := _) rfl (by kernel_rfl) (by kernel_rfl) (by kernel_rfl) (fun _ _ _ h => h) (Or.inl ⟨by rfl, ?_⟩) hHeld ?_
      rotate_left
      · (intro w hSw; (try dsimp only at hSw); go_simp; try with_reducible rfl)
      try simp only [Act.put, List.setIfInBounds_toArray, List.set_cons_zero, List.set_cons_succ, List.getElem_toArray, List.getElem_cons_succ, List.getElem_cons_zero]
      refine' wpAnyH_take (i := 11) (v := _) rfl (by kernel_rfl) (by kernel_rfl) (by kernel_rfl) (fun _ _ _ h => h) (Or.inl ⟨by rfl, ?_⟩) hHeld ?_
      rotate_left
      · (intro w hSw; (try dsimp only at hSw); go_simp; try with_reducible rfl)
      try simp only [Act.put, List.setIfInBounds_toArray, List.set_cons_zero, List.set_cons_succ, List.getElem_toArray, List.getElem_cons_succ, List.getElem_cons_zero]
      refine' wpAnyH_take (i := 12) (v := _) rfl (by kernel_rfl) (by kernel_rfl) (by kernel_rfl) (fun _ _ _ h => h) (Or.inl ⟨by rfl, ?_⟩) hHeld ?_
      rotate_left
      · (intro w hSw; (try dsimp only at hSw); go_simp; try with_reducible rfl)
      try simp only [Act.put, List.setIfInBounds_toArray, List.set_cons_zero, List.set_cons_succ, List.getElem_toArray, List.getElem_cons_succ, List.getElem_cons_zero]
      refine' wpAnyH_take (i := 13) (v := _) rfl (by kernel_rfl) (by kernel_rfl) (by kernel_rfl) (fun _ _ _ h => h) (Or.inl ⟨by rfl, ?_⟩) hHeld ?_
      rotate_left
      · (intro w hSw; (try dsimp only at hSw); go_simp; try with_reducible rfl)
      try simp only [Act.put, List.setIfInBounds_toArray, List.set_cons_zero, List.set_cons_succ, List.getElem_toArray, List.getElem_cons_succ, List.getElem_cons_zero]
      refine' wpAnyH_take (i := 14) (v := _) rfl (by kernel_rfl) (by kernel_rfl) (by kernel_rfl) (fun _ _ _ h => h) (Or.inl ⟨by rfl, ?_⟩) hHeld ?_
      rotate_left
      · (intro w hSw; (try dsimp only at hSw); go_simp; try with_reducible rfl)
      try simp only [Act.put, List.setIfInBounds_toArray, List.set_cons_zero, List.set_cons_succ, List.getElem_toArray, List.getElem_cons_succ, List.getElem_cons_zero]
      refine' wpAnyH_take (i := 15) (v := _) rfl (by kernel_rfl) (by kernel_rfl) (by kernel_rfl) (fun _ _ _ h => h) (Or.inl ⟨by rfl, ?_⟩) hHeld ?_
      rotate_left
      · (intro w hSw; (try dsimp only at hSw); go_simp; try with_reducible rfl)
      try simp only [Act.put, List.setIfInBounds_toArray, List.set_cons_zero, List.set_cons_succ, List.getElem_toArray, List.getElem_cons_succ, List.getElem_cons_zero]
      refine' wpAnyH_take (i := 16) (v := _) rfl (by kernel_rfl) (by kernel_rfl) (by kernel_rfl) (fun _ _ _ h => h) (Or.inl ⟨by rfl, ?_⟩) hHeld ?_
      rotate_left
      · (intro w hSw; (try dsimp only at hSw); go_simp; try with_reducible rfl)
      try simp only [Act.put, List.setIfInBounds_toArray, List.set_cons_zero, List.set_cons_succ, List.getElem_toArray, List.getElem_cons_succ, List.getElem_cons_zero]
      refine' wpAnyH_take (i := 17) (v := _) rfl (by kernel_rfl) (by kernel_rfl) (by kernel_rfl) (fun _ _ _ h => h) (Or.inl ⟨by rfl, ?_⟩) hHeld ?_
      rotate_left
      · (intro w hSw; (try dsimp only at hSw); go_simp; try with_reducible rfl)
      try simp only [Act.put, List.setIfInBounds_toArray, List.set_cons_zero, List.set_cons_succ, List.getElem_toArray, List.getElem_cons_succ, List.getElem_cons_zero]
      refine' wpAnyH_take (i := 19) (v := _) rfl (by kernel_rfl) (by kernel_rfl) (by kernel_rfl) (fun _ _ _ h => h) (Or.inl ⟨by rfl, ?_⟩) hHeld ?_
      rotate_left
      · (intro w hSw; (try dsimp only at hSw); go_simp; try with_reducible rfl)
      try simp only [Act.put, List.setIfInBounds_toArray, List.set_cons_zero, List.set_cons_succ, List.getElem_toArray, List.getElem_cons_succ, List.getElem_cons_zero]
      refine wpAnyH_ready (rs := [18]) (by kernel_rfl) (by simp) ?_
      refine AllReadyH.cons (o := _) rfl (fun K hK => ?_) AllReadyH.nil
      obtain ⟨hb1, hc1, he1⟩ := hHeld
      have K1 := hid (he1.grown (World.grownBy_alloc _ (.cells #[.int .i64 l, .int .i64 u, .int .i64 (l - 1), .int .i64 (u + 1)] 2) none))
      have cD : ((w2.alloc (.cells #[.int .i64 l, .int .i64 u, .int .i64 (l - 1), .int .i64 (u + 1)] 2)).drew).cell? ⟨w2.heap.size, 3, none⟩ = some (.int .i64 (u + 1)) := at_cell (at_drew (at_new w2 (.cells #[.int .i64 l, .int .i64 u, .int .i64 (l - 1), .int .i64 (u + 1)] 2))) 3
      clear hb1 hc1 he1
      try simp only [List.getElem_toArray, List.getElem_cons_succ, List.getElem_cons_zero]
      go_simp
      refine hK.out _ _ ⟨(at_cell K1.out.hB k).trans hkB.out, (at_cell K1.out.hC k).trans hkC.out, K1.out⟩ (fun hHeld => ?_)
      clear hK K
      try dsimp only at hHeld
      try simp only [Act.put, List.setIfInBounds_toArray, List.set_cons_zero, List.set_cons_succ, List.getElem_toArray, List.getElem_cons_succ, List.getElem_cons_zero]
      refine held_stronger (S' := fun w' => (fun w' => w'.cell? ⟨w2.heap.size, 3, none⟩ = some (.int .i64 (u + 1))) w' ∧ ((fun w' => w'.cell? ⟨B, k, none⟩ = some (.int .i64 l) ∧ w'.cell? ⟨C, k, none⟩ = some (.int .i64 u) ∧ Es w A B C x ec w')) w') (fun _ h => h.2) _ _ _ _ ?_
      replace hHeld := And.intro cD hHeld
      try dsimp only at hHeld
      refine' wpAnyH_take (i := 20) (v := _) rfl (by kernel_rfl) (by kernel_rfl) (by kernel_rfl) (fun _ _ _ h => h) (Or.inl ⟨by rfl, ?_⟩) hHeld ?_
      rotate_left
      · (intro w hSw; (try dsimp only at hSw); go_simp; try with_reducible rfl)
      try simp only [Act.put, List.setIfInBounds_toArray, List.set_cons_zero, List.set_cons_succ, List.getElem_toArray, List.getElem_cons_succ, List.getElem_cons_zero]
      refine' wpAnyH_take (i := 21) (v := _) rfl (by kernel_rfl) (by kernel_rfl) (by kernel_rfl) (fun _ _ _ h => h) (Or.inl ⟨by rfl, ?_⟩) hHeld ?_
      rotate_left
      · (intro w hSw; (try dsimp only at hSw); go_simp; try with_reducible rfl)
      try simp only [Act.put, List.setIfInBounds_toArray, List.set_cons_zero, List.set_cons_succ, List.getElem_toArray, List.getElem_cons_succ, List.getElem_cons_zero]
      refine' wpAnyH_take (i := 22) (v := _) rfl (by kernel_rfl) (by kernel_rfl) (by kernel_rfl) (fun _ _ _ h => h) (Or.inl ⟨by rfl, ?_⟩) hHeld ?_
      rotate_left
      · (intro w hSw; (try dsimp only at hSw); go_simp; try with_reducible rfl)
      try simp only [Act.put, List.setIfInBounds_toArray, List.set_cons_zero, List.set_cons_succ, List.getElem_toArray, List.getElem_cons_succ, List.getElem_cons_zero]
      refine wpAnyH_done (by kernel_rfl) ?_ _
      clear hHeld
      go_wp2_with fail
      go_meet
      exact ⟨rfl, K1.out⟩
  case rest =>
  obtain ⟨rfl, hE⟩ := hcut
  have cA : wc.cell? ⟨A, k, none⟩ = some (.string (nm k)) := (at_cell hE.hA k).trans (nm_cell k hk)
  have E3 := hid hE; clear hE E2 cB cC r1 r2 r3 r4
  go_upto_if 56 with fail
  go_cut [13] from 164 to 164 (fun s wx => ∃ s0, s = .string s0 ∧ s0 = (if d < 2 then ⟨#[]⟩ else nm k) ∧ wx = wc)
  case first =>
    by_cases h2 : d < 2
    · have h2' : (d : Int) < 2 := by omega
      go_wp2_with fail
      go_meet
      exact ⟨_, rfl, by rw [if_pos h2], rfl⟩
    · have h2' : ¬ (d : Int) < 2 := by omega
      go_wp2_with fail
      go_meet
      exact ⟨_, rfl, by rw [if_neg h2], rfl⟩
  case rest =>
  obtain ⟨s0, rfl, hs0, rfl⟩ := hcut
  have HS := hid hs0; clear hs0
  go_upto_block 0 with fail
  have fz : ∀ i, wc.frozen? ⟨x, i, none⟩ = false := fun i => at_free E3.out.cx.box i
  generalize hv : edge l u d = v
  have HV := hid hv; clear hv
  go_cut [13] from 61 to 150 (fun s wx => ∃ c' want, s = .string want ∧ Cfx w x c' wx ∧ (st22 c').getD ⟨#[]⟩ = want)
  case first =>
    have hk22 : k = 0 ∨ k = 1 ∨ k = 2 ∨ k = 3 ∨ k = 4 ∨ k = 5 ∨ k = 6 ∨ k = 7 ∨ k = 8 ∨ k = 9 ∨ k = 10 ∨ k = 11 ∨ k = 12 ∨ k = 13 ∨ k = 14 ∨ k = 15 ∨ k = 16 ∨ k = 17 ∨ k = 18 ∨ k = 19 ∨ k = 20 ∨ k = 21 := by omega
    rcases hk22 with rfl | rfl | rfl | rfl | rfl | rfl | rfl | rfl | rfl | rfl | rfl | rfl | rfl | rfl | rfl | rfl | rfl | rfl | rfl | rfl | rfl | rfl
    · have hn : nm 0 = ⟨#[110]⟩ := rfl
      rw [hn] at cA ⊢
      clear hn
      have z0 : wc.cell? ⟨x, 0, none⟩ = some (.int .i64 4) := at_cell E3.out.cx.box 0
      go_wp2_with fail
      go_meet
      exact ⟨⟨v, 0, 1, 1, 2, 2, 32, 1000, 0, 0, 0, 100, 1, 10000, 0, 3, 4, 100, 4, 50, 2, 100, 3, 4, 256, 1⟩, _, rfl, ⟨(at_set E3.out.cx.box 0 _), (gb_new E3.out.cx.g (p := ⟨x, 0, none⟩) hlow _)⟩, by rw [← HV.out, ← HL.out, ← HU.out, edge_0 d hd]; exact HS.out.symm⟩
    · have hn : nm 1 = ⟨#[102]⟩ := rfl
      rw [hn] at cA ⊢
      clear hn
      have z1 : wc.cell? ⟨x, 1, none⟩ = some (.int .i64 0) := at_cell E3.out.cx.box 1
      have z3 : wc.cell? ⟨x, 3, none⟩ = some (.int .i64 1) := at_cell E3.out.cx.box 3
      go_wp2_with fail
      go_meet
      exact ⟨⟨4, v, 1, 4, 2, 2, 32, 1000, 0, 0, 0, 100, 1, 10000, 0, 3, 4, 100, 4, 50, 2, 100, 3, 4, 256, 1⟩, _, rfl, ⟨(at_set (at_set E3.out.cx.box 1 _) 3 _), (gb_new (gb_new E3.out.cx.g (p := ⟨x, 1, none⟩) hlow _) (p := ⟨x, 3, none⟩) hlow _)⟩, by rw [← HV.out, ← HL.out, ← HU.out, edge_1 d hd]; exact HS.out.symm⟩
    · have hn : nm 2 = ⟨#[109]⟩ := rfl
      rw [hn] at cA ⊢
      clear hn
      have z2 : wc.cell? ⟨x, 2, none⟩ = some (.int .i64 1) := at_cell E3.out.cx.box 2
      by_cases h3 : d = 3
      · have h3' : (d : Int) = 3 := by omega
        have H3 := hid h3; clear h3
        go_wp2_with fail
        go_meet
        exact ⟨⟨4, 0, v, 1, 2, 2, 32, 1000, 0, 0, 0, 100, 1, 10000, 0, 3, 4, 100, 4, 50, 2, 100, 3, 4, 256, 1⟩, _, rfl, ⟨(at_set E3.out.cx.box 2 _), (gb_new E3.out.cx.g (p := ⟨x, 2, none⟩) hlow _)⟩, by rw [← HV.out, ← HL.out, ← HU.out, edge_2 d hd]; exact if_pos H3.out⟩
      · have h3' : ((d : Int) == 3) = false := by rw [beq_eq_false_iff_ne]; omega
        have H3 := hid h3; clear h3
        go_wp2_with fail
        go_meet
        exact ⟨⟨4, 0, v, 1, 2, 2, 32, 1000, 0, 0, 0, 100, 1, 10000, 0, 3, 4, 100, 4, 50, 2, 100, 3, 4, 256, 1⟩, _, rfl, ⟨(at_set E3.out.cx.box 2 _), (gb_new E3.out.cx.g (p := ⟨x, 2, none⟩) hlow _)⟩, by rw [← HV.out, ← HL.out, ← HU.out, edge_2 d hd]; rw [HS.out]; exact if_neg H3.out⟩
    · have hn : nm 3 = ⟨#[113, 117, 111, 114, 117, 109]⟩ := rfl
      rw [hn] at cA ⊢
      clear hn
      have z3 : wc.cell? ⟨x, 3, none⟩ = some (.int .i64 1) := at_cell E3.out.cx.box 3
      go_wp2_with fail
      go_meet
      exact ⟨⟨4, 0, 1, v, 2, 2, 32, 1000, 0, 0, 0, 100, 1, 10000, 0, 3, 4, 100, 4, 50, 2, 100, 3, 4, 256, 1⟩, _, rfl, ⟨(at_set E3.out.cx.box 3 _), (gb_new E3.out.cx.g (p := ⟨x, 3, none⟩) hlow _)⟩, by rw [← HV.out, ← HL.out, ← HU.out, edge_3 d hd]; exact HS.out.symm⟩
    · have hn : nm 4 = ⟨#[102, 114, 101, 115, 104]⟩ := rfl
      rw [hn] at cA ⊢
      clear hn
      have z4 : wc.cell? ⟨x, 4, none⟩ = some (.int .i64 2) := at_cell E3.out.cx.box 4
      go_wp2_with fail
      go_meet
      exact ⟨⟨4, 0, 1, 1, v, 2, 32, 1000, 0, 0, 0, 100, 1, 10000, 0, 3, 4, 100, 4, 50, 2, 100, 3, 4, 256, 1⟩, _, rfl, ⟨(at_set E3.out.cx.box 4 _), (gb_new E3.out.cx.g (p := ⟨x, 4, none⟩) hlow _)⟩, by rw [← HV.out, ← HL.out, ← HU.out, edge_4 d hd]; exact HS.out.symm⟩
    · have hn : nm 5 = ⟨#[103, 114, 97, 99, 101]⟩ := rfl
      rw [hn] at cA ⊢
      clear hn
      have z5 : wc.cell? ⟨x, 5, none⟩ = some (.int .i64 2) := at_cell E3.out.cx.box 5
      go_wp2_with fail
      go_meet
      exact ⟨⟨4, 0, 1, 1, 2, v, 32, 1000, 0, 0, 0, 100, 1, 10000, 0, 3, 4, 100, 4, 50, 2, 100, 3, 4, 256, 1⟩, _, rfl, ⟨(at_set E3.out.cx.box 5 _), (gb_new E3.out.cx.g (p := ⟨x, 5, none⟩) hlow _)⟩, by rw [← HV.out, ← HL.out, ← HU.out, edge_5 d hd]; exact HS.out.symm⟩
    · have hn : nm 6 = ⟨#[119, 105, 110, 100, 111, 119]⟩ := rfl
      rw [hn] at cA ⊢
      clear hn
      have z6 : wc.cell? ⟨x, 6, none⟩ = some (.int .i64 32) := at_cell E3.out.cx.box 6
      go_wp2_with fail
      go_meet
      exact ⟨⟨4, 0, 1, 1, 2, 2, v, 1000, 0, 0, 0, 100, 1, 10000, 0, 3, 4, 100, 4, 50, 2, 100, 3, 4, 256, 1⟩, _, rfl, ⟨(at_set E3.out.cx.box 6 _), (gb_new E3.out.cx.g (p := ⟨x, 6, none⟩) hlow _)⟩, by rw [← HV.out, ← HL.out, ← HU.out, edge_6 d hd]; exact HS.out.symm⟩
    · have hn : nm 7 = ⟨#[116, 97, 114, 103, 101, 116]⟩ := rfl
      rw [hn] at cA ⊢
      clear hn
      have z7 : wc.cell? ⟨x, 7, none⟩ = some (.int .i64 1000) := at_cell E3.out.cx.box 7
      go_wp2_with fail
      go_meet
      exact ⟨⟨4, 0, 1, 1, 2, 2, 32, v, 0, 0, 0, 100, 1, 10000, 0, 3, 4, 100, 4, 50, 2, 100, 3, 4, 256, 1⟩, _, rfl, ⟨(at_set E3.out.cx.box 7 _), (gb_new E3.out.cx.g (p := ⟨x, 7, none⟩) hlow _)⟩, by rw [← HV.out, ← HL.out, ← HU.out, edge_7 d hd]; exact HS.out.symm⟩
    · have hn : nm 8 = ⟨#[116, 111, 108]⟩ := rfl
      rw [hn] at cA ⊢
      clear hn
      have z11 : wc.cell? ⟨x, 11, none⟩ = some (.int .i64 100) := at_cell E3.out.cx.box 11
      go_wp2_with fail
      go_meet
      exact ⟨⟨4, 0, 1, 1, 2, 2, 32, 1000, 0, 0, 0, v, 1, 10000, 0, 3, 4, 100, 4, 50, 2, 100, 3, 4, 256, 1⟩, _, rfl, ⟨(at_set E3.out.cx.box 11 _), (gb_new E3.out.cx.g (p := ⟨x, 11, none⟩) hlow _)⟩, by rw [← HV.out, ← HL.out, ← HU.out, edge_8 d hd]; exact HS.out.symm⟩
    · have hn : nm 9 = ⟨#[109, 105, 110]⟩ := rfl
      rw [hn] at cA ⊢
      clear hn
      have z12 : wc.cell? ⟨x, 12, none⟩ = some (.int .i64 1) := at_cell E3.out.cx.box 12
      go_wp2_with fail
      go_meet
      exact ⟨⟨4, 0, 1, 1, 2, 2, 32, 1000, 0, 0, 0, 100, v, 10000, 0, 3, 4, 100, 4, 50, 2, 100, 3, 4, 256, 1⟩, _, rfl, ⟨(at_set E3.out.cx.box 12 _), (gb_new E3.out.cx.g (p := ⟨x, 12, none⟩) hlow _)⟩, by rw [← HV.out, ← HL.out, ← HU.out, edge_9 d hd]; exact HS.out.symm⟩
    · have hn : nm 10 = ⟨#[109, 97, 120]⟩ := rfl
      rw [hn] at cA ⊢
      clear hn
      have z13 : wc.cell? ⟨x, 13, none⟩ = some (.int .i64 10000) := at_cell E3.out.cx.box 13
      go_wp2_with fail
      go_meet
      exact ⟨⟨4, 0, 1, 1, 2, 2, 32, 1000, 0, 0, 0, 100, 1, v, 0, 3, 4, 100, 4, 50, 2, 100, 3, 4, 256, 1⟩, _, rfl, ⟨(at_set E3.out.cx.box 13 _), (gb_new E3.out.cx.g (p := ⟨x, 13, none⟩) hlow _)⟩, by rw [← HV.out, ← HL.out, ← HU.out, edge_10 d hd]; exact HS.out.symm⟩
    · have hn : nm 11 = ⟨#[99, 97, 108, 109, 117, 112]⟩ := rfl
      rw [hn] at cA ⊢
      clear hn
      have z14 : wc.cell? ⟨x, 14, none⟩ = some (.int .i64 0) := at_cell E3.out.cx.box 14
      go_wp2_with fail
      go_meet
      exact ⟨⟨4, 0, 1, 1, 2, 2, 32, 1000, 0, 0, 0, 100, 1, 10000, v, 3, 4, 100, 4, 50, 2, 100, 3, 4, 256, 1⟩, _, rfl, ⟨(at_set E3.out.cx.box 14 _), (gb_new E3.out.cx.g (p := ⟨x, 14, none⟩) hlow _)⟩, by rw [← HV.out, ← HL.out, ← HU.out, edge_11 d hd]; exact HS.out.symm⟩
    · have hn : nm 12 = ⟨#[99, 97, 108, 109, 100, 111, 119, 110]⟩ := rfl
      rw [hn] at cA ⊢
      clear hn
      have z15 : wc.cell? ⟨x, 15, none⟩ = some (.int .i64 3) := at_cell E3.out.cx.box 15
      go_wp2_with fail
      go_meet
      exact ⟨⟨4, 0, 1, 1, 2, 2, 32, 1000, 0, 0, 0, 100, 1, 10000, 0, v, 4, 100, 4, 50, 2, 100, 3, 4, 256, 1⟩, _, rfl, ⟨(at_set E3.out.cx.box 15 _), (gb_new E3.out.cx.g (p := ⟨x, 15, none⟩) hlow _)⟩, by rw [← HV.out, ← HL.out, ← HU.out, edge_12 d hd]; exact HS.out.symm⟩
    · have hn : nm 13 = ⟨#[112, 111, 100, 115, 117, 112]⟩ := rfl
      rw [hn] at cA ⊢
      clear hn
      have z16 : wc.cell? ⟨x, 16, none⟩ = some (.int .i64 4) := at_cell E3.out.cx.box 16
      go_wp2_with fail
      go_meet
      exact ⟨⟨4, 0, 1, 1, 2, 2, 32, 1000, 0, 0, 0, 100, 1, 10000, 0, 3, v, 100, 4, 50, 2, 100, 3, 4, 256, 1⟩, _, rfl, ⟨(at_set E3.out.cx.box 16 _), (gb_new E3.out.cx.g (p := ⟨x, 16, none⟩) hlow _)⟩, by rw [← HV.out, ← HL.out, ← HU.out, edge_13 d hd]; exact HS.out.symm⟩
    · have hn : nm 14 = ⟨#[112, 99, 116, 117, 112]⟩ := rfl
      rw [hn] at cA ⊢
      clear hn
      have z17 : wc.cell? ⟨x, 17, none⟩ = some (.int .i64 100) := at_cell E3.out.cx.box 17
      go_wp2_with fail
      go_meet
      exact ⟨⟨4, 0, 1, 1, 2, 2, 32, 1000, 0, 0, 0, 100, 1, 10000, 0, 3, 4, v, 4, 50, 2, 100, 3, 4, 256, 1⟩, _, rfl, ⟨(at_set E3.out.cx.box 17 _), (gb_new E3.out.cx.g (p := ⟨x, 17, none⟩) hlow _)⟩, by rw [← HV.out, ← HL.out, ← HU.out, edge_14 d hd]; exact HS.out.symm⟩
    · have hn : nm 15 = ⟨#[112, 111, 100, 115, 100, 111, 119, 110]⟩ := rfl
      rw [hn] at cA ⊢
      clear hn
      have z18 : wc.cell? ⟨x, 18, none⟩ = some (.int .i64 4) := at_cell E3.out.cx.box 18
      go_wp2_with fail
      go_meet
      exact ⟨⟨4, 0, 1, 1, 2, 2, 32, 1000, 0, 0, 0, 100, 1, 10000, 0, 3, 4, 100, v, 50, 2, 100, 3, 4, 256, 1⟩, _, rfl, ⟨(at_set E3.out.cx.box 18 _), (gb_new E3.out.cx.g (p := ⟨x, 18, none⟩) hlow _)⟩, by rw [← HV.out, ← HL.out, ← HU.out, edge_15 d hd]; exact HS.out.symm⟩
    · have hn : nm 16 = ⟨#[112, 99, 116, 100, 111, 119, 110]⟩ := rfl
      rw [hn] at cA ⊢
      clear hn
      have z19 : wc.cell? ⟨x, 19, none⟩ = some (.int .i64 50) := at_cell E3.out.cx.box 19
      go_wp2_with fail
      go_meet
      exact ⟨⟨4, 0, 1, 1, 2, 2, 32, 1000, 0, 0, 0, 100, 1, 10000, 0, 3, 4, 100, 4, v, 2, 100, 3, 4, 256, 1⟩, _, rfl, ⟨(at_set E3.out.cx.box 19 _), (gb_new E3.out.cx.g (p := ⟨x, 19, none⟩) hlow _)⟩, by rw [← HV.out, ← HL.out, ← HU.out, edge_16 d hd]; exact HS.out.symm⟩
    · have hn : nm 17 = ⟨#[112, 101, 114, 105, 111, 100]⟩ := rfl
      rw [hn] at cA ⊢
      clear hn
      have z20 : wc.cell? ⟨x, 20, none⟩ = some (.int .i64 2) := at_cell E3.out.cx.box 20
      go_wp2_with fail
      go_meet
      exact ⟨⟨4, 0, 1, 1, 2, 2, 32, 1000, 0, 0, 0, 100, 1, 10000, 0, 3, 4, 100, 4, 50, v, 100, 3, 4, 256, 1⟩, _, rfl, ⟨(at_set E3.out.cx.box 20 _), (gb_new E3.out.cx.g (p := ⟨x, 20, none⟩) hlow _)⟩, by rw [← HV.out, ← HL.out, ← HU.out, edge_17 d hd]; exact HS.out.symm⟩
    · have hn : nm 18 = ⟨#[102, 97, 114]⟩ := rfl
      rw [hn] at cA ⊢
      clear hn
      have z21 : wc.cell? ⟨x, 21, none⟩ = some (.int .i64 100) := at_cell E3.out.cx.box 21
      go_wp2_with fail
      go_meet
      exact ⟨⟨4, 0, 1, 1, 2, 2, 32, 1000, 0, 0, 0, 100, 1, 10000, 0, 3, 4, 100, 4, 50, 2, v, 3, 4, 256, 1⟩, _, rfl, ⟨(at_set E3.out.cx.box 21 _), (gb_new E3.out.cx.g (p := ⟨x, 21, none⟩) hlow _)⟩, by rw [← HV.out, ← HL.out, ← HU.out, edge_18 d hd]; exact HS.out.symm⟩
    · have hn : nm 19 = ⟨#[115, 116, 114, 105, 107, 101, 115]⟩ := rfl
      rw [hn] at cA ⊢
      clear hn
      have z22 : wc.cell? ⟨x, 22, none⟩ = some (.int .i64 3) := at_cell E3.out.cx.box 22
      go_wp2_with fail
      go_meet
      exact ⟨⟨4, 0, 1, 1, 2, 2, 32, 1000, 0, 0, 0, 100, 1, 10000, 0, 3, 4, 100, 4, 50, 2, 100, v, 4, 256, 1⟩, _, rfl, ⟨(at_set E3.out.cx.box 22 _), (gb_new E3.out.cx.g (p := ⟨x, 22, none⟩) hlow _)⟩, by rw [← HV.out, ← HL.out, ← HU.out, edge_19 d hd]; exact HS.out.symm⟩
    · have hn : nm 20 = ⟨#[112, 114, 111, 98, 101]⟩ := rfl
      rw [hn] at cA ⊢
      clear hn
      have z23 : wc.cell? ⟨x, 23, none⟩ = some (.int .i64 4) := at_cell E3.out.cx.box 23
      go_wp2_with fail
      go_meet
      exact ⟨⟨4, 0, 1, 1, 2, 2, 32, 1000, 0, 0, 0, 100, 1, 10000, 0, 3, 4, 100, 4, 50, 2, 100, 3, v, 256, 1⟩, _, rfl, ⟨(at_set E3.out.cx.box 23 _), (gb_new E3.out.cx.g (p := ⟨x, 23, none⟩) hlow _)⟩, by rw [← HV.out, ← HL.out, ← HU.out, edge_20 d hd]; exact HS.out.symm⟩
    · have hn : nm 21 = ⟨#[115, 101, 99, 116, 111, 114, 115]⟩ := rfl
      rw [hn] at cA ⊢
      clear hn
      have z24 : wc.cell? ⟨x, 24, none⟩ = some (.int .i64 256) := at_cell E3.out.cx.box 24
      go_wp2_with fail
      go_meet
      exact ⟨⟨4, 0, 1, 1, 2, 2, 32, 1000, 0, 0, 0, 100, 1, 10000, 0, 3, 4, 100, 4, 50, 2, 100, 3, 4, v, 1⟩, _, rfl, ⟨(at_set E3.out.cx.box 24 _), (gb_new E3.out.cx.g (p := ⟨x, 24, none⟩) hlow _)⟩, by rw [← HV.out, ← HL.out, ← HU.out, edge_21 d hd]; exact HS.out.symm⟩
  case rest =>
  obtain ⟨c', want, rfl, hC, hw⟩ := hcut
  have hW := fun w => wrong_any c' w
  have hM := fun w => may_any c' w
  rw [hw] at hW hM
  have WR := hid hW; have MY := hid hM; have C7 := hid hC; clear hW hM hC hw E3 cA fz HS HV HL HU
  go_wp2_with fail
  refine (told_any _).mono ?_
  rintro e w7 ⟨rfl, hg⟩
  have C8 := hid (C7.out.grown hg); clear hg C7
  go_wp2_with (refine wpList_row_w C8.out.box Try.underlying27 rfl (by kernel_rfl) rfl rfl rfl rfl ?_)
  refine (WR.out _).mono ?_
  rintro e w8 ⟨rfl, hg⟩
  have C9 := hid (C8.out.grown hg); clear hg C8
  go_wp2_with (refine wpList_row_w C9.out.box Try.underlying27 rfl (by kernel_rfl) rfl rfl rfl rfl ?_)
  refine (MY.out _).mono ?_
  rintro e w9 ⟨rfl, hg⟩
  have C10 := hid (C9.out.grown hg); clear hg C9
  go_wp2_with fail
  go_ret
  exact ⟨rfl, C10.out.g⟩
end Go.Proofs.Ytabfeaifbjfdoaa.edges
