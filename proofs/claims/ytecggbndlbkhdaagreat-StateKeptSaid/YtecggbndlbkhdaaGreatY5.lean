/-
  Contracts for package ring: what a ring is, and its calls but Key. The condition of a call: the ring lies there; or it is nil.
  Plain mathematics: the sum of the padded bytes, eight at a time, is the sum of the bytes one by one. No condition.
  Contracts for the document's own tags. The condition: strings of a modest length.
  Contract: what the law makes of numbers is a configuration that may be. The condition: the numbers read as a list.
-/
import Derived.Test.YtecggbndlbkhdaaGreatJ0
import Derived.Test.YtecggbndlbkhdaaGreatY1
import Derived.Test.YtecggbndlbkhdaaGreatY13
import Derived.Test.YtecggbndlbkhdaaGreatY2
import Derived.Test.YtecggbndlbkhdaaGreatY4
import Derived.Test.YtecggbndlbkhdaaGreatY20
import Derived.Deep.CutBlock
import Derived.LoopTactic
import Derived.Deep.RegionHeld3
section
set_option linter.unusedSimpArgs false
namespace Go.Proofs.YtecggbndlbkhdaaGreat
set_option maxRecDepth 100000
open Go.RowKit

/-- generations of keys -/
structure Rg where
  seed : BitVec 64
  n : Nat
  grace : Nat
  gen : Nat → Int
  since : Nat → Int
structure Rg.Ok (r : Rg) : Prop where
  n1 : 1 ≤ r.n
  n2 : r.n ≤ 16
  g1 : 1 ≤ r.grace
  g2 : r.grace ≤ 100
  e0 : ∀ i, 0 ≤ r.gen i
  e1 : ∀ i, r.gen i ≤ 60000
  s0 : ∀ i, 0 ≤ r.since i
  s1 : ∀ i, r.since i ≤ 1099511627776
def Rg.new (seed : BitVec 64) (n grace : Nat) : Rg := ⟨seed, n, grace, fun _ => 0, fun _ => 0⟩
def Rg.put (r : Rg) (i : Nat) (g s : Int) : Rg := { r with gen := fun j => if j = i then g else r.gen j, since := fun j => if j = i then s else r.since j }
theorem rg_new_ok (seed : BitVec 64) {n grace : Nat} (h1 : 1 ≤ n) (h2 : n ≤ 16) (h3 : 1 ≤ grace) (h4 : grace ≤ 100) : (Rg.new seed n grace).Ok :=
  ⟨h1, h2, h3, h4, fun _ => Int.le_refl _, fun _ => by show (0 : Int) ≤ _; decide, fun _ => Int.le_refl _, fun _ => by show (0 : Int) ≤ _; decide⟩
theorem Rg.Ok.put {r : Rg} (h : r.Ok) (i : Nat) {g s : Int} (g0 : 0 ≤ g) (g1 : g ≤ 60000) (s0 : 0 ≤ s) (s1 : s ≤ 1099511627776) : (r.put i g s).Ok :=
  ⟨h.n1, h.n2, h.g1, h.g2, fun j => by simp only [Rg.put]; split; exact g0; exact h.e0 j, fun j => by simp only [Rg.put]; split; exact g1; exact h.e1 j,
    fun j => by simp only [Rg.put]; split; exact s0; exact h.s0 j, fun j => by simp only [Rg.put]; split; exact s1; exact h.s1 j⟩

/-- a ring of the program's -/
structure RgAt (w : World) (b h : Nat) (r : Rg) : Prop where
  top : w.heap[b]? = some (.cells #[.int .u64 (q r.seed), .int .i64 (r.grace : Int), .slice (some ⟨h, 0, none⟩) r.n r.n] 343)
  row : ∃ cs : Array Value, w.heap[h]? = some (.cells cs 391) ∧ ∀ i, i < r.n → cs[i * 2]? = some (.int .i64 (r.gen i)) ∧ cs[i * 2 + 1]? = some (.int .i64 (r.since i))
  ne : b ≠ h
  ok : r.Ok
theorem RgAt.chg {w w' : World} {F : List Nat} {b h : Nat} {r : Rg} (H : RgAt w b h r) (hc : Chg F w w') (hb : b ∉ F) (hh : h ∉ F) : RgAt w' b h r :=
  ⟨hc.at H.top hb, by obtain ⟨cs, h1, h2⟩ := H.row; exact ⟨cs, hc.at h1 hh, h2⟩, H.ne, H.ok⟩
theorem RgAt.grown {w w' : World} {b h : Nat} {r : Rg} (H : RgAt w b h r) (hg : w.grownBy w' none) : RgAt w' b h r := H.chg (chg_grown hg []) (by simp) (by simp)
theorem RgAt.drew {w : World} {b h : Nat} {r : Rg} (H : RgAt w b h r) : RgAt w.drew b h r := ⟨H.top, H.row, H.ne, H.ok⟩
theorem RgAt.tops {w : World} {b h : Nat} {r : Rg} (H : RgAt w b h r) : w.cell? ⟨b, 0, none⟩ = some (.int .u64 (q r.seed)) ∧ w.cell? ⟨b, 1, none⟩ = some (.int .i64 (r.grace : Int)) ∧ w.cell? ⟨b, 2, none⟩ = some (.slice (some ⟨h, 0, none⟩) r.n r.n) :=
  ⟨at_cell H.top 0, at_cell H.top 1, at_cell H.top 2⟩
theorem RgAt.cells {w : World} {b h : Nat} {r : Rg} (H : RgAt w b h r) {i : Nat} (hi : i < r.n) : w.cell? ⟨h, i * 2, none⟩ = some (.int .i64 (r.gen i)) ∧ w.cell? ⟨h, i * 2 + 1, none⟩ = some (.int .i64 (r.since i)) ∧ w.frozen? ⟨h, i * 2, none⟩ = false ∧ w.frozen? ⟨h, i * 2 + 1, none⟩ = false := by
  obtain ⟨cs, h1, h2⟩ := H.row
  exact ⟨(at_cell h1 _).trans (h2 i hi).1, (at_cell h1 _).trans (h2 i hi).2, at_free h1 _, at_free h1 _⟩
theorem RgAt.lt {w : World} {b h : Nat} {r : Rg} (H : RgAt w b h r) : b < w.heap.size ∧ h < w.heap.size := ⟨at_lt H.top, by obtain ⟨_, h1, _⟩ := H.row; exact at_lt h1⟩
theorem RgAt.put {w : World} {b h : Nat} {r : Rg} (H : RgAt w b h r) {i : Nat} (hi : i < r.n) {g s : Int} (g0 : 0 ≤ g) (g1 : g ≤ 60000) (s0 : 0 ≤ s) (s1 : s ≤ 1099511627776) :
    RgAt ((w.setCell ⟨h, i * 2, none⟩ (.int .i64 g)).setCell ⟨h, i * 2 + 1, none⟩ (.int .i64 s)) b h (r.put i g s) := by
  obtain ⟨cs, h1, h2⟩ := H.row
  have b0 := at_lt H.top
  refine ⟨at_set_other (at_set_other H.top H.ne _) H.ne _, ⟨_, at_set (at_set h1 _ _) _ _, fun j hj => ?_⟩, H.ne, H.ok.put i g0 g1 s0 s1⟩
  obtain ⟨k1, k2⟩ := h2 j hj
  obtain ⟨m1, m2⟩ := h2 i hi
  have z1 : i * 2 < cs.size := (Array.getElem?_eq_some_iff.1 m1).1
  have z2 : i * 2 + 1 < cs.size := (Array.getElem?_eq_some_iff.1 m2).1
  have n1 : ¬ i * 2 + 1 = j * 2 := by omega
  have n2 : ¬ i * 2 = j * 2 + 1 := by omega
  simp only [Rg.put]
  by_cases e : j = i
  · subst e
    rw [if_pos rfl, if_pos rfl]
    constructor
    · rw [Array.getElem?_setIfInBounds, if_neg n1, Array.getElem?_setIfInBounds, if_pos rfl, if_pos z1]
    · rw [Array.getElem?_setIfInBounds, if_pos rfl, if_pos (by simpa using z2)]
  · have n3 : ¬ i * 2 = j * 2 := by omega
    have n4 : ¬ i * 2 + 1 = j * 2 + 1 := by omega
    rw [if_neg e, if_neg e]
    constructor
    · rw [Array.getElem?_setIfInBounds, if_neg n1, Array.getElem?_setIfInBounds, if_neg n3]; exact k1
    · rw [Array.getElem?_setIfInBounds, if_neg n4, Array.getElem?_setIfInBounds, if_neg n2]; exact k2

theorem within_in (x lo hi : Int) (h0 : lo ≤ x) (h1 : x ≤ hi) (w : World) :
    Calls Tryz.prog 219 #[.int .i64 x, .int .i64 lo, .int .i64 hi] w fun e w' => e = .returned (.bool true) ∧ w = w' := by
  go_enter Tryz.func219, Tryz.ntmps219
  go_wp2
  go_ret
  exact ⟨rfl, rfl⟩
theorem within_out (x lo hi : Int) (h : x < lo ∨ hi < x) (w : World) :
    Calls Tryz.prog 219 #[.int .i64 x, .int .i64 lo, .int .i64 hi] w fun e w' => e = .returned (.bool false) ∧ w = w' := by
  by_cases h0 : lo ≤ x
  · have hd : decide (x ≤ hi) = false := by simp; omega
    go_enter Tryz.func219, Tryz.ntmps219
    go_wp2
    go_ret
    exact ⟨rfl, rfl⟩
  · go_enter Tryz.func219, Tryz.ntmps219
    go_wp2
    go_ret
    exact ⟨rfl, rfl⟩
theorem within64_in (x lo hi : Int) (h0 : lo ≤ x) (h1 : x ≤ hi) (w : World) :
    Calls Tryz.prog 324 #[.int .i64 x, .int .i64 lo, .int .i64 hi] w fun e w' => e = .returned (.bool true) ∧ w = w' := by
  go_enter Tryz.func324, Tryz.ntmps324
  go_wp2
  go_ret
  exact ⟨rfl, rfl⟩
theorem within64_out (x lo hi : Int) (h : x < lo ∨ hi < x) (w : World) :
    Calls Tryz.prog 324 #[.int .i64 x, .int .i64 lo, .int .i64 hi] w fun e w' => e = .returned (.bool false) ∧ w = w' := by
  by_cases h0 : lo ≤ x
  · have hd : decide (x ≤ hi) = false := by simp; omega
    go_enter Tryz.func324, Tryz.ntmps324
    go_wp2
    go_ret
    exact ⟨rfl, rfl⟩
  · go_enter Tryz.func324, Tryz.ntmps324
    go_wp2
    go_ret
    exact ⟨rfl, rfl⟩

/-- sync/atomic's Int64 -/
theorem has_at (a : Addr) (ha : a.spot = none) (x : Int) (w : World) (hc : w.cell? a = some (.int .i64 x)) :
    Calls Tryz.prog 279 #[.pointer (some a)] w fun e w' => e = .returned (.int .i64 x) ∧ w = w' := by
  obtain ⟨b, i, s⟩ := a
  obtain rfl : s = none := ha
  go_enter Tryz.func279, Tryz.ntmps279
  go_wp2_with fail
  refine (load_i64 _ x _ hc).mono ?_
  rintro e w' ⟨rfl, rfl⟩
  go_wp2_with fail
  go_ret
  exact ⟨rfl, rfl⟩

theorem find_out {b h : Nat} {r : Rg} (x : Int) (w : World) (H : RgAt w b h r) (hx : x < 0 ∨ (r.n : Int) ≤ x) :
    Calls Tryz.prog 278 #[.pointer (some ⟨b, 0, none⟩), .int .i64 x] w fun e w' => e = .returned (.tuple #[.pointer none, .int .i64 3]) ∧ w = w' := by
  obtain ⟨c0, c1, c2⟩ := H.tops
  have n1 := H.ok.n1
  have n2 := H.ok.n2
  clear H
  generalize r.n = n at *
  go_enter Tryz.func278, Tryz.ntmps278
  go_wp2_with fail
  refine (within_out x 0 _ (by omega) _).mono ?_
  rintro e w' ⟨rfl, rfl⟩
  go_wp2_with fail
  go_ret2
  exact ⟨rfl, rfl⟩
theorem find_in {b h : Nat} {r : Rg} (i : Nat) (w : World) (H : RgAt w b h r) (hi : i < r.n) :
    Calls Tryz.prog 278 #[.pointer (some ⟨b, 0, none⟩), .int .i64 (i : Int)] w fun e w' => e = .returned (.tuple #[.pointer (some ⟨h, i * 2, none⟩), .int .i64 0]) ∧ w = w' := by
  obtain ⟨c0, c1, c2⟩ := H.tops
  have n1 := H.ok.n1
  have n2 := H.ok.n2
  clear H
  generalize r.n = n at *
  go_enter Tryz.func278, Tryz.ntmps278
  go_wp2_with fail
  refine (within_in (i : Int) 0 _ (by omega) (by omega) _).mono ?_
  rintro e w' ⟨rfl, rfl⟩
  go_wp2_with fail
  go_ret2
  exact ⟨rfl, rfl⟩
end Go.Proofs.YtecggbndlbkhdaaGreat
end
section
namespace Go.Proofs.YtecggbndlbkhdaaGreat
set_option maxRecDepth 100000

end Go.Proofs.YtecggbndlbkhdaaGreat
end
section
set_option linter.unusedSimpArgs false
namespace Go.Proofs.YtecggbndlbkhdaaGreat
set_option maxRecDepth 100000
open Go.RowKit

end Go.Proofs.YtecggbndlbkhdaaGreat
end
section
set_option linter.unusedSimpArgs false
namespace Go.Proofs.YtecggbndlbkhdaaGreat
set_option maxRecDepth 100000
open Go.RowKit

/-- the function's own blocks -/
structure Fx (w0 : World) (R N x : Nat) (ns : List Int) (c : Conf) (w : World) : Prop where
  hR : w.heap[R]? = some (.cells zeroC.cells 27)
  hN : w.heap[N]? = some (.cells (ns.map (Value.int .i64)).toArray 117)
  hx : w.heap[x]? = some (.cells c.cells 27)
  g : w0.grownBy w none
theorem cgb_setRow {w w1 : World} {r : Option Nat} {b : Nat} (h : w.grownBy w1 r) (hb : w.heap.size ≤ b) (cs : Array Value) : w.grownBy (w1.setRow b cs) r :=
  ⟨h.os, h.tape, h.output, by simpa [World.setRow] using h.size, fun k hk hr => by
    rw [at_setRow_other rfl (show k ≠ b by omega)]; exact h.block k hk hr⟩
theorem tmod_in (z m : Int) (hz : 0 ≤ z) (hm : 0 < m) : 0 ≤ z.tmod m ∧ z.tmod m < m := by
  rw [Int.tmod_eq_emod_of_nonneg hz]
  exact ⟨Int.emod_nonneg _ (by omega), Int.emod_lt_of_pos _ hm⟩
theorem tdiv_in (z m : Int) (hz : 0 ≤ z) (hm : 0 < m) : 0 ≤ z.tdiv m ∧ z.tdiv m ≤ z := by
  rw [Int.tdiv_eq_ediv_of_nonneg hz]
  exact ⟨Int.ediv_nonneg hz (by omega), Int.ediv_le_self _ hz⟩
def Okn (ns : List Int) : Prop := ns.length = 20 ∧ ∀ z ∈ ns, 0 ≤ z ∧ z < 100000
theorem okn_twenty {ns : List Int} (h : Okn ns) : ∃ n0 n1 n2 n3 n4 n5 n6 n7 n8 n9 n10 n11 n12 n13 n14 n15 n16 n17 n18 n19 : Int, ns = [n0, n1, n2, n3, n4, n5, n6, n7, n8, n9, n10, n11, n12, n13, n14, n15, n16, n17, n18, n19] ∧ (0 ≤ n0 ∧ n0 < 100000) ∧ (0 ≤ n1 ∧ n1 < 100000) ∧ (0 ≤ n2 ∧ n2 < 100000) ∧ (0 ≤ n3 ∧ n3 < 100000) ∧ (0 ≤ n4 ∧ n4 < 100000) ∧ (0 ≤ n5 ∧ n5 < 100000) ∧ (0 ≤ n6 ∧ n6 < 100000) ∧ (0 ≤ n7 ∧ n7 < 100000) ∧ (0 ≤ n8 ∧ n8 < 100000) ∧ (0 ≤ n9 ∧ n9 < 100000) ∧ (0 ≤ n10 ∧ n10 < 100000) ∧ (0 ≤ n11 ∧ n11 < 100000) ∧ (0 ≤ n12 ∧ n12 < 100000) ∧ (0 ≤ n13 ∧ n13 < 100000) ∧ (0 ≤ n14 ∧ n14 < 100000) ∧ (0 ≤ n15 ∧ n15 < 100000) ∧ (0 ≤ n16 ∧ n16 < 100000) ∧ (0 ≤ n17 ∧ n17 < 100000) ∧ (0 ≤ n18 ∧ n18 < 100000) ∧ (0 ≤ n19 ∧ n19 < 100000) := by
  obtain ⟨h1, h2⟩ := h
  match ns, h1 with
  | [n0, n1, n2, n3, n4, n5, n6, n7, n8, n9, n10, n11, n12, n13, n14, n15, n16, n17, n18, n19], _ => exact ⟨n0, n1, n2, n3, n4, n5, n6, n7, n8, n9, n10, n11, n12, n13, n14, n15, n16, n17, n18, n19, rfl, h2 _ (by simp), h2 _ (by simp), h2 _ (by simp), h2 _ (by simp), h2 _ (by simp), h2 _ (by simp), h2 _ (by simp), h2 _ (by simp), h2 _ (by simp), h2 _ (by simp), h2 _ (by simp), h2 _ (by simp), h2 _ (by simp), h2 _ (by simp), h2 _ (by simp), h2 _ (by simp), h2 _ (by simp), h2 _ (by simp), h2 _ (by simp), h2 _ (by simp)⟩
/-- what a made configuration keeps -/
structure Fine (c : Conf) : Prop where
  f : 0 ≤ c.f ∧ c.f ≤ 2
  n : 3 * c.f + 1 ≤ c.n ∧ c.n ≤ 3 * c.f + 4
  m : c.m = 1 ∧ c.t1 = 0 ∨ c.m = 2 ∧ 1 ≤ c.t1 ∧ c.t1 ≤ 2000
  quorum : 2 * c.f + 1 ≤ c.quorum ∧ c.quorum ≤ c.n
  fresh : 1 ≤ c.fresh ∧ c.fresh ≤ 3
  grace : 1 ≤ c.grace ∧ c.grace ≤ 3
  window : 1 ≤ c.window ∧ c.window ≤ 64
  t0 : 1 ≤ c.t0 ∧ c.t0 ≤ 2000
  t2 : c.t2 = 0
  t3 : c.t3 = 0
  tol : 0 ≤ c.tol ∧ c.tol ≤ 299
  min : 1 ≤ c.min ∧ c.min ≤ 5
  max : c.min ≤ c.max ∧ c.max ≤ c.min + 99
  calmup : 0 ≤ c.calmup ∧ c.calmup ≤ 3
  calmdown : 0 ≤ c.calmdown ∧ c.calmdown ≤ 4
  podsup : 1 ≤ c.podsup ∧ c.podsup ≤ 5
  pctup : 1 ≤ c.pctup ∧ c.pctup ≤ 150
  podsdown : 1 ≤ c.podsdown ∧ c.podsdown ≤ 5
  pctdown : 1 ≤ c.pctdown ∧ c.pctdown ≤ 100
  period : 1 ≤ c.period ∧ c.period ≤ 4
  far : 0 ≤ c.far ∧ c.far ≤ 499
  strikes : 1 ≤ c.strikes ∧ c.strikes ≤ 3
  probe : 1 ≤ c.probe ∧ c.probe ≤ 4
  sectors : 64 ≤ c.sectors ∧ c.sectors ≤ 363
  seed : 0 ≤ c.seed ∧ c.seed < 100000
theorem fine_dflt : Fine dflt := by constructor <;> decide

set_option maxHeartbeats 12800000 in
theorem fit_any (l : List Int) (p : Option Addr) (cap : Nat) (w : World) (hl : IntsAt w (.slice p l.length cap) l) :
    Calls Tryz.prog 15 #[.slice p l.length cap] w fun e w' => ∃ c : Conf, e = .returned (cf c) ∧ Fine c ∧ w.grownBy w' none := by
  have HL := hid hl; clear hl
  go_enter Tryz.func15, Tryz.ntmps15
  go_wp2_with fail
  refine (refdefault_any _).mono ?_
  rintro e w1 ⟨rfl, hg⟩
  have hR1 : w1.heap[w.heap.size]? = some (.cells zeroC.cells 27) := at_grown (at_new w _) hg (by simp)
  have hRx : w.heap.size < w1.heap.size := at_lt hR1
  have G1 := hid (gb_trans (gb_alloc (.refl w none) _) hg (.inl rfl)); clear hg
  have HR := hid hR1; clear hR1
  go_upto_block 0 with (first | refine wpList_store_new (w := w1) (cs := dflt.cells) rfl (by kernel_rfl) (by kernel_rfl) (by kernel_rfl) rfl rfl rfl rfl rfl ?_)
  have F0 := hid (show Fx w w.heap.size (w1.heap.size + 1) w1.heap.size (List.replicate 20 0) dflt ((w1.alloc (.cells dflt.cells 27)).alloc (.cells ((List.replicate 20 (0 : Int)).map (Value.int .i64)).toArray 117)) from
    ⟨at_alloc (at_alloc HR.out _) _, by rw [← size_new w1 (.cells dflt.cells 27)]; exact at_new _ _, at_alloc (at_new w1 _) _, gb_alloc (gb_alloc G1.out _) _⟩)
  have hLx : w.heap.size ≤ w1.heap.size := by omega
  have hNx : w1.heap.size + 1 ≠ w1.heap.size := by omega
  have hRN : w.heap.size ≠ w1.heap.size + 1 := by omega
  have hLN : w.heap.size ≤ w1.heap.size + 1 := by omega
  have hRx' : w.heap.size ≠ w1.heap.size := by omega
  refine wp_gen (Fx w w.heap.size (w1.heap.size + 1) w1.heap.size (List.replicate 20 0) dflt) F0.out ?_
  clear F0 HR G1 hRx
  generalize w1.heap.size + 1 = N at hNx hRN hLN ⊢
  generalize w1.heap.size = x at hLx hNx hRx' ⊢
  obtain ⟨R, hR⟩ : ∃ R, R = w.heap.size := ⟨_, rfl⟩
  have hLR : w.heap.size ≤ R := by omega
  rw [← hR] at hRN hRx' ⊢
  clear hR
  intro w2 h2
  have F2 := hid h2; clear h2
  go_cut [5] from 8 to 26 (fun i wx => ∃ ns, i = i ∧ Okn ns ∧ Fx w R N x ns dflt wx)
  case first =>
    go_wp2_with fail
    go_loopw [5] (fun i wr => ∃ (k : Nat) (ns : List Int), k ≤ 20 ∧ i = .int .i64 (k : Int) ∧ Okn ns ∧ Fx w R N x ns dflt wr) (fun i _ => 20 - (intOf i).toNat)
    case atStart => exact ⟨0, _, by omega, rfl, ⟨by simp, by intro z hz; have := List.eq_of_mem_replicate hz; omega⟩, F2.out⟩
    case round =>
      obtain ⟨k, ns, hk, rfl, ho, hF⟩ := hrel
      by_cases h1 : k < l.length
      · by_cases h2 : k < 20
        · obtain ⟨ab, ao, cap', hv, hcell⟩ := (HL.out.grown hF.g).cells (by omega)
          obtain ⟨rfl, _, rfl⟩ : p = some ⟨ab, ao, none⟩ ∧ l.length = l.length ∧ cap = cap' := by simpa using hv
          have hc := hcell k h1
          have h1' : (k : Int) < (l.length : Int) := by omega
          have h2' : (k : Int) < 20 := by omega
          have h0' : (0 : Int) ≤ (k : Int) := by omega
          have hlen : k < ns.length := by rw [ho.1]; exact h2
          have hcn : wr.cell? ⟨N, k, none⟩ = some (.int .i64 ns[k]) := by rw [at_cell hF.hN k]; simp [List.getElem?_eq_getElem hlen]
          have hfn : wr.frozen? ⟨N, k, none⟩ = false := at_free hF.hN k
          have HF := hid hF; have HO := hid ho; have HM := hid (mod_small l[k] (m := 100000) (by omega) (by omega))
          clear hF ho hv hcell F2
          generalize l[k] = z at hc HM
          generalize ns[k] = z' at hcn
          generalize l.length = len at h1' ⊢
          clear h1 HL
          go_wp2_with fail
          go_roundw
          case rel => exact ⟨k + 1, ns.set k (wrap64 ((IntKind.u64.wrap z).tmod 100000)), by omega, by go_num, ⟨by rw [List.length_set]; exact HO.out.1, fun y hy => by
              rcases List.mem_or_eq_of_mem_set hy with h | h
              · exact HO.out.2 y h
              · rw [h]; exact HM.out⟩, ⟨at_set_other HF.out.hR hRN _, by
                have := at_set HF.out.hN k (.int .i64 (wrap64 ((IntKind.u64.wrap z).tmod 100000)))
                rw [this]
                simp [List.map_set], at_set_other HF.out.hx (Ne.symm hNx) _, gb_new HF.out.g hLN _⟩⟩
          case measure => simp [intOf]; omega
        · have h1' : (k : Int) < (l.length : Int) := by omega
          have h2' : ¬ (k : Int) < 20 := by omega
          have HF := hid hF; have HO := hid ho
          clear hF ho F2
          go_wp2_with fail
          go_meet
          exact ⟨_, trivial, HO.out, HF.out⟩
      · have h1' : ¬ (k : Int) < (l.length : Int) := by omega
        have HF := hid hF; have HO := hid ho
        clear hF ho F2
        go_wp2_with fail
        go_meet
        exact ⟨_, trivial, HO.out, HF.out⟩
  case rest =>
  obtain ⟨ns, _, ho, hF⟩ := hcut
  have HO := hid ho; have HF := hid hF; clear ho hF F2
  by_cases hl0 : l.length = 0
  · have hl0' : (l.length : Int) = 0 := by omega
    have hfR : wc.heap[R]? = some (.cells zeroC.cells 27) := HF.out.hR
    go_wp2_with (first | refine wpList_conf HF.out.hx rfl rfl rfl rfl ?_ | refine wpList_store_row (cs := dflt.cells) hfR (by kernel_rfl) (by kernel_rfl) (by kernel_rfl) rfl rfl rfl rfl rfl ?_)
    refine bodyPost_ret (v := cf dflt) ?_ rfl ⟨dflt, rfl, fine_dflt, cgb_setRow HF.out.g hLR _⟩
    exact results_cell_row rfl _ _ R 27 dflt.cells (0, 0) _ rfl (at_setRow HF.out.hR) Tryz.underlying27 rfl (by kernel_rfl)
  have hl0' : ¬ (l.length : Int) = 0 := by omega
  obtain ⟨n0, n1, n2, n3, n4, n5, n6, n7, n8, n9, n10, n11, n12, n13, n14, n15, n16, n17, n18, n19, rfl, b0, b1, b2, b3, b4, b5, b6, b7, b8, b9, b10, b11, b12, b13, b14, b15, b16, b17, b18, b19⟩ := okn_twenty HO.out
  clear HO HL
  have T := hid HF.out; clear HF
  go_upto_region 7 with fail
  refine wp_gen (Fx w R N x [n0, n1, n2, n3, n4, n5, n6, n7, n8, n9, n10, n11, n12, n13, n14, n15, n16, n17, n18, n19] dflt) T.out ?_
  clear T
  intro y8 g8
  have H8 := hid g8; clear g8
  go_upto_region 9 with fail
  have q0 : y8.cell? ⟨N, 0, none⟩ = some (.int .i64 n0) := at_cell H8.out.hN 0
  have z1 : y8.cell? ⟨x, 1, none⟩ = some (.int .i64 (1)) := at_cell H8.out.hx 1
  have fz : ∀ i, y8.frozen? ⟨x, i, none⟩ = false := fun i => at_free H8.out.hx i
  go_upto_region 10 with fail
  refine wp_gen (fun w' => ∃ v1 : Int, (0 ≤ v1 ∧ v1 ≤ 2) ∧ Fx w R N x [n0, n1, n2, n3, n4, n5, n6, n7, n8, n9, n10, n11, n12, n13, n14, n15, n16, n17, n18, n19] (⟨4, v1, 1, 3, 2, 2, 32, 1000, 0, 0, 0, 100, 1, 100, 0, 3, 4, 100, 4, 50, 2, 100, 3, 4, 256, 1⟩ : Conf) w') ?_ ?_
  · exact ⟨n0 % 3, (by first | omega | (unfold wrap64; omega)), (at_set_other (p := ⟨x, 1, none⟩) H8.out.hR hRx' _), (at_set_other (p := ⟨x, 1, none⟩) H8.out.hN hNx _), (at_set H8.out.hx 1 _), (gb_new H8.out.g (p := ⟨x, 1, none⟩) hLx _)⟩
  rintro y9 ⟨v1, hb1, hg⟩
  have H9 := hid hg; clear hg fz q0 z1
  have q1 : y9.cell? ⟨N, 1, none⟩ = some (.int .i64 n1) := at_cell H9.out.hN 1
  have z1 : y9.cell? ⟨x, 1, none⟩ = some (.int .i64 (v1)) := at_cell H9.out.hx 1
  have z0 : y9.cell? ⟨x, 0, none⟩ = some (.int .i64 (4)) := at_cell H9.out.hx 0
  have fz : ∀ i, y9.frozen? ⟨x, i, none⟩ = false := fun i => at_free H9.out.hx i
  go_upto_region 11 with fail
  refine wp_gen (fun w' => ∃ v0 : Int, (3 * v1 + 1 ≤ v0 ∧ v0 ≤ 3 * v1 + 4) ∧ Fx w R N x [n0, n1, n2, n3, n4, n5, n6, n7, n8, n9, n10, n11, n12, n13, n14, n15, n16, n17, n18, n19] (⟨v0, v1, 1, 3, 2, 2, 32, 1000, 0, 0, 0, 100, 1, 100, 0, 3, 4, 100, 4, 50, 2, 100, 3, 4, 256, 1⟩ : Conf) w') ?_ ?_
  · exact ⟨3 * v1 + 1 + n1 % 4, (by first | omega | (unfold wrap64; omega)), (at_set_other (p := ⟨x, 0, none⟩) H9.out.hR hRx' _), (at_set_other (p := ⟨x, 0, none⟩) H9.out.hN hNx _), (at_set H9.out.hx 0 _), (gb_new H9.out.g (p := ⟨x, 0, none⟩) hLx _)⟩
  rintro y10 ⟨v0, hb0, hg⟩
  have H10 := hid hg; clear hg fz q1 z1 z0
  have q2 : y10.cell? ⟨N, 2, none⟩ = some (.int .i64 n2) := at_cell H10.out.hN 2
  have z2 : y10.cell? ⟨x, 2, none⟩ = some (.int .i64 (1)) := at_cell H10.out.hx 2
  have fz : ∀ i, y10.frozen? ⟨x, i, none⟩ = false := fun i => at_free H10.out.hx i
  go_upto_region 12 with fail
  refine wp_gen (fun w' => ∃ v2 : Int, (1 ≤ v2 ∧ v2 ≤ 2) ∧ Fx w R N x [n0, n1, n2, n3, n4, n5, n6, n7, n8, n9, n10, n11, n12, n13, n14, n15, n16, n17, n18, n19] (⟨v0, v1, v2, 3, 2, 2, 32, 1000, 0, 0, 0, 100, 1, 100, 0, 3, 4, 100, 4, 50, 2, 100, 3, 4, 256, 1⟩ : Conf) w') ?_ ?_
  · exact ⟨1 + n2 % 2, (by first | omega | (unfold wrap64; omega)), (at_set_other (p := ⟨x, 2, none⟩) H10.out.hR hRx' _), (at_set_other (p := ⟨x, 2, none⟩) H10.out.hN hNx _), (at_set H10.out.hx 2 _), (gb_new H10.out.g (p := ⟨x, 2, none⟩) hLx _)⟩
  rintro y11 ⟨v2, hb2, hg⟩
  have H11 := hid hg; clear hg fz q2 z2
  have nz : ¬ v0 - 2 * v1 = 0 := by omega
  have tm0 := tmod_in n3 (v0 - 2 * v1) (by omega) (by omega)
  have e1 : IntKind.i64.wrap (2 * v1) = 2 * v1 := (IntWalk.i64_left _).trans (wrap_small (by omega) (by omega))
  have e2 : IntKind.i64.wrap (v0 - 2 * v1) = v0 - 2 * v1 := (IntWalk.i64_left _).trans (wrap_small (by omega) (by omega))
  have e3 : IntKind.i64.wrap (2 * v1 + 1) = 2 * v1 + 1 := (IntWalk.i64_left _).trans (wrap_small (by omega) (by omega))
  have e4 : IntKind.i64.wrap (2 * v1 + 1 + n3.tmod (v0 - 2 * v1)) = 2 * v1 + 1 + n3.tmod (v0 - 2 * v1) := (IntWalk.i64_left _).trans (wrap_small (by omega) (by omega))
  have q3 : y11.cell? ⟨N, 3, none⟩ = some (.int .i64 n3) := at_cell H11.out.hN 3
  have z1 : y11.cell? ⟨x, 1, none⟩ = some (.int .i64 (v1)) := at_cell H11.out.hx 1
  have z0 : y11.cell? ⟨x, 0, none⟩ = some (.int .i64 (v0)) := at_cell H11.out.hx 0
  have z3 : y11.cell? ⟨x, 3, none⟩ = some (.int .i64 (3)) := at_cell H11.out.hx 3
  have fz : ∀ i, y11.frozen? ⟨x, i, none⟩ = false := fun i => at_free H11.out.hx i
  refine wp_region_held_drew (S := (fun w' => w'.heap[N]? = some (.cells ([n0, n1, n2, n3, n4, n5, n6, n7, n8, n9, n10, n11, n12, n13, n14, n15, n16, n17, n18, n19].map (Value.int .i64)).toArray 117) ∧ w'.cell? ⟨x, 1, none⟩ = some (.int .i64 (v1)) ∧ w'.cell? ⟨x, 0, none⟩ = some (.int .i64 (v0)))) (by kernel_rfl) ⟨(at_drew H11.out.hN), z1, z0⟩ (fun hHeld => ?_)
  try dsimp only at hHeld
  refine jU 0 hHeld ?_
  try simp only [jX, jD, jE, jF]
  refine' jT 1 rfl (by rfl) ?_ hHeld ?_
  rotate_left
  · (intro w hSw; (try dsimp only at hSw); have q3 : w.cell? ⟨N, 3, none⟩ = some (.int .i64 n3) := at_cell hSw.1 3; have zz0 := hSw.2.1; have zz1 := hSw.2.2; go_simp; try with_reducible rfl)
  try simp only [jX, jD, jE, jF]
  refine jU 2 hHeld ?_
  try simp only [jX, jD, jE, jF]
  refine jU 3 hHeld ?_
  try simp only [jX, jD, jE, jF]
  refine jU 4 hHeld ?_
  try simp only [jX, jD, jE, jF]
  refine' jT 5 rfl (by rfl) ?_ hHeld ?_
  rotate_left
  · (intro w hSw; (try dsimp only at hSw); have q3 : w.cell? ⟨N, 3, none⟩ = some (.int .i64 n3) := at_cell hSw.1 3; have zz0 := hSw.2.1; have zz1 := hSw.2.2; go_simp; try with_reducible rfl)
  try simp only [jX, jD, jE, jF]
  refine jU 6 hHeld ?_
  try simp only [jX, jD, jE, jF]
  refine' jT 7 rfl (by rfl) ?_ hHeld ?_
  rotate_left
  · (intro w hSw; (try dsimp only at hSw); have q3 : w.cell? ⟨N, 3, none⟩ = some (.int .i64 n3) := at_cell hSw.1 3; have zz0 := hSw.2.1; have zz1 := hSw.2.2; go_simp; try with_reducible rfl)
  try simp only [jX, jD, jE, jF]
  refine jU 8 hHeld ?_
  try simp only [jX, jD, jE, jF]
  refine' jT 9 rfl (by rfl) ?_ hHeld ?_
  rotate_left
  · (intro w hSw; (try dsimp only at hSw); have q3 : w.cell? ⟨N, 3, none⟩ = some (.int .i64 n3) := at_cell hSw.1 3; have zz0 := hSw.2.1; have zz1 := hSw.2.2; go_simp; try with_reducible rfl)
  try simp only [jX, jD, jE, jF]
  refine jU 10 hHeld ?_
  try simp only [jX, jD, jE, jF]
  refine jU 11 hHeld ?_
  try simp only [jX, jD, jE, jF]
  refine jU 12 hHeld ?_
  try simp only [jX, jD, jE, jF]
  refine jU 13 hHeld ?_
  try simp only [jX, jD, jE, jF]
  refine jU 14 hHeld ?_
  try simp only [jX, jD, jE, jF]
  refine jR [15] ?_
  refine jG rfl (fun K hK => ?_) AllReadyH.nil
  try simp only [jD, jE, jF]
  go_simp
  refine hK.out _ _ (⟨at_set_other (hHeld.1) hNx _, by go_simp, by go_simp⟩) (fun hHeld => ?_)
  clear hK K
  try dsimp only at hHeld
  try simp only [jX, jD, jE, jF]
  refine wpAnyH_done (by kernel_rfl) ?_ _
  clear hHeld
  go_upto_region 13 with fail
  refine wp_gen (fun w' => ∃ v3 : Int, (2 * v1 + 1 ≤ v3 ∧ v3 ≤ v0) ∧ Fx w R N x [n0, n1, n2, n3, n4, n5, n6, n7, n8, n9, n10, n11, n12, n13, n14, n15, n16, n17, n18, n19] (⟨v0, v1, v2, v3, 2, 2, 32, 1000, 0, 0, 0, 100, 1, 100, 0, 3, 4, 100, 4, 50, 2, 100, 3, 4, 256, 1⟩ : Conf) w') ?_ ?_
  · exact ⟨2 * v1 + 1 + n3.tmod (v0 - 2 * v1), (by first | omega | (unfold wrap64; omega)), (at_drew (at_set_other (p := ⟨x, 3, none⟩) H11.out.hR hRx' _)), (at_drew (at_set_other (p := ⟨x, 3, none⟩) H11.out.hN hNx _)), (at_drew (at_set H11.out.hx 3 _)), (gb_drew (gb_new H11.out.g (p := ⟨x, 3, none⟩) hLx _))⟩
  rintro y12 ⟨v3, hb3, hg⟩
  have H12 := hid hg; clear hg fz q3 z1 z0 z3 e1 e2 e3 e4 nz tm0
  have tm0 := tmod_in n4 3 (by omega) (by omega)
  have tm1 := tmod_in n5 3 (by omega) (by omega)
  have tm2 := tmod_in n6 64 (by omega) (by omega)
  have e1 : IntKind.i64.wrap (1 + n4.tmod 3) = 1 + n4.tmod 3 := (IntWalk.i64_left _).trans (wrap_small (by omega) (by omega))
  have e2 : IntKind.i64.wrap (1 + n5.tmod 3) = 1 + n5.tmod 3 := (IntWalk.i64_left _).trans (wrap_small (by omega) (by omega))
  have e3 : IntKind.i64.wrap (1 + n6.tmod 64) = 1 + n6.tmod 64 := (IntWalk.i64_left _).trans (wrap_small (by omega) (by omega))
  have q4 : y12.cell? ⟨N, 4, none⟩ = some (.int .i64 n4) := at_cell H12.out.hN 4
  have q5 : y12.cell? ⟨N, 5, none⟩ = some (.int .i64 n5) := at_cell H12.out.hN 5
  have q6 : y12.cell? ⟨N, 6, none⟩ = some (.int .i64 n6) := at_cell H12.out.hN 6
  have z4 : y12.cell? ⟨x, 4, none⟩ = some (.int .i64 (2)) := at_cell H12.out.hx 4
  have z5 : y12.cell? ⟨x, 5, none⟩ = some (.int .i64 (2)) := at_cell H12.out.hx 5
  have z6 : y12.cell? ⟨x, 6, none⟩ = some (.int .i64 (32)) := at_cell H12.out.hx 6
  have fz : ∀ i, y12.frozen? ⟨x, i, none⟩ = false := fun i => at_free H12.out.hx i
  go_cut [] from 64 to 78 (fun wx => ∃ v4 v5 v6 : Int, (1 ≤ v4 ∧ v4 ≤ 3) ∧ (1 ≤ v5 ∧ v5 ≤ 3) ∧ (1 ≤ v6 ∧ v6 ≤ 64) ∧ Fx w R N x [n0, n1, n2, n3, n4, n5, n6, n7, n8, n9, n10, n11, n12, n13, n14, n15, n16, n17, n18, n19] (⟨v0, v1, v2, v3, v4, v5, v6, 1000, 0, 0, 0, 100, 1, 100, 0, 3, 4, 100, 4, 50, 2, 100, 3, 4, 256, 1⟩ : Conf) wx)
  case first =>
    go_region_held3 (fun w' => w'.cell? ⟨N, 4, none⟩ = some (.int .i64 n4) ∧ w'.cell? ⟨N, 5, none⟩ = some (.int .i64 n5) ∧ w'.cell? ⟨N, 6, none⟩ = some (.int .i64 n6)) ((refine ⟨?_, ?_, ?_⟩ <;> go_simp)) (fail)
    all_goals (
      go_wp2_with fail
      go_meet
      exact ⟨1 + n4.tmod 3, 1 + n5.tmod 3, 1 + n6.tmod 64, (by first | omega | (unfold wrap64; omega)), (by first | omega | (unfold wrap64; omega)), (by first | omega | (unfold wrap64; omega)), (at_drew (at_set_other (p := ⟨x, 6, none⟩) (at_set_other (p := ⟨x, 5, none⟩) (at_set_other (p := ⟨x, 4, none⟩) H12.out.hR hRx' _) hRx' _) hRx' _)), (at_drew (at_set_other (p := ⟨x, 6, none⟩) (at_set_other (p := ⟨x, 5, none⟩) (at_set_other (p := ⟨x, 4, none⟩) H12.out.hN hNx _) hNx _) hNx _)), (at_drew (at_set (at_set (at_set H12.out.hx 4 _) 5 _) 6 _)), (gb_drew (gb_new (gb_new (gb_new H12.out.g (p := ⟨x, 4, none⟩) hLx _) (p := ⟨x, 5, none⟩) hLx _) (p := ⟨x, 6, none⟩) hLx _))⟩)
  case rest =>
  obtain ⟨v4, v5, v6, hb4, hb5, hb6, hg⟩ := hcut
  go_upto_region 14 with fail
  have T := hid hg; clear hg fz q4 q5 q6 z4 z5 z6 tm0 tm1 tm2 e1 e2 e3
  refine wp_gen (Fx w R N x [n0, n1, n2, n3, n4, n5, n6, n7, n8, n9, n10, n11, n12, n13, n14, n15, n16, n17, n18, n19] (⟨v0, v1, v2, v3, v4, v5, v6, 1000, 0, 0, 0, 100, 1, 100, 0, 3, 4, 100, 4, 50, 2, 100, 3, 4, 256, 1⟩ : Conf)) T.out ?_
  clear T
  intro y13 hg
  have H13 := hid hg; clear hg H12
  have z8 : y13.cell? ⟨x, 8, none⟩ = some (.int .i64 (0)) := at_cell H13.out.hx 8
  have fz : ∀ i, y13.frozen? ⟨x, i, none⟩ = false := fun i => at_free H13.out.hx i
  go_upto_block 2 with fail
  refine wp_gen (fun w' => ∃ v8 : Int, (v8 = 0) ∧ Fx w R N x [n0, n1, n2, n3, n4, n5, n6, n7, n8, n9, n10, n11, n12, n13, n14, n15, n16, n17, n18, n19] (⟨v0, v1, v2, v3, v4, v5, v6, 1000, v8, 0, 0, 100, 1, 100, 0, 3, 4, 100, 4, 50, 2, 100, 3, 4, 256, 1⟩ : Conf) w') ?_ ?_
  · exact ⟨0, (by first | omega | (unfold wrap64; omega)), (at_set_other (p := ⟨x, 8, none⟩) H13.out.hR hRx' _), (at_set_other (p := ⟨x, 8, none⟩) H13.out.hN hNx _), (at_set H13.out.hx 8 _), (gb_new H13.out.g (p := ⟨x, 8, none⟩) hLx _)⟩
  rintro y14 ⟨v8, hb8, hg⟩
  have H14 := hid hg; clear hg fz  z8
  subst hb8
  go_cut [6] from 81 to 95 (fun i wx => ∃ v7 v8 : Int, i = i ∧ (1 ≤ v7 ∧ v7 ≤ 2000) ∧ (v2 = 1 ∧ v8 = 0 ∨ v2 = 2 ∧ 1 ≤ v8 ∧ v8 ≤ 2000) ∧ Fx w R N x [n0, n1, n2, n3, n4, n5, n6, n7, n8, n9, n10, n11, n12, n13, n14, n15, n16, n17, n18, n19] (⟨v0, v1, v2, v3, v4, v5, v6, v7, v8, 0, 0, 100, 1, 100, 0, 3, 4, 100, 4, 50, 2, 100, 3, 4, 256, 1⟩ : Conf) wx)
  case first =>
    go_wp2_with fail
    go_loopw [6] (fun i wr => (i = .int .i64 0 ∧ Fx w R N x [n0, n1, n2, n3, n4, n5, n6, n7, n8, n9, n10, n11, n12, n13, n14, n15, n16, n17, n18, n19] (⟨v0, v1, v2, v3, v4, v5, v6, 1000, 0, 0, 0, 100, 1, 100, 0, 3, 4, 100, 4, 50, 2, 100, 3, 4, 256, 1⟩ : Conf) wr) ∨ (i = .int .i64 1 ∧ ∃ v7 : Int, (1 ≤ v7 ∧ v7 ≤ 2000) ∧ Fx w R N x [n0, n1, n2, n3, n4, n5, n6, n7, n8, n9, n10, n11, n12, n13, n14, n15, n16, n17, n18, n19] (⟨v0, v1, v2, v3, v4, v5, v6, v7, 0, 0, 0, 100, 1, 100, 0, 3, 4, 100, 4, 50, 2, 100, 3, 4, 256, 1⟩ : Conf) wr) ∨ (i = .int .i64 2 ∧ v2 = 2 ∧ ∃ v7 v8 : Int, (1 ≤ v7 ∧ v7 ≤ 2000) ∧ (1 ≤ v8 ∧ v8 ≤ 2000) ∧ Fx w R N x [n0, n1, n2, n3, n4, n5, n6, n7, n8, n9, n10, n11, n12, n13, n14, n15, n16, n17, n18, n19] (⟨v0, v1, v2, v3, v4, v5, v6, v7, v8, 0, 0, 100, 1, 100, 0, 3, 4, 100, 4, 50, 2, 100, 3, 4, 256, 1⟩ : Conf) wr)) (fun i _ => 2 - (intOf i).toNat)
    case atStart => exact .inl ⟨rfl, H14.out⟩
    case round =>
      rcases hrel with ⟨rfl, hF⟩ | ⟨rfl, v7, hb7, hF⟩ | ⟨rfl, hv2, v7, v8, hb7, hb8, hF⟩
      · have q7 : wr.cell? ⟨N, 7, none⟩ = some (.int .i64 n7) := at_cell hF.hN 7
        have z2 : wr.cell? ⟨x, 2, none⟩ = some (.int .i64 v2) := at_cell hF.hx 2
        have z7 : wr.cell? ⟨x, 7, none⟩ = some (.int .i64 1000) := at_cell hF.hx 7
        have fz : wr.frozen? ⟨x, 7, none⟩ = false := at_free hF.hx 7
        have h02 : 0 < v2 := by omega
        have HF := hid hF; clear hF
        go_wp2_with fail
        go_roundw
        case rel => exact .inr (.inl ⟨by first | rfl | go_num, 1 + n7 % 2000, by omega, ⟨at_set_other (p := ⟨x, 7, none⟩) HF.out.hR hRx' _, at_set_other (p := ⟨x, 7, none⟩) HF.out.hN hNx _, at_set HF.out.hx 7 (.int .i64 (1 + n7 % 2000)), gb_new HF.out.g (p := ⟨x, 7, none⟩) hLx _⟩⟩)
        case measure => simp [intOf]
      · by_cases h12 : v2 = 1
        · have z2 : wr.cell? ⟨x, 2, none⟩ = some (.int .i64 v2) := at_cell hF.hx 2
          have h02 : ¬ 1 < v2 := by omega
          have HF := hid hF; have HB := hid hb7; have H12 := hid h12; clear hF h12
          go_wp2_with fail
          go_meet
          exact ⟨v7, 0, trivial, HB.out, .inl ⟨H12.out, rfl⟩, HF.out⟩
        · have q8 : wr.cell? ⟨N, 8, none⟩ = some (.int .i64 n8) := at_cell hF.hN 8
          have z2 : wr.cell? ⟨x, 2, none⟩ = some (.int .i64 v2) := at_cell hF.hx 2
          have z8 : wr.cell? ⟨x, 8, none⟩ = some (.int .i64 0) := at_cell hF.hx 8
          have fz : wr.frozen? ⟨x, 8, none⟩ = false := at_free hF.hx 8
          have h02 : 1 < v2 := by omega
          have HF := hid hF; have HB := hid hb7; have H12 := hid (show v2 = 2 by omega); clear hF h12
          go_wp2_with fail
          go_roundw
          case rel => exact .inr (.inr ⟨by first | rfl | go_num, H12.out, v7, 1 + n8 % 2000, HB.out, by omega, ⟨at_set_other (p := ⟨x, 8, none⟩) HF.out.hR hRx' _, at_set_other (p := ⟨x, 8, none⟩) HF.out.hN hNx _, at_set HF.out.hx 8 (.int .i64 (1 + n8 % 2000)), gb_new HF.out.g (p := ⟨x, 8, none⟩) hLx _⟩⟩)
          case measure => simp [intOf]
      · have z2 : wr.cell? ⟨x, 2, none⟩ = some (.int .i64 v2) := at_cell hF.hx 2
        have h02 : ¬ 2 < v2 := by omega
        have HF := hid hF; have HB := hid hb7; have HB8 := hid hb8; have H12 := hid hv2; clear hF hv2
        go_wp2_with fail
        go_meet
        exact ⟨v7, v8, trivial, HB.out, .inr ⟨H12.out, HB8.out⟩, HF.out⟩
  case rest =>
  obtain ⟨v7, v8, _, hb7, hm8, hg⟩ := hcut
  go_upto_region 19 with fail
  have HM8 := hid hm8
  clear H14 hm8
  refine wp_gen (fun w' => Fx w R N x [n0, n1, n2, n3, n4, n5, n6, n7, n8, n9, n10, n11, n12, n13, n14, n15, n16, n17, n18, n19] (⟨v0, v1, v2, v3, v4, v5, v6, v7, v8, 0, 0, 100, 1, 100, 0, 3, 4, 100, 4, 50, 2, 100, 3, 4, 256, 1⟩ : Conf) w') hg ?_
  clear hg
  intro y15 hg
  have H15 := hid hg; clear hg
  have q9 : y15.cell? ⟨N, 9, none⟩ = some (.int .i64 n9) := at_cell H15.out.hN 9
  have z11 : y15.cell? ⟨x, 11, none⟩ = some (.int .i64 (100)) := at_cell H15.out.hx 11
  have fz : ∀ i, y15.frozen? ⟨x, i, none⟩ = false := fun i => at_free H15.out.hx i
  go_upto_region 20 with fail
  refine wp_gen (fun w' => ∃ v11 : Int, (0 ≤ v11 ∧ v11 ≤ 299) ∧ Fx w R N x [n0, n1, n2, n3, n4, n5, n6, n7, n8, n9, n10, n11, n12, n13, n14, n15, n16, n17, n18, n19] (⟨v0, v1, v2, v3, v4, v5, v6, v7, v8, 0, 0, v11, 1, 100, 0, 3, 4, 100, 4, 50, 2, 100, 3, 4, 256, 1⟩ : Conf) w') ?_ ?_
  · exact ⟨n9 % 300, (by first | omega | (unfold wrap64; omega)), (at_set_other (p := ⟨x, 11, none⟩) H15.out.hR hRx' _), (at_set_other (p := ⟨x, 11, none⟩) H15.out.hN hNx _), (at_set H15.out.hx 11 _), (gb_new H15.out.g (p := ⟨x, 11, none⟩) hLx _)⟩
  rintro y16 ⟨v11, hb11, hg⟩
  have H16 := hid hg; clear hg fz q9 z11
  have q10 : y16.cell? ⟨N, 10, none⟩ = some (.int .i64 n10) := at_cell H16.out.hN 10
  have z12 : y16.cell? ⟨x, 12, none⟩ = some (.int .i64 (1)) := at_cell H16.out.hx 12
  have fz : ∀ i, y16.frozen? ⟨x, i, none⟩ = false := fun i => at_free H16.out.hx i
  go_upto_region 21 with fail
  refine wp_gen (fun w' => ∃ v12 : Int, (1 ≤ v12 ∧ v12 ≤ 5) ∧ Fx w R N x [n0, n1, n2, n3, n4, n5, n6, n7, n8, n9, n10, n11, n12, n13, n14, n15, n16, n17, n18, n19] (⟨v0, v1, v2, v3, v4, v5, v6, v7, v8, 0, 0, v11, v12, 100, 0, 3, 4, 100, 4, 50, 2, 100, 3, 4, 256, 1⟩ : Conf) w') ?_ ?_
  · exact ⟨1 + n10 % 5, (by first | omega | (unfold wrap64; omega)), (at_set_other (p := ⟨x, 12, none⟩) H16.out.hR hRx' _), (at_set_other (p := ⟨x, 12, none⟩) H16.out.hN hNx _), (at_set H16.out.hx 12 _), (gb_new H16.out.g (p := ⟨x, 12, none⟩) hLx _)⟩
  rintro y17 ⟨v12, hb12, hg⟩
  have H17 := hid hg; clear hg fz q10 z12
  have q10 : y17.cell? ⟨N, 10, none⟩ = some (.int .i64 n10) := at_cell H17.out.hN 10
  have z12 : y17.cell? ⟨x, 12, none⟩ = some (.int .i64 (v12)) := at_cell H17.out.hx 12
  have z13 : y17.cell? ⟨x, 13, none⟩ = some (.int .i64 (100)) := at_cell H17.out.hx 13
  have fz : ∀ i, y17.frozen? ⟨x, i, none⟩ = false := fun i => at_free H17.out.hx i
  go_upto_region 22 with fail
  refine wp_gen (fun w' => ∃ v13 : Int, (v12 ≤ v13 ∧ v13 ≤ v12 + 59) ∧ Fx w R N x [n0, n1, n2, n3, n4, n5, n6, n7, n8, n9, n10, n11, n12, n13, n14, n15, n16, n17, n18, n19] (⟨v0, v1, v2, v3, v4, v5, v6, v7, v8, 0, 0, v11, v12, v13, 0, 3, 4, 100, 4, 50, 2, 100, 3, 4, 256, 1⟩ : Conf) w') ?_ ?_
  · exact ⟨v12 + n10 / 5 % 60, (by first | omega | (unfold wrap64; omega)), (at_set_other (p := ⟨x, 13, none⟩) H17.out.hR hRx' _), (at_set_other (p := ⟨x, 13, none⟩) H17.out.hN hNx _), (at_set H17.out.hx 13 _), (gb_new H17.out.g (p := ⟨x, 13, none⟩) hLx _)⟩
  rintro y18 ⟨v13, hb13, hg⟩
  have H18 := hid hg; clear hg fz q10 z12 z13
  have tm0 := tmod_in n11 4 (by omega) (by omega)
  have tm1 := tmod_in n12 5 (by omega) (by omega)
  have q11 : y18.cell? ⟨N, 11, none⟩ = some (.int .i64 n11) := at_cell H18.out.hN 11
  have q12 : y18.cell? ⟨N, 12, none⟩ = some (.int .i64 n12) := at_cell H18.out.hN 12
  have z14 : y18.cell? ⟨x, 14, none⟩ = some (.int .i64 (0)) := at_cell H18.out.hx 14
  have z15 : y18.cell? ⟨x, 15, none⟩ = some (.int .i64 (3)) := at_cell H18.out.hx 15
  have fz : ∀ i, y18.frozen? ⟨x, i, none⟩ = false := fun i => at_free H18.out.hx i
  go_cut [] from 113 to 120 (fun wx => ∃ v14 v15 : Int, (0 ≤ v14 ∧ v14 ≤ 3) ∧ (0 ≤ v15 ∧ v15 ≤ 4) ∧ Fx w R N x [n0, n1, n2, n3, n4, n5, n6, n7, n8, n9, n10, n11, n12, n13, n14, n15, n16, n17, n18, n19] (⟨v0, v1, v2, v3, v4, v5, v6, v7, v8, 0, 0, v11, v12, v13, v14, v15, 4, 100, 4, 50, 2, 100, 3, 4, 256, 1⟩ : Conf) wx)
  case first =>
    go_region_held3 (fun w' => w'.cell? ⟨N, 11, none⟩ = some (.int .i64 n11) ∧ w'.cell? ⟨N, 12, none⟩ = some (.int .i64 n12)) ((refine ⟨?_, ?_⟩ <;> go_simp)) (fail)
    all_goals (
      go_wp2_with fail
      go_meet
      exact ⟨n11.tmod 4, n12.tmod 5, (by first | omega | (unfold wrap64; omega)), (by first | omega | (unfold wrap64; omega)), (at_drew (at_set_other (p := ⟨x, 15, none⟩) (at_set_other (p := ⟨x, 14, none⟩) H18.out.hR hRx' _) hRx' _)), (at_drew (at_set_other (p := ⟨x, 15, none⟩) (at_set_other (p := ⟨x, 14, none⟩) H18.out.hN hNx _) hNx _)), (at_drew (at_set (at_set H18.out.hx 14 _) 15 _)), (gb_drew (gb_new (gb_new H18.out.g (p := ⟨x, 14, none⟩) hLx _) (p := ⟨x, 15, none⟩) hLx _))⟩)
  case rest =>
  obtain ⟨v14, v15, hb14, hb15, hg⟩ := hcut
  go_upto_region 23 with fail
  have T := hid hg; clear hg fz q11 q12 z14 z15 tm0 tm1
  refine wp_gen (Fx w R N x [n0, n1, n2, n3, n4, n5, n6, n7, n8, n9, n10, n11, n12, n13, n14, n15, n16, n17, n18, n19] (⟨v0, v1, v2, v3, v4, v5, v6, v7, v8, 0, 0, v11, v12, v13, v14, v15, 4, 100, 4, 50, 2, 100, 3, 4, 256, 1⟩ : Conf)) T.out ?_
  clear T
  intro y19 hg
  have H19 := hid hg; clear hg H18
  have tm0 := tmod_in n13 5 (by omega) (by omega)
  have td0 := tdiv_in n13 5 (by omega) (by omega)
  have tm1 := tmod_in (n13.tdiv 5) 150 (by omega) (by omega)
  have e0 : IntKind.i64.wrap (n13.tdiv 5) = n13.tdiv 5 := (IntWalk.i64_left _).trans (wrap_small (by omega) (by omega))
  have e1 : IntKind.i64.wrap (1 + n13.tmod 5) = 1 + n13.tmod 5 := (IntWalk.i64_left _).trans (wrap_small (by omega) (by omega))
  have e2 : IntKind.i64.wrap (1 + (n13.tdiv 5).tmod 150) = 1 + (n13.tdiv 5).tmod 150 := (IntWalk.i64_left _).trans (wrap_small (by omega) (by omega))
  have q13 : y19.cell? ⟨N, 13, none⟩ = some (.int .i64 n13) := at_cell H19.out.hN 13
  have z16 : y19.cell? ⟨x, 16, none⟩ = some (.int .i64 (4)) := at_cell H19.out.hx 16
  have z17 : y19.cell? ⟨x, 17, none⟩ = some (.int .i64 (100)) := at_cell H19.out.hx 17
  have fz : ∀ i, y19.frozen? ⟨x, i, none⟩ = false := fun i => at_free H19.out.hx i
  go_cut [] from 121 to 131 (fun wx => ∃ v16 v17 : Int, (1 ≤ v16 ∧ v16 ≤ 5) ∧ (1 ≤ v17 ∧ v17 ≤ 150) ∧ Fx w R N x [n0, n1, n2, n3, n4, n5, n6, n7, n8, n9, n10, n11, n12, n13, n14, n15, n16, n17, n18, n19] (⟨v0, v1, v2, v3, v4, v5, v6, v7, v8, 0, 0, v11, v12, v13, v14, v15, v16, v17, 4, 50, 2, 100, 3, 4, 256, 1⟩ : Conf) wx)
  case first =>
    go_region_held3 (fun w' => w'.cell? ⟨N, 13, none⟩ = some (.int .i64 n13)) (go_simp) (fail)
    all_goals (
      go_wp2_with fail
      go_meet
      exact ⟨1 + n13.tmod 5, 1 + (n13.tdiv 5).tmod 150, (by first | omega | (unfold wrap64; omega)), (by first | omega | (unfold wrap64; omega)), (at_drew (at_set_other (p := ⟨x, 17, none⟩) (at_set_other (p := ⟨x, 16, none⟩) H19.out.hR hRx' _) hRx' _)), (at_drew (at_set_other (p := ⟨x, 17, none⟩) (at_set_other (p := ⟨x, 16, none⟩) H19.out.hN hNx _) hNx _)), (at_drew (at_set (at_set H19.out.hx 16 _) 17 _)), (gb_drew (gb_new (gb_new H19.out.g (p := ⟨x, 16, none⟩) hLx _) (p := ⟨x, 17, none⟩) hLx _))⟩)
  case rest =>
  obtain ⟨v16, v17, hb16, hb17, hg⟩ := hcut
  go_upto_region 24 with fail
  have T := hid hg; clear hg fz q13 z16 z17 tm0 td0 tm1 e0 e1 e2
  refine wp_gen (Fx w R N x [n0, n1, n2, n3, n4, n5, n6, n7, n8, n9, n10, n11, n12, n13, n14, n15, n16, n17, n18, n19] (⟨v0, v1, v2, v3, v4, v5, v6, v7, v8, 0, 0, v11, v12, v13, v14, v15, v16, v17, 4, 50, 2, 100, 3, 4, 256, 1⟩ : Conf)) T.out ?_
  clear T
  intro y20 hg
  have H20 := hid hg; clear hg H19
  have tm0 := tmod_in n14 5 (by omega) (by omega)
  have td0 := tdiv_in n14 5 (by omega) (by omega)
  have tm1 := tmod_in (n14.tdiv 5) 100 (by omega) (by omega)
  have e0 : IntKind.i64.wrap (n14.tdiv 5) = n14.tdiv 5 := (IntWalk.i64_left _).trans (wrap_small (by omega) (by omega))
  have e1 : IntKind.i64.wrap (1 + n14.tmod 5) = 1 + n14.tmod 5 := (IntWalk.i64_left _).trans (wrap_small (by omega) (by omega))
  have e2 : IntKind.i64.wrap (1 + (n14.tdiv 5).tmod 100) = 1 + (n14.tdiv 5).tmod 100 := (IntWalk.i64_left _).trans (wrap_small (by omega) (by omega))
  have q14 : y20.cell? ⟨N, 14, none⟩ = some (.int .i64 n14) := at_cell H20.out.hN 14
  have z18 : y20.cell? ⟨x, 18, none⟩ = some (.int .i64 (4)) := at_cell H20.out.hx 18
  have z19 : y20.cell? ⟨x, 19, none⟩ = some (.int .i64 (50)) := at_cell H20.out.hx 19
  have fz : ∀ i, y20.frozen? ⟨x, i, none⟩ = false := fun i => at_free H20.out.hx i
  go_cut [] from 132 to 142 (fun wx => ∃ v18 v19 : Int, (1 ≤ v18 ∧ v18 ≤ 5) ∧ (1 ≤ v19 ∧ v19 ≤ 100) ∧ Fx w R N x [n0, n1, n2, n3, n4, n5, n6, n7, n8, n9, n10, n11, n12, n13, n14, n15, n16, n17, n18, n19] (⟨v0, v1, v2, v3, v4, v5, v6, v7, v8, 0, 0, v11, v12, v13, v14, v15, v16, v17, v18, v19, 2, 100, 3, 4, 256, 1⟩ : Conf) wx)
  case first =>
    go_region_held3 (fun w' => w'.cell? ⟨N, 14, none⟩ = some (.int .i64 n14)) (go_simp) (fail)
    all_goals (
      go_wp2_with fail
      go_meet
      exact ⟨1 + n14.tmod 5, 1 + (n14.tdiv 5).tmod 100, (by first | omega | (unfold wrap64; omega)), (by first | omega | (unfold wrap64; omega)), (at_drew (at_set_other (p := ⟨x, 19, none⟩) (at_set_other (p := ⟨x, 18, none⟩) H20.out.hR hRx' _) hRx' _)), (at_drew (at_set_other (p := ⟨x, 19, none⟩) (at_set_other (p := ⟨x, 18, none⟩) H20.out.hN hNx _) hNx _)), (at_drew (at_set (at_set H20.out.hx 18 _) 19 _)), (gb_drew (gb_new (gb_new H20.out.g (p := ⟨x, 18, none⟩) hLx _) (p := ⟨x, 19, none⟩) hLx _))⟩)
  case rest =>
  obtain ⟨v18, v19, hb18, hb19, hg⟩ := hcut
  go_upto_region 25 with fail
  have T := hid hg; clear hg fz q14 z18 z19 tm0 td0 tm1 e0 e1 e2
  refine wp_gen (Fx w R N x [n0, n1, n2, n3, n4, n5, n6, n7, n8, n9, n10, n11, n12, n13, n14, n15, n16, n17, n18, n19] (⟨v0, v1, v2, v3, v4, v5, v6, v7, v8, 0, 0, v11, v12, v13, v14, v15, v16, v17, v18, v19, 2, 100, 3, 4, 256, 1⟩ : Conf)) T.out ?_
  clear T
  intro y21 hg
  have H21 := hid hg; clear hg H20
  have q15 : y21.cell? ⟨N, 15, none⟩ = some (.int .i64 n15) := at_cell H21.out.hN 15
  have z20 : y21.cell? ⟨x, 20, none⟩ = some (.int .i64 (2)) := at_cell H21.out.hx 20
  have fz : ∀ i, y21.frozen? ⟨x, i, none⟩ = false := fun i => at_free H21.out.hx i
  go_upto_region 26 with fail
  refine wp_gen (fun w' => ∃ v20 : Int, (1 ≤ v20 ∧ v20 ≤ 4) ∧ Fx w R N x [n0, n1, n2, n3, n4, n5, n6, n7, n8, n9, n10, n11, n12, n13, n14, n15, n16, n17, n18, n19] (⟨v0, v1, v2, v3, v4, v5, v6, v7, v8, 0, 0, v11, v12, v13, v14, v15, v16, v17, v18, v19, v20, 100, 3, 4, 256, 1⟩ : Conf) w') ?_ ?_
  · exact ⟨1 + n15 % 4, (by first | omega | (unfold wrap64; omega)), (at_set_other (p := ⟨x, 20, none⟩) H21.out.hR hRx' _), (at_set_other (p := ⟨x, 20, none⟩) H21.out.hN hNx _), (at_set H21.out.hx 20 _), (gb_new H21.out.g (p := ⟨x, 20, none⟩) hLx _)⟩
  rintro y22 ⟨v20, hb20, hg⟩
  have H22 := hid hg; clear hg fz q15 z20
  have q16 : y22.cell? ⟨N, 16, none⟩ = some (.int .i64 n16) := at_cell H22.out.hN 16
  have z21 : y22.cell? ⟨x, 21, none⟩ = some (.int .i64 (100)) := at_cell H22.out.hx 21
  have fz : ∀ i, y22.frozen? ⟨x, i, none⟩ = false := fun i => at_free H22.out.hx i
  go_upto_region 27 with fail
  refine wp_gen (fun w' => ∃ v21 : Int, (0 ≤ v21 ∧ v21 ≤ 499) ∧ Fx w R N x [n0, n1, n2, n3, n4, n5, n6, n7, n8, n9, n10, n11, n12, n13, n14, n15, n16, n17, n18, n19] (⟨v0, v1, v2, v3, v4, v5, v6, v7, v8, 0, 0, v11, v12, v13, v14, v15, v16, v17, v18, v19, v20, v21, 3, 4, 256, 1⟩ : Conf) w') ?_ ?_
  · exact ⟨n16 % 500, (by first | omega | (unfold wrap64; omega)), (at_set_other (p := ⟨x, 21, none⟩) H22.out.hR hRx' _), (at_set_other (p := ⟨x, 21, none⟩) H22.out.hN hNx _), (at_set H22.out.hx 21 _), (gb_new H22.out.g (p := ⟨x, 21, none⟩) hLx _)⟩
  rintro y23 ⟨v21, hb21, hg⟩
  have H23 := hid hg; clear hg fz q16 z21
  have tm0 := tmod_in n17 3 (by omega) (by omega)
  have td0 := tdiv_in n17 3 (by omega) (by omega)
  have tm1 := tmod_in (n17.tdiv 3) 4 (by omega) (by omega)
  have e0 : IntKind.i64.wrap (n17.tdiv 3) = n17.tdiv 3 := (IntWalk.i64_left _).trans (wrap_small (by omega) (by omega))
  have e1 : IntKind.i64.wrap (1 + n17.tmod 3) = 1 + n17.tmod 3 := (IntWalk.i64_left _).trans (wrap_small (by omega) (by omega))
  have e2 : IntKind.i64.wrap (1 + (n17.tdiv 3).tmod 4) = 1 + (n17.tdiv 3).tmod 4 := (IntWalk.i64_left _).trans (wrap_small (by omega) (by omega))
  have q17 : y23.cell? ⟨N, 17, none⟩ = some (.int .i64 n17) := at_cell H23.out.hN 17
  have z22 : y23.cell? ⟨x, 22, none⟩ = some (.int .i64 (3)) := at_cell H23.out.hx 22
  have z23 : y23.cell? ⟨x, 23, none⟩ = some (.int .i64 (4)) := at_cell H23.out.hx 23
  have fz : ∀ i, y23.frozen? ⟨x, i, none⟩ = false := fun i => at_free H23.out.hx i
  go_cut [] from 152 to 162 (fun wx => ∃ v22 v23 : Int, (1 ≤ v22 ∧ v22 ≤ 3) ∧ (1 ≤ v23 ∧ v23 ≤ 4) ∧ Fx w R N x [n0, n1, n2, n3, n4, n5, n6, n7, n8, n9, n10, n11, n12, n13, n14, n15, n16, n17, n18, n19] (⟨v0, v1, v2, v3, v4, v5, v6, v7, v8, 0, 0, v11, v12, v13, v14, v15, v16, v17, v18, v19, v20, v21, v22, v23, 256, 1⟩ : Conf) wx)
  case first =>
    go_region_held3 (fun w' => w'.cell? ⟨N, 17, none⟩ = some (.int .i64 n17)) (go_simp) (fail)
    all_goals (
      go_wp2_with fail
      go_meet
      exact ⟨1 + n17.tmod 3, 1 + (n17.tdiv 3).tmod 4, (by first | omega | (unfold wrap64; omega)), (by first | omega | (unfold wrap64; omega)), (at_drew (at_set_other (p := ⟨x, 23, none⟩) (at_set_other (p := ⟨x, 22, none⟩) H23.out.hR hRx' _) hRx' _)), (at_drew (at_set_other (p := ⟨x, 23, none⟩) (at_set_other (p := ⟨x, 22, none⟩) H23.out.hN hNx _) hNx _)), (at_drew (at_set (at_set H23.out.hx 22 _) 23 _)), (gb_drew (gb_new (gb_new H23.out.g (p := ⟨x, 22, none⟩) hLx _) (p := ⟨x, 23, none⟩) hLx _))⟩)
  case rest =>
  obtain ⟨v22, v23, hb22, hb23, hg⟩ := hcut
  go_upto_region 28 with fail
  have T := hid hg; clear hg fz q17 z22 z23 tm0 td0 tm1 e0 e1 e2
  refine wp_gen (Fx w R N x [n0, n1, n2, n3, n4, n5, n6, n7, n8, n9, n10, n11, n12, n13, n14, n15, n16, n17, n18, n19] (⟨v0, v1, v2, v3, v4, v5, v6, v7, v8, 0, 0, v11, v12, v13, v14, v15, v16, v17, v18, v19, v20, v21, v22, v23, 256, 1⟩ : Conf)) T.out ?_
  clear T
  intro y24 hg
  have H24 := hid hg; clear hg H23
  have q18 : y24.cell? ⟨N, 18, none⟩ = some (.int .i64 n18) := at_cell H24.out.hN 18
  have z24 : y24.cell? ⟨x, 24, none⟩ = some (.int .i64 (256)) := at_cell H24.out.hx 24
  have fz : ∀ i, y24.frozen? ⟨x, i, none⟩ = false := fun i => at_free H24.out.hx i
  go_upto_region 29 with fail
  refine wp_gen (fun w' => ∃ v24 : Int, (64 ≤ v24 ∧ v24 ≤ 363) ∧ Fx w R N x [n0, n1, n2, n3, n4, n5, n6, n7, n8, n9, n10, n11, n12, n13, n14, n15, n16, n17, n18, n19] (⟨v0, v1, v2, v3, v4, v5, v6, v7, v8, 0, 0, v11, v12, v13, v14, v15, v16, v17, v18, v19, v20, v21, v22, v23, v24, 1⟩ : Conf) w') ?_ ?_
  · exact ⟨64 + n18 % 300, (by first | omega | (unfold wrap64; omega)), (at_set_other (p := ⟨x, 24, none⟩) H24.out.hR hRx' _), (at_set_other (p := ⟨x, 24, none⟩) H24.out.hN hNx _), (at_set H24.out.hx 24 _), (gb_new H24.out.g (p := ⟨x, 24, none⟩) hLx _)⟩
  rintro y25 ⟨v24, hb24, hg⟩
  have H25 := hid hg; clear hg fz q18 z24
  have e1 : IntKind.u64.wrap n19 = n19 := by rw [IntKind.wrap_u64]; omega
  have q19 : y25.cell? ⟨N, 19, none⟩ = some (.int .i64 n19) := at_cell H25.out.hN 19
  have z25 : y25.cell? ⟨x, 25, none⟩ = some (.int .u64 (1)) := at_cell H25.out.hx 25
  have fz : ∀ i, y25.frozen? ⟨x, i, none⟩ = false := fun i => at_free H25.out.hx i
  go_upto_region 30 with fail
  refine wp_gen (fun w' => ∃ v25 : Int, (0 ≤ v25 ∧ v25 < 100000) ∧ Fx w R N x [n0, n1, n2, n3, n4, n5, n6, n7, n8, n9, n10, n11, n12, n13, n14, n15, n16, n17, n18, n19] (⟨v0, v1, v2, v3, v4, v5, v6, v7, v8, 0, 0, v11, v12, v13, v14, v15, v16, v17, v18, v19, v20, v21, v22, v23, v24, v25⟩ : Conf) w') ?_ ?_
  · exact ⟨n19, (by first | omega | (unfold wrap64; omega)), (at_set_other (p := ⟨x, 25, none⟩) H25.out.hR hRx' _), (at_set_other (p := ⟨x, 25, none⟩) H25.out.hN hNx _), (at_set H25.out.hx 25 _), (gb_new H25.out.g (p := ⟨x, 25, none⟩) hLx _)⟩
  rintro y26 ⟨v25, hb25, hg⟩
  have H26 := hid hg; clear hg fz q19 z25 e1
  have hfR : y26.heap[R]? = some (.cells zeroC.cells 27) := H26.out.hR
  go_wp2_with (first | refine wpList_conf (c := (⟨v0, v1, v2, v3, v4, v5, v6, v7, v8, 0, 0, v11, v12, v13, v14, v15, v16, v17, v18, v19, v20, v21, v22, v23, v24, v25⟩ : Conf)) H26.out.hx rfl rfl rfl rfl ?_ | refine wpList_store_row (cs := (⟨v0, v1, v2, v3, v4, v5, v6, v7, v8, 0, 0, v11, v12, v13, v14, v15, v16, v17, v18, v19, v20, v21, v22, v23, v24, v25⟩ : Conf).cells) hfR (by kernel_rfl) (by kernel_rfl) (by kernel_rfl) rfl rfl rfl rfl rfl ?_)
  have hm8 := HM8.out
  refine bodyPost_ret (v := cf (⟨v0, v1, v2, v3, v4, v5, v6, v7, v8, 0, 0, v11, v12, v13, v14, v15, v16, v17, v18, v19, v20, v21, v22, v23, v24, v25⟩ : Conf)) ?_ rfl ⟨(⟨v0, v1, v2, v3, v4, v5, v6, v7, v8, 0, 0, v11, v12, v13, v14, v15, v16, v17, v18, v19, v20, v21, v22, v23, v24, v25⟩ : Conf), rfl, ?_, cgb_setRow H26.out.g hLR _⟩
  · exact results_cell_row rfl _ _ R 27 (⟨v0, v1, v2, v3, v4, v5, v6, v7, v8, 0, 0, v11, v12, v13, v14, v15, v16, v17, v18, v19, v20, v21, v22, v23, v24, v25⟩ : Conf).cells (0, 0) _ rfl (at_setRow hfR) Tryz.underlying27 rfl (by kernel_rfl)
  · constructor <;> (try dsimp only) <;> omega
end Go.Proofs.YtecggbndlbkhdaaGreat
end
