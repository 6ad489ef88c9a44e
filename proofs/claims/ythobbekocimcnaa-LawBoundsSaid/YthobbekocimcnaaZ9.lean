/-
  What the laws of policy have in common: a made configuration's rates may be; a number that is made one within its ends. No condition.
  Contract: the law's own examples: the program tells what the document says of a few. And: what a walk keeps of a Law of the call's own, beside a configuration. No condition.
  A slice of numbers that a call makes and appends to, and others that it only reads meanwhile. No condition. Nothing of the program's functions is named here.
  What the laws of package law have in common: values that may be are taken, others are not; a slice of the call's own. No condition.
  The opening of five parameters and more at once. No condition.
  What LawBand reckons: a value within its band. No condition.
  Two slices of numbers that a call makes and appends to, and others that it only reads meanwhile. No condition. Nothing of the program's functions is named here.
  What LawRises keeps: two rows of values, the one nowhere lesser than the other; two Laws so. No condition.
  Slices of bools, or of numbers of kind int, that came in, by an index function. No condition. Nothing of the program's functions is named here.
-/
import Derived.Test.YthobbekocimcnaaZ8
import Derived.Test.YthobbekocimcnaaZ7
import Derived.Test.YthobbekocimcnaaZ2
import Derived.Test.YthobbekocimcnaaZ1
import Derived.Carry
import Derived.Test.YthobbekocimcnaaRows
import Derived.ProofKit
import Derived.OpenShut
import Derived.ChangeSlices
import Derived.Deep.Grids
section
set_option linter.unusedSimpArgs false
set_option linter.unusedVariables false
namespace Go.Proofs.Ythobbekocimcnaa
set_option maxRecDepth 100000
open Go.RowKit

theorem fine_ok {c : Conf} (h : Fine c) : (rt c).Ok := by
  have a1 := h.podsup; have a2 := h.pctup; have a3 := h.podsdown; have a4 := h.pctdown; have a5 := h.period; have a6 := h.min; have a7 := h.max
  exact ⟨by show 1 ≤ c.podsup ∧ c.podsup ≤ 1000; omega, by show 1 ≤ c.pctup ∧ c.pctup ≤ 1000; omega, by show 1 ≤ c.podsdown ∧ c.podsdown ≤ 1000; omega, by show 1 ≤ c.pctdown ∧ c.pctdown ≤ 100; omega, by show 1 ≤ c.period ∧ c.period ≤ 60; omega, by show 1 ≤ c.min ∧ c.min ≤ 10000; omega, by show c.min ≤ c.max ∧ c.max ≤ 10000; omega⟩
theorem fine_may {c : Conf} (h : Fine c) : (rt c).may = true := Rt.may_iff.2 (fine_ok h)
theorem in_of {r : Rt} {x : Int} (h1 : r.mn ≤ x) (h2 : x ≤ r.mx) : inR r x = true := by
  unfold inR; rw [decide_eq_true h1, decide_eq_true h2]; rfl
theorem in_le {r : Rt} {x : Int} (h : inR r x = true) : r.mn ≤ x ∧ x ≤ r.mx := by
  unfold inR at h
  simpa using h
/-- what 'c.Min + int(uint(x) % uint(c.Max - c.Min + 1))' is reckoned from -/
theorem draw_in {c : Conf} (h : Fine c) : ∃ (d0 : Int) (D : Nat), IntKind.i64.wrap (c.max - c.min) = d0 ∧ IntKind.i64.wrap (d0 + 1) = (D : Int) ∧ IntKind.u64.wrap (D : Int) = (D : Int) ∧ ¬ (D : Int) = 0 ∧
    ∀ x : Int, ∃ z f : Int, (IntKind.u64.wrap x).tmod (D : Int) = z ∧ IntKind.u64.wrap z = z ∧ IntKind.i64.wrap z = z ∧ IntKind.i64.wrap (c.min + z) = f ∧ c.min ≤ f ∧ f ≤ c.max := by
  have a6 := h.min; have a7 := h.max
  obtain ⟨D, hD⟩ : ∃ D : Nat, c.max - c.min + 1 = (D : Int) := ⟨(c.max - c.min + 1).toNat, by omega⟩
  refine ⟨c.max - c.min, D, IntWalk.i64_in _ (by omega), ?_, IntWalk.u64_in _ (by omega), by omega, fun x => ?_⟩
  · rw [hD]; exact IntWalk.i64_in _ (by omega)
  · obtain ⟨z, z0, z1, hz⟩ := umod_int x D (by omega)
    exact ⟨z, c.min + z, hz, IntWalk.u64_in _ (by omega), IntWalk.i64_in _ (by omega), IntWalk.i64_in _ (by omega), by omega, by omega⟩
theorem bounds_in {r : Rt} (h : r.Ok) {x : Int} (h1 : 0 ≤ x) (h2 : x ≤ 10000) : r.bounds x = (r.lo x, r.hi x) := if_pos ⟨Rt.may_iff.2 h, h1, h2⟩
end Go.Proofs.Ythobbekocimcnaa
end
section
set_option linter.unusedSimpArgs false
set_option linter.unusedVariables false
namespace Go.Proofs.Ythobbekocimcnaa
set_option maxRecDepth 100000
open Go.RowKit

/-- New: none -/
theorem lnew_no (c : Conf) (first : Int) (h0 : ((st22 c).getD ⟨#[]⟩).toList.isEmpty = true) (h : ¬ ((rt c).may = true ∧ inR (rt c) first = true)) (w : World) :
    Calls Try.prog 8 #[cf c, .int .i64 first] w fun e w' => e = .returned (.pointer none) ∧ w.grownBy w' none := by
  have K := hid (boxc_new w c)
  have MY := hid (cmay_any c)
  rw [h0] at MY
  have PN := hid (ponew_no c first h)
  clear h h0
  go_enter Try.func8, Try.ntmps8
  go_wp2_with (refine wpList_conf K.out.box rfl rfl rfl rfl ?_)
  refine (MY.out _).mono ?_
  rintro e w1 ⟨rfl, hg⟩
  have K1 := hid (K.out.grown hg); clear hg MY
  go_wp2_with (refine wpList_conf K1.out.box rfl rfl rfl rfl ?_)
  refine (PN.out _).mono ?_
  rintro e w2 ⟨rfl, hg⟩
  have K2 := hid (K1.out.grown hg); clear hg
  go_wp2_with fail
  go_ret
  exact ⟨rfl, K2.out.g⟩
/-- a Law of the call's own; one beside a configuration in a block; two of them -/
structure Lk0 (w : World) (B : LBl) (s : La) (W : World) : Prop where
  gr : w.grownBy W none
  at1 : LaAt W B s
  lo : ∀ y ∈ B.F, w.heap.size ≤ y
structure Lk1 (w : World) (x : Nat) (c : Conf) (B : LBl) (s : La) (W : World) : Prop where
  k : Lk0 w B s W
  box : W.heap[x]? = some (.cells c.cells 27)
  nx : x ∉ B.F
structure Lk2 (w : World) (x : Nat) (c : Conf) (B : LBl) (s : La) (C : LBl) (t : La) (W : World) : Prop where
  k1 : Lk1 w x c B s W
  k2 : Lk1 w x c C t W
  ne : ∀ y ∈ B.F, y ∉ C.F
section
variable {w W W' : World} {x : Nat} {c : Conf} {B C : LBl} {s s' t t' : La} {v : Value} {vs : List Int} {a y z : Int}
theorem lgb_chg (h : w.grownBy W none) (hc : Chg B.F W W') (hb : ∀ y ∈ B.F, w.heap.size ≤ y) : w.grownBy W' none :=
  ((chg_grown h []).trans hc (fun y hy => .inr (hb y hy))).free (fun y hy => by cases hy)
theorem Lk0.grown (h : Lk0 w B s W) (hg : W.grownBy W' none) : Lk0 w B s W' := ⟨gb_trans h.gr hg (.inl rfl), h.at1.grown hg, h.lo⟩
theorem Lk0.drew (h : Lk0 w B s W) : Lk0 w B s W.drew := ⟨gb_drew h.gr, h.at1.drew, h.lo⟩
theorem Lk0.chg (h : Lk0 w B s W) (hl : LaAt W' B s') (hc : Chg B.F W W') : Lk0 w B s' W' := ⟨lgb_chg h.gr hc h.lo, hl, h.lo⟩
theorem Lk0.start (hg : w.grownBy W none) (hl : LaAt W' B s) (h2 : W.grownBy W' none) (hb : ∀ y ∈ B.F, W.heap.size ≤ y) : Lk0 w B s W' := ⟨gb_trans hg h2 (.inl rfl), hl, fun y hy => Nat.le_trans hg.size (hb y hy)⟩
theorem Lk1.grown (h : Lk1 w x c B s W) (hg : W.grownBy W' none) : Lk1 w x c B s W' := ⟨h.k.grown hg, at_grown h.box hg (by simp), h.nx⟩
theorem Lk1.drew (h : Lk1 w x c B s W) : Lk1 w x c B s W.drew := ⟨h.k.drew, h.box, h.nx⟩
theorem Lk1.chg (h : Lk1 w x c B s W) (hl : LaAt W' B s') (hc : Chg B.F W W') : Lk1 w x c B s' W' := ⟨h.k.chg hl hc, hc.at h.box h.nx, h.nx⟩
theorem Lk1.start (hC : Cfx w x c W) (hl : LaAt W' B s) (h2 : W.grownBy W' none) (hb : ∀ y ∈ B.F, W.heap.size ≤ y) : Lk1 w x c B s W' :=
  ⟨Lk0.start hC.g hl h2 hb, at_grown hC.box h2 (by simp), fun hm => Nat.lt_irrefl _ (Nat.lt_of_lt_of_le (at_lt hC.box) (hb x hm))⟩
theorem Lk1.cfx (h : Lk1 w x c B s W) : Cfx w x c W := ⟨h.box, h.k.gr⟩
theorem Lk2.grown (h : Lk2 w x c B s C t W) (hg : W.grownBy W' none) : Lk2 w x c B s C t W' := ⟨h.k1.grown hg, h.k2.grown hg, h.ne⟩
theorem Lk2.drew (h : Lk2 w x c B s C t W) : Lk2 w x c B s C t W.drew := ⟨h.k1.drew, h.k2.drew, h.ne⟩
theorem Lk2.swap (h : Lk2 w x c B s C t W) : Lk2 w x c C t B s W := ⟨h.k2, h.k1, fun y hy hm => h.ne y hm hy⟩
theorem Lk2.chg1 (h : Lk2 w x c B s C t W) (hl : LaAt W' B s') (hc : Chg B.F W W') : Lk2 w x c B s' C t W' :=
  ⟨h.k1.chg hl hc, ⟨⟨lgb_chg h.k1.k.gr hc h.k1.k.lo, h.k2.k.at1.chg hc (fun y hy hm => h.ne y hm hy), h.k2.k.lo⟩, hc.at h.k1.box h.k1.nx, h.k2.nx⟩, h.ne⟩
theorem Lk2.chg2 (h : Lk2 w x c B s C t W) (hl : LaAt W' C t') (hc : Chg C.F W W') : Lk2 w x c B s C t' W' := (h.swap.chg1 hl hc).swap
theorem Lk2.start (h : Lk1 w x c B s W) (hl : LaAt W' C t) (h2 : W.grownBy W' none) (hb : ∀ y ∈ C.F, W.heap.size ≤ y) : Lk2 w x c B s C t W' :=
  ⟨h.grown h2, Lk1.start h.cfx hl h2 hb, fun y hy hm => Nat.lt_irrefl _ (Nat.lt_of_lt_of_le (h.k.at1.lts y hy) (hb y hm))⟩
theorem lnext_as (H : LaAt W B s) (hv : IntsAt W v vs) (hm : s.may vs = true) (h1 : s.come vs = y) (h2 : s.want vs = z) (h3 : s.next vs = s') :
    Calls Try.prog 11 #[.pointer (some ⟨B.b, 0, none⟩), v] W fun e w' => e = .returned (.tuple #[.int .i64 y, .int .i64 z, .int .i64 0]) ∧ LaAt w' B s' ∧ Chg B.F W w' := by
  subst h1; subst h2; subst h3; exact lnext_yes hm H hv
theorem lhold_as (H : LaAt W B s) (h1 : s.n = y) (h3 : s.hold = s') :
    Calls Try.prog 13 #[.pointer (some ⟨B.b, 0, none⟩)] W fun e w' => e = .returned (.int .i64 y) ∧ LaAt w' B s' ∧ Chg B.F W w' := by
  subst h1; subst h3; exact lhold_any H
theorem lcount_as (H : LaAt W B s) (h1 : s.n = y) :
    Calls Try.prog 9 #[.pointer (some ⟨B.b, 0, none⟩)] W fun e w' => e = .returned (.int .i64 y) ∧ W = w' := by
  subst h1; exact lcount_any H
end
/-- a made configuration's Law -/
theorem fine_law {c : Conf} (h : Fine c) : ∃ m u d : Nat, c.m = (m : Int) ∧ (u : Int) = c.calmup ∧ (d : Int) = c.calmdown ∧ 1 ≤ m ∧ m ≤ 2 ∧ u ≤ 3 ∧ d ≤ 4 ∧ (∀ f, c.min ≤ f → f ≤ c.max → (laOf c m u d f).Ok) ∧ (m = 1 ∨ m = 2 ∧ 1 ≤ c.t1 ∧ c.t1 ≤ 2000) := by
  have h1 := h.m; have h2 := h.calmup; have h3 := h.calmdown; have h4 := h.t0; have h5 := h.tol; have h6 := h.min; have h7 := h.max
  obtain ⟨m, hm⟩ : ∃ m : Nat, c.m = (m : Int) := ⟨c.m.toNat, by omega⟩
  obtain ⟨u, hu⟩ : ∃ m : Nat, (m : Int) = c.calmup := ⟨c.calmup.toNat, by omega⟩
  obtain ⟨d, hd⟩ : ∃ m : Nat, (m : Int) = c.calmdown := ⟨c.calmdown.toNat, by omega⟩
  refine ⟨m, u, d, hm, hu, hd, by omega, by omega, by omega, by omega, fun f hf1 hf2 => ⟨?_, ?_, by show 0 ≤ c.tol ∧ c.tol ≤ 1000; omega, ⟨by show u ≤ 60; omega, by show d ≤ 60; omega, Nat.zero_le _, fun x hx => by cases hx⟩, Po.new_ok (fine_ok h) hf1 hf2, hf1, hf2⟩, by omega⟩
  · intro t ht
    have ht : t ∈ [c.t0, c.t1, c.t2, c.t3].take m := ht
    rcases h1 with ⟨h1, h8⟩ | ⟨h1, h8, h9⟩
    · obtain rfl : m = 1 := by omega
      simp at ht
      omega
    · obtain rfl : m = 2 := by omega
      simp at ht
      omega
  · show [c.t0, c.t1, c.t2, c.t3].take m ≠ []
    rcases h1 with ⟨h1, h8⟩ | ⟨h1, h8, h9⟩
    · obtain rfl : m = 1 := by omega
      simp
    · obtain rfl : m = 2 := by omega
      simp
theorem lnew_fine {c : Conf} (h : Fine c) {m u d : Nat} (hm : c.m = (m : Int)) (hu : (u : Int) = c.calmup) (hd : (d : Int) = c.calmdown) (hm1 : 1 ≤ m) (hm2 : m ≤ 2) (hu3 : u ≤ 3) (hd4 : d ≤ 4) {f : Int} (h1 : c.min ≤ f) (h2 : f ≤ c.max) (hok : (laOf c m u d f).Ok) (w : World) :
    Calls Try.prog 8 #[cf c, .int .i64 f] w (LaMade w (laOf c m u d f)) :=
  lnew_ok c f m u d (by rw [fine_none h]; decide +kernel) hm hu hd hm1 (by omega) (by omega) (by omega) (fine_may h) (in_of h1 h2) hok w
theorem dflt_may : ((st22 dflt).getD ⟨#[]⟩).toList.isEmpty = true := by decide +kernel
theorem dflt_law : (laOf dflt 1 0 3 4).Ok :=
  ⟨fun t ht => by simp at ht; omega, by simp, by decide, ⟨by decide, by decide, Nat.zero_le _, fun x hx => by cases hx⟩, Po.new_ok (Rt.may_iff.1 rfl) (by decide) (by decide), by decide⟩
set_option maxHeartbeats 3200000 in
theorem ltold_any (w : World) :
    Calls Try.prog 12 #[] w fun e w' => e = .returned (.bool true) ∧ w.grownBy w' none := by
  have N1 := hid (lnew_ok dflt 4 1 0 3 dflt_may rfl rfl rfl (by decide) (by decide) (by decide) (by decide) rfl rfl dflt_law)
  have N2 := hid (lnew_no dflt 0 dflt_may (by decide))
  obtain ⟨s0, h0⟩ : ∃ s, laOf dflt 1 0 3 4 = s := ⟨_, rfl⟩
  obtain ⟨s1, h1⟩ : ∃ s, s0.next [1000] = s := ⟨_, rfl⟩
  obtain ⟨s2, h2⟩ : ∃ s, s1.next [2000] = s := ⟨_, rfl⟩
  obtain ⟨s3, h3⟩ : ∃ s, s2.hold = s := ⟨_, rfl⟩
  have M0 := hid (show s0.may [1000] = true by subst h0; rfl)
  have M1 := hid (show s1.may [2000] = true by subst h1; subst h0; rfl)
  have M2 := hid (show s2.may [] = false by subst h2; subst h1; subst h0; rfl)
  have C0 := hid (show s0.come [1000] = 4 by subst h0; rfl)
  have W0 := hid (show s0.want [1000] = 4 by subst h0; rfl)
  have C1 := hid (show s1.come [2000] = 8 by subst h1; subst h0; rfl)
  have W1 := hid (show s1.want [2000] = 8 by subst h1; subst h0; rfl)
  have E2 := hid (show s2.n = 8 by subst h2; subst h1; subst h0; rfl)
  have E3 := hid (show s3.n = 8 by subst h3; subst h2; subst h1; subst h0; rfl)
  rw [h0] at N1
  have H1 := hid h1; have H2 := hid h2; have H3 := hid h3
  clear h0 h1 h2 h3
  go_enter Try.func12, Try.ntmps12
  go_wp2_with fail
  refine (default_any _).mono ?_
  rintro e w1 ⟨rfl, hg⟩
  have G1 := hid hg; clear hg
  go_wp2_with fail
  refine (N1.out _).mono ?_
  rintro e w2 ⟨B, rfl, hl, hg, hb⟩
  have K := hid (Lk0.start G1.out hl hg hb); clear hl hg hb G1
  go_wp2_with fail
  refine (lnext_as (K.out.grown (World.grownBy_alloc _ _ none)).at1 (lit_new _ [1000] _ rfl 1 rfl (le_max _ (by decide))) M0.out C0.out W0.out H1.out).mono ?_
  rintro e w3 ⟨rfl, hl, hc⟩
  replace K := hid ((K.out.grown (World.grownBy_alloc _ _ none)).chg hl hc); clear hl hc
  go_wp2_with fail
  refine (lnext_as (K.out.grown (World.grownBy_alloc _ _ none)).at1 (lit_new _ [2000] _ rfl 1 rfl (le_max _ (by decide))) M1.out C1.out W1.out H2.out).mono ?_
  rintro e w4 ⟨rfl, hl, hc⟩
  replace K := hid ((K.out.grown (World.grownBy_alloc _ _ none)).chg hl hc); clear hl hc
  go_wp2_with fail
  refine (lnext_no M2.out K.out.at1 (.nil _)).mono ?_
  rintro e w5 ⟨rfl, hg⟩
  replace K := hid (K.out.grown hg); clear hg
  go_wp2_with fail
  refine (lhold_as K.out.at1 E2.out H3.out).mono ?_
  rintro e w6 ⟨rfl, hl, hc⟩
  replace K := hid (K.out.chg hl hc); clear hl hc
  go_wp2_with fail
  refine (lcount_as K.out.at1 E3.out).mono ?_
  rintro e w7 ⟨rfl, rfl⟩
  go_wp2_with fail
  refine (default_any _).mono ?_
  rintro e w8 ⟨rfl, hg⟩
  replace K := hid (K.out.grown hg); clear hg
  go_wp2_with fail
  refine (N2.out _).mono ?_
  rintro e w9 ⟨rfl, hg⟩
  replace K := hid (K.out.grown hg); clear hg
  go_wp2_with fail
  refine (lcount_nil _).mono ?_
  rintro e x1 ⟨rfl, rfl⟩
  go_wp2_with fail
  refine (lhold_nil _).mono ?_
  rintro e x2 ⟨rfl, rfl⟩
  go_wp2_with fail
  go_ret
  exact ⟨rfl, K.out.gr⟩
end Go.Proofs.Ythobbekocimcnaa
end
section
set_option linter.unusedSimpArgs false
set_option linter.unusedVariables false
namespace Go.Proofs.Ythobbekocimcnaa
set_option maxRecDepth 100000
open Go.RowKit

/-- a slice that reads as these numbers, and lies elsewhere than vn -/
def Rd (W : World) (vn u : Value) (r : List Int) : Prop := IntsAt W u r ∧ (r ≠ [] → ∀ a n c, u = .slice (some a) n c → a.block < W.heap.size ∧ vn.ownBlock ≠ some a.block)
theorem ints_block {W : World} {u : Value} {r : List Int} (h : IntsAt W u r) (hr : r ≠ []) : ∀ a n c, u = .slice (some a) n c → a.block < W.heap.size := by
  intro a n c e
  subst e
  have hp : 0 < r.length := List.length_pos_iff.2 hr
  obtain ⟨ab, ao, cap, e, hc⟩ := h.cells hp
  cases e
  exact World.block_lt_of_cell? _ _ (hc 0 hp)
theorem ints_empty {W W' : World} {u : Value} (h : IntsAt W u []) : IntsAt W' u [] := by
  rcases h with h | ⟨a, cap, rfl, h1, h2, _⟩
  · exact .inl h
  · exact .inr ⟨a, cap, rfl, h1, h2, fun i hi => absurd hi (Nat.not_lt_zero i)⟩
section
variable {w W W' : World} {vn vn' u : Value} {r s : List Int} {L L' : List (Value × List Int)} {p : Value × List Int}
theorem Rd.grown (h : Rd W vn u r) (hg : W.grownBy W' none) : Rd W' vn u r := ⟨h.1.grown hg, fun h0 a n c e => ⟨Nat.lt_of_lt_of_le (h.2 h0 a n c e).1 hg.size, (h.2 h0 a n c e).2⟩⟩
theorem Rd.drew (h : Rd W vn u r) : Rd W.drew vn u r := h
/-- behind an append to vn -/
theorem Rd.app (h : Rd W vn u r) (hg : W.grownBy W' vn.ownBlock) (ha : vn'.ownBlock = vn.ownBlock ∨ vn'.ownBlock = some W.heap.size) : Rd W' vn' u r := by
  by_cases h0 : r = []
  · subst h0; exact ⟨ints_empty h.1, fun h => absurd rfl h⟩
  · refine ⟨?_, fun _ a n c e => ?_⟩
    · rcases h.1 with h1 | ⟨a, cap, rfl, h1, h2, h3⟩
      · exact .inl h1
      · refine .inr ⟨a, cap, rfl, h1, h2, fun i hi => hg.cell (h3 i hi) ?_⟩
        have e1 : (a.add i).block = a.block := by unfold Addr.add; split <;> rfl
        rw [e1]
        exact (h.2 h0 a _ _ rfl).2.symm
    · have h1 := h.2 h0 a n c e
      refine ⟨Nat.lt_of_lt_of_le h1.1 hg.size, ?_⟩
      rcases ha with ha | ha
      · rw [ha]; exact h1.2
      · rw [ha]; intro e2; have e3 := Option.some.inj e2; have := h1.1; omega
/-- vn lies in a new block now -/
theorem Rd.fresh (h : Rd W vn u r) (hg : W.grownBy W' none) (hv : ∀ g, vn'.ownBlock = some g → W.heap.size ≤ g) : Rd W' vn' u r :=
  ⟨h.1.grown hg, fun h0 a n c e => ⟨Nat.lt_of_lt_of_le (h.2 h0 a n c e).1 hg.size, fun e2 => absurd (h.2 h0 a n c e).1 (Nat.not_lt.2 (hv _ e2))⟩⟩
theorem Rd.at {ab ao n c i : Nat} {x : Int} (h : Rd W vn (.slice (some ⟨ab, ao, none⟩) n c) r) (hx : r[i]? = some x) : W.cell? ⟨ab, ao + i, none⟩ = some (.int .i64 x) := by
  obtain ⟨hi, rfl⟩ := List.getElem?_eq_some_iff.1 hx
  obtain ⟨ab', ao', e, _, _, hc⟩ := h.1.cell hi
  cases e; exact hc
theorem Rd.take {ab ao n c j : Nat} (h : Rd W vn (.slice (some ⟨ab, ao, none⟩) n c) r) (hj : j ≤ n) : Rd W vn (.slice (some ⟨ab, ao, none⟩) j c) (r.take j) :=
  ⟨ints_slice0 h.1 hj, fun h0 a n' c' e => by cases e; exact h.2 (fun e => h0 (by rw [e]; simp)) _ _ _ rfl⟩
theorem Rd.drop {ab ao n c j : Nat} (h : Rd W vn (.slice (some ⟨ab, ao, none⟩) n c) r) (hj : j ≤ n) : Rd W vn (.slice (some ⟨ab, ao + j, none⟩) (n - j) (c - j)) (r.drop j) :=
  ⟨ints_slice1 h.1 hj, fun h0 a n' c' e => by cases e; exact h.2 (fun e => h0 (by rw [e]; simp)) ⟨ab, ao, none⟩ _ _ rfl⟩
/-- (the model's address of what begins at the very end is the row's own) -/
theorem Rd.dropI {ab n c j : Nat} (h : Rd W vn (.slice (some ⟨ab, 0, none⟩) n c) r) (hj : j ≤ n) : Rd W vn (.slice (if c = j then some ⟨ab, 0, none⟩ else some ⟨ab, j, none⟩) (n - j) (c - j)) (r.drop j) := by
  split
  · next hc =>
    subst hc
    rcases h.1 with ⟨e, _⟩ | ⟨a, cap, e, h1, h2, h3⟩
    · cases e
    · cases e
      have hd : r.drop c = [] := List.drop_eq_nil_of_le h1
      rw [hd]
      refine ⟨.inr ⟨_, c - c, by rw [Nat.sub_eq_zero_of_le h1]; rfl, by simp, by simp, fun i hi => absurd hi (Nat.not_lt_zero i)⟩, fun h0 => absurd rfl h0⟩
  · have := h.drop hj
    rw [Nat.zero_add] at this
    exact this
/-- one number of the slice of the call's own is another now -/
theorem OwnI.set {base : Nat} {w : World} {g n c j : Nat} {l : List Int} (h : OwnI base w (.slice (some ⟨g, 0, none⟩) n c) l) (x : Int) : OwnI base (w.setCell ⟨g, j, none⟩ (.int .i64 x)) (.slice (some ⟨g, 0, none⟩) n c) (l.set j x) := by
  obtain ⟨h0, h | ⟨g', cap, cur, e, hb, hh, h1, h2, h3, h4⟩⟩ := h
  · cases h.1
  · cases e
    refine ⟨by simp, .inr ⟨g, c, cur.setIfInBounds j (.int .i64 x), by simp, hb, at_set hh j _, by simpa using h1, h2, by simpa using h3, ?_⟩⟩
    simp only [List.length_set, Nat.mul_one] at h4 ⊢
    rw [Array.toList_setIfInBounds, List.map_set, ← h4, List.take_set]
    rfl
theorem OwnI.free {base : Nat} {w : World} {g n c j : Nat} {l : List Int} (h : OwnI base w (.slice (some ⟨g, 0, none⟩) n c) l) : w.frozen? ⟨g, j, none⟩ = false := by
  obtain ⟨h0, h | ⟨g', cap, cur, e, hb, hh, _⟩⟩ := h
  · cases h.1
  · cases e; exact at_free hh j
theorem Rd.nil : Rd W vn (.slice none 0 0) [] := ⟨.nil W, fun h => absurd rfl h⟩

/-- a slice of the call's own that grows, and others beside it -/
structure Bag (w : World) (vn : Value) (r : List Int) (L : List (Value × List Int)) (W : World) : Prop where
  gr : w.grownBy W none
  own : OwnI w.heap.size W vn r
  rd : ∀ p ∈ L, Rd W vn p.1 p.2
theorem Bag.hd (h : Bag w vn r ((u, s) :: L) W) : Rd W vn u s := h.rd _ (List.mem_cons_self ..)
theorem Bag.tl (h : Bag w vn r (p :: L) W) : Bag w vn r L W := ⟨h.gr, h.own, fun q hq => h.rd q (List.mem_cons_of_mem _ hq)⟩
theorem Bag.sub (h : Bag w vn r L W) (hs : ∀ p ∈ L', p ∈ L) : Bag w vn r L' W := ⟨h.gr, h.own, fun q hq => h.rd q (hs q hq)⟩
theorem Bag.grown (h : Bag w vn r L W) (hg : W.grownBy W' none) : Bag w vn r L W' := ⟨gb_trans h.gr hg (.inl rfl), h.own.grown hg (by simp), fun q hq => (h.rd q hq).grown hg⟩
theorem Bag.drew (h : Bag w vn r L W) : Bag w vn r L W.drew := ⟨gb_drew h.gr, h.own.drew, h.rd⟩
theorem Bag.app (h : Bag w vn r L W) (ho : OwnI w.heap.size W' vn' s) (hg : W.grownBy W' vn.ownBlock) (ha : vn'.ownBlock = vn.ownBlock ∨ vn'.ownBlock = some W.heap.size) : Bag w vn' s L W' :=
  ⟨gb_ownI h.gr h.own (Nat.le_refl _) hg, ho, fun q hq => (h.rd q hq).app hg ha⟩
theorem Bag.set {g n c j : Nat} (h : Bag w (.slice (some ⟨g, 0, none⟩) n c) r L W) (x : Int) : Bag w (.slice (some ⟨g, 0, none⟩) n c) (r.set j x) L (W.setCell ⟨g, j, none⟩ (.int .i64 x)) :=
  ⟨gb_new h.gr (by have := (h.own.at g (by simp [ownL, Value.ownBlock])).1; exact this) _, h.own.set x, fun q hq => (h.rd q hq).app (vn := .slice (some ⟨g, 0, none⟩) n c) (gb_row (.refl W _) rfl _) (.inl rfl)⟩
theorem Bag.start (hg : w.grownBy W none) (hL : ∀ p ∈ L, IntsAt W p.1 p.2) : Bag w (.slice none 0 0) [] L W :=
  ⟨hg, .nil _ _, fun q hq => ⟨hL q hq, fun h0 a n c e => ⟨ints_block (hL q hq) h0 a n c e, by simp [Value.ownBlock]⟩⟩⟩
/-- an empty slice of the call's own -/
theorem Bag.fresh (h : Bag w vn r L W) : Bag w (.slice (some ⟨W.heap.size, 0, none⟩) 0 0) [] L (W.alloc (.cells #[] 2)) :=
  ⟨gb_alloc h.gr _, (OwnI.empty W).le h.gr.size, fun q hq => (h.rd q hq).fresh (World.grownBy_alloc W _ none) (fun g e => by simp [Value.ownBlock] at e; omega)⟩
/-- one more to read: a new block -/
theorem Bag.add (h : Bag w vn r L W) (l : List Int) (hl : l.length ≤ maxLen) : Bag w vn r ((.slice (some ⟨W.heap.size, 0, none⟩) l.length l.length, l) :: L) (W.alloc (.cells (l.map iv).toArray 2)) :=
  ⟨gb_alloc h.gr _, h.own.grown (World.grownBy_alloc W _ none) (by simp), fun q hq => by
    rcases List.mem_cons.1 hq with rfl | hq
    · refine ⟨ints_of_cells l (at_new W _) hl, fun _ a n c e => ?_⟩
      cases e
      refine ⟨by show W.heap.size < (W.heap.push _).size; simp, fun e2 => ?_⟩
      have := (h.own.at W.heap.size (by simp [ownL]; simpa using e2)).2
      exact absurd this (Nat.lt_irrefl _)
    · exact (h.rd q hq).grown (World.grownBy_alloc W _ none)⟩
/-- the third of three is a new block's one number now -/
theorem Bag.one {p1 p2 p3 : Value × List Int} (h : Bag w vn r [p1, p2, p3] W) (x : Int) : Bag w vn r [p1, p2, (.slice (some ⟨W.heap.size, 0, none⟩) 1 1, [x])] (W.alloc (.cells #[.int .i64 x] 2)) :=
  Bag.sub (L := [(.slice (some ⟨W.heap.size, 0, none⟩) 1 1, [x]), p1, p2, p3]) (h.add [x] (by show 1 ≤ maxLen; unfold maxLen; decide)) (by
    intro p hp
    simp only [List.mem_cons, List.not_mem_nil, or_false] at hp ⊢
    rcases hp with rfl | rfl | rfl
    · exact .inr (.inl rfl)
    · exact .inr (.inr (.inl rfl))
    · exact .inl rfl)
theorem Bag.more (h : Bag w vn r L W) (hp : Rd W vn u s) : Bag w vn r ((u, s) :: L) W :=
  ⟨h.gr, h.own, fun q hq => by
    rcases List.mem_cons.1 hq with rfl | hq
    · exact hp
    · exact h.rd q hq⟩
end
end Go.Proofs.Ythobbekocimcnaa
end
section
set_option linter.unusedSimpArgs false
set_option linter.unusedVariables false
namespace Go.Proofs.Ythobbekocimcnaa
set_option maxRecDepth 100000
open Go.RowKit

theorem raAll_in {c l : Int} (hc : 0 ≤ c ∧ c ≤ 10000) (hl : 0 ≤ l ∧ l ≤ 1000) : ∀ vs ts : List Int, (∀ v ∈ vs, 0 ≤ v ∧ v ≤ 1099511627776) → (∀ t ∈ ts, 1 ≤ t ∧ t ≤ 1099511627776) → raAll c l vs ts = true
  | [], _, _, _ => by simp [raAll]
  | _ :: _, [], _, _ => by simp [raAll]
  | v :: vs, t :: ts, hv, ht => by
    simp only [raAll, Bool.and_eq_true]
    exact ⟨raOk_iff.2 ⟨hc, hv v (List.mem_cons_self ..), ht t (List.mem_cons_self ..), hl⟩, raAll_in hc hl vs ts (fun a h => hv a (List.mem_cons_of_mem _ h)) (fun a h => ht a (List.mem_cons_of_mem _ h))⟩
theorem La.take {s : La} (h : s.Ok) {vs : List Int} (hl : vs.length = s.tg.length) (hv : ∀ v ∈ vs, 0 ≤ v ∧ v ≤ 1099511627776) : s.may vs = true ∧ s.want vs = raTop s.n s.tol vs s.tg :=
  La.most h hl hv (raAll_in (La.n_in h) h.tol vs s.tg hv h.tg)
theorem La.no_len {s : La} {vs : List Int} (h : vs.length ≠ s.tg.length) : s.may vs = false := by
  unfold La.may; rw [raMost_len (.inr h)]
theorem La.no_head {s : La} {r : Int} {vs : List Int} (hr : ¬ (0 ≤ r ∧ r ≤ 1099511627776)) : s.may (r :: vs) = false := by
  unfold La.may
  cases ht : s.tg with
  | nil => rw [raMost_len (.inr (by simp))]
  | cons t ts =>
    rw [raMost_bad]
    simp only [raAll]
    have : raOk s.n r t s.tol = false := by
      cases hb : raOk s.n r t s.tol with
      | false => rfl
      | true => exact absurd (raOk_iff.1 hb).2.1 hr
    rw [this]; rfl
theorem OwnI.made {base : Nat} {w : World} {v : Value} {l : List Int} (h : OwnI base w v l) (hl : 0 < l.length) : ∃ g c, v = .slice (some ⟨g, 0, none⟩) l.length c ∧ base ≤ g := by
  obtain ⟨h0, h | ⟨g, cap, cur, e, hb, hh, h1⟩⟩ := h
  · have h2 : l.length = 0 := by simpa using h.2
    omega
  · exact ⟨g, cap, e, hb⟩
/-- two values, of as many metrics as there are -/
theorem two_in {m : Nat} {x y : Int} (hx : 0 ≤ x ∧ x ≤ 1099511627776) (hy : 0 ≤ y ∧ y ≤ 1099511627776) : ∀ v ∈ [x, y].take m, 0 ≤ v ∧ v ≤ 1099511627776 := by
  intro v hv
  have hv := List.mem_of_mem_take hv
  simp only [List.mem_cons, List.mem_singleton, List.not_mem_nil, or_false] at hv
  rcases hv with rfl | rfl <;> assumption
theorem two_len {m : Nat} {x y : Int} (hm : m ≤ 2) : ([x, y].take m).length = m := by rw [List.length_take]; simp; omega
theorem none_may : ((none : Option ByteArray).getD ⟨#[]⟩).toList.isEmpty = true := by decide +kernel
theorem OwnI.cell0 {base : Nat} {w : World} {g n c : Nat} {l : List Int} (h : OwnI base w (.slice (some ⟨g, 0, none⟩) n c) l) {m : Nat} (hl : l.length = m) (hm : 1 ≤ m) : ∃ x, w.cell? ⟨g, 0, none⟩ = some x := by
  obtain ⟨ab, ao, e, -, -, hc⟩ := h.ints.cell (i := 0) (by omega)
  cases e
  exact ⟨_, hc⟩
theorem La.no_set {s : La} {r : Int} {vs : List Int} {m : Nat} (hl : vs.length = m) (hm : 0 < m) (hr : ¬ (0 ≤ r ∧ r ≤ 1099511627776)) : s.may (vs.set 0 r) = false := by
  cases vs with
  | nil => simp at hl; omega
  | cons v vs => exact La.no_head hr
theorem size_lset (w : World) (p : Addr) (v : Value) : (w.setCell p v).heap.size = w.heap.size := by simp [World.setCell]
/-- a Law by a configuration, whatever it has gone through -/
structure Lof (c : Conf) (m : Nat) (s : La) : Prop where
  tg : s.tg = tgOf c m
  tol : s.tol = c.tol
  r : s.po.r = rt c
theorem lof_new (c : Conf) (m u d : Nat) (f : Int) : Lof c m (laOf c m u d f) := ⟨rfl, rfl, rfl⟩
theorem Lof.next {c : Conf} {m : Nat} {s : La} (h : Lof c m s) (ho : s.Ok) (vs : List Int) : Lof c m (s.next vs) := by
  refine ⟨h.tg, h.tol, ?_⟩
  have e : (s.next vs).po.r = s.po.r := by
    show (s.po.put (s.come vs)).2.r = s.po.r
    rw [Po.put_yes (x := s.come vs) (Po.lim_in ho.po _)]
  rw [e]; exact h.r
theorem Lof.hold {c : Conf} {m : Nat} {s : La} (h : Lof c m s) (ho : s.Ok) : Lof c m s.hold := by
  refine ⟨h.tg, h.tol, ?_⟩
  have e : s.hold.po.r = s.po.r := by
    show (s.po.put s.n).2.r = s.po.r
    rw [Po.put_yes (Po.in_iff.2 ho.n)]
  rw [e]; exact h.r
theorem Lof.come {c : Conf} {m : Nat} {s : La} (h : Lof c m s) (ho : s.Ok) (vs : List Int) : c.min ≤ s.come vs ∧ s.come vs ≤ c.max := by
  have := La.come_in ho vs
  rw [h.r] at this; exact this
theorem tg_cell {W : World} {x m j : Nat} {c : Conf} {t : TypeId} {z : Int} (h : W.heap[x]? = some (.cells c.cells t)) (hm : m ≤ 4) (hz : (tgOf c m)[j]? = some z) : W.cell? ⟨x, 7 + j, none⟩ = some (.int .i64 z) :=
  (tgOf_at (conf_tg c) h hm).cell' hz
theorem La.next_tg (s : La) (vs : List Int) : (s.next vs).tg = s.tg := rfl
theorem La.hold_tg (s : La) : s.hold.tg = s.tg := rfl
end Go.Proofs.Ythobbekocimcnaa
end
section
namespace Go.Proofs.Ythobbekocimcnaa
set_option maxRecDepth 100000
open Go.ChangeShapes Go.WideShapes Go.ChangeAt Go.RowKit
section
variable {P : Program} {H : Type} {enc : TypeId × Value → H} {w : World} {base : Nat} {spare : Nat → Bool} {held : Bool}
theorem trodAll_five {t0 t1 t2 t3 t4 : TypeId} {args : Array Value} {ds : List (DataW H)} {ps : List MemPlace} (h : DataW.TrodAll enc P w base spare held [t0, t1, t2, t3, t4] args.toList ds ps) :
    ∃ v0 v1 v2 v3 v4 d0 d1 d2 d3 d4 p0 p1 p2 p3 p4, args = #[v0, v1, v2, v3, v4] ∧ ds = [d0, d1, d2, d3, d4] ∧ ps = p0 ++ p1 ++ p2 ++ p3 ++ p4 ∧ DataW.Trod enc P w base spare held t0 v0 d0 p0 ∧ DataW.Trod enc P w base spare held t1 v1 d1 p1 ∧ DataW.Trod enc P w base spare held t2 v2 d2 p2 ∧ DataW.Trod enc P w base spare held t3 v3 d3 p3 ∧ DataW.Trod enc P w base spare held t4 v4 d4 p4 := by
  obtain ⟨v0, vs0, d0, ds0, p0, q0, hargs, rfl, rfl, h0, k0⟩ := trodAll_cons h
  obtain ⟨v1, vs1, d1, ds1, p1, q1, rfl, rfl, rfl, h1, k1⟩ := trodAll_cons k0
  obtain ⟨v2, vs2, d2, ds2, p2, q2, rfl, rfl, rfl, h2, k2⟩ := trodAll_cons k1
  obtain ⟨v3, vs3, d3, ds3, p3, q3, rfl, rfl, rfl, h3, k3⟩ := trodAll_cons k2
  obtain ⟨v4, vs4, d4, ds4, p4, q4, rfl, rfl, rfl, h4, k4⟩ := trodAll_cons k3
  obtain ⟨rfl, rfl, rfl⟩ := trodAll_nil k4
  exact ⟨v0, v1, v2, v3, v4, d0, d1, d2, d3, d4, p0, p1, p2, p3, p4, by cases args; simp_all, rfl, by simp, h0, h1, h2, h3, h4⟩
theorem trodAll_six {t0 t1 t2 t3 t4 t5 : TypeId} {args : Array Value} {ds : List (DataW H)} {ps : List MemPlace} (h : DataW.TrodAll enc P w base spare held [t0, t1, t2, t3, t4, t5] args.toList ds ps) :
    ∃ v0 v1 v2 v3 v4 v5 d0 d1 d2 d3 d4 d5 p0 p1 p2 p3 p4 p5, args = #[v0, v1, v2, v3, v4, v5] ∧ ds = [d0, d1, d2, d3, d4, d5] ∧ ps = p0 ++ p1 ++ p2 ++ p3 ++ p4 ++ p5 ∧ DataW.Trod enc P w base spare held t0 v0 d0 p0 ∧ DataW.Trod enc P w base spare held t1 v1 d1 p1 ∧ DataW.Trod enc P w base spare held t2 v2 d2 p2 ∧ DataW.Trod enc P w base spare held t3 v3 d3 p3 ∧ DataW.Trod enc P w base spare held t4 v4 d4 p4 ∧ DataW.Trod enc P w base spare held t5 v5 d5 p5 := by
  obtain ⟨v0, vs0, d0, ds0, p0, q0, hargs, rfl, rfl, h0, k0⟩ := trodAll_cons h
  obtain ⟨v1, vs1, d1, ds1, p1, q1, rfl, rfl, rfl, h1, k1⟩ := trodAll_cons k0
  obtain ⟨v2, vs2, d2, ds2, p2, q2, rfl, rfl, rfl, h2, k2⟩ := trodAll_cons k1
  obtain ⟨v3, vs3, d3, ds3, p3, q3, rfl, rfl, rfl, h3, k3⟩ := trodAll_cons k2
  obtain ⟨v4, vs4, d4, ds4, p4, q4, rfl, rfl, rfl, h4, k4⟩ := trodAll_cons k3
  obtain ⟨v5, vs5, d5, ds5, p5, q5, rfl, rfl, rfl, h5, k5⟩ := trodAll_cons k4
  obtain ⟨rfl, rfl, rfl⟩ := trodAll_nil k5
  exact ⟨v0, v1, v2, v3, v4, v5, d0, d1, d2, d3, d4, d5, p0, p1, p2, p3, p4, p5, by cases args; simp_all, rfl, by simp, h0, h1, h2, h3, h4, h5⟩
end
end Go.Proofs.Ythobbekocimcnaa
end
section
set_option linter.unusedSimpArgs false
set_option linter.unusedVariables false
namespace Go.Proofs.Ythobbekocimcnaa
set_option maxRecDepth 100000
open Go.RowKit

theorem band_draw {t tol : Int} (ht : 1 ≤ t ∧ t ≤ 2000) (hl : 0 ≤ tol ∧ tol ≤ 299) : ∃ (A P P9 lo B Q hi d0 : Int) (D : Nat), IntKind.i64.wrap (1000 - tol) = A ∧ IntKind.i64.wrap (t * A) = P ∧ IntKind.i64.wrap (P + 999) = P9 ∧ P9.tdiv 1000 = lo ∧ P9 / 1000 = lo ∧ IntKind.i64.wrap lo = lo ∧
    IntKind.i64.wrap (1000 + tol) = B ∧ IntKind.i64.wrap (t * B) = Q ∧ Q.tdiv 1000 = hi ∧ Q / 1000 = hi ∧ IntKind.i64.wrap hi = hi ∧ IntKind.i64.wrap (hi - lo) = d0 ∧ IntKind.i64.wrap (d0 + 1) = (D : Int) ∧ IntKind.u64.wrap (D : Int) = (D : Int) ∧ ¬ (D : Int) = 0 ∧ ¬ D = 0 ∧ 0 ≤ P9 ∧ P9 ≤ 3000000 ∧ 0 ≤ Q ∧ Q ≤ 3000000 ∧ 0 ≤ lo ∧ lo ≤ hi ∧ hi ≤ 3000 ∧
    ∀ q : Int, ∃ z v : Int, (IntKind.u64.wrap q).tmod (D : Int) = z ∧ IntKind.u64.wrap z = z ∧ IntKind.i64.wrap z = z ∧ IntKind.i64.wrap (lo + z) = v ∧ 0 ≤ v ∧ v ≤ 3000 ∧ raIn v t tol = true := by
  have p1 : t * (1000 - tol) ≤ t * 1000 := Int.mul_le_mul_of_nonneg_left (by omega) (by omega)
  have p0 : 0 ≤ t * (1000 - tol) := Int.mul_nonneg (by omega) (by omega)
  have q1 : t * 1000 ≤ t * (1000 + tol) := Int.mul_le_mul_of_nonneg_left (by omega) (by omega)
  have q2 : t * (1000 + tol) ≤ 2000 * 1299 := Int.mul_le_mul ht.2 (by omega) (by omega) (by omega)
  obtain ⟨P, hP⟩ : ∃ P, t * (1000 - tol) = P := ⟨_, rfl⟩
  obtain ⟨Q, hQ⟩ : ∃ Q, t * (1000 + tol) = Q := ⟨_, rfl⟩
  have e3 : (P + 999).tdiv 1000 = (P + 999) / 1000 := Int.tdiv_eq_ediv_of_nonneg (by omega)
  have e4 : Q.tdiv 1000 = Q / 1000 := Int.tdiv_eq_ediv_of_nonneg (by omega)
  obtain ⟨D, hD⟩ : ∃ D : Nat, Q / 1000 - (P + 999) / 1000 + 1 = (D : Int) := ⟨(Q / 1000 - (P + 999) / 1000 + 1).toNat, by omega⟩
  refine ⟨1000 - tol, P, P + 999, (P + 999) / 1000, 1000 + tol, Q, Q / 1000, Q / 1000 - (P + 999) / 1000, D, IntWalk.i64_in _ (by omega), ?_, IntWalk.i64_in _ (by omega), e3, rfl, IntWalk.i64_in _ (by omega), IntWalk.i64_in _ (by omega), ?_, e4, rfl, IntWalk.i64_in _ (by omega), IntWalk.i64_in _ (by omega), ?_, IntWalk.u64_in _ (by omega), by omega, by omega, by omega, by omega, by omega, by omega, by omega, by omega, by omega, fun q => ?_⟩
  · rw [hP]; exact IntWalk.i64_in _ (by omega)
  · rw [hQ]; exact IntWalk.i64_in _ (by omega)
  · rw [hD]; exact IntWalk.i64_in _ (by omega)
  · obtain ⟨z, z0, z1, hz⟩ := umod_int q D (by omega)
    refine ⟨z, (P + 999) / 1000 + z, hz, IntWalk.u64_in _ (by omega), IntWalk.i64_in _ (by omega), IntWalk.i64_in _ (by omega), by omega, by omega, ?_⟩
    unfold raIn
    rw [raMay_iff.2 ⟨by omega, by omega, by omega⟩, raNear_iff.2 ⟨by rw [hP]; omega, by rw [hQ]; omega⟩]; rfl
/-- the values so far, each within its band -/
structure Bv (ts : List Int) (tol : Int) (k : Nat) (vs : List Int) : Prop where
  len : vs.length = k
  bd : ∀ v ∈ vs, 0 ≤ v ∧ v ≤ 1099511627776
  near : ∀ (i : Nat) (v t : Int), vs[i]? = some v → ts[i]? = some t → raIn v t tol = true
theorem Bv.nil (ts : List Int) (tol : Int) : Bv ts tol 0 [] := ⟨rfl, fun v h => (by cases h), fun i v t h => (by simp at h)⟩
theorem Bv.snoc {ts : List Int} {tol : Int} {k : Nat} {vs : List Int} {v t : Int} (h : Bv ts tol k vs) (ht : ts[k]? = some t) (h0 : 0 ≤ v) (h1 : v ≤ 3000) (hb : raIn v t tol = true) : Bv ts tol (k + 1) (vs ++ [v]) := by
  refine ⟨by rw [List.length_append, h.len]; rfl, fun x hx => ?_, fun i x y hx hy => ?_⟩
  · rcases List.mem_append.1 hx with hx | hx
    · exact h.bd x hx
    · rw [List.mem_singleton.1 hx]; omega
  · rw [List.getElem?_append] at hx
    split at hx
    · exact h.near i x y hx hy
    · next hge =>
      have hl := h.len
      have : i = k := by
        have := (List.getElem?_eq_some_iff.1 hx).1
        simp at this; omega
      subst this
      rw [hl, Nat.sub_self] at hx
      cases hx
      rw [ht] at hy; cases hy; exact hb
theorem lof_flat {c : Conf} {m u d : Nat} {f : Int} : Flat (laOf c m u d f) f := ⟨rfl, fun x hx => (by cases hx), fun x hx => List.mem_singleton.1 (show x ∈ [f] from hx)⟩
theorem Bv.want {s : La} (h : s.Ok) {f : Int} (hf : Flat s f) {m : Nat} {vs : List Int} (hv : Bv s.tg s.tol m vs) (hm : s.tg.length = m) (h1 : 1 ≤ m) : s.may vs = true ∧ s.want vs = f := by
  obtain ⟨h2, h3⟩ := La.take h (hv.len.trans hm.symm) hv.bd
  refine ⟨h2, ?_⟩
  rw [h3, raTop_band (La.n_in h) vs s.tg (hv.len.trans hm.symm) (fun e => by have := hv.len; rw [e] at this; simp at this; omega) hv.near, hf.n]
end Go.Proofs.Ythobbekocimcnaa
end
section
set_option linter.unusedSimpArgs false
set_option linter.unusedVariables false
namespace Go.Proofs.Ythobbekocimcnaa
set_option maxRecDepth 100000
open Go.RowKit

section
variable {w W W' : World} {v1 v1' v2 v2' u : Value} {l1 l1' l2 l2' r s : List Int} {L L' : List (Value × List Int)} {p : Value × List Int}
theorem Rd.beside (h1 : Rd W' v1' u r) (h2 : Rd W v2 u r) : Rd W' v2 u r := ⟨h1.1, fun h0 a n c e => ⟨(h1.2 h0 a n c e).1, (h2.2 h0 a n c e).2⟩⟩
/-- two slices of the call's own that grow, and others beside them -/
structure Bag2 (w : World) (v1 : Value) (l1 : List Int) (v2 : Value) (l2 : List Int) (L : List (Value × List Int)) (W : World) : Prop where
  gr : w.grownBy W none
  o1 : OwnI w.heap.size W v1 l1
  o2 : OwnI w.heap.size W v2 l2
  ne : ∀ g, v1.ownBlock = some g → v2.ownBlock ≠ some g
  rd : ∀ p ∈ L, Rd W v1 p.1 p.2 ∧ Rd W v2 p.1 p.2
theorem Bag2.swap (h : Bag2 w v1 l1 v2 l2 L W) : Bag2 w v2 l2 v1 l1 L W := ⟨h.gr, h.o2, h.o1, fun g e e2 => h.ne g e2 e, fun p hp => ⟨(h.rd p hp).2, (h.rd p hp).1⟩⟩
theorem Bag2.start (w : World) : Bag2 w (.slice none 0 0) [] (.slice none 0 0) [] [] w := ⟨.refl w none, .nil _ _, .nil _ _, fun g e => by simp [Value.ownBlock] at e, fun p hp => by cases hp⟩
theorem Bag2.drew (h : Bag2 w v1 l1 v2 l2 L W) : Bag2 w v1 l1 v2 l2 L W.drew := ⟨gb_drew h.gr, h.o1.drew, h.o2.drew, h.ne, h.rd⟩
theorem Bag2.none (h : Bag2 w v1 l1 v2 l2 L W) : Bag2 w v1 l1 v2 l2 [] W := ⟨h.gr, h.o1, h.o2, h.ne, fun p hp => by cases hp⟩
theorem Bag2.app (h : Bag2 w v1 l1 v2 l2 L W) (ho : OwnI w.heap.size W' v1' s) (hg : W.grownBy W' v1.ownBlock) (ha : v1'.ownBlock = v1.ownBlock ∨ v1'.ownBlock = some W.heap.size) : Bag2 w v1' s v2 l2 L W' :=
  ⟨gb_ownI h.gr h.o1 (Nat.le_refl _) hg, ho, h.o2.grown hg (fun g e e2 => h.ne g e2.symm e), fun g e e2 => by
    rcases ha with ha | ha
    · exact h.ne g (ha ▸ e) e2
    · rw [ha] at e
      cases e
      exact absurd (h.o2.at W.heap.size (by simp [ownL, e2])).2 (Nat.lt_irrefl _),
   fun p hp => ⟨(h.rd p hp).1.app hg ha, ((h.rd p hp).1.app hg ha).beside (h.rd p hp).2⟩⟩
theorem Bag2.app2 (h : Bag2 w v1 l1 v2 l2 L W) (ho : OwnI w.heap.size W' v2' s) (hg : W.grownBy W' v2.ownBlock) (ha : v2'.ownBlock = v2.ownBlock ∨ v2'.ownBlock = some W.heap.size) : Bag2 w v1 l1 v2' s L W' := (h.swap.app ho hg ha).swap
theorem Bag2.hd (h : Bag2 w v1 l1 v2 l2 ((u, r) :: L) W) : IntsAt W u r := (h.rd _ (List.mem_cons_self ..)).1.1
theorem Bag2.tl (h : Bag2 w v1 l1 v2 l2 (p :: L) W) : Bag2 w v1 l1 v2 l2 L W := ⟨h.gr, h.o1, h.o2, h.ne, fun q hq => h.rd q (List.mem_cons_of_mem _ hq)⟩
theorem rd_new {base : Nat} {v : Value} {l : List Int} (x : Int) (h : OwnI base W v l) : Rd (W.alloc (.cells #[.int .i64 x] 2)) v (.slice (some ⟨W.heap.size, 0, Option.none⟩) 1 1) [x] := by
  refine ⟨ints_of_cells [x] (at_new W _) (by show 1 ≤ maxLen; unfold maxLen; decide), fun _ a n c e => ?_⟩
  cases e
  refine ⟨by show W.heap.size < (W.heap.push _).size; simp, fun e2 => ?_⟩
  exact absurd (h.at W.heap.size (by simp [ownL]; simpa using e2)).2 (Nat.lt_irrefl _)
/-- one more to read: a new block of one number -/
theorem Bag2.one (h : Bag2 w v1 l1 v2 l2 L W) (x : Int) : Bag2 w v1 l1 v2 l2 ((.slice (some ⟨W.heap.size, 0, Option.none⟩) 1 1, [x]) :: L) (W.alloc (.cells #[.int .i64 x] 2)) :=
  ⟨gb_alloc h.gr _, h.o1.grown (World.grownBy_alloc W _ Option.none) (by simp), h.o2.grown (World.grownBy_alloc W _ Option.none) (by simp), h.ne, fun q hq => by
    rcases List.mem_cons.1 hq with rfl | hq
    · exact ⟨rd_new x h.o1, rd_new x h.o2⟩
    · exact ⟨(h.rd q hq).1.grown (World.grownBy_alloc W _ Option.none), (h.rd q hq).2.grown (World.grownBy_alloc W _ Option.none)⟩⟩
end
end Go.Proofs.Ythobbekocimcnaa
end
section
set_option linter.unusedSimpArgs false
set_option linter.unusedVariables false
namespace Go.Proofs.Ythobbekocimcnaa
set_option maxRecDepth 100000
open Go.RowKit

structure Uv (k : Nat) (va vb : List Int) : Prop where
  la : va.length = k
  lb : vb.length = k
  un : Under va vb
  ba : ∀ v ∈ va, 0 ≤ v ∧ v ≤ 1099511627776
  bb : ∀ v ∈ vb, 0 ≤ v ∧ v ≤ 1099511627776
theorem Uv.nil : Uv 0 [] [] := ⟨rfl, rfl, ⟨rfl, fun i a b h => (by simp at h)⟩, fun v h => (by cases h), fun v h => (by cases h)⟩
theorem Uv.snoc {k : Nat} {va vb : List Int} {x y : Int} (h : Uv k va vb) (h0 : 0 ≤ x) (h1 : x ≤ y) (h2 : y ≤ 6000) : Uv (k + 1) (va ++ [x]) (vb ++ [y]) := by
  have e1 := h.la; have e2 := h.lb
  refine ⟨by rw [List.length_append, h.la]; rfl, by rw [List.length_append, h.lb]; rfl, ⟨by rw [List.length_append, List.length_append, h.la, h.lb]; rfl, fun i a b ha hb => ?_⟩, fun v hv => ?_, fun v hv => ?_⟩
  · rw [List.getElem?_append] at ha hb
    split at ha
    · rw [if_pos (by omega)] at hb
      exact h.un.2 i a b ha hb
    · next hi =>
      rw [if_neg (by omega)] at hb
      have hl := (List.getElem?_eq_some_iff.1 ha).1
      simp at hl
      rw [hl] at ha
      rw [show i - vb.length = 0 by omega] at hb
      cases ha; cases hb; exact h1
  · rcases List.mem_append.1 hv with hv | hv
    · exact h.ba v hv
    · rw [List.mem_singleton.1 hv]; omega
  · rcases List.mem_append.1 hv with hv | hv
    · exact h.bb v hv
    · rw [List.mem_singleton.1 hv]; omega
theorem below_new (c : Conf) (m u d : Nat) {x y : Int} (h : x ≤ y) : Below2 (laOf c m u d x) (laOf c m u d y) :=
  ⟨rfl, rfl, rfl, rfl, rfl, ⟨rfl, fun i a b h => (by cases i <;> cases h)⟩, ⟨rfl, fun i a b ha hb => by
    match i, ha, hb with
    | 0, ha, hb => cases ha; cases hb; exact h⟩, h⟩
theorem Below2.epoch {s t : La} (hs : s.Ok) (ht : t.Ok) (h : Below2 s t) {m : Nat} {va vb : List Int} (hv : Uv m va vb) (l1 : s.tg.length = m) (l2 : t.tg.length = m) :
    s.may va = true ∧ t.may vb = true ∧ Below2 (s.next va) (t.next vb) ∧ s.come va ≤ t.come vb := by
  obtain ⟨a1, a2⟩ := La.take hs (hv.la.trans l1.symm) hv.ba
  obtain ⟨b1, b2⟩ := La.take ht (hv.lb.trans l2.symm) hv.bb
  have hn := Below2.next hs ht h hv.un a2 b2 (fun v h => (hv.ba v h).1) (fun v h => (hv.bb v h).2)
  exact ⟨a1, b1, hn, hn.n⟩
end Go.Proofs.Ythobbekocimcnaa
end
section
set_option linter.unusedSimpArgs false
namespace Go.Proofs.Ythobbekocimcnaa
set_option maxRecDepth 100000
open Go.ChangeShapes Go.WideShapes Go.ChangeAt Go.RowKit Go.Deep

/-- a slice whose n cells are g 0, g 1 .. -/
def OneAt (w : World) (v : Value) (n : Nat) (g : Nat → Value) : Prop :=
  (v = .slice none 0 0 ∧ n = 0) ∨ ∃ a cap, v = .slice (some a) n cap ∧ n ≤ cap ∧ cap ≤ maxLen ∧ ∀ i, i < n → w.cell? (a.add i) = some (g i)
theorem OneAt.grown {w w1 : World} {v : Value} {n : Nat} {g : Nat → Value} (h : OneAt w v n g) (hg : w.grownBy w1 none) : OneAt w1 v n g := by
  rcases h with h | ⟨a, cap, rfl, h1, h2, h3⟩
  · exact .inl h
  · exact .inr ⟨a, cap, rfl, h1, h2, fun i hi => hg.cell (h3 i hi) (by simp)⟩
theorem OneAt.len {w : World} {p : Option Addr} {c n : Nat} {g : Nat → Value} (h : OneAt w (.slice p n c) n g) : n ≤ maxLen := by
  rcases h with ⟨h, rfl⟩ | ⟨a, cap, h, h1, h2, _⟩
  · exact Nat.zero_le _
  · exact Nat.le_trans h1 h2
theorem OneAt.cell {w : World} {p : Option Addr} {c n : Nat} {g : Nat → Value} (h : OneAt w (.slice p n c) n g) {i : Nat} (hi : i < n) :
    ∃ ab ao, p = some ⟨ab, ao, none⟩ ∧ ∀ j, j < n → w.cell? ⟨ab, ao + j, none⟩ = some (g j) := by
  rcases h with ⟨_, rfl⟩ | ⟨⟨ab, ao, asp⟩, cap, e, _, _, h3⟩
  · omega
  · cases e
    have h0 := h3 0 (by omega)
    have hsp : asp = none := by simpa [Addr.add] using World.cell?_spot h0
    subst hsp
    refine ⟨ab, ao, rfl, fun j hj => ?_⟩
    have := h3 j hj
    unfold Addr.add at this
    split at this
    · next h => subst h; simpa using this
    · simpa using this
section
variable {H : Type} {enc : TypeId × Value → H} {w : World} {base : Nat} {d : DataW H} {ps : List MemPlace} {v : Value} {t e : TypeId}
theorem open_boolrow (ht : Try.prog.underlying t = some (.slice e)) (he : Try.prog.underlying e = some .bool) (hc : Try.prog.cellsOf e = 1)
    (hval : Value.okWide Try.prog w .any base t v) (h : DataW.Trod enc Try.prog w 0 (fun _ => true) true t v d ps) :
    ∃ (f : Nat → Bool) (n : Nat) (p : Option Addr) (c : Nat), v = .slice p n c ∧ OneAt w v n (fun i => .bool (f i)) := by
  obtain ⟨a0, len, cap, rfl⟩ := okWide_slice ht hval
  obtain ⟨fuel, hf⟩ := h
  rcases open_bools ht he hc hf with ⟨hcs, _⟩ | ⟨a, len', cap', B, hcs, _, hl, hm, _, hcell⟩
  · simp [Value.cells] at hcs
    obtain ⟨rfl, rfl, rfl⟩ := hcs
    exact ⟨fun _ => false, 0, none, 0, rfl, .inl ⟨rfl, rfl⟩⟩
  · simp [Value.cells] at hcs
    obtain ⟨rfl, rfl, rfl⟩ := hcs
    exact ⟨B, len, some a, cap, rfl, .inr ⟨a, cap, rfl, hl, hm, fun i hi => hcell i (by omega)⟩⟩
theorem open_introw (ht : Try.prog.underlying t = some (.slice e)) (he : Try.prog.underlying e = some (.int .i64)) (hc : Try.prog.cellsOf e = 1)
    (hval : Value.okWide Try.prog w .any base t v) (h : DataW.Trod enc Try.prog w 0 (fun _ => true) true t v d ps) :
    ∃ (f : Nat → Int) (n : Nat) (p : Option Addr) (c : Nat), v = .slice p n c ∧ OneAt w v n (fun i => .int .i64 (f i)) := by
  obtain ⟨a0, len, cap, rfl⟩ := okWide_slice ht hval
  obtain ⟨fuel, hf⟩ := h
  rcases open_ints ht he hc hf with ⟨hcs, _⟩ | ⟨a, len', cap', zs, hcs, _, hl, hm, hz, _, hcell, _⟩
  · simp [Value.cells] at hcs
    obtain ⟨rfl, rfl, rfl⟩ := hcs
    exact ⟨fun _ => 0, 0, none, 0, rfl, .inl ⟨rfl, rfl⟩⟩
  · simp [Value.cells] at hcs
    obtain ⟨rfl, rfl, rfl⟩ := hcs
    have hz' : zs.length = cap := by simpa using hz
    exact ⟨fun i => zs.getD i 0, len, some a, cap, rfl, .inr ⟨a, cap, rfl, hl, hm, fun i hi => hcell i (by first | omega | (simp; omega))⟩⟩
end
end Go.Proofs.Ythobbekocimcnaa
end
