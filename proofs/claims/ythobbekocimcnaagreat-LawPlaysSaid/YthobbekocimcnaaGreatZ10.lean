/-
  What the laws of policy have in common: a made configuration's rates may be; a number that is made one within its ends. No condition.
  Contract: the law's own examples: the program tells what the document says of a few. And: what a walk keeps of a Law of the call's own, beside a configuration. No condition.
  A slice of numbers that a call makes and appends to, and others that it only reads meanwhile. No condition. Nothing of the program's functions is named here.
  What the laws of package law have in common: values that may be are taken, others are not; a slice of the call's own. No condition.
  Contracts for the document's Calm: the object, its inner functions, New, Set. The condition of a call: the object lies there, a slice reads as numbers.
  Contract for the document's Calm: Next. The condition: the object lies there.
-/
import Derived.Test.YthobbekocimcnaaGreatZ9
import Derived.Test.YthobbekocimcnaaGreatZ8
import Derived.Test.YthobbekocimcnaaGreatZ2
import Derived.Test.YthobbekocimcnaaGreatZ7
import Derived.Test.YthobbekocimcnaaGreatZ6
section
set_option linter.unusedSimpArgs false
set_option linter.unusedVariables false
namespace Go.Proofs.YthobbekocimcnaaGreat
set_option maxRecDepth 100000
open Go.RowKit

theorem fine_ok {c : Conf} (h : Fine c) : (rt c).Ok := by
  have a1 := h.podsup; have a2 := h.pctup; have a3 := h.podsdown; have a4 := h.pctdown; have a5 := h.period; have a6 := h.min; have a7 := h.max
  exact ⟨by show 1 ≤ c.podsup ∧ c.podsup ≤ 1000; omega, by show 1 ≤ c.pctup ∧ c.pctup ≤ 1000; omega, by show 1 ≤ c.podsdown ∧ c.podsdown ≤ 1000; omega, by show 1 ≤ c.pctdown ∧ c.pctdown ≤ 100; omega, by show 1 ≤ c.period ∧ c.period ≤ 60; omega, by show 1 ≤ c.min ∧ c.min ≤ 10000; omega, by show c.min ≤ c.max ∧ c.max ≤ 10000; omega⟩
theorem fine_may {c : Conf} (h : Fine c) : (rt c).may = true := Rt.may_iff.2 (fine_ok h)
theorem in_of {r : Rt} {x : Int} (h1 : r.mn ≤ x) (h2 : x ≤ r.mx) : inR r x = true := by
  unfold inR; rw [decide_eq_true h1, decide_eq_true h2]; rfl
theorem in_le {r : Rt} {x : Int} (h : inR r x = true) : r.mn ≤ x ∧ x ≤ r.mx := by
  unfold inR at h
  simpa using h
/-- what 'c.Min + int(uint(x) % uint(c.Max - c.Min + 1))' is reckoned from -/
theorem draw_in {c : Conf} (h : Fine c) : ∃ (d0 : Int) (D : Nat), IntKind.i64.wrap (c.max - c.min) = d0 ∧ IntKind.i64.wrap (d0 + 1) = (D : Int) ∧ IntKind.u64.wrap (D : Int) = (D : Int) ∧ ¬ (D : Int) = 0 ∧
    ∀ x : Int, ∃ z f : Int, (IntKind.u64.wrap x).tmod (D : Int) = z ∧ IntKind.u64.wrap z = z ∧ IntKind.i64.wrap z = z ∧ IntKind.i64.wrap (c.min + z) = f ∧ c.min ≤ f ∧ f ≤ c.max := by
  have a6 := h.min; have a7 := h.max
  obtain ⟨D, hD⟩ : ∃ D : Nat, c.max - c.min + 1 = (D : Int) := ⟨(c.max - c.min + 1).toNat, by omega⟩
  refine ⟨c.max - c.min, D, IntWalk.i64_in _ (by omega), ?_, IntWalk.u64_in _ (by omega), by omega, fun x => ?_⟩
  · rw [hD]; exact IntWalk.i64_in _ (by omega)
  · obtain ⟨z, z0, z1, hz⟩ := umod_int x D (by omega)
    exact ⟨z, c.min + z, hz, IntWalk.u64_in _ (by omega), IntWalk.i64_in _ (by omega), IntWalk.i64_in _ (by omega), by omega, by omega⟩
theorem bounds_in {r : Rt} (h : r.Ok) {x : Int} (h1 : 0 ≤ x) (h2 : x ≤ 10000) : r.bounds x = (r.lo x, r.hi x) := if_pos ⟨Rt.may_iff.2 h, h1, h2⟩
end Go.Proofs.YthobbekocimcnaaGreat
end
section
set_option linter.unusedSimpArgs false
set_option linter.unusedVariables false
namespace Go.Proofs.YthobbekocimcnaaGreat
set_option maxRecDepth 100000
open Go.RowKit

/-- New: none -/
theorem lnew_no (c : Conf) (first : Int) (h0 : ((st22 c).getD ⟨#[]⟩).toList.isEmpty = true) (h : ¬ ((rt c).may = true ∧ inR (rt c) first = true)) (w : World) :
    Calls Tryz.prog 5 #[cf c, .int .i64 first] w fun e w' => e = .returned (.pointer none) ∧ w.grownBy w' none := by
  have K := hid (boxc_new w c)
  have MY := hid (cmay_any c)
  rw [h0] at MY
  have PN := hid (ponew_no c first h)
  clear h h0
  go_enter Tryz.func5, Tryz.ntmps5
  go_wp2_with (refine wpList_conf K.out.box rfl rfl rfl rfl ?_)
  refine (MY.out _).mono ?_
  rintro e w1 ⟨rfl, hg⟩
  have K1 := hid (K.out.grown hg); clear hg MY
  go_wp2_with (refine wpList_conf K1.out.box rfl rfl rfl rfl ?_)
  refine (PN.out _).mono ?_
  rintro e w2 ⟨rfl, hg⟩
  have K2 := hid (K1.out.grown hg); clear hg
  go_wp2_with fail
  go_ret
  exact ⟨rfl, K2.out.g⟩
/-- a Law of the call's own; one beside a configuration in a block; two of them -/
structure Lk0 (w : World) (B : LBl) (s : La) (W : World) : Prop where
  gr : w.grownBy W none
  at1 : LaAt W B s
  lo : ∀ y ∈ B.F, w.heap.size ≤ y
structure Lk1 (w : World) (x : Nat) (c : Conf) (B : LBl) (s : La) (W : World) : Prop where
  k : Lk0 w B s W
  box : W.heap[x]? = some (.cells c.cells 28)
  nx : x ∉ B.F
structure Lk2 (w : World) (x : Nat) (c : Conf) (B : LBl) (s : La) (C : LBl) (t : La) (W : World) : Prop where
  k1 : Lk1 w x c B s W
  k2 : Lk1 w x c C t W
  ne : ∀ y ∈ B.F, y ∉ C.F
section
variable {w W W' : World} {x : Nat} {c : Conf} {B C : LBl} {s s' t t' : La} {v : Value} {vs : List Int} {a y z : Int}
theorem lgb_chg (h : w.grownBy W none) (hc : Chg B.F W W') (hb : ∀ y ∈ B.F, w.heap.size ≤ y) : w.grownBy W' none :=
  ((chg_grown h []).trans hc (fun y hy => .inr (hb y hy))).free (fun y hy => by cases hy)
theorem Lk0.grown (h : Lk0 w B s W) (hg : W.grownBy W' none) : Lk0 w B s W' := ⟨gb_trans h.gr hg (.inl rfl), h.at1.grown hg, h.lo⟩
theorem Lk0.drew (h : Lk0 w B s W) : Lk0 w B s W.drew := ⟨gb_drew h.gr, h.at1.drew, h.lo⟩
theorem Lk0.chg (h : Lk0 w B s W) (hl : LaAt W' B s') (hc : Chg B.F W W') : Lk0 w B s' W' := ⟨lgb_chg h.gr hc h.lo, hl, h.lo⟩
theorem Lk0.start (hg : w.grownBy W none) (hl : LaAt W' B s) (h2 : W.grownBy W' none) (hb : ∀ y ∈ B.F, W.heap.size ≤ y) : Lk0 w B s W' := ⟨gb_trans hg h2 (.inl rfl), hl, fun y hy => Nat.le_trans hg.size (hb y hy)⟩
theorem Lk1.grown (h : Lk1 w x c B s W) (hg : W.grownBy W' none) : Lk1 w x c B s W' := ⟨h.k.grown hg, at_grown h.box hg (by simp), h.nx⟩
theorem Lk1.drew (h : Lk1 w x c B s W) : Lk1 w x c B s W.drew := ⟨h.k.drew, h.box, h.nx⟩
theorem Lk1.chg (h : Lk1 w x c B s W) (hl : LaAt W' B s') (hc : Chg B.F W W') : Lk1 w x c B s' W' := ⟨h.k.chg hl hc, hc.at h.box h.nx, h.nx⟩
theorem Lk1.start (hC : Cfx w x c W) (hl : LaAt W' B s) (h2 : W.grownBy W' none) (hb : ∀ y ∈ B.F, W.heap.size ≤ y) : Lk1 w x c B s W' :=
  ⟨Lk0.start hC.g hl h2 hb, at_grown hC.box h2 (by simp), fun hm => Nat.lt_irrefl _ (Nat.lt_of_lt_of_le (at_lt hC.box) (hb x hm))⟩
theorem Lk1.cfx (h : Lk1 w x c B s W) : Cfx w x c W := ⟨h.box, h.k.gr⟩
theorem Lk2.grown (h : Lk2 w x c B s C t W) (hg : W.grownBy W' none) : Lk2 w x c B s C t W' := ⟨h.k1.grown hg, h.k2.grown hg, h.ne⟩
theorem Lk2.drew (h : Lk2 w x c B s C t W) : Lk2 w x c B s C t W.drew := ⟨h.k1.drew, h.k2.drew, h.ne⟩
theorem Lk2.swap (h : Lk2 w x c B s C t W) : Lk2 w x c C t B s W := ⟨h.k2, h.k1, fun y hy hm => h.ne y hm hy⟩
theorem Lk2.chg1 (h : Lk2 w x c B s C t W) (hl : LaAt W' B s') (hc : Chg B.F W W') : Lk2 w x c B s' C t W' :=
  ⟨h.k1.chg hl hc, ⟨⟨lgb_chg h.k1.k.gr hc h.k1.k.lo, h.k2.k.at1.chg hc (fun y hy hm => h.ne y hm hy), h.k2.k.lo⟩, hc.at h.k1.box h.k1.nx, h.k2.nx⟩, h.ne⟩
theorem Lk2.chg2 (h : Lk2 w x c B s C t W) (hl : LaAt W' C t') (hc : Chg C.F W W') : Lk2 w x c B s C t' W' := (h.swap.chg1 hl hc).swap
theorem Lk2.start (h : Lk1 w x c B s W) (hl : LaAt W' C t) (h2 : W.grownBy W' none) (hb : ∀ y ∈ C.F, W.heap.size ≤ y) : Lk2 w x c B s C t W' :=
  ⟨h.grown h2, Lk1.start h.cfx hl h2 hb, fun y hy hm => Nat.lt_irrefl _ (Nat.lt_of_lt_of_le (h.k.at1.lts y hy) (hb y hm))⟩
theorem lnext_as (H : LaAt W B s) (hv : IntsAt W v vs) (hm : s.may vs = true) (h1 : s.come vs = y) (h2 : s.want vs = z) (h3 : s.next vs = s') :
    Calls Tryz.prog 10 #[.pointer (some ⟨B.b, 0, none⟩), v] W fun e w' => e = .returned (.tuple #[.int .i64 y, .int .i64 z, .int .i64 0]) ∧ LaAt w' B s' ∧ Chg B.F W w' := by
  subst h1; subst h2; subst h3; exact lnext_yes hm H hv
theorem lhold_as (H : LaAt W B s) (h1 : s.n = y) (h3 : s.hold = s') :
    Calls Tryz.prog 8 #[.pointer (some ⟨B.b, 0, none⟩)] W fun e w' => e = .returned (.int .i64 y) ∧ LaAt w' B s' ∧ Chg B.F W w' := by
  subst h1; subst h3; exact lhold_any H
theorem lcount_as (H : LaAt W B s) (h1 : s.n = y) :
    Calls Tryz.prog 12 #[.pointer (some ⟨B.b, 0, none⟩)] W fun e w' => e = .returned (.int .i64 y) ∧ W = w' := by
  subst h1; exact lcount_any H
end
/-- a made configuration's Law -/
theorem fine_law {c : Conf} (h : Fine c) : ∃ m u d : Nat, c.m = (m : Int) ∧ (u : Int) = c.calmup ∧ (d : Int) = c.calmdown ∧ 1 ≤ m ∧ m ≤ 2 ∧ u ≤ 3 ∧ d ≤ 4 ∧ (∀ f, c.min ≤ f → f ≤ c.max → (laOf c m u d f).Ok) ∧ (m = 1 ∨ m = 2 ∧ 1 ≤ c.t1 ∧ c.t1 ≤ 2000) := by
  have h1 := h.m; have h2 := h.calmup; have h3 := h.calmdown; have h4 := h.t0; have h5 := h.tol; have h6 := h.min; have h7 := h.max
  obtain ⟨m, hm⟩ : ∃ m : Nat, c.m = (m : Int) := ⟨c.m.toNat, by omega⟩
  obtain ⟨u, hu⟩ : ∃ m : Nat, (m : Int) = c.calmup := ⟨c.calmup.toNat, by omega⟩
  obtain ⟨d, hd⟩ : ∃ m : Nat, (m : Int) = c.calmdown := ⟨c.calmdown.toNat, by omega⟩
  refine ⟨m, u, d, hm, hu, hd, by omega, by omega, by omega, by omega, fun f hf1 hf2 => ⟨?_, ?_, by show 0 ≤ c.tol ∧ c.tol ≤ 1000; omega, ⟨by show u ≤ 60; omega, by show d ≤ 60; omega, Nat.zero_le _, fun x hx => by cases hx⟩, Po.new_ok (fine_ok h) hf1 hf2, hf1, hf2⟩, by omega⟩
  · intro t ht
    have ht : t ∈ [c.t0, c.t1, c.t2, c.t3].take m := ht
    rcases h1 with ⟨h1, h8⟩ | ⟨h1, h8, h9⟩
    · obtain rfl : m = 1 := by omega
      simp at ht
      omega
    · obtain rfl : m = 2 := by omega
      simp at ht
      omega
  · show [c.t0, c.t1, c.t2, c.t3].take m ≠ []
    rcases h1 with ⟨h1, h8⟩ | ⟨h1, h8, h9⟩
    · obtain rfl : m = 1 := by omega
      simp
    · obtain rfl : m = 2 := by omega
      simp
theorem lnew_fine {c : Conf} (h : Fine c) {m u d : Nat} (hm : c.m = (m : Int)) (hu : (u : Int) = c.calmup) (hd : (d : Int) = c.calmdown) (hm1 : 1 ≤ m) (hm2 : m ≤ 2) (hu3 : u ≤ 3) (hd4 : d ≤ 4) {f : Int} (h1 : c.min ≤ f) (h2 : f ≤ c.max) (hok : (laOf c m u d f).Ok) (w : World) :
    Calls Tryz.prog 5 #[cf c, .int .i64 f] w (LaMade w (laOf c m u d f)) :=
  lnew_ok c f m u d (by rw [fine_none h]; decide +kernel) hm hu hd hm1 (by omega) (by omega) (by omega) (fine_may h) (in_of h1 h2) hok w
theorem dflt_may : ((st22 dflt).getD ⟨#[]⟩).toList.isEmpty = true := by decide +kernel
theorem dflt_law : (laOf dflt 1 0 3 4).Ok :=
  ⟨fun t ht => by simp at ht; omega, by simp, by decide, ⟨by decide, by decide, Nat.zero_le _, fun x hx => by cases hx⟩, Po.new_ok (Rt.may_iff.1 rfl) (by decide) (by decide), by decide⟩
set_option maxHeartbeats 3200000 in
theorem ltold_any (w : World) :
    Calls Tryz.prog 7 #[] w fun e w' => e = .returned (.bool true) ∧ w.grownBy w' none := by
  have N1 := hid (lnew_ok dflt 4 1 0 3 dflt_may rfl rfl rfl (by decide) (by decide) (by decide) (by decide) rfl rfl dflt_law)
  have N2 := hid (lnew_no dflt 0 dflt_may (by decide))
  obtain ⟨s0, h0⟩ : ∃ s, laOf dflt 1 0 3 4 = s := ⟨_, rfl⟩
  obtain ⟨s1, h1⟩ : ∃ s, s0.next [1000] = s := ⟨_, rfl⟩
  obtain ⟨s2, h2⟩ : ∃ s, s1.next [2000] = s := ⟨_, rfl⟩
  obtain ⟨s3, h3⟩ : ∃ s, s2.hold = s := ⟨_, rfl⟩
  have M0 := hid (show s0.may [1000] = true by subst h0; rfl)
  have M1 := hid (show s1.may [2000] = true by subst h1; subst h0; rfl)
  have M2 := hid (show s2.may [] = false by subst h2; subst h1; subst h0; rfl)
  have C0 := hid (show s0.come [1000] = 4 by subst h0; rfl)
  have W0 := hid (show s0.want [1000] = 4 by subst h0; rfl)
  have C1 := hid (show s1.come [2000] = 8 by subst h1; subst h0; rfl)
  have W1 := hid (show s1.want [2000] = 8 by subst h1; subst h0; rfl)
  have E2 := hid (show s2.n = 8 by subst h2; subst h1; subst h0; rfl)
  have E3 := hid (show s3.n = 8 by subst h3; subst h2; subst h1; subst h0; rfl)
  rw [h0] at N1
  have H1 := hid h1; have H2 := hid h2; have H3 := hid h3
  clear h0 h1 h2 h3
  go_enter Tryz.func7, Tryz.ntmps7
  go_wp2_with fail
  refine (default_any _).mono ?_
  rintro e w1 ⟨rfl, hg⟩
  have G1 := hid hg; clear hg
  go_wp2_with fail
  refine (N1.out _).mono ?_
  rintro e w2 ⟨B, rfl, hl, hg, hb⟩
  have K := hid (Lk0.start G1.out hl hg hb); clear hl hg hb G1
  go_wp2_with fail
  refine (lnext_as (K.out.grown (World.grownBy_alloc _ _ none)).at1 (lit_new _ [1000] _ rfl 1 rfl (le_max _ (by decide))) M0.out C0.out W0.out H1.out).mono ?_
  rintro e w3 ⟨rfl, hl, hc⟩
  replace K := hid ((K.out.grown (World.grownBy_alloc _ _ none)).chg hl hc); clear hl hc
  go_wp2_with fail
  refine (lnext_as (K.out.grown (World.grownBy_alloc _ _ none)).at1 (lit_new _ [2000] _ rfl 1 rfl (le_max _ (by decide))) M1.out C1.out W1.out H2.out).mono ?_
  rintro e w4 ⟨rfl, hl, hc⟩
  replace K := hid ((K.out.grown (World.grownBy_alloc _ _ none)).chg hl hc); clear hl hc
  go_wp2_with fail
  refine (lnext_no M2.out K.out.at1 (.nil _)).mono ?_
  rintro e w5 ⟨rfl, hg⟩
  replace K := hid (K.out.grown hg); clear hg
  go_wp2_with fail
  refine (lhold_as K.out.at1 E2.out H3.out).mono ?_
  rintro e w6 ⟨rfl, hl, hc⟩
  replace K := hid (K.out.chg hl hc); clear hl hc
  go_wp2_with fail
  refine (lcount_as K.out.at1 E3.out).mono ?_
  rintro e w7 ⟨rfl, rfl⟩
  go_wp2_with fail
  refine (default_any _).mono ?_
  rintro e w8 ⟨rfl, hg⟩
  replace K := hid (K.out.grown hg); clear hg
  go_wp2_with fail
  refine (N2.out _).mono ?_
  rintro e w9 ⟨rfl, hg⟩
  replace K := hid (K.out.grown hg); clear hg
  go_wp2_with fail
  refine (lcount_nil _).mono ?_
  rintro e x1 ⟨rfl, rfl⟩
  go_wp2_with fail
  refine (lhold_nil _).mono ?_
  rintro e x2 ⟨rfl, rfl⟩
  go_wp2_with fail
  go_ret
  exact ⟨rfl, K.out.gr⟩
end Go.Proofs.YthobbekocimcnaaGreat
end
section
set_option linter.unusedSimpArgs false
set_option linter.unusedVariables false
namespace Go.Proofs.YthobbekocimcnaaGreat
set_option maxRecDepth 100000
open Go.RowKit

/-- a slice that reads as these numbers, and lies elsewhere than vn -/
def Rd (W : World) (vn u : Value) (r : List Int) : Prop := IntsAt W u r ∧ (r ≠ [] → ∀ a n c, u = .slice (some a) n c → a.block < W.heap.size ∧ vn.ownBlock ≠ some a.block)
theorem ints_block {W : World} {u : Value} {r : List Int} (h : IntsAt W u r) (hr : r ≠ []) : ∀ a n c, u = .slice (some a) n c → a.block < W.heap.size := by
  intro a n c e
  subst e
  have hp : 0 < r.length := List.length_pos_iff.2 hr
  obtain ⟨ab, ao, cap, e, hc⟩ := h.cells hp
  cases e
  exact World.block_lt_of_cell? _ _ (hc 0 hp)
theorem ints_empty {W W' : World} {u : Value} (h : IntsAt W u []) : IntsAt W' u [] := by
  rcases h with h | ⟨a, cap, rfl, h1, h2, _⟩
  · exact .inl h
  · exact .inr ⟨a, cap, rfl, h1, h2, fun i hi => absurd hi (Nat.not_lt_zero i)⟩
section
variable {w W W' : World} {vn vn' u : Value} {r s : List Int} {L L' : List (Value × List Int)} {p : Value × List Int}
theorem Rd.grown (h : Rd W vn u r) (hg : W.grownBy W' none) : Rd W' vn u r := ⟨h.1.grown hg, fun h0 a n c e => ⟨Nat.lt_of_lt_of_le (h.2 h0 a n c e).1 hg.size, (h.2 h0 a n c e).2⟩⟩
theorem Rd.drew (h : Rd W vn u r) : Rd W.drew vn u r := h
/-- behind an append to vn -/
theorem Rd.app (h : Rd W vn u r) (hg : W.grownBy W' vn.ownBlock) (ha : vn'.ownBlock = vn.ownBlock ∨ vn'.ownBlock = some W.heap.size) : Rd W' vn' u r := by
  by_cases h0 : r = []
  · subst h0; exact ⟨ints_empty h.1, fun h => absurd rfl h⟩
  · refine ⟨?_, fun _ a n c e => ?_⟩
    · rcases h.1 with h1 | ⟨a, cap, rfl, h1, h2, h3⟩
      · exact .inl h1
      · refine .inr ⟨a, cap, rfl, h1, h2, fun i hi => hg.cell (h3 i hi) ?_⟩
        have e1 : (a.add i).block = a.block := by unfold Addr.add; split <;> rfl
        rw [e1]
        exact (h.2 h0 a _ _ rfl).2.symm
    · have h1 := h.2 h0 a n c e
      refine ⟨Nat.lt_of_lt_of_le h1.1 hg.size, ?_⟩
      rcases ha with ha | ha
      · rw [ha]; exact h1.2
      · rw [ha]; intro e2; have e3 := Option.some.inj e2; have := h1.1; omega
/-- vn lies in a new block now -/
theorem Rd.fresh (h : Rd W vn u r) (hg : W.grownBy W' none) (hv : ∀ g, vn'.ownBlock = some g → W.heap.size ≤ g) : Rd W' vn' u r :=
  ⟨h.1.grown hg, fun h0 a n c e => ⟨Nat.lt_of_lt_of_le (h.2 h0 a n c e).1 hg.size, fun e2 => absurd (h.2 h0 a n c e).1 (Nat.not_lt.2 (hv _ e2))⟩⟩
theorem Rd.at {ab ao n c i : Nat} {x : Int} (h : Rd W vn (.slice (some ⟨ab, ao, none⟩) n c) r) (hx : r[i]? = some x) : W.cell? ⟨ab, ao + i, none⟩ = some (.int .i64 x) := by
  obtain ⟨hi, rfl⟩ := List.getElem?_eq_some_iff.1 hx
  obtain ⟨ab', ao', e, _, _, hc⟩ := h.1.cell hi
  cases e; exact hc
theorem Rd.take {ab ao n c j : Nat} (h : Rd W vn (.slice (some ⟨ab, ao, none⟩) n c) r) (hj : j ≤ n) : Rd W vn (.slice (some ⟨ab, ao, none⟩) j c) (r.take j) :=
  ⟨ints_slice0 h.1 hj, fun h0 a n' c' e => by cases e; exact h.2 (fun e => h0 (by rw [e]; simp)) _ _ _ rfl⟩
theorem Rd.drop {ab ao n c j : Nat} (h : Rd W vn (.slice (some ⟨ab, ao, none⟩) n c) r) (hj : j ≤ n) : Rd W vn (.slice (some ⟨ab, ao + j, none⟩) (n - j) (c - j)) (r.drop j) :=
  ⟨ints_slice1 h.1 hj, fun h0 a n' c' e => by cases e; exact h.2 (fun e => h0 (by rw [e]; simp)) ⟨ab, ao, none⟩ _ _ rfl⟩
/-- (the model's address of what begins at the very end is the row's own) -/
theorem Rd.dropI {ab n c j : Nat} (h : Rd W vn (.slice (some ⟨ab, 0, none⟩) n c) r) (hj : j ≤ n) : Rd W vn (.slice (if c = j then some ⟨ab, 0, none⟩ else some ⟨ab, j, none⟩) (n - j) (c - j)) (r.drop j) := by
  split
  · next hc =>
    subst hc
    rcases h.1 with ⟨e, _⟩ | ⟨a, cap, e, h1, h2, h3⟩
    · cases e
    · cases e
      have hd : r.drop c = [] := List.drop_eq_nil_of_le h1
      rw [hd]
      refine ⟨.inr ⟨_, c - c, by rw [Nat.sub_eq_zero_of_le h1]; rfl, by simp, by simp, fun i hi => absurd hi (Nat.not_lt_zero i)⟩, fun h0 => absurd rfl h0⟩
  · have := h.drop hj
    rw [Nat.zero_add] at this
    exact this
/-- one number of the slice of the call's own is another now -/
theorem OwnI.set {base : Nat} {w : World} {g n c j : Nat} {l : List Int} (h : OwnI base w (.slice (some ⟨g, 0, none⟩) n c) l) (x : Int) : OwnI base (w.setCell ⟨g, j, none⟩ (.int .i64 x)) (.slice (some ⟨g, 0, none⟩) n c) (l.set j x) := by
  obtain ⟨h0, h | ⟨g', cap, cur, e, hb, hh, h1, h2, h3, h4⟩⟩ := h
  · cases h.1
  · cases e
    refine ⟨by simp, .inr ⟨g, c, cur.setIfInBounds j (.int .i64 x), by simp, hb, at_set hh j _, by simpa using h1, h2, by simpa using h3, ?_⟩⟩
    simp only [List.length_set, Nat.mul_one] at h4 ⊢
    rw [Array.toList_setIfInBounds, List.map_set, ← h4, List.take_set]
    rfl
theorem OwnI.free {base : Nat} {w : World} {g n c j : Nat} {l : List Int} (h : OwnI base w (.slice (some ⟨g, 0, none⟩) n c) l) : w.frozen? ⟨g, j, none⟩ = false := by
  obtain ⟨h0, h | ⟨g', cap, cur, e, hb, hh, _⟩⟩ := h
  · cases h.1
  · cases e; exact at_free hh j
theorem Rd.nil : Rd W vn (.slice none 0 0) [] := ⟨.nil W, fun h => absurd rfl h⟩

/-- a slice of the call's own that grows, and others beside it -/
structure Bag (w : World) (vn : Value) (r : List Int) (L : List (Value × List Int)) (W : World) : Prop where
  gr : w.grownBy W none
  own : OwnI w.heap.size W vn r
  rd : ∀ p ∈ L, Rd W vn p.1 p.2
theorem Bag.hd (h : Bag w vn r ((u, s) :: L) W) : Rd W vn u s := h.rd _ (List.mem_cons_self ..)
theorem Bag.tl (h : Bag w vn r (p :: L) W) : Bag w vn r L W := ⟨h.gr, h.own, fun q hq => h.rd q (List.mem_cons_of_mem _ hq)⟩
theorem Bag.sub (h : Bag w vn r L W) (hs : ∀ p ∈ L', p ∈ L) : Bag w vn r L' W := ⟨h.gr, h.own, fun q hq => h.rd q (hs q hq)⟩
theorem Bag.grown (h : Bag w vn r L W) (hg : W.grownBy W' none) : Bag w vn r L W' := ⟨gb_trans h.gr hg (.inl rfl), h.own.grown hg (by simp), fun q hq => (h.rd q hq).grown hg⟩
theorem Bag.drew (h : Bag w vn r L W) : Bag w vn r L W.drew := ⟨gb_drew h.gr, h.own.drew, h.rd⟩
theorem Bag.app (h : Bag w vn r L W) (ho : OwnI w.heap.size W' vn' s) (hg : W.grownBy W' vn.ownBlock) (ha : vn'.ownBlock = vn.ownBlock ∨ vn'.ownBlock = some W.heap.size) : Bag w vn' s L W' :=
  ⟨gb_ownI h.gr h.own (Nat.le_refl _) hg, ho, fun q hq => (h.rd q hq).app hg ha⟩
theorem Bag.set {g n c j : Nat} (h : Bag w (.slice (some ⟨g, 0, none⟩) n c) r L W) (x : Int) : Bag w (.slice (some ⟨g, 0, none⟩) n c) (r.set j x) L (W.setCell ⟨g, j, none⟩ (.int .i64 x)) :=
  ⟨gb_new h.gr (by have := (h.own.at g (by simp [ownL, Value.ownBlock])).1; exact this) _, h.own.set x, fun q hq => (h.rd q hq).app (vn := .slice (some ⟨g, 0, none⟩) n c) (gb_row (.refl W _) rfl _) (.inl rfl)⟩
theorem Bag.start (hg : w.grownBy W none) (hL : ∀ p ∈ L, IntsAt W p.1 p.2) : Bag w (.slice none 0 0) [] L W :=
  ⟨hg, .nil _ _, fun q hq => ⟨hL q hq, fun h0 a n c e => ⟨ints_block (hL q hq) h0 a n c e, by simp [Value.ownBlock]⟩⟩⟩
/-- an empty slice of the call's own -/
theorem Bag.fresh (h : Bag w vn r L W) : Bag w (.slice (some ⟨W.heap.size, 0, none⟩) 0 0) [] L (W.alloc (.cells #[] 2)) :=
  ⟨gb_alloc h.gr _, (OwnI.empty W).le h.gr.size, fun q hq => (h.rd q hq).fresh (World.grownBy_alloc W _ none) (fun g e => by simp [Value.ownBlock] at e; omega)⟩
/-- one more to read: a new block -/
theorem Bag.add (h : Bag w vn r L W) (l : List Int) (hl : l.length ≤ maxLen) : Bag w vn r ((.slice (some ⟨W.heap.size, 0, none⟩) l.length l.length, l) :: L) (W.alloc (.cells (l.map iv).toArray 2)) :=
  ⟨gb_alloc h.gr _, h.own.grown (World.grownBy_alloc W _ none) (by simp), fun q hq => by
    rcases List.mem_cons.1 hq with rfl | hq
    · refine ⟨ints_of_cells l (at_new W _) hl, fun _ a n c e => ?_⟩
      cases e
      refine ⟨by show W.heap.size < (W.heap.push _).size; simp, fun e2 => ?_⟩
      have := (h.own.at W.heap.size (by simp [ownL]; simpa using e2)).2
      exact absurd this (Nat.lt_irrefl _)
    · exact (h.rd q hq).grown (World.grownBy_alloc W _ none)⟩
/-- the third of three is a new block's one number now -/
theorem Bag.one {p1 p2 p3 : Value × List Int} (h : Bag w vn r [p1, p2, p3] W) (x : Int) : Bag w vn r [p1, p2, (.slice (some ⟨W.heap.size, 0, none⟩) 1 1, [x])] (W.alloc (.cells #[.int .i64 x] 2)) :=
  Bag.sub (L := [(.slice (some ⟨W.heap.size, 0, none⟩) 1 1, [x]), p1, p2, p3]) (h.add [x] (by show 1 ≤ maxLen; unfold maxLen; decide)) (by
    intro p hp
    simp only [List.mem_cons, List.not_mem_nil, or_false] at hp ⊢
    rcases hp with rfl | rfl | rfl
    · exact .inr (.inl rfl)
    · exact .inr (.inr (.inl rfl))
    · exact .inl rfl)
theorem Bag.more (h : Bag w vn r L W) (hp : Rd W vn u s) : Bag w vn r ((u, s) :: L) W :=
  ⟨h.gr, h.own, fun q hq => by
    rcases List.mem_cons.1 hq with rfl | hq
    · exact hp
    · exact h.rd q hq⟩
end
end Go.Proofs.YthobbekocimcnaaGreat
end
section
set_option linter.unusedSimpArgs false
set_option linter.unusedVariables false
namespace Go.Proofs.YthobbekocimcnaaGreat
set_option maxRecDepth 100000
open Go.RowKit

theorem raAll_in {c l : Int} (hc : 0 ≤ c ∧ c ≤ 10000) (hl : 0 ≤ l ∧ l ≤ 1000) : ∀ vs ts : List Int, (∀ v ∈ vs, 0 ≤ v ∧ v ≤ 1099511627776) → (∀ t ∈ ts, 1 ≤ t ∧ t ≤ 1099511627776) → raAll c l vs ts = true
  | [], _, _, _ => by simp [raAll]
  | _ :: _, [], _, _ => by simp [raAll]
  | v :: vs, t :: ts, hv, ht => by
    simp only [raAll, Bool.and_eq_true]
    exact ⟨raOk_iff.2 ⟨hc, hv v (List.mem_cons_self ..), ht t (List.mem_cons_self ..), hl⟩, raAll_in hc hl vs ts (fun a h => hv a (List.mem_cons_of_mem _ h)) (fun a h => ht a (List.mem_cons_of_mem _ h))⟩
theorem La.take {s : La} (h : s.Ok) {vs : List Int} (hl : vs.length = s.tg.length) (hv : ∀ v ∈ vs, 0 ≤ v ∧ v ≤ 1099511627776) : s.may vs = true ∧ s.want vs = raTop s.n s.tol vs s.tg :=
  La.most h hl hv (raAll_in (La.n_in h) h.tol vs s.tg hv h.tg)
theorem La.no_len {s : La} {vs : List Int} (h : vs.length ≠ s.tg.length) : s.may vs = false := by
  unfold La.may; rw [raMost_len (.inr h)]
theorem La.no_head {s : La} {r : Int} {vs : List Int} (hr : ¬ (0 ≤ r ∧ r ≤ 1099511627776)) : s.may (r :: vs) = false := by
  unfold La.may
  cases ht : s.tg with
  | nil => rw [raMost_len (.inr (by simp))]
  | cons t ts =>
    rw [raMost_bad]
    simp only [raAll]
    have : raOk s.n r t s.tol = false := by
      cases hb : raOk s.n r t s.tol with
      | false => rfl
      | true => exact absurd (raOk_iff.1 hb).2.1 hr
    rw [this]; rfl
theorem OwnI.made {base : Nat} {w : World} {v : Value} {l : List Int} (h : OwnI base w v l) (hl : 0 < l.length) : ∃ g c, v = .slice (some ⟨g, 0, none⟩) l.length c ∧ base ≤ g := by
  obtain ⟨h0, h | ⟨g, cap, cur, e, hb, hh, h1⟩⟩ := h
  · have h2 : l.length = 0 := by simpa using h.2
    omega
  · exact ⟨g, cap, e, hb⟩
/-- two values, of as many metrics as there are -/
theorem two_in {m : Nat} {x y : Int} (hx : 0 ≤ x ∧ x ≤ 1099511627776) (hy : 0 ≤ y ∧ y ≤ 1099511627776) : ∀ v ∈ [x, y].take m, 0 ≤ v ∧ v ≤ 1099511627776 := by
  intro v hv
  have hv := List.mem_of_mem_take hv
  simp only [List.mem_cons, List.mem_singleton, List.not_mem_nil, or_false] at hv
  rcases hv with rfl | rfl <;> assumption
theorem two_len {m : Nat} {x y : Int} (hm : m ≤ 2) : ([x, y].take m).length = m := by rw [List.length_take]; simp; omega
theorem none_may : ((none : Option ByteArray).getD ⟨#[]⟩).toList.isEmpty = true := by decide +kernel
theorem OwnI.cell0 {base : Nat} {w : World} {g n c : Nat} {l : List Int} (h : OwnI base w (.slice (some ⟨g, 0, none⟩) n c) l) {m : Nat} (hl : l.length = m) (hm : 1 ≤ m) : ∃ x, w.cell? ⟨g, 0, none⟩ = some x := by
  obtain ⟨ab, ao, e, -, -, hc⟩ := h.ints.cell (i := 0) (by omega)
  cases e
  exact ⟨_, hc⟩
theorem La.no_set {s : La} {r : Int} {vs : List Int} {m : Nat} (hl : vs.length = m) (hm : 0 < m) (hr : ¬ (0 ≤ r ∧ r ≤ 1099511627776)) : s.may (vs.set 0 r) = false := by
  cases vs with
  | nil => simp at hl; omega
  | cons v vs => exact La.no_head hr
theorem size_lset (w : World) (p : Addr) (v : Value) : (w.setCell p v).heap.size = w.heap.size := by simp [World.setCell]
/-- a Law by a configuration, whatever it has gone through -/
structure Lof (c : Conf) (m : Nat) (s : La) : Prop where
  tg : s.tg = tgOf c m
  tol : s.tol = c.tol
  r : s.po.r = rt c
theorem lof_new (c : Conf) (m u d : Nat) (f : Int) : Lof c m (laOf c m u d f) := ⟨rfl, rfl, rfl⟩
theorem Lof.next {c : Conf} {m : Nat} {s : La} (h : Lof c m s) (ho : s.Ok) (vs : List Int) : Lof c m (s.next vs) := by
  refine ⟨h.tg, h.tol, ?_⟩
  have e : (s.next vs).po.r = s.po.r := by
    show (s.po.put (s.come vs)).2.r = s.po.r
    rw [Po.put_yes (x := s.come vs) (Po.lim_in ho.po _)]
  rw [e]; exact h.r
theorem Lof.hold {c : Conf} {m : Nat} {s : La} (h : Lof c m s) (ho : s.Ok) : Lof c m s.hold := by
  refine ⟨h.tg, h.tol, ?_⟩
  have e : s.hold.po.r = s.po.r := by
    show (s.po.put s.n).2.r = s.po.r
    rw [Po.put_yes (Po.in_iff.2 ho.n)]
  rw [e]; exact h.r
theorem Lof.come {c : Conf} {m : Nat} {s : La} (h : Lof c m s) (ho : s.Ok) (vs : List Int) : c.min ≤ s.come vs ∧ s.come vs ≤ c.max := by
  have := La.come_in ho vs
  rw [h.r] at this; exact this
theorem tg_cell {W : World} {x m j : Nat} {c : Conf} {t : TypeId} {z : Int} (h : W.heap[x]? = some (.cells c.cells t)) (hm : m ≤ 4) (hz : (tgOf c m)[j]? = some z) : W.cell? ⟨x, 7 + j, none⟩ = some (.int .i64 z) :=
  (tgOf_at (conf_tg c) h hm).cell' hz
theorem La.next_tg (s : La) (vs : List Int) : (s.next vs).tg = s.tg := rfl
theorem La.hold_tg (s : La) : s.hold.tg = s.tg := rfl
end Go.Proofs.YthobbekocimcnaaGreat
end
section
set_option linter.unusedSimpArgs false
set_option linter.unusedVariables false
namespace Go.Proofs.YthobbekocimcnaaGreat
set_option maxRecDepth 100000
open Go.RowKit

/-- the document's, its list in a block that is none of F -/
structure CbAt (w : World) (F : List Nat) (b : Nat) (c : Ca) : Prop where
  row : ∃ (p : Option Addr) (k : Nat), w.heap[b]? = some (.cells #[.int .i64 (c.up : Int), .int .i64 (c.down : Int), .slice p c.l.length k] 50) ∧ IntsAt w (.slice p c.l.length k) c.l ∧ (∀ a, p = some a → a.block ∉ F)
  inF : b ∈ F
  lt : ∀ x ∈ F, x < w.heap.size
  ok : c.Ok
section
variable {w w' : World} {F G : List Nat} {b : Nat} {c c' : Ca}
theorem CbAt.chg (H : CbAt w F b c) (hc : Chg G w w') (hG : ∀ x ∈ G, x ∈ F) (hb : b ∉ G) : CbAt w' F b c := by
  obtain ⟨⟨p, k, h1, h2, h3⟩, h4, h5, h6⟩ := H
  exact ⟨⟨p, k, hc.at h1 hb, ints_chg h2 hc (fun a n c e hm => by cases e; exact h3 a rfl (hG _ hm)), h3⟩, h4, fun x hx => Nat.lt_of_lt_of_le (h5 x hx) hc.size, h6⟩
theorem CbAt.grown (H : CbAt w F b c) (hg : w.grownBy w' none) : CbAt w' F b c := H.chg (chg_grown hg []) (by simp) (by simp)
theorem CbAt.drew (H : CbAt w F b c) : CbAt w.drew F b c := ⟨H.row, H.inF, H.lt, H.ok⟩
theorem CbAt.cells (H : CbAt w F b c) : w.cell? ⟨b, 0, none⟩ = some (.int .i64 (c.up : Int)) ∧ w.cell? ⟨b, 1, none⟩ = some (.int .i64 (c.down : Int)) ∧ ∀ k, w.frozen? ⟨b, k, none⟩ = false := by
  obtain ⟨⟨p, k, h1, -, -⟩, -⟩ := H
  exact ⟨at_cell h1 0, at_cell h1 1, fun k => at_free h1 k⟩
/-- another list in the block -/
theorem CbAt.put (H : CbAt w F b c) {p : Option Addr} {k : Nat} {l : List Int} (hl : IntsAt w (.slice p l.length k) l) (hp : ∀ a, p = some a → a.block ∉ F) (ho : ({ c with l := l } : Ca).Ok) :
    CbAt (w.setCell ⟨b, 2, none⟩ (.slice p l.length k)) F b { c with l := l } ∧ Chg [b] w (w.setCell ⟨b, 2, none⟩ (.slice p l.length k)) := by
  have hc : Chg [b] w (w.setCell ⟨b, 2, none⟩ (.slice p l.length k)) := (chg_refl w [b]).set (.inl (by simp)) _
  obtain ⟨⟨q, m, h1, -, -⟩, h4, h5, h6⟩ := H
  refine ⟨⟨⟨p, k, ?_, ints_chg hl hc (fun a n c e hm => by cases e; rw [List.mem_singleton] at hm; exact hp a rfl (hm ▸ h4)), hp⟩, h4, fun x hx => Nat.lt_of_lt_of_le (h5 x hx) hc.size, ho⟩, hc⟩
  rw [at_set h1]; rfl
end
theorem rmillion_any (x : Int) (w : World) :
    Calls Tryz.prog 64 #[.int .i64 x] w fun e w' => e = .returned (.int .i64 (mill x)) ∧ w = w' := by
  unfold mill
  go_enter Tryz.func64, Tryz.ntmps64
  go_wp2_with fail
  all_goals go_ret
  all_goals exact ⟨congrArg (fun z => Ending.returned (.int .i64 z)) (by omega), rfl⟩
theorem rcmost_any {F : List Nat} {b : Nat} {c : Ca} {w : World} (H : CbAt w F b c) :
    Calls Tryz.prog 65 #[.pointer (some ⟨b, 0, none⟩)] w fun e w' => e = .returned (.int .i64 (c.most : Int)) ∧ w.grownBy w' none := by
  obtain ⟨c0, c1, fz⟩ := H.cells
  have hu := H.ok.u; have hd := H.ok.d
  clear H
  have hm : (c.most : Int) = max (c.up : Int) (c.down : Int) + 1 := by unfold Ca.most; omega
  generalize c.most = m at *
  go_enter Tryz.func65, Tryz.ntmps65
  go_wp2_with fail
  go_quiet (fail)
  go_wp2_with fail
  all_goals go_ret
  all_goals exact ⟨congrArg (fun z => Ending.returned (.int .i64 z)) (by omega), ⟨rfl, rfl, rfl, Nat.le_refl _, fun _ _ _ => rfl⟩⟩
theorem rnew_nil (u d : Int) (h : ¬ (0 ≤ u ∧ u ≤ 60 ∧ 0 ≤ d ∧ d ≤ 60)) (w : World) :
    Calls Tryz.prog 25 #[.int .i64 u, .int .i64 d] w fun e w' => e = .returned (.pointer none) ∧ w = w' := by
  by_cases h1 : u < 0
  · have d1 : decide (u < 0) = true := by simpa using h1
    clear h
    go_enter Tryz.func25, Tryz.ntmps25
    go_wp2_with fail
    go_ret
    exact ⟨rfl, rfl⟩
  have d1 : decide (u < 0) = false := by simpa using h1
  by_cases h2 : 60 < u
  · have d2 : decide (60 < u) = true := by simpa using h2
    clear h
    go_enter Tryz.func25, Tryz.ntmps25
    go_wp2_with fail
    go_ret
    exact ⟨rfl, rfl⟩
  have d2 : decide (60 < u) = false := by simpa using h2
  by_cases h3 : d < 0
  · have d3 : decide (d < 0) = true := by simpa using h3
    clear h
    go_enter Tryz.func25, Tryz.ntmps25
    go_wp2_with fail
    go_ret
    exact ⟨rfl, rfl⟩
  have d3 : decide (d < 0) = false := by simpa using h3
  have d4 : decide (60 < d) = true := by simp; omega
  clear h
  go_enter Tryz.func25, Tryz.ntmps25
  go_wp2_with fail
  go_ret
  exact ⟨rfl, rfl⟩
theorem rnew_ok (u d : Nat) (hu : u ≤ 60) (hd : d ≤ 60) (F : List Nat) (w : World) (hF : ∀ x ∈ F, x < w.heap.size) :
    Calls Tryz.prog 25 #[.int .i64 (u : Int), .int .i64 (d : Int)] w fun e w' => ∃ b, e = .returned (.pointer (some ⟨b, 0, none⟩)) ∧ CbAt w' (b :: F) b ⟨u, d, []⟩ ∧ w.grownBy w' none ∧ w.heap.size ≤ b := by
  have L := hid (show CbAt (w.alloc (.cells #[.int .i64 (u : Int), .int .i64 (d : Int), .slice none 0 0] 50)) (w.heap.size :: F) w.heap.size ⟨u, d, []⟩ from
    ⟨⟨none, 0, at_new w _, .nil _, fun a e => by cases e⟩, List.mem_cons_self .., fun x hx => by
      rw [size_la]
      rcases List.mem_cons.1 hx with rfl | hx
      · exact Nat.lt_succ_self _
      · exact Nat.lt_succ_of_lt (hF x hx), ⟨hu, hd, Nat.zero_le _, fun x hx => by cases hx⟩⟩)
  have d1 : decide ((u : Int) < 0) = false := decide_eq_false (by omega)
  have d2 : decide ((60 : Int) < (u : Int)) = false := by simp; omega
  have d3 : decide ((d : Int) < 0) = false := decide_eq_false (by omega)
  have d4 : decide ((60 : Int) < (d : Int)) = false := by simp; omega
  have e2 : ¬ 60 < u := by omega
  have e4 : ¬ 60 < d := by omega
  clear hF
  go_enter Tryz.func25, Tryz.ntmps25
  go_wp2_with fail
  go_ret
  exact ⟨_, rfl, L.out, gb_alloc (.refl w none) _, Nat.le_refl _⟩
/-- a list of the call's own, ahead of its store -/
theorem own_put {F : List Nat} {b : Nat} {c : Ca} {w w1 w' : World} {v' : Value} {l : List Int} (H : CbAt w F b c) (hg : w.grownBy w1 none) (he : OwnN w1.heap.size (w1.alloc (.cells #[] 3)) (.slice (some ⟨w1.heap.size, 0, none⟩) 0 0) [])
    (hown : OwnN w1.heap.size w' v' ([] ++ l)) (hgrow : (w1.alloc (.cells #[] 3)).grownBy w' (Value.slice (some ⟨w1.heap.size, 0, none⟩) 0 0).ownBlock) (ho : ({ c with l := l } : Ca).Ok) :
    ∃ p k, v' = .slice p l.length k ∧ (∃ x, w'.cell? ⟨b, 2, none⟩ = some x) ∧ w'.frozen? ⟨b, 2, none⟩ = false ∧ CbAt (w'.setCell ⟨b, 2, none⟩ (.slice p l.length k)) F b { c with l := l } ∧ Chg [b] w (w'.setCell ⟨b, 2, none⟩ (.slice p l.length k)) := by
  rw [List.nil_append] at hown
  have GW := gb_ownN (gb_alloc (.refl w1 none) _) he (Nat.le_refl _) hgrow
  have GG := gb_trans hg GW (.inl rfl)
  have CB := H.grown GG
  obtain ⟨p, k, rfl⟩ := hown.form
  have PB : ∀ a, p = some a → a.block ∉ F := fun a e hm => by
    subst e
    have h1 := (hown.at a.block (by simp [ownL, Value.ownBlock])).1
    have h2 := H.lt _ hm
    have h3 := hg.size
    omega
  have FIN := CB.put hown.ints PB ho
  obtain ⟨⟨q, m, h1, -, -⟩, -⟩ := CB
  exact ⟨p, k, rfl, ⟨_, at_cell h1 2⟩, at_free h1 2, FIN.1, (chg_grown GG [b]).then FIN.2⟩
def SettedR (w : World) (F : List Nat) (b : Nat) (c : Ca) (l : List Int) (e : Ending) (w' : World) : Prop :=
  (c.mayset l = true ∧ e = .returned (.int .i64 0) ∧ CbAt w' F b { c with l := l } ∧ Chg [b] w w') ∨ (c.mayset l = false ∧ e = .returned (.int .i64 1) ∧ w.grownBy w' none)
end Go.Proofs.YthobbekocimcnaaGreat
end
section
set_option linter.unusedSimpArgs false
set_option linter.unusedVariables false
namespace Go.Proofs.YthobbekocimcnaaGreat
set_option maxRecDepth 100000
open Go.RowKit

/-- what Next's walk keeps of its list that grows: the object, the row -/
theorem own_push {F : List Nat} {b : Nat} {c : Ca} {w w1 : World} {v : Value} {l : List Int} (H : CbAt w F b c) (hg : w.grownBy w1 none) (hown : OwnN w.heap.size w1 v l) (k : Nat) (hk : 1 ≤ k) (hl : l ≠ []) (ho : ({ c with l := lastL l k } : Ca).Ok) :
    ∃ ab ao n m, v = .slice (some ⟨ab, ao, none⟩) n m ∧ n = l.length ∧ n ≤ m ∧ (∃ x, w1.cell? ⟨b, 2, none⟩ = some x) ∧ w1.frozen? ⟨b, 2, none⟩ = false ∧
      CbAt (w1.setCell ⟨b, 2, none⟩ (.slice (some ⟨ab, ao + (n - k), none⟩) (n - (n - k)) (m - (n - k)))) F b { c with l := lastL l k } ∧ Chg [b] w (w1.setCell ⟨b, 2, none⟩ (.slice (some ⟨ab, ao + (n - k), none⟩) (n - (n - k)) (m - (n - k)))) := by
  have CB := H.grown hg
  have hI := hown.ints
  obtain ⟨p, m, rfl⟩ := hown.form
  obtain ⟨ab, ao, rfl, -, hm, -⟩ := hI.cell (List.length_pos_iff.2 hl)
  have PB : ab ∉ F := fun hm => by
    have h1 := (hown.at ab (by simp [ownL, Value.ownBlock])).1
    have h2 := H.lt _ hm
    omega
  have h1 := ints_slice1 hI (Nat.sub_le l.length k)
  have e1 : (lastL l k).length = l.length - (l.length - k) := by unfold lastL; rw [List.length_drop]
  have FIN := CB.put (l := lastL l k) (by rw [e1]; exact h1) (fun a e => by cases e; exact PB) ho
  rw [e1] at FIN
  obtain ⟨⟨q, r, h1, -, -⟩, -⟩ := CB
  exact ⟨ab, ao, l.length, m, rfl, rfl, hm, ⟨_, at_cell h1 2⟩, at_free h1 2, FIN.1, (chg_grown hg [b]).then FIN.2⟩
def NextedR (w : World) (F : List Nat) (b : Nat) (c : Ca) (n : Int) (e : Ending) (w' : World) : Prop := e = .returned (.int .i64 (c.out n)) ∧ CbAt w' F b c ∧ Chg [b] w w'
set_option maxHeartbeats 3200000 in
theorem rnext_any {F : List Nat} {b : Nat} {c : Ca} (n x : Int) {w : World} (H : CbAt w F b c) :
    Calls Tryz.prog 35 #[.pointer (some ⟨b, 0, none⟩), .int .i64 n, .int .i64 x] w (NextedR w F b (c.push x) n) := by
  have HH := hid H
  have HOK := hid (Ca.push_ok H.ok x)
  have hn61 := H.ok.n61
  have hmost := most_le H.ok
  have R := hid (fun (W : World) (h : w.grownBy W none) => rcmost_any (H.grown h))
  have HNE := hid (Ca.push_ne c x)
  have HM1 := hid (show 1 ≤ c.most ∧ c.most ≤ 61 by unfold Ca.most at *; omega)
  have HPD := hid (show ∀ l, c.l = l → c.push x = { c with l := lastL (l ++ [mill x]) c.most } from fun l e => by rw [← e]; rfl)
  obtain ⟨⟨p0, k0, hrow, hi, -⟩, -⟩ := H
  have HI := hid hi
  obtain ⟨l0, hl0⟩ : ∃ l, c.l = l := ⟨_, rfl⟩
  replace HPD := hid (HPD.out _ hl0)
  rw [hl0] at hrow HI hn61
  obtain ⟨n0, hn0⟩ : ∃ n, l0.length = n := ⟨_, rfl⟩
  have HN0 := hid hn0
  rw [hn0] at hrow HI hn61
  have c2 := at_cell hrow 2
  have HE := hid (OwnN.empty w)
  have HB := hid (HI.out.alloc (.cells #[] 3))
  have T := hid (rmillion_any x)
  have c2' : (w.alloc (.cells #[] 3)).cell? ⟨b, 2, none⟩ = some (.slice p0 n0 k0) := at_cell (at_alloc hrow _) 2
  clear hi hl0 hn0 hrow
  go_enter Tryz.func35, Tryz.ntmps35
  go_wp2_with (refine append_nums rfl _ _ rfl w.heap.size _ [] rfl HE.out _ l0 rfl HB.out (by rw [HN0.out]; simp; omega) (gb_size (gb_alloc (.refl w none) _)) ?_; intro v1 w1 hown hgrow hat; have O1 := hid (show OwnN w.heap.size w1 v1 l0 from by simpa using hown); have G1 := hid (gb_ownN (gb_alloc (.refl w none) _) HE.out (Nat.le_refl _) hgrow); clear hown hgrow hat)
  refine (T.out _).mono ?_
  rintro e w1' ⟨rfl, rfl⟩
  obtain ⟨y, hy⟩ : ∃ y, mill x = y := ⟨_, rfl⟩
  have HY := hid hy
  rw [hy]; clear hy
  have O2 := hid (O1.out.grown (World.grownBy_alloc w1 (.cells #[.int .i64 y] 3) none))
  have G2 := hid (gb_alloc G1.out (.cells #[.int .i64 y] 3))
  have CY := hid (at_cell (at_new w1 (.cells #[.int .i64 y] 3)) 0)
  go_wp2_with (refine append_num rfl _ _ rfl w.heap.size _ l0 rfl O2.out _ y rfl CY.out (by rw [HN0.out]; omega) (gb_size G2.out) ?_; intro v2 w2 hown hgrow hat; have O3 := hid hown; have G3 := hid (gb_ownN G2.out O2.out (Nat.le_refl _) hgrow); clear hown hgrow hat)
  refine (R.out _ G3.out).mono ?_
  rintro e w3 ⟨rfl, hg⟩
  have G4 := hid (gb_trans G3.out hg (.inl rfl))
  obtain ⟨ab, ao, nn, m, rfl, hnn, hnm, ⟨x2, c2x⟩, f2x, hfin⟩ := own_push (c := c) HH.out G4.out (O3.out.grown hg) c.most HM1.out.1 (by simp) (by have h := HOK.out; rw [HPD.out, HY.out] at h; exact h)
  have hpd := HPD.out
  rw [HY.out] at hpd
  rw [← hpd] at hfin
  rw [List.length_append, HN0.out, List.length_singleton] at hnn
  have HFIN := hid hfin
  obtain ⟨mo, hmo⟩ : ∃ mo, c.most = mo := ⟨_, rfl⟩
  rw [hmo] at HFIN HM1 ⊢
  have LL := hid (rlast_any ab ao nn m mo (by omega) HM1.out.1 hnm (by omega) (by have := HM1.out; omega) w3)
  have HNN := hid (And.intro hnn hnm)
  clear hg hfin hpd hmo c2 c2' hnn hnm
  go_wp2_with fail
  refine LL.out.mono ?_
  rintro e w3' ⟨rfl, rfl⟩
  clear LL
  go_wp2_with fail
  generalize w3.setCell ⟨b, 2, none⟩ (.slice (some ⟨ab, ao + (nn - mo), none⟩) (nn - (nn - mo)) (m - (nn - mo))) = w4 at *
  have HW4 := hid HFIN.out
  clear HFIN HI HB HE O1 O2 O3 G1 G2 G3 G4 CY R HNN HN0 HM1 HPD HY HH f2x c2x
  generalize c.push x = c1 at *
  clear hmost hn61
  obtain ⟨d0, d1, -⟩ := HW4.out.1.cells
  obtain ⟨p1, k1, hrow, hints, -⟩ := HW4.out.1.row
  have hu60 := HOK.out.u; have hd60 := HOK.out.d; have hN61 := HOK.out.n61
  have hpos := List.length_pos_iff.2 HNE.out
  obtain ⟨N, hN⟩ : ∃ N, c1.l.length = N := ⟨_, rfl⟩
  have HN := hid hN
  rw [hN] at hrow hints hN61 hpos
  obtain ⟨qb, qo, rfl, -, hNk, -⟩ := hints.cell (i := 0) (by rw [hN]; exact hpos)
  have d2 := at_cell hrow 2
  obtain ⟨ku, hku⟩ : ∃ k, c1.up + 1 = k := ⟨_, rfl⟩
  obtain ⟨kd, hkd⟩ : ∃ k, c1.down + 1 = k := ⟨_, rfl⟩
  have su : IntKind.i64.wrap ((c1.up : Int) + 1) = (ku : Int) := by rw [IntWalk.i64_in _ (by omega)]; omega
  have sd : IntKind.i64.wrap ((c1.down : Int) + 1) = (kd : Int) := by rw [IntWalk.i64_in _ (by omega)]; omega
  have L1 := hid (rlast_any qb qo N k1 ku hpos (by omega) hNk (by omega) (by omega))
  have L2 := hid (rlast_any qb qo N k1 kd hpos (by omega) hNk (by omega) (by omega))
  have IU := hid (ints_slice1 hints (Nat.sub_le N ku))
  have ID := hid (ints_slice1 hints (Nat.sub_le N kd))
  have eU : lastL c1.l ku = c1.l.drop (N - ku) := by unfold lastL; rw [hN]
  have eD : lastL c1.l kd = c1.l.drop (N - kd) := by unfold lastL; rw [hN]
  rw [← eU] at IU; rw [← eD] at ID
  have NU := hid (lastL_ne HNE.out (show 0 < ku by omega))
  have ND := hid (lastL_ne HNE.out (show 0 < kd by omega))
  have HOUT := hid (fun (a b : Int) (h1 : loL (lastL c1.l ku) = a) (h2 : hiL (lastL c1.l kd) = b) => show c1.out n = min b (max (mill n) a) by
    subst h1; subst h2; subst hku; subst hkd; rfl)
  have NK := hid HW4.out
  clear hrow hints hN61 eU eD hN HN HNE hku hkd hu60 hd60 HOK HW4 hpos
  generalize lastL c1.l ku = lu at *
  generalize lastL c1.l kd = ld at *
  go_quiet ((go_at_call 50; first | with_reducible exact Calls.quiet_of_same (still_of (L1.out _)) | with_reducible exact Calls.quiet_of_same (still_of (L2.out _))))
  generalize qo + (N - ku) = ua at *
  generalize N - (N - ku) = un at *
  generalize k1 - (N - ku) = uc at *
  generalize qo + (N - kd) = da at *
  generalize N - (N - kd) = dn at *
  generalize k1 - (N - kd) = dc at *
  have MC := hid (rmillion_any n)
  refine exit_gen (fun W => (CbAt W F b c1 ∧ Chg [b] w W) ∧ IntsAt W (.slice (some ⟨qb, ua, none⟩) un uc) lu ∧ IntsAt W (.slice (some ⟨qb, da, none⟩) dn dc) ld) ⟨⟨NK.out.1.grown ⟨rfl, rfl, rfl, Nat.le_refl _, fun _ _ _ => rfl⟩, NK.out.2.grown ⟨rfl, rfl, rfl, Nat.le_refl _, fun _ _ _ => rfl⟩⟩, IU.out.grown ⟨rfl, rfl, rfl, Nat.le_refl _, fun _ _ _ => rfl⟩, ID.out.grown ⟨rfl, rfl, rfl, Nat.le_refl _, fun _ _ _ => rfl⟩⟩ (fun w5 hq => ?_)
  clear IU ID NK d0 d1 d2 su sd L1 L2
  have KK := hid hq
  clear hq
  obtain ⟨_, _, e, eun, hcu, hc0u⟩ := KK.out.2.1.cell (i := 0) (List.length_pos_iff.2 NU.out)
  cases e
  obtain ⟨_, _, e, edn, hcd, hc0d⟩ := KK.out.2.2.cell (i := 0) (List.length_pos_iff.2 ND.out)
  cases e
  rw [Nat.add_zero] at hc0u hc0d
  have hun : 0 < un := by rw [eun]; exact List.length_pos_iff.2 NU.out
  have hdn : 0 < dn := by rw [edn]; exact List.length_pos_iff.2 ND.out
  obtain ⟨a0, ha0⟩ : ∃ a, lu[0]'(List.length_pos_iff.2 NU.out) = a := ⟨_, rfl⟩
  obtain ⟨b0, hb0⟩ : ∃ a, ld[0]'(List.length_pos_iff.2 ND.out) = a := ⟨_, rfl⟩
  rw [ha0] at hc0u; rw [hb0] at hc0d
  have H0u := hid (show loTo lu 0 = a0 by
    rw [← ha0]; unfold loTo; cases lu with | nil => exact absurd rfl NU.out | cons a t => rfl)
  have H0d := hid (show hiTo ld 0 = b0 by
    rw [← hb0]; unfold hiTo; cases ld with | nil => exact absurd rfl ND.out | cons a t => rfl)
  have HNu := hid eun.symm; have HNd := hid edn.symm
  have b61 := hid (And.intro (show lu.length ≤ maxLen from KK.out.2.1.len) (show ld.length ≤ maxLen from KK.out.2.2.len))
  have hun2 : un ≤ maxLen := by rw [← HNu.out]; exact b61.out.1
  have hdn2 : dn ≤ maxLen := by rw [← HNd.out]; exact b61.out.2
  unfold maxLen at hun2 hdn2
  clear ha0 hb0 eun edn
  go_wp2_with fail
  go_quiet (fail)
  refine exit_gen (fun W => (CbAt W F b c1 ∧ Chg [b] w W) ∧ IntsAt W (.slice (some ⟨qb, ua, none⟩) un uc) lu ∧ IntsAt W (.slice (some ⟨qb, da, none⟩) dn dc) ld) ⟨⟨KK.out.1.1.grown ⟨rfl, rfl, rfl, Nat.le_refl _, fun _ _ _ => rfl⟩, KK.out.1.2.grown ⟨rfl, rfl, rfl, Nat.le_refl _, fun _ _ _ => rfl⟩⟩, KK.out.2.1.grown ⟨rfl, rfl, rfl, Nat.le_refl _, fun _ _ _ => rfl⟩, KK.out.2.2.grown ⟨rfl, rfl, rfl, Nat.le_refl _, fun _ _ _ => rfl⟩⟩ (fun wk hq => ?_)
  clear hc0u hc0d KK
  have NK := hid hq
  clear hq
  have HCu := hid (fun (j : Nat) (x : Int) (hx : lu[j]? = some x) => NK.out.2.1.cell' hx)
  have HCd := hid (fun (j : Nat) (x : Int) (hx : ld[j]? = some x) => NK.out.2.2.cell' hx)
  go_wp2_with fail
  go_loopw [9, 11] (fun r i wr => ∃ k : Nat, k ≤ un ∧ i = .int .i64 (k : Int) ∧ r = .int .i64 (loTo lu k) ∧ wk = wr) (fun _ i _ => un - (intOf i).toNat)
  case atStart => exact ⟨0, Nat.zero_le _, rfl, by rw [H0u.out], rfl⟩
  case round =>
    obtain ⟨k, hk, rfl, rfl, rfl⟩ := hrel
    by_cases hlt : k < un
    · have hkl : k < lu.length := by rw [HNu.out]; exact hlt
      have hx := List.getElem?_eq_getElem hkl
      generalize lu[k] = y at *
      have hcx := HCu.out k y hx
      have hs := hid (show loTo lu (k + 1) = min (loTo lu k) y by
        show min (loTo lu k) (lu.getD k 0) = _
        rw [getD_at hx])
      have ilt : (k : Int) < (un : Int) := by omega
      clear hx hkl
      generalize loTo lu k = r at *
      go_wp2_with fail
      all_goals go_roundw
      all_goals first | (case measure => simp [intOf]; omega) | (case rel => exact ⟨k + 1, by omega, by go_num, congrArg (Value.int .i64) (by have := hs.out; omega), trivial⟩)
    · obtain rfl : k = un := by omega
      obtain ⟨ru, hru⟩ : ∃ r, loTo lu k = r := ⟨_, rfl⟩
      rw [hru]
      have HRu := hid hru; clear hru hlt hk
      go_wp2_with fail
      go_loopw [10, 12] (fun r i wr => ∃ k : Nat, k ≤ dn ∧ i = .int .i64 (k : Int) ∧ r = .int .i64 (hiTo ld k) ∧ wk = wr) (fun _ i _ => dn - (intOf i).toNat)
      case atStart => exact ⟨0, Nat.zero_le _, rfl, by rw [H0d.out], rfl⟩
      case round =>
        obtain ⟨k, hk, rfl, rfl, rfl⟩ := hrel
        by_cases hlt : k < dn
        · have hkl : k < ld.length := by rw [HNd.out]; exact hlt
          have hx := List.getElem?_eq_getElem hkl
          generalize ld[k] = y at *
          have hcx := HCd.out k y hx
          have hs := hid (show hiTo ld (k + 1) = max (hiTo ld k) y by
            show max (hiTo ld k) (ld.getD k 0) = _
            rw [getD_at hx])
          have ilt : (k : Int) < (dn : Int) := by omega
          clear hx hkl
          generalize hiTo ld k = r at *
          go_wp2_with fail
          all_goals go_roundw
          all_goals first | (case measure => simp [intOf]; omega) | (case rel => exact ⟨k + 1, by omega, by go_num, congrArg (Value.int .i64) (by have := hs.out; omega), trivial⟩)
        · obtain rfl : k = dn := by omega
          obtain ⟨rd, hrd⟩ : ∃ r, hiTo ld k = r := ⟨_, rfl⟩
          rw [hrd]
          have HRd := hid hrd; clear hrd hlt hk
          go_wp2_with fail
          refine (MC.out _).mono ?_
          rintro e w9 ⟨rfl, rfl⟩
          go_wp2_with fail
          all_goals go_ret
          all_goals exact ⟨congrArg (fun z => Ending.returned (.int .i64 z)) (by rw [HOUT.out ru rd (by show loTo lu lu.length = _; rw [HNu.out]; exact HRu.out) (by show hiTo ld ld.length = _; rw [HNd.out]; exact HRd.out)]; try omega), NK.out.1.1, NK.out.1.2⟩
    
end Go.Proofs.YthobbekocimcnaaGreat
end
