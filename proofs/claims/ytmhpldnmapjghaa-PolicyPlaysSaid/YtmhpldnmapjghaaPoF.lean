/-
  Contract: the law's own examples: the program tells what the document says of a few. And: what a walk keeps of a configuration and objects of the call's own. No condition.
-/
import Derived.Test.YtmhpldnmapjghaaPoE
import Derived.Test.YtmhpldnmapjghaaCfAt
import Derived.Test.YtmhpldnmapjghaaLn
set_option linter.unusedSimpArgs false
set_option linter.unusedVariables false
namespace Go.Proofs.Ytmhpldnmapjghaa
set_option maxRecDepth 100000
open Go.RowKit

section
variable {w W W' : World} {x b b1 b2 : Nat} {c : Conf} {p p' p1 p2 : Po} {n z : Int} {v : Value} {l : List Int}
theorem pgb_chg (h : w.grownBy W none) (hc : Chg [b] W W') (hb : w.heap.size ≤ b) : w.grownBy W' none :=
  ((chg_grown h []).trans hc (fun y hy => by rw [List.mem_singleton] at hy; subst hy; exact .inr hb)).free (fun y hy => by cases hy)
/-- a configuration in a block and an object of the call's own; two objects -/
structure Pc1 (w : World) (x : Nat) (c : Conf) (b : Nat) (p : Po) (W : World) : Prop where
  gr : w.grownBy W none
  box : W.heap[x]? = some (.cells c.cells 26)
  at1 : PoAt W b p
  lo : w.heap.size ≤ b
  nx : x ≠ b
structure Pc2 (w : World) (x : Nat) (c : Conf) (b1 : Nat) (p1 : Po) (b2 : Nat) (p2 : Po) (W : World) : Prop where
  k1 : Pc1 w x c b1 p1 W
  k2 : Pc1 w x c b2 p2 W
  ne : b1 ≠ b2
theorem Pc1.grown (h : Pc1 w x c b p W) (hg : W.grownBy W' none) : Pc1 w x c b p W' := ⟨gb_trans h.gr hg (.inl rfl), at_grown h.box hg (by simp), h.at1.grown hg, h.lo, h.nx⟩
theorem Pc1.drew (h : Pc1 w x c b p W) : Pc1 w x c b p W.drew := ⟨gb_drew h.gr, h.box, h.at1.drew, h.lo, h.nx⟩
theorem Pc1.chg (h : Pc1 w x c b p W) (hc : PoAt W' b p') (hg : Chg [b] W W') : Pc1 w x c b p' W' := ⟨pgb_chg h.gr hg h.lo, hg.at h.box (by simp [h.nx]), hc, h.lo, h.nx⟩
theorem Pc1.start (hC : Cfx w x c W) (h2 : PoAt W' b p) (hg : W.grownBy W' none) (hb : W.heap.size ≤ b) : Pc1 w x c b p W' :=
  ⟨gb_trans hC.g hg (.inl rfl), at_grown hC.box hg (by simp), h2, Nat.le_trans hC.g.size hb, by have := at_lt hC.box; omega⟩
theorem Pc1.cfx (h : Pc1 w x c b p W) : Cfx w x c W := ⟨h.box, h.gr⟩
theorem Pc2.grown (h : Pc2 w x c b1 p1 b2 p2 W) (hg : W.grownBy W' none) : Pc2 w x c b1 p1 b2 p2 W' := ⟨h.k1.grown hg, h.k2.grown hg, h.ne⟩
theorem Pc2.drew (h : Pc2 w x c b1 p1 b2 p2 W) : Pc2 w x c b1 p1 b2 p2 W.drew := ⟨h.k1.drew, h.k2.drew, h.ne⟩
theorem Pc2.chg1 (h : Pc2 w x c b1 p1 b2 p2 W) (hc : PoAt W' b1 p') (hg : Chg [b1] W W') : Pc2 w x c b1 p' b2 p2 W' :=
  ⟨h.k1.chg hc hg, ⟨pgb_chg h.k1.gr hg h.k1.lo, hg.at h.k1.box (by simp [h.k1.nx]), h.k2.at1.chg hg (by simp [h.ne.symm]), h.k2.lo, h.k2.nx⟩, h.ne⟩
theorem Pc2.swap (h : Pc2 w x c b1 p1 b2 p2 W) : Pc2 w x c b2 p2 b1 p1 W := ⟨h.k2, h.k1, h.ne.symm⟩
theorem Pc2.chg2 (h : Pc2 w x c b1 p1 b2 p2 W) (hc : PoAt W' b2 p') (hg : Chg [b2] W W') : Pc2 w x c b1 p1 b2 p' W' := (h.swap.chg1 hc hg).swap
theorem Pc2.start (h : Pc1 w x c b1 p1 W) (h2 : PoAt W' b p) (hg : W.grownBy W' none) (hb : W.heap.size ≤ b) : Pc2 w x c b1 p1 b p W' :=
  ⟨h.grown hg, Pc1.start h.cfx h2 hg hb, by have := h.at1.lt; omega⟩
theorem plim_as (H : PoAt W b p) (h : p.lim n = z) :
    Calls Try.prog 14 #[.pointer (some ⟨b, 0, none⟩), .int .i64 n] W fun e w' => e = .returned (.int .i64 z) ∧ W.grownBy w' none := by
  subst h; exact plim_any n H
theorem pbase_as (H : PoAt W b p) (h : p.base = z) :
    Calls Try.prog 15 #[.pointer (some ⟨b, 0, none⟩)] W fun e w' => e = .returned (.int .i64 z) ∧ W.grownBy w' none := by
  subst h; exact pbase_any H
theorem pb_as {B lo hi : Int} (h : (rt c).bounds B = (lo, hi)) (W : World) :
    Calls Try.prog 18 #[cf c, .int .i64 B] W fun e w' => e = .returned (.tuple #[.int .i64 lo, .int .i64 hi]) ∧ W.grownBy w' none := by
  have := pb_any c B W
  rw [h] at this; exact this
theorem pput_as (H : PoAt W b p) (hx : p.in n = true) (h : (p.put n).2 = p') :
    Calls Try.prog 11 #[.pointer (some ⟨b, 0, none⟩), .int .i64 n] W fun e w' => e = .returned (.int .i64 0) ∧ PoAt w' b p' ∧ Chg [b] W w' := by
  subst h; exact pput_yes n hx H
theorem pset_no (H : PoAt W b p) (hv : IntsAt W v l) (h : p.mayset l = false) :
    Calls Try.prog 12 #[.pointer (some ⟨b, 0, none⟩), v] W fun e w' => e = .returned (.int .i64 1) ∧ W.grownBy w' none :=
  (poset_any v l H hv).mono fun e w' hs => by
    rcases hs with ⟨h1, _⟩ | ⟨_, h2, h3⟩
    · rw [h] at h1; cases h1
    · exact ⟨h2, h3⟩
theorem pset_yes (H : PoAt W b p) (hv : IntsAt W v l) (h : p.mayset l = true) :
    Calls Try.prog 12 #[.pointer (some ⟨b, 0, none⟩), v] W fun e w' => e = .returned (.int .i64 0) ∧ PoAt w' b ⟨p.r, l⟩ ∧ Chg [b] W w' :=
  (poset_any v l H hv).mono fun e w' hs => by
    rcases hs with ⟨_, h2, h3, h4⟩ | ⟨h1, _⟩
    · exact ⟨h2, h3, h4⟩
    · rw [h] at h1; cases h1
/-- All, its length alone -/
theorem palls_len (H : PoAt W b p) (k : Nat) (h : p.l.length = k) :
    Calls Try.prog 13 #[.pointer (some ⟨b, 0, none⟩)] W fun e w' => (∃ q m, e = .returned (.slice q k m)) ∧ W.grownBy w' none :=
  (palls_any H).mono fun e w' ⟨⟨v, h1, h2⟩, hg⟩ => by
    obtain ⟨q, m, rfl⟩ := h2.form
    exact ⟨⟨q, m, by rw [h1, h]⟩, hg⟩
end

set_option maxHeartbeats 3200000 in
theorem told_any (w : World) :
    Calls Try.prog 16 #[] w fun e w' => e = .returned (.bool true) ∧ w.grownBy w' none := by
  have B1 := hid (show (rt dflt).bounds 4 = (0, 8) by rfl)
  have B2 := hid (show (rt dflt).bounds 10 = (5, 20) by rfl)
  have B3 := hid (show (rt zeroC).bounds 4 = (0, 0) by rfl)
  have N1 := hid (ponew_ok dflt 4 rfl rfl)
  have N2 := hid (ponew_no dflt 0 (by decide))
  have l1 := hid (show (⟨rt dflt, [4]⟩ : Po).lim 50 = 8 by rfl)
  have p1 := hid (show ((⟨rt dflt, [4]⟩ : Po).put 8).2 = ⟨rt dflt, [4, 8]⟩ by rfl)
  have l2 := hid (show (⟨rt dflt, [4, 8]⟩ : Po).lim 50 = 8 by rfl)
  have p2 := hid (show ((⟨rt dflt, [4, 8]⟩ : Po).put 8).2 = ⟨rt dflt, [8, 8]⟩ by rfl)
  have l3 := hid (show (⟨rt dflt, [8, 8]⟩ : Po).lim 50 = 16 by rfl)
  have l4 := hid (show (⟨rt dflt, [8, 8]⟩ : Po).lim 0 = 4 by rfl)
  have b1 := hid (show (⟨rt dflt, [8, 8]⟩ : Po).base = 8 by rfl)
  have i1 := hid (show (⟨rt dflt, [8, 8]⟩ : Po).in 0 = false by rfl)
  have s1 := hid (show (⟨rt dflt, [8, 8]⟩ : Po).mayset [] = false by rfl)
  have s2 := hid (show (⟨rt dflt, [8, 8]⟩ : Po).mayset [9] = true by rfl)
  go_enter Try.func16, Try.ntmps16
  go_wp2_with fail
  refine (default_any _).mono ?_
  rintro e w1 ⟨rfl, hg⟩
  have C0 := hid (cfx_new dflt hg); clear hg
  go_wp2_with (first | refine wpList_store_new (w := w1) (cs := dflt.cells) rfl (by kernel_rfl) (by kernel_rfl) (by kernel_rfl) rfl rfl rfl rfl rfl ?_ | refine wpList_conf C0.out.box rfl rfl rfl rfl ?_)
  refine (pb_as B1.out _).mono ?_
  rintro e w2 ⟨rfl, hg⟩
  have C2 := hid (C0.out.grown hg); clear hg
  go_wp2_with (refine wpList_conf C2.out.box rfl rfl rfl rfl ?_)
  refine (pb_as B2.out _).mono ?_
  rintro e w3 ⟨rfl, hg⟩
  have C3 := hid (C2.out.grown hg); clear hg
  go_wp2_with (refine wpList_conf C3.out.box rfl rfl rfl rfl ?_)
  refine (N1.out _).mono ?_
  rintro e w4 ⟨bx, rfl, hp, hg, hb⟩
  have K := hid (Pc1.start C3.out hp hg hb); clear hp hg hb
  generalize w1.heap.size = xx at *
  clear C0 C2 C3
  go_wp2_with fail
  refine (plim_as K.out.at1 l1.out).mono ?_
  rintro e v0 ⟨rfl, hg⟩
  replace K := hid (K.out.grown hg); clear hg
  go_wp2_with fail
  refine (pput_as K.out.at1 rfl p1.out).mono ?_
  rintro e v1 ⟨rfl, hc, hg⟩
  replace K := hid (K.out.chg hc hg); clear hc hg
  go_wp2_with fail
  refine (plim_as K.out.at1 l2.out).mono ?_
  rintro e v2 ⟨rfl, hg⟩
  replace K := hid (K.out.grown hg); clear hg
  go_wp2_with fail
  refine (pput_as K.out.at1 rfl p2.out).mono ?_
  rintro e v3 ⟨rfl, hc, hg⟩
  replace K := hid (K.out.chg hc hg); clear hc hg
  go_wp2_with fail
  refine (plim_as K.out.at1 l3.out).mono ?_
  rintro e v4 ⟨rfl, hg⟩
  replace K := hid (K.out.grown hg); clear hg
  go_wp2_with (refine wpList_buildTo (ty := 26) (cs := zeroC.cells) rfl rfl rfl (by kernel_rfl) ?_)
  refine (pb_as B3.out _).mono ?_
  rintro e v5 ⟨rfl, hg⟩
  replace K := hid (K.out.grown hg); clear hg
  go_wp2_with fail
  refine (plim_as K.out.at1 l4.out).mono ?_
  rintro e v6 ⟨rfl, hg⟩
  replace K := hid (K.out.grown hg); clear hg
  go_wp2_with fail
  refine (pbase_as K.out.at1 b1.out).mono ?_
  rintro e v7 ⟨rfl, hg⟩
  replace K := hid (K.out.grown hg); clear hg
  go_wp2_with fail
  refine (palls_len K.out.at1 2 rfl).mono ?_
  rintro e v8 ⟨⟨q0, m0, rfl⟩, hg⟩
  replace K := hid (K.out.grown hg); clear hg
  go_wp2_with fail
  refine (pput_no 0 i1.out K.out.at1).mono ?_
  rintro e v9 ⟨rfl, hg⟩
  replace K := hid (K.out.grown hg); clear hg
  go_wp2_with fail
  refine (pset_no K.out.at1 (.inl ⟨rfl, rfl⟩) s1.out).mono ?_
  rintro e u0 ⟨rfl, hg⟩
  replace K := hid (K.out.grown hg); clear hg
  go_wp2_with fail
  refine (pset_yes (K.out.grown (World.grownBy_alloc _ _ none)).at1 (num_new _ [9] _ rfl 1 rfl (le_max _ (by decide))) s2.out).mono ?_
  rintro e u1 ⟨rfl, hc, hg⟩
  replace K := hid ((K.out.grown (World.grownBy_alloc _ _ none)).chg hc hg); clear hc hg
  go_wp2_with (refine wpList_row_w K.out.box Try.underlying26 rfl (by kernel_rfl) (by rfl) rfl rfl rfl ?_)
  refine (N2.out _).mono ?_
  rintro e u2 ⟨rfl, hg⟩
  replace K := hid (K.out.grown hg); clear hg
  go_wp2_with fail
  refine (plim_nil 1 _).mono ?_
  rintro e u3 ⟨rfl, rfl⟩
  go_wp2_with fail
  go_ret
  exact ⟨rfl, K.out.gr⟩
end Go.Proofs.Ytmhpldnmapjghaa
