/-
  Contracts: the table's Drop: maps.DeleteFunc with a function that counts what goes. The condition: the table lies there.
  Contract for package state: maySend: whether a message may be sent. No condition.
  Contract: the document's Most: the greatest of what several want. The condition: slices that read as numbers.
  Contract for the document's Law: Next. The condition of a call: the object lies there, slices read as numbers.
  Contract: whether a configuration may be, as the document says it. No condition.
  Contract: the document's NewLaw; the program's Law and the document's, side by side. The condition of a call: the object lies there, slices read as numbers.
-/
import Derived.Test.YtecggbndlbkhdaaGreatY27
import Derived.Test.YtecggbndlbkhdaaGreatY13
import Derived.Lib.SlMapFilter
import Derived.Maps.Ext
import Derived.Laws.IdiomRangeMap
import Derived.Deep.LoopGhost
import Derived.Test.YtecggbndlbkhdaaGreatY37
import Derived.Test.YtecggbndlbkhdaaGreatY6
import Derived.Test.YtecggbndlbkhdaaGreatY24
import Derived.Test.YtecggbndlbkhdaaGreatY14
import Derived.Test.YtecggbndlbkhdaaGreatY3
import Derived.BigQuiet
import Derived.Deep.QuietTactic
import Derived.Test.YtecggbndlbkhdaaGreatY21
import Derived.Test.YtecggbndlbkhdaaGreatY16
section
set_option linter.unusedSimpArgs false
set_option linter.unusedVariables false
namespace Go.Proofs.YtecggbndlbkhdaaGreat
set_option maxRecDepth 100000
open Go.RowKit Go.Maps

theorem gb_but {a c : World} (h : a.grownBy c none) (row : Option Nat) : a.grownBy c row := ⟨h.os, h.tape, h.output, h.size, fun i hi _ => h.block i hi (by simp)⟩
theorem cells_ne_map {w : World} {i j : Nat} {cs : Array Value} {t : TypeId} {f : Nat × Nat} {es : Array MapEntry} {c : Nat} (h : w.heap[i]? = some (.cells cs t f)) (k : w.heap[j]? = some (.map es c)) : i ≠ j := by
  intro e; rw [e, k] at h; cases h
theorem cells_ne {w : World} {i j : Nat} {cs ds : Array Value} {t u : TypeId} {f g : Nat × Nat} (h : w.heap[i]? = some (.cells cs t f)) (k : w.heap[j]? = some (.cells ds u g)) (hu : t ≠ u) : i ≠ j := by
  intro e; rw [e, k] at h; cases h; exact hu rfl
/-- the function handed over: an entry of a later epoch stays -/
theorem del_no (p1 p2 p3 v e : Int) (eb gb : Nat) (w : World) (he : w.heap[eb]? = some (.cells #[.int .i64 e] 2)) (h : ¬ p1 ≤ e) :
    Calls Tryz.prog 249 #[.agg #[.int .i64 p1, .int .i64 p2, .int .i64 p3], .int .i64 v, .pointer (some ⟨eb, 0, none⟩), .pointer (some ⟨gb, 0, none⟩)] w fun x w' => x = .returned (.bool false) ∧ w.grownBy w' none := by
  have c0 := at_cell (at_alloc he (.cells #[.int .i64 p1, .int .i64 p2, .int .i64 p3] 317)) 0
  have h' : e < p1 := by omega
  go_enter Tryz.func249, Tryz.ntmps249
  go_wp2
  go_ret
  exact ⟨rfl, World.grownBy_alloc _ _ _⟩
/-- one that goes is counted -/
theorem del_yes (p1 p2 p3 v e : Int) (eb gb c : Nat) (w : World) (he : w.heap[eb]? = some (.cells #[.int .i64 e] 2)) (hg : w.heap[gb]? = some (.cells #[.int .i64 (c : Int)] 130)) (hc : c ≤ 100000) (h : p1 ≤ e) :
    Calls Tryz.prog 249 #[.agg #[.int .i64 p1, .int .i64 p2, .int .i64 p3], .int .i64 v, .pointer (some ⟨eb, 0, none⟩), .pointer (some ⟨gb, 0, none⟩)] w fun x w' => x = .returned (.bool true) ∧ w.grownBy w' (some gb) ∧ w'.heap[gb]? = some (.cells #[.int .i64 ((c + 1 : Nat) : Int)] 130) := by
  have c0 := at_cell (at_alloc he (.cells #[.int .i64 p1, .int .i64 p2, .int .i64 p3] 317)) 0
  have hg1 := at_alloc hg (.cells #[.int .i64 p1, .int .i64 p2, .int .i64 p3] 317)
  have hadd := add_i64 ⟨gb, 0, none⟩ c _ (at_cell hg1 0) (at_free hg1 0) (by omega) (by omega)
  have HG := hid hg1
  have HADD := hid hadd
  have h' : ¬ e < p1 := by omega
  have hcc : ((c : Int) + 1) = ((c + 1 : Nat) : Int) := by omega
  have HCC := hid hcc
  clear hadd hg1 hg hcc hc
  go_enter Tryz.func249, Tryz.ntmps249
  go_wp2_with (first | (go_at_call 155; refine HADD.out.mono ?_; rintro x w1 ⟨rfl, rfl⟩))
  go_ret
  refine ⟨rfl, gb_row (gb_but (World.grownBy_alloc _ _ none) _) rfl _, ?_⟩
  have := at_set HG.out 0 (.int .i64 ((c : Int) + 1))
  rw [HCC.out] at this ⊢
  exact this
set_option maxHeartbeats 4000000 in
theorem delFunc_any {D : DataW Unit} {L : List Sm} (b nn eb gb : Nat) (e : Int) (hM : MapIs D L) (hL : FitsT L) (hlen : L.length ≤ 100000) (w : World) (hown : w.ownsMap Tryz.prog 317 (plainElem Tryz.prog 2) b nn D)
    (he : w.heap[eb]? = some (.cells #[.int .i64 e] 2)) (hg : w.heap[gb]? = some (.cells #[.int .i64 0] 130)) :
    Calls Tryz.prog 248 #[.map (some b), .func (.func 249) #[] #[.pointer (some ⟨eb, 0, none⟩), .pointer (some ⟨gb, 0, none⟩)]] w fun x w' => x = .returned (.tuple #[]) ∧
      (∃ D' : DataW Unit, w'.ownsMap Tryz.prog 317 (plainElem Tryz.prog 2) b nn D' ∧ MapIs D' (dropT L e)) ∧ Chg [b, gb] w w' ∧ w'.heap[gb]? = some (.cells #[.int .i64 ((L.length - (dropT L e).length : Nat) : Int)] 130) := by
  obtain ⟨pd, hpd⟩ := pd_of Unit e
  have HPD := hid hpd
  obtain ⟨es0, rfl, hap, hkeys⟩ := hown.entries keyedT
  have HS := hid (And.intro hap hkeys)
  have HB : Hid (eb ≠ b ∧ gb ≠ b ∧ eb ≠ gb) := by
    obtain ⟨es, clock, hb, _⟩ := hown
    exact ⟨cells_ne_map he hb, cells_ne_map hg hb, cells_ne he hg (by decide)⟩
  have HE := hid he
  have HGB := hid hg
  have HM := hid hM
  have HLEN := hid hlen
  have HFT := hid hL
  clear hpd hap hkeys he hg hM hlen hL
  go_enter Tryz.func248, Tryz.ntmps248
  go_wp2_with (first
    | (at_range; refine wpList_range_own _ rfl _ 228 rfl 317 2 keyedT Tryz.underlying228 (plainElem Tryz.prog 2) b nn _ rfl hown ?_; intro w0 hrg0 hg0 hs0)
    | go_in)
  go_frame
  go_loopw [8] (fun _ wr => ∃ (left : Lit → Bool) (cnt c : Nat), wr.ranges Tryz.prog 317 (plainElem Tryz.prog 2) b w.heap.size nn (Fk pd es0 left) left cnt ∧ Chg [b, gb] w wr ∧ c + Maps.size (Fk pd es0 left) = L.length ∧ wr.heap[gb]? = some (.cells #[.int .i64 (c : Int)] 130))
    (fun _ wr => wr.rangeLeft b w.heap.size)
  case atStart => exact ⟨_, _, 0, by rw [Fk_start HS.out.2]; exact hrg0, chg_grown hg0 _, by rw [Fk_start HS.out.2, HM.out.size]; omega, at_grown HGB.out hg0 (by simp)⟩
  case round =>
    obtain ⟨left, cnt, c, hrg, hgw, hcs, hcg⟩ := hrel
    have HGW := hid hgw
    have HCS := hid hcs
    have HCG := hid hcg
    clear hgw hcs hcg
    have HRG := hid hrg
    have HEB : Hid (wr.heap[eb]? = some (.cells #[.int .i64 e] 2)) := HGW.out.at HE.out (by have := HB.out; simp; omega)
    have HC5 : Hid (c ≤ 100000) := by have h1 := HCS.out; have h2 := HLEN.out; show c ≤ 100000; omega
    go_wp2_with (first
      | (at_next; refine wpList_next_ranges _ rfl _ rfl 317 keyedT (plainElem Tryz.prog 2) encP (Value.int .i64) (fun key kl hk => by obtain ⟨x, hx, _⟩ := keyOf_inv hk; exact ⟨x, hx⟩) (fun v y hv => by obtain ⟨a, h1, _⟩ := elem_i64 hv; exact ⟨a, h1⟩) b w.heap.size nn _ _ _ rfl hrg ?_ ?_)
      | go_in)
    · intro _ hl0
      go_wp2
      go_end0
      have hm := HM.out.drop HFT.out HPD.out
      have hc := HCS.out
      rw [Fk_end hl0, hm.size] at hc
      refine ⟨rfl, ⟨_, ?_, hm⟩, HGW.out, ?_⟩
      · rw [← Fk_end hl0]; exact HRG.out.owns
      · rw [show L.length - (dropT L e).length = c by omega]; exact HCG.out
    · intro x1 x2 x3 y kl yd yp w1 cnt1 hkey hlx hv hat hrg1 hlt hg1 hs1 hen
      have hkey0 := hkey
      obtain ⟨x', ex, rfl, hfx⟩ := keyOf_inv hkey
      obtain rfl : (x1, x2, x3) = x' := encP_inj ex
      clear ex hs1 hkey
      have hne1 : w.heap.size ≠ eb := by have := at_lt HE.out; omega
      have hne2 : w.heap.size ≠ gb := by have := at_lt HGB.out; omega
      have HE1 := hid (at_alloc (at_grown HEB.out hg1 (fun k => hne1 (by cases k; rfl))) (.cells #[.int .i64 x1, .int .i64 x2, .int .i64 x3] 317))
      have HG1 := hid (at_alloc (at_grown HCG.out hg1 (fun k => hne2 (by cases k; rfl))) (.cells #[.int .i64 x1, .int .i64 x2, .int .i64 x3] 317))
      have HGW1 := hid ((HGW.out.trans (chg_row hg1) (fun x hx => .inr (by simp at hx; omega))).alloc (.cells #[.int .i64 x1, .int .i64 x2, .int .i64 x3] 317))
      have HRG1 := hid (hrg1.alloc (.cells #[.int .i64 x1, .int .i64 x2, .int .i64 x3] 317))
      have HHAS := hid (Maps.has_true_of_atKey hat)
      have HFX := hid (And.intro hfx (And.intro hkey0 hlx))
      have HAT := hid hat
      have HLT := hid hlt
      have HPX := hid (HPD.out (x1, x2, x3) yd hfx)
      have HSZ := hid (Nat.le_trans HGW.out.size hg1.size)
      have HKB := hid (at_new w1 (.cells #[.int .i64 x1, .int .i64 x2, .int .i64 x3] 317))
      clear hrg1 hg1 hfx hkey0 hlx hlt hrg hat hne1 hne2
      unfold encP at hen ⊢
      simp only at hen ⊢
      by_cases hx : x1 ≤ e
      · have HDEL := hid (del_yes x1 x2 x3 y e eb gb c _ HE1.out HG1.out HC5.out hx)
        have hp : pd (pkL (x1, x2, x3)) yd = true := by rw [HPX.out]; exact decide_eq_true hx
        have HP := hid hp
        clear hp
        go_wp2_with (first
          | (refine HDEL.out.mono ?_; rintro e w2 ⟨rfl, hg2, hgb2⟩; have HRG2 := hid (HRG1.out.kept hg2 (fun k => HB.out.2.1 (by cases k; rfl)) (fun k => by cases k; exact absurd (at_lt HGB.out) (Nat.lt_irrefl _))); have HG2 := hid hg2; have HGB2 := hid hgb2; have hkb := at_grown HKB.out hg2 (fun k => by cases k; have h1 := at_lt HGB.out; have h2 := HSZ.out; omega); have q0 := at_cell hkb 0; have q1 := at_cell hkb 1; have q2 := at_cell hkb 2; clear hg2 hgb2 hkb)
          | (at_delete; refine wpList_delete_ranges _ rfl _ _ 228 317 rfl 2 keyedT Tryz.underlying228 (plainElem Tryz.prog 2) b w.heap.size nn _ _ _ rfl HRG2.out _ _ rfl HFX.out.2.1 ?_; intro w3 cnt3 hrg3 hle hturn; go_frame)
          | go_in)
        rw [Maps.strike_twice] at hrg3
        have HRG3 := hid hrg3
        have HTURN := hid hturn
        have HLE := hid hle
        clear hrg3 hturn hle q0 q1 q2
        have hstr := Fk_struck HS.out.1 (pkL_key _) HFX.out.2.2 HP.out HAT.out
        have hsz := Maps.size_del (k := pkL (x1, x2, x3)) (HRG.out.owns.tidy keyedT)
        rw [HHAS.out, if_pos rfl, hstr] at hsz
        have HSTR := hid hstr
        have HSIZ := hid hsz
        clear hstr hsz
        go_roundw
        case rel =>
          refine ⟨_, cnt3, c + 1, by rw [← HSTR.out]; exact HRG3.out, ?_, by have h1 := HSIZ.out; have h2 := HCS.out; omega, at_grown HGB2.out HTURN.out.grown (fun k => HB.out.2.1 (by cases k; rfl))⟩
          exact (HGW1.out.then ((chg_row HG2.out).more (by simp))).then ((chg_row HTURN.out.grown).more (by simp))
        case measure => rw [HRG3.out.left_eq, HRG.out.left_eq]; have h1 := HLE.out; have h2 := HLT.out; omega
      · have HDEL := hid (del_no x1 x2 x3 y e eb gb _ HE1.out hx)
        have hp : pd (pkL (x1, x2, x3)) yd = false := by rw [HPX.out]; exact decide_eq_false hx
        have HP := hid hp
        clear hp
        go_wp2_with (first
          | (refine HDEL.out.mono ?_; rintro e w2 ⟨rfl, hg2⟩; have HRG2 := hid (HRG1.out.kept hg2 (by simp) (by simp)); have HG2 := hid hg2; clear hg2)
          | go_in)
        have hstr := Fk_stays HS.out.1 (pkL_key _) HFX.out.2.2 HP.out HAT.out
        have HSTR := hid hstr
        clear hstr
        go_roundw
        case rel => exact ⟨_, cnt1, c, by rw [← HSTR.out]; exact HRG2.out, HGW1.out.grown HG2.out, by rw [← HSTR.out]; exact HCS.out, at_grown HG1.out HG2.out (by simp)⟩
        case measure => rw [HRG2.out.left_eq, HRG.out.left_eq]; exact HLT.out
set_option maxHeartbeats 1000000 in
theorem drop_any {n m f : Int} {L : List Sm} {b mb : Nat} {w : World} (h : TbAt n m f L b mb w) (hlen : L.length ≤ 100000) (e : Int) :
    Calls Tryz.prog 154 #[.pointer (some ⟨b, 0, none⟩), .int .i64 e] w fun x w' => x = .returned (.int .i64 ((L.length - (dropT L e).length : Nat) : Int)) ∧ TbAt n m f (dropT L e) b mb w' ∧ Chg [mb] w w' := by
  have HT := hid h
  have HLEN := hid hlen
  obtain ⟨t0, t1, t2, t3⟩ := h.cells
  have hb := h.lt.1
  obtain ⟨D, k1, k2⟩ := h.map
  have hgn : ((w.alloc (.cells #[.int .i64 e] 2)).alloc (.cells #[.int .i64 0] 130)).heap[w.heap.size + 1]? = some (.cells #[.int .i64 0] 130) := by
    have := at_new (w.alloc (.cells #[.int .i64 e] 2)) (.cells #[.int .i64 0] 130)
    rw [World.size_alloc] at this
    exact this
  have HDEL := hid (delFunc_any mb L.length w.heap.size (w.heap.size + 1) e k2 h.fine.fits hlen _ ((k1.alloc (.cells #[.int .i64 e] 2)).alloc (.cells #[.int .i64 0] 130)) (at_alloc (at_new w _) _) hgn)
  clear h hlen k1 k2 hgn
  go_enter Tryz.func154, Tryz.ntmps154
  go_wp2_with (first
    | (go_at_call 248; refine HDEL.out.mono ?_; rintro x w2 ⟨rfl, hD, hc, hgc⟩; have HD := hid hD; have HC := hid hc; have HGC := hid hgc; clear hD hc hgc t0 t1 t2 t3)
    | (go_at_call 100; refine (load_i64 _ _ _ (at_cell HGC.out 0)).mono ?_; rintro x w3 ⟨rfl, rfl⟩))
  go_ret
  have hlt := HT.out.lt
  have hc : Chg [mb] w w2 := ((chg_grown (gb_alloc (World.grownBy_alloc w _ none) _) [mb]).trans HC.out (fun x hx => by
    simp only [List.mem_cons, List.not_mem_nil, or_false] at hx ⊢
    omega))
  obtain ⟨D', r1, r2⟩ := HD.out
  refine ⟨rfl, ⟨hc.at HT.out.obj (by simpa using HT.out.ne), ⟨D', ?_, r2⟩, HT.out.fine.sub _, HT.out.nm⟩, hc⟩
  rw [← r2.size]
  exact owns_tight r1
end Go.Proofs.YtecggbndlbkhdaaGreat
end
section
set_option linter.unusedSimpArgs false
set_option linter.unusedVariables false
namespace Go.Proofs.YtecggbndlbkhdaaGreat
set_option maxRecDepth 100000
open Go.RowKit

end Go.Proofs.YtecggbndlbkhdaaGreat
end
section
set_option linter.unusedSimpArgs false
set_option linter.unusedVariables false
namespace Go.Proofs.YtecggbndlbkhdaaGreat
set_option maxRecDepth 100000
open Go.RowKit

end Go.Proofs.YtecggbndlbkhdaaGreat
end
section
set_option linter.unusedSimpArgs false
set_option linter.unusedVariables false
namespace Go.Proofs.YtecggbndlbkhdaaGreat
set_option maxRecDepth 100000
open Go.RowKit

end Go.Proofs.YtecggbndlbkhdaaGreat
end
section
set_option linter.unusedSimpArgs false
namespace Go.Proofs.YtecggbndlbkhdaaGreat
set_option maxRecDepth 100000
open Go.RowKit

end Go.Proofs.YtecggbndlbkhdaaGreat
end
section
set_option linter.unusedSimpArgs false
set_option linter.unusedVariables false
namespace Go.Proofs.YtecggbndlbkhdaaGreat
set_option maxRecDepth 100000
open Go.RowKit

theorem PrAt.ext {w w' : World} {F : List Nat} {b y : Nat} {c : Conf} {p : Po} (H : PrAt w F b c p) (hg : w.grownBy w' none) (h1 : w.heap.size ≤ y) (h2 : y < w'.heap.size) : PrAt w' (y :: F) b c p := by
  obtain ⟨⟨q, k, r1, r2, r3⟩, h4, h5, h6, h7⟩ := H
  refine ⟨⟨q, k, at_grown r1 hg (by simp), r2.grown hg, fun a e hm => ?_⟩, List.mem_cons_of_mem _ h4, fun x hx => ?_, h6, h7⟩
  · subst e
    rcases List.mem_cons.1 hm with h | h
    · have := ints_block r2 h6.ne a _ _ rfl
      omega
    · exact r3 a rfl h
  · rcases List.mem_cons.1 hx with rfl | hx
    · exact h2
    · exact Nat.lt_of_lt_of_le (h5 x hx) hg.size
/-- a configuration in a block, the program's Law and the document's -/
structure Lp (w : World) (x : Nat) (c : Conf) (m : Nat) (B : LBl) (s : La) (R : LRb) (t : La) (W : World) : Prop where
  k1 : Lk1 w x c B s W
  k2 : LrAt W (R.b :: R.r :: R.c :: x :: B.F) R c m t
  l2 : ∀ y ∈ R.F, w.heap.size ≤ y
  ne : ∀ y ∈ B.F, y ∉ R.F
  nx : x ∉ R.F
section
variable {w W W' : World} {x m : Nat} {c : Conf} {B : LBl} {R : LRb} {s s' t t' : La} {v : Value} {vs : List Int} {y z : Int}
theorem Lp.grown (h : Lp w x c m B s R t W) (hg : W.grownBy W' none) : Lp w x c m B s R t W' := ⟨h.k1.grown hg, h.k2.grown hg, h.l2, h.ne, h.nx⟩
theorem Lp.drew (h : Lp w x c m B s R t W) : Lp w x c m B s R t W.drew := ⟨h.k1.drew, h.k2.drew, h.l2, h.ne, h.nx⟩
theorem Lp.start (h : Lk1 w x c B s W) (hl : LrAt W' (R.b :: R.r :: R.c :: x :: B.F) R c m t) (h2 : W.grownBy W' none) (hb : ∀ y ∈ R.F, W.heap.size ≤ y) : Lp w x c m B s R t W' :=
  ⟨h.grown h2, hl, fun y hy => Nat.le_trans h.k.gr.size (hb y hy), fun y hy hm => Nat.lt_irrefl _ (Nat.lt_of_lt_of_le (h.k.at1.lts y hy) (hb y hm)), fun hm => Nat.lt_irrefl _ (Nat.lt_of_lt_of_le (at_lt h.box) (hb x hm))⟩
theorem lcalm_any (H : LaAt W B s) :
    Calls Tryz.prog 93 #[.pointer (some ⟨B.b, 0, none⟩)] W fun e w' => e = .returned (.pointer (some ⟨B.c, 0, none⟩)) ∧ W = w' := by
  obtain ⟨-, c2, -, -, -⟩ := H.cells
  clear H
  go_enter Tryz.func93, Tryz.ntmps93
  go_wp2_with fail
  go_ret
  exact ⟨rfl, rfl⟩
theorem lpolicy_any (H : LaAt W B s) :
    Calls Tryz.prog 95 #[.pointer (some ⟨B.b, 0, none⟩)] W fun e w' => e = .returned (.pointer (some ⟨B.p, 0, none⟩)) ∧ W = w' := by
  obtain ⟨-, -, c3, -, -⟩ := H.cells
  clear H
  go_enter Tryz.func95, Tryz.ntmps95
  go_wp2_with fail
  go_ret
  exact ⟨rfl, rfl⟩
end
end Go.Proofs.YtecggbndlbkhdaaGreat
end
