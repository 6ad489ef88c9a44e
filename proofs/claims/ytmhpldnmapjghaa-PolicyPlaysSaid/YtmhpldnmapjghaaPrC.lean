/-
  Contract for the document's Policy: Set; and the program's object and the document's, side by side. The condition of a call: the object lies there, a slice reads as numbers.
-/
import Derived.Test.YtmhpldnmapjghaaPrB
import Derived.Test.YtmhpldnmapjghaaPoF
import Derived.Test.YtmhpldnmapjghaaSmi
set_option linter.unusedSimpArgs false
set_option linter.unusedVariables false
namespace Go.Proofs.Ytmhpldnmapjghaa
set_option maxRecDepth 100000
open Go.RowKit

/-- a list of the call's own, ahead of its store -/
theorem pown_put {F : List Nat} {b : Nat} {c : Conf} {p : Po} {w w1 w' : World} {v' : Value} {l : List Int} (H : PrAt w F b c p) (hg : w.grownBy w1 none) (he : OwnN w1.heap.size (w1.alloc (.cells #[] 3)) (.slice (some ⟨w1.heap.size, 0, none⟩) 0 0) [])
    (hown : OwnN w1.heap.size w' v' ([] ++ l)) (hgrow : (w1.alloc (.cells #[] 3)).grownBy w' (Value.slice (some ⟨w1.heap.size, 0, none⟩) 0 0).ownBlock) (ho : (Po.mk p.r l).Ok) :
    ∃ q k, v' = .slice q l.length k ∧ (∃ x, w'.cell? ⟨b, 26, none⟩ = some x) ∧ w'.frozen? ⟨b, 26, none⟩ = false ∧ PrAt (w'.setCell ⟨b, 26, none⟩ (.slice q l.length k)) F b c ⟨p.r, l⟩ ∧ Chg [b] w (w'.setCell ⟨b, 26, none⟩ (.slice q l.length k)) := by
  rw [List.nil_append] at hown
  have GW := gb_ownN (gb_alloc (.refl w1 none) _) he (Nat.le_refl _) hgrow
  have GG := gb_trans hg GW (.inl rfl)
  have CB := H.grown GG
  obtain ⟨q, k, rfl⟩ := hown.form
  have PB : ∀ a, q = some a → a.block ∉ F := fun a e hm => by
    subst e
    have h1 := (hown.at a.block (by simp [ownL, Value.ownBlock])).1
    have h2 := H.lt _ hm
    have h3 := hg.size
    omega
  have FIN := CB.put hown.ints PB ho
  obtain ⟨⟨q', m, h1, -, -⟩, -⟩ := CB
  exact ⟨q, k, rfl, ⟨_, at_cell h1 26⟩, at_free h1 26, FIN.1, (chg_grown GG [b]).then FIN.2⟩
def RSetted (w : World) (F : List Nat) (b : Nat) (c : Conf) (p : Po) (l : List Int) (e : Ending) (w' : World) : Prop :=
  (p.mayset l = true ∧ e = .returned (.int .i64 0) ∧ PrAt w' F b c ⟨p.r, l⟩ ∧ Chg [b] w w') ∨ (p.mayset l = false ∧ e = .returned (.int .i64 1) ∧ w.grownBy w' none)
set_option maxHeartbeats 1600000 in
theorem rpset_any {F : List Nat} {b : Nat} {c : Conf} {p : Po} (v : Value) (l : List Int) {w : World} (H : PrAt w F b c p) (hv : IntsAt w v l) (hmax : l.length ≤ 999999) :
    Calls Try.prog 20 #[.pointer (some ⟨b, 0, none⟩), v] w (RSetted w F b c p l) := by
  have HV := hid hv; have HH := hid H
  obtain ⟨q, cc, rfl⟩ := hv.form
  obtain ⟨n, hn⟩ : ∃ n, l.length = n := ⟨_, rfl⟩
  have HN := hid hn
  have hper := H.ok.r.per
  rw [H.rc] at hper
  obtain ⟨m, hm⟩ : ∃ m : Nat, c.period = (m : Int) := ⟨c.period.toNat, by have : 1 ≤ c.period := hper.1; omega⟩
  obtain ⟨c12, c13, c20, fz⟩ := H.cells
  rw [hm] at c20
  have HPM := hid (show p.r.per = (m : Int) by rw [H.rc]; exact hm)
  have HIN := hid (fun (y : Int) => show inR p.r y = (decide (c.min ≤ y) && decide (y ≤ c.max)) from by rw [H.rc]; rfl)
  have HM := hid hm
  rw [hn] at HV hmax ⊢
  clear hv hn H hper hm
  go_enter Try.func20, Try.ntmps20
  go_wp2_with fail
  clear c12 c13 c20 fz
  go_loopw [5] (fun i wr => ∃ k : Nat, k ≤ n ∧ i = .int .i64 (k : Int) ∧ (∀ (j : Nat) (x : Int), j < k → l[j]? = some x → inR p.r x = true) ∧ w.grownBy wr none) (fun i _ => n - (intOf i).toNat)
  case atStart => exact ⟨0, Nat.zero_le _, rfl, fun j x hj => absurd hj (Nat.not_lt_zero _), .refl w none⟩
  case round =>
    obtain ⟨k, hk, rfl, ha, hgr⟩ := hrel
    have HA := hid ha; have HGR := hid hgr; clear ha hgr
    obtain ⟨c12, c13, c20, fz⟩ := (HH.out.grown HGR.out).cells
    rw [HM.out] at c20
    by_cases hlt : k < n
    · have hkl : k < l.length := by rw [HN.out]; exact hlt
      obtain ⟨ab, ao, rfl, -, hcc, hcell⟩ := (HV.out.grown HGR.out).cell hkl
      have hx := List.getElem?_eq_getElem hkl
      generalize l[k] = y at *
      have HX := hid hx; clear hx
      have ilt : (k : Int) < (n : Int) := by omega
      by_cases h0 : y < c.min
      · have hms := hid (mayset_no2 (p := p) (pall_hit HX.out (show inR p.r y = false by rw [HIN.out, decide_eq_false (by omega), Bool.false_and])))
        have d0 : decide (y < c.min) = true := decide_eq_true h0
        go_wp2_with fail
        go_quiet (fail)
        go_wp2_with fail
        go_ret
        exact .inr ⟨hms.out, rfl, gb_trans HGR.out ⟨rfl, rfl, rfl, Nat.le_refl _, fun _ _ _ => rfl⟩ (.inl rfl)⟩
      have d0 : decide (y < c.min) = false := decide_eq_false h0
      by_cases h1 : c.max < y
      · have hms := hid (mayset_no2 (p := p) (pall_hit HX.out (show inR p.r y = false by rw [HIN.out, decide_eq_false (show ¬ y ≤ c.max by omega), Bool.and_false])))
        have d1 : decide (c.max < y) = true := decide_eq_true h1
        go_wp2_with fail
        go_quiet (fail)
        go_wp2_with fail
        go_ret
        exact .inr ⟨hms.out, rfl, gb_trans HGR.out ⟨rfl, rfl, rfl, Nat.le_refl _, fun _ _ _ => rfl⟩ (.inl rfl)⟩
      have d1 : decide (c.max < y) = false := decide_eq_false h1
      have HY := hid (show inR p.r y = true by rw [HIN.out, decide_eq_true (show c.min ≤ y by omega), decide_eq_true (show y ≤ c.max by omega)]; rfl)
      go_wp2_with fail
      go_quiet (fail)
      go_wp2_with fail
      go_roundw
      case rel => exact ⟨k + 1, by omega, by go_num, fun j x hj hjx => by
        rcases Nat.lt_or_ge j k with h1 | h1
        · exact HA.out j x h1 hjx
        · obtain rfl : j = k := by omega
          rw [HX.out] at hjx; cases hjx; exact HY.out, gb_trans HGR.out ⟨rfl, rfl, rfl, Nat.le_refl _, fun _ _ _ => rfl⟩ (.inl rfl)⟩
      case measure => simp [intOf]; omega
    · obtain rfl : k = n := by omega
      have HALL := hid (pall_none (l := l) (r := p.r) fun i x hi => HA.out i x (by rw [← HN.out]; exact hi))
      clear hlt hk HA
      by_cases h0 : k < 1
      · have i0 : (k : Int) < 1 := by omega
        have hms := hid (mayset_no1 (p := p) (l := l) (by rw [HN.out]; omega))
        go_wp2_with fail
        go_ret
        exact .inr ⟨hms.out, rfl, HGR.out⟩
      have i0 : ¬ (k : Int) < 1 := by omega
      have i0' : ¬ k < 1 := h0
      by_cases h1 : m < k
      · have i1 : (m : Int) < (k : Int) := by omega
        have hms := hid (mayset_no1 (p := p) (l := l) (by rw [HN.out, HPM.out]; omega))
        go_wp2_with fail
        go_ret
        exact .inr ⟨hms.out, rfl, HGR.out⟩
      · have i1 : ¬ (m : Int) < (k : Int) := by omega
        have hms := hid (mayset_yes (p := p) (l := l) (by rw [HN.out, HPM.out]; omega) HALL.out)
        have hok := hid (show (Po.mk p.r l).Ok by
          have h := Po.set_ok HH.out.ok l
          unfold Po.set at h
          rw [if_pos hms.out] at h
          exact h)
        have HE := hid (OwnN.empty wr)
        have HB := hid ((HV.out.grown HGR.out).alloc (.cells #[] 3))
        go_wp2_with (refine append_nums rfl _ _ rfl wr.heap.size _ [] rfl HE.out _ l rfl HB.out (by rw [HN.out]; simp; omega) (gb_size (gb_alloc (.refl wr none) _)) ?_; intro v' w' hown hgrow hat; obtain ⟨p1, q1, rfl, ⟨x2, c2⟩, f2, hfin⟩ := pown_put HH.out HGR.out HE.out hown hgrow hok.out; rw [HN.out] at hfin ⊢; have HF := hid hfin; clear hown hgrow hat hfin)
        go_ret
        exact .inl ⟨hms.out, rfl, HF.out⟩
/-- a configuration in a block, the program's object and the document's -/
structure Pp (w : World) (x : Nat) (c : Conf) (b1 : Nat) (p1 : Po) (b2 : Nat) (p2 : Po) (W : World) : Prop where
  k1 : Pc1 w x c b1 p1 W
  k2 : PrAt W [b2, b1, x] b2 c p2
  l2 : w.heap.size ≤ b2
  ne : b1 ≠ b2
  nx : x ≠ b2
section
variable {w W W' : World} {x b1 b2 : Nat} {c : Conf} {p p1 p2 : Po}
theorem Pp.grown (h : Pp w x c b1 p1 b2 p2 W) (hg : W.grownBy W' none) : Pp w x c b1 p1 b2 p2 W' := ⟨h.k1.grown hg, h.k2.grown hg, h.l2, h.ne, h.nx⟩
theorem Pp.drew (h : Pp w x c b1 p1 b2 p2 W) : Pp w x c b1 p1 b2 p2 W.drew := ⟨h.k1.drew, h.k2.drew, h.l2, h.ne, h.nx⟩
theorem Pp.chg1 (h : Pp w x c b1 p1 b2 p2 W) (hc : PoAt W' b1 p) (hg : Chg [b1] W W') : Pp w x c b1 p b2 p2 W' :=
  ⟨h.k1.chg hc hg, h.k2.chg hg (by simp) (by simp [h.ne.symm]), h.l2, h.ne, h.nx⟩
theorem Pp.chg2 (h : Pp w x c b1 p1 b2 p2 W) (hc : PrAt W' [b2, b1, x] b2 c p) (hg : Chg [b2] W W') : Pp w x c b1 p1 b2 p W' :=
  ⟨⟨pgb_chg h.k1.gr hg h.l2, hg.at h.k1.box (by simp [h.nx]), h.k1.at1.chg hg (by simp [h.ne]), h.k1.lo, h.k1.nx⟩, hc, h.l2, h.ne, h.nx⟩
theorem rplim_as {F : List Nat} {b : Nat} {n z : Int} (H : PrAt W F b c p) (h : p.lim n = z) :
    Calls Try.prog 21 #[.pointer (some ⟨b, 0, none⟩), .int .i64 n] W fun e w' => e = .returned (.int .i64 z) ∧ W.grownBy w' none := by
  subst h; exact rplim_any n H
theorem rput_as {F : List Nat} {b : Nat} {n : Int} {p' : Po} (H : PrAt W F b c p) (hx : p.in n = true) (h : (p.put n).2 = p') :
    Calls Try.prog 22 #[.pointer (some ⟨b, 0, none⟩), .int .i64 n] W fun e w' => e = .returned (.int .i64 0) ∧ PrAt w' F b c p' ∧ Chg [b] W w' := by
  subst h; exact rput_yes n hx H
end
end Go.Proofs.Ytmhpldnmapjghaa
