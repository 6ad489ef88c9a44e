/-
  Contracts for package score: how one stands; one more is counted; an epoch's end for one. The condition: the score lies there.
-/
import Derived.Test.YtogmibmkkmbgoaaScT
set_option linter.unusedSimpArgs false
set_option linter.unusedVariables false
namespace Go.Proofs.Ytogmibmkkmbgoaa
set_option maxRecDepth 100000
open Go.RowKit

def standV (h : Hd) : Value := .agg #[.int .i64 (standH h).1, .int .i64 (standH h).2.1, .bool (standH h).2.2]
theorem standing_any {s : Sc} {b hb : Nat} {w : World} (h : ScAt s b hb w) (k : Nat) (h0 : Hd) (hk : s.H[k]? = some h0) :
    Calls Try.prog 39 #[.pointer (some ⟨hb, k * 2, none⟩)] w fun e w' => e = .returned (standV h0) ∧ w.grownBy w' none := by
  obtain ⟨p0, p1⟩ := (h.alloc (.cells #[.int .i64 0, .int .i64 0, .bool false] 45)).part hk
  have hc := h.ok.cnt h0 (List.mem_of_getElem? hk)
  obtain ⟨o, c⟩ := h0
  dsimp only at *
  have HL := hid (load_i64 _ _ _ p1)
  have e1 : IntKind.i64.wrap c = c := IntWalk.i64_in _ (by omega)
  clear h hk p1
  unfold standV standH
  cases o with
  | true =>
    go_enter Try.func39, Try.ntmps39
    go_wp2_with fail
    refine HL.out.mono ?_
    rintro e w1 ⟨rfl, rfl⟩
    go_wp2_with fail
    refine bodyPost_ret (v := .agg #[.int .i64 0, .int .i64 c, .bool true]) ?_ rfl ⟨by simp, by first | exact .refl w none | exact gb_alloc (.refl w none) _⟩
    simp [results, Try.results39, go_sem]
  | false =>
    go_enter Try.func39, Try.ntmps39
    go_wp2_with fail
    refine HL.out.mono ?_
    rintro e w1 ⟨rfl, rfl⟩
    go_wp2_with fail
    refine bodyPost_ret (v := .agg #[.int .i64 c, .int .i64 0, .bool false]) ?_ rfl ⟨by simp, by first | exact .refl w none | exact gb_alloc (.refl w none) _⟩
    simp [results, Try.results39, go_sem]
def noneV : Value := .agg #[.int .i64 0, .int .i64 0, .bool false]
theorem res_box {w1 : World} {b : Nat} {x y : Int} {o : Bool} (h : w1.heap[b]? = some (.cells #[.int .i64 0, .int .i64 0, .bool false] 45)) :
    (((w1.setCell ⟨b, 0, none⟩ (.int .i64 x)).setCell ⟨b, 1, none⟩ (.int .i64 y)).setCell ⟨b, 2, none⟩ (.bool o)).heap[b]? = some (.cells #[.int .i64 x, .int .i64 y, .bool o] 45) := by
  have := at_set (at_set (at_set h 0 (.int .i64 x)) 1 (.int .i64 y)) 2 (.bool o)
  rw [this]; rfl
theorem get_in {s : Sc} {b hb : Nat} {w : World} (h : ScAt s b hb w) (k : Nat) (h0 : Hd) (hk : s.H[k]? = some h0) :
    Calls Try.prog 21 #[.pointer (some ⟨b, 0, none⟩), .int .i64 (k : Int)] w fun e w' => e = .returned (.tuple #[standV h0, .int .i64 0]) ∧ w.grownBy w' none := by
  have HF := hid (find_in (h.alloc (.cells #[.int .i64 0, .int .i64 0, .bool false] 45)) k (List.getElem?_eq_some_iff.1 hk).1)
  have HS := hid (standing_any (h.alloc (.cells #[.int .i64 0, .int .i64 0, .bool false] 45)) k h0 hk)
  have HB := hid (at_new w (.cells #[.int .i64 0, .int .i64 0, .bool false] 45))
  clear h hk
  unfold standV at *
  generalize (standH h0).1 = x at *
  generalize (standH h0).2.1 = y at *
  generalize (standH h0).2.2 = o at *
  go_enter Try.func21, Try.ntmps21
  go_wp2_with fail
  refine HF.out.mono ?_
  rintro e w1 ⟨rfl, rfl⟩
  go_wp2_with fail
  refine HS.out.mono ?_
  rintro e w1 ⟨rfl, hg⟩
  have hb1 := at_grown HB.out hg (by simp)
  have HB1 := hid hb1
  have c0 := at_cell hb1 0
  have c1 := at_cell hb1 1
  have c2 := at_cell hb1 2
  have f0 := at_free hb1 0
  have f1 := at_free hb1 1
  have f2 := at_free hb1 2
  have G := hid (gb_new (gb_new (gb_new (gb_trans (World.grownBy_alloc w (.cells #[.int .i64 0, .int .i64 0, .bool false] 45) none) hg (.inl rfl)) (p := ⟨w.heap.size, 0, none⟩) (Nat.le_refl _) (.int .i64 x)) (p := ⟨w.heap.size, 1, none⟩) (Nat.le_refl _) (.int .i64 y)) (p := ⟨w.heap.size, 2, none⟩) (Nat.le_refl _) (.bool o))
  have R := hid (res_box (x := x) (y := y) (o := o) hb1)
  clear hg HF HS HB hb1 HB1
  go_wp2_with fail
  generalize ((w1.setCell ⟨w.heap.size, 0, none⟩ (.int .i64 x)).setCell ⟨w.heap.size, 1, none⟩ (.int .i64 y)).setCell ⟨w.heap.size, 2, none⟩ (.bool o) = wx at *
  have r0 : wx.cell? ⟨w.heap.size, 0, none⟩ = some (.int .i64 x) := at_cell R.out 0
  have r1 : wx.cell? ⟨w.heap.size, 1, none⟩ = some (.int .i64 y) := at_cell R.out 1
  have r2 : wx.cell? ⟨w.heap.size, 2, none⟩ = some (.bool o) := at_cell R.out 2
  exact bodyPost_ret (v := .tuple #[.agg #[.int .i64 x, .int .i64 y, .bool o], .int .i64 0]) (by simp [results, Try.results21, go_sem, r0, r1, r2]) rfl ⟨rfl, G.out⟩
theorem get_out {s : Sc} {b hb : Nat} {w : World} (h : ScAt s b hb w) (who : Int) (hk : ¬ (0 ≤ who ∧ who < (s.H.length : Int))) :
    Calls Try.prog 21 #[.pointer (some ⟨b, 0, none⟩), .int .i64 who] w fun e w' => e = .returned (.tuple #[noneV, .int .i64 3]) ∧ w.grownBy w' none := by
  have HF := hid (find_out (h.alloc (.cells #[.int .i64 0, .int .i64 0, .bool false] 45)) who hk)
  have hb1 := at_new w (.cells #[.int .i64 0, .int .i64 0, .bool false] 45)
  have c0 := at_cell hb1 0
  have c1 := at_cell hb1 1
  have c2 := at_cell hb1 2
  have f0 := at_free hb1 0
  have f1 := at_free hb1 1
  have f2 := at_free hb1 2
  have G := hid (gb_new (gb_new (gb_new (World.grownBy_alloc w (.cells #[.int .i64 0, .int .i64 0, .bool false] 45) none) (p := ⟨w.heap.size, 0, none⟩) (Nat.le_refl _) (.int .i64 0)) (p := ⟨w.heap.size, 1, none⟩) (Nat.le_refl _) (.int .i64 0)) (p := ⟨w.heap.size, 2, none⟩) (Nat.le_refl _) (.bool false))
  have R := hid (res_box (x := 0) (y := 0) (o := false) hb1)
  have G0 := hid (World.grownBy_alloc w (.cells #[.int .i64 0, .int .i64 0, .bool false] 45) none)
  have R0 := hid hb1
  clear h hk hb1
  unfold noneV
  go_enter Try.func21, Try.ntmps21
  go_wp2_with fail
  refine HF.out.mono ?_
  rintro e w1 ⟨rfl, rfl⟩
  clear HF
  go_wp2_with fail
  first
    | (have r0 := at_cell R0.out 0
       have r1 := at_cell R0.out 1
       have r2 := at_cell R0.out 2
       exact bodyPost_ret (v := .tuple #[.agg #[.int .i64 0, .int .i64 0, .bool false], .int .i64 3]) (by simp [results, Try.results21, go_sem, r0, r1, r2]) rfl ⟨rfl, G0.out⟩)
    | (have r0 := at_cell R.out 0
       have r1 := at_cell R.out 1
       have r2 := at_cell R.out 2
       exact bodyPost_ret (v := .tuple #[.agg #[.int .i64 0, .int .i64 0, .bool false], .int .i64 3]) (by simp [results, Try.results21, go_sem, r0, r1, r2]) rfl ⟨rfl, G.out⟩)
/-- the part k stands as c, all else is as it was -/
def Puts (s : Sc) (b hb k : Nat) (w : World) (p : Hd × Bool) (e : Ending) (w' : World) : Prop := e = .returned (.bool p.2) ∧ ScAt (s.put k p.1) b hb w' ∧ Chg [hb] w w'
theorem more_any {s : Sc} {b hb : Nat} {w : World} (h : ScAt s b hb w) (k : Nat) (h0 : Hd) (hk : s.H[k]? = some h0) (hh : h0.2 < 1000) (lim : Int) (hl : 1 ≤ lim ∧ lim ≤ 100) :
    Calls Try.prog 50 #[.pointer (some ⟨hb, k * 2, none⟩), .int .i64 lim] w (Puts s b hb k w (moreH lim h0)) := by
  obtain ⟨p0, p1⟩ := h.part hk
  have hc := h.ok.cnt h0 (List.mem_of_getElem? hk)
  have A := hid (addn_i64 _ _ 1 (h0.2 + 1) _ p1 (h.free _) (IntWalk.i64_in _ (by omega)))
  by_cases hlt : h0.2 + 1 < lim
  · have he : moreH lim h0 = ((h0.1, h0.2 + 1), false) := by unfold moreH; rw [if_pos hlt]
    rw [he]
    have K1 := hid (h.cnt hk (c := h0.2 + 1) (by omega))
    obtain ⟨z, hz⟩ : ∃ z, z = h0.2 + 1 := ⟨_, rfl⟩
    rw [← hz] at A K1 hlt ⊢
    clear h he hk p0 p1 hz
    go_enter Try.func50, Try.ntmps50
    go_wp2_with fail
    refine A.out.mono ?_
    rintro e w1 ⟨rfl, hw⟩
    rw [← hw] at K1
    clear hw A
    go_wp2_with fail
    go_ret
    exact ⟨rfl, K1.out.1, K1.out.2⟩
  · have he : moreH lim h0 = ((!h0.1, 0), true) := by unfold moreH; rw [if_neg hlt]
    rw [he]
    have K1 := h.cnt hk (c := h0.2 + 1) (by omega)
    have hk1 := Sc.put_at hk (h0.1, h0.2 + 1)
    have P1 := K1.1.part hk1
    have F1 := K1.1.free (k * 2)
    have K2 := K1.1.out hk1 (!h0.1)
    have hk2 := Sc.put_at hk1 (!h0.1, h0.2 + 1)
    have A2 := hid (store_i64 _ 0 _ _ (K2.1.part hk2).2 (K2.1.free _))
    have K3 := K2.1.cnt hk2 (c := 0) (by omega)
    have KK := hid (And.intro K3.1 (K1.2.then (K2.2.then K3.2)))
    rw [Sc.put_put, Sc.put_put] at KK
    dsimp only at P1 K2 A2 KK
    obtain ⟨p10, p11⟩ := P1
    obtain ⟨z, hz⟩ : ∃ z, z = h0.2 + 1 := ⟨_, rfl⟩
    rw [← hz] at A A2 KK hlt p10 F1
    obtain ⟨W1, hW1⟩ : ∃ W1, W1 = w.setCell ⟨hb, k * 2 + 1, none⟩ (.int .i64 z) := ⟨_, rfl⟩
    rw [← hW1] at A A2 KK p10 F1
    clear h he hk p0 p1 hz hk1 hk2 K1 K2 K3 p11 hW1 hc
    go_enter Try.func50, Try.ntmps50
    go_wp2_with fail
    refine A.out.mono ?_
    rintro e w1 ⟨rfl, rfl⟩
    clear A
    go_wp2_with fail
    refine A2.out.mono ?_
    rintro e w2 ⟨rfl, rfl⟩
    clear A2
    go_wp2_with fail
    go_ret
    exact ⟨rfl, KK.out.1, KK.out.2⟩
set_option maxHeartbeats 800000 in
theorem end_any {s : Sc} {b hb : Nat} {w : World} (h : ScAt s b hb w) (k : Nat) (h0 : Hd) (hk : s.H[k]? = some h0) (hh : h0.2 < 1000) (m : Int) :
    Calls Try.prog 37 #[.pointer (some ⟨b, 0, none⟩), .pointer (some ⟨hb, k * 2, none⟩), .int .i64 m] w (Puts s b hb k w (endH s.st s.pr h0 m)) := by
  obtain ⟨p0, p1⟩ := h.part hk
  obtain ⟨c0, c1, c2, c3⟩ := h.cells
  have hc := h.ok.cnt h0 (List.mem_of_getElem? hk)
  have hput : s.put k h0 = s := by
    obtain ⟨hl, e⟩ := List.getElem?_eq_some_iff.1 hk
    unfold Sc.put; rw [← e, List.set_getElem_self]
  obtain ⟨o, c⟩ := h0
  have M1 := hid (more_any h k (o, c) hk hh s.pr h.ok.pr)
  have M2 := hid (more_any h k (o, c) hk hh s.st h.ok.st)
  cases o with
  | true =>
    have he : endH s.st s.pr (true, c) m = ((moreH s.pr (true, c)).1, false) := by unfold endH; rw [if_pos rfl]
    rw [he]
    generalize moreH s.pr (true, c) = r at *
    clear h he hk p1 c1 c3 c0 M2 hput hc
    generalize s.pr = pr at *
    go_enter Try.func37, Try.ntmps37
    go_wp2_with fail
    refine M1.out.mono ?_
    rintro e w1 ⟨rfl, ha, hg⟩
    have K := hid (And.intro ha hg)
    clear ha hg M1
    go_wp2_with fail
    go_ret
    exact ⟨rfl, K.out.1, K.out.2⟩
  | false =>
    by_cases h2 : m = 2
    · subst h2
      have he : endH s.st s.pr (false, c) 2 = moreH s.st (false, c) := by unfold endH; rw [if_neg (by simp), if_pos rfl]
      rw [he]
      generalize moreH s.st (false, c) = r at *
      clear h he hk p1 c2 c3 c0 M1 hput hc
      generalize s.st = st at *
      go_enter Try.func37, Try.ntmps37
      go_wp2_with fail
      refine M2.out.mono ?_
      rintro e w1 ⟨rfl, ha, hg⟩
      have K := hid (And.intro ha hg)
      clear ha hg M2
      go_wp2_with fail
      go_ret
      exact ⟨rfl, K.out.1, K.out.2⟩
    · have d2 : (m == 2) = false := by simpa using h2
      by_cases h1 : m = 1
      · subst h1
        clear M1 M2
        have L := hid (load_i64 _ _ _ p1)
        by_cases hp : 0 < c
        · have he : endH s.st s.pr (false, c) 1 = ((false, c - 1), false) := by unfold endH; rw [if_neg (by simp), if_neg (by decide), if_pos ⟨rfl, hp⟩]
          rw [he]
          have A := hid (addn_i64 _ _ (-1) (c - 1) _ p1 (h.free _) (IntWalk.i64_in _ (by dsimp only at hc ⊢; omega)))
          have K := hid (h.cnt hk (c := c - 1) (by dsimp only at hc; omega))
          dsimp only at *
          obtain ⟨z, hz⟩ : ∃ z, z = c - 1 := ⟨_, rfl⟩
          rw [← hz] at A K ⊢
          clear h he hk c0 c1 c2 c3 hput hc hz p1
          go_enter Try.func37, Try.ntmps37
          go_wp2_with fail
          refine L.out.mono ?_
          rintro e w1 ⟨rfl, rfl⟩
          clear L
          go_wp2_with fail
          refine A.out.mono ?_
          rintro e w1 ⟨rfl, hw⟩
          rw [← hw] at K
          clear A hw
          go_wp2_with fail
          go_ret
          exact ⟨rfl, K.out.1, K.out.2⟩
        · have he : endH s.st s.pr (false, c) 1 = ((false, c), false) := by unfold endH; rw [if_neg (by simp), if_neg (by decide), if_neg (fun x => hp x.2)]
          rw [he]
          have K := hid h
          clear h he hk c0 c1 c2 c3 hc p1
          have HP := hid hput
          clear hput
          dsimp only at *
          go_enter Try.func37, Try.ntmps37
          go_wp2_with fail
          refine L.out.mono ?_
          rintro e w1 ⟨rfl, rfl⟩
          clear L
          go_wp2_with fail
          go_ret
          exact ⟨rfl, by rw [HP.out]; exact K.out, chg_refl _ _⟩
      · have he : endH s.st s.pr (false, c) m = ((false, c), false) := by unfold endH; rw [if_neg (by simp), if_neg h2, if_neg (fun x => h1 x.1)]
        rw [he]
        have d1 : (m == 1) = false := by simpa using h1
        have K := hid h
        clear h he hk c0 c1 c2 c3 hc p1 M1 M2 h1 h2
        have HP := hid hput
        clear hput
        go_enter Try.func37, Try.ntmps37
        go_wp2_with fail
        go_ret
        exact ⟨rfl, by rw [HP.out]; exact K.out, chg_refl _ _⟩
end Go.Proofs.Ytogmibmkkmbgoaa
