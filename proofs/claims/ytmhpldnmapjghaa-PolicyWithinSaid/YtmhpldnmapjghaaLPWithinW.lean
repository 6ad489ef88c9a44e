/-
  The walk of the statement PolicyWithin: a limit lies between the least and the most, and between the bounds. No condition.
-/
import Derived.Test.YtmhpldnmapjghaaPoG
import Derived.BigQuiet
import Derived.Deep.QuietTactic
set_option linter.unusedSimpArgs false
set_option linter.unusedVariables false
namespace Go.Proofs.Ytmhpldnmapjghaa.pwithin
set_option maxRecDepth 100000
open Go.RowKit

set_option maxHeartbeats 3200000 in
theorem walk {w : World} (l : List Int) (p : Option Addr) (cap : Nat) (i0 : IntsAt w (.slice p l.length cap) l) (x y : Int) :
    Calls Try.prog 8 #[.slice p l.length cap, .int .i64 x, .int .i64 y] w fun e w' => e = .returned (.bool true) ∧ w.grownBy w' none := by
  go_enter Try.func8, Try.ntmps8
  go_wp2_with fail
  refine (fit_any l p cap _ i0).mono ?_
  rintro e w1 ⟨c, rfl, hF, hg⟩
  have HF := hid hF; have C0 := hid (cfx_new c hg); clear hg hF
  have HOK := hid (fine_ok HF.out)
  obtain ⟨d0, D, hd0, hD, hDu, hD0, hx⟩ := draw_in HF.out
  obtain ⟨z, f, hz, hzu, hzi, hf, f0, f1⟩ := hx x
  clear hx
  have hbx := C0.out.box
  have c9 := at_cell hbx 12; have c10 := at_cell hbx 13
  clear hbx
  go_wp2_with (refine wpList_store_new (w := w1) (cs := c.cells) rfl (by kernel_rfl) (by kernel_rfl) (by kernel_rfl) rfl rfl rfl rfl rfl ?_)
  go_quiet (fail)
  refine exit_gen (fun wx => Cfx w w1.heap.size c wx) (C0.out.grown ⟨rfl, rfl, rfl, Nat.le_refl _, fun _ _ _ => rfl⟩) (fun wx hKx => ?_)
  have C := hid hKx
  clear hKx C0 c9 c10 hd0 hD hDu hD0 hz hzu hzi hf
  generalize w1.heap.size = xb at *
  have hf := in_of (r := rt c) f0 f1
  have NP := hid (pnew_ok c f (fine_may HF.out) hf)
  have HB := hid (show 0 ≤ f ∧ f ≤ 10000 by have h1 := HF.out.min; have h2 := HF.out.max; omega)
  go_wp2_with (refine wpList_conf C.out.box rfl rfl rfl rfl ?_)
  refine (NP.out _).mono ?_
  rintro e w2 ⟨b, rfl, hp, hg, hb⟩
  have K := hid (Pc1.start C.out hp hg hb); clear hp hg hb C hf NP
  go_wp2_with (refine wpList_conf K.out.box rfl rfl rfl rfl ?_)
  refine (pb_as (bounds_in HOK.out HB.out.1 HB.out.2) _).mono ?_
  rintro e w3 ⟨rfl, hg⟩
  replace K := hid (K.out.grown hg); clear hg
  go_wp2_with fail
  refine (plim_any y K.out.at1).mono ?_
  rintro e w4 ⟨rfl, hg⟩
  replace K := hid (K.out.grown hg); clear hg
  have hlim : (⟨rt c, [f]⟩ : Po).lim y = (rt c).lim f y := rfl
  rw [hlim]
  clear hlim
  have h1 := Rt.lim_in HOK.out (b := f) (w := y)
  have h2 := Rt.lim_between HOK.out f0 f1 (w := y)
  have h3 := (Rt.lo_le HOK.out (b := f) HB.out.1).2
  have h4 := Rt.hi_ge HOK.out (b := f)
  have LL := hid (show (⟨rt c, [f]⟩ : Po).lim ((rt c).lim f y) = (rt c).lim f y from Rt.lim_lim HOK.out f0 f1)
  have HID := hid (fun a b d e => Rt.lim_id (r := rt c) (b := f) (w := y) a b d e)
  have hmn : (rt c).mn = c.min := rfl
  have hmx : (rt c).mx = c.max := rfl
  rw [hmn, hmx] at h1 HID
  clear hmn hmx
  have hbx := K.out.box
  have c9 := at_cell hbx 12; have c10 := at_cell hbx 13
  clear hbx
  have C9 := hid (fun (W : World) (h : Pc1 w xb c b ⟨rt c, [f]⟩ W) => And.intro (at_cell h.box 12) (at_cell h.box 13))
  generalize (rt c).lo f = lo at *
  generalize (rt c).hi f = hi at *
  generalize (rt c).lim f y = n at *
  skip
  have e1 : min lo f = lo := by omega
  have e2 : max hi f = hi := by omega
  have g1 : lo ≤ n := h2.2.2.1
  have g2 : n ≤ hi := h2.2.2.2
  have g3 : c.min ≤ n := h1.1
  have g4 : n ≤ c.max := h1.2
  have G := hid (And.intro g1 (And.intro g2 (And.intro g3 g4)))
  have E := hid (And.intro e1 e2)
  clear h1 h2 h3 h4 g1 g2 g3 g4 e1 e2 f0 f1
  by_cases t0 : lo ≤ y
  rotate_left
  · go_wp2_with fail
    clear c9 c10
    refine (told_any _).mono ?_
    rintro e w5 ⟨rfl, hg⟩
    replace K := hid (K.out.grown hg); clear hg
    obtain ⟨c9, c10⟩ := C9.out _ K.out
    obtain ⟨g1, g2, g3, g4⟩ := G.out
    obtain ⟨e1, e2⟩ := E.out
    go_wp2_with fail
    refine (plim_as K.out.at1 LL.out).mono ?_
    rintro e w6 ⟨rfl, hg⟩
    have G6 := hid (gb_trans K.out.gr hg (.inl rfl)); clear hg
    go_wp2_with fail
    go_ret
    exact ⟨by simp, G6.out⟩
  by_cases t1 : y ≤ hi
  rotate_left
  · go_wp2_with fail
    clear c9 c10
    refine (told_any _).mono ?_
    rintro e w5 ⟨rfl, hg⟩
    replace K := hid (K.out.grown hg); clear hg
    obtain ⟨c9, c10⟩ := C9.out _ K.out
    obtain ⟨g1, g2, g3, g4⟩ := G.out
    obtain ⟨e1, e2⟩ := E.out
    go_wp2_with fail
    refine (plim_as K.out.at1 LL.out).mono ?_
    rintro e w6 ⟨rfl, hg⟩
    have G6 := hid (gb_trans K.out.gr hg (.inl rfl)); clear hg
    go_wp2_with fail
    go_ret
    exact ⟨by simp, G6.out⟩
  by_cases t2 : c.min ≤ y
  rotate_left
  · go_wp2_with fail
    clear c9 c10
    refine (told_any _).mono ?_
    rintro e w5 ⟨rfl, hg⟩
    replace K := hid (K.out.grown hg); clear hg
    obtain ⟨c9, c10⟩ := C9.out _ K.out
    obtain ⟨g1, g2, g3, g4⟩ := G.out
    obtain ⟨e1, e2⟩ := E.out
    go_wp2_with fail
    refine (plim_as K.out.at1 LL.out).mono ?_
    rintro e w6 ⟨rfl, hg⟩
    have G6 := hid (gb_trans K.out.gr hg (.inl rfl)); clear hg
    go_wp2_with fail
    go_ret
    exact ⟨by simp, G6.out⟩
  by_cases t3 : y ≤ c.max
  rotate_left
  · go_wp2_with fail
    clear c9 c10
    refine (told_any _).mono ?_
    rintro e w5 ⟨rfl, hg⟩
    replace K := hid (K.out.grown hg); clear hg
    obtain ⟨c9, c10⟩ := C9.out _ K.out
    obtain ⟨g1, g2, g3, g4⟩ := G.out
    obtain ⟨e1, e2⟩ := E.out
    go_wp2_with fail
    refine (plim_as K.out.at1 LL.out).mono ?_
    rintro e w6 ⟨rfl, hg⟩
    have G6 := hid (gb_trans K.out.gr hg (.inl rfl)); clear hg
    go_wp2_with fail
    go_ret
    exact ⟨by simp, G6.out⟩
  have HN := hid (HID.out t0 t1 t2 t3)
  go_wp2_with fail
  clear c9 c10
  refine (told_any _).mono ?_
  rintro e w5 ⟨rfl, hg⟩
  replace K := hid (K.out.grown hg); clear hg
  obtain ⟨c9, c10⟩ := C9.out _ K.out
  obtain ⟨g1, g2, g3, g4⟩ := G.out
  obtain ⟨e1, e2⟩ := E.out
  have s9 : (n == y) = true := by simpa using HN.out
  go_wp2_with fail
  refine (plim_as K.out.at1 LL.out).mono ?_
  rintro e w6 ⟨rfl, hg⟩
  have G6 := hid (gb_trans K.out.gr hg (.inl rfl)); clear hg
  go_wp2_with fail
  go_ret
  exact ⟨by simp, G6.out⟩
end Go.Proofs.Ytmhpldnmapjghaa.pwithin
