/-
  Contracts for a holder's two windows, which of them is now's and which the old one's; a gate's ring, windows; whether an epoch is in time. The condition: the gate lies there. And 1 texts more that this one stands on. No condition.
-/
import Derived.Test.YtgpdcapnnejdeaaGreatJ0
import Derived.Test.YtgpdcapnnejdeaaGreatY13
import Derived.Test.YtgpdcapnnejdeaaGreatNRfB
import Derived.Test.YtgpdcapnnejdeaaGreatY16
import Derived.Deep.QuietTactic
import Derived.Deep.RegionHeld3
section
set_option linter.unusedSimpArgs false
set_option linter.unusedVariables false
namespace Go.Proofs.YtgpdcapnnejdeaaGreat
set_option maxRecDepth 100000
open Go.RowKit

theorem hold_now (h k a b : Nat) (t : Int) (w : World) (t0 : 0 ≤ t) (c0 : w.cell? ⟨h, k, none⟩ = some (.int .u32 t)) (c1 : w.cell? ⟨h, k + 1, none⟩ = some (.pointer (some ⟨a, 0, none⟩))) (c2 : w.cell? ⟨h, k + 2, none⟩ = some (.pointer (some ⟨b, 0, none⟩))) :
  Calls Tryz.prog 69 #[.pointer (some ⟨h, k, none⟩)] w fun e w' => e = .returned (.pointer (some ⟨side t a b, 0, none⟩)) ∧ ∃ m, w' = w.drewN m := by
 have CL := hid (fun n => load_u32 ⟨h, k, none⟩ t (w.drewN n) c0)
 by_cases ht : t % 2 = 0
 ·have e1 : Int.tmod t 2 = 0 := by rw [Int.tmod_eq_emod_of_nonneg t0]; exact ht
  rw [show side t a b = a from if_pos ht]
  clear ht
  go_enter Tryz.func69, Tryz.ntmps69
  go_wp2_with fail
  go_quiet ((go_at_call 108; exact Calls.quiet_of_same (still_of (CL.out _))))
  go_wp2_with fail
  go_ret
  exact ⟨rfl, _, rfl⟩
 ·have e1 : Int.tmod t 2 = 1 := by rw [Int.tmod_eq_emod_of_nonneg t0]; omega
  rw [show side t a b = b from if_neg ht]
  clear ht
  go_enter Tryz.func69, Tryz.ntmps69
  go_wp2_with fail
  go_quiet ((go_at_call 108; exact Calls.quiet_of_same (still_of (CL.out _))))
  go_wp2_with fail
  go_ret
  exact ⟨rfl, _, rfl⟩
def succT (t : Int) : Int := (t + 1) % 4294967296
theorem wrap_succT (t : Int) : IntKind.u32.wrap (t + 1) = succT t := by simp [succT, IntKind.wrap, IntKind.bits, IntKind.signed]
theorem succT_0 (t : Int) : 0 ≤ succT t := Int.emod_nonneg _ (by decide)
theorem succT_lt (t : Int) : succT t < 4294967296 := Int.emod_lt_of_pos _ (by decide)
theorem succT_mod (t : Int) : succT t % 2 = (t + 1) % 2 := by unfold succT; omega
theorem hold_old (h k a b : Nat) (t : Int) (w : World) (t0 : 0 ≤ t) (c0 : w.cell? ⟨h, k, none⟩ = some (.int .u32 t)) (c1 : w.cell? ⟨h, k + 1, none⟩ = some (.pointer (some ⟨a, 0, none⟩))) (c2 : w.cell? ⟨h, k + 2, none⟩ = some (.pointer (some ⟨b, 0, none⟩))) :
  Calls Tryz.prog 70 #[.pointer (some ⟨h, k, none⟩)] w fun e w' => e = .returned (.pointer (some ⟨side t b a, 0, none⟩)) ∧ ∃ m, w' = w.drewN m := by
 have CL := hid (fun n => load_u32 ⟨h, k, none⟩ t (w.drewN n) c0)
 have e0 := wrap_succT t
 have e2 := Int.tmod_eq_emod_of_nonneg (b := 2) (succT_0 t)
 rw [succT_mod] at e2
 by_cases ht : t % 2 = 0
 ·have e1 : Int.tmod (succT t) 2 = 1 := by rw [e2]; omega
  rw [show side t b a = b from if_pos ht]
  clear ht e2
  generalize succT t = t1 at *
  go_enter Tryz.func70, Tryz.ntmps70
  go_wp2_with fail
  go_quiet ((go_at_call 108; exact Calls.quiet_of_same (still_of (CL.out _))))
  go_wp2_with fail
  go_ret
  exact ⟨rfl, _, rfl⟩
 ·have e1 : Int.tmod (succT t) 2 = 0 := by rw [e2]; omega
  rw [show side t b a = a from if_neg ht]
  clear ht e2
  generalize succT t = t1 at *
  go_enter Tryz.func70, Tryz.ntmps70
  go_wp2_with fail
  go_quiet ((go_at_call 108; exact Calls.quiet_of_same (still_of (CL.out _))))
  go_wp2_with fail
  go_ret
  exact ⟨rfl, _, rfl⟩
theorem side_self (t : Int) (a b : Nat) : side t (side t a b) (side t b a) = a := by unfold side; split <;> rfl

theorem gring_any {F : List Nat} {B : GBl} {G : Gt} (w : World) (K : GtAt w F B G) :
  Calls Tryz.prog 22 #[.pointer (some ⟨B.g, 0, none⟩)] w fun e w' => e = .returned (.pointer (some ⟨B.rb, 0, none⟩)) ∧ w = w' := by
 obtain ⟨c0, c1, c2, c3, c4⟩ := K.tops
 clear K
 go_enter Tryz.func22, Tryz.ntmps22
 go_wp2
 go_ret
 exact ⟨rfl, rfl⟩
theorem greplay_q {F : List Nat} {B : GBl} {G : Gt} (i : Nat) (w : World) (K : GtAt w F B G) (hi : i < G.r.n) :
  Calls Tryz.prog 23 #[.pointer (some ⟨B.g, 0, none⟩), .int .i64 (i : Int)] w fun e w' => e = .returned (.pointer (some ⟨B.A i, 0, none⟩)) ∧ ∃ m, w' = w.drewN m := by
 have F1 := hid (gfind_in i w K hi)
 obtain ⟨c0, c1, c2, f0, f1, f2⟩ := K.cells hi
 have C := hid (hold_now B.hb (i * 3) _ _ _ w (K.t0 i).1 c0 c1 c2)
 rw [side_self] at C
 clear K c0 c1 c2 f0 f1 f2
 go_enter Tryz.func23, Tryz.ntmps23
 go_wp2_with fail
 refine F1.out.mono ?_
 rintro e w1 ⟨rfl, rfl⟩
 go_wp2_with fail
 refine C.out.mono ?_
 rintro e w1 ⟨rfl, m, hg⟩
 have G1 := hid (Exists.intro (p := fun m => w1 = w.drewN m) m hg); clear hg
 go_wp2_with fail
 go_ret
 exact ⟨rfl, G1.out⟩
theorem greplay_in {F : List Nat} {B : GBl} {G : Gt} (i : Nat) (w : World) (K : GtAt w F B G) (hi : i < G.r.n) :
  Calls Tryz.prog 23 #[.pointer (some ⟨B.g, 0, none⟩), .int .i64 (i : Int)] w fun e w' => e = .returned (.pointer (some ⟨B.A i, 0, none⟩)) ∧ w.grownBy w' none :=
 (greplay_q i w K hi).mono fun e w' ⟨h, m, hm⟩ => ⟨h, hm ▸ gb_drewQ w m⟩
theorem greplay_out {F : List Nat} {B : GBl} {G : Gt} (x : Int) (w : World) (K : GtAt w F B G) (hx : x < 0 ∨ (G.r.n : Int) ≤ x) :
  Calls Tryz.prog 23 #[.pointer (some ⟨B.g, 0, none⟩), .int .i64 x] w fun e w' => e = .returned (.pointer none) ∧ w = w' := by
 have F1 := hid (gfind_out x w K hx)
 clear K hx
 go_enter Tryz.func23, Tryz.ntmps23
 go_wp2_with fail
 refine F1.out.mono ?_
 rintro e w1 ⟨rfl, rfl⟩
 go_wp2_with fail
 go_ret
 exact ⟨rfl, rfl⟩
theorem gold_q {F : List Nat} {B : GBl} {G : Gt} (i : Nat) (w : World) (K : GtAt w F B G) (hi : i < G.r.n) :
  Calls Tryz.prog 24 #[.pointer (some ⟨B.g, 0, none⟩), .int .i64 (i : Int)] w fun e w' => e = .returned (.pointer (some ⟨B.O i, 0, none⟩)) ∧ ∃ m, w' = w.drewN m := by
 have F1 := hid (gfind_in i w K hi)
 obtain ⟨c0, c1, c2, f0, f1, f2⟩ := K.cells hi
 have C := hid (hold_old B.hb (i * 3) _ _ _ w (K.t0 i).1 c0 c1 c2)
 rw [side_self] at C
 clear K c0 c1 c2 f0 f1 f2
 go_enter Tryz.func24, Tryz.ntmps24
 go_wp2_with fail
 refine F1.out.mono ?_
 rintro e w1 ⟨rfl, rfl⟩
 go_wp2_with fail
 refine C.out.mono ?_
 rintro e w1 ⟨rfl, m, hg⟩
 have G1 := hid (Exists.intro (p := fun m => w1 = w.drewN m) m hg); clear hg
 go_wp2_with fail
 go_ret
 exact ⟨rfl, G1.out⟩

theorem gold_in {F : List Nat} {B : GBl} {G : Gt} (i : Nat) (w : World) (K : GtAt w F B G) (hi : i < G.r.n) :
  Calls Tryz.prog 24 #[.pointer (some ⟨B.g, 0, none⟩), .int .i64 (i : Int)] w fun e w' => e = .returned (.pointer (some ⟨B.O i, 0, none⟩)) ∧ w.grownBy w' none :=
 (gold_q i w K hi).mono fun e w' ⟨h, m, hm⟩ => ⟨h, hm ▸ gb_drewQ w m⟩
theorem intime_any {F : List Nat} {B : GBl} {G : Gt} (epoch now : Int) (w : World) (K : GtAt w F B G) (h1 : epoch ≤ 1099511627776) (h2 : -9223372036854775808 ≤ now) :
  Calls Tryz.prog 58 #[.pointer (some ⟨B.g, 0, none⟩), .int .i64 epoch, .int .i64 now] w fun e w' => e = .returned (.bool (G.time epoch now)) ∧ w = w' := by
 obtain ⟨c0, c1, c2, c3, c4⟩ := K.tops
 have f1 := K.ok.f1
 have f2 := K.ok.f2
 unfold Gt.time
 clear K
 generalize G.fresh = f at *
 by_cases h : now ≤ epoch
 ·have d1 : decide (now ≤ epoch) = true := by simpa using h
  have e : decide (now ≤ epoch ∧ epoch < now + (f : Int)) = decide (epoch < now + (f : Int)) := by simp [h]
  rw [e]
  have s1 : IntKind.i64.wrap (now + (f : Int)) = now + (f : Int) := IntWalk.i64_in _ (by omega)
  go_enter Tryz.func58, Tryz.ntmps58
  go_wp2
  go_ret
  exact ⟨rfl, rfl⟩
 ·have d1 : decide (now ≤ epoch) = false := by simpa using h
  have e : decide (now ≤ epoch ∧ epoch < now + (f : Int)) = false := by simp [h]
  rw [e]
  go_enter Tryz.func58, Tryz.ntmps58
  go_wp2
  go_ret
  exact ⟨rfl, rfl⟩
end Go.Proofs.YtgpdcapnnejdeaaGreat
end
section
set_option linter.unusedSimpArgs false
set_option linter.unusedVariables false
namespace Go.Proofs.YtgpdcapnnejdeaaGreat
set_option maxRecDepth 100000
open Go.RowKit

theorem addn_u32 (a : Addr) (x s : Int) (w : World) (hc : w.cell? a = some (.int .u32 x)) (hz : w.frozen? a = false) (hs : IntKind.u32.wrap (x + 1) = s) :
  Calls Tryz.prog 106 #[.pointer (some a), .int .u32 1] w fun e w' => e = .returned (.int .u32 s) ∧ w' = w.setCell a (.int .u32 s) := by
 have hadd := run_call_add (P := Tryz.prog) Tryz.func127 (by kernel_rfl) (by kernel_rfl) (by kernel_rfl) .u32 (by kernel_rfl) (y := 1) (s := s) hc hz (by rw [show Op.intArith .add .u32 x 1 = pure (.int .u32 (IntKind.u32.wrap (x + 1))) from rfl, hs]; rfl)
 clear hs
 go_enter Tryz.func106, Tryz.ntmps106
 go_wp2
 go_ret
 exact ⟨rfl, rfl⟩
def Turned (w : World) (hb k j : Nat) (cs : Array Value) (t : Int) (win : Nat) (e : Ending) (w' : World) : Prop :=
 e = .returned (.tuple #[]) ∧ ∃ nb, Chg [hb] w w' ∧ w'.heap[hb]? = some (.cells ((cs.setIfInBounds k (.int .u32 (succT t))).setIfInBounds (k + 1 + j) (.pointer (some ⟨nb, 0, none⟩))) 104) ∧ RpAt w' nb (.new win) ∧ w.heap.size ≤ nb
theorem turn_0 (hb k win : Nat) (t : Int) (cs : Array Value) (w : World) (h1 : 1 ≤ win) (h2 : win ≤ 64) (hr : w.heap[hb]? = some (.cells cs 104)) (c0 : cs[k]? = some (.int .u32 t)) (x : Value) (cx : cs[k + 1]? = some x) (ht : (t + 1) % 2 = 0) :
  Calls Tryz.prog 65 #[.pointer (some ⟨hb, k, none⟩), .int .i64 (win : Int)] w (Turned w hb k 0 cs t win) := by
 obtain ⟨T, hT⟩ : ∃ T, T = succT t := ⟨_, rfl⟩
 have e2 : Int.tmod T 2 = 0 := by rw [hT, Int.tmod_eq_emod_of_nonneg (b := 2) (succT_0 t), succT_mod, ht]
 have e0 : IntKind.u32.wrap (t + 1) = T := hT ▸ wrap_succT t
 unfold Turned
 rw [← hT]
 have CA := hid (addn_u32 ⟨hb, k, none⟩ t T w.drew ((at_cell hr k).trans c0) (at_free hr k) e0)
 have hr1 := at_set (at_drew hr) k (.int .u32 T)
 have cx1 : (cs.setIfInBounds k (.int .u32 T))[k + 1]? = some x := by rw [Array.getElem?_setIfInBounds, if_neg (by omega)]; exact cx
 have HLT := hid (at_lt hr)
 clear hr c0 cx e0 ht hT
 generalize cs.setIfInBounds k (.int .u32 T) = cs1 at *
 have HR := hid hr1; have CX := hid cx1; clear hr1 cx1
 go_enter Tryz.func65, Tryz.ntmps65
 go_wp2_with fail
 refine wp_region_held_drew (S := (fun _ => True)) (by kernel_rfl) trivial (fun hHeld => ?_)
 try dsimp only at hHeld
 refine jU 0 hHeld ?_
 try simp only [jX, jD, jE, jF]
 refine jU 1 hHeld ?_
 try simp only [jX, jD, jE, jF]
 refine jU 2 hHeld ?_
 try simp only [jX, jD, jE, jF]
 refine jU 3 hHeld ?_
 try simp only [jX, jD, jE, jF]
 refine jU 6 hHeld ?_
 try simp only [jX, jD, jE, jF]
 refine jU 8 hHeld ?_
 try simp only [jX, jD, jE, jF]
 refine jU 9 hHeld ?_
 try simp only [jX, jD, jE, jF]
 refine jR [4] ?_
 refine jG rfl (fun K hK => ?_) AllReadyH.nil
 try simp only [jD, jE, jF]
 go_simp
 refine CA.out.mono ?_
 rintro e w1 ⟨rfl, hw⟩
 subst hw
 go_wp2_with fail
 refine hK.out _ _ ?_ (fun hHeld => ?_)
 ·exact trivial
 clear hK K
 try dsimp only at hHeld
 try simp only [jX, jD, jE, jF]
 refine jU 5 hHeld ?_
 try simp only [jX, jD, jE, jF]
 refine jR [7] ?_
 refine jG rfl (fun K hK => ?_) AllReadyH.nil
 try simp only [jD, jE, jF]
 go_simp
 refine (pnew_ok win h1 h2 _).mono ?_
 rintro e w2 ⟨nb, rfl, hp, hg, hsz⟩
 have h3 := at_grown (show (w.drew.setCell ⟨hb, k, none⟩ (.int .u32 T)).heap[hb]? = _ from HR.out) hg (by simp)
 have c3 : w2.cell? ⟨hb, k + 1, none⟩ = some x := (at_cell h3 _).trans CX.out
 have f3 : w2.frozen? ⟨hb, k + 1, none⟩ = false := at_free h3 _
 have hs0 : (w.setCell ⟨hb, k, none⟩ (.int .u32 T)).drew.heap.size = w.heap.size := by show (w.setCell _ _).heap.size = _; simp [World.setCell]
 have hne : nb ≠ hb := by have := HLT.out; omega
 have FIN : Hid (Chg [hb] w (w2.setCell ⟨hb, k + 1, none⟩ (.pointer (some ⟨nb, 0, none⟩))) ∧ (w2.setCell ⟨hb, k + 1, none⟩ (.pointer (some ⟨nb, 0, none⟩))).heap[hb]? = some (.cells (cs1.setIfInBounds (k + 1) (.pointer (some ⟨nb, 0, none⟩))) 104) ∧ RpAt (w2.setCell ⟨hb, k + 1, none⟩ (.pointer (some ⟨nb, 0, none⟩))) nb (.new win) ∧ w.heap.size ≤ nb) :=
  hid ⟨((((chg_refl w [hb]).set (p := ⟨hb, k, none⟩) (.inl (by simp)) (.int .u32 T)).drew).grown hg).set (.inl (by simp)) _, at_set h3 _ _, ⟨at_set_other hp.top hne _, hp.ok⟩, by omega⟩
 clear hp hg hsz h3 hs0
 go_wp2_with fail
 refine hK.out _ _ ?_ (fun hHeld => ?_)
 ·exact trivial
 clear hK K
 try dsimp only at hHeld
 try simp only [jX, jD, jE, jF]
 refine jU 10 hHeld ?_
 try simp only [jX, jD, jE, jF]
 refine jR [11] ?_
 refine jG rfl (fun K hK => ?_) AllReadyH.nil
 try simp only [jD, jE, jF]
 go_simp
 refine hK.out _ _ ?_ (fun hHeld => ?_)
 ·exact trivial
 clear hK K
 try dsimp only at hHeld
 try simp only [jX, jD, jE, jF]
 refine wpAnyH_done (by kernel_rfl) ?_ _
 go_wp2_with fail
 go_end0
 exact ⟨rfl, nb, FIN.out⟩
theorem turn_1 (hb k win : Nat) (t : Int) (cs : Array Value) (w : World) (h1 : 1 ≤ win) (h2 : win ≤ 64) (hr : w.heap[hb]? = some (.cells cs 104)) (c0 : cs[k]? = some (.int .u32 t)) (x : Value) (cx : cs[k + 2]? = some x) (ht : (t + 1) % 2 = 1) :
  Calls Tryz.prog 65 #[.pointer (some ⟨hb, k, none⟩), .int .i64 (win : Int)] w (Turned w hb k 1 cs t win) := by
 obtain ⟨T, hT⟩ : ∃ T, T = succT t := ⟨_, rfl⟩
 have e2 : Int.tmod T 2 = 1 := by rw [hT, Int.tmod_eq_emod_of_nonneg (b := 2) (succT_0 t), succT_mod, ht]
 have e0 : IntKind.u32.wrap (t + 1) = T := hT ▸ wrap_succT t
 unfold Turned
 rw [← hT]
 have CA := hid (addn_u32 ⟨hb, k, none⟩ t T w.drew ((at_cell hr k).trans c0) (at_free hr k) e0)
 have hr1 := at_set (at_drew hr) k (.int .u32 T)
 have cx1 : (cs.setIfInBounds k (.int .u32 T))[k + 2]? = some x := by rw [Array.getElem?_setIfInBounds, if_neg (by omega)]; exact cx
 have HLT := hid (at_lt hr)
 clear hr c0 cx e0 ht hT
 generalize cs.setIfInBounds k (.int .u32 T) = cs1 at *
 have HR := hid hr1; have CX := hid cx1; clear hr1 cx1
 go_enter Tryz.func65, Tryz.ntmps65
 go_wp2_with fail
 refine wp_region_held_drew (S := (fun _ => True)) (by kernel_rfl) trivial (fun hHeld => ?_)
 try dsimp only at hHeld
 refine jU 0 hHeld ?_
 try simp only [jX, jD, jE, jF]
 refine jU 1 hHeld ?_
 try simp only [jX, jD, jE, jF]
 refine jU 2 hHeld ?_
 try simp only [jX, jD, jE, jF]
 refine jU 3 hHeld ?_
 try simp only [jX, jD, jE, jF]
 refine jU 6 hHeld ?_
 try simp only [jX, jD, jE, jF]
 refine jU 8 hHeld ?_
 try simp only [jX, jD, jE, jF]
 refine jU 9 hHeld ?_
 try simp only [jX, jD, jE, jF]
 refine jR [4] ?_
 refine jG rfl (fun K hK => ?_) AllReadyH.nil
 try simp only [jD, jE, jF]
 go_simp
 refine CA.out.mono ?_
 rintro e w1 ⟨rfl, hw⟩
 subst hw
 go_wp2_with fail
 refine hK.out _ _ ?_ (fun hHeld => ?_)
 ·exact trivial
 clear hK K
 try dsimp only at hHeld
 try simp only [jX, jD, jE, jF]
 refine jU 5 hHeld ?_
 try simp only [jX, jD, jE, jF]
 refine jR [7] ?_
 refine jG rfl (fun K hK => ?_) AllReadyH.nil
 try simp only [jD, jE, jF]
 go_simp
 refine (pnew_ok win h1 h2 _).mono ?_
 rintro e w2 ⟨nb, rfl, hp, hg, hsz⟩
 have h3 := at_grown (show (w.drew.setCell ⟨hb, k, none⟩ (.int .u32 T)).heap[hb]? = _ from HR.out) hg (by simp)
 have c3 : w2.cell? ⟨hb, k + 2, none⟩ = some x := (at_cell h3 _).trans CX.out
 have f3 : w2.frozen? ⟨hb, k + 2, none⟩ = false := at_free h3 _
 have hs0 : (w.setCell ⟨hb, k, none⟩ (.int .u32 T)).drew.heap.size = w.heap.size := by show (w.setCell _ _).heap.size = _; simp [World.setCell]
 have hne : nb ≠ hb := by have := HLT.out; omega
 have FIN : Hid (Chg [hb] w (w2.setCell ⟨hb, k + 2, none⟩ (.pointer (some ⟨nb, 0, none⟩))) ∧ (w2.setCell ⟨hb, k + 2, none⟩ (.pointer (some ⟨nb, 0, none⟩))).heap[hb]? = some (.cells (cs1.setIfInBounds (k + 2) (.pointer (some ⟨nb, 0, none⟩))) 104) ∧ RpAt (w2.setCell ⟨hb, k + 2, none⟩ (.pointer (some ⟨nb, 0, none⟩))) nb (.new win) ∧ w.heap.size ≤ nb) :=
  hid ⟨((((chg_refl w [hb]).set (p := ⟨hb, k, none⟩) (.inl (by simp)) (.int .u32 T)).drew).grown hg).set (.inl (by simp)) _, at_set h3 _ _, ⟨at_set_other hp.top hne _, hp.ok⟩, by omega⟩
 clear hp hg hsz h3 hs0
 go_wp2_with fail
 refine hK.out _ _ ?_ (fun hHeld => ?_)
 ·exact trivial
 clear hK K
 try dsimp only at hHeld
 try simp only [jX, jD, jE, jF]
 refine jU 10 hHeld ?_
 try simp only [jX, jD, jE, jF]
 refine jR [11] ?_
 refine jG rfl (fun K hK => ?_) AllReadyH.nil
 try simp only [jD, jE, jF]
 go_simp
 refine hK.out _ _ ?_ (fun hHeld => ?_)
 ·exact trivial
 clear hK K
 try dsimp only at hHeld
 try simp only [jX, jD, jE, jF]
 refine wpAnyH_done (by kernel_rfl) ?_ _
 go_wp2_with fail
 go_end0
 exact ⟨rfl, nb, FIN.out⟩
end Go.Proofs.YtgpdcapnnejdeaaGreat
end
