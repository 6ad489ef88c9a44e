/-
  Contracts for cmp.Compare, cmp.Or and table.compare: they read; compare lays blocks of its own. No condition.
-/
import Derived.Test.YtjjcnojckbeekaaTbP
import Derived.Test.YtjjcnojckbeekaaGrow
import Derived.Test.YtjjcnojckbeekaaRows
import Derived.LoopTactic
import Derived.Deep.RegionHeld3
import Derived.Shelf.SlSortCmp.InsertionK
set_option linter.unusedSimpArgs false
set_option linter.unusedVariables false
namespace Go.Proofs.Ytjjcnojckbeekaa
set_option maxRecDepth 100000
open Go.RowKit Go.Sort

def cmpI (x y : Int) : Int := if x < y then -1 else if y < x then 1 else 0
def or3 (a b c : Int) : Int := if a = 0 then (if b = 0 then c else b) else a
def cmpP (p r : Pc) : Int := or3 (cmpI p.1 r.1) (cmpI p.2.1 r.2.1) (cmpI p.2.2 r.2.2)
theorem nan6_any (x : Int) (w : World) : Calls Try.prog 43 #[.int .i64 x] w fun e w' => e = .returned (.bool false) ∧ w' = w := by
  go_enter Try.func43, Try.ntmps43
  go_wp2
  go_ret
  exact ⟨by simp, rfl⟩
theorem nan_any (x : Int) (w : World) : Calls Try.prog 44 #[.int .i64 x] w fun e w' => e = .returned (.bool false) ∧ w' = w := by
  go_enter Try.func44, Try.ntmps44
  go_wp2
  go_ret
  exact ⟨by simp, rfl⟩
theorem cmp6_any (x y : Int) (w : World) : Calls Try.prog 38 #[.int .i64 x, .int .i64 y] w fun e w' => e = .returned (.int .i64 (cmpI x y)) ∧ w' = w := by
  unfold cmpI
  by_cases h1 : x < y
  · go_enter Try.func38, Try.ntmps38
    go_wp2_with (go_at_call 43; refine (nan6_any _ _).mono ?_; rintro e w' ⟨rfl, rfl⟩)
    go_ret
    exact ⟨by simp [h1], rfl⟩
  · by_cases h2 : y < x
    · go_enter Try.func38, Try.ntmps38
      go_wp2_with (go_at_call 43; refine (nan6_any _ _).mono ?_; rintro e w' ⟨rfl, rfl⟩)
      go_ret
      exact ⟨by simp [h1, h2], rfl⟩
    · go_enter Try.func38, Try.ntmps38
      go_wp2_with (go_at_call 43; refine (nan6_any _ _).mono ?_; rintro e w' ⟨rfl, rfl⟩)
      go_ret
      exact ⟨by simp [h1, h2], rfl⟩
theorem cmp_any (x y : Int) (w : World) : Calls Try.prog 39 #[.int .i64 x, .int .i64 y] w fun e w' => e = .returned (.int .i64 (cmpI x y)) ∧ w' = w := by
  unfold cmpI
  by_cases h1 : x < y
  · go_enter Try.func39, Try.ntmps39
    go_wp2_with (go_at_call 44; refine (nan_any _ _).mono ?_; rintro e w' ⟨rfl, rfl⟩)
    go_ret
    exact ⟨by simp [h1], rfl⟩
  · by_cases h2 : y < x
    · go_enter Try.func39, Try.ntmps39
      go_wp2_with (go_at_call 44; refine (nan_any _ _).mono ?_; rintro e w' ⟨rfl, rfl⟩)
      go_ret
      exact ⟨by simp [h1, h2], rfl⟩
    · go_enter Try.func39, Try.ntmps39
      go_wp2_with (go_at_call 44; refine (nan_any _ _).mono ?_; rintro e w' ⟨rfl, rfl⟩)
      go_ret
      exact ⟨by simp [h1, h2], rfl⟩
theorem or_any (b : Nat) (x y z : Int) (w : World) (h0 : w.cell? ⟨b, 0, none⟩ = some (.int .i64 x)) (h1 : w.cell? ⟨b, 1, none⟩ = some (.int .i64 y)) (h2 : w.cell? ⟨b, 2, none⟩ = some (.int .i64 z)) :
    Calls Try.prog 37 #[.slice (some ⟨b, 0, none⟩) 3 3] w fun e w' => e = .returned (.int .i64 (or3 x y z)) ∧ w' = w := by
  obtain ⟨r, hr⟩ : ∃ r, r = or3 x y z := ⟨_, rfl⟩
  rw [← hr]
  have HR := hid hr; clear hr
  go_enter Try.func37, Try.ntmps37
  go_wp2
  go_loopw [8] (fun i wr => ∃ k : Nat, i = .int .i64 k ∧ k ≤ 3 ∧ wr = w ∧ Hid ((0 < k → x = 0) ∧ (1 < k → y = 0) ∧ (2 < k → z = 0)))
    (fun i _ => 3 - (intOf i).toNat)
  case atStart => exact ⟨0, rfl, by omega, rfl, ⟨fun h => by omega, fun h => by omega, fun h => by omega⟩⟩
  case round =>
    obtain ⟨k, rfl, hk, rfl, HK⟩ := hrel
    have hk' : k = 0 ∨ k = 1 ∨ k = 2 ∨ k = 3 := by omega
    clear hk
    rcases hk' with rfl | rfl | rfl | rfl
    · by_cases hx : x = 0
      · go_wp2
        go_roundw
        case rel => exact ⟨1, by simp, by omega, trivial, ⟨fun _ => hx, fun h => by omega, fun h => by omega⟩⟩
        case measure => simp [intOf]
      · go_wp2
        go_ret
        exact ⟨by rw [HR.out]; simp [or3, hx], rfl⟩
    · by_cases hy : y = 0
      · go_wp2
        go_roundw
        case rel => exact ⟨2, by simp, by omega, trivial, ⟨fun _ => HK.out.1 (by omega), fun _ => hy, fun h => by omega⟩⟩
        case measure => simp [intOf]
      · go_wp2
        go_ret
        exact ⟨by rw [HR.out]; simp [or3, hy, HK.out.1 (by omega)], rfl⟩
    · by_cases hz : z = 0
      · go_wp2
        go_roundw
        case rel => exact ⟨3, by simp, by omega, trivial, ⟨fun _ => HK.out.1 (by omega), fun _ => HK.out.2.1 (by omega), fun _ => hz⟩⟩
        case measure => simp [intOf]
      · go_wp2
        go_ret
        exact ⟨by rw [HR.out]; simp [or3, HK.out.1 (by omega), HK.out.2.1 (by omega)], rfl⟩
    · go_wp2
      go_ret
      exact ⟨by rw [HR.out]; simp [or3, HK.out.1 (by omega), HK.out.2.1 (by omega), HK.out.2.2 (by omega)], rfl⟩
/-- draws and new blocks, nothing else -/
def Lg (w w' : World) : Prop := ∃ n os, w' = grow (w.drewN n) os
theorem Lg.refl (w : World) : Lg w w := ⟨0, #[], by simp [grow, World.drewN]⟩
theorem Lg.alloc {w w' : World} (h : Lg w w') (o : Obj) : Lg w (w'.alloc o) := by
  obtain ⟨n, os, rfl⟩ := h
  exact ⟨n, os ++ #[o], by rw [alloc_eq_grow, grow_grow]⟩
theorem Lg.drew {w w' : World} (h : Lg w w') : Lg w w'.drew := by
  obtain ⟨n, os, rfl⟩ := h
  exact ⟨n + 1, os, rfl⟩
theorem Lg.size {w w' : World} (h : Lg w w') : w.heap.size ≤ w'.heap.size := by
  obtain ⟨n, os, rfl⟩ := h
  simp [grow, World.drewN]
/-- the two places' boxes -/
structure Cbx (w : World) (p1 p2 p3 r1 r2 r3 : Int) (W : World) : Prop where
  b0 : W.heap[w.heap.size]? = some (.cells #[.int .i64 p1, .int .i64 p2, .int .i64 p3] 53)
  b1 : W.heap[w.heap.size + 1]? = some (.cells #[.int .i64 r1, .int .i64 r2, .int .i64 r3] 53)
  lg : Lg w W
section
variable {w W : World} {p1 p2 p3 r1 r2 r3 : Int}
theorem Cbx.drew (h : Cbx w p1 p2 p3 r1 r2 r3 W) : Cbx w p1 p2 p3 r1 r2 r3 W.drew := ⟨h.b0, h.b1, h.lg.drew⟩
theorem Cbx.alloc (h : Cbx w p1 p2 p3 r1 r2 r3 W) (o : Obj) : Cbx w p1 p2 p3 r1 r2 r3 (W.alloc o) := ⟨at_alloc h.b0 o, at_alloc h.b1 o, h.lg.alloc o⟩
theorem Cbx.keep (h : Cbx w p1 p2 p3 r1 r2 r3 W) : W.cell? ⟨w.heap.size, 0, none⟩ = some (.int .i64 p1) ∧ W.cell? ⟨w.heap.size, 1, none⟩ = some (.int .i64 p2) ∧ W.cell? ⟨w.heap.size, 2, none⟩ = some (.int .i64 p3) ∧
    W.cell? ⟨w.heap.size + 1, 0, none⟩ = some (.int .i64 r1) ∧ W.cell? ⟨w.heap.size + 1, 1, none⟩ = some (.int .i64 r2) ∧ W.cell? ⟨w.heap.size + 1, 2, none⟩ = some (.int .i64 r3) ∧ Cbx w p1 p2 p3 r1 r2 r3 W :=
  ⟨at_cell h.b0 0, at_cell h.b0 1, at_cell h.b0 2, at_cell h.b1 0, at_cell h.b1 1, at_cell h.b1 2, h⟩
end
theorem cmpP_any (p r : Pc) (w : World) : Calls Try.prog 30 #[.agg #[.int .i64 p.1, .int .i64 p.2.1, .int .i64 p.2.2], .agg #[.int .i64 r.1, .int .i64 r.2.1, .int .i64 r.2.2]] w fun e w' => e = .returned (.int .i64 (cmpP p r)) ∧ Lg w w' := by
  obtain ⟨p1, p2, p3⟩ := p
  obtain ⟨r1, r2, r3⟩ := r
  simp only [cmpP]
  generalize hc1 : cmpI p1 r1 = c1
  generalize hc2 : cmpI p2 r2 = c2
  generalize hc3 : cmpI p3 r3 = c3
  have k1 : ∀ w, Calls Try.prog 38 #[.int .i64 p1, .int .i64 r1] w fun e w' => e = .returned (.int .i64 c1) ∧ w' = w := fun w => hc1 ▸ cmp6_any p1 r1 w
  have k2 : ∀ w, Calls Try.prog 39 #[.int .i64 p2, .int .i64 r2] w fun e w' => e = .returned (.int .i64 c2) ∧ w' = w := fun w => hc2 ▸ cmp_any p2 r2 w
  have k3 : ∀ w, Calls Try.prog 39 #[.int .i64 p3, .int .i64 r3] w fun e w' => e = .returned (.int .i64 c3) ∧ w' = w := fun w => hc3 ▸ cmp_any p3 r3 w
  generalize hr : or3 c1 c2 c3 = v
  have k4 : ∀ b w, w.cell? ⟨b, 0, none⟩ = some (.int .i64 c1) → w.cell? ⟨b, 1, none⟩ = some (.int .i64 c2) → w.cell? ⟨b, 2, none⟩ = some (.int .i64 c3) →
      Calls Try.prog 37 #[.slice (some ⟨b, 0, none⟩) 3 3] w fun e w' => e = .returned (.int .i64 v) ∧ w' = w := fun b w h0 h1 h2 => hr ▸ or_any b c1 c2 c3 w h0 h1 h2
  have K1 := hid k1
  have K2 := hid k2
  have K3 := hid k3
  have K4 := hid k4
  clear k1 k2 k3 k4 hc1 hc2 hc3 hr
  go_enter Try.func30, Try.ntmps30
  go_wp2_with fail
  have hb : Cbx w p1 p2 p3 r1 r2 r3 ((w.alloc (.cells #[.int .i64 p1, .int .i64 p2, .int .i64 p3] 53)).alloc (.cells #[.int .i64 r1, .int .i64 r2, .int .i64 r3] 53)) := ⟨at_alloc (at_new w _) _, by
    have := at_new (w.alloc (.cells #[.int .i64 p1, .int .i64 p2, .int .i64 p3] 53)) (.cells #[.int .i64 r1, .int .i64 r2, .int .i64 r3] 53)
    rwa [World.size_alloc] at this, ((Lg.refl w).alloc _).alloc _⟩
  have HB := hid hb; clear hb
  have hh := HB.out.keep
  go_region_held3 (fun w' => w'.cell? ⟨w.heap.size, 0, none⟩ = some (.int .i64 p1) ∧ w'.cell? ⟨w.heap.size, 1, none⟩ = some (.int .i64 p2) ∧ w'.cell? ⟨w.heap.size, 2, none⟩ = some (.int .i64 p3) ∧
    w'.cell? ⟨w.heap.size + 1, 0, none⟩ = some (.int .i64 r1) ∧ w'.cell? ⟨w.heap.size + 1, 1, none⟩ = some (.int .i64 r2) ∧ w'.cell? ⟨w.heap.size + 1, 2, none⟩ = some (.int .i64 r3) ∧ Cbx w p1 p2 p3 r1 r2 r3 w')
    ((refine Cbx.keep ?_; (repeat (first | assumption | with_reducible exact HB.out | with_reducible refine Cbx.drew ?_ | with_reducible refine Cbx.alloc ?_ _))))
    (first
      | (go_at_call 38; (with_reducible refine (K1.out _).mono ?_); rintro e w1 ⟨rfl, rfl⟩)
      | (go_at_call 39; (with_reducible refine (K2.out _).mono ?_); rintro e w1 ⟨rfl, rfl⟩)
      | (go_at_call 39; (with_reducible refine (K3.out _).mono ?_); rintro e w1 ⟨rfl, rfl⟩)
      | (go_at_call 37; (refine (K4.out _ _ (by go_simp) (by go_simp) (by go_simp)).mono ?_); rintro e w1 ⟨rfl, rfl⟩))
  clear hh
  go_wp2_with fail
  go_ret
  refine ⟨rfl, ?_⟩
  repeat (first | exact Lg.refl _ | refine Lg.drew ?_ | refine Lg.alloc ?_ _)
theorem cmpP_neg (p r : Pc) : cmpP p r < 0 ↔ PlLt p r := by
  unfold cmpP or3 cmpI PlLt
  repeat' split
  all_goals omega
theorem cmpP_lt (p r : Pc) : Go.Proofs.ltOf cmpP p r = decide (PlLt p r) := decide_eq_decide.2 (cmpP_neg p r)
theorem cmpP_swo : Go.Sort.SWO (Go.Proofs.ltOf cmpP) where
  irrefl x := by rw [cmpP_lt, decide_eq_false_iff_not]; exact plLt_irrefl x
  trans x y z h1 h2 := by rw [cmpP_lt, decide_eq_true_iff] at *; exact plLt_trans h1 h2
  ntrans x y z h1 h2 := by rw [cmpP_lt, decide_eq_false_iff_not] at *; unfold PlLt at *; omega
theorem cmpP_apart (x y : Pc) (h1 : Go.Proofs.ltOf cmpP x y = false) (h2 : Go.Proofs.ltOf cmpP y x = false) : x = y := by
  rw [cmpP_lt, decide_eq_false_iff_not] at *
  by_cases h : x = y
  · exact h
  · rcases plLt_total h with k | k
    · exact absurd k h1
    · exact absurd k h2
/-- places in some order, sorted: the places of the list -/
theorem sort_places {L : List Sm} (hS : Srt L) {ps : List Pc} (hp : ps.Perm (L.map Sm.pl)) : (ps.mergeSort fun x y => !(Go.Proofs.ltOf cmpP) y x) = L.map Sm.pl := by
  have hs : (L.map Sm.pl).Pairwise fun x y => (!(Go.Proofs.ltOf cmpP) y x) = true := by
    refine List.pairwise_map.2 ?_
    unfold Srt at hS
    refine hS.imp ?_
    intro a b hab
    rw [cmpP_lt, Bool.not_eq_true', decide_eq_false_iff_not]
    exact fun k => plLt_irrefl _ (plLt_trans hab k)
  refine List.Perm.eq_of_pairwise (le := fun x y : Pc => (!(Go.Proofs.ltOf cmpP) y x) = true) (fun a b _ _ h1 h2 => ?_) (List.pairwise_mergeSort (fun a b c h1 h2 => ?_) (fun a b => ?_) ps) hs ((List.mergeSort_perm ps _).trans hp)
  · rw [Bool.not_eq_true'] at h1 h2
    exact cmpP_apart a b h2 h1
  · rw [Bool.not_eq_true'] at *
    exact cmpP_swo.ntrans _ _ _ h2 h1
  · simp only [cmpP_lt, Bool.or_eq_true, Bool.not_eq_true', decide_eq_false_iff_not]
    unfold PlLt
    omega
end Go.Proofs.Ytjjcnojckbeekaa
