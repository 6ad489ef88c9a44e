/-
  The walk of the statement TableFresh: an epoch's samples are taken from the epoch that is fresh ahead of it on, up to its end, and not before or behind. No condition.
-/
import Derived.Test.YtjjcnojckbeekaaTbN
import Derived.Test.YtjjcnojckbeekaaUmi
set_option linter.unusedSimpArgs false
set_option linter.unusedVariables false
namespace Go.Proofs.Ytjjcnojckbeekaa.tbfresh
set_option maxRecDepth 100000
open Go.RowKit

set_option maxHeartbeats 3200000 in
theorem walk {w : World} (a b c : Int) :
    Calls Try.prog 5 #[.int .i64 a, .int .i64 b, .int .i64 c] w fun e w' => e = .returned (.bool true) ∧ w.grownBy w' none := by
  obtain ⟨k1, k10, k11, m1⟩ := umod_int a 8 (by omega)
  have m1 : (IntKind.u64.wrap a).tmod 8 = k1 := m1
  obtain ⟨k2, k20, k21, m2⟩ := umod_int b 1000000 (by omega)
  have m2 : (IntKind.u64.wrap b).tmod 1000000 = k2 := m2
  obtain ⟨k3, k30, k31, m3⟩ := umod_int c 21 (by omega)
  have m3 : (IntKind.u64.wrap c).tmod 21 = k3 := m3
  have c1 : IntKind.i64.wrap k1 = k1 := IntWalk.i64_in _ (by omega)
  have c2 : IntKind.i64.wrap k2 = k2 := IntWalk.i64_in _ (by omega)
  have c3 : IntKind.i64.wrap k3 = k3 := IntWalk.i64_in _ (by omega)
  obtain ⟨F, hF⟩ : ∃ F, F = 1 + k1 := ⟨_, rfl⟩
  obtain ⟨E, hE⟩ : ∃ E, E = 10 + k2 := ⟨_, rfl⟩
  obtain ⟨T, hT⟩ : ∃ T, T = k2 + k3 := ⟨_, rfl⟩
  obtain ⟨G, hG⟩ : ∃ G, G = T + F := ⟨_, rfl⟩
  have s1 : IntKind.i64.wrap (1 + k1) = F := by rw [hF]; exact IntWalk.i64_in _ (by omega)
  have s2 : IntKind.i64.wrap (10 + k2) = E := by rw [hE]; exact IntWalk.i64_in _ (by omega)
  have s3 : IntKind.i64.wrap (E - 10) = k2 := by rw [show E - 10 = k2 by omega]; exact c2
  have s4 : IntKind.i64.wrap (k2 + k3) = T := by rw [hT]; exact IntWalk.i64_in _ (by omega)
  have s5 : IntKind.i64.wrap (T + F) = G := by rw [hG]; exact IntWalk.i64_in _ (by omega)
  have hmn : MayNew 1 1 F := by unfold MayNew; omega
  have HMN := hid hmn
  have HE := hid (show wf64 E ∧ wf64 T by unfold wf64; omega)
  have HA := hid (show 0 ≤ (0 : Int) ∧ (0 : Int) < 1 ∧ 0 ≤ (0 : Int) ∧ (0 : Int) < 1 ∧ 0 ≤ (0 : Int) ∧ (0 : Int) ≤ 1099511627776 by decide)
  by_cases hmay : T ≤ E ∧ E < G
  · have hr : mayT 1 1 F [] ⟨0, 0, E, 0⟩ T = 0 := by
      unfold mayT
      rw [if_neg (fun h => h HA.out), if_neg (fun h => h ⟨hmay.1, by simp only; omega⟩), if_neg (by rintro ⟨x, hx, _⟩; cases hx)]
    have hp : putT 1 1 F [] ⟨0, 0, E, 0⟩ T = [⟨0, 0, E, 0⟩] := by unfold putT; rw [if_pos hr]; rfl
    have HR := hid (And.intro hr hp)
    obtain ⟨t1, t2⟩ := hmay
    clear hr hp hmn hF hE hT hG k10 k11 k20 k21 k30 k31
    go_enter Try.func5, Try.ntmps5
    go_wp2_with fail
    refine (Tk.new HMN.out (.refl w none)).mono ?_
    rintro e w0 ⟨rfl, hT, hg⟩
    have T0 := hid hT
    clear hT hg
    go_wp2_with fail
    refine (T0.out.put (by decide) ⟨0, 0, E, 0⟩ HE.out.1 HE.out.2 HR.out.1 HR.out.2).mono ?_
    rintro e w1 ⟨rfl, hT, hg⟩
    have T1 := hid hT
    clear hT hg T0
    go_wp2_with fail
    refine (tbtold_any _).mono ?_
    rintro e w2 ⟨rfl, hg⟩
    have T2 := hid (T1.out.grown hg)
    clear hg T1
    go_wp2_with fail
    refine (all_any T2.out.tb (by simp)).mono ?_
    rintro e w8 ⟨v8, rfl, hown, hg⟩
    obtain ⟨p8, c8, rfl⟩ := hown.form
    have T8 := hid (T2.out.grown hg)
    clear hown hg T2
    simp only [List.length_cons, List.length_nil]
    go_wp2_with fail
    go_ret
    exact ⟨by simp, T8.out.gr⟩
  · have hr : mayT 1 1 F [] ⟨0, 0, E, 0⟩ T = 7 := by
      unfold mayT
      rw [if_neg (fun h => h HA.out), if_pos (fun h => hmay ⟨h.1, by have := h.2; simp only at this; omega⟩)]
    have hp : putT 1 1 F [] ⟨0, 0, E, 0⟩ T = [] := by unfold putT; rw [if_neg (by rw [hr]; decide)]
    have HR := hid (And.intro hr hp)
    clear hr hp hmn
    have fin : (T ≤ E ∧ ¬ E < G) ∨ ¬ T ≤ E := by omega
    clear hmay hF hE hT hG k10 k11 k20 k21 k30 k31
    rcases fin with ⟨t1, t2⟩ | t1
    all_goals
      go_enter Try.func5, Try.ntmps5
      go_wp2_with fail
      refine (Tk.new HMN.out (.refl w none)).mono ?_
      rintro e w0 ⟨rfl, hT, hg⟩
      have T0 := hid hT
      clear hT hg
      go_wp2_with fail
      refine (T0.out.put (by decide) ⟨0, 0, E, 0⟩ HE.out.1 HE.out.2 HR.out.1 HR.out.2).mono ?_
      rintro e w1 ⟨rfl, hT, hg⟩
      have T1 := hid hT
      clear hT hg T0
      go_wp2_with fail
      refine (tbtold_any _).mono ?_
      rintro e w2 ⟨rfl, hg⟩
      have T2 := hid (T1.out.grown hg)
      clear hg T1
      go_wp2_with fail
      refine (all_any T2.out.tb (by simp)).mono ?_
      rintro e w8 ⟨v8, rfl, hown, hg⟩
      obtain ⟨p8, c8, rfl⟩ := hown.form
      have T8 := hid (T2.out.grown hg)
      clear hown hg T2
      simp only [List.length_nil]
      go_wp2_with fail
      go_ret
      exact ⟨by simp; try omega, T8.out.gr⟩
end Go.Proofs.Ytjjcnojckbeekaa.tbfresh
