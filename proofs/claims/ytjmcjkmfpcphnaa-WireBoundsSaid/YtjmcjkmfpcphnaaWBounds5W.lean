/-
  The walk of the statement WireBounds at part 5: it has its bounds, on both sides. No condition.
-/
import Derived.Test.YtjmcjkmfpcphnaaWBounds0W
set_option linter.unusedSimpArgs false
set_option linter.unusedVariables false
namespace Go.Proofs.Ytjmcjkmfpcphnaa.bounds
set_option maxRecDepth 100000
open Go.RowKit

set_option maxHeartbeats 12800000 in
theorem walk_5 (part ed kind : Int) (ek : (IntKind.u64.wrap part).tmod 7 = 5) {w : World} :
    Calls Try.prog 6 #[.int .i64 part, .int .i64 ed, .int .i64 kind] w fun e w' => e = .returned (.bool true) ∧ w.grownBy w' none := by
  have EK := hid ek; clear ek
  obtain ⟨d, hd, ed'⟩ := umod_small kind 3 (by omega)
  have ek : (IntKind.u64.wrap kind).tmod 3 = (d : Int) := ed'
  clear ed'
  have hd0 : (0 : Int) ≤ (d : Int) := by omega
  have hd3 : (d : Int) < 3 := by omega
  go_enter Try.func6, Try.ntmps6
  go_upto_region 2 with fail
  clear ek
  have hk1 : 1 ≤ 1 + (d : Int) := by omega
  have hk3 : 1 + (d : Int) ≤ 3 := by omega
  clear hd0 hd3 hd
  generalize 1 + (d : Int) = kd at hk1 hk3 ⊢
  refine wp_gen (fun wx => Kp w [(w.heap.size, msgObj ⟨kd, 0, 0, 1, 0, 0, 0⟩)] [] wx) ((kp_start w).alloc (msgObj ⟨kd, 0, 0, 1, 0, 0, 0⟩)) ?_
  obtain ⟨x, hxe⟩ : ∃ x, x = w.heap.size := ⟨_, rfl⟩
  have hx : w.heap.size ≤ x := by omega
  have HX := hid hx
  rw [← hxe]
  clear hxe hx
  intro w2 h2
  have K2 := hid h2; clear h2
  obtain ⟨e, he, ee⟩ := umod_small ed 4 (by omega)
  have ee' : (IntKind.u64.wrap ed).tmod 4 = (e : Int) := ee
  have ek' := EK.out
  clear ee EK
  have c0 : ∀ o1 o2 o3 : Obj, (((w2.alloc o1).alloc o2).alloc o3).cell? ⟨x, 0, none⟩ = some (.int .i64 kd) := fun o1 o2 o3 => at_cell (at_alloc (at_alloc (at_alloc K2.out.b0 o1) o2) o3) 0
  have ck : ∀ o1 o2 o3 : Obj, (((w2.alloc o1).alloc o2).alloc o3).cell? ⟨x, 5, none⟩ = some (.int .i64 0) := fun o1 o2 o3 => at_cell (at_alloc (at_alloc (at_alloc K2.out.b0 o1) o2) o3) 5
  have fz : ∀ o1 o2 o3 : Obj, (((w2.alloc o1).alloc o2).alloc o3).frozen? ⟨x, 5, none⟩ = false := fun o1 o2 o3 => at_free (at_alloc (at_alloc (at_alloc K2.out.b0 o1) o2) o3) 5
  have hx2 : x < w2.heap.size := at_lt K2.out.b0
  have hee : e = 0 ∨ e = 1 ∨ e = 2 ∨ e = 3 := by omega
  clear he
  rcases hee with rfl | rfl | rfl | rfl
  · by_cases h1 : kd = 1
    · subst h1
      have hm : mayOf ⟨1, 0, 0, 1, 0, 0, 0⟩ = true := by unfold mayOf May; simp <;> omega
      have PC := hid (put_code _ _ hm); have MC := hid (kinds.may_as _ _ hm); have RC := hid (maymsg_as _ _ hm); clear hm
      go_upto_region 23 with fail
      refine wp_gen (fun wx => Kp w [(x, msgObj ⟨1, 0, 0, 1, 0, 0, 0⟩)] [] wx) (kp_w (m' := ⟨1, 0, 0, 1, 0, 0, 0⟩) K2.out HX.out 5 (.int .i64 0) rfl _ _ _) ?_
      clear K2 c0 ck fz hx2
      intro w3 h3
      have K3 := hid h3; clear h3
      go_wp2_with (first | refine wpList_row_w K3.out.b0 Try.underlying23 rfl (by kernel_rfl) rfl rfl rfl rfl ?_)
      refine (PC.out _).mono ?_
      rintro e w4 ⟨pv, rfl, hg⟩
      have K4 := hid (K3.out.grown hg); clear hg
      go_wp2_with fail
      refine (told_any _).mono ?_
      rintro e w5 ⟨rfl, hg⟩
      have K5 := hid (K4.out.grown hg); clear hg
      go_wp2_with (first | refine wpList_row_w K5.out.b0 Try.underlying23 rfl (by kernel_rfl) rfl rfl rfl rfl ?_)
      refine (MC.out _).mono ?_
      rintro e w6 ⟨rfl, hg⟩
      have K6 := hid (K5.out.grown hg); clear hg
      go_wp2_with (first | refine wpList_row_w K6.out.b0 Try.underlying23 rfl (by kernel_rfl) rfl rfl rfl rfl ?_)
      refine (RC.out _).mono ?_
      rintro e w7 ⟨rfl, hg⟩
      have K7 := hid (K6.out.grown hg); clear hg
      go_wp2_with fail
      go_ret
      exact ⟨rfl, K7.out.g⟩
    · have hm : mayOf ⟨kd, 0, 0, 1, 0, 0, 0⟩ = true := by unfold mayOf May; simp <;> omega
      have PC := hid (put_code _ _ hm); have MC := hid (kinds.may_as _ _ hm); have RC := hid (maymsg_as _ _ hm); clear hm
      go_upto_region 23 with fail
      refine wp_gen (fun wx => Kp w [(x, msgObj ⟨kd, 0, 0, 1, 0, 0, 0⟩)] [] wx) (kp_w (m' := ⟨kd, 0, 0, 1, 0, 0, 0⟩) K2.out HX.out 5 (.int .i64 0) rfl _ _ _) ?_
      clear K2 c0 ck fz hx2
      intro w3 h3
      have K3 := hid h3; clear h3
      go_wp2_with (first | refine wpList_row_w K3.out.b0 Try.underlying23 rfl (by kernel_rfl) rfl rfl rfl rfl ?_)
      refine (PC.out _).mono ?_
      rintro e w4 ⟨pv, rfl, hg⟩
      have K4 := hid (K3.out.grown hg); clear hg
      go_wp2_with fail
      refine (told_any _).mono ?_
      rintro e w5 ⟨rfl, hg⟩
      have K5 := hid (K4.out.grown hg); clear hg
      go_wp2_with (first | refine wpList_row_w K5.out.b0 Try.underlying23 rfl (by kernel_rfl) rfl rfl rfl rfl ?_)
      refine (MC.out _).mono ?_
      rintro e w6 ⟨rfl, hg⟩
      have K6 := hid (K5.out.grown hg); clear hg
      go_wp2_with (first | refine wpList_row_w K6.out.b0 Try.underlying23 rfl (by kernel_rfl) rfl rfl rfl rfl ?_)
      refine (RC.out _).mono ?_
      rintro e w7 ⟨rfl, hg⟩
      have K7 := hid (K6.out.grown hg); clear hg
      go_wp2_with fail
      go_ret
      exact ⟨rfl, K7.out.g⟩
  · by_cases h1 : kd = 1
    · subst h1
      have hm : mayOf ⟨1, 0, 0, 1, 0, (-1), 0⟩ = false := by unfold mayOf May; simp <;> omega
      have PC := hid (put_code _ _ hm); have MC := hid (kinds.may_as _ _ hm); have RC := hid (maymsg_as _ _ hm); clear hm
      go_upto_region 23 with fail
      refine wp_gen (fun wx => Kp w [(x, msgObj ⟨1, 0, 0, 1, 0, (-1), 0⟩)] [] wx) (kp_w (m' := ⟨1, 0, 0, 1, 0, (-1), 0⟩) K2.out HX.out 5 (.int .i64 (-1)) rfl _ _ _) ?_
      clear K2 c0 ck fz hx2
      intro w3 h3
      have K3 := hid h3; clear h3
      go_wp2_with (first | refine wpList_row_w K3.out.b0 Try.underlying23 rfl (by kernel_rfl) rfl rfl rfl rfl ?_)
      refine (PC.out _).mono ?_
      rintro e w4 ⟨pv, rfl, hg⟩
      have K4 := hid (K3.out.grown hg); clear hg
      go_wp2_with fail
      refine (told_any _).mono ?_
      rintro e w5 ⟨rfl, hg⟩
      have K5 := hid (K4.out.grown hg); clear hg
      go_wp2_with (first | refine wpList_row_w K5.out.b0 Try.underlying23 rfl (by kernel_rfl) rfl rfl rfl rfl ?_)
      refine (MC.out _).mono ?_
      rintro e w6 ⟨rfl, hg⟩
      have K6 := hid (K5.out.grown hg); clear hg
      go_wp2_with (first | refine wpList_row_w K6.out.b0 Try.underlying23 rfl (by kernel_rfl) rfl rfl rfl rfl ?_)
      refine (RC.out _).mono ?_
      rintro e w7 ⟨rfl, hg⟩
      have K7 := hid (K6.out.grown hg); clear hg
      go_wp2_with fail
      go_ret
      exact ⟨rfl, K7.out.g⟩
    · have hm : mayOf ⟨kd, 0, 0, 1, 0, (-1), 0⟩ = false := by unfold mayOf May; simp <;> omega
      have PC := hid (put_code _ _ hm); have MC := hid (kinds.may_as _ _ hm); have RC := hid (maymsg_as _ _ hm); clear hm
      go_upto_region 23 with fail
      refine wp_gen (fun wx => Kp w [(x, msgObj ⟨kd, 0, 0, 1, 0, (-1), 0⟩)] [] wx) (kp_w (m' := ⟨kd, 0, 0, 1, 0, (-1), 0⟩) K2.out HX.out 5 (.int .i64 (-1)) rfl _ _ _) ?_
      clear K2 c0 ck fz hx2
      intro w3 h3
      have K3 := hid h3; clear h3
      go_wp2_with (first | refine wpList_row_w K3.out.b0 Try.underlying23 rfl (by kernel_rfl) rfl rfl rfl rfl ?_)
      refine (PC.out _).mono ?_
      rintro e w4 ⟨pv, rfl, hg⟩
      have K4 := hid (K3.out.grown hg); clear hg
      go_wp2_with fail
      refine (told_any _).mono ?_
      rintro e w5 ⟨rfl, hg⟩
      have K5 := hid (K4.out.grown hg); clear hg
      go_wp2_with (first | refine wpList_row_w K5.out.b0 Try.underlying23 rfl (by kernel_rfl) rfl rfl rfl rfl ?_)
      refine (MC.out _).mono ?_
      rintro e w6 ⟨rfl, hg⟩
      have K6 := hid (K5.out.grown hg); clear hg
      go_wp2_with (first | refine wpList_row_w K6.out.b0 Try.underlying23 rfl (by kernel_rfl) rfl rfl rfl rfl ?_)
      refine (RC.out _).mono ?_
      rintro e w7 ⟨rfl, hg⟩
      have K7 := hid (K6.out.grown hg); clear hg
      go_wp2_with fail
      go_ret
      exact ⟨rfl, K7.out.g⟩
  · by_cases h1 : kd = 1
    · subst h1
      have hm : mayOf ⟨1, 0, 0, 1, 0, 1099511627776, 0⟩ = true := by unfold mayOf May; simp <;> omega
      have PC := hid (put_code _ _ hm); have MC := hid (kinds.may_as _ _ hm); have RC := hid (maymsg_as _ _ hm); clear hm
      go_upto_region 23 with fail
      refine wp_gen (fun wx => Kp w [(x, msgObj ⟨1, 0, 0, 1, 0, 1099511627776, 0⟩)] [] wx) (kp_w (m' := ⟨1, 0, 0, 1, 0, 1099511627776, 0⟩) K2.out HX.out 5 (.int .i64 1099511627776) rfl _ _ _) ?_
      clear K2 c0 ck fz hx2
      intro w3 h3
      have K3 := hid h3; clear h3
      go_wp2_with (first | refine wpList_row_w K3.out.b0 Try.underlying23 rfl (by kernel_rfl) rfl rfl rfl rfl ?_)
      refine (PC.out _).mono ?_
      rintro e w4 ⟨pv, rfl, hg⟩
      have K4 := hid (K3.out.grown hg); clear hg
      go_wp2_with fail
      refine (told_any _).mono ?_
      rintro e w5 ⟨rfl, hg⟩
      have K5 := hid (K4.out.grown hg); clear hg
      go_wp2_with (first | refine wpList_row_w K5.out.b0 Try.underlying23 rfl (by kernel_rfl) rfl rfl rfl rfl ?_)
      refine (MC.out _).mono ?_
      rintro e w6 ⟨rfl, hg⟩
      have K6 := hid (K5.out.grown hg); clear hg
      go_wp2_with (first | refine wpList_row_w K6.out.b0 Try.underlying23 rfl (by kernel_rfl) rfl rfl rfl rfl ?_)
      refine (RC.out _).mono ?_
      rintro e w7 ⟨rfl, hg⟩
      have K7 := hid (K6.out.grown hg); clear hg
      go_wp2_with fail
      go_ret
      exact ⟨rfl, K7.out.g⟩
    · have hm : mayOf ⟨kd, 0, 0, 1, 0, 1099511627776, 0⟩ = false := by unfold mayOf May; simp <;> omega
      have PC := hid (put_code _ _ hm); have MC := hid (kinds.may_as _ _ hm); have RC := hid (maymsg_as _ _ hm); clear hm
      go_upto_region 23 with fail
      refine wp_gen (fun wx => Kp w [(x, msgObj ⟨kd, 0, 0, 1, 0, 1099511627776, 0⟩)] [] wx) (kp_w (m' := ⟨kd, 0, 0, 1, 0, 1099511627776, 0⟩) K2.out HX.out 5 (.int .i64 1099511627776) rfl _ _ _) ?_
      clear K2 c0 ck fz hx2
      intro w3 h3
      have K3 := hid h3; clear h3
      go_wp2_with (first | refine wpList_row_w K3.out.b0 Try.underlying23 rfl (by kernel_rfl) rfl rfl rfl rfl ?_)
      refine (PC.out _).mono ?_
      rintro e w4 ⟨pv, rfl, hg⟩
      have K4 := hid (K3.out.grown hg); clear hg
      go_wp2_with fail
      refine (told_any _).mono ?_
      rintro e w5 ⟨rfl, hg⟩
      have K5 := hid (K4.out.grown hg); clear hg
      go_wp2_with (first | refine wpList_row_w K5.out.b0 Try.underlying23 rfl (by kernel_rfl) rfl rfl rfl rfl ?_)
      refine (MC.out _).mono ?_
      rintro e w6 ⟨rfl, hg⟩
      have K6 := hid (K5.out.grown hg); clear hg
      go_wp2_with (first | refine wpList_row_w K6.out.b0 Try.underlying23 rfl (by kernel_rfl) rfl rfl rfl rfl ?_)
      refine (RC.out _).mono ?_
      rintro e w7 ⟨rfl, hg⟩
      have K7 := hid (K6.out.grown hg); clear hg
      go_wp2_with fail
      go_ret
      exact ⟨rfl, K7.out.g⟩
  · by_cases h1 : kd = 1
    · subst h1
      have hm : mayOf ⟨1, 0, 0, 1, 0, 1099511627777, 0⟩ = false := by unfold mayOf May; simp <;> omega
      have PC := hid (put_code _ _ hm); have MC := hid (kinds.may_as _ _ hm); have RC := hid (maymsg_as _ _ hm); clear hm
      go_upto_region 23 with fail
      refine wp_gen (fun wx => Kp w [(x, msgObj ⟨1, 0, 0, 1, 0, 1099511627777, 0⟩)] [] wx) (kp_w (m' := ⟨1, 0, 0, 1, 0, 1099511627777, 0⟩) K2.out HX.out 5 (.int .i64 1099511627777) rfl _ _ _) ?_
      clear K2 c0 ck fz hx2
      intro w3 h3
      have K3 := hid h3; clear h3
      go_wp2_with (first | refine wpList_row_w K3.out.b0 Try.underlying23 rfl (by kernel_rfl) rfl rfl rfl rfl ?_)
      refine (PC.out _).mono ?_
      rintro e w4 ⟨pv, rfl, hg⟩
      have K4 := hid (K3.out.grown hg); clear hg
      go_wp2_with fail
      refine (told_any _).mono ?_
      rintro e w5 ⟨rfl, hg⟩
      have K5 := hid (K4.out.grown hg); clear hg
      go_wp2_with (first | refine wpList_row_w K5.out.b0 Try.underlying23 rfl (by kernel_rfl) rfl rfl rfl rfl ?_)
      refine (MC.out _).mono ?_
      rintro e w6 ⟨rfl, hg⟩
      have K6 := hid (K5.out.grown hg); clear hg
      go_wp2_with (first | refine wpList_row_w K6.out.b0 Try.underlying23 rfl (by kernel_rfl) rfl rfl rfl rfl ?_)
      refine (RC.out _).mono ?_
      rintro e w7 ⟨rfl, hg⟩
      have K7 := hid (K6.out.grown hg); clear hg
      go_wp2_with fail
      go_ret
      exact ⟨rfl, K7.out.g⟩
    · have hm : mayOf ⟨kd, 0, 0, 1, 0, 1099511627777, 0⟩ = false := by unfold mayOf May; simp <;> omega
      have PC := hid (put_code _ _ hm); have MC := hid (kinds.may_as _ _ hm); have RC := hid (maymsg_as _ _ hm); clear hm
      go_upto_region 23 with fail
      refine wp_gen (fun wx => Kp w [(x, msgObj ⟨kd, 0, 0, 1, 0, 1099511627777, 0⟩)] [] wx) (kp_w (m' := ⟨kd, 0, 0, 1, 0, 1099511627777, 0⟩) K2.out HX.out 5 (.int .i64 1099511627777) rfl _ _ _) ?_
      clear K2 c0 ck fz hx2
      intro w3 h3
      have K3 := hid h3; clear h3
      go_wp2_with (first | refine wpList_row_w K3.out.b0 Try.underlying23 rfl (by kernel_rfl) rfl rfl rfl rfl ?_)
      refine (PC.out _).mono ?_
      rintro e w4 ⟨pv, rfl, hg⟩
      have K4 := hid (K3.out.grown hg); clear hg
      go_wp2_with fail
      refine (told_any _).mono ?_
      rintro e w5 ⟨rfl, hg⟩
      have K5 := hid (K4.out.grown hg); clear hg
      go_wp2_with (first | refine wpList_row_w K5.out.b0 Try.underlying23 rfl (by kernel_rfl) rfl rfl rfl rfl ?_)
      refine (MC.out _).mono ?_
      rintro e w6 ⟨rfl, hg⟩
      have K6 := hid (K5.out.grown hg); clear hg
      go_wp2_with (first | refine wpList_row_w K6.out.b0 Try.underlying23 rfl (by kernel_rfl) rfl rfl rfl rfl ?_)
      refine (RC.out _).mono ?_
      rintro e w7 ⟨rfl, hg⟩
      have K7 := hid (K6.out.grown hg); clear hg
      go_wp2_with fail
      go_ret
      exact ⟨rfl, K7.out.g⟩
end Go.Proofs.Ytjmcjkmfpcphnaa.bounds
