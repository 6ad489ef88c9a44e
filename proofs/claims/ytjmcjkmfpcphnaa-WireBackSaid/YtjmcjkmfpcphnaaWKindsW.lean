/-
  The walk of the statement WireKinds: messages that are unlike in any part have unlike bytes. No condition.
-/
import Derived.Test.YtjmcjkmfpcphnaaWTold
import Derived.Test.YtjmcjkmfpcphnaaMsgEq
set_option linter.unusedSimpArgs false
set_option linter.unusedVariables false
namespace Go.Proofs.Ytjmcjkmfpcphnaa.kinds
set_option maxRecDepth 100000
open Go.RowKit

theorem kp2 (w : World) (a b : Mg) : Kp w [(w.heap.size + 1, msgObj b), (w.heap.size, msgObj a)] [] ((w.alloc (msgObj a)).alloc (msgObj b)) := by
  have h := ((kp_start w).alloc (msgObj a)).alloc (msgObj b)
  rw [size_alloc] at h
  exact h
theorem may_as (m : Mg) (x : Bool) (h : mayOf m = x) (w : World) :
    Calls Try.prog 17 #[mg m] w fun e w' => e = .returned (.bool x) ∧ w.grownBy w' none := by subst h; exact may_any m w
theorem put_ne {a b : Mg} (ha : mayOf a = true) (hb : mayOf b = true) (h : a ≠ b) : (⟨(putOf a).toArray⟩ : ByteArray) ≠ ⟨(putOf b).toArray⟩ := by
  intro e
  have e1 : putOf a = putOf b := by
    have := congrArg (fun x : ByteArray => x.data.toList) e
    simpa using this
  have h1 := get_put (may_of ha)
  rw [e1, get_put (may_of hb)] at h1
  exact h (Option.some.inj h1).symm

set_option maxHeartbeats 6400000 in
theorem walk (a b : Mg) {w : World} :
    Calls Try.prog 7 #[mg a, mg b] w fun e w' => e = .returned (.bool true) ∧ w.grownBy w' none := by
  have k0 := kp2 w a b
  have K0 := hid k0; clear k0
  obtain ⟨xa, ha⟩ : ∃ x, mayOf a = x := ⟨_, rfl⟩
  obtain ⟨xb, hb⟩ : ∃ x, mayOf b = x := ⟨_, rfl⟩
  have MA := hid (may_as a xa ha)
  have MB := hid (may_as b xb hb)
  go_enter Try.func7, Try.ntmps7
  cases xa
  · clear ha hb
    go_wp2_with (first | refine wpList_row_w K0.out.b1 Try.underlying23 rfl (by kernel_rfl) rfl rfl rfl rfl ?_)
    refine (MA.out _).mono ?_
    rintro e w1 ⟨rfl, hg⟩
    have K1 := hid (K0.out.grown hg); clear hg
    go_wp2_with fail
    refine (told_any _).mono ?_
    rintro e w2 ⟨rfl, hg⟩
    have K2 := hid (K1.out.grown hg); clear hg
    go_wp2_with fail
    go_ret
    exact ⟨rfl, K2.out.g⟩
  cases xb
  · clear ha hb
    go_wp2_with (first | refine wpList_row_w K0.out.b1 Try.underlying23 rfl (by kernel_rfl) rfl rfl rfl rfl ?_)
    refine (MA.out _).mono ?_
    rintro e w1 ⟨rfl, hg⟩
    have K1 := hid (K0.out.grown hg); clear hg
    go_wp2_with (first | refine wpList_row_w K1.out.b0 Try.underlying23 rfl (by kernel_rfl) rfl rfl rfl rfl ?_)
    refine (MB.out _).mono ?_
    rintro e w2 ⟨rfl, hg⟩
    have K2 := hid (K1.out.grown hg); clear hg
    go_wp2_with fail
    refine (told_any _).mono ?_
    rintro e w2 ⟨rfl, hg⟩
    have K3 := hid (K2.out.grown hg); clear hg
    go_wp2_with fail
    go_ret
    exact ⟨rfl, K3.out.g⟩
  have PA := hid (fun w => wput_good a ha w)
  have PB := hid (fun w => wput_good b hb w)
  have hcb := fun w v (h : BytesAt w v (putOf b)) => conv_bytes h
  have hca := fun w v (h : BytesAt w v (putOf a)) => conv_bytes h
  by_cases hab : a = b
  · subst hab
    clear ha hb
    generalize (⟨(putOf a).toArray⟩ : ByteArray) = sa at hca hcb
    have CA := hid hca; have CB := hid hcb; clear hca hcb
    go_wp2_with (first | refine wpList_row_w K0.out.b1 Try.underlying23 rfl (by kernel_rfl) rfl rfl rfl rfl ?_ | refine wpList_row_w K0.out.b0 Try.underlying23 rfl (by kernel_rfl) rfl rfl rfl rfl ?_)
    refine (MA.out _).mono ?_
    rintro e w1 ⟨rfl, hg⟩
    have K1 := hid (K0.out.grown hg); clear hg
    go_wp2_with (first | refine wpList_row_w K1.out.b1 Try.underlying23 rfl (by kernel_rfl) rfl rfl rfl rfl ?_ | refine wpList_row_w K1.out.b0 Try.underlying23 rfl (by kernel_rfl) rfl rfl rfl rfl ?_)
    refine (MB.out _).mono ?_
    rintro e w2 ⟨rfl, hg⟩
    have K2 := hid (K1.out.grown hg); clear hg
    go_wp2_with (first | refine wpList_row_w K2.out.b1 Try.underlying23 rfl (by kernel_rfl) rfl rfl rfl rfl ?_ | refine wpList_row_w K2.out.b0 Try.underlying23 rfl (by kernel_rfl) rfl rfl rfl rfl ?_)
    refine (PA.out _).mono ?_
    rintro e w3 ⟨pa, rfl, ho, hg⟩
    have K3 := hid ((K2.out.grown hg).addY ho.bytes); clear hg ho
    go_wp2_with (first | refine wpList_row_w K3.out.b1 Try.underlying23 rfl (by kernel_rfl) rfl rfl rfl rfl ?_ | refine wpList_row_w K3.out.b0 Try.underlying23 rfl (by kernel_rfl) rfl rfl rfl rfl ?_)
    refine (PB.out _).mono ?_
    rintro e w4 ⟨qb, rfl, ho, hg⟩
    have K4 := hid ((K3.out.grown hg).addY ho.bytes); clear hg ho
    go_wp2_with fail
    refine wp_region_held_drew (S := (fun w' => (Kp w [(w.heap.size + 1, msgObj a), (w.heap.size, msgObj a)] [(qb, putOf a), (pa, putOf a)] w'))) (by kernel_rfl) K4.out.drew (fun hHeld => ?_)
    try dsimp only at hHeld
    refine wpAnyH_ready (rs := [0]) (by kernel_rfl) (by simp) ?_
    refine AllReadyH.cons (o := _) rfl (fun K hK => ?_) AllReadyH.nil
    try simp only [List.getElem_toArray, List.getElem_cons_succ, List.getElem_cons_zero]
    go_simp
    have hH2 := hHeld
    have kp := hH2
    refine (told_any _).mono ?_
    rintro e w1000 ⟨rfl, hg⟩
    have L0 := hid (show (Kp w [(w.heap.size + 1, msgObj a), (w.heap.size, msgObj a)] [(qb, putOf a), (pa, putOf a)] w1000) from kp.grown hg)
    clear hHeld hg kp
    go_wp2_with fail
    refine hK.out _ _ ?_ (fun hHeld => ?_)
    · exact L0.out
    clear hK K
    try dsimp only at hHeld
    try simp only [Act.put, List.setIfInBounds_toArray, List.set_cons_zero, List.set_cons_succ, List.getElem_toArray, List.getElem_cons_succ, List.getElem_cons_zero]
    refine' wpAnyH_take (i := 1) (v := _) rfl (by kernel_rfl) (by kernel_rfl) (by kernel_rfl) (fun _ _ _ h => h) (Or.inl ⟨by rfl, ?_⟩) hHeld ?_
    rotate_left
    · (intro w hSw; (try dsimp only at hSw); go_simp; try with_reducible rfl)
    try simp only [Act.put, List.setIfInBounds_toArray, List.set_cons_zero, List.set_cons_succ, List.getElem_toArray, List.getElem_cons_succ, List.getElem_cons_zero]
    refine' wpAnyH_take (i := 2) (v := _) rfl (by kernel_rfl) (by kernel_rfl) (by kernel_rfl) (fun _ _ _ h => h) (Or.inl ⟨by rfl, ?_⟩) hHeld ?_
    rotate_left
    · (intro w hSw; (try dsimp only at hSw); go_simp; try with_reducible rfl)
    try simp only [Act.put, List.setIfInBounds_toArray, List.set_cons_zero, List.set_cons_succ, List.getElem_toArray, List.getElem_cons_succ, List.getElem_cons_zero]
    refine' wpAnyH_take (i := 3) (v := _) rfl (by kernel_rfl) (by kernel_rfl) (by kernel_rfl) (fun _ _ _ h => h) (Or.inl ⟨by rfl, ?_⟩) hHeld ?_
    rotate_left
    · (intro w hSw; (try dsimp only at hSw); go_simp; try with_reducible rfl)
    try simp only [Act.put, List.setIfInBounds_toArray, List.set_cons_zero, List.set_cons_succ, List.getElem_toArray, List.getElem_cons_succ, List.getElem_cons_zero]
    refine' wpAnyH_take (i := 4) (v := _) rfl (by kernel_rfl) (by kernel_rfl) (by kernel_rfl) (fun _ _ _ h => h) (Or.inl ⟨by rfl, ?_⟩) hHeld ?_
    rotate_left
    · (intro w hSw; (try dsimp only at hSw); go_simp; try with_reducible rfl)
    try simp only [Act.put, List.setIfInBounds_toArray, List.set_cons_zero, List.set_cons_succ, List.getElem_toArray, List.getElem_cons_succ, List.getElem_cons_zero]
    refine' wpAnyH_take (i := 5) (v := _) rfl (by kernel_rfl) (by kernel_rfl) (by kernel_rfl) (fun _ _ _ h => h) (Or.inl ⟨by rfl, ?_⟩) hHeld ?_
    rotate_left
    · (intro w hSw; (try dsimp only at hSw); go_simp; try with_reducible rfl)
    try simp only [Act.put, List.setIfInBounds_toArray, List.set_cons_zero, List.set_cons_succ, List.getElem_toArray, List.getElem_cons_succ, List.getElem_cons_zero]
    refine' wpAnyH_take (i := 6) (v := _) rfl (by kernel_rfl) (by kernel_rfl) (by kernel_rfl) (fun _ _ _ h => h) (Or.inl ⟨by rfl, ?_⟩) hHeld ?_
    rotate_left
    · (intro w hSw; (try dsimp only at hSw); go_simp; try with_reducible rfl)
    try simp only [Act.put, List.setIfInBounds_toArray, List.set_cons_zero, List.set_cons_succ, List.getElem_toArray, List.getElem_cons_succ, List.getElem_cons_zero]
    refine' wpAnyH_take (i := 7) (v := _) rfl (by kernel_rfl) (by kernel_rfl) (by kernel_rfl) (fun _ _ _ h => h) (Or.inl ⟨by rfl, ?_⟩) hHeld ?_
    rotate_left
    · (intro w hSw; (try dsimp only at hSw); go_simp; try with_reducible rfl)
    try simp only [Act.put, List.setIfInBounds_toArray, List.set_cons_zero, List.set_cons_succ, List.getElem_toArray, List.getElem_cons_succ, List.getElem_cons_zero]
    refine' wpAnyH_take (i := 8) (v := _) rfl (by kernel_rfl) (by kernel_rfl) (by kernel_rfl) (fun _ _ _ h => h) (Or.inl ⟨by rfl, ?_⟩) hHeld ?_
    rotate_left
    · (intro w hSw; (try dsimp only at hSw); go_simp; try with_reducible rfl)
    try simp only [Act.put, List.setIfInBounds_toArray, List.set_cons_zero, List.set_cons_succ, List.getElem_toArray, List.getElem_cons_succ, List.getElem_cons_zero]
    refine' wpAnyH_take (i := 9) (v := _) rfl (by kernel_rfl) (by kernel_rfl) (by kernel_rfl) (fun _ _ _ h => h) (Or.inl ⟨by rfl, ?_⟩) hHeld ?_
    rotate_left
    · (intro w hSw; (try dsimp only at hSw); go_simp; try with_reducible rfl)
    try simp only [Act.put, List.setIfInBounds_toArray, List.set_cons_zero, List.set_cons_succ, List.getElem_toArray, List.getElem_cons_succ, List.getElem_cons_zero]
    refine' wpAnyH_take (i := 10) (v := _) rfl (by kernel_rfl) (by kernel_rfl) (by kernel_rfl) (fun _ _ _ h => h) (Or.inl ⟨by rfl, ?_⟩) hHeld ?_
    rotate_left
    · (intro w hSw; (try dsimp only at hSw); go_simp; try with_reducible rfl)
    try simp only [Act.put, List.setIfInBounds_toArray, List.set_cons_zero, List.set_cons_succ, List.getElem_toArray, List.getElem_cons_succ, List.getElem_cons_zero]
    refine' wpAnyH_take (i := 11) (v := _) rfl (by kernel_rfl) (by kernel_rfl) (by kernel_rfl) (fun _ _ _ h => h) (Or.inl ⟨by rfl, ?_⟩) hHeld ?_
    rotate_left
    · (intro w hSw; (try dsimp only at hSw); have kp := hSw; have cx := CA.out _ _ kp.y1; have cp := CB.out _ _ kp.y0; go_simp; try with_reducible rfl)
    try simp only [Act.put, List.setIfInBounds_toArray, List.set_cons_zero, List.set_cons_succ, List.getElem_toArray, List.getElem_cons_succ, List.getElem_cons_zero]
    refine' wpAnyH_take (i := 12) (v := _) rfl (by kernel_rfl) (by kernel_rfl) (by kernel_rfl) (fun _ _ _ h => h) (Or.inl ⟨by rfl, ?_⟩) hHeld ?_
    rotate_left
    · (intro w hSw; (try dsimp only at hSw); go_simp; try with_reducible rfl)
    try simp only [Act.put, List.setIfInBounds_toArray, List.set_cons_zero, List.set_cons_succ, List.getElem_toArray, List.getElem_cons_succ, List.getElem_cons_zero]
    refine' wpAnyH_take (i := 13) (v := _) rfl (by kernel_rfl) (by kernel_rfl) (by kernel_rfl) (fun _ _ _ h => h) (Or.inl ⟨by rfl, ?_⟩) hHeld ?_
    rotate_left
    · (intro w hSw; (try dsimp only at hSw); have kp := hSw; have cx := CA.out _ _ kp.y1; have cp := CB.out _ _ kp.y0; go_simp; try with_reducible rfl)
    try simp only [Act.put, List.setIfInBounds_toArray, List.set_cons_zero, List.set_cons_succ, List.getElem_toArray, List.getElem_cons_succ, List.getElem_cons_zero]
    refine' wpAnyH_take (i := 14) (v := _) rfl (by kernel_rfl) (by kernel_rfl) (by kernel_rfl) (fun _ _ _ h => h) (Or.inl ⟨by rfl, ?_⟩) hHeld ?_
    rotate_left
    · (intro w hSw; (try dsimp only at hSw); go_simp; try with_reducible rfl)
    try simp only [Act.put, List.setIfInBounds_toArray, List.set_cons_zero, List.set_cons_succ, List.getElem_toArray, List.getElem_cons_succ, List.getElem_cons_zero]
    refine' wpAnyH_take (i := 15) (v := _) rfl (by kernel_rfl) (by kernel_rfl) (by kernel_rfl) (fun _ _ _ h => h) (Or.inl ⟨by rfl, ?_⟩) hHeld ?_
    rotate_left
    · (intro w hSw; (try dsimp only at hSw); (try simp only [List.getElem_toArray, List.getElem_cons_succ, List.getElem_cons_zero]); refine exec_row (x := .tmp 2) hSw.b1 Try.underlying23 rfl (by kernel_rfl) ?_ ?_ <;> rfl)
    try simp only [Act.put, List.setIfInBounds_toArray, List.set_cons_zero, List.set_cons_succ, List.getElem_toArray, List.getElem_cons_succ, List.getElem_cons_zero]
    refine' wpAnyH_take (i := 16) (v := _) rfl (by kernel_rfl) (by kernel_rfl) (by kernel_rfl) (fun _ _ _ h => h) (Or.inl ⟨by rfl, ?_⟩) hHeld ?_
    rotate_left
    · (intro w hSw; (try dsimp only at hSw); (try simp only [List.getElem_toArray, List.getElem_cons_succ, List.getElem_cons_zero]); refine exec_row (x := .tmp 3) hSw.b0 Try.underlying23 rfl (by kernel_rfl) ?_ ?_ <;> rfl)
    try simp only [Act.put, List.setIfInBounds_toArray, List.set_cons_zero, List.set_cons_succ, List.getElem_toArray, List.getElem_cons_succ, List.getElem_cons_zero]
    refine' wpAnyH_take (i := 17) (v := _) rfl (by kernel_rfl) (by kernel_rfl) (by kernel_rfl) (fun _ _ _ h => h) (Or.inl ⟨by rfl, ?_⟩) hHeld ?_
    rotate_left
    · (intro w hSw; (try dsimp only at hSw); go_simp; try with_reducible rfl)
    try simp only [Act.put, List.setIfInBounds_toArray, List.set_cons_zero, List.set_cons_succ, List.getElem_toArray, List.getElem_cons_succ, List.getElem_cons_zero]
    refine' wpAnyH_take (i := 18) (v := _) rfl (by kernel_rfl) (by kernel_rfl) (by kernel_rfl) (fun _ _ _ h => h) (Or.inl ⟨by rfl, ?_⟩) hHeld ?_
    rotate_left
    · (intro w hSw; (try dsimp only at hSw); go_simp; try with_reducible rfl)
    try simp only [Act.put, List.setIfInBounds_toArray, List.set_cons_zero, List.set_cons_succ, List.getElem_toArray, List.getElem_cons_succ, List.getElem_cons_zero]
    refine' wpAnyH_take (i := 19) (v := _) rfl (by kernel_rfl) (by kernel_rfl) (by kernel_rfl) (fun _ _ _ h => h) (Or.inl ⟨by rfl, ?_⟩) hHeld ?_
    rotate_left
    · (intro w hSw; (try dsimp only at hSw); go_simp; try with_reducible rfl)
    try simp only [Act.put, List.setIfInBounds_toArray, List.set_cons_zero, List.set_cons_succ, List.getElem_toArray, List.getElem_cons_succ, List.getElem_cons_zero]
    refine' wpAnyH_take (i := 20) (v := _) rfl (by kernel_rfl) (by kernel_rfl) (by kernel_rfl) (fun _ _ _ h => h) (Or.inl ⟨by rfl, ?_⟩) hHeld ?_
    rotate_left
    · (intro w hSw; (try dsimp only at hSw); go_simp; try with_reducible rfl)
    try simp only [Act.put, List.setIfInBounds_toArray, List.set_cons_zero, List.set_cons_succ, List.getElem_toArray, List.getElem_cons_succ, List.getElem_cons_zero]
    refine wpAnyH_done (by kernel_rfl) ?_ _
    have kp := hHeld
    have G := hid kp.g; clear kp
    go_wp2_with fail
    go_ret
    exact ⟨rfl, G.out⟩
  · have hne := str_ne (put_ne ha hb hab)
    have hme := fun w => msg_equal a b w
    rw [msgEq_ne hab] at hme
    clear ha hb hab
    generalize (⟨(putOf a).toArray⟩ : ByteArray) = sa at hca hne
    generalize (⟨(putOf b).toArray⟩ : ByteArray) = sb at hcb hne
    have CA := hid hca; have CB := hid hcb; clear hca hcb
    go_wp2_with (first | refine wpList_row_w K0.out.b1 Try.underlying23 rfl (by kernel_rfl) rfl rfl rfl rfl ?_ | refine wpList_row_w K0.out.b0 Try.underlying23 rfl (by kernel_rfl) rfl rfl rfl rfl ?_)
    refine (MA.out _).mono ?_
    rintro e w1 ⟨rfl, hg⟩
    have K1 := hid (K0.out.grown hg); clear hg
    go_wp2_with (first | refine wpList_row_w K1.out.b1 Try.underlying23 rfl (by kernel_rfl) rfl rfl rfl rfl ?_ | refine wpList_row_w K1.out.b0 Try.underlying23 rfl (by kernel_rfl) rfl rfl rfl rfl ?_)
    refine (MB.out _).mono ?_
    rintro e w2 ⟨rfl, hg⟩
    have K2 := hid (K1.out.grown hg); clear hg
    go_wp2_with (first | refine wpList_row_w K2.out.b1 Try.underlying23 rfl (by kernel_rfl) rfl rfl rfl rfl ?_ | refine wpList_row_w K2.out.b0 Try.underlying23 rfl (by kernel_rfl) rfl rfl rfl rfl ?_)
    refine (PA.out _).mono ?_
    rintro e w3 ⟨pa, rfl, ho, hg⟩
    have K3 := hid ((K2.out.grown hg).addY ho.bytes); clear hg ho
    go_wp2_with (first | refine wpList_row_w K3.out.b1 Try.underlying23 rfl (by kernel_rfl) rfl rfl rfl rfl ?_ | refine wpList_row_w K3.out.b0 Try.underlying23 rfl (by kernel_rfl) rfl rfl rfl rfl ?_)
    refine (PB.out _).mono ?_
    rintro e w4 ⟨qb, rfl, ho, hg⟩
    have K4 := hid ((K3.out.grown hg).addY ho.bytes); clear hg ho
    go_wp2_with fail
    refine wp_region_held_drew (S := (fun w' => (Kp w [(w.heap.size + 1, msgObj b), (w.heap.size, msgObj a)] [(qb, putOf b), (pa, putOf a)] w'))) (by kernel_rfl) K4.out.drew (fun hHeld => ?_)
    try dsimp only at hHeld
    refine wpAnyH_ready (rs := [0]) (by kernel_rfl) (by simp) ?_
    refine AllReadyH.cons (o := _) rfl (fun K hK => ?_) AllReadyH.nil
    try simp only [List.getElem_toArray, List.getElem_cons_succ, List.getElem_cons_zero]
    go_simp
    have hH2 := hHeld
    have kp := hH2
    refine (told_any _).mono ?_
    rintro e w1000 ⟨rfl, hg⟩
    have L0 := hid (show (Kp w [(w.heap.size + 1, msgObj b), (w.heap.size, msgObj a)] [(qb, putOf b), (pa, putOf a)] w1000) from kp.grown hg)
    clear hHeld hg kp
    go_wp2_with fail
    refine hK.out _ _ ?_ (fun hHeld => ?_)
    · exact L0.out
    clear hK K
    try dsimp only at hHeld
    try simp only [Act.put, List.setIfInBounds_toArray, List.set_cons_zero, List.set_cons_succ, List.getElem_toArray, List.getElem_cons_succ, List.getElem_cons_zero]
    refine' wpAnyH_take (i := 1) (v := _) rfl (by kernel_rfl) (by kernel_rfl) (by kernel_rfl) (fun _ _ _ h => h) (Or.inl ⟨by rfl, ?_⟩) hHeld ?_
    rotate_left
    · (intro w hSw; (try dsimp only at hSw); go_simp; try with_reducible rfl)
    try simp only [Act.put, List.setIfInBounds_toArray, List.set_cons_zero, List.set_cons_succ, List.getElem_toArray, List.getElem_cons_succ, List.getElem_cons_zero]
    refine' wpAnyH_take (i := 2) (v := _) rfl (by kernel_rfl) (by kernel_rfl) (by kernel_rfl) (fun _ _ _ h => h) (Or.inl ⟨by rfl, ?_⟩) hHeld ?_
    rotate_left
    · (intro w hSw; (try dsimp only at hSw); go_simp; try with_reducible rfl)
    try simp only [Act.put, List.setIfInBounds_toArray, List.set_cons_zero, List.set_cons_succ, List.getElem_toArray, List.getElem_cons_succ, List.getElem_cons_zero]
    refine' wpAnyH_take (i := 3) (v := _) rfl (by kernel_rfl) (by kernel_rfl) (by kernel_rfl) (fun _ _ _ h => h) (Or.inl ⟨by rfl, ?_⟩) hHeld ?_
    rotate_left
    · (intro w hSw; (try dsimp only at hSw); go_simp; try with_reducible rfl)
    try simp only [Act.put, List.setIfInBounds_toArray, List.set_cons_zero, List.set_cons_succ, List.getElem_toArray, List.getElem_cons_succ, List.getElem_cons_zero]
    refine' wpAnyH_take (i := 4) (v := _) rfl (by kernel_rfl) (by kernel_rfl) (by kernel_rfl) (fun _ _ _ h => h) (Or.inl ⟨by rfl, ?_⟩) hHeld ?_
    rotate_left
    · (intro w hSw; (try dsimp only at hSw); go_simp; try with_reducible rfl)
    try simp only [Act.put, List.setIfInBounds_toArray, List.set_cons_zero, List.set_cons_succ, List.getElem_toArray, List.getElem_cons_succ, List.getElem_cons_zero]
    refine' wpAnyH_take (i := 5) (v := _) rfl (by kernel_rfl) (by kernel_rfl) (by kernel_rfl) (fun _ _ _ h => h) (Or.inl ⟨by rfl, ?_⟩) hHeld ?_
    rotate_left
    · (intro w hSw; (try dsimp only at hSw); go_simp; try with_reducible rfl)
    try simp only [Act.put, List.setIfInBounds_toArray, List.set_cons_zero, List.set_cons_succ, List.getElem_toArray, List.getElem_cons_succ, List.getElem_cons_zero]
    refine' wpAnyH_take (i := 6) (v := _) rfl (by kernel_rfl) (by kernel_rfl) (by kernel_rfl) (fun _ _ _ h => h) (Or.inl ⟨by rfl, ?_⟩) hHeld ?_
    rotate_left
    · (intro w hSw; (try dsimp only at hSw); go_simp; try with_reducible rfl)
    try simp only [Act.put, List.setIfInBounds_toArray, List.set_cons_zero, List.set_cons_succ, List.getElem_toArray, List.getElem_cons_succ, List.getElem_cons_zero]
    refine' wpAnyH_take (i := 7) (v := _) rfl (by kernel_rfl) (by kernel_rfl) (by kernel_rfl) (fun _ _ _ h => h) (Or.inl ⟨by rfl, ?_⟩) hHeld ?_
    rotate_left
    · (intro w hSw; (try dsimp only at hSw); go_simp; try with_reducible rfl)
    try simp only [Act.put, List.setIfInBounds_toArray, List.set_cons_zero, List.set_cons_succ, List.getElem_toArray, List.getElem_cons_succ, List.getElem_cons_zero]
    refine' wpAnyH_take (i := 8) (v := _) rfl (by kernel_rfl) (by kernel_rfl) (by kernel_rfl) (fun _ _ _ h => h) (Or.inl ⟨by rfl, ?_⟩) hHeld ?_
    rotate_left
    · (intro w hSw; (try dsimp only at hSw); go_simp; try with_reducible rfl)
    try simp only [Act.put, List.setIfInBounds_toArray, List.set_cons_zero, List.set_cons_succ, List.getElem_toArray, List.getElem_cons_succ, List.getElem_cons_zero]
    refine' wpAnyH_take (i := 9) (v := _) rfl (by kernel_rfl) (by kernel_rfl) (by kernel_rfl) (fun _ _ _ h => h) (Or.inl ⟨by rfl, ?_⟩) hHeld ?_
    rotate_left
    · (intro w hSw; (try dsimp only at hSw); go_simp; try with_reducible rfl)
    try simp only [Act.put, List.setIfInBounds_toArray, List.set_cons_zero, List.set_cons_succ, List.getElem_toArray, List.getElem_cons_succ, List.getElem_cons_zero]
    refine' wpAnyH_take (i := 10) (v := _) rfl (by kernel_rfl) (by kernel_rfl) (by kernel_rfl) (fun _ _ _ h => h) (Or.inl ⟨by rfl, ?_⟩) hHeld ?_
    rotate_left
    · (intro w hSw; (try dsimp only at hSw); go_simp; try with_reducible rfl)
    try simp only [Act.put, List.setIfInBounds_toArray, List.set_cons_zero, List.set_cons_succ, List.getElem_toArray, List.getElem_cons_succ, List.getElem_cons_zero]
    refine' wpAnyH_take (i := 11) (v := _) rfl (by kernel_rfl) (by kernel_rfl) (by kernel_rfl) (fun _ _ _ h => h) (Or.inl ⟨by rfl, ?_⟩) hHeld ?_
    rotate_left
    · (intro w hSw; (try dsimp only at hSw); have kp := hSw; have cx := CA.out _ _ kp.y1; have cp := CB.out _ _ kp.y0; go_simp; try with_reducible rfl)
    try simp only [Act.put, List.setIfInBounds_toArray, List.set_cons_zero, List.set_cons_succ, List.getElem_toArray, List.getElem_cons_succ, List.getElem_cons_zero]
    refine' wpAnyH_take (i := 12) (v := _) rfl (by kernel_rfl) (by kernel_rfl) (by kernel_rfl) (fun _ _ _ h => h) (Or.inl ⟨by rfl, ?_⟩) hHeld ?_
    rotate_left
    · (intro w hSw; (try dsimp only at hSw); go_simp; try with_reducible rfl)
    try simp only [Act.put, List.setIfInBounds_toArray, List.set_cons_zero, List.set_cons_succ, List.getElem_toArray, List.getElem_cons_succ, List.getElem_cons_zero]
    refine' wpAnyH_take (i := 13) (v := _) rfl (by kernel_rfl) (by kernel_rfl) (by kernel_rfl) (fun _ _ _ h => h) (Or.inl ⟨by rfl, ?_⟩) hHeld ?_
    rotate_left
    · (intro w hSw; (try dsimp only at hSw); have kp := hSw; have cx := CA.out _ _ kp.y1; have cp := CB.out _ _ kp.y0; go_simp; try with_reducible rfl)
    try simp only [Act.put, List.setIfInBounds_toArray, List.set_cons_zero, List.set_cons_succ, List.getElem_toArray, List.getElem_cons_succ, List.getElem_cons_zero]
    refine' wpAnyH_take (i := 14) (v := _) rfl (by kernel_rfl) (by kernel_rfl) (by kernel_rfl) (fun _ _ _ h => h) (Or.inl ⟨by rfl, ?_⟩) hHeld ?_
    rotate_left
    · (intro w hSw; (try dsimp only at hSw); go_simp; try with_reducible rfl)
    try simp only [Act.put, List.setIfInBounds_toArray, List.set_cons_zero, List.set_cons_succ, List.getElem_toArray, List.getElem_cons_succ, List.getElem_cons_zero]
    refine' wpAnyH_take (i := 15) (v := _) rfl (by kernel_rfl) (by kernel_rfl) (by kernel_rfl) (fun _ _ _ h => h) (Or.inl ⟨by rfl, ?_⟩) hHeld ?_
    rotate_left
    · (intro w hSw; (try dsimp only at hSw); (try simp only [List.getElem_toArray, List.getElem_cons_succ, List.getElem_cons_zero]); refine exec_row (x := .tmp 2) hSw.b1 Try.underlying23 rfl (by kernel_rfl) ?_ ?_ <;> rfl)
    try simp only [Act.put, List.setIfInBounds_toArray, List.set_cons_zero, List.set_cons_succ, List.getElem_toArray, List.getElem_cons_succ, List.getElem_cons_zero]
    refine' wpAnyH_take (i := 16) (v := _) rfl (by kernel_rfl) (by kernel_rfl) (by kernel_rfl) (fun _ _ _ h => h) (Or.inl ⟨by rfl, ?_⟩) hHeld ?_
    rotate_left
    · (intro w hSw; (try dsimp only at hSw); (try simp only [List.getElem_toArray, List.getElem_cons_succ, List.getElem_cons_zero]); refine exec_row (x := .tmp 3) hSw.b0 Try.underlying23 rfl (by kernel_rfl) ?_ ?_ <;> rfl)
    try simp only [Act.put, List.setIfInBounds_toArray, List.set_cons_zero, List.set_cons_succ, List.getElem_toArray, List.getElem_cons_succ, List.getElem_cons_zero]
    refine' wpAnyH_take (i := 17) (v := _) rfl (by kernel_rfl) (by kernel_rfl) (by kernel_rfl) (fun _ _ _ h => h) (Or.inl ⟨by rfl, ?_⟩) hHeld ?_
    rotate_left
    · (intro w hSw; (try dsimp only at hSw); go_simp; try with_reducible rfl)
    try simp only [Act.put, List.setIfInBounds_toArray, List.set_cons_zero, List.set_cons_succ, List.getElem_toArray, List.getElem_cons_succ, List.getElem_cons_zero]
    refine' wpAnyH_take (i := 18) (v := _) rfl (by kernel_rfl) (by kernel_rfl) (by kernel_rfl) (fun _ _ _ h => h) (Or.inl ⟨by rfl, ?_⟩) hHeld ?_
    rotate_left
    · (intro w hSw; (try dsimp only at hSw); go_simp; try with_reducible rfl)
    try simp only [Act.put, List.setIfInBounds_toArray, List.set_cons_zero, List.set_cons_succ, List.getElem_toArray, List.getElem_cons_succ, List.getElem_cons_zero]
    refine' wpAnyH_take (i := 19) (v := _) rfl (by kernel_rfl) (by kernel_rfl) (by kernel_rfl) (fun _ _ _ h => h) (Or.inl ⟨by rfl, ?_⟩) hHeld ?_
    rotate_left
    · (intro w hSw; (try dsimp only at hSw); go_simp; try with_reducible rfl)
    try simp only [Act.put, List.setIfInBounds_toArray, List.set_cons_zero, List.set_cons_succ, List.getElem_toArray, List.getElem_cons_succ, List.getElem_cons_zero]
    refine' wpAnyH_take (i := 20) (v := _) rfl (by kernel_rfl) (by kernel_rfl) (by kernel_rfl) (fun _ _ _ h => h) (Or.inl ⟨by rfl, ?_⟩) hHeld ?_
    rotate_left
    · (intro w hSw; (try dsimp only at hSw); go_simp; try with_reducible rfl)
    try simp only [Act.put, List.setIfInBounds_toArray, List.set_cons_zero, List.set_cons_succ, List.getElem_toArray, List.getElem_cons_succ, List.getElem_cons_zero]
    refine wpAnyH_done (by kernel_rfl) ?_ _
    have kp := hHeld
    have G := hid kp.g; clear kp
    go_wp2_with fail
    go_ret
    exact ⟨rfl, G.out⟩
end Go.Proofs.Ytjmcjkmfpcphnaa.kinds
