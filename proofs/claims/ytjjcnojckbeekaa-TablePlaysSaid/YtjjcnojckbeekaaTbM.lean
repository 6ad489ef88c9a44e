/-
  Contracts: the table's May and Put. The condition: the table lies there.
-/
import Derived.Test.YtjjcnojckbeekaaTbT
import Derived.Test.YtjjcnojckbeekaaHeld
set_option linter.unusedSimpArgs false
set_option linter.unusedVariables false
namespace Go.Proofs.Ytjjcnojckbeekaa
set_option maxRecDepth 100000
open Go.RowKit

/-- what May's walk keeps: the table, the sample's box -/
structure Myk (w : World) (n m f : Int) (L : List Sm) (b mb : Nat) (s : Sm) (W : World) : Prop where
  tb : TbAt n m f L b mb W
  box : W.heap[w.heap.size]? = some (.cells #[.int .i64 s.who, .int .i64 s.met, .int .i64 s.ep, .int .i64 s.val] 29)
  gr : w.grownBy W none
section
variable {w W W' : World} {n m f : Int} {L : List Sm} {b mb : Nat} {s : Sm}
theorem Myk.grown (h : Myk w n m f L b mb s W) (hg : W.grownBy W' none) : Myk w n m f L b mb s W' := ⟨h.tb.grown hg, at_grown h.box hg (by simp), gb_trans h.gr hg (.inl rfl)⟩
theorem Myk.drew (h : Myk w n m f L b mb s W) : Myk w n m f L b mb s W.drew := ⟨h.tb.drew, h.box, gb_drew h.gr⟩
theorem Myk.start (h : TbAt n m f L b mb w) (s : Sm) : Myk w n m f L b mb s (w.alloc (.cells #[.int .i64 s.who, .int .i64 s.met, .int .i64 s.ep, .int .i64 s.val] 29)) := ⟨h.alloc _, at_new w _, World.grownBy_alloc w _ none⟩
theorem Myk.smp (h : Myk w n m f L b mb s W) : W.cell? ⟨w.heap.size, 0, none⟩ = some (.int .i64 s.who) ∧ W.cell? ⟨w.heap.size, 1, none⟩ = some (.int .i64 s.met) ∧ W.cell? ⟨w.heap.size, 2, none⟩ = some (.int .i64 s.ep) ∧ W.cell? ⟨w.heap.size, 3, none⟩ = some (.int .i64 s.val) :=
  ⟨at_cell h.box 0, at_cell h.box 1, at_cell h.box 2, at_cell h.box 3⟩
theorem TbAt.hit2 (h : TbAt n m f L b mb W) (hs : s ∈ L) : (Instr.lookup 46 (.map (some mb)) (.agg #[.int .i64 s.ep, .int .i64 s.met, .int .i64 s.who]) true).run Try.prog W = .ok (.tuple #[.int .i64 s.val, .bool true]) W := h.hit hs true
theorem TbAt.hit1 (h : TbAt n m f L b mb W) (hs : s ∈ L) : (Instr.lookup 46 (.map (some mb)) (.agg #[.int .i64 s.ep, .int .i64 s.met, .int .i64 s.who]) false).run Try.prog W = .ok (.int .i64 s.val) W := h.hit hs false
end
theorem exec_look {P : Program} {ρ : Operand → Value} {o : Oper} {w : World} {t : TypeId} {m x : Operand} {c : Bool} {M X v : Value} (ho : o.op = .lookup t m x c) (hm : ρ m = M) (hx : ρ x = X) (h : (Instr.lookup t M X c).run P w = .ok v w) : (execOp ρ o).run P w = .ok (.value v) w := by
  simp [execOp, ho, hm, hx, h, Result.andThen]
theorem may_arg {n m f : Int} {L : List Sm} {b mb : Nat} {w : World} (h : TbAt n m f L b mb w) (s : Sm) (now : Int) (he : wf64 s.ep) (hn : wf64 now) (h1 : ¬ AdmT n m s) :
    Calls Try.prog 10 #[.pointer (some ⟨b, 0, none⟩), .agg #[.int .i64 s.who, .int .i64 s.met, .int .i64 s.ep, .int .i64 s.val], .int .i64 now] w fun e w' => e = .returned (.int .i64 1) ∧ w.grownBy w' none := by
  have hA := fun W (K : Myk w n m f L b mb s W) => (admits_any K.tb s)
  rw [decide_eq_false h1] at hA
  have HA := hid hA
  clear hA
  have hb := h.lt.1
  have K0 := Myk.start h s
  clear h
  have HK0 := hid K0
  obtain ⟨d0, d1, d2, d3⟩ := K0.smp
  go_enter Try.func10, Try.ntmps10
  go_wp2_with (first | (go_at_call 20; refine (HA.out _ HK0.out).mono ?_; rintro e w1 ⟨rfl, hg1⟩; have HK1 := hid (HK0.out.grown hg1); clear d0 d1 d2 d3; obtain ⟨d0, d1, d2, d3⟩ := HK1.out.smp; clear hg1))
  go_ret
  exact ⟨rfl, HK1.out.gr⟩
theorem may_stale {n m f : Int} {L : List Sm} {b mb : Nat} {w : World} (h : TbAt n m f L b mb w) (s : Sm) (now : Int) (he : wf64 s.ep) (hn : wf64 now) (h1 : AdmT n m s) (h2 : ¬ (now ≤ s.ep ∧ s.ep - now < f)) :
    Calls Try.prog 10 #[.pointer (some ⟨b, 0, none⟩), .agg #[.int .i64 s.who, .int .i64 s.met, .int .i64 s.ep, .int .i64 s.val], .int .i64 now] w fun e w' => e = .returned (.int .i64 7) ∧ w.grownBy w' none := by
  have hA := fun W (K : Myk w n m f L b mb s W) => (admits_any K.tb s)
  rw [decide_eq_true h1] at hA
  have HA := hid hA
  clear hA
  have hF := fun W (K : Myk w n m f L b mb s W) => (fresh_any K.tb s.ep now he hn)
  rw [decide_eq_false h2] at hF
  have HF := hid hF
  clear hF
  have hb := h.lt.1
  have K0 := Myk.start h s
  clear h
  have HK0 := hid K0
  obtain ⟨d0, d1, d2, d3⟩ := K0.smp
  go_enter Try.func10, Try.ntmps10
  go_wp2_with (first | (go_at_call 20; refine (HA.out _ HK0.out).mono ?_; rintro e w1 ⟨rfl, hg1⟩; have HK1 := hid (HK0.out.grown hg1); clear d0 d1 d2 d3; obtain ⟨d0, d1, d2, d3⟩ := HK1.out.smp; clear hg1) | (go_at_call 21; refine (HF.out _ HK1.out).mono ?_; rintro e w2 ⟨rfl, rfl⟩))
  go_ret
  exact ⟨rfl, HK1.out.gr⟩
set_option maxHeartbeats 1000000 in
theorem may_twice {n m f : Int} {L : List Sm} {b mb : Nat} {w : World} (h : TbAt n m f L b mb w) (s : Sm) (now : Int) (he : wf64 s.ep) (hn : wf64 now) (h1 : AdmT n m s) (h2 : now ≤ s.ep ∧ s.ep - now < f) (h3 : There L s.pl) :
    Calls Try.prog 10 #[.pointer (some ⟨b, 0, none⟩), .agg #[.int .i64 s.who, .int .i64 s.met, .int .i64 s.ep, .int .i64 s.val], .int .i64 now] w fun e w' => e = .returned (.int .i64 8) ∧ w.grownBy w' none := by
  obtain ⟨v, hx⟩ : ∃ v, (⟨s.who, s.met, s.ep, v⟩ : Sm) ∈ L := by
    obtain ⟨⟨a, y, e, v⟩, hx, hp⟩ := h3
    simp only [Sm.pl, Prod.mk.injEq] at hp
    obtain ⟨rfl, rfl, rfl⟩ := hp
    exact ⟨v, hx⟩
  have HX := hid hx
  clear hx h3
  have hA := fun W (K : Myk w n m f L b mb s W) => (admits_any K.tb s)
  rw [decide_eq_true h1] at hA
  have HA := hid hA
  clear hA
  have hF := fun W (K : Myk w n m f L b mb s W) => (fresh_any K.tb s.ep now he hn)
  rw [decide_eq_true h2] at hF
  have HF := hid hF
  clear hF
  have hb := h.lt.1
  have K0 := Myk.start h s
  clear h
  have HK0 := hid K0
  obtain ⟨d0, d1, d2, d3⟩ := K0.smp
  go_enter Try.func10, Try.ntmps10
  go_upto_region 5 with (first | (go_at_call 20; refine (HA.out _ HK0.out).mono ?_; rintro e w1 ⟨rfl, hg1⟩; have HK1 := hid (HK0.out.grown hg1); clear d0 d1 d2 d3; obtain ⟨d0, d1, d2, d3⟩ := HK1.out.smp; clear hg1) | (go_at_call 21; refine (HF.out _ HK1.out).mono ?_; rintro e w2 ⟨rfl, rfl⟩))
  refine wp_region_held_drew (S := (fun w' => (Myk w n m f L b mb s w'))) (by kernel_rfl) HK1.out.drew (fun hHeld => ?_)
  try dsimp only at hHeld
  refine' wpAnyH_take (i := 0) (v := _) rfl (by kernel_rfl) (by kernel_rfl) (by kernel_rfl) (fun _ _ _ h => h) (Or.inl ⟨by rfl, ?_⟩) hHeld ?_
  rotate_left
  · (intro w hSw; (try dsimp only at hSw); go_simp; try with_reducible rfl)
  try simp only [Act.put, List.setIfInBounds_toArray, List.set_cons_zero, List.set_cons_succ, List.getElem_toArray, List.getElem_cons_succ, List.getElem_cons_zero]
  refine' wpAnyH_take (i := 1) (v := _) rfl (by kernel_rfl) (by kernel_rfl) (by kernel_rfl) (fun _ _ _ h => h) (Or.inl ⟨by rfl, ?_⟩) hHeld ?_
  rotate_left
  · (intro w hSw; (try dsimp only at hSw); go_simp; try with_reducible rfl)
  try simp only [Act.put, List.setIfInBounds_toArray, List.set_cons_zero, List.set_cons_succ, List.getElem_toArray, List.getElem_cons_succ, List.getElem_cons_zero]
  refine' wpAnyH_take (i := 2) (v := _) rfl (by kernel_rfl) (by kernel_rfl) (by kernel_rfl) (fun _ _ _ h => h) (Or.inl ⟨by rfl, ?_⟩) hHeld ?_
  rotate_left
  · (intro w hSw; (try dsimp only at hSw); go_simp; try with_reducible rfl)
  try simp only [Act.put, List.setIfInBounds_toArray, List.set_cons_zero, List.set_cons_succ, List.getElem_toArray, List.getElem_cons_succ, List.getElem_cons_zero]
  refine' wpAnyH_take (i := 3) (v := _) rfl (by kernel_rfl) (by kernel_rfl) (by kernel_rfl) (fun _ _ _ h => h) (Or.inl ⟨by rfl, ?_⟩) hHeld ?_
  rotate_left
  · (intro w hSw; (try dsimp only at hSw); have K := hSw; obtain ⟨t0, t1, t2, t3⟩ := K.tb.cells; go_simp; try with_reducible rfl)
  try simp only [Act.put, List.setIfInBounds_toArray, List.set_cons_zero, List.set_cons_succ, List.getElem_toArray, List.getElem_cons_succ, List.getElem_cons_zero]
  refine' wpAnyH_take (i := 4) (v := _) rfl (by kernel_rfl) (by kernel_rfl) (by kernel_rfl) (fun _ _ _ h => h) (Or.inl ⟨by rfl, ?_⟩) hHeld ?_
  rotate_left
  · (intro w hSw; (try dsimp only at hSw); have K := hSw; obtain ⟨e0, e1, e2, e3⟩ := K.smp; go_simp; try with_reducible rfl)
  try simp only [Act.put, List.setIfInBounds_toArray, List.set_cons_zero, List.set_cons_succ, List.getElem_toArray, List.getElem_cons_succ, List.getElem_cons_zero]
  refine wpAnyH_ready (rs := [5]) (by kernel_rfl) (by simp) ?_
  refine AllReadyH.cons (o := _) rfl (fun K hK => ?_) AllReadyH.nil
  try simp only [List.getElem_toArray, List.getElem_cons_succ, List.getElem_cons_zero]
  go_simp
  have hH2 := hHeld
  have K := hH2
  refine (place_any s _).mono ?_
  rintro e w1005 ⟨rfl, hg⟩
  have L5 := hid (show (Myk w n m f L b mb s w1005) from K.grown hg)
  clear hHeld hg K
  go_wp2_with fail
  refine hK.out _ _ ?_ (fun hHeld => ?_)
  · exact L5.out
  clear hK K
  try dsimp only at hHeld
  try simp only [Act.put, List.setIfInBounds_toArray, List.set_cons_zero, List.set_cons_succ, List.getElem_toArray, List.getElem_cons_succ, List.getElem_cons_zero]
  refine' wpAnyH_take (i := 6) (v := _) rfl (by kernel_rfl) (by kernel_rfl) (by kernel_rfl) (fun _ _ _ h => h) (Or.inl ⟨by rfl, ?_⟩) hHeld ?_
  rotate_left
  · (intro w hSw; (try dsimp only at hSw); (try simp only [List.getElem_toArray, List.getElem_cons_succ, List.getElem_cons_zero]); refine exec_look (m := .tmp 27) (x := .tmp 29) (v := .tuple #[.int .i64 v, .bool true]) ?_ ?_ ?_ (hSw.tb.hit2 (s := ⟨s.who, s.met, s.ep, v⟩) HX.out) <;> rfl)
  try simp only [Act.put, List.setIfInBounds_toArray, List.set_cons_zero, List.set_cons_succ, List.getElem_toArray, List.getElem_cons_succ, List.getElem_cons_zero]
  refine' wpAnyH_take (i := 7) (v := _) rfl (by kernel_rfl) (by kernel_rfl) (by kernel_rfl) (fun _ _ _ h => h) (Or.inl ⟨by rfl, ?_⟩) hHeld ?_
  rotate_left
  · (intro w hSw; (try dsimp only at hSw); go_simp; try with_reducible rfl)
  try simp only [Act.put, List.setIfInBounds_toArray, List.set_cons_zero, List.set_cons_succ, List.getElem_toArray, List.getElem_cons_succ, List.getElem_cons_zero]
  refine' wpAnyH_take (i := 8) (v := _) rfl (by kernel_rfl) (by kernel_rfl) (by kernel_rfl) (fun _ _ _ h => h) (Or.inl ⟨by rfl, ?_⟩) hHeld ?_
  rotate_left
  · (intro w hSw; (try dsimp only at hSw); go_simp; try with_reducible rfl)
  try simp only [Act.put, List.setIfInBounds_toArray, List.set_cons_zero, List.set_cons_succ, List.getElem_toArray, List.getElem_cons_succ, List.getElem_cons_zero]
  refine' wpAnyH_take (i := 9) (v := _) rfl (by kernel_rfl) (by kernel_rfl) (by kernel_rfl) (fun _ _ _ h => h) (Or.inl ⟨by rfl, ?_⟩) hHeld ?_
  rotate_left
  · (intro w hSw; (try dsimp only at hSw); go_simp; try with_reducible rfl)
  try simp only [Act.put, List.setIfInBounds_toArray, List.set_cons_zero, List.set_cons_succ, List.getElem_toArray, List.getElem_cons_succ, List.getElem_cons_zero]
  refine' wpAnyH_take (i := 10) (v := _) rfl (by kernel_rfl) (by kernel_rfl) (by kernel_rfl) (fun _ _ _ h => h) (Or.inl ⟨by rfl, ?_⟩) hHeld ?_
  rotate_left
  · (intro w hSw; (try dsimp only at hSw); go_simp; try with_reducible rfl)
  try simp only [Act.put, List.setIfInBounds_toArray, List.set_cons_zero, List.set_cons_succ, List.getElem_toArray, List.getElem_cons_succ, List.getElem_cons_zero]
  refine' wpAnyH_take (i := 11) (v := _) rfl (by kernel_rfl) (by kernel_rfl) (by kernel_rfl) (fun _ _ _ h => h) (Or.inl ⟨by rfl, ?_⟩) hHeld ?_
  rotate_left
  · (intro w hSw; (try dsimp only at hSw); go_simp; try with_reducible rfl)
  try simp only [Act.put, List.setIfInBounds_toArray, List.set_cons_zero, List.set_cons_succ, List.getElem_toArray, List.getElem_cons_succ, List.getElem_cons_zero]
  refine wpAnyH_done (by kernel_rfl) ?_ _
  have K := hHeld
  have HK2 := hid K
  clear K
  go_wp2_with fail
  go_ret
  exact ⟨rfl, HK2.out.gr⟩
set_option maxHeartbeats 1000000 in
theorem may_ok {n m f : Int} {L : List Sm} {b mb : Nat} {w : World} (h : TbAt n m f L b mb w) (s : Sm) (now : Int) (he : wf64 s.ep) (hn : wf64 now) (h1 : AdmT n m s) (h2 : now ≤ s.ep ∧ s.ep - now < f) (h3 : ¬ There L s.pl) :
    Calls Try.prog 10 #[.pointer (some ⟨b, 0, none⟩), .agg #[.int .i64 s.who, .int .i64 s.met, .int .i64 s.ep, .int .i64 s.val], .int .i64 now] w fun e w' => e = .returned (.int .i64 0) ∧ w.grownBy w' none := by
  have hx : FitP (s.ep, s.met, s.who) := by
    have h5 := h.nm
    obtain ⟨k1, k2, k3, k4, _⟩ := h1
    refine ⟨he, ?_, ?_⟩
    · show wf64 s.met
      unfold wf64
      omega
    · show wf64 s.who
      unfold wf64
      omega
  have HX := hid hx
  have H3 := hid h3
  clear hx h3
  have hA := fun W (K : Myk w n m f L b mb s W) => (admits_any K.tb s)
  rw [decide_eq_true h1] at hA
  have HA := hid hA
  clear hA
  have hF := fun W (K : Myk w n m f L b mb s W) => (fresh_any K.tb s.ep now he hn)
  rw [decide_eq_true h2] at hF
  have HF := hid hF
  clear hF
  have hb := h.lt.1
  have K0 := Myk.start h s
  clear h
  have HK0 := hid K0
  obtain ⟨d0, d1, d2, d3⟩ := K0.smp
  go_enter Try.func10, Try.ntmps10
  go_upto_region 5 with (first | (go_at_call 20; refine (HA.out _ HK0.out).mono ?_; rintro e w1 ⟨rfl, hg1⟩; have HK1 := hid (HK0.out.grown hg1); clear d0 d1 d2 d3; obtain ⟨d0, d1, d2, d3⟩ := HK1.out.smp; clear hg1) | (go_at_call 21; refine (HF.out _ HK1.out).mono ?_; rintro e w2 ⟨rfl, rfl⟩))
  refine wp_region_held_drew (S := (fun w' => (Myk w n m f L b mb s w'))) (by kernel_rfl) HK1.out.drew (fun hHeld => ?_)
  try dsimp only at hHeld
  refine' wpAnyH_take (i := 0) (v := _) rfl (by kernel_rfl) (by kernel_rfl) (by kernel_rfl) (fun _ _ _ h => h) (Or.inl ⟨by rfl, ?_⟩) hHeld ?_
  rotate_left
  · (intro w hSw; (try dsimp only at hSw); go_simp; try with_reducible rfl)
  try simp only [Act.put, List.setIfInBounds_toArray, List.set_cons_zero, List.set_cons_succ, List.getElem_toArray, List.getElem_cons_succ, List.getElem_cons_zero]
  refine' wpAnyH_take (i := 1) (v := _) rfl (by kernel_rfl) (by kernel_rfl) (by kernel_rfl) (fun _ _ _ h => h) (Or.inl ⟨by rfl, ?_⟩) hHeld ?_
  rotate_left
  · (intro w hSw; (try dsimp only at hSw); go_simp; try with_reducible rfl)
  try simp only [Act.put, List.setIfInBounds_toArray, List.set_cons_zero, List.set_cons_succ, List.getElem_toArray, List.getElem_cons_succ, List.getElem_cons_zero]
  refine' wpAnyH_take (i := 2) (v := _) rfl (by kernel_rfl) (by kernel_rfl) (by kernel_rfl) (fun _ _ _ h => h) (Or.inl ⟨by rfl, ?_⟩) hHeld ?_
  rotate_left
  · (intro w hSw; (try dsimp only at hSw); go_simp; try with_reducible rfl)
  try simp only [Act.put, List.setIfInBounds_toArray, List.set_cons_zero, List.set_cons_succ, List.getElem_toArray, List.getElem_cons_succ, List.getElem_cons_zero]
  refine' wpAnyH_take (i := 3) (v := _) rfl (by kernel_rfl) (by kernel_rfl) (by kernel_rfl) (fun _ _ _ h => h) (Or.inl ⟨by rfl, ?_⟩) hHeld ?_
  rotate_left
  · (intro w hSw; (try dsimp only at hSw); have K := hSw; obtain ⟨t0, t1, t2, t3⟩ := K.tb.cells; go_simp; try with_reducible rfl)
  try simp only [Act.put, List.setIfInBounds_toArray, List.set_cons_zero, List.set_cons_succ, List.getElem_toArray, List.getElem_cons_succ, List.getElem_cons_zero]
  refine' wpAnyH_take (i := 4) (v := _) rfl (by kernel_rfl) (by kernel_rfl) (by kernel_rfl) (fun _ _ _ h => h) (Or.inl ⟨by rfl, ?_⟩) hHeld ?_
  rotate_left
  · (intro w hSw; (try dsimp only at hSw); have K := hSw; obtain ⟨e0, e1, e2, e3⟩ := K.smp; go_simp; try with_reducible rfl)
  try simp only [Act.put, List.setIfInBounds_toArray, List.set_cons_zero, List.set_cons_succ, List.getElem_toArray, List.getElem_cons_succ, List.getElem_cons_zero]
  refine wpAnyH_ready (rs := [5]) (by kernel_rfl) (by simp) ?_
  refine AllReadyH.cons (o := _) rfl (fun K hK => ?_) AllReadyH.nil
  try simp only [List.getElem_toArray, List.getElem_cons_succ, List.getElem_cons_zero]
  go_simp
  have hH2 := hHeld
  have K := hH2
  refine (place_any s _).mono ?_
  rintro e w1005 ⟨rfl, hg⟩
  have L5 := hid (show (Myk w n m f L b mb s w1005) from K.grown hg)
  clear hHeld hg K
  go_wp2_with fail
  refine hK.out _ _ ?_ (fun hHeld => ?_)
  · exact L5.out
  clear hK K
  try dsimp only at hHeld
  try simp only [Act.put, List.setIfInBounds_toArray, List.set_cons_zero, List.set_cons_succ, List.getElem_toArray, List.getElem_cons_succ, List.getElem_cons_zero]
  refine' wpAnyH_take (i := 6) (v := _) rfl (by kernel_rfl) (by kernel_rfl) (by kernel_rfl) (fun _ _ _ h => h) (Or.inl ⟨by rfl, ?_⟩) hHeld ?_
  rotate_left
  · (intro w hSw; (try dsimp only at hSw); (try simp only [List.getElem_toArray, List.getElem_cons_succ, List.getElem_cons_zero]); refine exec_look (m := .tmp 27) (x := .tmp 29) (v := .tuple #[.int .i64 0, .bool false]) ?_ ?_ ?_ (hSw.tb.miss HX.out H3.out) <;> rfl)
  try simp only [Act.put, List.setIfInBounds_toArray, List.set_cons_zero, List.set_cons_succ, List.getElem_toArray, List.getElem_cons_succ, List.getElem_cons_zero]
  refine' wpAnyH_take (i := 7) (v := _) rfl (by kernel_rfl) (by kernel_rfl) (by kernel_rfl) (fun _ _ _ h => h) (Or.inl ⟨by rfl, ?_⟩) hHeld ?_
  rotate_left
  · (intro w hSw; (try dsimp only at hSw); go_simp; try with_reducible rfl)
  try simp only [Act.put, List.setIfInBounds_toArray, List.set_cons_zero, List.set_cons_succ, List.getElem_toArray, List.getElem_cons_succ, List.getElem_cons_zero]
  refine' wpAnyH_take (i := 8) (v := _) rfl (by kernel_rfl) (by kernel_rfl) (by kernel_rfl) (fun _ _ _ h => h) (Or.inl ⟨by rfl, ?_⟩) hHeld ?_
  rotate_left
  · (intro w hSw; (try dsimp only at hSw); go_simp; try with_reducible rfl)
  try simp only [Act.put, List.setIfInBounds_toArray, List.set_cons_zero, List.set_cons_succ, List.getElem_toArray, List.getElem_cons_succ, List.getElem_cons_zero]
  refine' wpAnyH_take (i := 9) (v := _) rfl (by kernel_rfl) (by kernel_rfl) (by kernel_rfl) (fun _ _ _ h => h) (Or.inl ⟨by rfl, ?_⟩) hHeld ?_
  rotate_left
  · (intro w hSw; (try dsimp only at hSw); go_simp; try with_reducible rfl)
  try simp only [Act.put, List.setIfInBounds_toArray, List.set_cons_zero, List.set_cons_succ, List.getElem_toArray, List.getElem_cons_succ, List.getElem_cons_zero]
  refine' wpAnyH_take (i := 10) (v := _) rfl (by kernel_rfl) (by kernel_rfl) (by kernel_rfl) (fun _ _ _ h => h) (Or.inl ⟨by rfl, ?_⟩) hHeld ?_
  rotate_left
  · (intro w hSw; (try dsimp only at hSw); go_simp; try with_reducible rfl)
  try simp only [Act.put, List.setIfInBounds_toArray, List.set_cons_zero, List.set_cons_succ, List.getElem_toArray, List.getElem_cons_succ, List.getElem_cons_zero]
  refine' wpAnyH_take (i := 11) (v := _) rfl (by kernel_rfl) (by kernel_rfl) (by kernel_rfl) (fun _ _ _ h => h) (Or.inl ⟨by rfl, ?_⟩) hHeld ?_
  rotate_left
  · (intro w hSw; (try dsimp only at hSw); go_simp; try with_reducible rfl)
  try simp only [Act.put, List.setIfInBounds_toArray, List.set_cons_zero, List.set_cons_succ, List.getElem_toArray, List.getElem_cons_succ, List.getElem_cons_zero]
  refine wpAnyH_done (by kernel_rfl) ?_ _
  have K := hHeld
  have HK2 := hid K
  clear K
  go_wp2_with fail
  go_ret
  exact ⟨rfl, HK2.out.gr⟩
theorem may_any {n m f : Int} {L : List Sm} {b mb : Nat} {w : World} (h : TbAt n m f L b mb w) (s : Sm) (now : Int) (he : wf64 s.ep) (hn : wf64 now) :
    Calls Try.prog 10 #[.pointer (some ⟨b, 0, none⟩), .agg #[.int .i64 s.who, .int .i64 s.met, .int .i64 s.ep, .int .i64 s.val], .int .i64 now] w fun e w' => e = .returned (.int .i64 (mayT n m f L s now)) ∧ w.grownBy w' none := by
  unfold mayT
  split
  · next h1 => exact may_arg h s now he hn h1
  · next h1 =>
    have h1 := Classical.not_not.1 h1
    split
    · next h2 => exact may_stale h s now he hn h1 h2
    · next h2 =>
      have h2 := Classical.not_not.1 h2
      split
      · next h3 => exact may_twice h s now he hn h1 h2 h3
      · next h3 => exact may_ok h s now he hn h1 h2 h3
theorem TbAt.putS {n m f : Int} {L : List Sm} {b mb : Nat} {w : World} {D : DataW Unit} (h : TbAt n m f L b mb w) {s : Sm} {now : Int} (he : wf64 s.ep) (h0 : mayT n m f L s now = 0) {w' : World} (ob : w'.heap[b]? = some (.cells #[.int .i64 n, .int .i64 m, .int .u64 f, .map (some mb)] 48))
    (hM : MapIs D L) (ho : w'.ownsMap Try.prog 53 (plainElem Try.prog 2) mb (L.length + 1) (D.put (pkL s.pl) (.lit (.int .i64 s.val)))) : TbAt n m f (ins s L) b mb w' := by
  have hf := h.fine.put (m := m) (f := f) (now := now) h.nm.2.1 h.nm.2.2.2.1 (s := s) he
  unfold putT at hf
  rw [if_pos h0] at hf
  have hp : FitP s.pl := hf.fits s (mem_ins.2 (.inl rfl))
  obtain ⟨_, _, hn⟩ := mayT_none h0
  exact ⟨ob, ⟨_, by rw [length_ins]; exact ho, hM.put h.fine.fits hp hn⟩, hf, h.nm⟩
theorem wp_put {n m f : Int} {L : List Sm} {b mb : Nat} {w : World} {o : Oper} {a : Act} {K : Act → World → Prop} {Q : Exit → Act → World → Prop} (x y z : Operand) (hop : o.op = .mapUpdate 46 x y z)
    (h : TbAt n m f L b mb w) (hlen : L.length ≤ 100000) (s : Sm) (now : Int) (he : wf64 s.ep) (h0 : mayT n m f L s now = 0) (ex : a.eval x = .map (some mb)) (ey : a.eval y = .agg #[.int .i64 s.ep, .int .i64 s.met, .int .i64 s.who]) (ez : a.eval z = .int .i64 s.val)
    (k : ∀ w', TbAt n m f (ins s L) b mb w' → Chg [mb] w w' → K (a.put o.dst undef) w') : Oper.wp Try.prog o a w K Q := by
  obtain ⟨D, k1, k2⟩ := h.map
  have hf := h.fine.put (m := m) (f := f) (now := now) h.nm.2.1 h.nm.2.2.2.1 (s := s) he
  unfold putT at hf
  rw [if_pos h0] at hf
  have hp : FitP s.pl := hf.fits s (mem_ins.2 (.inl rfl))
  have hv : wf64 s.val := by have := hf.fit s (mem_ins.2 (.inl rfl)); unfold wf64; omega
  obtain ⟨w', hrun, r1, r2⟩ := k1.update keyed Try.underlying46 (by unfold maxLen; omega) (key := .agg #[.int .i64 s.ep, .int .i64 s.met, .int .i64 s.who]) (val := .int .i64 s.val) (keyOf_pl hp) (plainElem_int Try.underlying2 ((wf64_iff _).2 hv))
  have hc := chg_row r2
  unfold Oper.wp
  simp only [execOp, hop, ex, ey, ez, hrun, Sem.run_bind, Result.andThen_ok, Sem.run_pure]
  exact k w' (h.putS he h0 (hc.at h.obj (by simpa using h.ne)) k2 r1) hc
theorem put_no {n m f : Int} {L : List Sm} {b mb : Nat} {w : World} (h : TbAt n m f L b mb w) (hlen : L.length ≤ 100000) (s : Sm) (now : Int) (he : wf64 s.ep) (hn : wf64 now) (h0 : mayT n m f L s now ≠ 0) :
    Calls Try.prog 12 #[.pointer (some ⟨b, 0, none⟩), .agg #[.int .i64 s.who, .int .i64 s.met, .int .i64 s.ep, .int .i64 s.val], .int .i64 now] w fun e w' => e = .returned (.int .i64 (mayT n m f L s now)) ∧ TbAt n m f (putT n m f L s now) b mb w' ∧ Chg [mb] w w' := by
  have hA := fun W (K : Myk w n m f L b mb s W) => (may_any K.tb s now he hn)
  have hP : putT n m f L s now = L := by unfold putT; rw [if_neg h0]
  rw [hP]
  have HR := hid h0
  generalize mayT n m f L s now = r at hA HR ⊢
  have hr := HR.out
  have HA := hid hA
  clear hA hP
  clear h0
  have hb := h.lt.1
  have K0 := Myk.start h s
  clear h
  have HK0 := hid K0
  obtain ⟨d0, d1, d2, d3⟩ := K0.smp
  go_enter Try.func12, Try.ntmps12
  go_wp2_with (first | (go_at_call 10; refine (HA.out _ HK0.out).mono ?_; rintro e w1 ⟨rfl, hg1⟩; have HK1 := hid (HK0.out.grown hg1); clear d0 d1 d2 d3; obtain ⟨d0, d1, d2, d3⟩ := HK1.out.smp; clear hg1))
  go_ret
  exact ⟨rfl, HK1.out.tb, chg_grown HK1.out.gr _⟩
set_option maxHeartbeats 1000000 in
theorem put_yes {n m f : Int} {L : List Sm} {b mb : Nat} {w : World} (h : TbAt n m f L b mb w) (hlen : L.length ≤ 100000) (s : Sm) (now : Int) (he : wf64 s.ep) (hn : wf64 now) (h0 : mayT n m f L s now = 0) :
    Calls Try.prog 12 #[.pointer (some ⟨b, 0, none⟩), .agg #[.int .i64 s.who, .int .i64 s.met, .int .i64 s.ep, .int .i64 s.val], .int .i64 now] w fun e w' => e = .returned (.int .i64 (mayT n m f L s now)) ∧ TbAt n m f (putT n m f L s now) b mb w' ∧ Chg [mb] w w' := by
  have hA := fun W (K : Myk w n m f L b mb s W) => (may_any K.tb s now he hn)
  have hP : putT n m f L s now = ins s L := by unfold putT; rw [if_pos h0]
  rw [hP]
  have HR := hid h0
  rw [h0] at hA ⊢
  have HA := hid hA
  clear hA hP
  have HLEN := hid hlen
  have hmb := h.lt.2
  clear h0 hlen
  have hb := h.lt.1
  have K0 := Myk.start h s
  clear h
  have HK0 := hid K0
  obtain ⟨d0, d1, d2, d3⟩ := K0.smp
  go_enter Try.func12, Try.ntmps12
  go_upto_region 3 with (first | (go_at_call 10; refine (HA.out _ HK0.out).mono ?_; rintro e w1 ⟨rfl, hg1⟩; have HK1 := hid (HK0.out.grown hg1); clear d0 d1 d2 d3; obtain ⟨d0, d1, d2, d3⟩ := HK1.out.smp; clear hg1))
  refine wp_region_held_drew (S := (fun w' => (w'.heap[b]? = some (.cells #[.int .i64 n, .int .i64 m, .int .u64 f, .map (some mb)] 48)) ∧ (w'.heap[w.heap.size]? = some (.cells #[.int .i64 s.who, .int .i64 s.met, .int .i64 s.ep, .int .i64 s.val] 29)))) (by kernel_rfl) ⟨HK1.out.tb.obj, HK1.out.box⟩ (fun hHeld => ?_)
  try dsimp only at hHeld
  refine' wpAnyH_take (i := 0) (v := _) rfl (by kernel_rfl) (by kernel_rfl) (by kernel_rfl) (fun _ _ _ h => h) (Or.inl ⟨by rfl, ?_⟩) hHeld ?_
  rotate_left
  · (intro w hSw; (try dsimp only at hSw); go_simp; try with_reducible rfl)
  try simp only [Act.put, List.setIfInBounds_toArray, List.set_cons_zero, List.set_cons_succ, List.getElem_toArray, List.getElem_cons_succ, List.getElem_cons_zero]
  refine' wpAnyH_take (i := 1) (v := _) rfl (by kernel_rfl) (by kernel_rfl) (by kernel_rfl) (fun _ _ _ h => h) (Or.inl ⟨by rfl, ?_⟩) hHeld ?_
  rotate_left
  · (intro w hSw; (try dsimp only at hSw); go_simp; try with_reducible rfl)
  try simp only [Act.put, List.setIfInBounds_toArray, List.set_cons_zero, List.set_cons_succ, List.getElem_toArray, List.getElem_cons_succ, List.getElem_cons_zero]
  refine' wpAnyH_take (i := 2) (v := _) rfl (by kernel_rfl) (by kernel_rfl) (by kernel_rfl) (fun _ _ _ h => h) (Or.inl ⟨by rfl, ?_⟩) hHeld ?_
  rotate_left
  · (intro w hSw; (try dsimp only at hSw); go_simp; try with_reducible rfl)
  try simp only [Act.put, List.setIfInBounds_toArray, List.set_cons_zero, List.set_cons_succ, List.getElem_toArray, List.getElem_cons_succ, List.getElem_cons_zero]
  refine' wpAnyH_take (i := 3) (v := _) rfl (by kernel_rfl) (by kernel_rfl) (by kernel_rfl) (fun _ _ _ h => h) (Or.inl ⟨by rfl, ?_⟩) hHeld ?_
  rotate_left
  · (intro w hSw; (try dsimp only at hSw); obtain ⟨ob, bx⟩ := hSw; have t3 := at_cell ob 3; go_simp; try with_reducible rfl)
  try simp only [Act.put, List.setIfInBounds_toArray, List.set_cons_zero, List.set_cons_succ, List.getElem_toArray, List.getElem_cons_succ, List.getElem_cons_zero]
  refine' wpAnyH_take (i := 4) (v := _) rfl (by kernel_rfl) (by kernel_rfl) (by kernel_rfl) (fun _ _ _ h => h) (Or.inl ⟨by rfl, ?_⟩) hHeld ?_
  rotate_left
  · (intro w hSw; (try dsimp only at hSw); obtain ⟨ob, bx⟩ := hSw; have e0 := at_cell bx 0; have e1 := at_cell bx 1; have e2 := at_cell bx 2; have e3 := at_cell bx 3; go_simp; try with_reducible rfl)
  try simp only [Act.put, List.setIfInBounds_toArray, List.set_cons_zero, List.set_cons_succ, List.getElem_toArray, List.getElem_cons_succ, List.getElem_cons_zero]
  refine' wpAnyH_take (i := 6) (v := _) rfl (by kernel_rfl) (by kernel_rfl) (by kernel_rfl) (fun _ _ _ h => h) (Or.inl ⟨by rfl, ?_⟩) hHeld ?_
  rotate_left
  · (intro w hSw; (try dsimp only at hSw); go_simp; try with_reducible rfl)
  try simp only [Act.put, List.setIfInBounds_toArray, List.set_cons_zero, List.set_cons_succ, List.getElem_toArray, List.getElem_cons_succ, List.getElem_cons_zero]
  refine' wpAnyH_take (i := 7) (v := _) rfl (by kernel_rfl) (by kernel_rfl) (by kernel_rfl) (fun _ _ _ h => h) (Or.inl ⟨by rfl, ?_⟩) hHeld ?_
  rotate_left
  · (intro w hSw; (try dsimp only at hSw); obtain ⟨ob, bx⟩ := hSw; have e0 := at_cell bx 0; have e1 := at_cell bx 1; have e2 := at_cell bx 2; have e3 := at_cell bx 3; go_simp; try with_reducible rfl)
  try simp only [Act.put, List.setIfInBounds_toArray, List.set_cons_zero, List.set_cons_succ, List.getElem_toArray, List.getElem_cons_succ, List.getElem_cons_zero]
  refine wpAnyH_ready (rs := [5]) (by kernel_rfl) (by simp) ?_
  refine AllReadyH.cons (o := _) rfl (fun K hK => ?_) AllReadyH.nil
  try simp only [List.getElem_toArray, List.getElem_cons_succ, List.getElem_cons_zero]
  go_simp
  have hH2 := hHeld
  obtain ⟨ob, bx⟩ := hH2
  refine (place_any s _).mono ?_
  rintro e w1005 ⟨rfl, hg⟩
  have T5 := hid (HK1.out.drew.grown hg)
  have L5 := hid (show (w1005.heap[b]? = some (.cells #[.int .i64 n, .int .i64 m, .int .u64 f, .map (some mb)] 48)) ∧ (w1005.heap[w.heap.size]? = some (.cells #[.int .i64 s.who, .int .i64 s.met, .int .i64 s.ep, .int .i64 s.val] 29)) from ⟨at_grown ob hg (by simp), at_grown bx hg (by simp)⟩)
  clear hHeld hg ob bx
  go_wp2_with fail
  refine hK.out _ _ ?_ (fun hHeld => ?_)
  · exact L5.out
  clear hK K
  try dsimp only at hHeld
  try simp only [Act.put, List.setIfInBounds_toArray, List.set_cons_zero, List.set_cons_succ, List.getElem_toArray, List.getElem_cons_succ, List.getElem_cons_zero]
  refine wpAnyH_ready (rs := [8]) (by kernel_rfl) (by simp) ?_
  refine AllReadyH.cons (o := _) rfl (fun K hK => ?_) AllReadyH.nil
  have hH2 := hHeld
  obtain ⟨ob, bx⟩ := hH2
  try simp only [List.getElem_toArray, List.getElem_cons_succ, List.getElem_cons_zero]
  rw [if_pos (by rfl)]
  refine wp_put _ _ _ rfl T5.out.tb HLEN.out s now he HR.out rfl rfl rfl ?_
  intro w8 TB hc8
  have TB8 := hid TB
  have HC8 := hid (T5.out.gr)
  have HC9 := hid hc8
  clear TB
  have L8 := hid (show (w8.heap[b]? = some (.cells #[.int .i64 n, .int .i64 m, .int .u64 f, .map (some mb)] 48)) ∧ (w8.heap[w.heap.size]? = some (.cells #[.int .i64 s.who, .int .i64 s.met, .int .i64 s.ep, .int .i64 s.val] 29)) from ⟨hc8.at ob (by simpa using HK1.out.tb.ne), hc8.at bx (by have := hmb; simp; omega)⟩)
  clear hHeld ob bx
  refine hK.out _ _ ?_ (fun hHeld => ?_)
  · exact L8.out
  clear hK K
  try dsimp only at hHeld
  try simp only [Act.put, List.setIfInBounds_toArray, List.set_cons_zero, List.set_cons_succ, List.getElem_toArray, List.getElem_cons_succ, List.getElem_cons_zero]
  refine wpAnyH_done (by kernel_rfl) ?_ _
  obtain ⟨ob, bx⟩ := hHeld
  go_wp2_with fail
  go_ret
  exact ⟨rfl, TB8.out, (chg_grown HC8.out _).then HC9.out⟩
theorem put_any {n m f : Int} {L : List Sm} {b mb : Nat} {w : World} (h : TbAt n m f L b mb w) (hlen : L.length ≤ 100000) (s : Sm) (now : Int) (he : wf64 s.ep) (hn : wf64 now) :
    Calls Try.prog 12 #[.pointer (some ⟨b, 0, none⟩), .agg #[.int .i64 s.who, .int .i64 s.met, .int .i64 s.ep, .int .i64 s.val], .int .i64 now] w fun e w' => e = .returned (.int .i64 (mayT n m f L s now)) ∧ TbAt n m f (putT n m f L s now) b mb w' ∧ Chg [mb] w w' := by
  by_cases h0 : mayT n m f L s now = 0
  · exact put_yes h hlen s now he hn h0
  · exact put_no h hlen s now he hn h0
end Go.Proofs.Ytjjcnojckbeekaa
