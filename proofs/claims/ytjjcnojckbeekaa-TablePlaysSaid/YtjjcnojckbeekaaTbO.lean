/-
  Contracts: a new table; the samples of an epoch's metric. The condition: the table lies there.
-/
import Derived.Test.YtjjcnojckbeekaaTbM
import Derived.Test.YtjjcnojckbeekaaTbZ
set_option linter.unusedSimpArgs false
set_option linter.unusedVariables false
namespace Go.Proofs.Ytjjcnojckbeekaa
set_option maxRecDepth 100000
open Go.RowKit

def MayNew (n m f : Int) : Prop := 1 ≤ n ∧ n ≤ 16 ∧ 1 ≤ m ∧ m ≤ 4 ∧ 1 ≤ f ∧ f ≤ 8
instance (n m f : Int) : Decidable (MayNew n m f) := by unfold MayNew; infer_instance
theorem new_not (n m f : Int) (h : ¬ MayNew n m f) (w : World) : Calls Try.prog 7 #[.int .i64 n, .int .i64 m, .int .i64 f] w fun e w' => e = .returned (.pointer none) ∧ w' = w := by
  unfold MayNew at h
  by_cases h1 : n < 1
  · go_enter Try.func7, Try.ntmps7; go_wp2; go_ret; exact ⟨by simp, rfl⟩
  · by_cases h2 : 16 < n
    · go_enter Try.func7, Try.ntmps7; go_wp2; go_ret; exact ⟨by simp, rfl⟩
    · by_cases h3 : m < 1
      · go_enter Try.func7, Try.ntmps7; go_wp2; go_ret; exact ⟨by simp, rfl⟩
      · by_cases h4 : 4 < m
        · go_enter Try.func7, Try.ntmps7; go_wp2; go_ret; exact ⟨by simp, rfl⟩
        · by_cases h5 : f < 1
          · go_enter Try.func7, Try.ntmps7; go_wp2; go_ret; exact ⟨by simp, rfl⟩
          · by_cases h6 : 8 < f
            · go_enter Try.func7, Try.ntmps7; go_wp2; go_ret; exact ⟨by simp, rfl⟩
            · exact absurd ⟨by omega, by omega, by omega, by omega, by omega, by omega⟩ h
theorem new_yes (n m f : Int) (h : MayNew n m f) (w : World) : Calls Try.prog 7 #[.int .i64 n, .int .i64 m, .int .i64 f] w fun e w' => e = .returned (.pointer (some ⟨w.heap.size + 1, 0, none⟩)) ∧ TbAt n m f [] (w.heap.size + 1) w.heap.size w' ∧ w.grownBy w' none := by
  have hh := h
  unfold MayNew at h
  have HH := hid hh
  clear hh
  have hmm := @run_makeMap Try.prog
  have hw : IntKind.u64.wrap f = f := by simp only [IntKind.wrap_u64]; omega
  have h1 : ¬ n < 1 := by omega
  have h2 : ¬ 16 < n := by omega
  have h3 : ¬ m < 1 := by omega
  have h4 : ¬ 4 < m := by omega
  have h5 : ¬ f < 1 := by omega
  have h6 : ¬ 8 < f := by omega
  clear h
  go_enter Try.func7, Try.ntmps7
  go_wp2
  go_ret
  refine ⟨by simp, ⟨?_, ⟨.map [], ?_, MapIs.nil⟩, Fine.nil n, HH.out⟩, gb_alloc (gb_alloc (.refl w none) _) _⟩
  · have := at_new (w.alloc (.map #[] 0)) (.cells #[.int .i64 n, .int .i64 m, .int .u64 f, .map (some w.heap.size)] 48)
    rw [World.size_alloc] at this
    exact this
  · exact (World.ownsMap_made w _ _ _).alloc _
/-- what Of's walk keeps in a round -/
structure Ofk (w : World) (n m f : Int) (L : List Sm) (b mb pb : Nat) (q : Pc) (v : Value) (l : List Sm) (W : World) : Prop where
  tb : TbAt n m f L b mb W
  box : W.heap[pb]? = some (.cells #[.int .i64 q.1, .int .i64 q.2.1, .int .i64 q.2.2] 53)
  gr : w.grownBy W none
  own : OwnZ w.heap.size W v l
section
variable {w W W' : World} {n m f : Int} {L l : List Sm} {b mb pb : Nat} {q : Pc} {v : Value}
theorem Ofk.grown (h : Ofk w n m f L b mb pb q v l W) (hg : W.grownBy W' none) : Ofk w n m f L b mb pb q v l W' := ⟨h.tb.grown hg, at_grown h.box hg (by simp), gb_trans h.gr hg (.inl rfl), h.own.grown hg⟩
theorem Ofk.drew (h : Ofk w n m f L b mb pb q v l W) : Ofk w n m f L b mb pb q v l W.drew := ⟨h.tb.drew, h.box, gb_drew h.gr, h.own.drew⟩
theorem Ofk.smp (h : Ofk w n m f L b mb pb q v l W) : W.cell? ⟨pb, 0, none⟩ = some (.int .i64 q.1) ∧ W.cell? ⟨pb, 1, none⟩ = some (.int .i64 q.2.1) ∧ W.cell? ⟨pb, 2, none⟩ = some (.int .i64 q.2.2) := ⟨at_cell h.box 0, at_cell h.box 1, at_cell h.box 2⟩
end
set_option maxHeartbeats 1000000 in
theorem of_any {n m f : Int} {L : List Sm} {b mb : Nat} {w : World} (h : TbAt n m f L b mb w) (hlen : L.length ≤ 100000) (e me : Int) (he : wf64 e) (hme : wf64 me) :
    Calls Try.prog 18 #[.pointer (some ⟨b, 0, none⟩), .int .i64 e, .int .i64 me] w fun x w' => ∃ v, x = .returned v ∧ OwnZ w.heap.size w' v (ofT L e me) ∧ w.grownBy w' none := by
  have HT := hid h
  have HLEN := hid hlen
  have HE := hid (And.intro he hme)
  obtain ⟨c0, c1, c2, c3⟩ := h.cells
  have hnm := h.nm
  obtain ⟨N, hN⟩ : ∃ N : Nat, n = (N : Int) := ⟨n.toNat, by omega⟩
  have HN := hid hN
  rw [hN] at c0
  have HNM := hid hnm
  have hN16 : N ≤ 16 := by omega
  clear h hlen he hme hnm hN
  go_enter Try.func18, Try.ntmps18
  go_wp2
  go_loopw [7, 18] (fun v i wr => ∃ (k : Nat) (v0 : Value), v = v0 ∧ k ≤ N ∧ i = .int .i64 (k : Int) ∧ OwnZ w.heap.size wr v0 (upT L e me k) ∧ w.grownBy wr none)
    (fun _ i _ => N - (intOf i).toNat)
  case atStart =>
    exact ⟨0, _, rfl, Nat.zero_le _, rfl, by rw [upT_zero HT.out.fine]; exact OwnZ.nil _ _, .refl _ _⟩
  case round =>
    obtain ⟨k, v, hv, hk, rfl, hown, hgr⟩ := hrel
    have hv' := hv.symm
    clear hv
    subst hv'
    have HOWN := hid hown
    have HGR := hid hgr
    obtain ⟨t0, t1, t2, t3⟩ := (HT.out.grown hgr).cells
    clear hown hgr
    by_cases hkn : k < N
    · have hkn' : (k : Int) < (N : Int) := by omega
      have hlt : k + 1 ≤ N := hkn
      have HK0 : Hid (Ofk w n m f L b mb wr.heap.size (e, me, (k : Int)) v (upT L e me k) (wr.alloc (.cells #[.int .i64 e, .int .i64 me, .int .i64 (k : Int)] 53))) :=
        ⟨(HT.out.grown HGR.out).alloc _, at_new _ _, gb_alloc HGR.out _, HOWN.out.grown (World.grownBy_alloc _ _ none)⟩
      by_cases hT : There L (e, me, (k : Int))
      · obtain ⟨y, hy⟩ : ∃ y, (⟨k, me, e, y⟩ : Sm) ∈ L := by
          obtain ⟨⟨a, y, e', v'⟩, hx, hp⟩ := hT
          simp only [Sm.pl, Prod.mk.injEq] at hp
          obtain ⟨rfl, rfl, rfl⟩ := hp
          exact ⟨v', hx⟩
        have HY := hid hy
        clear hy hT
        go_upto_region 8 with fail
        refine wp_region_held_drew (S := (fun w' => (Ofk w n m f L b mb wr.heap.size (e, me, (k : Int)) v (upT L e me k) w'))) (by kernel_rfl) HK0.out.drew (fun hHeld => ?_)
        try dsimp only at hHeld
        refine' wpAnyH_take (i := 0) (v := _) rfl (by kernel_rfl) (by kernel_rfl) (by kernel_rfl) (fun _ _ _ h => h) (Or.inl ⟨by rfl, ?_⟩) hHeld ?_
        rotate_left
        · (intro w hSw; (try dsimp only at hSw); go_simp; try with_reducible rfl)
        try simp only [Act.put, List.setIfInBounds_toArray, List.set_cons_zero, List.set_cons_succ, List.getElem_toArray, List.getElem_cons_succ, List.getElem_cons_zero]
        refine' wpAnyH_take (i := 1) (v := _) rfl (by kernel_rfl) (by kernel_rfl) (by kernel_rfl) (fun _ _ _ h => h) (Or.inl ⟨by rfl, ?_⟩) hHeld ?_
        rotate_left
        · (intro w hSw; (try dsimp only at hSw); go_simp; try with_reducible rfl)
        try simp only [Act.put, List.setIfInBounds_toArray, List.set_cons_zero, List.set_cons_succ, List.getElem_toArray, List.getElem_cons_succ, List.getElem_cons_zero]
        refine' wpAnyH_take (i := 2) (v := _) rfl (by kernel_rfl) (by kernel_rfl) (by kernel_rfl) (fun _ _ _ h => h) (Or.inl ⟨by rfl, ?_⟩) hHeld ?_
        rotate_left
        · (intro w hSw; (try dsimp only at hSw); go_simp; try with_reducible rfl)
        try simp only [Act.put, List.setIfInBounds_toArray, List.set_cons_zero, List.set_cons_succ, List.getElem_toArray, List.getElem_cons_succ, List.getElem_cons_zero]
        refine' wpAnyH_take (i := 3) (v := _) rfl (by kernel_rfl) (by kernel_rfl) (by kernel_rfl) (fun _ _ _ h => h) (Or.inl ⟨by rfl, ?_⟩) hHeld ?_
        rotate_left
        · (intro w hSw; (try dsimp only at hSw); have K := hSw; obtain ⟨t0, t1, t2, t3⟩ := K.tb.cells; go_simp; try with_reducible rfl)
        try simp only [Act.put, List.setIfInBounds_toArray, List.set_cons_zero, List.set_cons_succ, List.getElem_toArray, List.getElem_cons_succ, List.getElem_cons_zero]
        refine' wpAnyH_take (i := 4) (v := _) rfl (by kernel_rfl) (by kernel_rfl) (by kernel_rfl) (fun _ _ _ h => h) (Or.inl ⟨by rfl, ?_⟩) hHeld ?_
        rotate_left
        · (intro w hSw; (try dsimp only at hSw); have K := hSw; obtain ⟨e0, e1, e2⟩ := K.smp; go_simp; try with_reducible rfl)
        try simp only [Act.put, List.setIfInBounds_toArray, List.set_cons_zero, List.set_cons_succ, List.getElem_toArray, List.getElem_cons_succ, List.getElem_cons_zero]
        refine' wpAnyH_take (i := 5) (v := _) rfl (by kernel_rfl) (by kernel_rfl) (by kernel_rfl) (fun _ _ _ h => h) (Or.inl ⟨by rfl, ?_⟩) hHeld ?_
        rotate_left
        · (intro w hSw; (try dsimp only at hSw); (try simp only [List.getElem_toArray, List.getElem_cons_succ, List.getElem_cons_zero]); refine exec_look (m := .tmp 29) (x := .tmp 30) (v := .tuple #[.int .i64 y, .bool true]) ?_ ?_ ?_ (hSw.tb.hit2 (s := ⟨k, me, e, y⟩) HY.out) <;> rfl)
        try simp only [Act.put, List.setIfInBounds_toArray, List.set_cons_zero, List.set_cons_succ, List.getElem_toArray, List.getElem_cons_succ, List.getElem_cons_zero]
        refine' wpAnyH_take (i := 6) (v := _) rfl (by kernel_rfl) (by kernel_rfl) (by kernel_rfl) (fun _ _ _ h => h) (Or.inl ⟨by rfl, ?_⟩) hHeld ?_
        rotate_left
        · (intro w hSw; (try dsimp only at hSw); go_simp; try with_reducible rfl)
        try simp only [Act.put, List.setIfInBounds_toArray, List.set_cons_zero, List.set_cons_succ, List.getElem_toArray, List.getElem_cons_succ, List.getElem_cons_zero]
        refine' wpAnyH_take (i := 7) (v := _) rfl (by kernel_rfl) (by kernel_rfl) (by kernel_rfl) (fun _ _ _ h => h) (Or.inl ⟨by rfl, ?_⟩) hHeld ?_
        rotate_left
        · (intro w hSw; (try dsimp only at hSw); go_simp; try with_reducible rfl)
        try simp only [Act.put, List.setIfInBounds_toArray, List.set_cons_zero, List.set_cons_succ, List.getElem_toArray, List.getElem_cons_succ, List.getElem_cons_zero]
        refine' wpAnyH_take (i := 8) (v := _) rfl (by kernel_rfl) (by kernel_rfl) (by kernel_rfl) (fun _ _ _ h => h) (Or.inl ⟨by rfl, ?_⟩) hHeld ?_
        rotate_left
        · (intro w hSw; (try dsimp only at hSw); go_simp; try with_reducible rfl)
        try simp only [Act.put, List.setIfInBounds_toArray, List.set_cons_zero, List.set_cons_succ, List.getElem_toArray, List.getElem_cons_succ, List.getElem_cons_zero]
        refine' wpAnyH_take (i := 9) (v := _) rfl (by kernel_rfl) (by kernel_rfl) (by kernel_rfl) (fun _ _ _ h => h) (Or.inl ⟨by rfl, ?_⟩) hHeld ?_
        rotate_left
        · (intro w hSw; (try dsimp only at hSw); go_simp; try with_reducible rfl)
        try simp only [Act.put, List.setIfInBounds_toArray, List.set_cons_zero, List.set_cons_succ, List.getElem_toArray, List.getElem_cons_succ, List.getElem_cons_zero]
        refine' wpAnyH_take (i := 10) (v := _) rfl (by kernel_rfl) (by kernel_rfl) (by kernel_rfl) (fun _ _ _ h => h) (Or.inl ⟨by rfl, ?_⟩) hHeld ?_
        rotate_left
        · (intro w hSw; (try dsimp only at hSw); go_simp; try with_reducible rfl)
        try simp only [Act.put, List.setIfInBounds_toArray, List.set_cons_zero, List.set_cons_succ, List.getElem_toArray, List.getElem_cons_succ, List.getElem_cons_zero]
        refine wpAnyH_done (by kernel_rfl) ?_ _
        have K := hHeld
        obtain ⟨e0, e1, e2⟩ := K.smp
        have HK1 := hid K
        clear K
        generalize hW1 : (wr.alloc (.cells #[.int .i64 e, .int .i64 me, .int .i64 (k : Int)] 53)).drew = W1 at *
        clear hW1
        go_wp2_with (first
          | (go_at_call 31; refine (sample_any e me (k : Int) y _).mono ?_; rintro e w2 ⟨rfl, hg2⟩; have HK2 := hid ((HK1.out.grown hg2).grown (World.grownBy_alloc w2 (.cells #[.int .i64 (k : Int), .int .i64 me, .int .i64 e, .int .i64 y] 29) none)); clear hg2)
          | (refine append_smp rfl _ _ rfl w.heap.size _ _ rfl HK2.out.own _ [⟨k, me, e, y⟩] rfl (smp_new _ ⟨k, me, e, y⟩) (by have := HLEN.out; have h2 : (upT L e me k).length ≤ L.length := List.length_filter_le _ _; simp only [List.length_cons, List.length_nil]; omega) HK2.out.gr.size ?_; intro v' w3 hown3 hg3 hat3; have HO3 := hid hown3; have HG3 := hid (gb_ownZ HK2.out.gr HK2.out.own (Nat.le_refl _) hg3); obtain ⟨p3, c3', rfl⟩ := hown3.form; clear hown3 hg3 hat3))
        go_roundw
        case rel => exact ⟨k + 1, _, rfl, hlt, by go_num, by rw [upT_hit HT.out.fine HY.out]; have h := HO3.out; simp only [List.length_append, List.length_cons, List.length_nil, Nat.zero_add] at h; exact h, HG3.out⟩
        case measure => simp [intOf]; omega
      · have HNT := hid hT
        clear hT
        have hfit : FitP (e, me, (k : Int)) := by
          refine ⟨HE.out.1, HE.out.2, ?_⟩
          show wf64 (k : Int)
          unfold wf64
          omega
        have HF := hid hfit
        clear hfit
        go_upto_region 8 with fail
        refine wp_region_held_drew (S := (fun w' => (Ofk w n m f L b mb wr.heap.size (e, me, (k : Int)) v (upT L e me k) w'))) (by kernel_rfl) HK0.out.drew (fun hHeld => ?_)
        try dsimp only at hHeld
        refine' wpAnyH_take (i := 0) (v := _) rfl (by kernel_rfl) (by kernel_rfl) (by kernel_rfl) (fun _ _ _ h => h) (Or.inl ⟨by rfl, ?_⟩) hHeld ?_
        rotate_left
        · (intro w hSw; (try dsimp only at hSw); go_simp; try with_reducible rfl)
        try simp only [Act.put, List.setIfInBounds_toArray, List.set_cons_zero, List.set_cons_succ, List.getElem_toArray, List.getElem_cons_succ, List.getElem_cons_zero]
        refine' wpAnyH_take (i := 1) (v := _) rfl (by kernel_rfl) (by kernel_rfl) (by kernel_rfl) (fun _ _ _ h => h) (Or.inl ⟨by rfl, ?_⟩) hHeld ?_
        rotate_left
        · (intro w hSw; (try dsimp only at hSw); go_simp; try with_reducible rfl)
        try simp only [Act.put, List.setIfInBounds_toArray, List.set_cons_zero, List.set_cons_succ, List.getElem_toArray, List.getElem_cons_succ, List.getElem_cons_zero]
        refine' wpAnyH_take (i := 2) (v := _) rfl (by kernel_rfl) (by kernel_rfl) (by kernel_rfl) (fun _ _ _ h => h) (Or.inl ⟨by rfl, ?_⟩) hHeld ?_
        rotate_left
        · (intro w hSw; (try dsimp only at hSw); go_simp; try with_reducible rfl)
        try simp only [Act.put, List.setIfInBounds_toArray, List.set_cons_zero, List.set_cons_succ, List.getElem_toArray, List.getElem_cons_succ, List.getElem_cons_zero]
        refine' wpAnyH_take (i := 3) (v := _) rfl (by kernel_rfl) (by kernel_rfl) (by kernel_rfl) (fun _ _ _ h => h) (Or.inl ⟨by rfl, ?_⟩) hHeld ?_
        rotate_left
        · (intro w hSw; (try dsimp only at hSw); have K := hSw; obtain ⟨t0, t1, t2, t3⟩ := K.tb.cells; go_simp; try with_reducible rfl)
        try simp only [Act.put, List.setIfInBounds_toArray, List.set_cons_zero, List.set_cons_succ, List.getElem_toArray, List.getElem_cons_succ, List.getElem_cons_zero]
        refine' wpAnyH_take (i := 4) (v := _) rfl (by kernel_rfl) (by kernel_rfl) (by kernel_rfl) (fun _ _ _ h => h) (Or.inl ⟨by rfl, ?_⟩) hHeld ?_
        rotate_left
        · (intro w hSw; (try dsimp only at hSw); have K := hSw; obtain ⟨e0, e1, e2⟩ := K.smp; go_simp; try with_reducible rfl)
        try simp only [Act.put, List.setIfInBounds_toArray, List.set_cons_zero, List.set_cons_succ, List.getElem_toArray, List.getElem_cons_succ, List.getElem_cons_zero]
        refine' wpAnyH_take (i := 5) (v := _) rfl (by kernel_rfl) (by kernel_rfl) (by kernel_rfl) (fun _ _ _ h => h) (Or.inl ⟨by rfl, ?_⟩) hHeld ?_
        rotate_left
        · (intro w hSw; (try dsimp only at hSw); (try simp only [List.getElem_toArray, List.getElem_cons_succ, List.getElem_cons_zero]); refine exec_look (m := .tmp 29) (x := .tmp 30) (v := .tuple #[.int .i64 0, .bool false]) ?_ ?_ ?_ (hSw.tb.miss HF.out HNT.out) <;> rfl)
        try simp only [Act.put, List.setIfInBounds_toArray, List.set_cons_zero, List.set_cons_succ, List.getElem_toArray, List.getElem_cons_succ, List.getElem_cons_zero]
        refine' wpAnyH_take (i := 6) (v := _) rfl (by kernel_rfl) (by kernel_rfl) (by kernel_rfl) (fun _ _ _ h => h) (Or.inl ⟨by rfl, ?_⟩) hHeld ?_
        rotate_left
        · (intro w hSw; (try dsimp only at hSw); go_simp; try with_reducible rfl)
        try simp only [Act.put, List.setIfInBounds_toArray, List.set_cons_zero, List.set_cons_succ, List.getElem_toArray, List.getElem_cons_succ, List.getElem_cons_zero]
        refine' wpAnyH_take (i := 7) (v := _) rfl (by kernel_rfl) (by kernel_rfl) (by kernel_rfl) (fun _ _ _ h => h) (Or.inl ⟨by rfl, ?_⟩) hHeld ?_
        rotate_left
        · (intro w hSw; (try dsimp only at hSw); go_simp; try with_reducible rfl)
        try simp only [Act.put, List.setIfInBounds_toArray, List.set_cons_zero, List.set_cons_succ, List.getElem_toArray, List.getElem_cons_succ, List.getElem_cons_zero]
        refine' wpAnyH_take (i := 8) (v := _) rfl (by kernel_rfl) (by kernel_rfl) (by kernel_rfl) (fun _ _ _ h => h) (Or.inl ⟨by rfl, ?_⟩) hHeld ?_
        rotate_left
        · (intro w hSw; (try dsimp only at hSw); go_simp; try with_reducible rfl)
        try simp only [Act.put, List.setIfInBounds_toArray, List.set_cons_zero, List.set_cons_succ, List.getElem_toArray, List.getElem_cons_succ, List.getElem_cons_zero]
        refine' wpAnyH_take (i := 9) (v := _) rfl (by kernel_rfl) (by kernel_rfl) (by kernel_rfl) (fun _ _ _ h => h) (Or.inl ⟨by rfl, ?_⟩) hHeld ?_
        rotate_left
        · (intro w hSw; (try dsimp only at hSw); go_simp; try with_reducible rfl)
        try simp only [Act.put, List.setIfInBounds_toArray, List.set_cons_zero, List.set_cons_succ, List.getElem_toArray, List.getElem_cons_succ, List.getElem_cons_zero]
        refine' wpAnyH_take (i := 10) (v := _) rfl (by kernel_rfl) (by kernel_rfl) (by kernel_rfl) (fun _ _ _ h => h) (Or.inl ⟨by rfl, ?_⟩) hHeld ?_
        rotate_left
        · (intro w hSw; (try dsimp only at hSw); go_simp; try with_reducible rfl)
        try simp only [Act.put, List.setIfInBounds_toArray, List.set_cons_zero, List.set_cons_succ, List.getElem_toArray, List.getElem_cons_succ, List.getElem_cons_zero]
        refine wpAnyH_done (by kernel_rfl) ?_ _
        have K := hHeld
        have HK1 := hid K
        clear K
        obtain ⟨p3, c3', rfl⟩ := HOWN.out.form
        go_wp2_with fail
        go_roundw
        case rel => exact ⟨k + 1, _, rfl, hlt, by go_num, by rw [upT_miss HT.out.fine e me HNT.out]; exact HK1.out.own, HK1.out.gr⟩
        case measure => simp [intOf]; omega
    · obtain rfl : k = N := by omega
      go_wp2_with fail
      go_ret
      exact ⟨v, rfl, by rw [← upT_all HT.out.fine e me (Int.le_of_eq HN.out)]; exact HOWN.out, HGR.out⟩
end Go.Proofs.Ytjjcnojckbeekaa
