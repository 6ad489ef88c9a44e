/-
  Contract: the document's own Sort: the numbers, rising. The condition: a slice that reads as numbers, of a modest length.
-/
import Derived.Test.YtopeceicmpblkaaBag
import Derived.Test.YtopeceicmpblkaaSame
set_option linter.unusedSimpArgs false
set_option linter.unusedVariables false
namespace Go.Proofs.Ytopeceicmpblkaa
set_option maxRecDepth 100000
open Go.RowKit

set_option maxHeartbeats 6400000 in
theorem rsort_any (v : Value) (l : List Int) (w : World) (h : IntsAt w v l) (h1 : l.length ≤ 400000) :
    Calls Try.prog 21 #[v] w (Gives w (ms l)) := by
  have HI := hid h
  obtain ⟨p, c, rfl⟩ := h.form
  obtain ⟨n, hn⟩ : ∃ n, l.length = n := ⟨_, rfl⟩
  have HN := hid hn
  rw [hn] at HI h1 ⊢
  have HK := hid h1
  clear h hn
  have HZ := hid (show OwnI w.heap.size w (.slice none 0 0) (ms (l.take 0)) from by rw [List.take_zero, ms_nil]; exact OwnI.nil _ _)
  go_enter Try.func21, Try.ntmps21
  go_wp2_with fail
  go_loopw [3, 4, 5] (fun u i _ wr => ∃ k : Nat, k ≤ n ∧ i = .int .i64 (k : Int) ∧ OwnI w.heap.size wr u (ms (l.take k)) ∧ w.grownBy wr none) (fun _ i _ _ => n - (intOf i).toNat)
  case atStart => exact ⟨0, Nat.zero_le _, rfl, HZ.out, .refl w none⟩
  case round =>
    obtain ⟨k, hk, rfl, ho, hgr⟩ := hrel
    obtain ⟨wo, hwo⟩ : ∃ wo, wo = wr := ⟨_, rfl⟩
    subst hwo
    have HO := hid ho; have HG := hid hgr
    obtain ⟨pm, cm, rfl⟩ := ho.form
    clear ho hgr HZ
    obtain ⟨m, hm⟩ : ∃ m, ms (l.take k) = m := ⟨_, rfl⟩
    have hml : m.length = k := by rw [← hm, ms_len, List.length_take, HN.out]; omega
    rw [hm, hml] at HO
    rw [hm, hml]
    have HM := hid hml
    by_cases hlt : k < n
    · have hkl : k < l.length := by rw [HN.out]; exact hlt
      obtain ⟨ab, ao, rfl, -, hcc, hcell⟩ := (HI.out.grown HG.out).cell hkl
      have hx := List.getElem?_eq_getElem hkl
      have hins : ∀ j, j ≤ k → (∀ i, (h : i < m.length) → i < j → m[i] ≤ l[k]) → (∀ i, (h : i < m.length) → j ≤ i → l[k] ≤ m[i]) → m.take j ++ [l[k]] ++ m.drop j = ms (l.take (k + 1)) := by
        intro j hj a1 a2
        rw [List.take_succ_eq_append_getElem hkl]
        subst hm
        exact ms_insert _ _ j (by rw [List.length_take]; omega) a1 a2
      have hsrt : ∀ i j, (hij : i ≤ j) → (hj : j < m.length) → m[i]'(by omega) ≤ m[j] := by
        intro i j hij hj
        subst hm
        exact ms_le hij hj
      generalize l[k] = x at *
      have HX := hid hx; have HINS0 := hid hins; have HSRT := hid hsrt
      clear hx hins hsrt hm hml
      cases pm with
      | none =>
        have hz : k = 0 ∧ cm = 0 := by
          rcases HO.out.2 with ⟨e, _⟩ | ⟨g, cap, cur, e, _⟩
          · cases e; exact ⟨rfl, rfl⟩
          · cases e
        obtain ⟨hk0, rfl⟩ := hz
        obtain rfl : m = [] := List.length_eq_zero_iff.1 (by rw [HM.out, hk0])
        subst hk0
        go_wp2_with fail
        go_loopw [5] (fun s wr => s = .int .i64 0 ∧ wo.grownBy wr none) (fun s _ => 0)
        case atStart => exact ⟨rfl, .refl wo none⟩
        case round =>
          obtain ⟨rfl, hgi⟩ := hrel
          have HGI := hid hgi
          clear hgi
          have HINS := hid (HINS0.out 0 (Nat.zero_le _) (fun i h _ => absurd h (Nat.not_lt_zero i)) (fun i h _ => absurd h (Nat.not_lt_zero i)))
          have HJ := hid (show 0 ≤ 0 from Nat.le_refl _)
          have TG := hid (Bag.start (L := [(.slice (some ⟨ab, ao, none⟩) n c, l), (.slice none 0 0, []), (.slice none 0 0, [])]) (gb_trans HG.out HGI.out (.inl rfl)) (by
            intro p hp
            simp only [List.mem_cons, List.not_mem_nil, or_false] at hp
            rcases hp with rfl | rfl | rfl
            · exact HI.out.grown (gb_trans HG.out HGI.out (.inl rfl))
            · exact (HO.out.ints).grown HGI.out
            · exact .nil _))
          have hca := TG.out.hd.at HX.out
          go_wp2_with fail
          go_quiet (fail)
          replace TG := hid (TG.out.grown (gb_drewM _ nq))
          clear hca
          generalize World.drewN _ nq = wi at *
          clear HGI
          go_wp2_with fail
          replace TG := hid TG.out.drew
          refine wp_region_held_drew (S := (fun w' => (w'.cell? ⟨ab, ao, none⟩ = some (.int .i64 x)))) (by kernel_rfl) (TG.out.hd.at HX.out) (fun hHeld => ?_)
          try dsimp only at hHeld
          refine' wpAnyH_take (i := 1) (v := _) rfl (by kernel_rfl) (by kernel_rfl) (by kernel_rfl) (fun _ _ _ h => h) (Or.inl ⟨by rfl, ?_⟩) hHeld ?_
          rotate_left
          · (intro w hSw; (try dsimp only at hSw); go_simp; try with_reducible rfl)
          try simp only [Act.put, List.setIfInBounds_toArray, List.set_cons_zero, List.set_cons_succ, List.getElem_toArray, List.getElem_cons_succ, List.getElem_cons_zero]
          refine' wpAnyH_take (i := 2) (v := _) rfl (by kernel_rfl) (by kernel_rfl) (by kernel_rfl) (fun _ _ _ h => h) (Or.inl ⟨by rfl, ?_⟩) hHeld ?_
          rotate_left
          · (intro w hSw; (try dsimp only at hSw); go_simp; try with_reducible rfl)
          try simp only [Act.put, List.setIfInBounds_toArray, List.set_cons_zero, List.set_cons_succ, List.getElem_toArray, List.getElem_cons_succ, List.getElem_cons_zero]
          refine' wpAnyH_take (i := 3) (v := _) rfl (by kernel_rfl) (by kernel_rfl) (by kernel_rfl) (fun _ _ _ h => h) (Or.inl ⟨by rfl, ?_⟩) hHeld ?_
          rotate_left
          · (intro w hSw; (try dsimp only at hSw); go_simp; try with_reducible rfl)
          try simp only [Act.put, List.setIfInBounds_toArray, List.set_cons_zero, List.set_cons_succ, List.getElem_toArray, List.getElem_cons_succ, List.getElem_cons_zero]
          refine' wpAnyH_take (i := 5) (v := _) rfl (by kernel_rfl) (by kernel_rfl) (by kernel_rfl) (fun _ _ _ h => h) (Or.inl ⟨by rfl, ?_⟩) hHeld ?_
          rotate_left
          · (intro w hSw; (try dsimp only at hSw); go_simp; try with_reducible rfl)
          try simp only [Act.put, List.setIfInBounds_toArray, List.set_cons_zero, List.set_cons_succ, List.getElem_toArray, List.getElem_cons_succ, List.getElem_cons_zero]
          refine' wpAnyH_take (i := 6) (v := _) rfl (by kernel_rfl) (by kernel_rfl) (by kernel_rfl) (fun _ _ _ h => h) (Or.inl ⟨by rfl, ?_⟩) hHeld ?_
          rotate_left
          · (intro w hSw; (try dsimp only at hSw); go_simp; try with_reducible rfl)
          try simp only [Act.put, List.setIfInBounds_toArray, List.set_cons_zero, List.set_cons_succ, List.getElem_toArray, List.getElem_cons_succ, List.getElem_cons_zero]
          refine' wpAnyH_take (i := 7) (v := _) rfl (by kernel_rfl) (by kernel_rfl) (by kernel_rfl) (fun _ _ _ h => h) (Or.inl ⟨by rfl, ?_⟩) hHeld ?_
          rotate_left
          · (intro w hSw; (try dsimp only at hSw); go_simp; try with_reducible rfl)
          try simp only [Act.put, List.setIfInBounds_toArray, List.set_cons_zero, List.set_cons_succ, List.getElem_toArray, List.getElem_cons_succ, List.getElem_cons_zero]
          refine' wpAnyH_take (i := 8) (v := _) rfl (by kernel_rfl) (by kernel_rfl) (by kernel_rfl) (fun _ _ _ h => h) (Or.inl ⟨by rfl, ?_⟩) hHeld ?_
          rotate_left
          · (intro w hSw; (try dsimp only at hSw); go_simp; try with_reducible rfl)
          try simp only [Act.put, List.setIfInBounds_toArray, List.set_cons_zero, List.set_cons_succ, List.getElem_toArray, List.getElem_cons_succ, List.getElem_cons_zero]
          refine' wpAnyH_take (i := 11) (v := _) rfl (by kernel_rfl) (by kernel_rfl) (by kernel_rfl) (fun _ _ _ h => h) (Or.inl ⟨by rfl, ?_⟩) hHeld ?_
          rotate_left
          · (intro w hSw; (try dsimp only at hSw); go_simp; try with_reducible rfl)
          try simp only [Act.put, List.setIfInBounds_toArray, List.set_cons_zero, List.set_cons_succ, List.getElem_toArray, List.getElem_cons_succ, List.getElem_cons_zero]
          refine' wpAnyH_take (i := 12) (v := _) rfl (by kernel_rfl) (by kernel_rfl) (by kernel_rfl) (fun _ _ _ h => h) (Or.inl ⟨by rfl, ?_⟩) hHeld ?_
          rotate_left
          · (intro w hSw; (try dsimp only at hSw); go_simp; try with_reducible rfl)
          try simp only [Act.put, List.setIfInBounds_toArray, List.set_cons_zero, List.set_cons_succ, List.getElem_toArray, List.getElem_cons_succ, List.getElem_cons_zero]
          refine' wpAnyH_take (i := 13) (v := _) rfl (by kernel_rfl) (by kernel_rfl) (by kernel_rfl) (fun _ _ _ h => h) (Or.inl ⟨by rfl, ?_⟩) hHeld ?_
          rotate_left
          · (intro w hSw; (try dsimp only at hSw); go_simp; try with_reducible rfl)
          try simp only [Act.put, List.setIfInBounds_toArray, List.set_cons_zero, List.set_cons_succ, List.getElem_toArray, List.getElem_cons_succ, List.getElem_cons_zero]
          refine wpAnyH_ready (rs := [0, 9]) (by kernel_rfl) (by simp) ?_
          refine AllReadyH.cons (o := _) rfl (fun K hK => ?_) (AllReadyH.cons (o := _) rfl (fun K hK => ?_) AllReadyH.nil)
          · have hH2 := hHeld
            have ca := hH2
            have hg : (wi.drew).grownBy ((wi.drew).alloc (.cells #[] 2)) none := World.grownBy_alloc _ _ _
            replace TG := hid TG.out.fresh
            try rw [size_alloc'] at TG
            have L0 := hid (show (((wi.drew).alloc (.cells #[] 2)).cell? ⟨ab, ao, none⟩ = some (.int .i64 x)) from hg.cell ca (by simp))
            clear hHeld hg ca
            try simp only [List.getElem_toArray, List.getElem_cons_succ, List.getElem_cons_zero]
            go_simp
            refine hK.out _ _ ?_ (fun hHeld => ?_)
            · exact L0.out
            clear hK K
            try dsimp only at hHeld
            try simp only [Act.put, List.setIfInBounds_toArray, List.set_cons_zero, List.set_cons_succ, List.getElem_toArray, List.getElem_cons_succ, List.getElem_cons_zero]
            refine wpAnyH_ready (rs := [4, 9]) (by kernel_rfl) (by simp) ?_
            refine AllReadyH.cons (o := _) rfl (fun K hK => ?_) (AllReadyH.cons (o := _) rfl (fun K hK => ?_) AllReadyH.nil)
            · have hH2 := hHeld
              have ca := hH2
              try simp only [List.getElem_toArray, List.getElem_cons_succ, List.getElem_cons_zero]
              rw [if_pos (by rfl)]
              refine wp_append_ints _ _ rfl w.heap.size _ _ rfl TG.out.own _ _ rfl (IntsAt.nil _) (by have := HK.out; have := HM.out; simp only [List.length_append, List.length_cons, List.length_nil, List.length_take, List.length_drop]; omega) TG.out.gr.size ?_
              intro v1 w71 hown hgrow hat
              replace TG := hid (TG.out.app hown hgrow hat)
              clear hown hgrow hat
              have L4 := hid (show (w71.cell? ⟨ab, ao, none⟩ = some (.int .i64 x)) from TG.out.hd.at HX.out)
              clear hHeld ca
              refine hK.out _ _ ?_ (fun hHeld => ?_)
              · exact L4.out
              clear hK K
              try dsimp only at hHeld
              try simp only [Act.put, List.setIfInBounds_toArray, List.set_cons_zero, List.set_cons_succ, List.getElem_toArray, List.getElem_cons_succ, List.getElem_cons_zero]
              refine wpAnyH_ready (rs := [9]) (by kernel_rfl) (by simp) ?_
              refine AllReadyH.cons (o := _) rfl (fun K hK => ?_) AllReadyH.nil
              have hH2 := hHeld
              have ca := hH2
              have hg : w71.grownBy (w71.alloc (.cells #[.int .i64 x] 2)) none := World.grownBy_alloc _ _ _
              replace TG := hid (TG.out.one x)
              try rw [size_alloc'] at TG
              have L9 := hid (show ((w71.alloc (.cells #[.int .i64 x] 2)).cell? ⟨ab, ao, none⟩ = some (.int .i64 x)) from hg.cell ca (by simp))
              clear hHeld hg ca
              try simp only [List.getElem_toArray, List.getElem_cons_succ, List.getElem_cons_zero]
              go_simp
              refine hK.out _ _ ?_ (fun hHeld => ?_)
              · exact L9.out
              clear hK K
              try dsimp only at hHeld
              try simp only [Act.put, List.setIfInBounds_toArray, List.set_cons_zero, List.set_cons_succ, List.getElem_toArray, List.getElem_cons_succ, List.getElem_cons_zero]
              refine wpAnyH_ready (rs := [10]) (by kernel_rfl) (by simp) ?_
              refine AllReadyH.cons (o := _) rfl (fun K hK => ?_) AllReadyH.nil
              have hH2 := hHeld
              have ca := hH2
              try simp only [List.getElem_toArray, List.getElem_cons_succ, List.getElem_cons_zero]
              rw [if_pos (by rfl)]
              refine wp_append_ints _ _ rfl w.heap.size _ _ rfl TG.out.own _ _ rfl TG.out.tl.tl.hd.1 (by have := HK.out; have := HM.out; simp only [List.length_append, List.length_cons, List.length_nil, List.length_take, List.length_drop]; omega) TG.out.gr.size ?_
              intro v2 w72 hown hgrow hat
              replace TG := hid (TG.out.app hown hgrow hat)
              clear hown hgrow hat
              have L10 := hid (show (w72.cell? ⟨ab, ao, none⟩ = some (.int .i64 x)) from TG.out.hd.at HX.out)
              clear hHeld ca
              refine hK.out _ _ ?_ (fun hHeld => ?_)
              · exact L10.out
              clear hK K
              try dsimp only at hHeld
              try simp only [Act.put, List.setIfInBounds_toArray, List.set_cons_zero, List.set_cons_succ, List.getElem_toArray, List.getElem_cons_succ, List.getElem_cons_zero]
              refine wpAnyH_ready (rs := [14]) (by kernel_rfl) (by simp) ?_
              refine AllReadyH.cons (o := _) rfl (fun K hK => ?_) AllReadyH.nil
              have hH2 := hHeld
              have ca := hH2
              try simp only [List.getElem_toArray, List.getElem_cons_succ, List.getElem_cons_zero]
              rw [if_pos (by rfl)]
              refine wp_append_ints _ _ rfl w.heap.size _ _ rfl TG.out.own _ _ rfl (IntsAt.nil _) (by have := HK.out; have := HM.out; simp only [List.length_append, List.length_cons, List.length_nil, List.length_take, List.length_drop]; omega) TG.out.gr.size ?_
              intro v3 w73 hown hgrow hat
              replace TG := hid (TG.out.app hown hgrow hat)
              clear hown hgrow hat
              have L14 := hid (show (w73.cell? ⟨ab, ao, none⟩ = some (.int .i64 x)) from TG.out.hd.at HX.out)
              clear hHeld ca
              refine hK.out _ _ ?_ (fun hHeld => ?_)
              · exact L14.out
              clear hK K
              try dsimp only at hHeld
              try simp only [Act.put, List.setIfInBounds_toArray, List.set_cons_zero, List.set_cons_succ, List.getElem_toArray, List.getElem_cons_succ, List.getElem_cons_zero]
              refine' wpAnyH_take (i := 15) (v := _) rfl (by kernel_rfl) (by kernel_rfl) (by kernel_rfl) (fun _ _ _ h => h) (Or.inl ⟨by rfl, ?_⟩) hHeld ?_
              rotate_left
              · (intro w hSw; (try dsimp only at hSw); go_simp; try with_reducible rfl)
              try simp only [Act.put, List.setIfInBounds_toArray, List.set_cons_zero, List.set_cons_succ, List.getElem_toArray, List.getElem_cons_succ, List.getElem_cons_zero]
              refine wpAnyH_done (by kernel_rfl) ?_ _
              have ca := hHeld
              have FIN := hid TG.out.own; have FG := hid TG.out.gr
              clear ca TG
              go_wp2_with fail
              go_roundw
              case rel => exact ⟨0 + 1, hlt, by go_num, by have h : OwnI w.heap.size _ _ (List.take 0 [] ++ [x] ++ List.drop 0 []) := FIN.out; rw [HINS.out] at h; exact h, FG.out⟩
              case measure => simp [intOf]; omega
            · have hH2 := hHeld
              have ca := hH2
              have hg : ((wi.drew).alloc (.cells #[] 2)).grownBy (((wi.drew).alloc (.cells #[] 2)).alloc (.cells #[.int .i64 x] 2)) none := World.grownBy_alloc _ _ _
              replace TG := hid (TG.out.one x)
              try rw [size_alloc'] at TG
              have L9 := hid (show ((((wi.drew).alloc (.cells #[] 2)).alloc (.cells #[.int .i64 x] 2)).cell? ⟨ab, ao, none⟩ = some (.int .i64 x)) from hg.cell ca (by simp))
              clear hHeld hg ca
              try simp only [List.getElem_toArray, List.getElem_cons_succ, List.getElem_cons_zero]
              go_simp
              refine hK.out _ _ ?_ (fun hHeld => ?_)
              · exact L9.out
              clear hK K
              try dsimp only at hHeld
              try simp only [Act.put, List.setIfInBounds_toArray, List.set_cons_zero, List.set_cons_succ, List.getElem_toArray, List.getElem_cons_succ, List.getElem_cons_zero]
              refine wpAnyH_ready (rs := [4]) (by kernel_rfl) (by simp) ?_
              refine AllReadyH.cons (o := _) rfl (fun K hK => ?_) AllReadyH.nil
              have hH2 := hHeld
              have ca := hH2
              try simp only [List.getElem_toArray, List.getElem_cons_succ, List.getElem_cons_zero]
              rw [if_pos (by rfl)]
              refine wp_append_ints _ _ rfl w.heap.size _ _ rfl TG.out.own _ _ rfl (IntsAt.nil _) (by have := HK.out; have := HM.out; simp only [List.length_append, List.length_cons, List.length_nil, List.length_take, List.length_drop]; omega) TG.out.gr.size ?_
              intro v1 w71 hown hgrow hat
              replace TG := hid (TG.out.app hown hgrow hat)
              clear hown hgrow hat
              have L4 := hid (show (w71.cell? ⟨ab, ao, none⟩ = some (.int .i64 x)) from TG.out.hd.at HX.out)
              clear hHeld ca
              refine hK.out _ _ ?_ (fun hHeld => ?_)
              · exact L4.out
              clear hK K
              try dsimp only at hHeld
              try simp only [Act.put, List.setIfInBounds_toArray, List.set_cons_zero, List.set_cons_succ, List.getElem_toArray, List.getElem_cons_succ, List.getElem_cons_zero]
              refine wpAnyH_ready (rs := [10]) (by kernel_rfl) (by simp) ?_
              refine AllReadyH.cons (o := _) rfl (fun K hK => ?_) AllReadyH.nil
              have hH2 := hHeld
              have ca := hH2
              try simp only [List.getElem_toArray, List.getElem_cons_succ, List.getElem_cons_zero]
              rw [if_pos (by rfl)]
              refine wp_append_ints _ _ rfl w.heap.size _ _ rfl TG.out.own _ _ rfl TG.out.tl.tl.hd.1 (by have := HK.out; have := HM.out; simp only [List.length_append, List.length_cons, List.length_nil, List.length_take, List.length_drop]; omega) TG.out.gr.size ?_
              intro v2 w72 hown hgrow hat
              replace TG := hid (TG.out.app hown hgrow hat)
              clear hown hgrow hat
              have L10 := hid (show (w72.cell? ⟨ab, ao, none⟩ = some (.int .i64 x)) from TG.out.hd.at HX.out)
              clear hHeld ca
              refine hK.out _ _ ?_ (fun hHeld => ?_)
              · exact L10.out
              clear hK K
              try dsimp only at hHeld
              try simp only [Act.put, List.setIfInBounds_toArray, List.set_cons_zero, List.set_cons_succ, List.getElem_toArray, List.getElem_cons_succ, List.getElem_cons_zero]
              refine wpAnyH_ready (rs := [14]) (by kernel_rfl) (by simp) ?_
              refine AllReadyH.cons (o := _) rfl (fun K hK => ?_) AllReadyH.nil
              have hH2 := hHeld
              have ca := hH2
              try simp only [List.getElem_toArray, List.getElem_cons_succ, List.getElem_cons_zero]
              rw [if_pos (by rfl)]
              refine wp_append_ints _ _ rfl w.heap.size _ _ rfl TG.out.own _ _ rfl (IntsAt.nil _) (by have := HK.out; have := HM.out; simp only [List.length_append, List.length_cons, List.length_nil, List.length_take, List.length_drop]; omega) TG.out.gr.size ?_
              intro v3 w73 hown hgrow hat
              replace TG := hid (TG.out.app hown hgrow hat)
              clear hown hgrow hat
              have L14 := hid (show (w73.cell? ⟨ab, ao, none⟩ = some (.int .i64 x)) from TG.out.hd.at HX.out)
              clear hHeld ca
              refine hK.out _ _ ?_ (fun hHeld => ?_)
              · exact L14.out
              clear hK K
              try dsimp only at hHeld
              try simp only [Act.put, List.setIfInBounds_toArray, List.set_cons_zero, List.set_cons_succ, List.getElem_toArray, List.getElem_cons_succ, List.getElem_cons_zero]
              refine' wpAnyH_take (i := 15) (v := _) rfl (by kernel_rfl) (by kernel_rfl) (by kernel_rfl) (fun _ _ _ h => h) (Or.inl ⟨by rfl, ?_⟩) hHeld ?_
              rotate_left
              · (intro w hSw; (try dsimp only at hSw); go_simp; try with_reducible rfl)
              try simp only [Act.put, List.setIfInBounds_toArray, List.set_cons_zero, List.set_cons_succ, List.getElem_toArray, List.getElem_cons_succ, List.getElem_cons_zero]
              refine wpAnyH_done (by kernel_rfl) ?_ _
              have ca := hHeld
              have FIN := hid TG.out.own; have FG := hid TG.out.gr
              clear ca TG
              go_wp2_with fail
              go_roundw
              case rel => exact ⟨0 + 1, hlt, by go_num, by have h : OwnI w.heap.size _ _ (List.take 0 [] ++ [x] ++ List.drop 0 []) := FIN.out; rw [HINS.out] at h; exact h, FG.out⟩
              case measure => simp [intOf]; omega
          · have hH2 := hHeld
            have ca := hH2
            have hg : (wi.drew).grownBy ((wi.drew).alloc (.cells #[.int .i64 x] 2)) none := World.grownBy_alloc _ _ _
            replace TG := hid (TG.out.one x)
            try rw [size_alloc'] at TG
            have L9 := hid (show (((wi.drew).alloc (.cells #[.int .i64 x] 2)).cell? ⟨ab, ao, none⟩ = some (.int .i64 x)) from hg.cell ca (by simp))
            clear hHeld hg ca
            try simp only [List.getElem_toArray, List.getElem_cons_succ, List.getElem_cons_zero]
            go_simp
            refine hK.out _ _ ?_ (fun hHeld => ?_)
            · exact L9.out
            clear hK K
            try dsimp only at hHeld
            try simp only [Act.put, List.setIfInBounds_toArray, List.set_cons_zero, List.set_cons_succ, List.getElem_toArray, List.getElem_cons_succ, List.getElem_cons_zero]
            refine wpAnyH_ready (rs := [0]) (by kernel_rfl) (by simp) ?_
            refine AllReadyH.cons (o := _) rfl (fun K hK => ?_) AllReadyH.nil
            have hH2 := hHeld
            have ca := hH2
            have hg : ((wi.drew).alloc (.cells #[.int .i64 x] 2)).grownBy (((wi.drew).alloc (.cells #[.int .i64 x] 2)).alloc (.cells #[] 2)) none := World.grownBy_alloc _ _ _
            replace TG := hid TG.out.fresh
            try rw [size_alloc'] at TG
            have L0 := hid (show ((((wi.drew).alloc (.cells #[.int .i64 x] 2)).alloc (.cells #[] 2)).cell? ⟨ab, ao, none⟩ = some (.int .i64 x)) from hg.cell ca (by simp))
            clear hHeld hg ca
            try simp only [List.getElem_toArray, List.getElem_cons_succ, List.getElem_cons_zero]
            go_simp
            refine hK.out _ _ ?_ (fun hHeld => ?_)
            · exact L0.out
            clear hK K
            try dsimp only at hHeld
            try simp only [Act.put, List.setIfInBounds_toArray, List.set_cons_zero, List.set_cons_succ, List.getElem_toArray, List.getElem_cons_succ, List.getElem_cons_zero]
            refine wpAnyH_ready (rs := [4]) (by kernel_rfl) (by simp) ?_
            refine AllReadyH.cons (o := _) rfl (fun K hK => ?_) AllReadyH.nil
            have hH2 := hHeld
            have ca := hH2
            try simp only [List.getElem_toArray, List.getElem_cons_succ, List.getElem_cons_zero]
            rw [if_pos (by rfl)]
            refine wp_append_ints _ _ rfl w.heap.size _ _ rfl TG.out.own _ _ rfl (IntsAt.nil _) (by have := HK.out; have := HM.out; simp only [List.length_append, List.length_cons, List.length_nil, List.length_take, List.length_drop]; omega) TG.out.gr.size ?_
            intro v1 w71 hown hgrow hat
            replace TG := hid (TG.out.app hown hgrow hat)
            clear hown hgrow hat
            have L4 := hid (show (w71.cell? ⟨ab, ao, none⟩ = some (.int .i64 x)) from TG.out.hd.at HX.out)
            clear hHeld ca
            refine hK.out _ _ ?_ (fun hHeld => ?_)
            · exact L4.out
            clear hK K
            try dsimp only at hHeld
            try simp only [Act.put, List.setIfInBounds_toArray, List.set_cons_zero, List.set_cons_succ, List.getElem_toArray, List.getElem_cons_succ, List.getElem_cons_zero]
            refine wpAnyH_ready (rs := [10]) (by kernel_rfl) (by simp) ?_
            refine AllReadyH.cons (o := _) rfl (fun K hK => ?_) AllReadyH.nil
            have hH2 := hHeld
            have ca := hH2
            try simp only [List.getElem_toArray, List.getElem_cons_succ, List.getElem_cons_zero]
            rw [if_pos (by rfl)]
            refine wp_append_ints _ _ rfl w.heap.size _ _ rfl TG.out.own _ _ rfl TG.out.tl.tl.hd.1 (by have := HK.out; have := HM.out; simp only [List.length_append, List.length_cons, List.length_nil, List.length_take, List.length_drop]; omega) TG.out.gr.size ?_
            intro v2 w72 hown hgrow hat
            replace TG := hid (TG.out.app hown hgrow hat)
            clear hown hgrow hat
            have L10 := hid (show (w72.cell? ⟨ab, ao, none⟩ = some (.int .i64 x)) from TG.out.hd.at HX.out)
            clear hHeld ca
            refine hK.out _ _ ?_ (fun hHeld => ?_)
            · exact L10.out
            clear hK K
            try dsimp only at hHeld
            try simp only [Act.put, List.setIfInBounds_toArray, List.set_cons_zero, List.set_cons_succ, List.getElem_toArray, List.getElem_cons_succ, List.getElem_cons_zero]
            refine wpAnyH_ready (rs := [14]) (by kernel_rfl) (by simp) ?_
            refine AllReadyH.cons (o := _) rfl (fun K hK => ?_) AllReadyH.nil
            have hH2 := hHeld
            have ca := hH2
            try simp only [List.getElem_toArray, List.getElem_cons_succ, List.getElem_cons_zero]
            rw [if_pos (by rfl)]
            refine wp_append_ints _ _ rfl w.heap.size _ _ rfl TG.out.own _ _ rfl (IntsAt.nil _) (by have := HK.out; have := HM.out; simp only [List.length_append, List.length_cons, List.length_nil, List.length_take, List.length_drop]; omega) TG.out.gr.size ?_
            intro v3 w73 hown hgrow hat
            replace TG := hid (TG.out.app hown hgrow hat)
            clear hown hgrow hat
            have L14 := hid (show (w73.cell? ⟨ab, ao, none⟩ = some (.int .i64 x)) from TG.out.hd.at HX.out)
            clear hHeld ca
            refine hK.out _ _ ?_ (fun hHeld => ?_)
            · exact L14.out
            clear hK K
            try dsimp only at hHeld
            try simp only [Act.put, List.setIfInBounds_toArray, List.set_cons_zero, List.set_cons_succ, List.getElem_toArray, List.getElem_cons_succ, List.getElem_cons_zero]
            refine' wpAnyH_take (i := 15) (v := _) rfl (by kernel_rfl) (by kernel_rfl) (by kernel_rfl) (fun _ _ _ h => h) (Or.inl ⟨by rfl, ?_⟩) hHeld ?_
            rotate_left
            · (intro w hSw; (try dsimp only at hSw); go_simp; try with_reducible rfl)
            try simp only [Act.put, List.setIfInBounds_toArray, List.set_cons_zero, List.set_cons_succ, List.getElem_toArray, List.getElem_cons_succ, List.getElem_cons_zero]
            refine wpAnyH_done (by kernel_rfl) ?_ _
            have ca := hHeld
            have FIN := hid TG.out.own; have FG := hid TG.out.gr
            clear ca TG
            go_wp2_with fail
            go_roundw
            case rel => exact ⟨0 + 1, hlt, by go_num, by have h : OwnI w.heap.size _ _ (List.take 0 [] ++ [x] ++ List.drop 0 []) := FIN.out; rw [HINS.out] at h; exact h, FG.out⟩
            case measure => simp [intOf]; omega
      | some am =>
        rcases HO.out.2 with ⟨e, _⟩ | ⟨g, cap, cur, e, hb1, hb2, hb3, hb4, _⟩
        · cases e
        injection e with e1 e2 e3
        injection e1 with e1
        subst e1; subst e3
        clear e2 hb1 hb2
        rw [HM.out] at hb3
        unfold maxLen at hb4
        have q2 : (k : Int) ≤ (cm : Int) := by omega
        have q3 : (cm : Int) ≤ 9223372036854775807 := by omega
        go_wp2_with fail
        go_loopw [5] (fun s wr => ∃ j : Nat, j ≤ k ∧ s = .int .i64 (j : Int) ∧ (∀ i, (h : i < m.length) → j ≤ i → x ≤ m[i]) ∧ wo.grownBy wr none) (fun s _ => (intOf s).toNat)
        case atStart => exact ⟨k, Nat.le_refl _, rfl, fun i h hi => absurd h (by rw [HM.out]; omega), .refl wo none⟩
        case round =>
          obtain ⟨j, hj, rfl, hab, hgi⟩ := hrel
          have HAB := hid hab; have HGI := hid hgi
          clear hab hgi
          have TG := hid (Bag.start (L := [(.slice (some ⟨ab, ao, none⟩) n c, l), (.slice (some ⟨g, 0, none⟩) k cm, m), (.slice none 0 0, [])]) (gb_trans HG.out HGI.out (.inl rfl)) (by
            intro p hp
            simp only [List.mem_cons, List.not_mem_nil, or_false] at hp
            rcases hp with rfl | rfl | rfl
            · exact HI.out.grown (gb_trans HG.out HGI.out (.inl rfl))
            · exact (HO.out.ints).grown HGI.out
            · exact .nil _))
          have hca := TG.out.hd.at HX.out
          have q1 : (j : Int) ≤ (k : Int) := by omega
          have HJ := hid hj
          by_cases hj0 : j = 0
          · subst hj0
            have HINS := hid (HINS0.out 0 (Nat.zero_le _) (fun i _ h => absurd h (Nat.not_lt_zero i)) HAB.out)
            go_wp2_with fail
            go_quiet (fail)
            replace TG := hid (TG.out.grown (gb_drewM _ nq))
            clear hca
            generalize World.drewN _ nq = wi at *
            clear HGI
            go_wp2_with fail
            replace TG := hid TG.out.drew
            refine wp_region_held_drew (S := (fun w' => (w'.cell? ⟨ab, ao + k, none⟩ = some (.int .i64 x)))) (by kernel_rfl) (TG.out.hd.at HX.out) (fun hHeld => ?_)
            try dsimp only at hHeld
            refine' wpAnyH_take (i := 1) (v := _) rfl (by kernel_rfl) (by kernel_rfl) (by kernel_rfl) (fun _ _ _ h => h) (Or.inl ⟨by rfl, ?_⟩) hHeld ?_
            rotate_left
            · (intro w hSw; (try dsimp only at hSw); go_simp; try with_reducible rfl)
            try simp only [Act.put, List.setIfInBounds_toArray, List.set_cons_zero, List.set_cons_succ, List.getElem_toArray, List.getElem_cons_succ, List.getElem_cons_zero]
            refine' wpAnyH_take (i := 2) (v := _) rfl (by kernel_rfl) (by kernel_rfl) (by kernel_rfl) (fun _ _ _ h => h) (Or.inl ⟨by rfl, ?_⟩) hHeld ?_
            rotate_left
            · (intro w hSw; (try dsimp only at hSw); go_simp; try with_reducible rfl)
            try simp only [Act.put, List.setIfInBounds_toArray, List.set_cons_zero, List.set_cons_succ, List.getElem_toArray, List.getElem_cons_succ, List.getElem_cons_zero]
            refine' wpAnyH_take (i := 3) (v := _) rfl (by kernel_rfl) (by kernel_rfl) (by kernel_rfl) (fun _ _ _ h => h) (Or.inl ⟨by rfl, ?_⟩) hHeld ?_
            rotate_left
            · (intro w hSw; (try dsimp only at hSw); go_simp; try with_reducible rfl)
            try simp only [Act.put, List.setIfInBounds_toArray, List.set_cons_zero, List.set_cons_succ, List.getElem_toArray, List.getElem_cons_succ, List.getElem_cons_zero]
            refine' wpAnyH_take (i := 5) (v := _) rfl (by kernel_rfl) (by kernel_rfl) (by kernel_rfl) (fun _ _ _ h => h) (Or.inl ⟨by rfl, ?_⟩) hHeld ?_
            rotate_left
            · (intro w hSw; (try dsimp only at hSw); go_simp; try with_reducible rfl)
            try simp only [Act.put, List.setIfInBounds_toArray, List.set_cons_zero, List.set_cons_succ, List.getElem_toArray, List.getElem_cons_succ, List.getElem_cons_zero]
            refine' wpAnyH_take (i := 6) (v := _) rfl (by kernel_rfl) (by kernel_rfl) (by kernel_rfl) (fun _ _ _ h => h) (Or.inl ⟨by rfl, ?_⟩) hHeld ?_
            rotate_left
            · (intro w hSw; (try dsimp only at hSw); go_simp; try with_reducible rfl)
            try simp only [Act.put, List.setIfInBounds_toArray, List.set_cons_zero, List.set_cons_succ, List.getElem_toArray, List.getElem_cons_succ, List.getElem_cons_zero]
            refine' wpAnyH_take (i := 7) (v := _) rfl (by kernel_rfl) (by kernel_rfl) (by kernel_rfl) (fun _ _ _ h => h) (Or.inl ⟨by rfl, ?_⟩) hHeld ?_
            rotate_left
            · (intro w hSw; (try dsimp only at hSw); go_simp; try with_reducible rfl)
            try simp only [Act.put, List.setIfInBounds_toArray, List.set_cons_zero, List.set_cons_succ, List.getElem_toArray, List.getElem_cons_succ, List.getElem_cons_zero]
            refine' wpAnyH_take (i := 8) (v := _) rfl (by kernel_rfl) (by kernel_rfl) (by kernel_rfl) (fun _ _ _ h => h) (Or.inl ⟨by rfl, ?_⟩) hHeld ?_
            rotate_left
            · (intro w hSw; (try dsimp only at hSw); go_simp; try with_reducible rfl)
            try simp only [Act.put, List.setIfInBounds_toArray, List.set_cons_zero, List.set_cons_succ, List.getElem_toArray, List.getElem_cons_succ, List.getElem_cons_zero]
            refine' wpAnyH_take (i := 11) (v := _) rfl (by kernel_rfl) (by kernel_rfl) (by kernel_rfl) (fun _ _ _ h => h) (Or.inl ⟨by rfl, ?_⟩) hHeld ?_
            rotate_left
            · (intro w hSw; (try dsimp only at hSw); go_simp; try with_reducible rfl)
            try simp only [Act.put, List.setIfInBounds_toArray, List.set_cons_zero, List.set_cons_succ, List.getElem_toArray, List.getElem_cons_succ, List.getElem_cons_zero]
            refine' wpAnyH_take (i := 12) (v := _) rfl (by kernel_rfl) (by kernel_rfl) (by kernel_rfl) (fun _ _ _ h => h) (Or.inl ⟨by rfl, ?_⟩) hHeld ?_
            rotate_left
            · (intro w hSw; (try dsimp only at hSw); go_simp; try with_reducible rfl)
            try simp only [Act.put, List.setIfInBounds_toArray, List.set_cons_zero, List.set_cons_succ, List.getElem_toArray, List.getElem_cons_succ, List.getElem_cons_zero]
            refine' wpAnyH_take (i := 13) (v := _) rfl (by kernel_rfl) (by kernel_rfl) (by kernel_rfl) (fun _ _ _ h => h) (Or.inl ⟨by rfl, ?_⟩) hHeld ?_
            rotate_left
            · (intro w hSw; (try dsimp only at hSw); go_simp; try with_reducible rfl)
            try simp only [Act.put, List.setIfInBounds_toArray, List.set_cons_zero, List.set_cons_succ, List.getElem_toArray, List.getElem_cons_succ, List.getElem_cons_zero]
            refine wpAnyH_ready (rs := [0, 9]) (by kernel_rfl) (by simp) ?_
            refine AllReadyH.cons (o := _) rfl (fun K hK => ?_) (AllReadyH.cons (o := _) rfl (fun K hK => ?_) AllReadyH.nil)
            · have hH2 := hHeld
              have ca := hH2
              have hg : (wi.drew).grownBy ((wi.drew).alloc (.cells #[] 2)) none := World.grownBy_alloc _ _ _
              replace TG := hid TG.out.fresh
              try rw [size_alloc'] at TG
              have L0 := hid (show (((wi.drew).alloc (.cells #[] 2)).cell? ⟨ab, ao + k, none⟩ = some (.int .i64 x)) from hg.cell ca (by simp))
              clear hHeld hg ca
              try simp only [List.getElem_toArray, List.getElem_cons_succ, List.getElem_cons_zero]
              go_simp
              refine hK.out _ _ ?_ (fun hHeld => ?_)
              · exact L0.out
              clear hK K
              try dsimp only at hHeld
              try simp only [Act.put, List.setIfInBounds_toArray, List.set_cons_zero, List.set_cons_succ, List.getElem_toArray, List.getElem_cons_succ, List.getElem_cons_zero]
              refine wpAnyH_ready (rs := [4, 9]) (by kernel_rfl) (by simp) ?_
              refine AllReadyH.cons (o := _) rfl (fun K hK => ?_) (AllReadyH.cons (o := _) rfl (fun K hK => ?_) AllReadyH.nil)
              · have hH2 := hHeld
                have ca := hH2
                try simp only [List.getElem_toArray, List.getElem_cons_succ, List.getElem_cons_zero]
                rw [if_pos (by rfl)]
                refine wp_append_ints _ _ rfl w.heap.size _ _ rfl TG.out.own _ _ rfl (TG.out.tl.hd.take HJ.out).1 (by have := HK.out; have := HM.out; simp only [List.length_append, List.length_cons, List.length_nil, List.length_take, List.length_drop]; omega) TG.out.gr.size ?_
                intro v1 w71 hown hgrow hat
                replace TG := hid (TG.out.app hown hgrow hat)
                clear hown hgrow hat
                have L4 := hid (show (w71.cell? ⟨ab, ao + k, none⟩ = some (.int .i64 x)) from TG.out.hd.at HX.out)
                clear hHeld ca
                refine hK.out _ _ ?_ (fun hHeld => ?_)
                · exact L4.out
                clear hK K
                try dsimp only at hHeld
                try simp only [Act.put, List.setIfInBounds_toArray, List.set_cons_zero, List.set_cons_succ, List.getElem_toArray, List.getElem_cons_succ, List.getElem_cons_zero]
                refine wpAnyH_ready (rs := [9]) (by kernel_rfl) (by simp) ?_
                refine AllReadyH.cons (o := _) rfl (fun K hK => ?_) AllReadyH.nil
                have hH2 := hHeld
                have ca := hH2
                have hg : w71.grownBy (w71.alloc (.cells #[.int .i64 x] 2)) none := World.grownBy_alloc _ _ _
                replace TG := hid (TG.out.one x)
                try rw [size_alloc'] at TG
                have L9 := hid (show ((w71.alloc (.cells #[.int .i64 x] 2)).cell? ⟨ab, ao + k, none⟩ = some (.int .i64 x)) from hg.cell ca (by simp))
                clear hHeld hg ca
                try simp only [List.getElem_toArray, List.getElem_cons_succ, List.getElem_cons_zero]
                go_simp
                refine hK.out _ _ ?_ (fun hHeld => ?_)
                · exact L9.out
                clear hK K
                try dsimp only at hHeld
                try simp only [Act.put, List.setIfInBounds_toArray, List.set_cons_zero, List.set_cons_succ, List.getElem_toArray, List.getElem_cons_succ, List.getElem_cons_zero]
                refine wpAnyH_ready (rs := [10]) (by kernel_rfl) (by simp) ?_
                refine AllReadyH.cons (o := _) rfl (fun K hK => ?_) AllReadyH.nil
                have hH2 := hHeld
                have ca := hH2
                try simp only [List.getElem_toArray, List.getElem_cons_succ, List.getElem_cons_zero]
                rw [if_pos (by rfl)]
                refine wp_append_ints _ _ rfl w.heap.size _ _ rfl TG.out.own _ _ rfl TG.out.tl.tl.hd.1 (by have := HK.out; have := HM.out; simp only [List.length_append, List.length_cons, List.length_nil, List.length_take, List.length_drop]; omega) TG.out.gr.size ?_
                intro v2 w72 hown hgrow hat
                replace TG := hid (TG.out.app hown hgrow hat)
                clear hown hgrow hat
                have L10 := hid (show (w72.cell? ⟨ab, ao + k, none⟩ = some (.int .i64 x)) from TG.out.hd.at HX.out)
                clear hHeld ca
                refine hK.out _ _ ?_ (fun hHeld => ?_)
                · exact L10.out
                clear hK K
                try dsimp only at hHeld
                try simp only [Act.put, List.setIfInBounds_toArray, List.set_cons_zero, List.set_cons_succ, List.getElem_toArray, List.getElem_cons_succ, List.getElem_cons_zero]
                refine wpAnyH_ready (rs := [14]) (by kernel_rfl) (by simp) ?_
                refine AllReadyH.cons (o := _) rfl (fun K hK => ?_) AllReadyH.nil
                have hH2 := hHeld
                have ca := hH2
                try simp only [List.getElem_toArray, List.getElem_cons_succ, List.getElem_cons_zero]
                rw [if_pos (by rfl)]
                refine wp_append_ints _ _ rfl w.heap.size _ _ rfl TG.out.own _ _ rfl (TG.out.tl.hd.drop HJ.out).1 (by have := HK.out; have := HM.out; simp only [List.length_append, List.length_cons, List.length_nil, List.length_take, List.length_drop]; omega) TG.out.gr.size ?_
                intro v3 w73 hown hgrow hat
                replace TG := hid (TG.out.app hown hgrow hat)
                clear hown hgrow hat
                have L14 := hid (show (w73.cell? ⟨ab, ao + k, none⟩ = some (.int .i64 x)) from TG.out.hd.at HX.out)
                clear hHeld ca
                refine hK.out _ _ ?_ (fun hHeld => ?_)
                · exact L14.out
                clear hK K
                try dsimp only at hHeld
                try simp only [Act.put, List.setIfInBounds_toArray, List.set_cons_zero, List.set_cons_succ, List.getElem_toArray, List.getElem_cons_succ, List.getElem_cons_zero]
                refine' wpAnyH_take (i := 15) (v := _) rfl (by kernel_rfl) (by kernel_rfl) (by kernel_rfl) (fun _ _ _ h => h) (Or.inl ⟨by rfl, ?_⟩) hHeld ?_
                rotate_left
                · (intro w hSw; (try dsimp only at hSw); go_simp; try with_reducible rfl)
                try simp only [Act.put, List.setIfInBounds_toArray, List.set_cons_zero, List.set_cons_succ, List.getElem_toArray, List.getElem_cons_succ, List.getElem_cons_zero]
                refine wpAnyH_done (by kernel_rfl) ?_ _
                have ca := hHeld
                have FIN := hid TG.out.own; have FG := hid TG.out.gr
                clear ca TG
                go_wp2_with fail
                go_roundw
                case rel => exact ⟨k + 1, hlt, by go_num, by have h : OwnI w.heap.size _ _ (List.take 0 m ++ [x] ++ List.drop 0 m) := FIN.out; rw [HINS.out] at h; exact h, FG.out⟩
                case measure => simp [intOf]; omega
              · have hH2 := hHeld
                have ca := hH2
                have hg : ((wi.drew).alloc (.cells #[] 2)).grownBy (((wi.drew).alloc (.cells #[] 2)).alloc (.cells #[.int .i64 x] 2)) none := World.grownBy_alloc _ _ _
                replace TG := hid (TG.out.one x)
                try rw [size_alloc'] at TG
                have L9 := hid (show ((((wi.drew).alloc (.cells #[] 2)).alloc (.cells #[.int .i64 x] 2)).cell? ⟨ab, ao + k, none⟩ = some (.int .i64 x)) from hg.cell ca (by simp))
                clear hHeld hg ca
                try simp only [List.getElem_toArray, List.getElem_cons_succ, List.getElem_cons_zero]
                go_simp
                refine hK.out _ _ ?_ (fun hHeld => ?_)
                · exact L9.out
                clear hK K
                try dsimp only at hHeld
                try simp only [Act.put, List.setIfInBounds_toArray, List.set_cons_zero, List.set_cons_succ, List.getElem_toArray, List.getElem_cons_succ, List.getElem_cons_zero]
                refine wpAnyH_ready (rs := [4]) (by kernel_rfl) (by simp) ?_
                refine AllReadyH.cons (o := _) rfl (fun K hK => ?_) AllReadyH.nil
                have hH2 := hHeld
                have ca := hH2
                try simp only [List.getElem_toArray, List.getElem_cons_succ, List.getElem_cons_zero]
                rw [if_pos (by rfl)]
                refine wp_append_ints _ _ rfl w.heap.size _ _ rfl TG.out.own _ _ rfl (TG.out.tl.hd.take HJ.out).1 (by have := HK.out; have := HM.out; simp only [List.length_append, List.length_cons, List.length_nil, List.length_take, List.length_drop]; omega) TG.out.gr.size ?_
                intro v1 w71 hown hgrow hat
                replace TG := hid (TG.out.app hown hgrow hat)
                clear hown hgrow hat
                have L4 := hid (show (w71.cell? ⟨ab, ao + k, none⟩ = some (.int .i64 x)) from TG.out.hd.at HX.out)
                clear hHeld ca
                refine hK.out _ _ ?_ (fun hHeld => ?_)
                · exact L4.out
                clear hK K
                try dsimp only at hHeld
                try simp only [Act.put, List.setIfInBounds_toArray, List.set_cons_zero, List.set_cons_succ, List.getElem_toArray, List.getElem_cons_succ, List.getElem_cons_zero]
                refine wpAnyH_ready (rs := [10]) (by kernel_rfl) (by simp) ?_
                refine AllReadyH.cons (o := _) rfl (fun K hK => ?_) AllReadyH.nil
                have hH2 := hHeld
                have ca := hH2
                try simp only [List.getElem_toArray, List.getElem_cons_succ, List.getElem_cons_zero]
                rw [if_pos (by rfl)]
                refine wp_append_ints _ _ rfl w.heap.size _ _ rfl TG.out.own _ _ rfl TG.out.tl.tl.hd.1 (by have := HK.out; have := HM.out; simp only [List.length_append, List.length_cons, List.length_nil, List.length_take, List.length_drop]; omega) TG.out.gr.size ?_
                intro v2 w72 hown hgrow hat
                replace TG := hid (TG.out.app hown hgrow hat)
                clear hown hgrow hat
                have L10 := hid (show (w72.cell? ⟨ab, ao + k, none⟩ = some (.int .i64 x)) from TG.out.hd.at HX.out)
                clear hHeld ca
                refine hK.out _ _ ?_ (fun hHeld => ?_)
                · exact L10.out
                clear hK K
                try dsimp only at hHeld
                try simp only [Act.put, List.setIfInBounds_toArray, List.set_cons_zero, List.set_cons_succ, List.getElem_toArray, List.getElem_cons_succ, List.getElem_cons_zero]
                refine wpAnyH_ready (rs := [14]) (by kernel_rfl) (by simp) ?_
                refine AllReadyH.cons (o := _) rfl (fun K hK => ?_) AllReadyH.nil
                have hH2 := hHeld
                have ca := hH2
                try simp only [List.getElem_toArray, List.getElem_cons_succ, List.getElem_cons_zero]
                rw [if_pos (by rfl)]
                refine wp_append_ints _ _ rfl w.heap.size _ _ rfl TG.out.own _ _ rfl (TG.out.tl.hd.drop HJ.out).1 (by have := HK.out; have := HM.out; simp only [List.length_append, List.length_cons, List.length_nil, List.length_take, List.length_drop]; omega) TG.out.gr.size ?_
                intro v3 w73 hown hgrow hat
                replace TG := hid (TG.out.app hown hgrow hat)
                clear hown hgrow hat
                have L14 := hid (show (w73.cell? ⟨ab, ao + k, none⟩ = some (.int .i64 x)) from TG.out.hd.at HX.out)
                clear hHeld ca
                refine hK.out _ _ ?_ (fun hHeld => ?_)
                · exact L14.out
                clear hK K
                try dsimp only at hHeld
                try simp only [Act.put, List.setIfInBounds_toArray, List.set_cons_zero, List.set_cons_succ, List.getElem_toArray, List.getElem_cons_succ, List.getElem_cons_zero]
                refine' wpAnyH_take (i := 15) (v := _) rfl (by kernel_rfl) (by kernel_rfl) (by kernel_rfl) (fun _ _ _ h => h) (Or.inl ⟨by rfl, ?_⟩) hHeld ?_
                rotate_left
                · (intro w hSw; (try dsimp only at hSw); go_simp; try with_reducible rfl)
                try simp only [Act.put, List.setIfInBounds_toArray, List.set_cons_zero, List.set_cons_succ, List.getElem_toArray, List.getElem_cons_succ, List.getElem_cons_zero]
                refine wpAnyH_done (by kernel_rfl) ?_ _
                have ca := hHeld
                have FIN := hid TG.out.own; have FG := hid TG.out.gr
                clear ca TG
                go_wp2_with fail
                go_roundw
                case rel => exact ⟨k + 1, hlt, by go_num, by have h : OwnI w.heap.size _ _ (List.take 0 m ++ [x] ++ List.drop 0 m) := FIN.out; rw [HINS.out] at h; exact h, FG.out⟩
                case measure => simp [intOf]; omega
            · have hH2 := hHeld
              have ca := hH2
              have hg : (wi.drew).grownBy ((wi.drew).alloc (.cells #[.int .i64 x] 2)) none := World.grownBy_alloc _ _ _
              replace TG := hid (TG.out.one x)
              try rw [size_alloc'] at TG
              have L9 := hid (show (((wi.drew).alloc (.cells #[.int .i64 x] 2)).cell? ⟨ab, ao + k, none⟩ = some (.int .i64 x)) from hg.cell ca (by simp))
              clear hHeld hg ca
              try simp only [List.getElem_toArray, List.getElem_cons_succ, List.getElem_cons_zero]
              go_simp
              refine hK.out _ _ ?_ (fun hHeld => ?_)
              · exact L9.out
              clear hK K
              try dsimp only at hHeld
              try simp only [Act.put, List.setIfInBounds_toArray, List.set_cons_zero, List.set_cons_succ, List.getElem_toArray, List.getElem_cons_succ, List.getElem_cons_zero]
              refine wpAnyH_ready (rs := [0]) (by kernel_rfl) (by simp) ?_
              refine AllReadyH.cons (o := _) rfl (fun K hK => ?_) AllReadyH.nil
              have hH2 := hHeld
              have ca := hH2
              have hg : ((wi.drew).alloc (.cells #[.int .i64 x] 2)).grownBy (((wi.drew).alloc (.cells #[.int .i64 x] 2)).alloc (.cells #[] 2)) none := World.grownBy_alloc _ _ _
              replace TG := hid TG.out.fresh
              try rw [size_alloc'] at TG
              have L0 := hid (show ((((wi.drew).alloc (.cells #[.int .i64 x] 2)).alloc (.cells #[] 2)).cell? ⟨ab, ao + k, none⟩ = some (.int .i64 x)) from hg.cell ca (by simp))
              clear hHeld hg ca
              try simp only [List.getElem_toArray, List.getElem_cons_succ, List.getElem_cons_zero]
              go_simp
              refine hK.out _ _ ?_ (fun hHeld => ?_)
              · exact L0.out
              clear hK K
              try dsimp only at hHeld
              try simp only [Act.put, List.setIfInBounds_toArray, List.set_cons_zero, List.set_cons_succ, List.getElem_toArray, List.getElem_cons_succ, List.getElem_cons_zero]
              refine wpAnyH_ready (rs := [4]) (by kernel_rfl) (by simp) ?_
              refine AllReadyH.cons (o := _) rfl (fun K hK => ?_) AllReadyH.nil
              have hH2 := hHeld
              have ca := hH2
              try simp only [List.getElem_toArray, List.getElem_cons_succ, List.getElem_cons_zero]
              rw [if_pos (by rfl)]
              refine wp_append_ints _ _ rfl w.heap.size _ _ rfl TG.out.own _ _ rfl (TG.out.tl.hd.take HJ.out).1 (by have := HK.out; have := HM.out; simp only [List.length_append, List.length_cons, List.length_nil, List.length_take, List.length_drop]; omega) TG.out.gr.size ?_
              intro v1 w71 hown hgrow hat
              replace TG := hid (TG.out.app hown hgrow hat)
              clear hown hgrow hat
              have L4 := hid (show (w71.cell? ⟨ab, ao + k, none⟩ = some (.int .i64 x)) from TG.out.hd.at HX.out)
              clear hHeld ca
              refine hK.out _ _ ?_ (fun hHeld => ?_)
              · exact L4.out
              clear hK K
              try dsimp only at hHeld
              try simp only [Act.put, List.setIfInBounds_toArray, List.set_cons_zero, List.set_cons_succ, List.getElem_toArray, List.getElem_cons_succ, List.getElem_cons_zero]
              refine wpAnyH_ready (rs := [10]) (by kernel_rfl) (by simp) ?_
              refine AllReadyH.cons (o := _) rfl (fun K hK => ?_) AllReadyH.nil
              have hH2 := hHeld
              have ca := hH2
              try simp only [List.getElem_toArray, List.getElem_cons_succ, List.getElem_cons_zero]
              rw [if_pos (by rfl)]
              refine wp_append_ints _ _ rfl w.heap.size _ _ rfl TG.out.own _ _ rfl TG.out.tl.tl.hd.1 (by have := HK.out; have := HM.out; simp only [List.length_append, List.length_cons, List.length_nil, List.length_take, List.length_drop]; omega) TG.out.gr.size ?_
              intro v2 w72 hown hgrow hat
              replace TG := hid (TG.out.app hown hgrow hat)
              clear hown hgrow hat
              have L10 := hid (show (w72.cell? ⟨ab, ao + k, none⟩ = some (.int .i64 x)) from TG.out.hd.at HX.out)
              clear hHeld ca
              refine hK.out _ _ ?_ (fun hHeld => ?_)
              · exact L10.out
              clear hK K
              try dsimp only at hHeld
              try simp only [Act.put, List.setIfInBounds_toArray, List.set_cons_zero, List.set_cons_succ, List.getElem_toArray, List.getElem_cons_succ, List.getElem_cons_zero]
              refine wpAnyH_ready (rs := [14]) (by kernel_rfl) (by simp) ?_
              refine AllReadyH.cons (o := _) rfl (fun K hK => ?_) AllReadyH.nil
              have hH2 := hHeld
              have ca := hH2
              try simp only [List.getElem_toArray, List.getElem_cons_succ, List.getElem_cons_zero]
              rw [if_pos (by rfl)]
              refine wp_append_ints _ _ rfl w.heap.size _ _ rfl TG.out.own _ _ rfl (TG.out.tl.hd.drop HJ.out).1 (by have := HK.out; have := HM.out; simp only [List.length_append, List.length_cons, List.length_nil, List.length_take, List.length_drop]; omega) TG.out.gr.size ?_
              intro v3 w73 hown hgrow hat
              replace TG := hid (TG.out.app hown hgrow hat)
              clear hown hgrow hat
              have L14 := hid (show (w73.cell? ⟨ab, ao + k, none⟩ = some (.int .i64 x)) from TG.out.hd.at HX.out)
              clear hHeld ca
              refine hK.out _ _ ?_ (fun hHeld => ?_)
              · exact L14.out
              clear hK K
              try dsimp only at hHeld
              try simp only [Act.put, List.setIfInBounds_toArray, List.set_cons_zero, List.set_cons_succ, List.getElem_toArray, List.getElem_cons_succ, List.getElem_cons_zero]
              refine' wpAnyH_take (i := 15) (v := _) rfl (by kernel_rfl) (by kernel_rfl) (by kernel_rfl) (fun _ _ _ h => h) (Or.inl ⟨by rfl, ?_⟩) hHeld ?_
              rotate_left
              · (intro w hSw; (try dsimp only at hSw); go_simp; try with_reducible rfl)
              try simp only [Act.put, List.setIfInBounds_toArray, List.set_cons_zero, List.set_cons_succ, List.getElem_toArray, List.getElem_cons_succ, List.getElem_cons_zero]
              refine wpAnyH_done (by kernel_rfl) ?_ _
              have ca := hHeld
              have FIN := hid TG.out.own; have FG := hid TG.out.gr
              clear ca TG
              go_wp2_with fail
              go_roundw
              case rel => exact ⟨k + 1, hlt, by go_num, by have h : OwnI w.heap.size _ _ (List.take 0 m ++ [x] ++ List.drop 0 m) := FIN.out; rw [HINS.out] at h; exact h, FG.out⟩
              case measure => simp [intOf]; omega
          · have hjm : j - 1 < m.length := by rw [HM.out]; omega
            have hy := List.getElem?_eq_getElem hjm
            have hyc := TG.out.tl.hd.at hy
            have p1 : ((j - 1 : Nat) : Int) = (j : Int) - 1 := by omega
            have hle : ∀ i, (h : i < m.length) → i < j → m[i] ≤ m[j - 1] := fun i h hi => HSRT.out i (j - 1) (by omega) hjm
            have hge : ∀ i, (h : i < m.length) → j - 1 ≤ i → m[j - 1] ≤ m[i] := fun i h hi => HSRT.out (j - 1) i hi h
            generalize m[j - 1] = y at *
            obtain ⟨j1, hj1⟩ : ∃ j1, j - 1 = j1 := ⟨_, rfl⟩
            rw [hj1, Nat.zero_add] at hyc
            obtain ⟨z, hz⟩ : ∃ z, z = (j : Int) := ⟨_, rfl⟩
            have z1 : z - 1 = (j1 : Int) := by omega
            have z0 : 0 < z := by omega
            have s1 : IntKind.i64.wrap (z - 1) = (j1 : Int) := by rw [z1]; exact IntWalk.i64_in _ (by omega)
            have q4 : z ≤ (k : Int) := by omega
            have q5 : (j1 : Int) < (k : Int) := by omega
            have JZ := hid hz
            rw [← hz]
            have HLE := hid hle; have HGE := hid hge; have HJ1 := hid hj1
            clear hle hge hj1 hz hy p1 hjm q1
            by_cases hxy : x < y
            · have d0 : decide (x < y) = true := by simpa using hxy
              have hab2 : ∀ i, (h : i < m.length) → j1 ≤ i → x ≤ m[i] := fun i h hi => Int.le_trans (Int.le_of_lt hxy) (HGE.out i h (by rw [HJ1.out]; exact hi))
              have HAB2 := hid hab2
              clear hab2 hxy
              go_wp2_with fail
              go_quiet (fail)
              go_wp2_with fail
              go_roundw
              case rel => exact ⟨j1, by have := HJ1.out; have := HJ.out; omega, by go_num, HAB2.out, gb_trans HGI.out (gb_drewM _ nq) (.inl rfl)⟩
              case measure => have := HJ1.out; have := JZ.out; simp [intOf]; omega
            · have d0 : decide (x < y) = false := by simpa using hxy
              have HINS := hid (HINS0.out j HJ.out (fun i h hi => Int.le_trans (HLE.out i h hi) (Int.not_lt.1 hxy)) HAB.out)
              clear hxy
              go_wp2_with fail
              go_quiet (fail)
              replace TG := hid (TG.out.grown (gb_drewM _ nq))
              clear hca
              generalize World.drewN _ nq = wi at *
              clear HGI
              obtain rfl := JZ.out
              have q6 : (j : Int) ≤ (cm : Int) := by omega
              clear s1 z1 z0
              go_wp2_with fail
              replace TG := hid TG.out.drew
              refine wp_region_held_drew (S := (fun w' => (w'.cell? ⟨ab, ao + k, none⟩ = some (.int .i64 x)))) (by kernel_rfl) (TG.out.hd.at HX.out) (fun hHeld => ?_)
              try dsimp only at hHeld
              refine' wpAnyH_take (i := 1) (v := _) rfl (by kernel_rfl) (by kernel_rfl) (by kernel_rfl) (fun _ _ _ h => h) (Or.inl ⟨by rfl, ?_⟩) hHeld ?_
              rotate_left
              · (intro w hSw; (try dsimp only at hSw); go_simp; try with_reducible rfl)
              try simp only [Act.put, List.setIfInBounds_toArray, List.set_cons_zero, List.set_cons_succ, List.getElem_toArray, List.getElem_cons_succ, List.getElem_cons_zero]
              refine' wpAnyH_take (i := 2) (v := _) rfl (by kernel_rfl) (by kernel_rfl) (by kernel_rfl) (fun _ _ _ h => h) (Or.inl ⟨by rfl, ?_⟩) hHeld ?_
              rotate_left
              · (intro w hSw; (try dsimp only at hSw); go_simp; try with_reducible rfl)
              try simp only [Act.put, List.setIfInBounds_toArray, List.set_cons_zero, List.set_cons_succ, List.getElem_toArray, List.getElem_cons_succ, List.getElem_cons_zero]
              refine' wpAnyH_take (i := 3) (v := _) rfl (by kernel_rfl) (by kernel_rfl) (by kernel_rfl) (fun _ _ _ h => h) (Or.inl ⟨by rfl, ?_⟩) hHeld ?_
              rotate_left
              · (intro w hSw; (try dsimp only at hSw); go_simp; try with_reducible rfl)
              try simp only [Act.put, List.setIfInBounds_toArray, List.set_cons_zero, List.set_cons_succ, List.getElem_toArray, List.getElem_cons_succ, List.getElem_cons_zero]
              refine' wpAnyH_take (i := 5) (v := _) rfl (by kernel_rfl) (by kernel_rfl) (by kernel_rfl) (fun _ _ _ h => h) (Or.inl ⟨by rfl, ?_⟩) hHeld ?_
              rotate_left
              · (intro w hSw; (try dsimp only at hSw); go_simp; try with_reducible rfl)
              try simp only [Act.put, List.setIfInBounds_toArray, List.set_cons_zero, List.set_cons_succ, List.getElem_toArray, List.getElem_cons_succ, List.getElem_cons_zero]
              refine' wpAnyH_take (i := 6) (v := _) rfl (by kernel_rfl) (by kernel_rfl) (by kernel_rfl) (fun _ _ _ h => h) (Or.inl ⟨by rfl, ?_⟩) hHeld ?_
              rotate_left
              · (intro w hSw; (try dsimp only at hSw); go_simp; try with_reducible rfl)
              try simp only [Act.put, List.setIfInBounds_toArray, List.set_cons_zero, List.set_cons_succ, List.getElem_toArray, List.getElem_cons_succ, List.getElem_cons_zero]
              refine' wpAnyH_take (i := 7) (v := _) rfl (by kernel_rfl) (by kernel_rfl) (by kernel_rfl) (fun _ _ _ h => h) (Or.inl ⟨by rfl, ?_⟩) hHeld ?_
              rotate_left
              · (intro w hSw; (try dsimp only at hSw); go_simp; try with_reducible rfl)
              try simp only [Act.put, List.setIfInBounds_toArray, List.set_cons_zero, List.set_cons_succ, List.getElem_toArray, List.getElem_cons_succ, List.getElem_cons_zero]
              refine' wpAnyH_take (i := 8) (v := _) rfl (by kernel_rfl) (by kernel_rfl) (by kernel_rfl) (fun _ _ _ h => h) (Or.inl ⟨by rfl, ?_⟩) hHeld ?_
              rotate_left
              · (intro w hSw; (try dsimp only at hSw); go_simp; try with_reducible rfl)
              try simp only [Act.put, List.setIfInBounds_toArray, List.set_cons_zero, List.set_cons_succ, List.getElem_toArray, List.getElem_cons_succ, List.getElem_cons_zero]
              refine' wpAnyH_take (i := 11) (v := _) rfl (by kernel_rfl) (by kernel_rfl) (by kernel_rfl) (fun _ _ _ h => h) (Or.inl ⟨by rfl, ?_⟩) hHeld ?_
              rotate_left
              · (intro w hSw; (try dsimp only at hSw); go_simp; try with_reducible rfl)
              try simp only [Act.put, List.setIfInBounds_toArray, List.set_cons_zero, List.set_cons_succ, List.getElem_toArray, List.getElem_cons_succ, List.getElem_cons_zero]
              refine' wpAnyH_take (i := 12) (v := _) rfl (by kernel_rfl) (by kernel_rfl) (by kernel_rfl) (fun _ _ _ h => h) (Or.inl ⟨by rfl, ?_⟩) hHeld ?_
              rotate_left
              · (intro w hSw; (try dsimp only at hSw); go_simp; try with_reducible rfl)
              try simp only [Act.put, List.setIfInBounds_toArray, List.set_cons_zero, List.set_cons_succ, List.getElem_toArray, List.getElem_cons_succ, List.getElem_cons_zero]
              refine' wpAnyH_take (i := 13) (v := _) rfl (by kernel_rfl) (by kernel_rfl) (by kernel_rfl) (fun _ _ _ h => h) (Or.inl ⟨by rfl, ?_⟩) hHeld ?_
              rotate_left
              · (intro w hSw; (try dsimp only at hSw); go_simp; try with_reducible rfl)
              try simp only [Act.put, List.setIfInBounds_toArray, List.set_cons_zero, List.set_cons_succ, List.getElem_toArray, List.getElem_cons_succ, List.getElem_cons_zero]
              refine wpAnyH_ready (rs := [0, 9]) (by kernel_rfl) (by simp) ?_
              refine AllReadyH.cons (o := _) rfl (fun K hK => ?_) (AllReadyH.cons (o := _) rfl (fun K hK => ?_) AllReadyH.nil)
              · have hH2 := hHeld
                have ca := hH2
                have hg : (wi.drew).grownBy ((wi.drew).alloc (.cells #[] 2)) none := World.grownBy_alloc _ _ _
                replace TG := hid TG.out.fresh
                try rw [size_alloc'] at TG
                have L0 := hid (show (((wi.drew).alloc (.cells #[] 2)).cell? ⟨ab, ao + k, none⟩ = some (.int .i64 x)) from hg.cell ca (by simp))
                clear hHeld hg ca
                try simp only [List.getElem_toArray, List.getElem_cons_succ, List.getElem_cons_zero]
                go_simp
                refine hK.out _ _ ?_ (fun hHeld => ?_)
                · exact L0.out
                clear hK K
                try dsimp only at hHeld
                try simp only [Act.put, List.setIfInBounds_toArray, List.set_cons_zero, List.set_cons_succ, List.getElem_toArray, List.getElem_cons_succ, List.getElem_cons_zero]
                refine wpAnyH_ready (rs := [4, 9]) (by kernel_rfl) (by simp) ?_
                refine AllReadyH.cons (o := _) rfl (fun K hK => ?_) (AllReadyH.cons (o := _) rfl (fun K hK => ?_) AllReadyH.nil)
                · have hH2 := hHeld
                  have ca := hH2
                  try simp only [List.getElem_toArray, List.getElem_cons_succ, List.getElem_cons_zero]
                  rw [if_pos (by rfl)]
                  refine wp_append_ints _ _ rfl w.heap.size _ _ rfl TG.out.own _ _ rfl (TG.out.tl.hd.take HJ.out).1 (by have := HK.out; have := HM.out; simp only [List.length_append, List.length_cons, List.length_nil, List.length_take, List.length_drop]; omega) TG.out.gr.size ?_
                  intro v1 w71 hown hgrow hat
                  replace TG := hid (TG.out.app hown hgrow hat)
                  clear hown hgrow hat
                  have L4 := hid (show (w71.cell? ⟨ab, ao + k, none⟩ = some (.int .i64 x)) from TG.out.hd.at HX.out)
                  clear hHeld ca
                  refine hK.out _ _ ?_ (fun hHeld => ?_)
                  · exact L4.out
                  clear hK K
                  try dsimp only at hHeld
                  try simp only [Act.put, List.setIfInBounds_toArray, List.set_cons_zero, List.set_cons_succ, List.getElem_toArray, List.getElem_cons_succ, List.getElem_cons_zero]
                  refine wpAnyH_ready (rs := [9]) (by kernel_rfl) (by simp) ?_
                  refine AllReadyH.cons (o := _) rfl (fun K hK => ?_) AllReadyH.nil
                  have hH2 := hHeld
                  have ca := hH2
                  have hg : w71.grownBy (w71.alloc (.cells #[.int .i64 x] 2)) none := World.grownBy_alloc _ _ _
                  replace TG := hid (TG.out.one x)
                  try rw [size_alloc'] at TG
                  have L9 := hid (show ((w71.alloc (.cells #[.int .i64 x] 2)).cell? ⟨ab, ao + k, none⟩ = some (.int .i64 x)) from hg.cell ca (by simp))
                  clear hHeld hg ca
                  try simp only [List.getElem_toArray, List.getElem_cons_succ, List.getElem_cons_zero]
                  go_simp
                  refine hK.out _ _ ?_ (fun hHeld => ?_)
                  · exact L9.out
                  clear hK K
                  try dsimp only at hHeld
                  try simp only [Act.put, List.setIfInBounds_toArray, List.set_cons_zero, List.set_cons_succ, List.getElem_toArray, List.getElem_cons_succ, List.getElem_cons_zero]
                  refine wpAnyH_ready (rs := [10]) (by kernel_rfl) (by simp) ?_
                  refine AllReadyH.cons (o := _) rfl (fun K hK => ?_) AllReadyH.nil
                  have hH2 := hHeld
                  have ca := hH2
                  try simp only [List.getElem_toArray, List.getElem_cons_succ, List.getElem_cons_zero]
                  rw [if_pos (by rfl)]
                  refine wp_append_ints _ _ rfl w.heap.size _ _ rfl TG.out.own _ _ rfl TG.out.tl.tl.hd.1 (by have := HK.out; have := HM.out; simp only [List.length_append, List.length_cons, List.length_nil, List.length_take, List.length_drop]; omega) TG.out.gr.size ?_
                  intro v2 w72 hown hgrow hat
                  replace TG := hid (TG.out.app hown hgrow hat)
                  clear hown hgrow hat
                  have L10 := hid (show (w72.cell? ⟨ab, ao + k, none⟩ = some (.int .i64 x)) from TG.out.hd.at HX.out)
                  clear hHeld ca
                  refine hK.out _ _ ?_ (fun hHeld => ?_)
                  · exact L10.out
                  clear hK K
                  try dsimp only at hHeld
                  try simp only [Act.put, List.setIfInBounds_toArray, List.set_cons_zero, List.set_cons_succ, List.getElem_toArray, List.getElem_cons_succ, List.getElem_cons_zero]
                  refine wpAnyH_ready (rs := [14]) (by kernel_rfl) (by simp) ?_
                  refine AllReadyH.cons (o := _) rfl (fun K hK => ?_) AllReadyH.nil
                  have hH2 := hHeld
                  have ca := hH2
                  try simp only [List.getElem_toArray, List.getElem_cons_succ, List.getElem_cons_zero]
                  rw [if_pos (by rfl)]
                  refine wp_append_ints _ _ rfl w.heap.size _ _ rfl TG.out.own _ _ rfl (TG.out.tl.hd.dropI HJ.out).1 (by have := HK.out; have := HM.out; simp only [List.length_append, List.length_cons, List.length_nil, List.length_take, List.length_drop]; omega) TG.out.gr.size ?_
                  intro v3 w73 hown hgrow hat
                  replace TG := hid (TG.out.app hown hgrow hat)
                  clear hown hgrow hat
                  have L14 := hid (show (w73.cell? ⟨ab, ao + k, none⟩ = some (.int .i64 x)) from TG.out.hd.at HX.out)
                  clear hHeld ca
                  refine hK.out _ _ ?_ (fun hHeld => ?_)
                  · exact L14.out
                  clear hK K
                  try dsimp only at hHeld
                  try simp only [Act.put, List.setIfInBounds_toArray, List.set_cons_zero, List.set_cons_succ, List.getElem_toArray, List.getElem_cons_succ, List.getElem_cons_zero]
                  refine' wpAnyH_take (i := 15) (v := _) rfl (by kernel_rfl) (by kernel_rfl) (by kernel_rfl) (fun _ _ _ h => h) (Or.inl ⟨by rfl, ?_⟩) hHeld ?_
                  rotate_left
                  · (intro w hSw; (try dsimp only at hSw); go_simp; try with_reducible rfl)
                  try simp only [Act.put, List.setIfInBounds_toArray, List.set_cons_zero, List.set_cons_succ, List.getElem_toArray, List.getElem_cons_succ, List.getElem_cons_zero]
                  refine wpAnyH_done (by kernel_rfl) ?_ _
                  have ca := hHeld
                  have FIN := hid TG.out.own; have FG := hid TG.out.gr
                  clear ca TG
                  go_wp2_with fail
                  go_roundw
                  case rel => exact ⟨k + 1, hlt, by go_num, by have h : OwnI w.heap.size _ _ (List.take j m ++ [x] ++ List.drop j m) := FIN.out; rw [HINS.out] at h; exact h, FG.out⟩
                  case measure => simp [intOf]; omega
                · have hH2 := hHeld
                  have ca := hH2
                  have hg : ((wi.drew).alloc (.cells #[] 2)).grownBy (((wi.drew).alloc (.cells #[] 2)).alloc (.cells #[.int .i64 x] 2)) none := World.grownBy_alloc _ _ _
                  replace TG := hid (TG.out.one x)
                  try rw [size_alloc'] at TG
                  have L9 := hid (show ((((wi.drew).alloc (.cells #[] 2)).alloc (.cells #[.int .i64 x] 2)).cell? ⟨ab, ao + k, none⟩ = some (.int .i64 x)) from hg.cell ca (by simp))
                  clear hHeld hg ca
                  try simp only [List.getElem_toArray, List.getElem_cons_succ, List.getElem_cons_zero]
                  go_simp
                  refine hK.out _ _ ?_ (fun hHeld => ?_)
                  · exact L9.out
                  clear hK K
                  try dsimp only at hHeld
                  try simp only [Act.put, List.setIfInBounds_toArray, List.set_cons_zero, List.set_cons_succ, List.getElem_toArray, List.getElem_cons_succ, List.getElem_cons_zero]
                  refine wpAnyH_ready (rs := [4]) (by kernel_rfl) (by simp) ?_
                  refine AllReadyH.cons (o := _) rfl (fun K hK => ?_) AllReadyH.nil
                  have hH2 := hHeld
                  have ca := hH2
                  try simp only [List.getElem_toArray, List.getElem_cons_succ, List.getElem_cons_zero]
                  rw [if_pos (by rfl)]
                  refine wp_append_ints _ _ rfl w.heap.size _ _ rfl TG.out.own _ _ rfl (TG.out.tl.hd.take HJ.out).1 (by have := HK.out; have := HM.out; simp only [List.length_append, List.length_cons, List.length_nil, List.length_take, List.length_drop]; omega) TG.out.gr.size ?_
                  intro v1 w71 hown hgrow hat
                  replace TG := hid (TG.out.app hown hgrow hat)
                  clear hown hgrow hat
                  have L4 := hid (show (w71.cell? ⟨ab, ao + k, none⟩ = some (.int .i64 x)) from TG.out.hd.at HX.out)
                  clear hHeld ca
                  refine hK.out _ _ ?_ (fun hHeld => ?_)
                  · exact L4.out
                  clear hK K
                  try dsimp only at hHeld
                  try simp only [Act.put, List.setIfInBounds_toArray, List.set_cons_zero, List.set_cons_succ, List.getElem_toArray, List.getElem_cons_succ, List.getElem_cons_zero]
                  refine wpAnyH_ready (rs := [10]) (by kernel_rfl) (by simp) ?_
                  refine AllReadyH.cons (o := _) rfl (fun K hK => ?_) AllReadyH.nil
                  have hH2 := hHeld
                  have ca := hH2
                  try simp only [List.getElem_toArray, List.getElem_cons_succ, List.getElem_cons_zero]
                  rw [if_pos (by rfl)]
                  refine wp_append_ints _ _ rfl w.heap.size _ _ rfl TG.out.own _ _ rfl TG.out.tl.tl.hd.1 (by have := HK.out; have := HM.out; simp only [List.length_append, List.length_cons, List.length_nil, List.length_take, List.length_drop]; omega) TG.out.gr.size ?_
                  intro v2 w72 hown hgrow hat
                  replace TG := hid (TG.out.app hown hgrow hat)
                  clear hown hgrow hat
                  have L10 := hid (show (w72.cell? ⟨ab, ao + k, none⟩ = some (.int .i64 x)) from TG.out.hd.at HX.out)
                  clear hHeld ca
                  refine hK.out _ _ ?_ (fun hHeld => ?_)
                  · exact L10.out
                  clear hK K
                  try dsimp only at hHeld
                  try simp only [Act.put, List.setIfInBounds_toArray, List.set_cons_zero, List.set_cons_succ, List.getElem_toArray, List.getElem_cons_succ, List.getElem_cons_zero]
                  refine wpAnyH_ready (rs := [14]) (by kernel_rfl) (by simp) ?_
                  refine AllReadyH.cons (o := _) rfl (fun K hK => ?_) AllReadyH.nil
                  have hH2 := hHeld
                  have ca := hH2
                  try simp only [List.getElem_toArray, List.getElem_cons_succ, List.getElem_cons_zero]
                  rw [if_pos (by rfl)]
                  refine wp_append_ints _ _ rfl w.heap.size _ _ rfl TG.out.own _ _ rfl (TG.out.tl.hd.dropI HJ.out).1 (by have := HK.out; have := HM.out; simp only [List.length_append, List.length_cons, List.length_nil, List.length_take, List.length_drop]; omega) TG.out.gr.size ?_
                  intro v3 w73 hown hgrow hat
                  replace TG := hid (TG.out.app hown hgrow hat)
                  clear hown hgrow hat
                  have L14 := hid (show (w73.cell? ⟨ab, ao + k, none⟩ = some (.int .i64 x)) from TG.out.hd.at HX.out)
                  clear hHeld ca
                  refine hK.out _ _ ?_ (fun hHeld => ?_)
                  · exact L14.out
                  clear hK K
                  try dsimp only at hHeld
                  try simp only [Act.put, List.setIfInBounds_toArray, List.set_cons_zero, List.set_cons_succ, List.getElem_toArray, List.getElem_cons_succ, List.getElem_cons_zero]
                  refine' wpAnyH_take (i := 15) (v := _) rfl (by kernel_rfl) (by kernel_rfl) (by kernel_rfl) (fun _ _ _ h => h) (Or.inl ⟨by rfl, ?_⟩) hHeld ?_
                  rotate_left
                  · (intro w hSw; (try dsimp only at hSw); go_simp; try with_reducible rfl)
                  try simp only [Act.put, List.setIfInBounds_toArray, List.set_cons_zero, List.set_cons_succ, List.getElem_toArray, List.getElem_cons_succ, List.getElem_cons_zero]
                  refine wpAnyH_done (by kernel_rfl) ?_ _
                  have ca := hHeld
                  have FIN := hid TG.out.own; have FG := hid TG.out.gr
                  clear ca TG
                  go_wp2_with fail
                  go_roundw
                  case rel => exact ⟨k + 1, hlt, by go_num, by have h : OwnI w.heap.size _ _ (List.take j m ++ [x] ++ List.drop j m) := FIN.out; rw [HINS.out] at h; exact h, FG.out⟩
                  case measure => simp [intOf]; omega
              · have hH2 := hHeld
                have ca := hH2
                have hg : (wi.drew).grownBy ((wi.drew).alloc (.cells #[.int .i64 x] 2)) none := World.grownBy_alloc _ _ _
                replace TG := hid (TG.out.one x)
                try rw [size_alloc'] at TG
                have L9 := hid (show (((wi.drew).alloc (.cells #[.int .i64 x] 2)).cell? ⟨ab, ao + k, none⟩ = some (.int .i64 x)) from hg.cell ca (by simp))
                clear hHeld hg ca
                try simp only [List.getElem_toArray, List.getElem_cons_succ, List.getElem_cons_zero]
                go_simp
                refine hK.out _ _ ?_ (fun hHeld => ?_)
                · exact L9.out
                clear hK K
                try dsimp only at hHeld
                try simp only [Act.put, List.setIfInBounds_toArray, List.set_cons_zero, List.set_cons_succ, List.getElem_toArray, List.getElem_cons_succ, List.getElem_cons_zero]
                refine wpAnyH_ready (rs := [0]) (by kernel_rfl) (by simp) ?_
                refine AllReadyH.cons (o := _) rfl (fun K hK => ?_) AllReadyH.nil
                have hH2 := hHeld
                have ca := hH2
                have hg : ((wi.drew).alloc (.cells #[.int .i64 x] 2)).grownBy (((wi.drew).alloc (.cells #[.int .i64 x] 2)).alloc (.cells #[] 2)) none := World.grownBy_alloc _ _ _
                replace TG := hid TG.out.fresh
                try rw [size_alloc'] at TG
                have L0 := hid (show ((((wi.drew).alloc (.cells #[.int .i64 x] 2)).alloc (.cells #[] 2)).cell? ⟨ab, ao + k, none⟩ = some (.int .i64 x)) from hg.cell ca (by simp))
                clear hHeld hg ca
                try simp only [List.getElem_toArray, List.getElem_cons_succ, List.getElem_cons_zero]
                go_simp
                refine hK.out _ _ ?_ (fun hHeld => ?_)
                · exact L0.out
                clear hK K
                try dsimp only at hHeld
                try simp only [Act.put, List.setIfInBounds_toArray, List.set_cons_zero, List.set_cons_succ, List.getElem_toArray, List.getElem_cons_succ, List.getElem_cons_zero]
                refine wpAnyH_ready (rs := [4]) (by kernel_rfl) (by simp) ?_
                refine AllReadyH.cons (o := _) rfl (fun K hK => ?_) AllReadyH.nil
                have hH2 := hHeld
                have ca := hH2
                try simp only [List.getElem_toArray, List.getElem_cons_succ, List.getElem_cons_zero]
                rw [if_pos (by rfl)]
                refine wp_append_ints _ _ rfl w.heap.size _ _ rfl TG.out.own _ _ rfl (TG.out.tl.hd.take HJ.out).1 (by have := HK.out; have := HM.out; simp only [List.length_append, List.length_cons, List.length_nil, List.length_take, List.length_drop]; omega) TG.out.gr.size ?_
                intro v1 w71 hown hgrow hat
                replace TG := hid (TG.out.app hown hgrow hat)
                clear hown hgrow hat
                have L4 := hid (show (w71.cell? ⟨ab, ao + k, none⟩ = some (.int .i64 x)) from TG.out.hd.at HX.out)
                clear hHeld ca
                refine hK.out _ _ ?_ (fun hHeld => ?_)
                · exact L4.out
                clear hK K
                try dsimp only at hHeld
                try simp only [Act.put, List.setIfInBounds_toArray, List.set_cons_zero, List.set_cons_succ, List.getElem_toArray, List.getElem_cons_succ, List.getElem_cons_zero]
                refine wpAnyH_ready (rs := [10]) (by kernel_rfl) (by simp) ?_
                refine AllReadyH.cons (o := _) rfl (fun K hK => ?_) AllReadyH.nil
                have hH2 := hHeld
                have ca := hH2
                try simp only [List.getElem_toArray, List.getElem_cons_succ, List.getElem_cons_zero]
                rw [if_pos (by rfl)]
                refine wp_append_ints _ _ rfl w.heap.size _ _ rfl TG.out.own _ _ rfl TG.out.tl.tl.hd.1 (by have := HK.out; have := HM.out; simp only [List.length_append, List.length_cons, List.length_nil, List.length_take, List.length_drop]; omega) TG.out.gr.size ?_
                intro v2 w72 hown hgrow hat
                replace TG := hid (TG.out.app hown hgrow hat)
                clear hown hgrow hat
                have L10 := hid (show (w72.cell? ⟨ab, ao + k, none⟩ = some (.int .i64 x)) from TG.out.hd.at HX.out)
                clear hHeld ca
                refine hK.out _ _ ?_ (fun hHeld => ?_)
                · exact L10.out
                clear hK K
                try dsimp only at hHeld
                try simp only [Act.put, List.setIfInBounds_toArray, List.set_cons_zero, List.set_cons_succ, List.getElem_toArray, List.getElem_cons_succ, List.getElem_cons_zero]
                refine wpAnyH_ready (rs := [14]) (by kernel_rfl) (by simp) ?_
                refine AllReadyH.cons (o := _) rfl (fun K hK => ?_) AllReadyH.nil
                have hH2 := hHeld
                have ca := hH2
                try simp only [List.getElem_toArray, List.getElem_cons_succ, List.getElem_cons_zero]
                rw [if_pos (by rfl)]
                refine wp_append_ints _ _ rfl w.heap.size _ _ rfl TG.out.own _ _ rfl (TG.out.tl.hd.dropI HJ.out).1 (by have := HK.out; have := HM.out; simp only [List.length_append, List.length_cons, List.length_nil, List.length_take, List.length_drop]; omega) TG.out.gr.size ?_
                intro v3 w73 hown hgrow hat
                replace TG := hid (TG.out.app hown hgrow hat)
                clear hown hgrow hat
                have L14 := hid (show (w73.cell? ⟨ab, ao + k, none⟩ = some (.int .i64 x)) from TG.out.hd.at HX.out)
                clear hHeld ca
                refine hK.out _ _ ?_ (fun hHeld => ?_)
                · exact L14.out
                clear hK K
                try dsimp only at hHeld
                try simp only [Act.put, List.setIfInBounds_toArray, List.set_cons_zero, List.set_cons_succ, List.getElem_toArray, List.getElem_cons_succ, List.getElem_cons_zero]
                refine' wpAnyH_take (i := 15) (v := _) rfl (by kernel_rfl) (by kernel_rfl) (by kernel_rfl) (fun _ _ _ h => h) (Or.inl ⟨by rfl, ?_⟩) hHeld ?_
                rotate_left
                · (intro w hSw; (try dsimp only at hSw); go_simp; try with_reducible rfl)
                try simp only [Act.put, List.setIfInBounds_toArray, List.set_cons_zero, List.set_cons_succ, List.getElem_toArray, List.getElem_cons_succ, List.getElem_cons_zero]
                refine wpAnyH_done (by kernel_rfl) ?_ _
                have ca := hHeld
                have FIN := hid TG.out.own; have FG := hid TG.out.gr
                clear ca TG
                go_wp2_with fail
                go_roundw
                case rel => exact ⟨k + 1, hlt, by go_num, by have h : OwnI w.heap.size _ _ (List.take j m ++ [x] ++ List.drop j m) := FIN.out; rw [HINS.out] at h; exact h, FG.out⟩
                case measure => simp [intOf]; omega
    · obtain rfl : k = n := by omega
      have hfin : OwnI w.heap.size wo (.slice pm k cm) (ms l) := by
        have h := HO.out
        rw [← hm, List.take_of_length_le (by rw [HN.out]; omega)] at h
        exact h
      have FIN := hid hfin
      clear hfin hm hml HO HM
      have q0 : ¬ (k : Int) < (k : Int) := by omega
      go_wp2_with fail
      go_ret
      exact ⟨_, rfl, FIN.out, HG.out⟩
end Go.Proofs.Ytopeceicmpblkaa
