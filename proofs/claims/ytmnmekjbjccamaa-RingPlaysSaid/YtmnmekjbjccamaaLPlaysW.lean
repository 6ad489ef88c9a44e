/-
  The walk of the statement RingPlays: generations, keys, are what the document says, step by step. No condition.
-/
import Derived.Test.YtmnmekjbjccamaaLPlaysA
import Derived.Deep.CutRange
import Derived.Deep.CutBlock
set_option linter.unusedSimpArgs false
set_option linter.unusedVariables false
namespace Go.Proofs.Ytmnmekjbjccamaa.plays
set_option maxRecDepth 100000
open Go.RowKit
open Go.Proofs.Ytmnmekjbjccamaa.grace (umod_int keyObj rkey_is)
open Go.Proofs.Ytmnmekjbjccamaa.others (fkey_is)

set_option maxHeartbeats 1600000 in
theorem walk_bad (seed : BitVec 64) (n grace : Int) (hb : ¬ (1 ≤ n ∧ n ≤ 16 ∧ 1 ≤ grace ∧ grace ≤ 100)) (v : Value) {w : World} :
    Calls Try.prog 5 #[.int .u64 (q seed), .int .i64 n, .int .i64 grace, v] w fun e w' => e = .returned (.bool true) ∧ w.grownBy w' none := by
  have H1 := hid (fun w => rnew_nil seed n grace hb w)
  have H2 := hid (fun w => fnew_nil seed n grace hb w)
  clear hb
  go_enter Try.func5, Try.ntmps5
  go_wp2_with fail
  refine (H1.out _).mono ?_
  rintro e w1 ⟨rfl, rfl⟩
  go_wp2_with fail
  refine (H2.out _).mono ?_
  rintro e w1 ⟨rfl, rfl⟩
  go_wp2_with fail
  refine (told_any _).mono ?_
  rintro e w2 ⟨rfl, hg⟩
  have G2 := hid hg; clear hg
  go_wp2_with fail
  go_ret
  exact ⟨rfl, G2.out⟩

set_option maxHeartbeats 1600000 in
theorem walk_long (seed : BitVec 64) (n grace : Nat) (n1 : 1 ≤ n) (n2 : n ≤ 16) (g1 : 1 ≤ grace) (g2 : grace ≤ 100) (p : Option Addr) (c len : Nat) (hl : 40 < len) {w : World} :
    Calls Try.prog 5 #[.int .u64 (q seed), .int .i64 (n : Int), .int .i64 (grace : Int), .slice p len c] w fun e w' => e = .returned (.bool true) ∧ w.grownBy w' none := by
  have H1 := hid (fun w => rnew_ok seed n grace n1 n2 g1 g2 w)
  have H2 := hid (fun w => fnew_ok seed n grace n1 n2 g1 g2 w)
  have hd : (40 : Int) < (len : Int) := by omega
  clear hl
  go_enter Try.func5, Try.ntmps5
  go_wp2_with fail
  refine (H1.out _).mono ?_
  rintro e w1 ⟨b, h, rfl, hr, hg, hb0, hh0⟩
  have G1 := hid hg; clear hr hg hb0 hh0
  go_wp2_with fail
  refine (H2.out _).mono ?_
  rintro e w2 ⟨d, g, s, rfl, hr, hg, hb0, hh0, hs0⟩
  have G2 := hid (gb_trans G1.out hg (.inl rfl)); clear hr hg hb0 hh0 hs0
  go_wp2_with fail
  refine (told_any _).mono ?_
  rintro e w3 ⟨rfl, hg⟩
  have G3 := hid (gb_trans G2.out hg (.inl rfl)); clear hg
  go_wp2_with fail
  go_ret
  exact ⟨rfl, G3.out⟩

theorem wrap_le (x : Int) : wrap64 x ≤ 9223372036854775807 := by unfold wrap64; omega

set_option maxHeartbeats 6400000 in
theorem walk_good (seed : BitVec 64) (n grace : Nat) (n1 : 1 ≤ n) (n2 : n ≤ 16) (g1 : 1 ≤ grace) (g2 : grace ≤ 100) (p : Option Addr) (c len : Nat) (hl : len ≤ 40) (f : Nat → Nat → Int) {w : World} (hG : GridAt w (.slice p len c) 4 len f)
    (hwf : ∀ i, i < len → ∀ j, j < 4 → (Lit.int .i64 (f i j)).wf = true) :
    Calls Try.prog 5 #[.int .u64 (q seed), .int .i64 (n : Int), .int .i64 (grace : Int), .slice p len c] w fun e w' => e = .returned (.bool true) ∧ w.grownBy w' none := by
  have H1 := hid (fun w => rnew_ok seed n grace n1 n2 g1 g2 w)
  have H2 := hid (fun w => fnew_ok seed n grace n1 n2 g1 g2 w)
  have hd : decide ((40 : Int) < (len : Int)) = false := by simp; omega
  have GR := hid hG; have WF := hid hwf; have HL := hid hl
  clear hl hG hwf
  go_enter Try.func5, Try.ntmps5
  go_wp2_with fail
  refine (H1.out _).mono ?_
  rintro e w1 ⟨b, h, rfl, hr, hg, hb0, hh0⟩
  have G1 := hid hg; have R1 := hid hr; have B1 := hid (show w.heap.size ≤ b ∧ w.heap.size ≤ h from ⟨hb0, hh0⟩); clear hr hg hb0 hh0
  go_wp2_with fail
  refine (H2.out _).mono ?_
  rintro e w2 ⟨d, g, s, rfl, hr, hg, hb0, hh0, hs0⟩
  have p2 : Pl w b h d g s (.new seed n grace) (.new seed n grace) w2 := by
    have l1 := R1.out.lt
    have l2 := gb_size G1.out
    exact ⟨(chg_grown G1.out _).grown hg, R1.out.grown hg, hr, ⟨B1.out.2, by omega, by omega⟩, ⟨by omega, by omega⟩, ⟨by omega, by omega, by omega⟩⟩
  have P2 := hid p2; clear p2 hr hg hb0 hh0 hs0 R1 B1 G1 H1 H2
  go_wp2_with fail
  clear hd
  go_loopw [11] (fun i wr => ∃ (k : Nat) (r : Rg), k ≤ len ∧ r.n = n ∧ i = .int .i64 (k : Int) ∧ Pl w b h d g s r r wr) (fun i _ => len - (intOf i).toNat)
  case atStart => exact ⟨0, _, Nat.zero_le _, rfl, rfl, P2.out⟩
  case round =>
    obtain ⟨k, r, hk, hrn, rfl, hp⟩ := hrel
    have P3 := hid hp; have RN := hid hrn; clear hp hrn P2
    by_cases hlt : k < len
    · obtain ⟨ab, ao, rfl, hab, hc⟩ := (P3.out.grid GR.out).cells hlt (by decide)
      have c0 : wr.cell? ⟨ab, ao + k * 4, none⟩ = some (.int .i64 (f k 0)) := hc 0 (by decide)
      have c1 : wr.cell? ⟨ab, ao + k * 4 + 1, none⟩ = some (.int .i64 (f k 1)) := hc 1 (by decide)
      have c2 : wr.cell? ⟨ab, ao + k * 4 + 2, none⟩ = some (.int .i64 (f k 2)) := hc 2 (by decide)
      have c3 : wr.cell? ⟨ab, ao + k * 4 + 3, none⟩ = some (.int .i64 (f k 3)) := hc 3 (by decide)
      have WB := hid (WF.out k hlt 2 (by decide))
      clear hc hab
      generalize f k 0 = o0 at c0
      generalize f k 1 = o1 at c1
      generalize f k 2 = o2 at c2 WB
      generalize f k 3 = o3 at c3
      have hk0 : (0 : Int) ≤ (k : Int) := by omega
      have hk1 : (k : Int) < (len : Int) := by omega
      go_upto_region 12 with fail
      refine wp_gen (fun wx => Po w b h d g s wr.heap.size o0 o1 o2 o3 r r wx) (P3.out.step o0 o1 o2 o3) ?_
      generalize wr.heap.size = x
      intro w4 hp
      have P4 := hid hp; clear hp P3 c0 c1 c2 c3
      go_upto_if 52 with fail
      have hM : o2 ≤ 9223372036854775807 := by
        have h := WB.out
        simp only [Lit.wf, Bool.and_eq_true, decide_eq_true_eq] at h
        have e : IntKind.i64.max = 9223372036854775807 := by decide
        omega
      have HM := hid hM; clear hM
      go_cut [] from 50 to 76 (fun wx => ∃ a v : Int, v ≤ 9223372036854775807 ∧ Po w b h d g s x o0 a v o3 r r wx)
      case first =>
        by_cases h4 : (k : Int) % 4 < 3
        · obtain ⟨y0, y1, y2, y3, z1, z2⟩ := P4.out.cells
          obtain ⟨I, hI, ew⟩ := umod_small o1 n n1
          have i0 : (0 : Int) ≤ (I : Int) := by omega
          have i1 : (I : Int) < (n : Int) := by omega
          have hcn : IntKind.u64.wrap (n : Int) = (n : Int) := IntWalk.u64_in _ (by omega)
          go_upto_region 14 with fail
          have P5 := hid (P4.out.setA (I : Int))
          generalize w4.setCell ⟨x, 1, none⟩ (.int .i64 (I : Int)) = w5 at P5 ⊢
          obtain ⟨y0, y1, y2, y3, z1, z2⟩ := P5.out.cells
          obtain ⟨t0, t1, t2, t3⟩ := P5.out.rf.tops
          obtain ⟨cg, cs, fg, fs⟩ := P5.out.rf.cells (i := I) (by rw [RN.out]; exact hI)
          have hI' : I < r.n := by rw [RN.out]; exact hI
          go_region
          all_goals
            go_wp2_with fail
            go_meet
            exact ⟨_, _, wrap_le _, (P5.out.setV _).drew⟩
        · have h5 : (3 : Int) ≤ (k : Int) % 4 := by omega
          clear h4
          go_wp2_with fail
          go_meet
          exact ⟨o1, o2, HM.out, P4.out⟩
      case rest =>
        obtain ⟨a, v, hv, hp⟩ := hcut
        have P5 := hid hp; have HV := hid hv; clear hp hv P4
        obtain ⟨y0, y1, y2, y3, z1, z2⟩ := P5.out.cells
        go_upto_block 2 with fail
        clear y0 y1 y2 y3 z1 z2
        generalize bits .and .i64 o0 7 = y
        go_cut [] from 80 to 149 (fun wx => ∃ r' : Rg, r'.n = n ∧ Pl w b h d g s r' r' wx)
        case first =>
          by_cases hy : y < 2
          · go_upto_region 21 with fail
            refine wp_region_held_drew (S := (fun w' => (∃ r1 r2, Po w b h d g s x o0 a v o3 r1 r2 w'))) (by kernel_rfl) ⟨_, _, P5.out.drew⟩ (fun hHeld => ?_)
            try dsimp only at hHeld
            refine' wpAnyH_take (i := 0) (v := _) rfl (by kernel_rfl) (by kernel_rfl) (by kernel_rfl) (fun _ _ _ h => h) (Or.inl ⟨by rfl, ?_⟩) hHeld ?_
            rotate_left
            · (intro w hSw; (try dsimp only at hSw); go_simp; try with_reducible rfl)
            try simp only [Act.put, List.setIfInBounds_toArray, List.set_cons_zero, List.set_cons_succ, List.getElem_toArray, List.getElem_cons_succ, List.getElem_cons_zero]
            refine' wpAnyH_take (i := 1) (v := _) rfl (by kernel_rfl) (by kernel_rfl) (by kernel_rfl) (fun _ _ _ h => h) (Or.inl ⟨by rfl, ?_⟩) hHeld ?_
            rotate_left
            · (intro w hSw; (try dsimp only at hSw); go_simp; try with_reducible rfl)
            try simp only [Act.put, List.setIfInBounds_toArray, List.set_cons_zero, List.set_cons_succ, List.getElem_toArray, List.getElem_cons_succ, List.getElem_cons_zero]
            refine' wpAnyH_take (i := 2) (v := _) rfl (by kernel_rfl) (by kernel_rfl) (by kernel_rfl) (fun _ _ _ h => h) (Or.inl ⟨by rfl, ?_⟩) hHeld ?_
            rotate_left
            · (intro w hSw; (try dsimp only at hSw); have po := hSw; obtain ⟨_, _, po⟩ := po; obtain ⟨y0, y1, y2, y3, _, _⟩ := po.cells; go_simp; try with_reducible rfl)
            try simp only [Act.put, List.setIfInBounds_toArray, List.set_cons_zero, List.set_cons_succ, List.getElem_toArray, List.getElem_cons_succ, List.getElem_cons_zero]
            refine' wpAnyH_take (i := 3) (v := _) rfl (by kernel_rfl) (by kernel_rfl) (by kernel_rfl) (fun _ _ _ h => h) (Or.inl ⟨by rfl, ?_⟩) hHeld ?_
            rotate_left
            · (intro w hSw; (try dsimp only at hSw); go_simp; try with_reducible rfl)
            try simp only [Act.put, List.setIfInBounds_toArray, List.set_cons_zero, List.set_cons_succ, List.getElem_toArray, List.getElem_cons_succ, List.getElem_cons_zero]
            refine' wpAnyH_take (i := 4) (v := _) rfl (by kernel_rfl) (by kernel_rfl) (by kernel_rfl) (fun _ _ _ h => h) (Or.inl ⟨by rfl, ?_⟩) hHeld ?_
            rotate_left
            · (intro w hSw; (try dsimp only at hSw); have po := hSw; obtain ⟨_, _, po⟩ := po; obtain ⟨y0, y1, y2, y3, _, _⟩ := po.cells; go_simp; try with_reducible rfl)
            try simp only [Act.put, List.setIfInBounds_toArray, List.set_cons_zero, List.set_cons_succ, List.getElem_toArray, List.getElem_cons_succ, List.getElem_cons_zero]
            refine' wpAnyH_take (i := 5) (v := _) rfl (by kernel_rfl) (by kernel_rfl) (by kernel_rfl) (fun _ _ _ h => h) (Or.inl ⟨by rfl, ?_⟩) hHeld ?_
            rotate_left
            · (intro w hSw; (try dsimp only at hSw); go_simp; try with_reducible rfl)
            try simp only [Act.put, List.setIfInBounds_toArray, List.set_cons_zero, List.set_cons_succ, List.getElem_toArray, List.getElem_cons_succ, List.getElem_cons_zero]
            refine' wpAnyH_take (i := 6) (v := _) rfl (by kernel_rfl) (by kernel_rfl) (by kernel_rfl) (fun _ _ _ h => h) (Or.inl ⟨by rfl, ?_⟩) hHeld ?_
            rotate_left
            · (intro w hSw; (try dsimp only at hSw); have po := hSw; obtain ⟨_, _, po⟩ := po; obtain ⟨y0, y1, y2, y3, _, _⟩ := po.cells; go_simp; try with_reducible rfl)
            try simp only [Act.put, List.setIfInBounds_toArray, List.set_cons_zero, List.set_cons_succ, List.getElem_toArray, List.getElem_cons_succ, List.getElem_cons_zero]
            refine' wpAnyH_take (i := 8) (v := _) rfl (by kernel_rfl) (by kernel_rfl) (by kernel_rfl) (fun _ _ _ h => h) (Or.inl ⟨by rfl, ?_⟩) hHeld ?_
            rotate_left
            · (intro w hSw; (try dsimp only at hSw); go_simp; try with_reducible rfl)
            try simp only [Act.put, List.setIfInBounds_toArray, List.set_cons_zero, List.set_cons_succ, List.getElem_toArray, List.getElem_cons_succ, List.getElem_cons_zero]
            refine' wpAnyH_take (i := 9) (v := _) rfl (by kernel_rfl) (by kernel_rfl) (by kernel_rfl) (fun _ _ _ h => h) (Or.inl ⟨by rfl, ?_⟩) hHeld ?_
            rotate_left
            · (intro w hSw; (try dsimp only at hSw); go_simp; try with_reducible rfl)
            try simp only [Act.put, List.setIfInBounds_toArray, List.set_cons_zero, List.set_cons_succ, List.getElem_toArray, List.getElem_cons_succ, List.getElem_cons_zero]
            refine' wpAnyH_take (i := 10) (v := _) rfl (by kernel_rfl) (by kernel_rfl) (by kernel_rfl) (fun _ _ _ h => h) (Or.inl ⟨by rfl, ?_⟩) hHeld ?_
            rotate_left
            · (intro w hSw; (try dsimp only at hSw); have po := hSw; obtain ⟨_, _, po⟩ := po; obtain ⟨y0, y1, y2, y3, _, _⟩ := po.cells; go_simp; try with_reducible rfl)
            try simp only [Act.put, List.setIfInBounds_toArray, List.set_cons_zero, List.set_cons_succ, List.getElem_toArray, List.getElem_cons_succ, List.getElem_cons_zero]
            refine' wpAnyH_take (i := 11) (v := _) rfl (by kernel_rfl) (by kernel_rfl) (by kernel_rfl) (fun _ _ _ h => h) (Or.inl ⟨by rfl, ?_⟩) hHeld ?_
            rotate_left
            · (intro w hSw; (try dsimp only at hSw); go_simp; try with_reducible rfl)
            try simp only [Act.put, List.setIfInBounds_toArray, List.set_cons_zero, List.set_cons_succ, List.getElem_toArray, List.getElem_cons_succ, List.getElem_cons_zero]
            refine' wpAnyH_take (i := 12) (v := _) rfl (by kernel_rfl) (by kernel_rfl) (by kernel_rfl) (fun _ _ _ h => h) (Or.inl ⟨by rfl, ?_⟩) hHeld ?_
            rotate_left
            · (intro w hSw; (try dsimp only at hSw); have po := hSw; obtain ⟨_, _, po⟩ := po; obtain ⟨y0, y1, y2, y3, _, _⟩ := po.cells; go_simp; try with_reducible rfl)
            try simp only [Act.put, List.setIfInBounds_toArray, List.set_cons_zero, List.set_cons_succ, List.getElem_toArray, List.getElem_cons_succ, List.getElem_cons_zero]
            refine' wpAnyH_take (i := 13) (v := _) rfl (by kernel_rfl) (by kernel_rfl) (by kernel_rfl) (fun _ _ _ h => h) (Or.inl ⟨by rfl, ?_⟩) hHeld ?_
            rotate_left
            · (intro w hSw; (try dsimp only at hSw); go_simp; try with_reducible rfl)
            try simp only [Act.put, List.setIfInBounds_toArray, List.set_cons_zero, List.set_cons_succ, List.getElem_toArray, List.getElem_cons_succ, List.getElem_cons_zero]
            refine' wpAnyH_take (i := 14) (v := _) rfl (by kernel_rfl) (by kernel_rfl) (by kernel_rfl) (fun _ _ _ h => h) (Or.inl ⟨by rfl, ?_⟩) hHeld ?_
            rotate_left
            · (intro w hSw; (try dsimp only at hSw); have po := hSw; obtain ⟨_, _, po⟩ := po; obtain ⟨y0, y1, y2, y3, _, _⟩ := po.cells; go_simp; try with_reducible rfl)
            try simp only [Act.put, List.setIfInBounds_toArray, List.set_cons_zero, List.set_cons_succ, List.getElem_toArray, List.getElem_cons_succ, List.getElem_cons_zero]
            refine wpAnyH_ready (rs := [7]) (by kernel_rfl) (by simp) ?_
            refine AllReadyH.cons (o := _) rfl (fun K hK => ?_) AllReadyH.nil
            try simp only [List.getElem_toArray, List.getElem_cons_succ, List.getElem_cons_zero]
            go_simp
            have hH2 := hHeld
            have po := hH2
            refine (P5.out.drew.viaR (rrot_any a v o3 _ P5.out.drew.rg)).mono ?_
            rintro e w1007 ⟨rfl, hg⟩
            have T7 := hid hg
            have L7 := hid (show (∃ r1 r2, Po w b h d g s x o0 a v o3 r1 r2 w1007) from ⟨_, _, hg⟩)
            clear hHeld hg po
            go_wp2_with fail
            refine hK.out _ _ ?_ (fun hHeld => ?_)
            · exact L7.out
            clear hK K
            try dsimp only at hHeld
            try simp only [Act.put, List.setIfInBounds_toArray, List.set_cons_zero, List.set_cons_succ, List.getElem_toArray, List.getElem_cons_succ, List.getElem_cons_zero]
            refine wpAnyH_ready (rs := [15]) (by kernel_rfl) (by simp) ?_
            refine AllReadyH.cons (o := _) rfl (fun K hK => ?_) AllReadyH.nil
            try simp only [List.getElem_toArray, List.getElem_cons_succ, List.getElem_cons_zero]
            go_simp
            have hH2 := hHeld
            have po := hH2
            refine (T7.out.viaF (frot_any a v o3 _ T7.out.rf HV.out)).mono ?_
            rintro e w1015 ⟨rfl, hg⟩
            have T15 := hid hg
            have L15 := hid (show (∃ r1 r2, Po w b h d g s x o0 a v o3 r1 r2 w1015) from ⟨_, _, hg⟩)
            clear hHeld hg po
            go_wp2_with fail
            refine hK.out _ _ ?_ (fun hHeld => ?_)
            · exact L15.out
            clear hK K
            try dsimp only at hHeld
            try simp only [Act.put, List.setIfInBounds_toArray, List.set_cons_zero, List.set_cons_succ, List.getElem_toArray, List.getElem_cons_succ, List.getElem_cons_zero]
            refine' wpAnyH_take (i := 16) (v := _) rfl (by kernel_rfl) (by kernel_rfl) (by kernel_rfl) (fun _ _ _ h => h) (Or.inl ⟨by rfl, ?_⟩) hHeld ?_
            rotate_left
            · (intro w hSw; (try dsimp only at hSw); go_simp; try with_reducible rfl)
            try simp only [Act.put, List.setIfInBounds_toArray, List.set_cons_zero, List.set_cons_succ, List.getElem_toArray, List.getElem_cons_succ, List.getElem_cons_zero]
            refine wpAnyH_done (by kernel_rfl) ?_ _
            have po := hHeld
            clear po
            go_wp2_with fail
            go_meet
            exact ⟨_, (rot_n _ _ _ _).trans RN.out, T15.out.toPl⟩
          · have hy2 : 2 ≤ y := by omega
            by_cases hy3 : y = 3
            · subst hy3
              clear hy hy2
              go_upto_region 24 with fail
              refine wp_region_held_drew (S := (fun w' => (∃ r1 r2, Po w b h d g s x o0 a v o3 r1 r2 w'))) (by kernel_rfl) ⟨_, _, P5.out.drew⟩ (fun hHeld => ?_)
              try dsimp only at hHeld
              refine' wpAnyH_take (i := 0) (v := _) rfl (by kernel_rfl) (by kernel_rfl) (by kernel_rfl) (fun _ _ _ h => h) (Or.inl ⟨by rfl, ?_⟩) hHeld ?_
              rotate_left
              · (intro w hSw; (try dsimp only at hSw); go_simp; try with_reducible rfl)
              try simp only [Act.put, List.setIfInBounds_toArray, List.set_cons_zero, List.set_cons_succ, List.getElem_toArray, List.getElem_cons_succ, List.getElem_cons_zero]
              refine' wpAnyH_take (i := 1) (v := _) rfl (by kernel_rfl) (by kernel_rfl) (by kernel_rfl) (fun _ _ _ h => h) (Or.inl ⟨by rfl, ?_⟩) hHeld ?_
              rotate_left
              · (intro w hSw; (try dsimp only at hSw); go_simp; try with_reducible rfl)
              try simp only [Act.put, List.setIfInBounds_toArray, List.set_cons_zero, List.set_cons_succ, List.getElem_toArray, List.getElem_cons_succ, List.getElem_cons_zero]
              refine' wpAnyH_take (i := 2) (v := _) rfl (by kernel_rfl) (by kernel_rfl) (by kernel_rfl) (fun _ _ _ h => h) (Or.inl ⟨by rfl, ?_⟩) hHeld ?_
              rotate_left
              · (intro w hSw; (try dsimp only at hSw); have po := hSw; obtain ⟨_, _, po⟩ := po; obtain ⟨y0, y1, y2, y3, _, _⟩ := po.cells; go_simp; try with_reducible rfl)
              try simp only [Act.put, List.setIfInBounds_toArray, List.set_cons_zero, List.set_cons_succ, List.getElem_toArray, List.getElem_cons_succ, List.getElem_cons_zero]
              refine' wpAnyH_take (i := 3) (v := _) rfl (by kernel_rfl) (by kernel_rfl) (by kernel_rfl) (fun _ _ _ h => h) (Or.inl ⟨by rfl, ?_⟩) hHeld ?_
              rotate_left
              · (intro w hSw; (try dsimp only at hSw); go_simp; try with_reducible rfl)
              try simp only [Act.put, List.setIfInBounds_toArray, List.set_cons_zero, List.set_cons_succ, List.getElem_toArray, List.getElem_cons_succ, List.getElem_cons_zero]
              refine' wpAnyH_take (i := 4) (v := _) rfl (by kernel_rfl) (by kernel_rfl) (by kernel_rfl) (fun _ _ _ h => h) (Or.inl ⟨by rfl, ?_⟩) hHeld ?_
              rotate_left
              · (intro w hSw; (try dsimp only at hSw); have po := hSw; obtain ⟨_, _, po⟩ := po; obtain ⟨y0, y1, y2, y3, _, _⟩ := po.cells; go_simp; try with_reducible rfl)
              try simp only [Act.put, List.setIfInBounds_toArray, List.set_cons_zero, List.set_cons_succ, List.getElem_toArray, List.getElem_cons_succ, List.getElem_cons_zero]
              refine' wpAnyH_take (i := 5) (v := _) rfl (by kernel_rfl) (by kernel_rfl) (by kernel_rfl) (fun _ _ _ h => h) (Or.inl ⟨by rfl, ?_⟩) hHeld ?_
              rotate_left
              · (intro w hSw; (try dsimp only at hSw); go_simp; try with_reducible rfl)
              try simp only [Act.put, List.setIfInBounds_toArray, List.set_cons_zero, List.set_cons_succ, List.getElem_toArray, List.getElem_cons_succ, List.getElem_cons_zero]
              refine' wpAnyH_take (i := 6) (v := _) rfl (by kernel_rfl) (by kernel_rfl) (by kernel_rfl) (fun _ _ _ h => h) (Or.inl ⟨by rfl, ?_⟩) hHeld ?_
              rotate_left
              · (intro w hSw; (try dsimp only at hSw); have po := hSw; obtain ⟨_, _, po⟩ := po; obtain ⟨y0, y1, y2, y3, _, _⟩ := po.cells; go_simp; try with_reducible rfl)
              try simp only [Act.put, List.setIfInBounds_toArray, List.set_cons_zero, List.set_cons_succ, List.getElem_toArray, List.getElem_cons_succ, List.getElem_cons_zero]
              refine' wpAnyH_take (i := 8) (v := _) rfl (by kernel_rfl) (by kernel_rfl) (by kernel_rfl) (fun _ _ _ h => h) (Or.inl ⟨by rfl, ?_⟩) hHeld ?_
              rotate_left
              · (intro w hSw; (try dsimp only at hSw); go_simp; try with_reducible rfl)
              try simp only [Act.put, List.setIfInBounds_toArray, List.set_cons_zero, List.set_cons_succ, List.getElem_toArray, List.getElem_cons_succ, List.getElem_cons_zero]
              refine' wpAnyH_take (i := 9) (v := _) rfl (by kernel_rfl) (by kernel_rfl) (by kernel_rfl) (fun _ _ _ h => h) (Or.inl ⟨by rfl, ?_⟩) hHeld ?_
              rotate_left
              · (intro w hSw; (try dsimp only at hSw); go_simp; try with_reducible rfl)
              try simp only [Act.put, List.setIfInBounds_toArray, List.set_cons_zero, List.set_cons_succ, List.getElem_toArray, List.getElem_cons_succ, List.getElem_cons_zero]
              refine' wpAnyH_take (i := 10) (v := _) rfl (by kernel_rfl) (by kernel_rfl) (by kernel_rfl) (fun _ _ _ h => h) (Or.inl ⟨by rfl, ?_⟩) hHeld ?_
              rotate_left
              · (intro w hSw; (try dsimp only at hSw); have po := hSw; obtain ⟨_, _, po⟩ := po; obtain ⟨y0, y1, y2, y3, _, _⟩ := po.cells; go_simp; try with_reducible rfl)
              try simp only [Act.put, List.setIfInBounds_toArray, List.set_cons_zero, List.set_cons_succ, List.getElem_toArray, List.getElem_cons_succ, List.getElem_cons_zero]
              refine' wpAnyH_take (i := 11) (v := _) rfl (by kernel_rfl) (by kernel_rfl) (by kernel_rfl) (fun _ _ _ h => h) (Or.inl ⟨by rfl, ?_⟩) hHeld ?_
              rotate_left
              · (intro w hSw; (try dsimp only at hSw); go_simp; try with_reducible rfl)
              try simp only [Act.put, List.setIfInBounds_toArray, List.set_cons_zero, List.set_cons_succ, List.getElem_toArray, List.getElem_cons_succ, List.getElem_cons_zero]
              refine' wpAnyH_take (i := 12) (v := _) rfl (by kernel_rfl) (by kernel_rfl) (by kernel_rfl) (fun _ _ _ h => h) (Or.inl ⟨by rfl, ?_⟩) hHeld ?_
              rotate_left
              · (intro w hSw; (try dsimp only at hSw); have po := hSw; obtain ⟨_, _, po⟩ := po; obtain ⟨y0, y1, y2, y3, _, _⟩ := po.cells; go_simp; try with_reducible rfl)
              try simp only [Act.put, List.setIfInBounds_toArray, List.set_cons_zero, List.set_cons_succ, List.getElem_toArray, List.getElem_cons_succ, List.getElem_cons_zero]
              refine' wpAnyH_take (i := 13) (v := _) rfl (by kernel_rfl) (by kernel_rfl) (by kernel_rfl) (fun _ _ _ h => h) (Or.inl ⟨by rfl, ?_⟩) hHeld ?_
              rotate_left
              · (intro w hSw; (try dsimp only at hSw); go_simp; try with_reducible rfl)
              try simp only [Act.put, List.setIfInBounds_toArray, List.set_cons_zero, List.set_cons_succ, List.getElem_toArray, List.getElem_cons_succ, List.getElem_cons_zero]
              refine' wpAnyH_take (i := 14) (v := _) rfl (by kernel_rfl) (by kernel_rfl) (by kernel_rfl) (fun _ _ _ h => h) (Or.inl ⟨by rfl, ?_⟩) hHeld ?_
              rotate_left
              · (intro w hSw; (try dsimp only at hSw); have po := hSw; obtain ⟨_, _, po⟩ := po; obtain ⟨y0, y1, y2, y3, _, _⟩ := po.cells; go_simp; try with_reducible rfl)
              try simp only [Act.put, List.setIfInBounds_toArray, List.set_cons_zero, List.set_cons_succ, List.getElem_toArray, List.getElem_cons_succ, List.getElem_cons_zero]
              refine wpAnyH_ready (rs := [7]) (by kernel_rfl) (by simp) ?_
              refine AllReadyH.cons (o := _) rfl (fun K hK => ?_) AllReadyH.nil
              try simp only [List.getElem_toArray, List.getElem_cons_succ, List.getElem_cons_zero]
              go_simp
              have hH2 := hHeld
              have po := hH2
              refine (P5.out.drew.viaR (rset_any a v o3 _ P5.out.drew.rg)).mono ?_
              rintro e w1007 ⟨rfl, hg⟩
              have T7 := hid hg
              have L7 := hid (show (∃ r1 r2, Po w b h d g s x o0 a v o3 r1 r2 w1007) from ⟨_, _, hg⟩)
              clear hHeld hg po
              go_wp2_with fail
              refine hK.out _ _ ?_ (fun hHeld => ?_)
              · exact L7.out
              clear hK K
              try dsimp only at hHeld
              try simp only [Act.put, List.setIfInBounds_toArray, List.set_cons_zero, List.set_cons_succ, List.getElem_toArray, List.getElem_cons_succ, List.getElem_cons_zero]
              refine wpAnyH_ready (rs := [15]) (by kernel_rfl) (by simp) ?_
              refine AllReadyH.cons (o := _) rfl (fun K hK => ?_) AllReadyH.nil
              try simp only [List.getElem_toArray, List.getElem_cons_succ, List.getElem_cons_zero]
              go_simp
              have hH2 := hHeld
              have po := hH2
              refine (T7.out.viaF (fset_any a v o3 _ T7.out.rf)).mono ?_
              rintro e w1015 ⟨rfl, hg⟩
              have T15 := hid hg
              have L15 := hid (show (∃ r1 r2, Po w b h d g s x o0 a v o3 r1 r2 w1015) from ⟨_, _, hg⟩)
              clear hHeld hg po
              go_wp2_with fail
              refine hK.out _ _ ?_ (fun hHeld => ?_)
              · exact L15.out
              clear hK K
              try dsimp only at hHeld
              try simp only [Act.put, List.setIfInBounds_toArray, List.set_cons_zero, List.set_cons_succ, List.getElem_toArray, List.getElem_cons_succ, List.getElem_cons_zero]
              refine' wpAnyH_take (i := 16) (v := _) rfl (by kernel_rfl) (by kernel_rfl) (by kernel_rfl) (fun _ _ _ h => h) (Or.inl ⟨by rfl, ?_⟩) hHeld ?_
              rotate_left
              · (intro w hSw; (try dsimp only at hSw); go_simp; try with_reducible rfl)
              try simp only [Act.put, List.setIfInBounds_toArray, List.set_cons_zero, List.set_cons_succ, List.getElem_toArray, List.getElem_cons_succ, List.getElem_cons_zero]
              refine wpAnyH_done (by kernel_rfl) ?_ _
              have po := hHeld
              clear po
              go_wp2_with fail
              go_meet
              exact ⟨_, (set_n _ _ _ _).trans RN.out, T15.out.toPl⟩
            · have hy4 : (y == 3) = false := by simpa using hy3
              clear hy hy3
              obtain ⟨kk, cc, ek⟩ : ∃ k c, r.key a v o3 = (k, c) := ⟨_, _, rfl⟩
              have EK := hid ek; clear ek
              have ht : ∀ w, (Op.equalIn 10000 34 (.agg #[.int .u64 (q kk.a), .int .u64 (q kk.b)]) (.agg #[.int .u64 (q kk.a), .int .u64 (q kk.b)])).run Try.prog w = .ok true w := fun w => by
                rw [key_equal]; simp
              obtain ⟨y0, y1, y2, y3, z1, z2⟩ := P5.out.cells
              go_wp2_with fail
              refine (rkey_is _ _ P5.out.rg EK.out).mono ?_
              rintro e w6 ⟨rfl, hg⟩
              have K6 := hid (((kp_start wc).grown hg).alloc (keyObj kk)); clear hg y0 y1 y2 y3 z1 z2
              obtain ⟨y0, y1, y2, y3, z1, z2⟩ := (P5.out.grown K6.out.g).cells
              go_wp2_with fail
              refine (fkey_is _ _ (P5.out.grown K6.out.g).rf EK.out).mono ?_
              rintro e w7 ⟨rfl, hg⟩
              have K7 := hid ((K6.out.grown hg).alloc (keyObj kk)); clear hg y0 y1 y2 y3 z1 z2
              go_wp2_with (first | refine wpList_row_w K7.out.b0 Try.underlying34 rfl (by kernel_rfl) rfl rfl rfl rfl ?_ | refine wpList_row_w K7.out.b1 Try.underlying34 rfl (by kernel_rfl) rfl rfl rfl rfl ?_)
              go_meet
              exact ⟨r, RN.out, (P5.out.grown K7.out.g).toPl⟩
        case rest =>
          clear P5
          obtain ⟨r, hrn, hp⟩ := hcut
          have P6 := hid hp; have RN := hid hrn; clear hp hrn
          go_wp2_with fail
          go_loopw [18] (fun j wq => ∃ m : Nat, m ≤ n ∧ j = .int .i64 (m : Int) ∧ Pl w b h d g s r r wq) (fun j _ => n - (intOf j).toNat)
          case atStart => exact ⟨0, Nat.zero_le _, rfl, P6.out⟩
          case round =>
            obtain ⟨m, hmn, rfl, hp⟩ := hrel
            have P7 := hid hp; clear hp P6
            by_cases hm : m < r.n
            · have m0 : (0 : Int) ≤ (m : Int) := by omega
              have m1 : (m : Int) < (r.n : Int) := by omega
              have m2 : (m : Int) < (n : Int) := by have := RN.out; omega
              go_upto_region 29 with fail
              refine wp_region_held_drew (S := (fun w' => (Pl w b h d g s r r w'))) (by kernel_rfl) P7.out.drew (fun hHeld => ?_)
              try dsimp only at hHeld
              refine' wpAnyH_take (i := 0) (v := _) rfl (by kernel_rfl) (by kernel_rfl) (by kernel_rfl) (fun _ _ _ h => h) (Or.inl ⟨by rfl, ?_⟩) hHeld ?_
              rotate_left
              · (intro w hSw; (try dsimp only at hSw); go_simp; try with_reducible rfl)
              try simp only [Act.put, List.setIfInBounds_toArray, List.set_cons_zero, List.set_cons_succ, List.getElem_toArray, List.getElem_cons_succ, List.getElem_cons_zero]
              refine' wpAnyH_take (i := 1) (v := _) rfl (by kernel_rfl) (by kernel_rfl) (by kernel_rfl) (fun _ _ _ h => h) (Or.inl ⟨by rfl, ?_⟩) hHeld ?_
              rotate_left
              · (intro w hSw; (try dsimp only at hSw); go_simp; try with_reducible rfl)
              try simp only [Act.put, List.setIfInBounds_toArray, List.set_cons_zero, List.set_cons_succ, List.getElem_toArray, List.getElem_cons_succ, List.getElem_cons_zero]
              refine' wpAnyH_take (i := 3) (v := _) rfl (by kernel_rfl) (by kernel_rfl) (by kernel_rfl) (fun _ _ _ h => h) (Or.inl ⟨by rfl, ?_⟩) hHeld ?_
              rotate_left
              · (intro w hSw; (try dsimp only at hSw); go_simp; try with_reducible rfl)
              try simp only [Act.put, List.setIfInBounds_toArray, List.set_cons_zero, List.set_cons_succ, List.getElem_toArray, List.getElem_cons_succ, List.getElem_cons_zero]
              refine' wpAnyH_take (i := 4) (v := _) rfl (by kernel_rfl) (by kernel_rfl) (by kernel_rfl) (fun _ _ _ h => h) (Or.inl ⟨by rfl, ?_⟩) hHeld ?_
              rotate_left
              · (intro w hSw; (try dsimp only at hSw); go_simp; try with_reducible rfl)
              try simp only [Act.put, List.setIfInBounds_toArray, List.set_cons_zero, List.set_cons_succ, List.getElem_toArray, List.getElem_cons_succ, List.getElem_cons_zero]
              refine' wpAnyH_take (i := 5) (v := _) rfl (by kernel_rfl) (by kernel_rfl) (by kernel_rfl) (fun _ _ _ h => h) (Or.inl ⟨by rfl, ?_⟩) hHeld ?_
              rotate_left
              · (intro w hSw; (try dsimp only at hSw); go_simp; try with_reducible rfl)
              try simp only [Act.put, List.setIfInBounds_toArray, List.set_cons_zero, List.set_cons_succ, List.getElem_toArray, List.getElem_cons_succ, List.getElem_cons_zero]
              refine' wpAnyH_take (i := 6) (v := _) rfl (by kernel_rfl) (by kernel_rfl) (by kernel_rfl) (fun _ _ _ h => h) (Or.inl ⟨by rfl, ?_⟩) hHeld ?_
              rotate_left
              · (intro w hSw; (try dsimp only at hSw); have pl := hSw; obtain ⟨_, _, u2, u3⟩ := pl.rf.tops; obtain ⟨v0, v1, _, _⟩ := pl.rf.cells hm; go_simp; try with_reducible rfl)
              try simp only [Act.put, List.setIfInBounds_toArray, List.set_cons_zero, List.set_cons_succ, List.getElem_toArray, List.getElem_cons_succ, List.getElem_cons_zero]
              refine' wpAnyH_take (i := 7) (v := _) rfl (by kernel_rfl) (by kernel_rfl) (by kernel_rfl) (fun _ _ _ h => h) (Or.inl ⟨by rfl, ?_⟩) hHeld ?_
              rotate_left
              · (intro w hSw; (try dsimp only at hSw); go_simp; try with_reducible rfl)
              try simp only [Act.put, List.setIfInBounds_toArray, List.set_cons_zero, List.set_cons_succ, List.getElem_toArray, List.getElem_cons_succ, List.getElem_cons_zero]
              refine' wpAnyH_take (i := 8) (v := _) rfl (by kernel_rfl) (by kernel_rfl) (by kernel_rfl) (fun _ _ _ h => h) (Or.inl ⟨by rfl, ?_⟩) hHeld ?_
              rotate_left
              · (intro w hSw; (try dsimp only at hSw); go_simp; try with_reducible rfl)
              try simp only [Act.put, List.setIfInBounds_toArray, List.set_cons_zero, List.set_cons_succ, List.getElem_toArray, List.getElem_cons_succ, List.getElem_cons_zero]
              refine' wpAnyH_take (i := 9) (v := _) rfl (by kernel_rfl) (by kernel_rfl) (by kernel_rfl) (fun _ _ _ h => h) (Or.inl ⟨by rfl, ?_⟩) hHeld ?_
              rotate_left
              · (intro w hSw; (try dsimp only at hSw); have pl := hSw; obtain ⟨_, _, u2, u3⟩ := pl.rf.tops; obtain ⟨v0, v1, _, _⟩ := pl.rf.cells hm; go_simp; try with_reducible rfl)
              try simp only [Act.put, List.setIfInBounds_toArray, List.set_cons_zero, List.set_cons_succ, List.getElem_toArray, List.getElem_cons_succ, List.getElem_cons_zero]
              refine wpAnyH_ready (rs := [2]) (by kernel_rfl) (by simp) ?_
              refine AllReadyH.cons (o := _) rfl (fun K hK => ?_) AllReadyH.nil
              try simp only [List.getElem_toArray, List.getElem_cons_succ, List.getElem_cons_zero]
              go_simp
              have hH2 := hHeld
              have pl := hH2
              refine (P7.out.drew.same (rgen_in m _ P7.out.drew.rg hm)).mono ?_
              rintro e w1002 ⟨rfl, hg⟩
              have T2 := hid hg
              have L2 := hid (show (Pl w b h d g s r r w1002) from hg)
              clear hHeld hg pl
              go_wp2_with fail
              refine hK.out _ _ ?_ (fun hHeld => ?_)
              · exact L2.out
              clear hK K
              try dsimp only at hHeld
              try simp only [Act.put, List.setIfInBounds_toArray, List.set_cons_zero, List.set_cons_succ, List.getElem_toArray, List.getElem_cons_succ, List.getElem_cons_zero]
              refine' wpAnyH_take (i := 10) (v := _) rfl (by kernel_rfl) (by kernel_rfl) (by kernel_rfl) (fun _ _ _ h => h) (Or.inl ⟨by rfl, ?_⟩) hHeld ?_
              rotate_left
              · (intro w hSw; (try dsimp only at hSw); go_simp; try with_reducible rfl)
              try simp only [Act.put, List.setIfInBounds_toArray, List.set_cons_zero, List.set_cons_succ, List.getElem_toArray, List.getElem_cons_succ, List.getElem_cons_zero]
              refine' wpAnyH_take (i := 11) (v := _) rfl (by kernel_rfl) (by kernel_rfl) (by kernel_rfl) (fun _ _ _ h => h) (Or.inl ⟨by rfl, ?_⟩) hHeld ?_
              rotate_left
              · (intro w hSw; (try dsimp only at hSw); go_simp; try with_reducible rfl)
              try simp only [Act.put, List.setIfInBounds_toArray, List.set_cons_zero, List.set_cons_succ, List.getElem_toArray, List.getElem_cons_succ, List.getElem_cons_zero]
              refine' wpAnyH_take (i := 12) (v := _) rfl (by kernel_rfl) (by kernel_rfl) (by kernel_rfl) (fun _ _ _ h => h) (Or.inl ⟨by rfl, ?_⟩) hHeld ?_
              rotate_left
              · (intro w hSw; (try dsimp only at hSw); go_simp; try with_reducible rfl)
              try simp only [Act.put, List.setIfInBounds_toArray, List.set_cons_zero, List.set_cons_succ, List.getElem_toArray, List.getElem_cons_succ, List.getElem_cons_zero]
              refine' wpAnyH_take (i := 13) (v := _) rfl (by kernel_rfl) (by kernel_rfl) (by kernel_rfl) (fun _ _ _ h => h) (Or.inl ⟨by rfl, ?_⟩) hHeld ?_
              rotate_left
              · (intro w hSw; (try dsimp only at hSw); go_simp; try with_reducible rfl)
              try simp only [Act.put, List.setIfInBounds_toArray, List.set_cons_zero, List.set_cons_succ, List.getElem_toArray, List.getElem_cons_succ, List.getElem_cons_zero]
              refine' wpAnyH_take (i := 15) (v := _) rfl (by kernel_rfl) (by kernel_rfl) (by kernel_rfl) (fun _ _ _ h => h) (Or.inl ⟨by rfl, ?_⟩) hHeld ?_
              rotate_left
              · (intro w hSw; (try dsimp only at hSw); go_simp; try with_reducible rfl)
              try simp only [Act.put, List.setIfInBounds_toArray, List.set_cons_zero, List.set_cons_succ, List.getElem_toArray, List.getElem_cons_succ, List.getElem_cons_zero]
              refine' wpAnyH_take (i := 16) (v := _) rfl (by kernel_rfl) (by kernel_rfl) (by kernel_rfl) (fun _ _ _ h => h) (Or.inl ⟨by rfl, ?_⟩) hHeld ?_
              rotate_left
              · (intro w hSw; (try dsimp only at hSw); go_simp; try with_reducible rfl)
              try simp only [Act.put, List.setIfInBounds_toArray, List.set_cons_zero, List.set_cons_succ, List.getElem_toArray, List.getElem_cons_succ, List.getElem_cons_zero]
              refine' wpAnyH_take (i := 17) (v := _) rfl (by kernel_rfl) (by kernel_rfl) (by kernel_rfl) (fun _ _ _ h => h) (Or.inl ⟨by rfl, ?_⟩) hHeld ?_
              rotate_left
              · (intro w hSw; (try dsimp only at hSw); go_simp; try with_reducible rfl)
              try simp only [Act.put, List.setIfInBounds_toArray, List.set_cons_zero, List.set_cons_succ, List.getElem_toArray, List.getElem_cons_succ, List.getElem_cons_zero]
              refine' wpAnyH_take (i := 18) (v := _) rfl (by kernel_rfl) (by kernel_rfl) (by kernel_rfl) (fun _ _ _ h => h) (Or.inl ⟨by rfl, ?_⟩) hHeld ?_
              rotate_left
              · (intro w hSw; (try dsimp only at hSw); have pl := hSw; obtain ⟨_, _, u2, u3⟩ := pl.rf.tops; obtain ⟨v0, v1, _, _⟩ := pl.rf.cells hm; go_simp; try with_reducible rfl)
              try simp only [Act.put, List.setIfInBounds_toArray, List.set_cons_zero, List.set_cons_succ, List.getElem_toArray, List.getElem_cons_succ, List.getElem_cons_zero]
              refine' wpAnyH_take (i := 19) (v := _) rfl (by kernel_rfl) (by kernel_rfl) (by kernel_rfl) (fun _ _ _ h => h) (Or.inl ⟨by rfl, ?_⟩) hHeld ?_
              rotate_left
              · (intro w hSw; (try dsimp only at hSw); go_simp; try with_reducible rfl)
              try simp only [Act.put, List.setIfInBounds_toArray, List.set_cons_zero, List.set_cons_succ, List.getElem_toArray, List.getElem_cons_succ, List.getElem_cons_zero]
              refine' wpAnyH_take (i := 20) (v := _) rfl (by kernel_rfl) (by kernel_rfl) (by kernel_rfl) (fun _ _ _ h => h) (Or.inl ⟨by rfl, ?_⟩) hHeld ?_
              rotate_left
              · (intro w hSw; (try dsimp only at hSw); go_simp; try with_reducible rfl)
              try simp only [Act.put, List.setIfInBounds_toArray, List.set_cons_zero, List.set_cons_succ, List.getElem_toArray, List.getElem_cons_succ, List.getElem_cons_zero]
              refine' wpAnyH_take (i := 21) (v := _) rfl (by kernel_rfl) (by kernel_rfl) (by kernel_rfl) (fun _ _ _ h => h) (Or.inl ⟨by rfl, ?_⟩) hHeld ?_
              rotate_left
              · (intro w hSw; (try dsimp only at hSw); have pl := hSw; obtain ⟨_, _, u2, u3⟩ := pl.rf.tops; obtain ⟨v0, v1, _, _⟩ := pl.rf.cells hm; go_simp; try with_reducible rfl)
              try simp only [Act.put, List.setIfInBounds_toArray, List.set_cons_zero, List.set_cons_succ, List.getElem_toArray, List.getElem_cons_succ, List.getElem_cons_zero]
              refine wpAnyH_ready (rs := [14]) (by kernel_rfl) (by simp) ?_
              refine AllReadyH.cons (o := _) rfl (fun K hK => ?_) AllReadyH.nil
              try simp only [List.getElem_toArray, List.getElem_cons_succ, List.getElem_cons_zero]
              go_simp
              have hH2 := hHeld
              have pl := hH2
              refine (T2.out.same (rsince_in m _ T2.out.rg hm)).mono ?_
              rintro e w1014 ⟨rfl, hg⟩
              have T14 := hid hg
              have L14 := hid (show (Pl w b h d g s r r w1014) from hg)
              clear hHeld hg pl
              go_wp2_with fail
              refine hK.out _ _ ?_ (fun hHeld => ?_)
              · exact L14.out
              clear hK K
              try dsimp only at hHeld
              try simp only [Act.put, List.setIfInBounds_toArray, List.set_cons_zero, List.set_cons_succ, List.getElem_toArray, List.getElem_cons_succ, List.getElem_cons_zero]
              refine' wpAnyH_take (i := 22) (v := _) rfl (by kernel_rfl) (by kernel_rfl) (by kernel_rfl) (fun _ _ _ h => h) (Or.inl ⟨by rfl, ?_⟩) hHeld ?_
              rotate_left
              · (intro w hSw; (try dsimp only at hSw); go_simp; try with_reducible rfl)
              try simp only [Act.put, List.setIfInBounds_toArray, List.set_cons_zero, List.set_cons_succ, List.getElem_toArray, List.getElem_cons_succ, List.getElem_cons_zero]
              refine' wpAnyH_take (i := 23) (v := _) rfl (by kernel_rfl) (by kernel_rfl) (by kernel_rfl) (fun _ _ _ h => h) (Or.inl ⟨by rfl, ?_⟩) hHeld ?_
              rotate_left
              · (intro w hSw; (try dsimp only at hSw); go_simp; try with_reducible rfl)
              try simp only [Act.put, List.setIfInBounds_toArray, List.set_cons_zero, List.set_cons_succ, List.getElem_toArray, List.getElem_cons_succ, List.getElem_cons_zero]
              refine wpAnyH_done (by kernel_rfl) ?_ _
              have pl := hHeld
              clear pl
              go_wp2_with fail
              go_roundw
              case rel => exact ⟨m + 1, by have := RN.out; omega, by go_num, T14.out⟩
              case measure => have := RN.out; simp [intOf]; omega
            · have hmn2 : (n : Int) ≤ (m : Int) := by have := RN.out; omega
              have hk2 : (k : Int) ≤ 40 := by have := HL.out; omega
              go_wp2_with fail
              go_roundw
              case rel => exact ⟨k + 1, r, by omega, RN.out, by go_num, P7.out⟩
              case measure => simp [intOf]; omega
    · have hkl : k = len := by omega
      subst hkl
      have RO := hid (fun W (H : RgAt W b h r) => rgen_out (n : Int) W H (.inr (by have := RN.out; omega)))
      have SO := hid (fun W (H : RgAt W b h r) => rsince_out (-1) W H (.inl (by decide)))
      clear hlt hk
      go_wp2_with fail
      refine (told_any _).mono ?_
      rintro e w9 ⟨rfl, hg⟩
      have P9 := hid (P3.out.grown hg); clear hg P3
      go_wp2_with fail
      refine (RO.out _ P9.out.rg).mono ?_
      rintro e w10 ⟨rfl, rfl⟩
      go_wp2_with fail
      refine (SO.out _ P9.out.rg).mono ?_
      rintro e w10 ⟨rfl, rfl⟩
      go_wp2_with fail
      go_ret
      exact ⟨rfl, P9.out.fin⟩

theorem walk (seed : BitVec 64) (n grace : Int) (p : Option Addr) (c len : Nat) (f : Nat → Nat → Int) {w : World} (hG : GridAt w (.slice p len c) 4 len f) (hwf : ∀ i, i < len → ∀ j, j < 4 → (Lit.int .i64 (f i j)).wf = true) :
    Calls Try.prog 5 #[.int .u64 (q seed), .int .i64 n, .int .i64 grace, .slice p len c] w fun e w' => e = .returned (.bool true) ∧ w.grownBy w' none := by
  by_cases hb : 1 ≤ n ∧ n ≤ 16 ∧ 1 ≤ grace ∧ grace ≤ 100
  · obtain ⟨h1, h2, h3, h4⟩ := hb
    obtain ⟨n, rfl⟩ := Int.eq_ofNat_of_zero_le (show 0 ≤ n by omega)
    obtain ⟨g, rfl⟩ := Int.eq_ofNat_of_zero_le (show 0 ≤ grace by omega)
    by_cases hl : len ≤ 40
    · exact walk_good seed n g (by omega) (by omega) (by omega) (by omega) p c len hl f hG hwf
    · exact walk_long seed n g (by omega) (by omega) (by omega) (by omega) p c len (by omega)
  · exact walk_bad seed n grace hb _
end Go.Proofs.Ytmnmekjbjccamaa.plays
