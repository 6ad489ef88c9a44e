/-
  The walk of the statement SealNumbers: each envelope of a generation has the next number; behind a rotation they begin anew. No condition.
-/
import Derived.Test.YtngfnigfkabihaaZ5
import Derived.Test.YtngfnigfkabihaaMOnes
import Derived.Deep.CutRange
set_option linter.unusedSimpArgs false
set_option linter.unusedVariables false
namespace Go.Proofs.Ytngfnigfkabihaa.snums
set_option maxRecDepth 100000
open Go.RowKit

theorem samp_n (seed : BitVec 64) {x g n n1 e : Int} (h : n + 1 = n1) (x0 : 0 ≤ x) (x1 : x < 16) (g0 : 0 ≤ g) (g1 : g ≤ 100) (n0 : 0 ≤ n) (n9 : n ≤ 100) (e0 : 0 ≤ e) (e1 : e ≤ 100) {w : World} {b : Nat} (H : SlAt 83 w b ⟨seed, x, g, n⟩) :
    Calls Try.prog 13 #[.pointer (some ⟨b, 0, none⟩), .int .i64 0, .int .i64 e, .int .i64 5] w (LeavesS w b (sealOf (ofOf seed x g).a (ofOf seed x g).b ⟨1, x, g, n1, e, 5, 0⟩) 0 ⟨seed, x, g, n1⟩) := by
  subst h
  have h := ssample_yes (s := ⟨seed, x, g, n⟩) 0 e 5 (may_sample (who := x) (gen := g) (seq := n + 1) (epoch := e) (value := 5) (metric := 0) (by omega)) w H
  exact h
theorem samp_bad (s : Sl) {w : World} {b : Nat} (H : SlAt 83 w b s) :
    Calls Try.prog 13 #[.pointer (some ⟨b, 0, none⟩), .int .i64 0, .int .i64 (-1), .int .i64 0] w (LeavesS w b [] 1 s) :=
  ssample_no 0 (-1) 0 (decide_eq_false fun h => by have := h.2.2.2.2.1.1; revert this; show ¬ (0 : Int) ≤ -1; decide) w H
theorem rot_n (seed : BitVec 64) {x g gg n n1 e : Int} (h : n + 1 = n1) (hg : g + 1 = gg) (x0 : 0 ≤ x) (x1 : x < 16) (g0 : 0 ≤ g) (g1 : g ≤ 100) (n0 : 0 ≤ n) (n9 : n ≤ 100) (e0 : 0 ≤ e) (e1 : e ≤ 100) {w : World} {b : Nat} (H : SlAt 83 w b ⟨seed, x, g, n⟩) :
    Calls Try.prog 17 #[.pointer (some ⟨b, 0, none⟩), .int .i64 e] w (LeavesS w b (sealOf (ofOf seed x g).a (ofOf seed x g).b ⟨2, x, gg, n1, e, 0, 0⟩) 0 ⟨seed, x, gg, 0⟩) := by
  subst h hg
  have h := srotate_yes (s := ⟨seed, x, g, n⟩) e (may_rotate (who := x) (gen := g + 1) (seq := n + 1) (epoch := e) (by omega)) w H
  exact h

set_option maxHeartbeats 12800000 in
theorem walk (seed : BitVec 64) (who : Int) (f : Nat → Int) (len : Nat) (p : Option Addr) (c : Nat) {w : World} (hF : OneAt w (.slice p len c) len (fun i => .int .i64 (f i))) :
    Calls Try.prog 4 #[.int .u64 (q seed), .int .i64 who, .slice p len c] w fun e w' => e = .returned (.bool true) ∧ w.grownBy w' none := by
  obtain ⟨x, x0, x1, ex⟩ := umod_int who 16 (by omega)
  replace ex : (IntKind.u64.wrap who).tmod 16 = x := ex
  replace x1 : x < 16 := x1
  have hmax := hF.len
  unfold maxLen at hmax
  have N1 := hid (fun w => snew_ok seed x x0 (by omega) w)
  have HF := hid hF
  have SS := hid (fun g n n1 e h g0 g1 n0 n9 e0 e1 w b => @samp_n seed x g n n1 e h x0 x1 g0 g1 n0 n9 e0 e1 w b)
  have SR := hid (fun g gg n n1 e h hg g0 g1 n0 n9 e0 e1 w b => @rot_n seed x g gg n n1 e h hg x0 x1 g0 g1 n0 n9 e0 e1 w b)
  clear hF
  go_enter Try.func4, Try.ntmps4
  go_wp2_with fail
  clear ex
  refine (N1.out _).mono ?_
  rintro e w1 ⟨b, rfl, hs, hg, hb⟩
  have K1 := hid (ko_start hs hg hb); clear hs hg hb N1
  go_wp2_with fail
  go_loopw [9, 10, 11] (fun g n i wr => ∃ (k : Nat) (gg nn : Int), k ≤ len ∧ k ≤ 30 ∧ i = .int .i64 (k : Int) ∧ g = .int .i64 gg ∧ n = .int .i64 nn ∧ (0 ≤ gg ∧ gg ≤ (k : Int) ∧ 0 ≤ nn ∧ nn ≤ 2 * (k : Int)) ∧ Ko w 83 b ⟨seed, x, gg, nn⟩ [] [] wr) (fun _ _ i _ => len - (intOf i).toNat)
  case atStart => exact ⟨0, 0, 0, Nat.zero_le _, Nat.zero_le _, rfl, rfl, rfl, by omega, K1.out⟩
  case round =>
    obtain ⟨k, g, n, hk, hk30, rfl, rfl, rfl, hb4, hp⟩ := hrel
    have K2 := hid hp; have HB := hid hb4; clear hp hb4 K1
    have g0 : 0 ≤ g := HB.out.1
    have g9 : g ≤ 30 := by have := HB.out; omega
    have n0 : 0 ≤ n := HB.out.2.2.1
    have n9 : n ≤ 60 := by have := HB.out; omega
    have q1 : (0 : Int) ≤ (k : Int) := by omega
    by_cases hlt : k < len ∧ k < 30
    · have q0 : (k : Int) < (len : Int) := by omega
      have q2 : (k : Int) < 30 := by omega
      have hlt1 := hlt.1; have hlt2 := hlt.2
      obtain ⟨ab, ao, rfl, hc⟩ := (HF.out.grown K2.out.g).cell hlt1
      have ck := hc k hlt1
      generalize f k = z at ck
      obtain ⟨y, y0, y1, ey⟩ := umod_int z 5 (by omega)
      replace ey : (IntKind.u64.wrap z).tmod 5 = y := ey
      replace y1 : y < 5 := y1
      clear hc hlt hk
      obtain ⟨n1, hn1⟩ : ∃ n1 : Int, n + 1 = n1 := ⟨_, rfl⟩
      have s1 : IntKind.i64.wrap (n + 1) = n1 := by rw [hn1]; exact IntWalk.i64_in _ (by omega)
      by_cases h0 : y = 0
      · subst h0
        go_wp2_with fail
        clear ey
        refine (samp_bad _ K2.out.ob).mono ?_
        rintro e w2 ⟨v1, rfl, ho, hs, hc⟩
        have K3 := hid (K2.out.leave hs hc); clear ho hs hc K2 ck
        have SQ := hid (sseq_any _ K3.out.ob)
        go_wp2_with fail
        refine SQ.out.mono ?_
        rintro e w8 ⟨rfl, rfl⟩
        go_wp2_with fail
        go_roundw
        case rel => exact ⟨k + 1, g, n, by omega, by omega, by go_num, rfl, rfl, by have := HB.out; omega, K3.out⟩
        case measure => simp [intOf]; omega
      · have d0 : (y == 0) = false := by simpa using h0
        go_wp2_with fail
        clear ey
        refine (SS.out _ _ _ _ hn1 g0 (by omega) n0 (by omega) q1 (by omega) _ _ K2.out.ob).mono ?_
        rintro e w2 ⟨v1, rfl, ho, hs, hc⟩
        have K3 := hid (K2.out.sealed ho hs hc); clear ho hs hc K2 ck
        by_cases h1 : y = 1
        · subst h1
          obtain ⟨n2, hn2⟩ : ∃ n2 : Int, n1 + 1 = n2 := ⟨_, rfl⟩
          obtain ⟨g1, hg1⟩ : ∃ g1 : Int, g + 1 = g1 := ⟨_, rfl⟩
          have s2 : IntKind.i64.wrap (n1 + 1) = n2 := by rw [hn2]; exact IntWalk.i64_in _ (by omega)
          have s3 : IntKind.i64.wrap (g + 1) = g1 := by rw [hg1]; exact IntWalk.i64_in _ (by omega)
          go_wp2_with fail
          refine (SR.out _ _ _ _ _ hn2 hg1 g0 (by omega) (by omega) (by omega) q1 (by omega) _ _ K3.out.ob).mono ?_
          rintro e w3 ⟨v2, rfl, ho, hs, hc⟩
          have K4 := hid (K3.out.sealed ho hs hc); clear ho hs hc K3
          have hm := may_rotate (who := x) (gen := g1) (seq := n2) (epoch := (k : Int)) (by omega)
          obtain ⟨ka, hka⟩ : ∃ ka, (ofOf seed x g).a = ka := ⟨_, rfl⟩
          obtain ⟨kb, hkb⟩ : ∃ kb, (ofOf seed x g).b = kb := ⟨_, rfl⟩
          rw [hka, hkb] at K4
          clear hka hkb
          have SP := split_own (⟨2, x, g1, n2, (k : Int), 0, 0⟩ : Mg) hm ka kb v2 _ K4.out.y0
          generalize sumOf ka kb (putOf (⟨2, x, g1, n2, (k : Int), 0, 0⟩ : Mg)) = ta at SP
          generalize sumOf kb (inv ka) (putOf (⟨2, x, g1, n2, (k : Int), 0, 0⟩ : Mg)) = tb at SP
          generalize putOf (⟨2, x, g1, n2, (k : Int), 0, 0⟩ : Mg) = pm at SP
          obtain ⟨mm, hmm⟩ : ∃ mm : Mg, mm = ⟨2, x, g1, n2, (k : Int), 0, 0⟩ := ⟨_, rfl⟩
          rw [← hmm] at SP
          have hmk : mm.kind = 2 ∧ mm.who = x ∧ mm.gen = g1 ∧ mm.seq = n2 := by rw [hmm]; exact ⟨rfl, rfl, rfl, rfl⟩
          have HMK := hid hmk; clear hmm hmk hm
          go_wp2_with fail
          refine SP.mono ?_
          rintro e w5 ⟨u1, rfl, ho, hg⟩
          have k5 := ((K4.out.grown hg).alloc (msgObj mm)).alloc (tagObj ta tb)
          rw [size_alloc] at k5
          have k5' : Ko w 83 b ⟨seed, x, g1, 0⟩ [(w5.heap.size, msgObj mm)] [] ((w5.alloc (msgObj mm)).alloc (tagObj ta tb)) := ⟨k5.ob, k5.lo, k5.g, fun x hx => k5.bl x (List.mem_cons_of_mem _ hx), fun x hx => k5.ne x (List.mem_cons_of_mem _ hx), fun x hx => by cases hx⟩
          have K5 := hid k5'; clear k5 k5' ho hg K4 SP
          go_upto_region 20 with fail
          refine wp_gen (fun wx => Ko w 83 b ⟨seed, x, g1, 0⟩ [(w5.heap.size, msgObj mm)] [] wx) K5.out ?_
          clear K5
          generalize w5.heap.size + 1 = t2
          generalize w5.heap.size = t1
          intro w6 h6
          have c0 : w6.cell? ⟨t1, 0, none⟩ = some (.int .i64 2) := by have := at_cell h6.b0 0; rw [show mm.cells[0]? = some (.int .i64 2) by simp [Mg.cells, HMK.out]] at this; exact this
          have c1 : w6.cell? ⟨t1, 1, none⟩ = some (.int .i64 x) := by have := at_cell h6.b0 1; rw [show mm.cells[1]? = some (.int .i64 x) by simp [Mg.cells, HMK.out]] at this; exact this
          have c2 : w6.cell? ⟨t1, 2, none⟩ = some (.int .i64 g1) := by have := at_cell h6.b0 2; rw [show mm.cells[2]? = some (.int .i64 g1) by simp [Mg.cells, HMK.out]] at this; exact this
          have c3 : w6.cell? ⟨t1, 3, none⟩ = some (.int .i64 n2) := by have := at_cell h6.b0 3; rw [show mm.cells[3]? = some (.int .i64 n2) by simp [Mg.cells, HMK.out]] at this; exact this
          have SQ := hid (sseq_any _ h6.ob)
          have SG := hid (sgen_any _ h6.ob)
          have K6 := hid h6; clear h6 HMK
          go_wp2_with fail
          refine SG.out.mono ?_
          rintro e w8 ⟨rfl, rfl⟩
          go_wp2_with fail
          refine SQ.out.mono ?_
          rintro e w8 ⟨rfl, rfl⟩
          go_wp2_with fail
          go_roundw
          case rel => exact ⟨k + 1, g1, 0, by omega, by omega, by go_num, rfl, rfl, by have := HB.out; omega, ⟨K6.out.ob, K6.out.lo, K6.out.g, (fun _ h => by cases h), (fun _ h => by cases h), (fun _ h => by cases h)⟩⟩
          case measure => simp [intOf]; omega
        · have d1 : (y == 1) = false := by simpa using h1
          have K4 := hid K3.out; clear K3
          have hm := may_sample (who := x) (gen := g) (seq := n1) (epoch := (k : Int)) (value := 5) (metric := 0) (by omega)
          obtain ⟨ka, hka⟩ : ∃ ka, (ofOf seed x g).a = ka := ⟨_, rfl⟩
          obtain ⟨kb, hkb⟩ : ∃ kb, (ofOf seed x g).b = kb := ⟨_, rfl⟩
          rw [hka, hkb] at K4
          clear hka hkb
          have SP := split_own (⟨1, x, g, n1, (k : Int), 5, 0⟩ : Mg) hm ka kb v1 _ K4.out.y0
          generalize sumOf ka kb (putOf (⟨1, x, g, n1, (k : Int), 5, 0⟩ : Mg)) = ta at SP
          generalize sumOf kb (inv ka) (putOf (⟨1, x, g, n1, (k : Int), 5, 0⟩ : Mg)) = tb at SP
          generalize putOf (⟨1, x, g, n1, (k : Int), 5, 0⟩ : Mg) = pm at SP
          obtain ⟨mm, hmm⟩ : ∃ mm : Mg, mm = ⟨1, x, g, n1, (k : Int), 5, 0⟩ := ⟨_, rfl⟩
          rw [← hmm] at SP
          have hmk : mm.kind = 1 ∧ mm.who = x ∧ mm.gen = g ∧ mm.seq = n1 := by rw [hmm]; exact ⟨rfl, rfl, rfl, rfl⟩
          have HMK := hid hmk; clear hmm hmk hm
          go_wp2_with fail
          refine SP.mono ?_
          rintro e w5 ⟨u1, rfl, ho, hg⟩
          have k5 := ((K4.out.grown hg).alloc (msgObj mm)).alloc (tagObj ta tb)
          rw [size_alloc] at k5
          have k5' : Ko w 83 b ⟨seed, x, g, n1⟩ [(w5.heap.size, msgObj mm)] [] ((w5.alloc (msgObj mm)).alloc (tagObj ta tb)) := ⟨k5.ob, k5.lo, k5.g, fun x hx => k5.bl x (List.mem_cons_of_mem _ hx), fun x hx => k5.ne x (List.mem_cons_of_mem _ hx), fun x hx => by cases hx⟩
          have K5 := hid k5'; clear k5 k5' ho hg K4 SP
          go_upto_region 20 with fail
          refine wp_gen (fun wx => Ko w 83 b ⟨seed, x, g, n1⟩ [(w5.heap.size, msgObj mm)] [] wx) K5.out ?_
          clear K5
          generalize w5.heap.size + 1 = t2
          generalize w5.heap.size = t1
          intro w6 h6
          have c0 : w6.cell? ⟨t1, 0, none⟩ = some (.int .i64 1) := by have := at_cell h6.b0 0; rw [show mm.cells[0]? = some (.int .i64 1) by simp [Mg.cells, HMK.out]] at this; exact this
          have c1 : w6.cell? ⟨t1, 1, none⟩ = some (.int .i64 x) := by have := at_cell h6.b0 1; rw [show mm.cells[1]? = some (.int .i64 x) by simp [Mg.cells, HMK.out]] at this; exact this
          have c2 : w6.cell? ⟨t1, 2, none⟩ = some (.int .i64 g) := by have := at_cell h6.b0 2; rw [show mm.cells[2]? = some (.int .i64 g) by simp [Mg.cells, HMK.out]] at this; exact this
          have c3 : w6.cell? ⟨t1, 3, none⟩ = some (.int .i64 n1) := by have := at_cell h6.b0 3; rw [show mm.cells[3]? = some (.int .i64 n1) by simp [Mg.cells, HMK.out]] at this; exact this
          have SQ := hid (sseq_any _ h6.ob)
          have SG := hid (sgen_any _ h6.ob)
          have K6 := hid h6; clear h6 HMK
          go_wp2_with fail
          refine SG.out.mono ?_
          rintro e w8 ⟨rfl, rfl⟩
          go_wp2_with fail
          refine SQ.out.mono ?_
          rintro e w8 ⟨rfl, rfl⟩
          go_wp2_with fail
          go_roundw
          case rel => exact ⟨k + 1, g, n1, by omega, by omega, by go_num, rfl, rfl, by have := HB.out; omega, ⟨K6.out.ob, K6.out.lo, K6.out.g, (fun _ h => by cases h), (fun _ h => by cases h), (fun _ h => by cases h)⟩⟩
          case measure => simp [intOf]; omega
    · by_cases hkl : k < len
      · have q0 : (k : Int) < (len : Int) := by omega
        have q2 : decide ((k : Int) < 30) = false := by simp; omega
        clear hlt
        go_wp2_with fail
        refine (told_any _).mono ?_
        rintro e w9 ⟨rfl, hg⟩
        have K9 := hid (K2.out.grown hg); clear hg K2
        go_wp2_with fail
        go_ret
        exact ⟨rfl, K9.out.g⟩
      · have hkl' : k = len := by omega
        subst hkl'
        clear hlt hkl
        go_wp2_with fail
        refine (told_any _).mono ?_
        rintro e w9 ⟨rfl, hg⟩
        have K9 := hid (K2.out.grown hg); clear hg K2
        go_wp2_with fail
        go_ret
        exact ⟨rfl, K9.out.g⟩
end Go.Proofs.Ytngfnigfkabihaa.snums
