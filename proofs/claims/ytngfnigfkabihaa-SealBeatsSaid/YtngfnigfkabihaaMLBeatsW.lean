/-
  The walk of the statement SealBeats: beats and samples use one row of numbers. No condition.
-/
import Derived.Test.YtngfnigfkabihaaZ5
import Derived.Test.YtngfnigfkabihaaMOnes
import Derived.Deep.CutRange
set_option linter.unusedSimpArgs false
set_option linter.unusedVariables false
namespace Go.Proofs.Ytngfnigfkabihaa.beats
set_option maxRecDepth 100000
open Go.RowKit

/-- how many of the first k are true -/
def cnt (f : Nat → Bool) : Nat → Nat
  | 0 => 0
  | k + 1 => cnt f k + if f k = true then 1 else 0
theorem cnt_le (f : Nat → Bool) : ∀ k, cnt f k ≤ k
  | 0 => Nat.le_refl _
  | k + 1 => by have := cnt_le f k; simp only [cnt]; split <;> omega
theorem cnt_yes {f : Nat → Bool} {k : Nat} (h : f k = true) : cnt f (k + 1) = cnt f k + 1 := by simp [cnt, h]
theorem cnt_no {f : Nat → Bool} {k : Nat} (h : f k = false) : cnt f (k + 1) = cnt f k := by simp [cnt, h]

theorem samp_b (seed : BitVec 64) {a a1 : Int} (h : a + 1 = a1) (h0 : 0 ≤ a) (h1 : a ≤ 100) {w : World} {b : Nat} (H : SlAt 83 w b ⟨seed, 3, 0, a⟩) :
    Calls Try.prog 13 #[.pointer (some ⟨b, 0, none⟩), .int .i64 0, .int .i64 5, .int .i64 5] w (LeavesS w b (sealOf (ofOf seed 3 0).a (ofOf seed 3 0).b ⟨1, 3, 0, a1, 5, 5, 0⟩) 0 ⟨seed, 3, 0, a1⟩) := by
  subst h
  have h := ssample_yes (s := ⟨seed, 3, 0, a⟩) 0 5 5 (may_sample (who := 3) (gen := 0) (seq := a + 1) (epoch := 5) (value := 5) (metric := 0) (by omega)) w H
  exact h
theorem beat_b (seed : BitVec 64) {a a1 : Int} (h : a + 1 = a1) (h0 : 0 ≤ a) (h1 : a ≤ 100) {w : World} {b : Nat} (H : SlAt 83 w b ⟨seed, 3, 0, a⟩) :
    Calls Try.prog 15 #[.pointer (some ⟨b, 0, none⟩), .int .i64 5] w (LeavesS w b (sealOf (ofOf seed 3 0).a (ofOf seed 3 0).b ⟨3, 3, 0, a1, 5, 0, 0⟩) 0 ⟨seed, 3, 0, a1⟩) := by
  subst h
  have h := sbeat_yes (s := ⟨seed, 3, 0, a⟩) 5 (may_beat (who := 3) (gen := 0) (seq := a + 1) (epoch := 5) (by omega)) w H
  exact h

set_option maxHeartbeats 6400000 in
theorem walk_long (seed : BitVec 64) (p : Option Addr) (c len : Nat) (hl : 30 < len) {w : World} :
    Calls Try.prog 6 #[.int .u64 (q seed), .slice p len c] w fun e w' => e = .returned (.bool true) ∧ w.grownBy w' none := by
  have N1 := hid (fun w => snew_ok seed 3 (by decide) (by decide) w)
  have hd : (30 : Int) < (len : Int) := by omega
  clear hl
  go_enter Try.func6, Try.ntmps6
  go_wp2_with fail
  refine (N1.out _).mono ?_
  rintro e w1 ⟨b, rfl, hs, hg, hb⟩
  have G1 := hid hg; clear hs hg hb
  go_wp2_with fail
  refine (told_any _).mono ?_
  rintro e w2 ⟨rfl, hg⟩
  have G2 := hid (gb_trans G1.out hg (.inl rfl)); clear hg
  go_wp2_with fail
  go_ret
  exact ⟨rfl, G2.out⟩

set_option maxHeartbeats 12800000 in
theorem walk_short (seed : BitVec 64) (f : Nat → Bool) (p : Option Addr) (c len : Nat) (hl : len ≤ 30) {w : World} (hF : OneAt w (.slice p len c) len (fun i => .bool (f i))) :
    Calls Try.prog 6 #[.int .u64 (q seed), .slice p len c] w fun e w' => e = .returned (.bool true) ∧ w.grownBy w' none := by
  have N1 := hid (fun w => snew_ok seed 3 (by decide) (by decide) w)
  have hd : decide ((30 : Int) < (len : Int)) = false := by simp; omega
  have HF := hid hF; have HL := hid hl
  have SB := hid (fun a a1 h h0 h1 w b => @samp_b seed a a1 h h0 h1 w b)
  have BB := hid (fun a a1 h h0 h1 w b => @beat_b seed a a1 h h0 h1 w b)
  generalize (ofOf seed 3 0).a = ka at SB BB
  generalize (ofOf seed 3 0).b = kb at SB BB
  clear hF hl
  go_enter Try.func6, Try.ntmps6
  go_wp2_with fail
  refine (N1.out _).mono ?_
  rintro e w1 ⟨b, rfl, hs, hg, hb⟩
  have K1 := hid (ko_start hs hg hb); clear hs hg hb N1
  go_wp2_with fail
  clear hd
  go_loopw [6] (fun i wr => ∃ (k : Nat) (a : Int), k ≤ len ∧ i = .int .i64 (k : Int) ∧ a = (k : Int) + (cnt f k : Int) ∧ Ko w 83 b ⟨seed, 3, 0, a⟩ [] [] wr) (fun i _ => len - (intOf i).toNat)
  case atStart => exact ⟨0, 0, Nat.zero_le _, rfl, rfl, K1.out⟩
  case round =>
    obtain ⟨k, a, hk, rfl, ha, hp⟩ := hrel
    have K2 := hid hp; have HA := hid ha; clear hp ha K1
    have hcl := cnt_le f k
    have a0 : 0 ≤ a := by have := HA.out; omega
    have a9 : a ≤ 60 := by have := HA.out; have := HL.out; omega
    clear hcl
    by_cases hlt : k < len
    · have q0 : (k : Int) < (len : Int) := by omega
      have q1 : (0 : Int) ≤ (k : Int) := by omega
      have q2 : (k : Int) ≤ 30 := by have := HL.out; omega
      obtain ⟨ab, ao, rfl, _⟩ := (HF.out.grown K2.out.g).cell hlt
      have CC := hid (fun W (h : w.grownBy W none) j (hj : j < len) => by
        obtain ⟨ab', ao', e, h2⟩ := (HF.out.grown h).cell hj
        cases e
        exact h2 j hj)
      obtain ⟨a1, ha1⟩ : ∃ a1 : Int, a + 1 = a1 := ⟨_, rfl⟩
      have s1 : (1 : Int) ≤ a1 := by omega
      have s2 : a1 ≤ 61 := by omega
      go_wp2_with fail
      refine (SB.out _ _ ha1 a0 (by omega) _ _ K2.out.ob).mono ?_
      rintro e w2 ⟨v1, rfl, ho, hs, hc⟩
      have K3 := hid (K2.out.sealed ho hs hc); clear ho hs hc K2
      have ck := CC.out w2 K3.out.g k hlt
      have HA1 := hid ha1; clear ha1
      by_cases hfk : f k = true
      · rw [hfk] at ck
        have HFK := hid hfk; clear hfk
        obtain ⟨a2, ha2⟩ : ∃ a2 : Int, a1 + 1 = a2 := ⟨_, rfl⟩
        have s3 : IntKind.i64.wrap (a1 + 1) = a2 := by rw [ha2]; exact IntWalk.i64_in _ (by omega)
        go_wp2_with fail
        refine (BB.out _ _ ha2 (by omega) (by omega) _ _ K3.out.ob).mono ?_
        rintro e w3 ⟨v2, rfl, ho, hs, hc⟩
        have K4 := hid (K3.out.sealed ho hs hc); clear ho hs hc K3 ck
        have hm := may_beat (who := 3) (gen := 0) (seq := a2) (epoch := 5) (by omega)
        have SP := split_own (⟨3, 3, 0, a2, 5, 0, 0⟩ : Mg) hm ka kb v2 _ K4.out.y0
        generalize sumOf ka kb (putOf (⟨3, 3, 0, a2, 5, 0, 0⟩ : Mg)) = ta at SP
        generalize sumOf kb (inv ka) (putOf (⟨3, 3, 0, a2, 5, 0, 0⟩ : Mg)) = tb at SP
        generalize putOf (⟨3, 3, 0, a2, 5, 0, 0⟩ : Mg) = pm at SP
        obtain ⟨mm, hmm⟩ : ∃ mm : Mg, mm = ⟨3, 3, 0, a2, 5, 0, 0⟩ := ⟨_, rfl⟩
        rw [← hmm] at SP
        have hmk : mm.kind = 3 := by rw [hmm]
        have hms : mm.seq = a2 := by rw [hmm]
        have HMK := hid hmk; have HMS := hid hms; clear hmm hmk hms hm
        go_wp2_with fail
        refine SP.mono ?_
        rintro e w5 ⟨u1, rfl, ho, hg⟩
        have k5 := ((K4.out.grown hg).alloc (msgObj mm)).alloc (tagObj ta tb)
        rw [size_alloc] at k5
        have k5' : Ko w 83 b ⟨seed, 3, 0, a2⟩ [(w5.heap.size, msgObj mm)] [] ((w5.alloc (msgObj mm)).alloc (tagObj ta tb)) := ⟨k5.ob, k5.lo, k5.g, fun x hx => k5.bl x (List.mem_cons_of_mem _ hx), fun x hx => k5.ne x (List.mem_cons_of_mem _ hx), fun x hx => by cases hx⟩
        have K5 := hid k5'; clear k5 k5' ho hg K4 SP
        go_upto_region 13 with fail
        refine wp_gen (fun wx => Ko w 83 b ⟨seed, 3, 0, a2⟩ [(w5.heap.size, msgObj mm)] [] wx) K5.out ?_
        clear K5
        generalize w5.heap.size + 1 = t2
        generalize w5.heap.size = t1
        intro w6 h6
        have K6 := hid h6; clear h6
        go_wp2_with fail
        go_loopw [14, 15] (fun n j wr => ∃ (jj : Nat) (z : Int), jj ≤ k ∧ j = .int .i64 (jj : Int) ∧ n = .int .i64 z ∧ z = (k : Int) + 1 + (cnt f jj : Int) ∧ Ko w 83 b ⟨seed, 3, 0, a2⟩ [(t1, msgObj mm)] [] wr) (fun _ j _ => k - (intOf j).toNat)
        case atStart => exact ⟨0, _, Nat.zero_le _, rfl, by go_num, by simp [cnt], K6.out⟩
        case round =>
          obtain ⟨jj, z, hj, rfl, rfl, hz, hp⟩ := hrel
          have K7 := hid hp; have HZ := hid hz; clear hp hz K6
          have hcj := cnt_le f jj
          have z0 : 0 ≤ z := by have := HZ.out; omega
          have z9 : z ≤ 61 := by have := HZ.out; omega
          clear hcj
          by_cases hjk : jj < k
          · have r0 : (jj : Int) < (k : Int) := by omega
            have r1 : (jj : Int) < (len : Int) := by omega
            have r2 : (0 : Int) ≤ (jj : Int) := by omega
            have cj := CC.out _ K7.out.g jj (by omega)
            by_cases hfj : f jj = true
            · rw [hfj] at cj
              obtain ⟨z1, hz1⟩ : ∃ z1 : Int, z + 1 = z1 := ⟨_, rfl⟩
              have s4 : IntKind.i64.wrap (z + 1) = z1 := by rw [hz1]; exact IntWalk.i64_in _ (by omega)
              have HZ1 := hid (show z1 = (k : Int) + 1 + (cnt f (jj + 1) : Int) by rw [cnt_yes hfj]; have := HZ.out; omega)
              clear hfj hz1
              go_wp2_with fail
              go_roundw
              case rel => exact ⟨jj + 1, z1, by omega, by go_num, rfl, HZ1.out, K7.out⟩
              case measure => simp [intOf]; omega
            · have hfj' : f jj = false := by simpa using hfj
              rw [hfj'] at cj
              have HZ1 := hid (show z = (k : Int) + 1 + (cnt f (jj + 1) : Int) by rw [cnt_no hfj']; exact HZ.out)
              clear hfj hfj'
              go_wp2_with fail
              go_roundw
              case rel => exact ⟨jj + 1, z, by omega, by go_num, rfl, HZ1.out, K7.out⟩
              case measure => simp [intOf]; omega
          · have hjk' : jj = k := by omega
            subst hjk'
            have hza : z = a1 := by have := HZ.out; have := HA.out; have := HA1.out; omega
            subst hza
            have c0 : wr.cell? ⟨t1, 0, none⟩ = some (.int .i64 3) := by have := at_cell K7.out.b0 0; rw [show mm.cells[0]? = some (.int .i64 3) by simp [Mg.cells, HMK.out]] at this; exact this
            have c3 : wr.cell? ⟨t1, 3, none⟩ = some (.int .i64 a2) := by have := at_cell K7.out.b0 3; rw [show mm.cells[3]? = some (.int .i64 a2) by simp [Mg.cells, HMS.out]] at this; exact this
            have ck2 := CC.out _ K7.out.g jj hlt
            rw [HFK.out] at ck2
            have SQ := hid (sseq_any _ K7.out.ob)
            go_wp2_with fail
            refine SQ.out.mono ?_
            rintro e w8 ⟨rfl, rfl⟩
            go_wp2_with fail
            go_roundw
            case rel => exact ⟨jj + 1, _, by omega, by go_num, by rw [cnt_yes HFK.out]; have := HA.out; have := HA1.out; omega, ⟨K7.out.ob, K7.out.lo, K7.out.g, (fun _ h => by cases h), (fun _ h => by cases h), (fun _ h => by cases h)⟩⟩
            case measure => simp [intOf]; omega
      · have hfk' : f k = false := by simpa using hfk
        rw [hfk'] at ck
        have HFK := hid hfk'; clear hfk hfk'
        have K4 := hid K3.out; clear K3
        have hm := may_sample (who := 3) (gen := 0) (seq := a1) (epoch := 5) (value := 5) (metric := 0) (by omega)
        have SP := split_own (⟨1, 3, 0, a1, 5, 5, 0⟩ : Mg) hm ka kb v1 _ K4.out.y0
        generalize sumOf ka kb (putOf (⟨1, 3, 0, a1, 5, 5, 0⟩ : Mg)) = ta at SP
        generalize sumOf kb (inv ka) (putOf (⟨1, 3, 0, a1, 5, 5, 0⟩ : Mg)) = tb at SP
        generalize putOf (⟨1, 3, 0, a1, 5, 5, 0⟩ : Mg) = pm at SP
        obtain ⟨mm, hmm⟩ : ∃ mm : Mg, mm = ⟨1, 3, 0, a1, 5, 5, 0⟩ := ⟨_, rfl⟩
        rw [← hmm] at SP
        have hmk : mm.kind = 1 := by rw [hmm]
        have hms : mm.seq = a1 := by rw [hmm]
        have HMK := hid hmk; have HMS := hid hms; clear hmm hmk hms hm
        go_wp2_with fail
        refine SP.mono ?_
        rintro e w5 ⟨u1, rfl, ho, hg⟩
        have k5 := ((K4.out.grown hg).alloc (msgObj mm)).alloc (tagObj ta tb)
        rw [size_alloc] at k5
        have k5' : Ko w 83 b ⟨seed, 3, 0, a1⟩ [(w5.heap.size, msgObj mm)] [] ((w5.alloc (msgObj mm)).alloc (tagObj ta tb)) := ⟨k5.ob, k5.lo, k5.g, fun x hx => k5.bl x (List.mem_cons_of_mem _ hx), fun x hx => k5.ne x (List.mem_cons_of_mem _ hx), fun x hx => by cases hx⟩
        have K5 := hid k5'; clear k5 k5' ho hg K4 SP
        go_upto_region 13 with fail
        refine wp_gen (fun wx => Ko w 83 b ⟨seed, 3, 0, a1⟩ [(w5.heap.size, msgObj mm)] [] wx) K5.out ?_
        clear K5
        generalize w5.heap.size + 1 = t2
        generalize w5.heap.size = t1
        intro w6 h6
        have K6 := hid h6; clear h6; clear ck
        go_wp2_with fail
        go_loopw [14, 15] (fun n j wr => ∃ (jj : Nat) (z : Int), jj ≤ k ∧ j = .int .i64 (jj : Int) ∧ n = .int .i64 z ∧ z = (k : Int) + 1 + (cnt f jj : Int) ∧ Ko w 83 b ⟨seed, 3, 0, a1⟩ [(t1, msgObj mm)] [] wr) (fun _ j _ => k - (intOf j).toNat)
        case atStart => exact ⟨0, _, Nat.zero_le _, rfl, by go_num, by simp [cnt], K6.out⟩
        case round =>
          obtain ⟨jj, z, hj, rfl, rfl, hz, hp⟩ := hrel
          have K7 := hid hp; have HZ := hid hz; clear hp hz K6
          have hcj := cnt_le f jj
          have z0 : 0 ≤ z := by have := HZ.out; omega
          have z9 : z ≤ 61 := by have := HZ.out; omega
          clear hcj
          by_cases hjk : jj < k
          · have r0 : (jj : Int) < (k : Int) := by omega
            have r1 : (jj : Int) < (len : Int) := by omega
            have r2 : (0 : Int) ≤ (jj : Int) := by omega
            have cj := CC.out _ K7.out.g jj (by omega)
            by_cases hfj : f jj = true
            · rw [hfj] at cj
              obtain ⟨z1, hz1⟩ : ∃ z1 : Int, z + 1 = z1 := ⟨_, rfl⟩
              have s4 : IntKind.i64.wrap (z + 1) = z1 := by rw [hz1]; exact IntWalk.i64_in _ (by omega)
              have HZ1 := hid (show z1 = (k : Int) + 1 + (cnt f (jj + 1) : Int) by rw [cnt_yes hfj]; have := HZ.out; omega)
              clear hfj hz1
              go_wp2_with fail
              go_roundw
              case rel => exact ⟨jj + 1, z1, by omega, by go_num, rfl, HZ1.out, K7.out⟩
              case measure => simp [intOf]; omega
            · have hfj' : f jj = false := by simpa using hfj
              rw [hfj'] at cj
              have HZ1 := hid (show z = (k : Int) + 1 + (cnt f (jj + 1) : Int) by rw [cnt_no hfj']; exact HZ.out)
              clear hfj hfj'
              go_wp2_with fail
              go_roundw
              case rel => exact ⟨jj + 1, z, by omega, by go_num, rfl, HZ1.out, K7.out⟩
              case measure => simp [intOf]; omega
          · have hjk' : jj = k := by omega
            subst hjk'
            have hza : z = a1 := by have := HZ.out; have := HA.out; have := HA1.out; omega
            subst hza
            have c0 : wr.cell? ⟨t1, 0, none⟩ = some (.int .i64 1) := by have := at_cell K7.out.b0 0; rw [show mm.cells[0]? = some (.int .i64 1) by simp [Mg.cells, HMK.out]] at this; exact this
            have c3 : wr.cell? ⟨t1, 3, none⟩ = some (.int .i64 z) := by have := at_cell K7.out.b0 3; rw [show mm.cells[3]? = some (.int .i64 z) by simp [Mg.cells, HMS.out]] at this; exact this
            have ck2 := CC.out _ K7.out.g jj hlt
            rw [HFK.out] at ck2
            have SQ := hid (sseq_any _ K7.out.ob)
            go_wp2_with fail
            refine SQ.out.mono ?_
            rintro e w8 ⟨rfl, rfl⟩
            go_wp2_with fail
            go_roundw
            case rel => exact ⟨jj + 1, _, by omega, by go_num, by rw [cnt_no HFK.out]; have := HA.out; have := HA1.out; omega, ⟨K7.out.ob, K7.out.lo, K7.out.g, (fun _ h => by cases h), (fun _ h => by cases h), (fun _ h => by cases h)⟩⟩
            case measure => simp [intOf]; omega
    · have hkl : k = len := by omega
      subst hkl
      go_wp2_with fail
      refine (told_any _).mono ?_
      rintro e w9 ⟨rfl, hg⟩
      have K9 := hid (K2.out.grown hg); clear hg K2
      go_wp2_with fail
      go_ret
      exact ⟨rfl, K9.out.g⟩

theorem walk (seed : BitVec 64) (f : Nat → Bool) (len : Nat) (p : Option Addr) (c : Nat) {w : World} (hF : OneAt w (.slice p len c) len (fun i => .bool (f i))) :
    Calls Try.prog 6 #[.int .u64 (q seed), .slice p len c] w fun e w' => e = .returned (.bool true) ∧ w.grownBy w' none := by
  by_cases h : 30 < len
  · exact walk_long seed p c len h
  · exact walk_short seed f p c len (by omega) hF
end Go.Proofs.Ytngfnigfkabihaa.beats
