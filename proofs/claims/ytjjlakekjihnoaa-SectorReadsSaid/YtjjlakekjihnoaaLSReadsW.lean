/-
  The walk of the statement SectorReads: what is written is read until it is written again, whatever comes between; spoilt twice by one turn it is as it was. No condition.
-/
import Derived.Test.YtjjlakekjihnoaaSeT
import Derived.Test.YtjjlakekjihnoaaUmi
import Derived.Test.YtjjlakekjihnoaaHeld
set_option linter.unusedSimpArgs false
set_option linter.unusedVariables false
namespace Go.Proofs.Ytjjlakekjihnoaa.lsreads
set_option maxRecDepth 100000
open Go.RowKit

theorem turned_twice (s : List UInt8) (p : Nat) (t : UInt8) (h : p < s.length) : turned (turned s p t) p t = s := by
  unfold turned
  rw [List.set_set, List.getD_eq_getElem?_getD, List.getElem?_set_self h, List.getD_eq_getElem?_getD, List.getElem?_eq_getElem h]
  show s.set p ((s[p] ^^^ t) ^^^ t) = s
  rw [UInt8.xor_assoc, UInt8.xor_self, UInt8.xor_zero, List.set_getElem_self]
theorem turned_at (a : UInt8) {p : Nat} (h : p < 64) (t : UInt8) : (turned (rep a) p t).getD p 0 = a ^^^ t := by
  unfold turned
  rw [List.getD_eq_getElem?_getD, List.getElem?_set_self (by simpa using h), List.getD_eq_getElem?_getD, List.getElem?_replicate, if_pos h]; rfl
/-- what holds of the disk while others are written -/
structure Gd (a : UInt8) (k j : Nat) (d : Dk) : Prop where
  len : d.l.length = 8
  wait : d.wait = false
  down : d.down = false
  n : d.n ≤ j + 1
  at' : d.at k = rep a
theorem gd_code {d : Dk} (h1 : d.l.length = 8) (h2 : d.wait = false) (h3 : d.down = false) {r : Nat} (hr : r < 8) (c : UInt8) : d.code (r : Int) (rep c) = 0 ∧ d.write (r : Int) (rep c) = d.wrote r (rep c) := by
  have hm : d.may (r : Int) (rep c) = true := by unfold Dk.may; rw [Dk.has_of (by omega)]; simp
  unfold Dk.code Dk.write
  rw [h3, hm, h2]
  exact ⟨rfl, rfl⟩
theorem at_set_self {d : Dk} {k : Nat} (h : k < d.l.length) (x : List UInt8) : (d.put k x).at k = x := by
  unfold Dk.at
  rw [List.getD_eq_getElem?_getD, List.getElem?_set_self h]; rfl
theorem Gd.step {a : UInt8} {k j : Nat} {d : Dk} (h : Gd a k j d) {r : Nat} (hr : r < 8) (hne : r ≠ k) (c : UInt8) : d.code (r : Int) (rep c) = 0 ∧ Gd a k (j + 1) (d.write (r : Int) (rep c)) := by
  obtain ⟨h1, h2⟩ := gd_code h.len h.wait h.down hr c
  refine ⟨h1, ?_⟩
  rw [h2]
  refine ⟨by simpa using h.len, h.wait, h.down, by have := h.n; show d.n + 1 ≤ _; omega, ?_⟩
  rw [← h.at']
  unfold Dk.at
  rw [List.getD_eq_getElem?_getD, List.getElem?_set_ne hne, ← List.getD_eq_getElem?_getD]
theorem Gd.first (a : UInt8) {k : Nat} (hk : k < 8) : (Dk.new 8).code (k : Int) (rep a) = 0 ∧ Gd a k 0 ((Dk.new 8).write (k : Int) (rep a)) := by
  obtain ⟨h1, h2⟩ := gd_code (d := Dk.new 8) rfl rfl rfl hk a
  refine ⟨h1, ?_⟩
  rw [h2]
  exact ⟨by simp, rfl, rfl, Nat.le_refl _, at_set_self (d := Dk.new 8) (by simpa using hk) _⟩
theorem spoil_eq {d : Dk} {k p : Nat} (hk : k < d.l.length) (hp : p < 64) (t : UInt8) : d.scode (k : Int) (p : Int) = 0 ∧ d.spoil (k : Int) (p : Int) t = d.spoilt k p t := by
  have hm : d.mays (k : Int) (p : Int) = true := by unfold Dk.mays; rw [Dk.has_of hk]; simp; omega
  unfold Dk.scode Dk.spoil
  rw [hm]; exact ⟨rfl, rfl⟩
theorem read_eq {d : Dk} {k : Nat} (hk : k < d.l.length) : readC d (k : Int) = 0 ∧ readL d (k : Int) = d.at k := by
  unfold readC readL; rw [Dk.has_of hk]; exact ⟨rfl, rfl⟩
theorem Gd.turns {a : UInt8} {k j : Nat} {d : Dk} (h : Gd a k j d) (hk : k < 8) {p : Nat} (hp : p < 64) (t : UInt8) :
    ∃ d2 d3, d.scode (k : Int) (p : Int) = 0 ∧ d.spoil (k : Int) (p : Int) t = d2 ∧ readC d2 (k : Int) = 0 ∧ readL d2 (k : Int) = turned (rep a) p t ∧ d2.scode (k : Int) (p : Int) = 0 ∧ d2.spoil (k : Int) (p : Int) t = d3 ∧ readC d3 (k : Int) = 0 ∧ readL d3 (k : Int) = rep a := by
  have hk1 : k < d.l.length := by rw [h.len]; exact hk
  obtain ⟨e1, e2⟩ := spoil_eq hk1 hp t
  have a2 : (d.spoilt k p t).at k = turned (rep a) p t := by rw [at_set_self hk1, h.at']
  have hk2 : k < (d.spoilt k p t).l.length := by simpa using hk1
  obtain ⟨e3, e4⟩ := spoil_eq hk2 hp t
  have a3 : ((d.spoilt k p t).spoilt k p t).at k = rep a := by rw [at_set_self hk2, a2, turned_twice _ _ _ (by simpa using hp)]
  have hk3 : k < ((d.spoilt k p t).spoilt k p t).l.length := by simpa using hk1
  exact ⟨_, _, e1, e2, (read_eq hk2).1, (read_eq hk2).2.trans a2, e3, e4, (read_eq hk3).1, (read_eq hk3).2.trans a3⟩
theorem byte_of (j : Nat) (h : j < 20) : IntKind.u8.wrap (j : Int) = (j : Int) ∧ ((UInt8.ofNat j).toNat : Int) = (j : Int) := by
  refine ⟨by rw [IntKind.wrap_u8]; omega, ?_⟩
  rw [UInt8.toNat_ofNat']; omega
theorem rem8 (j : Nat) : ∃ r : Nat, r < 8 ∧ (j : Int).tmod 8 = (r : Int) := ⟨j % 8, Nat.mod_lt _ (by decide), by rw [Int.tmod_eq_emod_of_nonneg (by omega)]; omega⟩
theorem filled_as (c : UInt8) {C : Int} (hC : (c.toNat : Int) = C) {x : List UInt8} (hx : rep c = x) (W : World) : Calls Try.prog 11 #[.int .u8 C] W fun e w' => ∃ v, e = .returned v ∧ BytesAt w' v x ∧ W.grownBy w' none := by
  subst hC; subst hx
  refine (filled_any c W).mono ?_
  rintro e w' ⟨rfl, hr, hg⟩
  have ho := own_block (base := W.heap.size) (rep c) hr (by unfold maxLen; simp) (Nat.le_refl _)
  rw [rep_len] at ho
  exact ⟨_, rfl, ho.bytes, hg⟩

set_option maxHeartbeats 12800000 in
theorem walk {w : World} (a : UInt8) (q pl : Int) (t : UInt8) (n : Int) :
    Calls Try.prog 7 #[.int .u8 (a.toNat : Int), .int .i64 q, .int .i64 pl, .int .u8 (t.toNat : Int), .int .i64 n] w fun e w' => e = .returned (.bool true) ∧ w.grownBy w' none := by
  obtain ⟨k, hk, mk⟩ := umod_small q 8 (by omega)
  obtain ⟨p, hp, mp⟩ := umod_small pl 64 (by omega)
  obtain ⟨M, hM, mM⟩ := umod_small n 20 (by omega)
  rw [show ((8 : Nat) : Int) = 8 from rfl] at mk
  rw [show ((64 : Nat) : Int) = 64 from rfl] at mp
  rw [show ((20 : Nat) : Int) = 20 from rfl] at mM
  have wk : IntKind.i64.wrap (k : Int) = (k : Int) := IntWalk.i64_in _ (by omega)
  have wp : IntKind.i64.wrap (p : Int) = (p : Int) := IntWalk.i64_in _ (by omega)
  have wM : IntKind.i64.wrap (M : Int) = (M : Int) := IntWalk.i64_in _ (by omega)
  have hp0 : (0 : Int) ≤ (p : Int) := by omega
  have hp1 : (p : Int) < 64 := by omega
  have hx := u8_xor a t
  have G0 := hid (Gd.first a hk)
  have HK := hid hk; have HP := hid hp; have HMM := hid hM
  have GS := hid (fun j d (h : Gd a k j d) r hr hne c => h.step (r := r) hr hne c)
  have GT := hid (fun j d (h : Gd a k j d) => h.turns hk hp t)
  have GL := hid (fun j d (h : Gd a k j d) => h.n)
  obtain ⟨d0, hd0⟩ : ∃ d, Dk.new 8 = d := ⟨_, rfl⟩
  have HD0 := hid hd0
  have N0 := hid (show d0.n < 1000000000 by rw [← hd0]; decide)
  rw [hd0] at G0
  obtain ⟨rp, hrp⟩ : ∃ x, rep a = x := ⟨_, rfl⟩
  obtain ⟨A, hA⟩ : ∃ A : Int, (a.toNat : Int) = A := ⟨_, rfl⟩
  obtain ⟨T, hT⟩ : ∃ T : Int, (t.toNat : Int) = T := ⟨_, rfl⟩
  have F := hid (fun W => filled_as a hA hrp W)
  have HX := hid (show (turned (rep a) p t).length = 64 by rw [turned_len]; simp)
  have HY := hid (show rp.length = 64 by rw [← hrp]; simp)
  have GX := hid (turned_at a hp t)
  generalize turned (rep a) p t = x at *
  obtain ⟨X, hXX⟩ : ∃ X : Int, ((a ^^^ t).toNat : Int) = X := ⟨_, rfl⟩
  have HXX := hid hXX
  rw [hA, hT, hXX] at hx
  rw [hrp] at G0 GT
  rw [hA, hT]
  have HT := hid hT; have HA := hid hA; have HRP := hid hrp
  have CV := hid (fun w v (h : BytesAt w v rp) => conv_bytes h)
  clear hd0 hA hT hXX hrp
  go_enter Try.func7, Try.ntmps7
  go_wp2_with fail
  refine (dnew_as 8 rfl (by decide) (by decide) _).mono ?_
  rintro e w1 ⟨b, s, rfl, hd, hg, h1, h2⟩
  rw [HD0.out] at hd
  have K := hid (Sk.start hd hg h1 h2 (.refl w none)); clear hd hg h1 h2
  go_wp2_with fail
  refine (K.out.fill a HA.out).mono ?_
  rintro e w2 ⟨v, rfl, hk1⟩
  rw [HRP.out] at hk1
  replace K := hid hk1; clear hk1
  go_wp2_with fail
  refine (K.out.write (k : Int) N0.out G0.out.1 rfl).mono ?_
  rintro e w3 ⟨rfl, hk1⟩
  replace K := hid hk1; clear hk1
  go_wp2_with fail
  go_loopw [13] (fun i wr => ∃ j : Nat, j ≤ M ∧ i = .int .i64 (j : Int) ∧ ∃ d, Sk w b s d [] wr ∧ Gd a k j d) (fun i _ => M - (intOf i).toNat)
  case atStart => exact ⟨0, Nat.zero_le _, rfl, _, K.out, G0.out.2⟩
  case round =>
    obtain ⟨j, hj, rfl, d, hk1, gd⟩ := hrel
    replace K := hid hk1; have GD := hid gd; clear hk1 gd G0
    by_cases hlt : j < M
    · have hj1 : (j : Int) < (M : Int) := by omega
      have HLT := hid hlt
      obtain ⟨r, hr, er⟩ := rem8 j
      obtain ⟨eb, ec⟩ := byte_of j (by omega)
      have EC := hid ec; clear ec
      by_cases hne : r = k
      · have hne' : (r : Int) = (k : Int) := by omega
        clear hne hr
        go_wp2_with fail
        go_roundw
        case rel => exact ⟨j + 1, by have := HLT.out; omega, by go_num, d, K.out, ⟨GD.out.len, GD.out.wait, GD.out.down, Nat.le_succ_of_le GD.out.n, GD.out.at'⟩⟩
        case measure => have := HLT.out; simp [intOf]; omega
      · have hne' : ¬ (r : Int) = (k : Int) := by omega
        have ST := hid (GS.out j d GD.out r hr hne (UInt8.ofNat j))
        have NN := hid (show d.n < 1000000000 by have := GD.out.n; have := HMM.out; omega)
        clear hne hr
        go_wp2_with fail
        refine (K.out.fill (UInt8.ofNat j) EC.out).mono ?_
        rintro e w4 ⟨v, rfl, hk1⟩
        replace K := hid hk1; clear hk1
        go_wp2_with fail
        refine (K.out.write (r : Int) NN.out ST.out.1 rfl).mono ?_
        rintro e w5 ⟨rfl, hk1⟩
        replace K := hid hk1; clear hk1
        go_wp2_with fail
        go_roundw
        case rel => exact ⟨j + 1, by have := HLT.out; omega, by go_num, _, K.out, ST.out.2⟩
        case measure => have := HLT.out; simp [intOf]; omega
    · have hj2 : j = M := by omega
      subst hj2
      obtain ⟨d2, d3, q1, q2, q3, q4, q5, q6, q7, q8⟩ := GT.out _ _ GD.out
      have Q1 := hid q1; have Q2 := hid q2; have Q3 := hid q3; have Q4 := hid q4; have Q5 := hid q5; have Q6 := hid q6; have Q7 := hid q7; have Q8 := hid q8
      clear q1 q2 q3 q4 q5 q6 q7 q8 GS GT GL GD
      go_wp2_with fail
      refine (K.out.spoil (k : Int) (p : Int) t HT.out Q1.out Q2.out).mono ?_
      rintro e w4 ⟨rfl, hk1⟩
      replace K := hid hk1; clear hk1
      go_wp2_with fail
      refine (K.out.read (k : Int) Q4.out Q3.out).mono ?_
      rintro e w5 ⟨u, rfl, ho, hg, hk1⟩
      obtain ⟨gx, cx, rfl, hcx, -, -, -⟩ := ho.whole HX.out (by decide)
      replace K := hid hk1; clear hk1 ho hg
      have cb := byte_at K.out.r0 p (by rw [HX.out]; exact HP.out)
      rw [GX.out, HXX.out] at cb
      go_wp2_with fail
      refine (K.out.spoil (k : Int) (p : Int) t HT.out Q5.out Q6.out).mono ?_
      rintro e w6 ⟨rfl, hk1⟩
      replace K := hid hk1.tl; clear hk1 cb
      go_wp2_with fail
      refine (K.out.read (k : Int) Q8.out Q7.out).mono ?_
      rintro e wz ⟨u, rfl, ho, hg, hk1⟩
      obtain ⟨gy, cy, rfl, hcy, -, -, -⟩ := ho.whole HY.out (by decide)
      replace K := hid hk1; clear hk1 ho hg
      clear Q1 Q2 Q3 Q4 Q5 Q6 Q7 Q8 HX HY GX HXX hx
      go_wp2_with fail
      refine wp_region_held_drew (S := (fun w' => (Sk w b s d3 [(.slice (some ⟨gy, 0, none⟩) 64 cy, rp)] w'))) (by kernel_rfl) K.out.drew (fun hHeld => ?_)
      try dsimp only at hHeld
      refine wpAnyH_ready (rs := [0]) (by kernel_rfl) (by simp) ?_
      refine AllReadyH.cons (o := _) rfl (fun K hK => ?_) AllReadyH.nil
      try simp only [List.getElem_toArray, List.getElem_cons_succ, List.getElem_cons_zero]
      go_simp
      have hH2 := hHeld
      have kk := hH2
      refine ((told_any _)).mono ?_
      rintro e w1000 ⟨rfl, hg⟩
      have L0 := hid (show (Sk w b s d3 [(.slice (some ⟨gy, 0, none⟩) 64 cy, rp)] w1000) from (kk.grown hg))
      clear hHeld hg kk
      go_wp2_with fail
      refine hK.out _ _ ?_ (fun hHeld => ?_)
      · exact L0.out
      clear hK K
      try dsimp only at hHeld
      try simp only [Act.put, List.setIfInBounds_toArray, List.set_cons_zero, List.set_cons_succ, List.getElem_toArray, List.getElem_cons_succ, List.getElem_cons_zero]
      refine' wpAnyH_take (i := 1) (v := _) rfl (by kernel_rfl) (by kernel_rfl) (by kernel_rfl) (fun _ _ _ h => h) (Or.inl ⟨by rfl, ?_⟩) hHeld ?_
      rotate_left
      · (intro w hSw; (try dsimp only at hSw); go_simp; try with_reducible rfl)
      try simp only [Act.put, List.setIfInBounds_toArray, List.set_cons_zero, List.set_cons_succ, List.getElem_toArray, List.getElem_cons_succ, List.getElem_cons_zero]
      refine' wpAnyH_take (i := 2) (v := _) rfl (by kernel_rfl) (by kernel_rfl) (by kernel_rfl) (fun _ _ _ h => h) (Or.inl ⟨by rfl, ?_⟩) hHeld ?_
      rotate_left
      · (intro w hSw; (try dsimp only at hSw); go_simp; try with_reducible rfl)
      try simp only [Act.put, List.setIfInBounds_toArray, List.set_cons_zero, List.set_cons_succ, List.getElem_toArray, List.getElem_cons_succ, List.getElem_cons_zero]
      refine' wpAnyH_take (i := 3) (v := _) rfl (by kernel_rfl) (by kernel_rfl) (by kernel_rfl) (fun _ _ _ h => h) (Or.inl ⟨by rfl, ?_⟩) hHeld ?_
      rotate_left
      · (intro w hSw; (try dsimp only at hSw); go_simp; try with_reducible rfl)
      try simp only [Act.put, List.setIfInBounds_toArray, List.set_cons_zero, List.set_cons_succ, List.getElem_toArray, List.getElem_cons_succ, List.getElem_cons_zero]
      refine' wpAnyH_take (i := 4) (v := _) rfl (by kernel_rfl) (by kernel_rfl) (by kernel_rfl) (fun _ _ _ h => h) (Or.inl ⟨by rfl, ?_⟩) hHeld ?_
      rotate_left
      · (intro w hSw; (try dsimp only at hSw); go_simp; try with_reducible rfl)
      try simp only [Act.put, List.setIfInBounds_toArray, List.set_cons_zero, List.set_cons_succ, List.getElem_toArray, List.getElem_cons_succ, List.getElem_cons_zero]
      refine' wpAnyH_take (i := 5) (v := _) rfl (by kernel_rfl) (by kernel_rfl) (by kernel_rfl) (fun _ _ _ h => h) (Or.inl ⟨by rfl, ?_⟩) hHeld ?_
      rotate_left
      · (intro w hSw; (try dsimp only at hSw); go_simp; try with_reducible rfl)
      try simp only [Act.put, List.setIfInBounds_toArray, List.set_cons_zero, List.set_cons_succ, List.getElem_toArray, List.getElem_cons_succ, List.getElem_cons_zero]
      refine' wpAnyH_take (i := 6) (v := _) rfl (by kernel_rfl) (by kernel_rfl) (by kernel_rfl) (fun _ _ _ h => h) (Or.inl ⟨by rfl, ?_⟩) hHeld ?_
      rotate_left
      · (intro w hSw; (try dsimp only at hSw); go_simp; try with_reducible rfl)
      try simp only [Act.put, List.setIfInBounds_toArray, List.set_cons_zero, List.set_cons_succ, List.getElem_toArray, List.getElem_cons_succ, List.getElem_cons_zero]
      refine' wpAnyH_take (i := 7) (v := _) rfl (by kernel_rfl) (by kernel_rfl) (by kernel_rfl) (fun _ _ _ h => h) (Or.inl ⟨by rfl, ?_⟩) hHeld ?_
      rotate_left
      · (intro w hSw; (try dsimp only at hSw); go_simp; try with_reducible rfl)
      try simp only [Act.put, List.setIfInBounds_toArray, List.set_cons_zero, List.set_cons_succ, List.getElem_toArray, List.getElem_cons_succ, List.getElem_cons_zero]
      refine' wpAnyH_take (i := 8) (v := _) rfl (by kernel_rfl) (by kernel_rfl) (by kernel_rfl) (fun _ _ _ h => h) (Or.inl ⟨by rfl, ?_⟩) hHeld ?_
      rotate_left
      · (intro w hSw; (try dsimp only at hSw); go_simp; try with_reducible rfl)
      try simp only [Act.put, List.setIfInBounds_toArray, List.set_cons_zero, List.set_cons_succ, List.getElem_toArray, List.getElem_cons_succ, List.getElem_cons_zero]
      refine' wpAnyH_take (i := 9) (v := _) rfl (by kernel_rfl) (by kernel_rfl) (by kernel_rfl) (fun _ _ _ h => h) (Or.inl ⟨by rfl, ?_⟩) hHeld ?_
      rotate_left
      · (intro w hSw; (try dsimp only at hSw); go_simp; try with_reducible rfl)
      try simp only [Act.put, List.setIfInBounds_toArray, List.set_cons_zero, List.set_cons_succ, List.getElem_toArray, List.getElem_cons_succ, List.getElem_cons_zero]
      refine' wpAnyH_take (i := 10) (v := _) rfl (by kernel_rfl) (by kernel_rfl) (by kernel_rfl) (fun _ _ _ h => h) (Or.inl ⟨by rfl, ?_⟩) hHeld ?_
      rotate_left
      · (intro w hSw; (try dsimp only at hSw); go_simp; try with_reducible rfl)
      try simp only [Act.put, List.setIfInBounds_toArray, List.set_cons_zero, List.set_cons_succ, List.getElem_toArray, List.getElem_cons_succ, List.getElem_cons_zero]
      refine' wpAnyH_take (i := 11) (v := _) rfl (by kernel_rfl) (by kernel_rfl) (by kernel_rfl) (fun _ _ _ h => h) (Or.inl ⟨by rfl, ?_⟩) hHeld ?_
      rotate_left
      · (intro w hSw; (try dsimp only at hSw); go_simp; try with_reducible rfl)
      try simp only [Act.put, List.setIfInBounds_toArray, List.set_cons_zero, List.set_cons_succ, List.getElem_toArray, List.getElem_cons_succ, List.getElem_cons_zero]
      refine' wpAnyH_take (i := 12) (v := _) rfl (by kernel_rfl) (by kernel_rfl) (by kernel_rfl) (fun _ _ _ h => h) (Or.inl ⟨by rfl, ?_⟩) hHeld ?_
      rotate_left
      · (intro w hSw; (try dsimp only at hSw); go_simp; try with_reducible rfl)
      try simp only [Act.put, List.setIfInBounds_toArray, List.set_cons_zero, List.set_cons_succ, List.getElem_toArray, List.getElem_cons_succ, List.getElem_cons_zero]
      refine' wpAnyH_take (i := 13) (v := _) rfl (by kernel_rfl) (by kernel_rfl) (by kernel_rfl) (fun _ _ _ h => h) (Or.inl ⟨by rfl, ?_⟩) hHeld ?_
      rotate_left
      · (intro w hSw; (try dsimp only at hSw); go_simp; try with_reducible rfl)
      try simp only [Act.put, List.setIfInBounds_toArray, List.set_cons_zero, List.set_cons_succ, List.getElem_toArray, List.getElem_cons_succ, List.getElem_cons_zero]
      refine' wpAnyH_take (i := 14) (v := _) rfl (by kernel_rfl) (by kernel_rfl) (by kernel_rfl) (fun _ _ _ h => h) (Or.inl ⟨by rfl, ?_⟩) hHeld ?_
      rotate_left
      · (intro w hSw; (try dsimp only at hSw); go_simp; try with_reducible rfl)
      try simp only [Act.put, List.setIfInBounds_toArray, List.set_cons_zero, List.set_cons_succ, List.getElem_toArray, List.getElem_cons_succ, List.getElem_cons_zero]
      refine' wpAnyH_take (i := 15) (v := _) rfl (by kernel_rfl) (by kernel_rfl) (by kernel_rfl) (fun _ _ _ h => h) (Or.inl ⟨by rfl, ?_⟩) hHeld ?_
      rotate_left
      · (intro w hSw; (try dsimp only at hSw); have kk := hSw; have cv := CV.out _ _ kk.r0; go_simp; try with_reducible rfl)
      try simp only [Act.put, List.setIfInBounds_toArray, List.set_cons_zero, List.set_cons_succ, List.getElem_toArray, List.getElem_cons_succ, List.getElem_cons_zero]
      refine' wpAnyH_take (i := 16) (v := _) rfl (by kernel_rfl) (by kernel_rfl) (by kernel_rfl) (fun _ _ _ h => h) (Or.inl ⟨by rfl, ?_⟩) hHeld ?_
      rotate_left
      · (intro w hSw; (try dsimp only at hSw); go_simp; try with_reducible rfl)
      try simp only [Act.put, List.setIfInBounds_toArray, List.set_cons_zero, List.set_cons_succ, List.getElem_toArray, List.getElem_cons_succ, List.getElem_cons_zero]
      refine wpAnyH_ready (rs := [17]) (by kernel_rfl) (by simp) ?_
      refine AllReadyH.cons (o := _) rfl (fun K hK => ?_) AllReadyH.nil
      try simp only [List.getElem_toArray, List.getElem_cons_succ, List.getElem_cons_zero]
      go_simp
      have hH2 := hHeld
      have kk := hH2
      refine ((F.out _)).mono ?_
      rintro e w1017 ⟨v, rfl, hb, hg⟩
      have L17 := hid (show (Sk w b s d3 [(.slice (some ⟨gy, 0, none⟩) 64 cy, rp)] w1017) from (kk.grown hg))
      have Nvb := hid (show BytesAt w1017 v rp from hb)
      clear hHeld hg kk
      go_wp2_with fail
      refine hK.out _ _ ?_ (fun hHeld => ?_)
      · exact L17.out
      clear hK K
      try dsimp only at hHeld
      try simp only [Act.put, List.setIfInBounds_toArray, List.set_cons_zero, List.set_cons_succ, List.getElem_toArray, List.getElem_cons_succ, List.getElem_cons_zero]
      refine held_stronger (S' := fun w' => (fun w' => BytesAt w' v rp) w' ∧ ((fun w' => (Sk w b s d3 [(.slice (some ⟨gy, 0, none⟩) 64 cy, rp)] w'))) w') (fun _ h => h.2) _ _ _ _ ?_
      replace hHeld := And.intro Nvb.out hHeld
      try dsimp only at hHeld
      refine' wpAnyH_take (i := 18) (v := _) rfl (by kernel_rfl) (by kernel_rfl) (by kernel_rfl) (fun _ _ _ h => h) (Or.inl ⟨by rfl, ?_⟩) hHeld ?_
      rotate_left
      · (intro w hSw; (try dsimp only at hSw); obtain ⟨vb, kk⟩ := hSw; have cv := CV.out _ _ vb; go_simp; try with_reducible rfl)
      try simp only [Act.put, List.setIfInBounds_toArray, List.set_cons_zero, List.set_cons_succ, List.getElem_toArray, List.getElem_cons_succ, List.getElem_cons_zero]
      refine' wpAnyH_take (i := 19) (v := _) rfl (by kernel_rfl) (by kernel_rfl) (by kernel_rfl) (fun _ _ _ h => h) (Or.inl ⟨by rfl, ?_⟩) hHeld ?_
      rotate_left
      · (intro w hSw; (try dsimp only at hSw); go_simp; try with_reducible rfl)
      try simp only [Act.put, List.setIfInBounds_toArray, List.set_cons_zero, List.set_cons_succ, List.getElem_toArray, List.getElem_cons_succ, List.getElem_cons_zero]
      refine' wpAnyH_take (i := 20) (v := _) rfl (by kernel_rfl) (by kernel_rfl) (by kernel_rfl) (fun _ _ _ h => h) (Or.inl ⟨by rfl, ?_⟩) hHeld ?_
      rotate_left
      · (intro w hSw; (try dsimp only at hSw); go_simp; try with_reducible rfl)
      try simp only [Act.put, List.setIfInBounds_toArray, List.set_cons_zero, List.set_cons_succ, List.getElem_toArray, List.getElem_cons_succ, List.getElem_cons_zero]
      refine' wpAnyH_take (i := 21) (v := _) rfl (by kernel_rfl) (by kernel_rfl) (by kernel_rfl) (fun _ _ _ h => h) (Or.inl ⟨by rfl, ?_⟩) hHeld ?_
      rotate_left
      · (intro w hSw; (try dsimp only at hSw); go_simp; try with_reducible rfl)
      try simp only [Act.put, List.setIfInBounds_toArray, List.set_cons_zero, List.set_cons_succ, List.getElem_toArray, List.getElem_cons_succ, List.getElem_cons_zero]
      refine wpAnyH_done (by kernel_rfl) ?_ _
      obtain ⟨vb, kk⟩ := hHeld
      have G := hid kk.gr; clear kk
      go_wp2_with fail
      go_ret
      exact ⟨rfl, G.out⟩
end Go.Proofs.Ytjjlakekjihnoaa.lsreads
