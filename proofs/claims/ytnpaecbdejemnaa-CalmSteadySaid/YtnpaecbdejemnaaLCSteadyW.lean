/-
  The walk of the statement CalmSteady: what is wanted for longer than both windows is what comes. No condition.
-/
import Derived.Test.YtnpaecbdejemnaaCaF
import Derived.Test.YtnpaecbdejemnaaUmi
set_option linter.unusedSimpArgs false
set_option linter.unusedVariables false
namespace Go.Proofs.Ytnpaecbdejemnaa.csteady
set_option maxRecDepth 100000
open Go.RowKit

set_option maxHeartbeats 3200000 in
theorem walk {w : World} (up down : Int) (l : List Int) (p : Option Addr) (c : Nat) (i0 : IntsAt w (.slice p l.length c) l) (x0 : Int) :
    Calls Try.prog 6 #[.int .i64 up, .int .i64 down, .slice p l.length c, .int .i64 x0] w fun e w' => e = .returned (.bool true) ∧ w.grownBy w' none := by
  obtain ⟨u, hu, mu⟩ := umod_small up 7 (by omega)
  have mu : (IntKind.u64.wrap up).tmod 7 = (u : Int) := mu
  have cu : IntKind.i64.wrap (u : Int) = (u : Int) := IntWalk.i64_in _ (by omega)
  obtain ⟨d, hd, md⟩ := umod_small down 7 (by omega)
  have md : (IntKind.u64.wrap down).tmod 7 = (d : Int) := md
  have cd : IntKind.i64.wrap (d : Int) = (d : Int) := IntWalk.i64_in _ (by omega)
  have HU := hid (show u ≤ 60 by omega); have HD := hid (show d ≤ 60 by omega)
  have nl := i0.len
  unfold maxLen at nl
  obtain ⟨n, hn⟩ : ∃ n, l.length = n := ⟨_, rfl⟩
  rw [hn] at i0 nl ⊢
  have Hn := hid hn; have In := hid i0
  clear hn i0
  obtain ⟨y, y0, y1, my⟩ := umod_int x0 100 (by omega)
  have my : (IntKind.u64.wrap x0).tmod 100 = y := my
  have cy : IntKind.i64.wrap y = y := IntWalk.i64_in _ (by omega)
  have MY := hid (show mill y = y from mill_id (by omega))
  obtain ⟨m, hm⟩ : ∃ m : Nat, m = min n 20 := ⟨_, rfl⟩
  have HM := hid (show m ≤ n ∧ m ≤ 20 ∧ (m = n ∨ (m < n ∧ m = 20)) by omega)
  obtain ⟨M, hM⟩ : ∃ M : Nat, M = max u d := ⟨_, rfl⟩
  have HMM := hid (show M ≤ 6 ∧ M = max u d by omega)
  clear hm y0 y1
  rcases Nat.lt_or_ge u d with hud | hud
  · have eM : M = d := by omega
    subst eM
    have i9 : (u : Int) < (M : Int) := by omega
    clear hM
    go_enter Try.func6, Try.ntmps6
    go_wp2_with fail
    refine (new_ok _ _ HU.out HD.out _).mono ?_
    rintro e w1 ⟨b, rfl, hc, hg, hb⟩
    have K1 := hid (Ck1.start hc hg hb); clear hc hg hb
    go_wp2_with fail
    go_loopw [12] (fun i wr => ∃ k : Nat, k ≤ m ∧ i = .int .i64 (k : Int) ∧ ∃ a : List Int, Ck1 w b ⟨u, M, a⟩ wr) (fun i _ => m - (intOf i).toNat)
    case atStart => exact ⟨0, Nat.zero_le _, rfl, _, K1.out⟩
    case round =>
      obtain ⟨k, hk, rfl, a, hK⟩ := hrel
      have K := hid hK; clear hK
      by_cases hlt : k < m
      · have hkl : k < l.length := by rw [Hn.out]; have := HM.out; omega
        obtain ⟨ab, ao, rfl, -, hcc, hcell⟩ := (In.out.grown K.out.gr).cell hkl
        generalize l[k] = q at *
        obtain ⟨z, z0, z1, mz⟩ := umod_int q 100 (by omega)
        have mz : (IntKind.u64.wrap q).tmod 100 = z := mz
        have cz : IntKind.i64.wrap z = z := IntWalk.i64_in _ (by omega)
        have i1 : k < n := by have := HM.out; omega
        have i2 : k < 20 := by have := HM.out; omega
        go_wp2_with fail
        refine (next_any 50 z K.out.at1).mono ?_
        rintro e w2 ⟨rfl, hc, hg⟩
        have K2 := hid (K.out.chg hc hg); clear hc hg
        go_wp2_with fail
        go_roundw
        case rel => exact ⟨k + 1, by omega, by go_num, _, K2.out⟩
        case measure => simp [intOf]; omega
      · obtain rfl : k = m := by omega
        have HK := hid hlt; clear hlt
        rcases HM.out.2.2 with e | ⟨e1, e2⟩
        · have i1 : ¬ k < n := by omega
          clear e
          clear hk
          go_wp2_with fail
          go_loopw [14, 15] (fun t i wr => ∃ k : Nat, k ≤ M + 1 ∧ i = .int .i64 (k : Int) ∧ ∃ (a : List Int) (v : Int), t = .int .i64 v ∧ Ck1 w b ⟨u, M, a⟩ wr ∧ tailIs a k y ∧ k ≤ a.length ∧ (k = M + 1 → v = y)) (fun _ i _ => M + 1 - (intOf i).toNat)
          case atStart => exact ⟨0, Nat.zero_le _, rfl, a, 0, rfl, K.out, tailIs_zero _ _, Nat.zero_le _, fun h => absurd h (by omega)⟩
          case round =>
            obtain ⟨k, hk, rfl, a, v, rfl, hK, ht, hl, hv⟩ := hrel
            have K := hid hK; have HT := hid ht; have HL := hid hl; have HV := hid hv; clear hK ht hl hv
            by_cases hlt : k < M + 1
            · have i3 : (k : Int) ≤ (M : Int) := by omega
              have hlt2 : k ≤ M := by omega
              go_wp2_with fail
              refine (next_any 50 y K.out.at1).mono ?_
              rintro e w2 ⟨rfl, hc, hg⟩
              have K2 := hid (K.out.chg hc hg); clear hc hg
              have hmost : (⟨u, M, a⟩ : Ca).most = M + 1 := by show max u M + 1 = M + 1; omega
              have T2 := hid (Ca.push_tail (c := ⟨u, M, a⟩) (x := y) (by rw [MY.out]; exact HT.out) (by rw [hmost]; omega))
              have HLEN := hid (Ca.push_len ⟨u, M, a⟩ y)
              rw [hmost] at HLEN
              have HO := hid (fun (h : ∀ z ∈ (Ca.push ⟨u, M, a⟩ y).l, z = y) => Ca.out_steady (Ca.push_ne ⟨u, M, a⟩ y) h 50)
              obtain ⟨c2, hc2⟩ : ∃ c2, Ca.push ⟨u, M, a⟩ y = c2 := ⟨_, rfl⟩
              have HC2 := hid (show c2 = ⟨u, M, c2.l⟩ by rw [← hc2]; rfl)
              rw [hc2] at K2 T2 HLEN HO ⊢
              rw [MY.out] at T2
              clear hc2 hmost
              obtain ⟨o, ho⟩ : ∃ o, c2.out 50 = o := ⟨_, rfl⟩
              rw [ho] at HO ⊢
              clear ho
              go_wp2_with fail
              go_roundw
              case rel => exact ⟨k + 1, by omega, by go_num, c2.l, o, rfl, by rw [← HC2.out]; exact K2.out, T2.out, by rw [HLEN.out]; have := HL.out; show k + 1 ≤ min (M + 1) (a.length + 1); omega, fun e => HO.out (tailIs_all T2.out (by rw [HLEN.out, e]; exact Nat.min_le_left _ _))⟩
              case measure => simp [intOf]; omega
            · obtain rfl : k = M + 1 := by omega
              obtain rfl := HV.out rfl
              have i3 : (M : Int) < ((M + 1 : Nat) : Int) := by omega
              have i4 : ¬ ((M + 1 : Nat) : Int) ≤ (M : Int) := by omega
              have HLEN := hid (show a.length = M + 1 from Nat.le_antisymm (by have h := K.out.at1.ok.n; have e : (⟨u, M, a⟩ : Ca).most = M + 1 := (by show max u M + 1 = M + 1; omega); rw [e] at h; exact h) HL.out)
              have cs : IntKind.i64.wrap ((M : Int) + 1) = (M : Int) + 1 := IntWalk.i64_in _ (by have := HMM.out; omega)
              go_wp2_with fail
              refine (told_any _).mono ?_
              rintro e w2 ⟨rfl, hg⟩
              replace K := hid (K.out.grown hg); clear hg
              go_wp2_with fail
              refine (alls_len K.out.at1 (M + 1) HLEN.out).mono ?_
              rintro e w3 ⟨⟨pp, mm, rfl⟩, hg⟩
              replace K := hid (K.out.grown hg); clear hg
              go_wp2_with fail
              go_ret
              exact ⟨congrArg (fun z => Ending.returned (.bool z)) (by rw [beq_iff_eq]; omega), K.out.gr⟩
        · have i1 : k < n := by omega
          have i2 : ¬ k < 20 := by omega
          clear e1 e2
          clear hk
          go_wp2_with fail
          go_loopw [14, 15] (fun t i wr => ∃ k : Nat, k ≤ M + 1 ∧ i = .int .i64 (k : Int) ∧ ∃ (a : List Int) (v : Int), t = .int .i64 v ∧ Ck1 w b ⟨u, M, a⟩ wr ∧ tailIs a k y ∧ k ≤ a.length ∧ (k = M + 1 → v = y)) (fun _ i _ => M + 1 - (intOf i).toNat)
          case atStart => exact ⟨0, Nat.zero_le _, rfl, a, 0, rfl, K.out, tailIs_zero _ _, Nat.zero_le _, fun h => absurd h (by omega)⟩
          case round =>
            obtain ⟨k, hk, rfl, a, v, rfl, hK, ht, hl, hv⟩ := hrel
            have K := hid hK; have HT := hid ht; have HL := hid hl; have HV := hid hv; clear hK ht hl hv
            by_cases hlt : k < M + 1
            · have i3 : (k : Int) ≤ (M : Int) := by omega
              have hlt2 : k ≤ M := by omega
              go_wp2_with fail
              refine (next_any 50 y K.out.at1).mono ?_
              rintro e w2 ⟨rfl, hc, hg⟩
              have K2 := hid (K.out.chg hc hg); clear hc hg
              have hmost : (⟨u, M, a⟩ : Ca).most = M + 1 := by show max u M + 1 = M + 1; omega
              have T2 := hid (Ca.push_tail (c := ⟨u, M, a⟩) (x := y) (by rw [MY.out]; exact HT.out) (by rw [hmost]; omega))
              have HLEN := hid (Ca.push_len ⟨u, M, a⟩ y)
              rw [hmost] at HLEN
              have HO := hid (fun (h : ∀ z ∈ (Ca.push ⟨u, M, a⟩ y).l, z = y) => Ca.out_steady (Ca.push_ne ⟨u, M, a⟩ y) h 50)
              obtain ⟨c2, hc2⟩ : ∃ c2, Ca.push ⟨u, M, a⟩ y = c2 := ⟨_, rfl⟩
              have HC2 := hid (show c2 = ⟨u, M, c2.l⟩ by rw [← hc2]; rfl)
              rw [hc2] at K2 T2 HLEN HO ⊢
              rw [MY.out] at T2
              clear hc2 hmost
              obtain ⟨o, ho⟩ : ∃ o, c2.out 50 = o := ⟨_, rfl⟩
              rw [ho] at HO ⊢
              clear ho
              go_wp2_with fail
              go_roundw
              case rel => exact ⟨k + 1, by omega, by go_num, c2.l, o, rfl, by rw [← HC2.out]; exact K2.out, T2.out, by rw [HLEN.out]; have := HL.out; show k + 1 ≤ min (M + 1) (a.length + 1); omega, fun e => HO.out (tailIs_all T2.out (by rw [HLEN.out, e]; exact Nat.min_le_left _ _))⟩
              case measure => simp [intOf]; omega
            · obtain rfl : k = M + 1 := by omega
              obtain rfl := HV.out rfl
              have i3 : (M : Int) < ((M + 1 : Nat) : Int) := by omega
              have i4 : ¬ ((M + 1 : Nat) : Int) ≤ (M : Int) := by omega
              have HLEN := hid (show a.length = M + 1 from Nat.le_antisymm (by have h := K.out.at1.ok.n; have e : (⟨u, M, a⟩ : Ca).most = M + 1 := (by show max u M + 1 = M + 1; omega); rw [e] at h; exact h) HL.out)
              have cs : IntKind.i64.wrap ((M : Int) + 1) = (M : Int) + 1 := IntWalk.i64_in _ (by have := HMM.out; omega)
              go_wp2_with fail
              refine (told_any _).mono ?_
              rintro e w2 ⟨rfl, hg⟩
              replace K := hid (K.out.grown hg); clear hg
              go_wp2_with fail
              refine (alls_len K.out.at1 (M + 1) HLEN.out).mono ?_
              rintro e w3 ⟨⟨pp, mm, rfl⟩, hg⟩
              replace K := hid (K.out.grown hg); clear hg
              go_wp2_with fail
              go_ret
              exact ⟨congrArg (fun z => Ending.returned (.bool z)) (by rw [beq_iff_eq]; omega), K.out.gr⟩
  · have eM : M = u := by omega
    subst eM
    have i9 : (d : Int) ≤ (M : Int) := by omega
    clear hM
    go_enter Try.func6, Try.ntmps6
    go_wp2_with fail
    refine (new_ok _ _ HU.out HD.out _).mono ?_
    rintro e w1 ⟨b, rfl, hc, hg, hb⟩
    have K1 := hid (Ck1.start hc hg hb); clear hc hg hb
    go_wp2_with fail
    go_loopw [12] (fun i wr => ∃ k : Nat, k ≤ m ∧ i = .int .i64 (k : Int) ∧ ∃ a : List Int, Ck1 w b ⟨M, d, a⟩ wr) (fun i _ => m - (intOf i).toNat)
    case atStart => exact ⟨0, Nat.zero_le _, rfl, _, K1.out⟩
    case round =>
      obtain ⟨k, hk, rfl, a, hK⟩ := hrel
      have K := hid hK; clear hK
      by_cases hlt : k < m
      · have hkl : k < l.length := by rw [Hn.out]; have := HM.out; omega
        obtain ⟨ab, ao, rfl, -, hcc, hcell⟩ := (In.out.grown K.out.gr).cell hkl
        generalize l[k] = q at *
        obtain ⟨z, z0, z1, mz⟩ := umod_int q 100 (by omega)
        have mz : (IntKind.u64.wrap q).tmod 100 = z := mz
        have cz : IntKind.i64.wrap z = z := IntWalk.i64_in _ (by omega)
        have i1 : k < n := by have := HM.out; omega
        have i2 : k < 20 := by have := HM.out; omega
        go_wp2_with fail
        refine (next_any 50 z K.out.at1).mono ?_
        rintro e w2 ⟨rfl, hc, hg⟩
        have K2 := hid (K.out.chg hc hg); clear hc hg
        go_wp2_with fail
        go_roundw
        case rel => exact ⟨k + 1, by omega, by go_num, _, K2.out⟩
        case measure => simp [intOf]; omega
      · obtain rfl : k = m := by omega
        have HK := hid hlt; clear hlt
        rcases HM.out.2.2 with e | ⟨e1, e2⟩
        · have i1 : ¬ k < n := by omega
          clear e
          clear hk
          go_wp2_with fail
          go_loopw [14, 15] (fun t i wr => ∃ k : Nat, k ≤ M + 1 ∧ i = .int .i64 (k : Int) ∧ ∃ (a : List Int) (v : Int), t = .int .i64 v ∧ Ck1 w b ⟨M, d, a⟩ wr ∧ tailIs a k y ∧ k ≤ a.length ∧ (k = M + 1 → v = y)) (fun _ i _ => M + 1 - (intOf i).toNat)
          case atStart => exact ⟨0, Nat.zero_le _, rfl, a, 0, rfl, K.out, tailIs_zero _ _, Nat.zero_le _, fun h => absurd h (by omega)⟩
          case round =>
            obtain ⟨k, hk, rfl, a, v, rfl, hK, ht, hl, hv⟩ := hrel
            have K := hid hK; have HT := hid ht; have HL := hid hl; have HV := hid hv; clear hK ht hl hv
            by_cases hlt : k < M + 1
            · have i3 : (k : Int) ≤ (M : Int) := by omega
              have hlt2 : k ≤ M := by omega
              go_wp2_with fail
              refine (next_any 50 y K.out.at1).mono ?_
              rintro e w2 ⟨rfl, hc, hg⟩
              have K2 := hid (K.out.chg hc hg); clear hc hg
              have hmost : (⟨M, d, a⟩ : Ca).most = M + 1 := by show max M d + 1 = M + 1; omega
              have T2 := hid (Ca.push_tail (c := ⟨M, d, a⟩) (x := y) (by rw [MY.out]; exact HT.out) (by rw [hmost]; omega))
              have HLEN := hid (Ca.push_len ⟨M, d, a⟩ y)
              rw [hmost] at HLEN
              have HO := hid (fun (h : ∀ z ∈ (Ca.push ⟨M, d, a⟩ y).l, z = y) => Ca.out_steady (Ca.push_ne ⟨M, d, a⟩ y) h 50)
              obtain ⟨c2, hc2⟩ : ∃ c2, Ca.push ⟨M, d, a⟩ y = c2 := ⟨_, rfl⟩
              have HC2 := hid (show c2 = ⟨M, d, c2.l⟩ by rw [← hc2]; rfl)
              rw [hc2] at K2 T2 HLEN HO ⊢
              rw [MY.out] at T2
              clear hc2 hmost
              obtain ⟨o, ho⟩ : ∃ o, c2.out 50 = o := ⟨_, rfl⟩
              rw [ho] at HO ⊢
              clear ho
              go_wp2_with fail
              go_roundw
              case rel => exact ⟨k + 1, by omega, by go_num, c2.l, o, rfl, by rw [← HC2.out]; exact K2.out, T2.out, by rw [HLEN.out]; have := HL.out; show k + 1 ≤ min (M + 1) (a.length + 1); omega, fun e => HO.out (tailIs_all T2.out (by rw [HLEN.out, e]; exact Nat.min_le_left _ _))⟩
              case measure => simp [intOf]; omega
            · obtain rfl : k = M + 1 := by omega
              obtain rfl := HV.out rfl
              have i3 : (M : Int) < ((M + 1 : Nat) : Int) := by omega
              have i4 : ¬ ((M + 1 : Nat) : Int) ≤ (M : Int) := by omega
              have HLEN := hid (show a.length = M + 1 from Nat.le_antisymm (by have h := K.out.at1.ok.n; have e : (⟨M, d, a⟩ : Ca).most = M + 1 := (by show max M d + 1 = M + 1; omega); rw [e] at h; exact h) HL.out)
              have cs : IntKind.i64.wrap ((M : Int) + 1) = (M : Int) + 1 := IntWalk.i64_in _ (by have := HMM.out; omega)
              go_wp2_with fail
              refine (told_any _).mono ?_
              rintro e w2 ⟨rfl, hg⟩
              replace K := hid (K.out.grown hg); clear hg
              go_wp2_with fail
              refine (alls_len K.out.at1 (M + 1) HLEN.out).mono ?_
              rintro e w3 ⟨⟨pp, mm, rfl⟩, hg⟩
              replace K := hid (K.out.grown hg); clear hg
              go_wp2_with fail
              go_ret
              exact ⟨congrArg (fun z => Ending.returned (.bool z)) (by rw [beq_iff_eq]; omega), K.out.gr⟩
        · have i1 : k < n := by omega
          have i2 : ¬ k < 20 := by omega
          clear e1 e2
          clear hk
          go_wp2_with fail
          go_loopw [14, 15] (fun t i wr => ∃ k : Nat, k ≤ M + 1 ∧ i = .int .i64 (k : Int) ∧ ∃ (a : List Int) (v : Int), t = .int .i64 v ∧ Ck1 w b ⟨M, d, a⟩ wr ∧ tailIs a k y ∧ k ≤ a.length ∧ (k = M + 1 → v = y)) (fun _ i _ => M + 1 - (intOf i).toNat)
          case atStart => exact ⟨0, Nat.zero_le _, rfl, a, 0, rfl, K.out, tailIs_zero _ _, Nat.zero_le _, fun h => absurd h (by omega)⟩
          case round =>
            obtain ⟨k, hk, rfl, a, v, rfl, hK, ht, hl, hv⟩ := hrel
            have K := hid hK; have HT := hid ht; have HL := hid hl; have HV := hid hv; clear hK ht hl hv
            by_cases hlt : k < M + 1
            · have i3 : (k : Int) ≤ (M : Int) := by omega
              have hlt2 : k ≤ M := by omega
              go_wp2_with fail
              refine (next_any 50 y K.out.at1).mono ?_
              rintro e w2 ⟨rfl, hc, hg⟩
              have K2 := hid (K.out.chg hc hg); clear hc hg
              have hmost : (⟨M, d, a⟩ : Ca).most = M + 1 := by show max M d + 1 = M + 1; omega
              have T2 := hid (Ca.push_tail (c := ⟨M, d, a⟩) (x := y) (by rw [MY.out]; exact HT.out) (by rw [hmost]; omega))
              have HLEN := hid (Ca.push_len ⟨M, d, a⟩ y)
              rw [hmost] at HLEN
              have HO := hid (fun (h : ∀ z ∈ (Ca.push ⟨M, d, a⟩ y).l, z = y) => Ca.out_steady (Ca.push_ne ⟨M, d, a⟩ y) h 50)
              obtain ⟨c2, hc2⟩ : ∃ c2, Ca.push ⟨M, d, a⟩ y = c2 := ⟨_, rfl⟩
              have HC2 := hid (show c2 = ⟨M, d, c2.l⟩ by rw [← hc2]; rfl)
              rw [hc2] at K2 T2 HLEN HO ⊢
              rw [MY.out] at T2
              clear hc2 hmost
              obtain ⟨o, ho⟩ : ∃ o, c2.out 50 = o := ⟨_, rfl⟩
              rw [ho] at HO ⊢
              clear ho
              go_wp2_with fail
              go_roundw
              case rel => exact ⟨k + 1, by omega, by go_num, c2.l, o, rfl, by rw [← HC2.out]; exact K2.out, T2.out, by rw [HLEN.out]; have := HL.out; show k + 1 ≤ min (M + 1) (a.length + 1); omega, fun e => HO.out (tailIs_all T2.out (by rw [HLEN.out, e]; exact Nat.min_le_left _ _))⟩
              case measure => simp [intOf]; omega
            · obtain rfl : k = M + 1 := by omega
              obtain rfl := HV.out rfl
              have i3 : (M : Int) < ((M + 1 : Nat) : Int) := by omega
              have i4 : ¬ ((M + 1 : Nat) : Int) ≤ (M : Int) := by omega
              have HLEN := hid (show a.length = M + 1 from Nat.le_antisymm (by have h := K.out.at1.ok.n; have e : (⟨M, d, a⟩ : Ca).most = M + 1 := (by show max M d + 1 = M + 1; omega); rw [e] at h; exact h) HL.out)
              have cs : IntKind.i64.wrap ((M : Int) + 1) = (M : Int) + 1 := IntWalk.i64_in _ (by have := HMM.out; omega)
              go_wp2_with fail
              refine (told_any _).mono ?_
              rintro e w2 ⟨rfl, hg⟩
              replace K := hid (K.out.grown hg); clear hg
              go_wp2_with fail
              refine (alls_len K.out.at1 (M + 1) HLEN.out).mono ?_
              rintro e w3 ⟨⟨pp, mm, rfl⟩, hg⟩
              replace K := hid (K.out.grown hg); clear hg
              go_wp2_with fail
              go_ret
              exact ⟨congrArg (fun z => Ending.returned (.bool z)) (by rw [beq_iff_eq]; omega), K.out.gr⟩
end Go.Proofs.Ytnpaecbdejemnaa.csteady
