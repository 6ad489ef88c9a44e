/-
  Contract for the document's Calm: Next. The condition: the object lies there.
-/
import Derived.Test.YtnpaecbdejemnaaCbA
import Derived.Test.YtnpaecbdejemnaaHeld
set_option linter.unusedSimpArgs false
set_option linter.unusedVariables false
namespace Go.Proofs.Ytnpaecbdejemnaa
set_option maxRecDepth 100000
open Go.RowKit

/-- what Next's walk keeps of its list that grows: the object, the row -/
theorem own_push {F : List Nat} {b : Nat} {c : Ca} {w w1 : World} {v : Value} {l : List Int} (H : CbAt w F b c) (hg : w.grownBy w1 none) (hown : OwnN w.heap.size w1 v l) (k : Nat) (hk : 1 ≤ k) (hl : l ≠ []) (ho : ({ c with l := lastL l k } : Ca).Ok) :
    ∃ ab ao n m, v = .slice (some ⟨ab, ao, none⟩) n m ∧ n = l.length ∧ n ≤ m ∧ (∃ x, w1.cell? ⟨b, 2, none⟩ = some x) ∧ w1.frozen? ⟨b, 2, none⟩ = false ∧
      CbAt (w1.setCell ⟨b, 2, none⟩ (.slice (some ⟨ab, ao + (n - k), none⟩) (n - (n - k)) (m - (n - k)))) F b { c with l := lastL l k } ∧ Chg [b] w (w1.setCell ⟨b, 2, none⟩ (.slice (some ⟨ab, ao + (n - k), none⟩) (n - (n - k)) (m - (n - k)))) := by
  have CB := H.grown hg
  have hI := hown.ints
  obtain ⟨p, m, rfl⟩ := hown.form
  obtain ⟨ab, ao, rfl, -, hm, -⟩ := hI.cell (List.length_pos_iff.2 hl)
  have PB : ab ∉ F := fun hm => by
    have h1 := (hown.at ab (by simp [ownL, Value.ownBlock])).1
    have h2 := H.lt _ hm
    omega
  have h1 := ints_slice1 hI (Nat.sub_le l.length k)
  have e1 : (lastL l k).length = l.length - (l.length - k) := by unfold lastL; rw [List.length_drop]
  have FIN := CB.put (l := lastL l k) (by rw [e1]; exact h1) (fun a e => by cases e; exact PB) ho
  rw [e1] at FIN
  obtain ⟨⟨q, r, h1, -, -⟩, -⟩ := CB
  exact ⟨ab, ao, l.length, m, rfl, rfl, hm, ⟨_, at_cell h1 2⟩, at_free h1 2, FIN.1, (chg_grown hg [b]).then FIN.2⟩
def NextedR (w : World) (F : List Nat) (b : Nat) (c : Ca) (n : Int) (e : Ending) (w' : World) : Prop := e = .returned (.int .i64 (c.out n)) ∧ CbAt w' F b c ∧ Chg [b] w w'
set_option maxHeartbeats 3200000 in
theorem rnext_any {F : List Nat} {b : Nat} {c : Ca} (n x : Int) {w : World} (H : CbAt w F b c) :
    Calls Try.prog 15 #[.pointer (some ⟨b, 0, none⟩), .int .i64 n, .int .i64 x] w (NextedR w F b (c.push x) n) := by
  have HH := hid H
  have HOK := hid (Ca.push_ok H.ok x)
  have hn61 := H.ok.n61
  have hmost := most_le H.ok
  have R := hid (fun (W : World) (h : w.grownBy W none) => rmost_any (H.grown h))
  have HNE := hid (Ca.push_ne c x)
  have HM1 := hid (show 1 ≤ c.most ∧ c.most ≤ 61 by unfold Ca.most at *; omega)
  have HPD := hid (show ∀ l, c.l = l → c.push x = { c with l := lastL (l ++ [mill x]) c.most } from fun l e => by rw [← e]; rfl)
  obtain ⟨⟨p0, k0, hrow, hi, -⟩, -⟩ := H
  have HI := hid hi
  obtain ⟨l0, hl0⟩ : ∃ l, c.l = l := ⟨_, rfl⟩
  replace HPD := hid (HPD.out _ hl0)
  rw [hl0] at hrow HI hn61
  obtain ⟨n0, hn0⟩ : ∃ n, l0.length = n := ⟨_, rfl⟩
  have HN0 := hid hn0
  rw [hn0] at hrow HI hn61
  have c2 := at_cell hrow 2
  have HE := hid (OwnN.empty w)
  have HB := hid (HI.out.alloc (.cells #[] 3))
  have T := hid (rmillion_any x)
  have c2' : (w.alloc (.cells #[] 3)).cell? ⟨b, 2, none⟩ = some (.slice p0 n0 k0) := at_cell (at_alloc hrow _) 2
  clear hi hl0 hn0 hrow
  go_enter Try.func15, Try.ntmps15
  go_wp2_with (refine append_nums rfl _ _ rfl w.heap.size _ [] rfl HE.out _ l0 rfl HB.out (by rw [HN0.out]; simp; omega) (gb_size (gb_alloc (.refl w none) _)) ?_; intro v1 w1 hown hgrow hat; have O1 := hid (show OwnN w.heap.size w1 v1 l0 from by simpa using hown); have G1 := hid (gb_ownN (gb_alloc (.refl w none) _) HE.out (Nat.le_refl _) hgrow); clear hown hgrow hat)
  refine (T.out _).mono ?_
  rintro e w1' ⟨rfl, rfl⟩
  obtain ⟨y, hy⟩ : ∃ y, mill x = y := ⟨_, rfl⟩
  have HY := hid hy
  rw [hy]; clear hy
  have O2 := hid (O1.out.grown (World.grownBy_alloc w1 (.cells #[.int .i64 y] 3) none))
  have G2 := hid (gb_alloc G1.out (.cells #[.int .i64 y] 3))
  have CY := hid (at_cell (at_new w1 (.cells #[.int .i64 y] 3)) 0)
  go_wp2_with (refine append_num rfl _ _ rfl w.heap.size _ l0 rfl O2.out _ y rfl CY.out (by rw [HN0.out]; omega) (gb_size G2.out) ?_; intro v2 w2 hown hgrow hat; have O3 := hid hown; have G3 := hid (gb_ownN G2.out O2.out (Nat.le_refl _) hgrow); clear hown hgrow hat)
  refine (R.out _ G3.out).mono ?_
  rintro e w3 ⟨rfl, hg⟩
  have G4 := hid (gb_trans G3.out hg (.inl rfl))
  obtain ⟨ab, ao, nn, m, rfl, hnn, hnm, ⟨x2, c2x⟩, f2x, hfin⟩ := own_push (c := c) HH.out G4.out (O3.out.grown hg) c.most HM1.out.1 (by simp) (by have h := HOK.out; rw [HPD.out, HY.out] at h; exact h)
  have hpd := HPD.out
  rw [HY.out] at hpd
  rw [← hpd] at hfin
  rw [List.length_append, HN0.out, List.length_singleton] at hnn
  have HFIN := hid hfin
  obtain ⟨mo, hmo⟩ : ∃ mo, c.most = mo := ⟨_, rfl⟩
  rw [hmo] at HFIN HM1 ⊢
  have LL := hid (rlast_any ab ao nn m mo (by omega) HM1.out.1 hnm (by omega) (by have := HM1.out; omega) w3)
  have HNN := hid (And.intro hnn hnm)
  clear hg hfin hpd hmo c2 c2' hnn hnm
  go_wp2_with fail
  refine LL.out.mono ?_
  rintro e w3' ⟨rfl, rfl⟩
  clear LL
  go_wp2_with fail
  generalize w3.setCell ⟨b, 2, none⟩ (.slice (some ⟨ab, ao + (nn - mo), none⟩) (nn - (nn - mo)) (m - (nn - mo))) = w4 at *
  have HW4 := hid HFIN.out
  clear HFIN HI HB HE O1 O2 O3 G1 G2 G3 G4 CY R HNN HN0 HM1 HPD HY HH f2x c2x
  generalize c.push x = c1 at *
  clear hmost hn61
  obtain ⟨d0, d1, -⟩ := HW4.out.1.cells
  obtain ⟨p1, k1, hrow, hints, -⟩ := HW4.out.1.row
  have hu60 := HOK.out.u; have hd60 := HOK.out.d; have hN61 := HOK.out.n61
  have hpos := List.length_pos_iff.2 HNE.out
  obtain ⟨N, hN⟩ : ∃ N, c1.l.length = N := ⟨_, rfl⟩
  have HN := hid hN
  rw [hN] at hrow hints hN61 hpos
  obtain ⟨qb, qo, rfl, -, hNk, -⟩ := hints.cell (i := 0) (by rw [hN]; exact hpos)
  have d2 := at_cell hrow 2
  obtain ⟨ku, hku⟩ : ∃ k, c1.up + 1 = k := ⟨_, rfl⟩
  obtain ⟨kd, hkd⟩ : ∃ k, c1.down + 1 = k := ⟨_, rfl⟩
  have su : IntKind.i64.wrap ((c1.up : Int) + 1) = (ku : Int) := by rw [IntWalk.i64_in _ (by omega)]; omega
  have sd : IntKind.i64.wrap ((c1.down : Int) + 1) = (kd : Int) := by rw [IntWalk.i64_in _ (by omega)]; omega
  have L1 := hid (rlast_any qb qo N k1 ku hpos (by omega) hNk (by omega) (by omega))
  have L2 := hid (rlast_any qb qo N k1 kd hpos (by omega) hNk (by omega) (by omega))
  have IU := hid (ints_slice1 hints (Nat.sub_le N ku))
  have ID := hid (ints_slice1 hints (Nat.sub_le N kd))
  have eU : lastL c1.l ku = c1.l.drop (N - ku) := by unfold lastL; rw [hN]
  have eD : lastL c1.l kd = c1.l.drop (N - kd) := by unfold lastL; rw [hN]
  rw [← eU] at IU; rw [← eD] at ID
  have NU := hid (lastL_ne HNE.out (show 0 < ku by omega))
  have ND := hid (lastL_ne HNE.out (show 0 < kd by omega))
  have HOUT := hid (fun (a b : Int) (h1 : loL (lastL c1.l ku) = a) (h2 : hiL (lastL c1.l kd) = b) => show c1.out n = min b (max (mill n) a) by
    subst h1; subst h2; subst hku; subst hkd; rfl)
  have NK := hid HW4.out
  clear hrow hints hN61 eU eD hN HN HNE hku hkd hu60 hd60 HOK HW4 hpos
  generalize lastL c1.l ku = lu at *
  generalize lastL c1.l kd = ld at *
  go_quiet ((go_at_call 30; first | with_reducible exact Calls.quiet_of_same (still_of (L1.out _)) | with_reducible exact Calls.quiet_of_same (still_of (L2.out _))))
  generalize qo + (N - ku) = ua at *
  generalize N - (N - ku) = un at *
  generalize k1 - (N - ku) = uc at *
  generalize qo + (N - kd) = da at *
  generalize N - (N - kd) = dn at *
  generalize k1 - (N - kd) = dc at *
  have MC := hid (rmillion_any n)
  refine exit_gen (fun W => (CbAt W F b c1 ∧ Chg [b] w W) ∧ IntsAt W (.slice (some ⟨qb, ua, none⟩) un uc) lu ∧ IntsAt W (.slice (some ⟨qb, da, none⟩) dn dc) ld) ⟨⟨NK.out.1.grown ⟨rfl, rfl, rfl, Nat.le_refl _, fun _ _ _ => rfl⟩, NK.out.2.grown ⟨rfl, rfl, rfl, Nat.le_refl _, fun _ _ _ => rfl⟩⟩, IU.out.grown ⟨rfl, rfl, rfl, Nat.le_refl _, fun _ _ _ => rfl⟩, ID.out.grown ⟨rfl, rfl, rfl, Nat.le_refl _, fun _ _ _ => rfl⟩⟩ (fun w5 hq => ?_)
  clear IU ID NK d0 d1 d2 su sd L1 L2
  have KK := hid hq
  clear hq
  obtain ⟨_, _, e, eun, hcu, hc0u⟩ := KK.out.2.1.cell (i := 0) (List.length_pos_iff.2 NU.out)
  cases e
  obtain ⟨_, _, e, edn, hcd, hc0d⟩ := KK.out.2.2.cell (i := 0) (List.length_pos_iff.2 ND.out)
  cases e
  rw [Nat.add_zero] at hc0u hc0d
  have hun : 0 < un := by rw [eun]; exact List.length_pos_iff.2 NU.out
  have hdn : 0 < dn := by rw [edn]; exact List.length_pos_iff.2 ND.out
  obtain ⟨a0, ha0⟩ : ∃ a, lu[0]'(List.length_pos_iff.2 NU.out) = a := ⟨_, rfl⟩
  obtain ⟨b0, hb0⟩ : ∃ a, ld[0]'(List.length_pos_iff.2 ND.out) = a := ⟨_, rfl⟩
  rw [ha0] at hc0u; rw [hb0] at hc0d
  have H0u := hid (show loTo lu 0 = a0 by
    rw [← ha0]; unfold loTo; cases lu with | nil => exact absurd rfl NU.out | cons a t => rfl)
  have H0d := hid (show hiTo ld 0 = b0 by
    rw [← hb0]; unfold hiTo; cases ld with | nil => exact absurd rfl ND.out | cons a t => rfl)
  have HNu := hid eun.symm; have HNd := hid edn.symm
  have b61 := hid (And.intro (show lu.length ≤ maxLen from KK.out.2.1.len) (show ld.length ≤ maxLen from KK.out.2.2.len))
  have hun2 : un ≤ maxLen := by rw [← HNu.out]; exact b61.out.1
  have hdn2 : dn ≤ maxLen := by rw [← HNd.out]; exact b61.out.2
  unfold maxLen at hun2 hdn2
  clear ha0 hb0 eun edn
  go_wp2_with fail
  go_quiet (fail)
  refine exit_gen (fun W => (CbAt W F b c1 ∧ Chg [b] w W) ∧ IntsAt W (.slice (some ⟨qb, ua, none⟩) un uc) lu ∧ IntsAt W (.slice (some ⟨qb, da, none⟩) dn dc) ld) ⟨⟨KK.out.1.1.grown ⟨rfl, rfl, rfl, Nat.le_refl _, fun _ _ _ => rfl⟩, KK.out.1.2.grown ⟨rfl, rfl, rfl, Nat.le_refl _, fun _ _ _ => rfl⟩⟩, KK.out.2.1.grown ⟨rfl, rfl, rfl, Nat.le_refl _, fun _ _ _ => rfl⟩, KK.out.2.2.grown ⟨rfl, rfl, rfl, Nat.le_refl _, fun _ _ _ => rfl⟩⟩ (fun wk hq => ?_)
  clear hc0u hc0d KK
  have NK := hid hq
  clear hq
  have HCu := hid (fun (j : Nat) (x : Int) (hx : lu[j]? = some x) => NK.out.2.1.cell' hx)
  have HCd := hid (fun (j : Nat) (x : Int) (hx : ld[j]? = some x) => NK.out.2.2.cell' hx)
  go_wp2_with fail
  go_loopw [9, 11] (fun r i wr => ∃ k : Nat, k ≤ un ∧ i = .int .i64 (k : Int) ∧ r = .int .i64 (loTo lu k) ∧ wk = wr) (fun _ i _ => un - (intOf i).toNat)
  case atStart => exact ⟨0, Nat.zero_le _, rfl, by rw [H0u.out], rfl⟩
  case round =>
    obtain ⟨k, hk, rfl, rfl, rfl⟩ := hrel
    by_cases hlt : k < un
    · have hkl : k < lu.length := by rw [HNu.out]; exact hlt
      have hx := List.getElem?_eq_getElem hkl
      generalize lu[k] = y at *
      have hcx := HCu.out k y hx
      have hs := hid (show loTo lu (k + 1) = min (loTo lu k) y by
        show min (loTo lu k) (lu.getD k 0) = _
        rw [getD_at hx])
      have ilt : (k : Int) < (un : Int) := by omega
      clear hx hkl
      generalize loTo lu k = r at *
      go_wp2_with fail
      all_goals go_roundw
      all_goals first | (case measure => simp [intOf]; omega) | (case rel => exact ⟨k + 1, by omega, by go_num, congrArg (Value.int .i64) (by have := hs.out; omega), trivial⟩)
    · obtain rfl : k = un := by omega
      obtain ⟨ru, hru⟩ : ∃ r, loTo lu k = r := ⟨_, rfl⟩
      rw [hru]
      have HRu := hid hru; clear hru hlt hk
      go_wp2_with fail
      go_loopw [10, 12] (fun r i wr => ∃ k : Nat, k ≤ dn ∧ i = .int .i64 (k : Int) ∧ r = .int .i64 (hiTo ld k) ∧ wk = wr) (fun _ i _ => dn - (intOf i).toNat)
      case atStart => exact ⟨0, Nat.zero_le _, rfl, by rw [H0d.out], rfl⟩
      case round =>
        obtain ⟨k, hk, rfl, rfl, rfl⟩ := hrel
        by_cases hlt : k < dn
        · have hkl : k < ld.length := by rw [HNd.out]; exact hlt
          have hx := List.getElem?_eq_getElem hkl
          generalize ld[k] = y at *
          have hcx := HCd.out k y hx
          have hs := hid (show hiTo ld (k + 1) = max (hiTo ld k) y by
            show max (hiTo ld k) (ld.getD k 0) = _
            rw [getD_at hx])
          have ilt : (k : Int) < (dn : Int) := by omega
          clear hx hkl
          generalize hiTo ld k = r at *
          go_wp2_with fail
          all_goals go_roundw
          all_goals first | (case measure => simp [intOf]; omega) | (case rel => exact ⟨k + 1, by omega, by go_num, congrArg (Value.int .i64) (by have := hs.out; omega), trivial⟩)
        · obtain rfl : k = dn := by omega
          obtain ⟨rd, hrd⟩ : ∃ r, hiTo ld k = r := ⟨_, rfl⟩
          rw [hrd]
          have HRd := hid hrd; clear hrd hlt hk
          go_wp2_with fail
          refine (MC.out _).mono ?_
          rintro e w9 ⟨rfl, rfl⟩
          go_wp2_with fail
          all_goals go_ret
          all_goals exact ⟨congrArg (fun z => Ending.returned (.int .i64 z)) (by rw [HOUT.out ru rd (by show loTo lu lu.length = _; rw [HNu.out]; exact HRu.out) (by show hiTo ld ld.length = _; rw [HNd.out]; exact HRd.out)]; try omega), NK.out.1.1, NK.out.1.2⟩
    
end Go.Proofs.Ytnpaecbdejemnaa
