/-
  Contract for package score: each collector's mark. The condition: the score lies there, the rows read as samples.
-/
import Derived.Test.YtogmibmkkmbgoaaScM
set_option linter.unusedSimpArgs false
set_option linter.unusedVariables false
namespace Go.Proofs.Ytogmibmkkmbgoaa
set_option maxRecDepth 100000
open Go.RowKit

/-- a slice that reads as these rows of samples -/
def RowsS (w : World) (v : Value) (ls : List (Value × List Sm)) : Prop :=
  (v = .slice none 0 0 ∧ ls = []) ∨
  ∃ b o cap, v = .slice (some ⟨b, o, none⟩) ls.length cap ∧ ls.length ≤ cap ∧ cap ≤ maxLen ∧ ∀ i, (h : i < ls.length) → w.cell? ⟨b, o + i, none⟩ = some ls[i].1 ∧ SAt w ls[i].1 ls[i].2
theorem RowsS.grown {w w1 : World} {v : Value} {l : List (Value × List Sm)} (h : RowsS w v l) (hg : w.grownBy w1 none) : RowsS w1 v l := by
  rcases h with h | ⟨b, o, cap, rfl, h1, h2, h3⟩
  · exact .inl h
  · exact .inr ⟨b, o, cap, rfl, h1, h2, fun i hi => ⟨hg.cell (h3 i hi).1 (by simp), (h3 i hi).2.grown hg⟩⟩
theorem RowsS.form {w : World} {v : Value} {l : List (Value × List Sm)} (h : RowsS w v l) : ∃ p c, v = .slice p l.length c := by
  rcases h with ⟨rfl, rfl⟩ | ⟨b, o, cap, rfl, _⟩
  · exact ⟨none, 0, rfl⟩
  · exact ⟨_, cap, rfl⟩
theorem RowsS.at {w : World} {p : Option Addr} {n c : Nat} {l : List (Value × List Sm)} (h : RowsS w (.slice p n c) l) {i : Nat} (hi : i < l.length) :
    ∃ b o, p = some ⟨b, o, none⟩ ∧ n ≤ c ∧ w.cell? ⟨b, o + i, none⟩ = some l[i].1 ∧ SAt w l[i].1 l[i].2 := by
  rcases h with ⟨e, rfl⟩ | ⟨b, o, cap, e, h1, h2, h3⟩
  · simp at hi
  · cases e
    exact ⟨b, o, rfl, h1, h3 i hi⟩
theorem RowsS.nil (w : World) : RowsS w (.slice none 0 0) [] := .inl ⟨rfl, rfl⟩

set_option maxHeartbeats 1600000 in
theorem marks_any {s : Sc} {b hb : Nat} {w : World} (h : ScAt s b hb w) (v : Value) (L : List (Value × List Sm)) (hv : RowsS w v L) (hL : L.length ≤ 1000) (hrow : ∀ x ∈ L, x.2.length ≤ 1000) (q : Int) :
    Calls Try.prog 36 #[.pointer (some ⟨b, 0, none⟩), v, .int .i64 q] w fun e w' => ∃ mb, e = .returned (.slice (some ⟨mb, 0, none⟩) s.H.length s.H.length) ∧ w'.heap[mb]? = some (.cells ((marksL s q (L.map Prod.snd)).map iv).toArray 69) ∧ w.heap.size ≤ mb ∧ w.grownBy w' none := by
  have HS := hid h
  have HI := hid hv
  have HROW := hid hrow
  obtain ⟨p, c, rfl⟩ := hv.form
  obtain ⟨c0, c1, c2, c3⟩ := h.cells
  have h16 := h.ok.n16
  obtain ⟨N, hN⟩ : ∃ N, s.H.length = N := ⟨_, rfl⟩
  have HNN := hid hN
  rw [hN] at c0 h16 ⊢
  obtain ⟨n, hn⟩ : ∃ n, L.length = n := ⟨_, rfl⟩
  have HN := hid hn
  rw [hn] at HI hL ⊢
  have hmk := mk_marks N (by omega)
  have B0 := hid (at_new w (.cells (Array.replicate N (iv 0)) 69))
  have G0 := hid (World.grownBy_alloc w (.cells (Array.replicate N (iv 0)) 69) none)
  have HLE := hid (Nat.le_refl w.heap.size)
  clear h hv hn hrow hN c1 c2 c3
  go_enter Try.func36, Try.ntmps36
  go_wp2_with fail
  generalize w.alloc (.cells (Array.replicate N (iv 0)) 69) = w2 at *
  obtain ⟨mb, hmb⟩ : ∃ mb, mb = w.heap.size := ⟨_, rfl⟩
  have HMB := hid hmb
  rw [← hmb] at B0 ⊢
  rw [rep_iv] at B0
  clear hmb HLE hmk
  go_loopw [22] (fun i wr => ∃ (k : Nat), k ≤ n ∧ i = .int .i64 (k : Int) ∧ wr.heap[mb]? = some (.cells ((marksF s q ((L.map Prod.snd).take k) (List.replicate N 0)).map iv).toArray 69) ∧ w.grownBy wr none)
    (fun i _ => n - (intOf i).toNat)
  case atStart => exact ⟨0, Nat.zero_le _, rfl, B0.out, G0.out⟩
  case round =>
    obtain ⟨k, hk, rfl, hbl, hgr⟩ := hrel
    have HBL := hid hbl
    have HGR := hid hgr
    clear hbl hgr
    by_cases hlt : k < n
    · have hkl : k < L.length := by rw [HN.out]; exact hlt
      obtain ⟨ab, ao, rfl, hcc, e0, hsa⟩ := (HI.out.grown HGR.out).at hkl
      have hx := List.getElem?_eq_getElem hkl
      have hr1 := HROW.out _ (List.getElem_mem hkl)
      generalize L[k] = x at *
      obtain ⟨u, row⟩ := x
      dsimp only at e0 hsa hr1
      have HSUC := hid (marksF_succ (s := s) (q := q) (mk := List.replicate N 0) (L := L.map Prod.snd) (k := k) (x := row) (by rw [List.getElem?_map, hx]; rfl))
      have hml := marksF_len s q ((L.map Prod.snd).take k) (List.replicate N 0)
      rw [List.length_replicate] at hml
      generalize marksF s q ((L.map Prod.snd).take k) (List.replicate N 0) = mk at *
      have HML := hid hml
      have HH := hid (heard_any (HS.out.grown HGR.out) u row hsa (by omega))
      have HRL := hid (show (heardL s.H row).length ≤ 1000 by have := heardL_len s.H row; omega)
      have HIN := hid (fun (x : Sm) (hx : x ∈ heardL s.H row) => heardL_in hx)
      unfold markM at HSUC
      generalize heardL s.H row = r at *
      obtain ⟨pu, cu, rfl⟩ := hsa.form
      clear hx hsa hr1 hml hkl
      go_wp2_with fail
      refine HH.out.mono ?_
      rintro e w3 ⟨u3, rfl, hown, hg⟩
      have O3 := hid hown
      have G3 := hid (gb_trans HGR.out hg (.inl rfl))
      have B3 := hid (at_grown HBL.out hg (by simp))
      have HSZ := hid (show mb < wr.heap.size from at_lt HBL.out)
      obtain ⟨p3, c3, rfl⟩ := hown.form
      clear hown hg HH HBL HGR e0
      obtain ⟨R, hR⟩ : ∃ R, r.length = R := ⟨_, rfl⟩
      have HR := hid hR
      have HMID := hid (middle_any (.slice p3 r.length c3) r q w3 O3.out.reads HRL.out)
      rw [hR] at O3 HMID HRL ⊢
      have HOK := hid (@midS_ok r q)
      clear hR
      generalize (midS r q).1 = m at *
      generalize (midS r q).2 = okb at *
      go_wp2_with fail
      refine HMID.out.mono ?_
      rintro e w4 ⟨rfl, hg⟩
      have O4 := hid (O3.out.grown hg)
      have G4 := hid (gb_trans G3.out hg (.inl rfl))
      have B4 := hid (at_grown B3.out hg (by simp))
      clear hg HMID O3 G3 B3
      cases okb with
      | false =>
        have HE := hid (show marksF s q ((L.map Prod.snd).take (k + 1)) (List.replicate N 0) = mk by rw [HSUC.out]; rfl)
        clear HSUC HOK
        go_wp2_with fail
        go_roundw
        case rel => exact ⟨k + 1, by omega, by go_num, by rw [HE.out]; exact B4.out, G4.out⟩
        case measure => simp [intOf]; omega
      | true =>
        have HE := hid (show marksF s q ((L.map Prod.snd).take (k + 1)) (List.replicate N 0) = markR s.far m mk r by rw [HSUC.out]; rfl)
        have HV := hid (HOK.out rfl)
        have HRL' := HRL.out
        clear HSUC HOK
        go_wp2_with fail
        go_loopw [39] (fun i wx => ∃ (j : Nat), j ≤ R ∧ i = .int .i64 (j : Int) ∧ wx.heap[mb]? = some (.cells ((markR s.far m mk (r.take j)).map iv).toArray 69) ∧ Chg [mb] w4 wx)
          (fun i _ => R - (intOf i).toNat)
        case atStart => exact ⟨0, Nat.zero_le _, rfl, B4.out, chg_refl _ _⟩
        case round =>
          obtain ⟨j, hj, rfl, hbl, hch⟩ := hrel
          have HB := hid hbl
          have HC := hid hch
          have GX := hid (((chg_grown G4.out [mb]).then hch).free (by intro x hx; rw [List.mem_singleton.1 hx, HMB.out]; exact Nat.le_refl _))
          clear hbl hch
          by_cases hjl : j < R
          · have hjr : j < r.length := by rw [HR.out]; exact hjl
            obtain ⟨ab, ao, rfl, -, hcc, e0, e1, e2, e3⟩ := (O4.out.reads.chg HC.out (fun g hg => by
              have := O4.out.lt g hg
              have h2 := HSZ.out
              simp; omega)).cells hjr
            have hx := List.getElem?_eq_getElem hjr
            obtain ⟨i, hi, hiN⟩ := HIN.out _ (List.getElem_mem hjr)
            have hval := HV.out.1 _ (List.getElem_mem hjr)
            generalize r[j] = x at *
            obtain ⟨z0, z1, z2, z3⟩ := x
            dsimp only at e0 e1 e2 e3 hi hval
            subst hi
            have HM1 := hid (markR_succ (far := s.far) (m := m) (mk := mk) hx)
            have hml := markR_len s.far m mk (r.take j)
            rw [HML.out] at hml
            generalize markR s.far m mk (r.take j) = mj at *
            unfold mark1 at HM1
            dsimp only at HM1
            rw [Int.toNat_natCast] at HM1
            rw [HNN.out] at hiN
            have hiN' : (i : Int) < (N : Int) := by omega
            have hy := List.getElem?_eq_getElem (show i < mj.length by omega)
            rw [List.getD_eq_getElem?_getD, hy, Option.getD_some] at HM1
            generalize mj[i]'(show i < mj.length by omega) = y at *
            have HW := hid (weigh_any ((HS.out.grown GX.out).alloc (.cells #[.int .i64 (i : Int), .int .i64 z1, .int .i64 z2, .int .i64 z3] 40)).drew z3 m hval HV.out.2)
            generalize weighL s.far z3 m = g at *
            have BA := hid (at_alloc HB.out (.cells #[.int .i64 (i : Int), .int .i64 z1, .int .i64 z2, .int .i64 z3] 40))
            have ck := blk_at BA.out hy
            have fk := at_free BA.out i
            have BN := hid (blk_set (k := i) (x := max y g) BA.out rfl)
            have CN := hid ((HC.out.alloc (.cells #[.int .i64 (i : Int), .int .i64 z1, .int .i64 z2, .int .i64 z3] 40)).set (p := ⟨mb, i, none⟩) (.inl (by simp)) (.int .i64 (max y g)))
            clear hx hval hjr hml hy HB HC BA
            go_wp2_with fail
            refine wp_region_still_tail 15 (by kernel_rfl) (by kernel_rfl) ?_
            simp only [List.take_succ_cons, List.take_zero, List.drop_succ_cons, List.drop_zero]
            change wpStill _ _ (wr.alloc (.cells #[.int .i64 (i : Int), .int .i64 z1, .int .i64 z2, .int .i64 z3] 40)).drew _ _ _
            repeat still_step
            still_call (still_of HW.out)
            repeat still_step
            refine wpStill_nil ?_
            change wpList _ _ _ _ _ (wr.alloc (.cells #[.int .i64 (i : Int), .int .i64 z1, .int .i64 z2, .int .i64 z3] 40)).drew
            go_wp2_with fail
            go_roundw
            case rel => exact ⟨j + 1, by omega, by go_num, by rw [HM1.out]; exact at_drew BN.out, CN.out.drew⟩
            case measure => simp [intOf]; omega
          · obtain rfl : j = R := by omega
            rw [← HR.out, List.take_length] at HB
            go_wp2_with fail
            go_roundw
            case rel => exact ⟨k + 1, by omega, by go_num, by rw [HE.out]; exact HB.out, GX.out⟩
            case measure => simp [intOf]; omega
    · obtain rfl : k = n := by omega
      have hall : (L.map Prod.snd).take k = L.map Prod.snd := by rw [List.take_of_length_le]; rw [List.length_map, HN.out]; exact Nat.le_refl _
      rw [hall] at HBL
      have HBL2 : Hid (wr.heap[mb]? = some (.cells ((marksL s q (L.map Prod.snd)).map iv).toArray 69)) := by unfold marksL; rw [HNN.out]; exact HBL
      clear HBL hall
      go_wp2_with fail
      go_ret
      exact ⟨mb, rfl, HBL2.out, by rw [HMB.out]; exact Nat.le_refl _, HGR.out⟩
end Go.Proofs.Ytogmibmkkmbgoaa
