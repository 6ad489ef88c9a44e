/-
  Contract for package score: the end of an epoch. The condition: the score lies there, the rows read as samples.
-/
import Derived.Test.YtogmibmkkmbgoaaScK
import Derived.Test.YtogmibmkkmbgoaaOwnN
set_option linter.unusedSimpArgs false
set_option linter.unusedVariables false
namespace Go.Proofs.Ytogmibmkkmbgoaa
set_option maxRecDepth 100000
open Go.RowKit

/-- behind the first k -/
def Sc.upTo (s : Sc) (mk : List Int) (k : Nat) : Sc := ⟨(runTo s.st s.pr mk s.H k).1, s.st, s.pr, s.far⟩
theorem Sc.upTo_succ {s : Sc} {mk : List Int} {k : Nat} {h0 : Hd} {m : Int} (h : (s.upTo mk k).H[k]? = some h0) (hm : mk[k]? = some m) :
    s.upTo mk (k + 1) = (s.upTo mk k).put k (endH s.st s.pr h0 m).1 ∧ (runTo s.st s.pr mk s.H (k + 1)).2 = if (endH s.st s.pr h0 m).2 = true then (runTo s.st s.pr mk s.H k).2 ++ [(k : Int)] else (runTo s.st s.pr mk s.H k).2 := by
  have h' : (runTo s.st s.pr mk s.H k).1[k]? = some h0 := h
  have e1 : (runTo s.st s.pr mk s.H k).1.getD k (true, 0) = h0 := by rw [List.getD_eq_getElem?_getD, h']; rfl
  have e2 : mk.getD k 0 = m := by rw [List.getD_eq_getElem?_getD, hm]; rfl
  constructor
  · unfold Sc.upTo Sc.put
    rw [runTo]
    dsimp only
    rw [e1, e2]
  · rw [runTo]
    dsimp only
    rw [e1, e2]
theorem Sc.upTo_ok {s : Sc} (h : s.ok) (mk : List Int) (k : Nat) (hk : k ≤ s.H.length) : (s.upTo mk k).ok := by
  have hl : (s.upTo mk k).H.length = s.H.length := runTo_len ..
  have h1 := h.st
  have h2 := h.pr
  exact ⟨by rw [hl]; exact h.n1, by rw [hl]; exact h.n16, h.st, h.pr, h.far, fun x hx => runTo_cnt h.cnt (by omega) (by omega) _ hk x hx⟩
theorem chg_opt {a b : World} {r : Option Nat} (h : a.grownBy b r) : Chg r.toList a b := match r, h with
  | none, h => chg_grown h _
  | some _, h => chg_row h
theorem close_nil (v : Value) (q : Int) (w : World) :
    Calls Try.prog 20 #[.pointer none, v, .int .i64 q] w fun e w' => e = .returned (.slice none 0 0) ∧ w = w' := by
  go_enter Try.func20, Try.ntmps20
  go_wp2
  go_ret
  exact ⟨rfl, rfl⟩
set_option maxHeartbeats 1600000 in
theorem close_any {s : Sc} {b hb : Nat} {w : World} (h : ScAt s b hb w) (hok : s.ok) (v : Value) (L : List (Value × List Sm)) (hv : RowsS w v L) (hL : L.length ≤ 1000) (hrow : ∀ x ∈ L, x.2.length ≤ 1000) (q : Int) :
    Calls Try.prog 20 #[.pointer (some ⟨b, 0, none⟩), v, .int .i64 q] w fun e w' => ∃ u, e = .returned u ∧ OwnN w.heap.size w' u (s.gone (L.map Prod.snd) q) ∧ ScAt (s.close (L.map Prod.snd) q) b hb w' ∧ Chg [hb] w w' := by
  have HS := hid h
  have HOK := hid hok
  have HM := hid (marks_any h v L hv hL hrow q)
  obtain ⟨p, c, rfl⟩ := hv.form
  have hml := marksL_len s q (L.map Prod.snd)
  unfold Sc.close Sc.gone
  generalize L.length = n at *
  generalize marksL s q (L.map Prod.snd) = mk at *
  have hHB := h.lt
  obtain ⟨N, hN⟩ : ∃ N, s.H.length = N := ⟨_, rfl⟩
  have HN := hid hN
  rw [hN] at HM hml ⊢
  have HML := hid hml
  have HHB := hid hHB
  have hN16 : N ≤ 16 := by have := hok.n16; omega
  clear h hok hv hL hrow hml hN hHB
  go_enter Try.func20, Try.ntmps20
  go_wp2_with fail
  refine HM.out.mono ?_
  rintro e w2 ⟨mb, rfl, hblk, hmb, hg⟩
  have HB := hid hblk
  have HMB := hid hmb
  have HG := hid hg
  have HS2 := hid (HS.out.grown hg)
  clear hblk hmb hg HM
  go_wp2_with fail
  go_loopw [7, 17] (fun u i wr => ∃ (k : Nat) (v0 : Value), u = v0 ∧ k ≤ N ∧ i = .int .i64 (k : Int) ∧ OwnN w.heap.size wr v0 (runTo s.st s.pr mk s.H k).2 ∧ wr.heap[mb]? = some (.cells (mk.map iv).toArray 69) ∧ (∀ g, g ∈ ownL v0 → g ≠ mb) ∧ ScAt (s.upTo mk k) b hb wr ∧ Chg [hb] w wr)
    (fun _ i _ => N - (intOf i).toNat)
  case atStart => exact ⟨0, _, rfl, Nat.zero_le _, rfl, OwnN.nil _ _, HB.out, by simp [ownL, Value.ownBlock], HS2.out, chg_grown HG.out _⟩
  case round =>
    obtain ⟨k, v0, hv0, hk, rfl, hown, hblk, hnm, hsc, hch⟩ := hrel
    have hv' := hv0.symm
    clear hv0
    subst hv'
    have HO := hid hown
    have HBL := hid hblk
    have HNM := hid hnm
    have HSC := hid hsc
    have HCH := hid hch
    clear hown hblk hnm hsc hch
    by_cases hlt : k < N
    · have hlen : (s.upTo mk k).H.length = N := by rw [← HN.out]; exact runTo_len ..
      have hx := List.getElem?_eq_getElem (show k < (s.upTo mk k).H.length by omega)
      have hm := List.getElem?_eq_getElem (show k < mk.length by rw [HML.out]; exact hlt)
      have hcnt := (Sc.upTo_ok HOK.out mk k (by rw [HN.out]; omega)).cnt _ (List.mem_of_getElem? hx)
      generalize (s.upTo mk k).H[k]'(show k < (s.upTo mk k).H.length by omega) = h0 at *
      generalize mk[k]'(show k < mk.length by rw [HML.out]; exact hlt) = m at *
      obtain ⟨c0, c1, c2, c3⟩ := HSC.out.cells
      rw [hlen] at c0
      have hmk := blk_at HBL.out hm
      have HE := hid (end_any HSC.out k h0 hx hcnt.2 m)
      obtain ⟨hs1, hs2⟩ := Sc.upTo_succ hx hm
      have HS1 := hid hs1
      have HS2' := hid hs2
      have e1 : (s.upTo mk k).st = s.st := rfl
      have e2 : (s.upTo mk k).pr = s.pr := rfl
      rw [e1, e2] at HE
      generalize endH s.st s.pr h0 m = r at *
      obtain ⟨hn, o⟩ := r
      have hkn : (k : Int) < (N : Int) := by omega
      clear hx hm hcnt hs1 hs2 hlen e1 e2 c1 c2 c3
      have HGL := hid (runTo_gone s.st s.pr mk s.H k)
      generalize (runTo s.st s.pr mk s.H k).2 = gl at *
      go_wp2_with fail
      refine HE.out.mono ?_
      rintro e w3 ⟨rfl, ha, hg⟩
      dsimp only at ha HS2' HS1
      rw [← HS1.out] at ha
      have hhb : ∀ g, g ∈ ownL v0 → g ∉ [hb] := fun g hg hm => by
        have h1 := HO.out.at g hg
        have h2 := HHB.out.2
        rw [List.mem_singleton.1 hm] at h1; omega
      have O3 := hid (HO.out.chg hg hhb)
      have B3 := hid (hg.at HBL.out (by
        have h1 := HMB.out
        have h2 := HHB.out.2
        simp; omega))
      have A3 := hid ha
      have C3 := hid (HCH.out.then hg)
      obtain ⟨pu, cu, rfl⟩ := HO.out.form
      clear ha hg hhb HO HBL HSC HCH HE hmk c0
      cases o with
      | false =>
        rw [if_neg (by simp)] at HS2'
        go_wp2_with fail
        go_roundw
        case rel => exact ⟨k + 1, _, rfl, by omega, by go_num, by rw [HS2'.out]; exact O3.out, B3.out, HNM.out, A3.out, C3.out⟩
        case measure => simp [intOf]; omega
      | true =>
        rw [if_pos rfl] at HS2'
        have O4 := hid (O3.out.grown (World.grownBy_alloc w3 (.cells #[.int .i64 (k : Int)] 3) none))
        have SM := hid (at_cell (at_new w3 (.cells #[.int .i64 (k : Int)] 3)) 0)
        have LEN := hid (show gl.length + 1 ≤ 1000000 by have := HGL.out; omega)
        have LE := hid (Nat.le_trans (Nat.le_trans C3.out.size (Nat.le_succ _)) (Nat.le_of_eq (size_alloc' w3 (.cells #[.int .i64 (k : Int)] 3)).symm))
        clear O3 HGL
        go_wp2_with
          (refine append_num rfl _ _ rfl w.heap.size _ _ rfl O4.out _ _ rfl SM.out LEN.out LE.out ?_; intro v' w5 hown3 hg3 hat3; have HO5 := hid hown3; have HG5 := hid hg3; have HA5 := hid (show v'.ownBlock = (Value.slice pu gl.length cu).ownBlock ∨ v'.ownBlock = some (w3.alloc (.cells #[.int .i64 (k : Int)] 3)).heap.size from hat3); clear hown3 hg3 hat3)
        have hc5 := chg_opt HG5.out
        have hin : ∀ x ∈ (Value.slice pu gl.length cu).ownBlock.toList, w.heap.size ≤ x := fun x hx => (O4.out.at x hx).1
        have C5 := hid ((C3.out.alloc _).trans hc5 (fun x hx => .inr (hin x hx)))
        have A5 := hid ((A3.out.alloc _).chg hc5 (fun hx => by have h1 := hin _ hx; have h2 := HHB.out.1; omega) (fun hx => by have h1 := hin _ hx; have h2 := HHB.out.2; omega))
        have B5 := hid (hc5.at (at_alloc B3.out _) (fun hx => HNM.out _ hx rfl))
        have N5 := hid (show ∀ g, g ∈ ownL v' → g ≠ mb by
          intro g hg
          rcases HA5.out with e | e
          · exact HNM.out g (by unfold ownL at *; rw [← e]; exact hg)
          · unfold ownL at hg
            rw [e] at hg
            have h1 := at_lt (at_alloc B3.out (.cells #[.int .i64 (k : Int)] 3))
            simp at hg
            have h2 := at_lt B3.out
            omega)
        clear hc5 hin A3 B3 C3 O4 SM LE LEN HG5 HA5
        go_roundw
        case rel => exact ⟨k + 1, _, rfl, by omega, by go_num, by rw [HS2'.out]; exact HO5.out, B5.out, N5.out, A5.out, C5.out⟩
        case measure => simp [intOf]; omega
    · obtain rfl : k = N := by omega
      have A4 : Hid (ScAt ⟨(runTo s.st s.pr mk s.H k).1, s.st, s.pr, s.far⟩ b hb wr) := HSC
      obtain ⟨pu, cu, rfl⟩ := HO.out.form
      go_wp2_with fail
      go_ret
      exact ⟨_, rfl, HO.out, A4.out, HCH.out⟩
end Go.Proofs.Ytogmibmkkmbgoaa
