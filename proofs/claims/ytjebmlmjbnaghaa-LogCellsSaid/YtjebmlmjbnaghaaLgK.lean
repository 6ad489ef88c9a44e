/-
  Contract for the document's own GetCell for whatever comes: it tells what the program tells. No condition but a modest length.
-/
import Derived.Test.YtjebmlmjbnaghaaLgJ
set_option linter.unusedSimpArgs false
set_option linter.unusedVariables false
namespace Go.Proofs.Ytjebmlmjbnaghaa
set_option maxRecDepth 100000
open Go.RowKit

theorem cell_data (l : List UInt8) : (⟨l.toArray⟩ : ByteArray).extract 8 (8 + min ((l.getD 7 0).toNat : Int) 48).toNat = ⟨(cellOf l).data.toArray⟩ := by
  have e : (8 + min ((l.getD 7 0).toNat : Int) 48).toNat = 8 + min (l.getD 7 0).toNat 48 := by omega
  rw [e, ba_part]; rfl
theorem str_eqB (l r : List UInt8) : ((⟨l.toArray⟩ : ByteArray).toList == (⟨r.toArray⟩ : ByteArray).toList) = (l == r) := beq_bytes l r
theorem rcget_any (l : List UInt8) (hle : l.length ≤ 1000000) (w : World) :
    Calls Try.prog 13 #[.string ⟨l.toArray⟩] w fun e w' => e = .returned (.tuple #[.agg (clD (gotL l)), .bool (gotW l), .int .i64 (gotC l)]) ∧ w.grownBy w' none := by
  by_cases hl : l.length = 64
  case neg =>
    have e1 : gotW l = false := by unfold gotW; simp [hl]
    have e2 : gotL l = zeroC := by unfold gotL; rw [e1]; rfl
    have e3 : gotC l = 1 := by unfold gotC; rw [if_neg hl]
    rw [e1, e2, e3]
    exact rcget_len ⟨l.toArray⟩ hl w
  have hz : (⟨l.toArray⟩ : ByteArray).size = 64 := hl
  have hb := fun i (h : i < 64) => byteAt_size (⟨l.toArray⟩ : ByteArray) i (by rw [hz]; exact h)
  have c63 : ((⟨l.toArray⟩ : ByteArray)[63]'(by rw [hz]; decide)).toNat = (l.getD 63 0).toNat := by rw [← hb 63 (by decide)]
  have c4 : ((⟨l.toArray⟩ : ByteArray)[4]'(by rw [hz]; decide)).toNat = (l.getD 4 0).toNat := by rw [← hb 4 (by decide)]
  have c5 : ((⟨l.toArray⟩ : ByteArray)[5]'(by rw [hz]; decide)).toNat = (l.getD 5 0).toNat := by rw [← hb 5 (by decide)]
  have c6 : ((⟨l.toArray⟩ : ByteArray)[6]'(by rw [hz]; decide)).toNat = (l.getD 6 0).toNat := by rw [← hb 6 (by decide)]
  have c7 : ((⟨l.toArray⟩ : ByteArray)[7]'(by rw [hz]; decide)).toNat = (l.getD 7 0).toNat := by rw [← hb 7 (by decide)]
  have G := fun w => rget_pass l hl w
  have hp : (readL l).pass = passOf l := rfl
  cases hw : wholeL l with
  | false =>
    have e1 : gotW l = false := by unfold gotW; rw [hw]; simp
    have e2 : gotL l = zeroC := by unfold gotL; rw [e1]; rfl
    have e3 : gotC l = 0 := by unfold gotC; rw [if_pos hl, e1]; rfl
    rw [e1, e2, e3]
    have hm := fun h => (Bool.eq_false_iff.1 hw) ((whole_mark l).2 h)
    rw [hp] at hm
    by_cases h0 : passOf l = 0
    · rw [h0] at G
      exact rcget_p0 _ hz G w
    by_cases h1 : 250 < passOf l
    · exact rcget_p1 _ hz _ h1 G w
    · rw [markN_in (by omega)] at hm
      exact rcget_m1 _ hz _ _ h0 h1 c63 (fun h => hm ⟨h0, h⟩) G w
  | true =>
    obtain ⟨h0, h1⟩ := (whole_mark l).1 hw
    rw [hp] at h0 h1
    have hp1 := Classical.not_not.1 fun h => h0 ((markN_pos (passOf l)).2 h)
    rw [markN_in hp1.2] at h0 h1
    rw [h1] at c63
    have e1 : gotW l = true := by unfold gotW; rw [hw]; simp [hl]
    have u := fun i => (l.getD i 0).toNat_lt
    have hQ : ((l.getD 4 0).toNat : Int) + 256 * ((l.getD 5 0).toNat : Int) = ((cellOf l).place : Int) := by show _ = (((l.getD 4 0).toNat + 256 * (l.getD 5 0).toNat : Nat) : Int); omega
    cases hg : goodL l with
    | true =>
      have e2 : gotL l = readL l := by unfold gotL; rw [e1, hg]; rfl
      have e3 : gotC l = 0 := by unfold gotC; rw [if_pos hl, e1, hg]; rfl
      have hD := goodD_eq l
      rw [hg] at hD
      unfold goodD at hD
      simp only [Bool.and_eq_true, beq_iff_eq] at hD
      have hm := may_of_cl hD.1
      rw [e1, e2, e3, ← cell_read hg]
      refine (rcget_yes _ hz (passOf l) _ _ _ _ h0 (by omega) c63 c4 c5 c6 c7 (u 4) (u 5) (u 6) (u 7) _ ⟨(putL (cellOf l)).toArray⟩ (cell_data l) (fun w => rcput_good (cellOf l) hm hQ rfl rfl w) (by rw [str_eqB, hD.2]; simp) G w).mono ?_
      rintro e w' ⟨rfl, hg⟩
      exact ⟨by rw [hQ]; rfl, hg⟩
    | false =>
      have e2 : gotL l = zeroC := by unfold gotL; rw [e1, hg]; rfl
      have e3 : gotC l = 12 := by unfold gotC; rw [if_pos hl, e1, hg]; rfl
      rw [e1, e2, e3]
      have hD := goodD_eq l
      rw [hg] at hD
      cases hm : mayN (cellOf l).pass (cellOf l).place (cellOf l).kind (cellOf l).data.length with
      | false =>
        exact rcget_bad _ hz (passOf l) _ _ _ _ h0 (by omega) c63 c4 c5 c6 c7 (u 4) (u 5) (u 6) (u 7) _ ⟨#[]⟩ (cell_data l) (fun w => by rw [hQ]; exact rcput_bad (cellOf l).pass (cellOf l).place (cellOf l).kind ⟨(cellOf l).data.toArray⟩ hm w) G w
      | true =>
        have hne : (putL (cellOf l) == l) = false := by unfold goodD at hD; rw [hm] at hD; simpa using hD
        exact rcget_odd _ hz (passOf l) _ _ _ _ h0 (by omega) c63 c4 c5 c6 c7 (u 4) (u 5) (u 6) (u 7) _ ⟨(putL (cellOf l)).toArray⟩ (cell_data l) (fun w => rcput_good (cellOf l) (may_of_cl hm) hQ rfl rfl w) (by rw [str_eqB]; exact hne) G w
end Go.Proofs.Ytjebmlmjbnaghaa
