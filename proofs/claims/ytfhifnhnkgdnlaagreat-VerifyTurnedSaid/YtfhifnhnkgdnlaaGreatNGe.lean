/-
  Contract: what the document's check tells, whatever comes: the model's answer. The conditions: its gate lies there; the epoch now is one; the bytes are few.
-/
import Derived.Test.YtfhifnhnkgdnlaaGreatNGc
import Derived.Test.YtfhifnhnkgdnlaaGreatY10
set_option linter.unusedSimpArgs false
set_option linter.unusedVariables false
namespace Go.Proofs.YtfhifnhnkgdnlaaGreat
set_option maxRecDepth 100000
open Go.RowKit

theorem rcheck_any {F : List Nat} {B : RBl} {c : Conf} {KN : Nat} {G : Gt} (s : ByteArray) (l : List UInt8) (hs : s.data.toList = l) (h1 : s.size ≤ 100000) (now : Int) (n0 : 0 ≤ now) (n1 : now ≤ 1099511627776) (w : World) (k : GrAt w F B c KN G) (hK : KN ≤ 1000000) :
    Calls Tryz.prog 19 #[.pointer (some ⟨B.g, 0, none⟩), .string s, .int .i64 now, .slice none 0 0] w fun e w' => e = .returned (.tuple #[mg (G.check l now nobody).1, .int .i64 (G.check l now nobody).2]) ∧ w.grownBy w' none := by
  have S := fun u => rsplit_all s l hs h1 u
  unfold Gt.check Gt.checkC
  cases hc : cutOf l with
  | none =>
    have e1 : spC l = 2 := by simp [spC, hc]
    rw [e1] at S ⊢
    rw [if_neg (by decide : ¬ (2 : Int) = 0), if_neg (by decide : ¬ (2 : Int) = 0)]
    exact rcheck_bytes s _ _ _ _ now w k n0 n1 S
  | some m =>
    have e1 : spC l = 0 := by simp [spC, hc]
    have e2 : spM l = m := by simp [spM, hc]
    have hM := cut_may hc
    have hX : (spX l).length ≤ 100000 := by unfold spX; split <;> simp [List.length_take]; omega
    obtain ⟨_, hw, _, hq, he, _⟩ := may_of hM
    rw [e1, e2] at S
    rw [e1, e2, if_pos rfl]
    by_cases h1 : G.in m.who = true
    · have h1d := of_decide_eq_true h1
      by_cases h3 : G.may m now = true
      · have C3 := fun u (k : GrAt u F B c KN G) => rkeyg_yes m now u k h1 hM h3
        have C4 := fun u => reftag_any (G.key m).a (G.key m).b (⟨(spX l).toArray⟩ : ByteArray) (by show (spX l).toArray.size ≤ 100000; simpa using hX) u
        simp only [List.toList_toArray] at C4
        by_cases h4 : spA l = sumOf (G.key m).a (G.key m).b (spX l) ∧ spB l = sumOf (G.key m).b (inv (G.key m).a) (spX l)
        · have h4' : (sumOf (G.key m).a (G.key m).b (spX l) == spA l && sumOf (G.key m).b (inv (G.key m).a) (spX l) == spB l) = true := by simp [h4.1.symm, h4.2.symm]
          have C6 := fun u (k : GrAt u F B c KN G) => qmay_any m.seq u (rq_at (m := m) k h1) hK
          by_cases h5 : (G.rep m).may m.seq = true
          · rw [h5] at C6
            by_cases h6 : G.time m.epoch now = true
            · have h6d := of_decide_eq_true h6
              by_cases h7 : (G.met : Int) ≤ m.metric
              · rw [show G.checkM l now nobody m = 1 by simp [Gt.checkM, h1, nobody, h3, h4, h5, h6, h7], if_neg (by decide : ¬ (1 : Int) = 0)]
                exact rcheck_metric s _ m _ _ now w k n0 n1 S h1d.2 hw.1 _ _ _ C3 _ _ C4 h4' C6 h6d.1 he.1 he.2 (by omega) h7
              · rw [show G.checkM l now nobody m = 0 by simp [Gt.checkM, h1, nobody, h3, h4, h5, h6, h7], if_pos rfl]
                exact rcheck_ok s _ m _ _ now w k n0 n1 S h1d.2 hw.1 _ _ _ C3 _ _ C4 h4' C6 h6d.1 he.1 he.2 (by omega) h7
            · have h6' : G.time m.epoch now = false := by simpa using h6
              rw [show G.checkM l now nobody m = 7 by simp [Gt.checkM, h1, nobody, h3, h4, h5, h6'], if_neg (by decide : ¬ (7 : Int) = 0)]
              have h6d := of_decide_eq_false h6'
              by_cases hlo : m.epoch < now
              · exact rcheck_low s _ m _ _ now w k n0 n1 S h1d.2 hw.1 _ _ _ C3 _ _ C4 h4' C6 hlo he.1 he.2
              · exact rcheck_high s _ m _ _ now w k n0 n1 S h1d.2 hw.1 _ _ _ C3 _ _ C4 h4' C6 (by omega) he.1 he.2 (by omega)
          · have h5' : (G.rep m).may m.seq = false := by simpa using h5
            rw [show G.checkM l now nobody m = 6 by simp [Gt.checkM, h1, nobody, h3, h4, h5'], if_neg (by decide : ¬ (6 : Int) = 0)]
            rw [h5'] at C6
            exact rcheck_replay s _ m _ _ now w k n0 n1 S h1d.2 hw.1 _ _ _ C3 _ _ C4 h4' C6
        · rw [show G.checkM l now nobody m = 5 by simp only [Gt.checkM]; rw [if_neg (by rw [h1]; simp [nobody]), if_neg (by rw [h3]; simp), if_pos h4], if_neg (by decide : ¬ (5 : Int) = 0)]
          have h4' : (sumOf (G.key m).a (G.key m).b (spX l) == spA l && sumOf (G.key m).b (inv (G.key m).a) (spX l) == spB l) = false := by
            apply Bool.eq_false_iff.2
            intro h
            simp only [Bool.and_eq_true, beq_iff_eq] at h
            exact h4 ⟨h.1.symm, h.2.symm⟩
          exact rcheck_auth s _ m _ _ now w k n0 n1 S h1d.2 hw.1 _ _ _ C3 _ _ C4 h4'
      · have h3' : G.may m now = false := by simpa using h3
        rw [show G.checkM l now nobody m = 4 by simp [Gt.checkM, h1, nobody, h3'], if_neg (by decide : ¬ (4 : Int) = 0)]
        exact rcheck_gen s _ m _ _ now w k n0 n1 S h1d.2 hw.1 (fun u k => rkeyg_none m now u k h1 hM h3')
    · have h1' : G.in m.who = false := by simpa using h1
      have h1d := of_decide_eq_false h1'
      rw [show G.checkM l now nobody m = 3 by simp [Gt.checkM, h1'], if_neg (by decide : ¬ (3 : Int) = 0)]
      exact rcheck_who s _ m _ _ now w k n0 n1 S (by omega) hw.1
end Go.Proofs.YtfhifnhnkgdnlaaGreat
