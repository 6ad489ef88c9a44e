/-
  Contract: which key seals a message now, by the document, whatever the message: the model's answer. The condition: its gate lies there, the message may be sent, its collector is one of the gate's own.
-/
import Derived.Test.YtfhifnhnkgdnlaaGreatNGk
set_option linter.unusedSimpArgs false
set_option linter.unusedVariables false
namespace Go.Proofs.YtfhifnhnkgdnlaaGreat
set_option maxRecDepth 100000
open Go.RowKit

/-- the block of the window that a message's number is of -/
def RBl.rq (B : RBl) (G : Gt) (m : Mg) : Nat := if sealedOf m = G.r.gen m.who.toNat then B.A m.who.toNat else B.O m.who.toNat
def RBl.rv (B : RBl) (G : Gt) (m : Mg) : Value := if sealedOf m = G.r.gen m.who.toNat then B.vA m.who.toNat else B.vO m.who.toNat
theorem rq_at {w : World} {F : List Nat} {B : RBl} {c : Conf} {KN : Nat} {G : Gt} {m : Mg} (k : GrAt w F B c KN G) (hin : G.in m.who = true) : RqAt w (B.rq G m) (B.rv G m) KN (G.rep m) := by
  have h0 := of_decide_eq_true hin
  have hi : m.who.toNat < G.r.n := by omega
  unfold RBl.rq RBl.rv Gt.rep
  split
  · exact k.now _ hi
  · exact k.old _ hi
theorem rkeyg_yes {F : List Nat} {B : RBl} {c : Conf} {KN : Nat} {G : Gt} (m : Mg) (now : Int) (w : World) (K : GrAt w F B c KN G) (hin : G.in m.who = true) (hM : mayOf m = true) (hm : G.may m now = true) :
    Calls Tryz.prog 60 #[.pointer (some ⟨B.g, 0, none⟩), mg m, .int .i64 now] w fun e w' => e = .returned (.tuple #[pair (G.key m).a (G.key m).b, .pointer (some ⟨B.rq G m, 0, none⟩), .int .i64 0]) ∧ w.grownBy w' none := by
  have h0 := of_decide_eq_true hin
  obtain ⟨_, _, hg, _⟩ := may_of hM
  obtain ⟨kind, who, gen, seq, epoch, value, metric⟩ := m
  obtain ⟨i, rfl⟩ := Int.eq_ofNat_of_zero_le h0.1
  have hi : i < G.r.n := by have := h0.2; simp at this; omega
  obtain ⟨m1, m2⟩ := of_decide_eq_true hm
  unfold Gt.key RBl.rq
  unfold sealedOf at m2 ⊢
  dsimp only [Int.toNat_natCast] at m1 m2 hg ⊢
  by_cases hk : kind = 2
  · subst hk
    rw [if_pos rfl] at m2 ⊢
    have hs := m1 rfl
    rw [if_pos hs]
    exact rkeyg_rot i now w K hi hg.1 hg.2 m2 hs
  · rw [if_neg hk] at m2 ⊢
    by_cases hs : gen = G.r.gen i
    · rw [if_pos hs]; exact rkeyg_now i now w K hi hg.1 hg.2 hk m2 hs
    · rw [if_neg hs]; exact rkeyg_old i now w K hi hg.1 hg.2 hk m2 hs
theorem rkeyg_none {F : List Nat} {B : RBl} {c : Conf} {KN : Nat} {G : Gt} (m : Mg) (now : Int) (w : World) (K : GrAt w F B c KN G) (hin : G.in m.who = true) (hM : mayOf m = true) (hm : G.may m now = false) :
    Calls Tryz.prog 60 #[.pointer (some ⟨B.g, 0, none⟩), mg m, .int .i64 now] w fun e w' => e = .returned (.tuple #[pair 0 0, .pointer none, .int .i64 4]) ∧ w.grownBy w' none := by
  have h0 := of_decide_eq_true hin
  obtain ⟨_, _, hg, _⟩ := may_of hM
  obtain ⟨kind, who, gen, seq, epoch, value, metric⟩ := m
  obtain ⟨i, rfl⟩ := Int.eq_ofNat_of_zero_le h0.1
  have hi : i < G.r.n := by have := h0.2; simp at this; omega
  have hn := of_decide_eq_false hm
  unfold sealedOf at hn
  dsimp only [Int.toNat_natCast] at hn hg
  by_cases hk : kind = 2
  · subst hk
    rw [if_pos rfl] at hn
    by_cases hs : gen - 1 = G.r.gen i
    · exact rkeyg_rno i now w K hi hg.1 hg.2 (fun h => hn ⟨fun _ => hs, h⟩) hs
    · exact rkeyg_rgen i now w K hi hg.1 hg.2 hs
  · rw [if_neg hk] at hn
    exact rkeyg_no i now w K hi hg.1 hg.2 hk (fun h => hn ⟨fun e => absurd e hk, h⟩)
end Go.Proofs.YtfhifnhnkgdnlaaGreat
