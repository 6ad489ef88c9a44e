/-
  A gate behind a sample and some rotations: what is taken again. No condition.
-/
import Derived.Test.YtfhifnhnkgdnlaaGreatZ12
import Derived.Deep.CutRange
import Derived.Deep.RegionHeld3
set_option linter.unusedSimpArgs false
set_option linter.unusedVariables false
namespace Go.Proofs.YtfhifnhnkgdnlaaGreat.vonce
set_option maxRecDepth 100000
open Go.RowKit

/-- the gate behind one sample taken and behind rotations at one epoch -/
def gA (sd : BitVec 64) (n grace win met fresh : Nat) (v : Int) : Gt := ((Gt.new sd n grace win met fresh).take (frst 0 0 v) 0).2
def rota (g e : Int) (s : Int) : Mg := ⟨2, 0, g + 1, s, e, 0, 0⟩
/-- what is known of it: collector 0's generation, who since, its windows -/
structure Onc (G : Gt) (sd : BitVec 64) (n grace win met fresh : Nat) (k : Nat) (e : Int) : Prop where
  hsd : G.r.seed = sd
  hn : G.r.n = n
  hgr : G.r.grace = grace
  hwin : G.win = win
  hmet : G.met = met
  hfr : G.fresh = fresh
  gen : G.r.gen 0 = (k : Int)
  sin : 1 ≤ k → G.r.since 0 = e
  now0 : k = 0 → (G.now 0).may 1 = false ∧ (G.now 0).may 2 = true ∧ ((G.now 0).put 2).may 1 = false
  now1 : 1 ≤ k → G.now 0 = Rp.new win
  old1 : k = 1 → (G.old 0).may 1 = false
theorem put1 (win : Nat) : (Rp.new win).put 1 = ⟨win, 1, (0#64 <<< 1 &&& low win) ||| 1#64⟩ := by
  unfold Rp.put; rw [if_pos (by show (0 : Int) < 1; decide)]; rfl
theorem put1_1 (win : Nat) : ((Rp.new win).put 1).may 1 = false := by
  rw [put1]
  unfold Rp.may
  refine decide_eq_false fun ⟨_, _, h⟩ => ?_
  rcases h with h | ⟨_, h⟩
  · exact absurd h (show ¬ (1 : Int) < 1 by decide)
  · simp at h
theorem put1_2 (win : Nat) : ((Rp.new win).put 1).may 2 = true := by
  rw [put1]
  exact decide_eq_true ⟨by decide, by decide, .inl (by show (1 : Int) < 2; decide)⟩
theorem put12_1 (win : Nat) (h : win ≤ 64) : (((Rp.new win).put 1).put 2).may 1 = false := by
  rw [put1]
  have e : (Rp.put ⟨win, 1, (0#64 <<< 1 &&& low win) ||| 1#64⟩ 2) = ⟨win, 2, (((0#64 <<< 1 &&& low win) ||| 1#64) <<< 1 &&& low win) ||| 1#64⟩ := by
    unfold Rp.put; rw [if_pos (by show (1 : Int) < 2; decide)]; rfl
  rw [e]
  unfold Rp.may
  refine decide_eq_false fun ⟨_, _, h3⟩ => ?_
  rcases h3 with h3 | ⟨h3, h4⟩
  · exact absurd h3 (show ¬ (2 : Int) < 1 by decide)
  · have hw : 1 < win := by have : (2 : Int) - 1 < (win : Int) := h3; omega
    have hb : ((((0#64 <<< 1 &&& low win) ||| 1#64) <<< 1 &&& low win) ||| 1#64).getLsbD 1 = false := h4
    rw [BitVec.getLsbD_or, BitVec.getLsbD_and, low_bit win 1 h] at hb
    simp [hw] at hb
section
variable {G : Gt} {sd : BitVec 64} {n grace win met fresh k : Nat} {e v : Int}
theorem onc_new (n1 : 1 ≤ n) (w1 : 1 ≤ win) (w2 : win ≤ 64) (v0 : 0 ≤ v) (v1 : v ≤ 1099511627776) (e : Int) : ((Gt.new sd n grace win met fresh).take (frst 0 0 v) 0).1 = 0 ∧ Onc ((Gt.new sd n grace win met fresh).take (frst 0 0 v) 0).2 sd n grace win met fresh 0 e := by
  have hM := frst_may (who := 0) (e := 0) (v := v) (by decide) (by decide) (by decide) (by decide) v0 v1
  have hin : (Gt.new sd n grace win met fresh).in 0 = true := decide_eq_true ⟨by decide, by show (0 : Int) < (n : Int); omega⟩
  have hmay : (Gt.new sd n grace win met fresh).may (frst 0 0 v) 0 = true := decide_eq_true ⟨fun h => absurd (show (1 : Int) = 2 from h) (by decide), Int.le_refl _, .inl rfl⟩
  have hrep : ((Gt.new sd n grace win met fresh).rep (frst 0 0 v)) = Rp.new win := by unfold Gt.rep; split <;> rfl
  have hq : (Rp.new win).may 1 = true := decide_eq_true ⟨by decide, by decide, .inl (by show (0 : Int) < 1; decide)⟩
  have ht : (Gt.new sd n grace win met fresh).take (frst 0 0 v) 0 = (0, (Gt.new sd n grace win met fresh).setRep (frst 0 0 v) ((Rp.new win).put 1)) := by
    unfold Gt.take
    rw [if_neg (by rw [hM]; decide), if_neg (by show ¬ ((Gt.new sd n grace win met fresh).in 0 = false); rw [hin]; decide), if_neg (by rw [hmay]; decide), hrep, if_neg (by show ¬ ((Rp.new win).may 1 = false); rw [hq]; decide), if_neg (by decide : ¬ (1 : Int) = 2)]
  rw [ht]
  have hs : (Gt.new sd n grace win met fresh).setRep (frst 0 0 v) ((Rp.new win).put 1) = { Gt.new sd n grace win met fresh with now := fun i => if i = 0 then (Rp.new win).put 1 else Rp.new win } := by
    unfold Gt.setRep; rw [if_pos (by show sealedOf (frst 0 0 v) = 0; rfl)]; rfl
  refine ⟨rfl, ?_⟩
  rw [hs]
  exact ⟨rfl, rfl, rfl, rfl, rfl, rfl, rfl, fun h => absurd h (by decide), fun _ => ⟨put1_1 win, put1_2 win, put12_1 win w2⟩, fun h => absurd h (by decide), fun h => absurd h (by decide)⟩
/-- a rotation: its envelope is checked, and taken -/
theorem onc_rot (H : Onc G sd n grace win met fresh k e) (n1 : 1 ≤ n) (k9 : k ≤ 3) (e0 : 0 ≤ e) (e1 : e ≤ 4) (f1 : 1 ≤ fresh) (m1 : 1 ≤ met) (s : Int) (hs : s = if k = 0 then 2 else 1) :
    G.check (sealOf (ofOf sd 0 (k : Int)).a (ofOf sd 0 (k : Int)).b (rota k e s)) e nobody = (rota k e s, 0) ∧ (G.take (rota k e s) e).1 = 0 ∧ Onc (G.take (rota k e s) e).2 sd n grace win met fresh (k + 1) e := by
  have s0 : 1 ≤ s ∧ s ≤ 2 := by rw [hs]; split <;> omega
  have hM : mayOf (rota k e s) = true := may_rotate ⟨by decide, by decide, by omega, by omega, s0.1, by omega, e0, by omega⟩
  have hse : sealedOf (rota k e s) = (k : Int) := by show (if (2 : Int) = 2 then (k : Int) + 1 - 1 else _) = _; rw [if_pos rfl]; omega
  have hk : G.key (rota k e s) = ofOf sd 0 (k : Int) := by
    unfold Gt.key; rw [hse, H.hsd]; rfl
  have hin : G.in 0 = true := decide_eq_true ⟨by decide, by rw [H.hn]; omega⟩
  have hmay : G.may (rota k e s) e = true := decide_eq_true ⟨fun _ => by show (k : Int) + 1 - 1 = G.r.gen 0; rw [H.gen]; omega, by rw [hse]; exact ⟨by omega, .inl (by show (k : Int) = G.r.gen 0; rw [H.gen])⟩⟩
  have hrep : G.rep (rota k e s) = G.now 0 := by unfold Gt.rep; rw [hse, if_pos (by show (k : Int) = G.r.gen 0; rw [H.gen])]; rfl
  have hq : (G.now 0).may s = true := by
    by_cases h0 : k = 0
    · rw [hs, if_pos h0]; exact (H.now0 h0).2.1
    · rw [hs, if_neg h0, H.now1 (by omega)]; exact decide_eq_true ⟨by decide, by decide, .inl (by show (0 : Int) < 1; decide)⟩
  have ht : G.time e e = true := decide_eq_true ⟨Int.le_refl _, by rw [H.hfr]; omega⟩
  refine ⟨?_, ?_⟩
  · rw [check_own G _ e nobody _ hk hM, if_neg (by show ¬ (G.in 0 = false ∨ false = true); rw [hin]; decide), if_neg (by rw [hmay]; decide), hrep, if_neg (by show ¬ ((G.now 0).may s = false); rw [hq]; decide), if_neg (by show ¬ (G.time e e = false); rw [ht]; decide), if_neg (by show ¬ ((G.met : Int) ≤ 0); rw [H.hmet]; omega)]
  · have hk2 : G.take (rota k e s) e = (0, (G.setRep (rota k e s) ((G.now 0).put s)).turn 0 ((k : Int) + 1) e) := by
      unfold Gt.take
      rw [if_neg (by rw [hM]; simp; omega), if_neg (by show ¬ (G.in 0 = false); rw [hin]; decide), if_neg (by rw [hmay]; decide), hrep, if_neg (by show ¬ ((G.now 0).may s = false); rw [hq]; decide), if_pos (by rfl : (rota k e s).kind = 2)]
      rfl
    rw [hk2]
    have hsr : G.setRep (rota k e s) ((G.now 0).put s) = { G with now := fun i => if i = 0 then (G.now 0).put s else G.now i } := by
      unfold Gt.setRep; rw [hse, if_pos (by show (k : Int) = G.r.gen 0; rw [H.gen])]; rfl
    refine ⟨rfl, ?_⟩
    rw [hsr]
    refine ⟨H.hsd, H.hn, H.hgr, H.hwin, H.hmet, H.hfr, ?_, fun _ => ?_, fun h => absurd h (by omega), fun _ => ?_, fun h => ?_⟩
    · simp [Gt.turn, Rg.put]
    · simp [Gt.turn, Rg.put]
    · simp [Gt.turn, H.hwin]
    · simp only [Gt.turn, if_true]
      have h0 : k = 0 := by omega
      have h2 : s = 2 := by rw [hs, if_pos h0]
      rw [h2]
      exact (H.now0 h0).2.2
end
theorem first_again (sd : BitVec 64) (n grace win met fresh : Nat) (v e : Int) (k : Nat) {G : Gt} (H : Onc G sd n grace win met fresh k e) (n1 : 1 ≤ n) (g1 : 1 ≤ grace) (v0 : 0 ≤ v) (v1 : v ≤ 1099511627776) :
    G.check (sealOf (ofOf sd 0 0).a (ofOf sd 0 0).b (frst 0 0 v)) e nobody = (zeroM, if k < 2 then 6 else 4) := by
  have hM := frst_may (who := 0) (e := 0) (v := v) (by decide) (by decide) (by decide) (by decide) v0 v1
  have hse : sealedOf (frst 0 0 v) = 0 := rfl
  have hk : G.key (frst 0 0 v) = ofOf sd 0 0 := by unfold Gt.key; rw [hse, H.hsd]; rfl
  have hin : G.in 0 = true := decide_eq_true ⟨by decide, by rw [H.hn]; omega⟩
  rw [check_own G _ e nobody _ hk hM, if_neg (by show ¬ (G.in 0 = false ∨ false = true); rw [hin]; decide)]
  by_cases hk2 : k < 2
  · have hmay : G.may (frst 0 0 v) e = true := decide_eq_true ⟨fun h => absurd (show (1 : Int) = 2 from h) (by decide), by
      rw [hse]
      refine ⟨Int.le_refl _, ?_⟩
      show (0 : Int) = G.r.gen 0 ∨ (0 : Int) = G.r.gen 0 - 1 ∧ e < G.r.since 0 + (G.r.grace : Int)
      rw [H.gen, H.hgr]
      by_cases h0 : k = 0
      · left; omega
      · right; rw [H.sin (by omega)]; omega⟩
    have hrep : (G.rep (frst 0 0 v)).may 1 = false := by
      unfold Gt.rep
      rw [hse]
      by_cases h0 : k = 0
      · rw [if_pos (by show (0 : Int) = G.r.gen 0; rw [H.gen]; omega)]; exact (H.now0 h0).1
      · rw [if_neg (by show ¬ (0 : Int) = G.r.gen 0; rw [H.gen]; omega)]; exact H.old1 (by omega)
    rw [if_neg (by rw [hmay]; decide), if_pos (by show (G.rep (frst 0 0 v)).may 1 = false; exact hrep), if_pos hk2]
  · have hmay : G.may (frst 0 0 v) e = false := decide_eq_false fun ⟨_, h⟩ => by
      rw [hse] at h
      obtain ⟨_, h⟩ := h
      have h' : (0 : Int) = G.r.gen 0 ∨ (0 : Int) = G.r.gen 0 - 1 ∧ e < G.r.since 0 + (G.r.grace : Int) := h
      rw [H.gen] at h'
      omega
    rw [if_pos hmay, if_neg hk2]
end Go.Proofs.YtfhifnhnkgdnlaaGreat.vonce
