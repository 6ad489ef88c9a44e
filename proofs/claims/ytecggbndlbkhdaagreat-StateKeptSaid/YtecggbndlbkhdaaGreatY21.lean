/-
  What the laws of package law have in common: values that may be are taken, others are not; a slice of the call's own. No condition.
  All that is known, as a model: what a check tells, what is done; it stays what may be. No condition. Nothing of the program's functions is named here.
  The names of a configuration's parts, as both statements on parts lay them. No condition.
  A made configuration may be; with one part far beyond its bounds it is wrong by that part's name. No condition.
  Contract for package score: each collector's mark. The condition: the score lies there, the rows read as samples.
  The document's Law: its object, its Calm and its Policy, each in a block of its own. Contract: Hold. The condition of a call: the object lies there, slices read as numbers.
-/
import Derived.Test.YtecggbndlbkhdaaGreatY19
import Derived.Test.YtecggbndlbkhdaaGreatY20
import Derived.Test.YtecggbndlbkhdaaGreatY12
import Derived.Test.YtecggbndlbkhdaaGreatY16
import Derived.Test.YtecggbndlbkhdaaGreatY4
import Derived.Test.YtecggbndlbkhdaaGreatY9
import Derived.Test.YtecggbndlbkhdaaGreatY5
import Derived.Test.YtecggbndlbkhdaaGreatY22
import Derived.Test.YtecggbndlbkhdaaGreatY27
import Derived.Deep.RegionHeld3
section
set_option linter.unusedSimpArgs false
set_option linter.unusedVariables false
namespace Go.Proofs.YtecggbndlbkhdaaGreat
set_option maxRecDepth 100000
open Go.RowKit

theorem raAll_in {c l : Int} (hc : 0 ≤ c ∧ c ≤ 10000) (hl : 0 ≤ l ∧ l ≤ 1000) : ∀ vs ts : List Int, (∀ v ∈ vs, 0 ≤ v ∧ v ≤ 1099511627776) → (∀ t ∈ ts, 1 ≤ t ∧ t ≤ 1099511627776) → raAll c l vs ts = true
  | [], _, _, _ => by simp [raAll]
  | _ :: _, [], _, _ => by simp [raAll]
  | v :: vs, t :: ts, hv, ht => by
    simp only [raAll, Bool.and_eq_true]
    exact ⟨raOk_iff.2 ⟨hc, hv v (List.mem_cons_self ..), ht t (List.mem_cons_self ..), hl⟩, raAll_in hc hl vs ts (fun a h => hv a (List.mem_cons_of_mem _ h)) (fun a h => ht a (List.mem_cons_of_mem _ h))⟩
theorem La.take {s : La} (h : s.Ok) {vs : List Int} (hl : vs.length = s.tg.length) (hv : ∀ v ∈ vs, 0 ≤ v ∧ v ≤ 1099511627776) : s.may vs = true ∧ s.want vs = raTop s.n s.tol vs s.tg :=
  La.most h hl hv (raAll_in (La.n_in h) h.tol vs s.tg hv h.tg)
theorem OwnI.made {base : Nat} {w : World} {v : Value} {l : List Int} (h : OwnI base w v l) (hl : 0 < l.length) : ∃ g c, v = .slice (some ⟨g, 0, none⟩) l.length c ∧ base ≤ g := by
  obtain ⟨h0, h | ⟨g, cap, cur, e, hb, hh, h1⟩⟩ := h
  · have h2 : l.length = 0 := by simpa using h.2
    omega
  · exact ⟨g, cap, e, hb⟩
/-- a Law by a configuration, whatever it has gone through -/
structure Lof (c : Conf) (m : Nat) (s : La) : Prop where
  tg : s.tg = tgOf c m
  tol : s.tol = c.tol
  r : s.po.r = rt c
theorem Lof.next {c : Conf} {m : Nat} {s : La} (h : Lof c m s) (ho : s.Ok) (vs : List Int) : Lof c m (s.next vs) := by
  refine ⟨h.tg, h.tol, ?_⟩
  have e : (s.next vs).po.r = s.po.r := by
    show (s.po.put (s.come vs)).2.r = s.po.r
    rw [Po.put_yes (x := s.come vs) (Po.lim_in ho.po _)]
  rw [e]; exact h.r
theorem Lof.hold {c : Conf} {m : Nat} {s : La} (h : Lof c m s) (ho : s.Ok) : Lof c m s.hold := by
  refine ⟨h.tg, h.tol, ?_⟩
  have e : s.hold.po.r = s.po.r := by
    show (s.po.put s.n).2.r = s.po.r
    rw [Po.put_yes (Po.in_iff.2 ho.n)]
  rw [e]; exact h.r
theorem Lof.come {c : Conf} {m : Nat} {s : La} (h : Lof c m s) (ho : s.Ok) (vs : List Int) : c.min ≤ s.come vs ∧ s.come vs ≤ c.max := by
  have := La.come_in ho vs
  rw [h.r] at this; exact this
end Go.Proofs.YtecggbndlbkhdaaGreat
end
section
set_option linter.unusedSimpArgs false
set_option linter.unusedVariables false
namespace Go.Proofs.YtecggbndlbkhdaaGreat
set_option maxRecDepth 100000
open Go.RowKit

/-- what belongs together in the one that nothing was done to -/
structure Ste.Tie (s0 : Ste) : Prop where
  gn : s0.g.r.n = s0.p.n
  gm : (s0.g.met : Int) = s0.p.m
  gf : (s0.g.fresh : Int) = s0.p.fr
  ww : ∀ i, (s0.g.now i).win = s0.g.win ∧ (s0.g.old i).win = s0.g.win
  w1 : 1 ≤ s0.g.win
  w2 : s0.g.win ≤ 64
  m1 : 1 ≤ s0.p.m
  s1 : 1 ≤ s0.s.st ∧ 1 ≤ s0.s.pr
  tg : (s0.l.tg.length : Int) = s0.p.m
/-- the sample of a message -/
def smM (m : Mg) : Sm := ⟨m.who, m.metric, m.epoch, m.value⟩
/-- may the table have it? -/
def Ste.may (s : Ste) (x : Sm) : Int := mayT s.p.n s.p.m s.p.fr s.t x s.now
/-- a message is taken -/
def Ste.take (s : Ste) (m : Mg) : Int × Ste := ((s.g.take m s.now).1, { s with g := (s.g.take m s.now).2 })
/-- a sample is put -/
def Ste.put (s : Ste) (m : Mg) : Int × Ste :=
  if mayOf m = false then (1, s)
  else if s.may (smM m) ≠ 0 then (s.may (smM m), s)
  else if (s.g.take m s.now).1 ≠ 0 then ((s.g.take m s.now).1, s)
  else (0, { s with g := (s.g.take m s.now).2, t := ins (smM m) s.t })
/-- the samples that are heard, of a metric -/
def Ste.row (s : Ste) (k : Nat) : List Sm := heardL s.s.H (ofT s.t s.now k)
def Ste.rows (s : Ste) : List (List Sm) := (List.range s.p.m.toNat).map s.row
noncomputable def Ste.mean (s : Ste) (k : Nat) : Int × Bool := meanL (midL ((s.row k).map Sm.val) s.p.f)
/-- has a metric what it asks for? -/
noncomputable def Ste.full (s : Ste) (k : Nat) : Bool := (s.mean k).2 && decide (s.p.q ≤ ((s.row k).length : Int))
/-- does an epoch hold? -/
noncomputable def Ste.holds (s : Ste) : Bool := !((List.range s.p.m.toNat).all s.full)
noncomputable def Ste.vals (s : Ste) : List Int := (List.range s.p.m.toNat).map fun k => (s.mean k).1
/-- what is decided -/
noncomputable def Ste.dec (s : Ste) : Dc :=
  if s.holds = true then ⟨s.now, s.l.n, 0, true, 0, 0, 0, 0⟩ else ⟨s.now, s.l.come s.vals, s.l.want s.vals, false, s.vals.getD 0 0, s.vals.getD 1 0, s.vals.getD 2 0, s.vals.getD 3 0⟩
/-- those kept -/
def keep64 (l : List Dc) : List Dc := l.drop (l.length - 64)
def zeroD : Dc := ⟨0, 0, 0, false, 0, 0, 0, 0⟩
/-- an epoch is closed -/
noncomputable def Ste.closed (s : Ste) : Ste :=
  { s with now := s.now + 1, t := dropT s.t s.now, s := s.s.close s.rows s.p.q, l := if s.holds = true then s.l.hold else s.l.next s.vals, ds := keep64 (s.ds ++ [s.dec]) }
noncomputable def Ste.close (s : Ste) : (Dc × Int) × Ste := if 1099511627776 ≤ s.now then ((zeroD, 1), s) else ((s.dec, 0), s.closed)
/-- what a step of the gate leaves as it was -/
structure GtStep (G R : Gt) (k : Nat) : Prop where
  gr : R = { G with r := { G.r with gen := R.r.gen, since := R.r.since }, now := R.now, old := R.old }
  rok : G.r.Ok → R.r.Ok
  rp : (∀ i, (G.now i).Ok ∧ (G.now i).win = G.win) → (∀ i, (G.old i).Ok ∧ (G.old i).win = G.win) → ∀ i, ((R.now i).Ok ∧ (R.now i).win = G.win) ∧ (R.old i).Ok ∧ (R.old i).win = G.win
  out : ∀ i, i ≠ k → R.r.gen i = G.r.gen i ∧ R.r.since i = G.r.since i ∧ R.now i = G.now i ∧ R.old i = G.old i
section
variable {G R R' : Gt} {k : Nat}
theorem GtStep.refl (G : Gt) (k : Nat) : GtStep G G k := ⟨rfl, id, fun h1 h2 i => ⟨h1 i, h2 i⟩, fun _ _ => ⟨rfl, rfl, rfl, rfl⟩⟩
theorem GtStep.trans (h : GtStep G R k) (h' : GtStep R R' k) : GtStep G R' k := by
  have ew : R.win = G.win := by rw [h.gr]
  refine ⟨?_, fun x => h'.rok (h.rok x), fun h1 h2 i => ?_, fun i hi => ?_⟩
  · have e := h'.gr
    rw [h.gr] at e
    exact e
  · have a := h.rp h1 h2
    have := h'.rp (fun j => by rw [ew]; exact (a j).1) (fun j => by rw [ew]; exact (a j).2) i
    rwa [ew] at this
  · obtain ⟨a, b, c, d⟩ := h.out i hi
    obtain ⟨a', b', c', d'⟩ := h'.out i hi
    exact ⟨a'.trans a, b'.trans b, c'.trans c, d'.trans d⟩
theorem step_setRep (G : Gt) (m : Mg) {p : Rp} (hp : (∀ i, (G.now i).Ok ∧ (G.now i).win = G.win) → (∀ i, (G.old i).Ok ∧ (G.old i).win = G.win) → p.Ok ∧ p.win = G.win) : GtStep G (G.setRep m p) m.who.toNat := by
  unfold Gt.setRep
  split
  · refine ⟨rfl, id, fun h1 h2 i => ⟨?_, h2 i⟩, fun i hi => ⟨rfl, rfl, ?_, rfl⟩⟩
    · show (if i = m.who.toNat then p else G.now i).Ok ∧ (if i = m.who.toNat then p else G.now i).win = _
      split
      · exact hp h1 h2
      · exact h1 i
    · show (if i = m.who.toNat then p else G.now i) = _
      rw [if_neg hi]
  · refine ⟨rfl, id, fun h1 h2 i => ⟨h1 i, ?_⟩, fun i hi => ⟨rfl, rfl, rfl, ?_⟩⟩
    · show (if i = m.who.toNat then p else G.old i).Ok ∧ (if i = m.who.toNat then p else G.old i).win = _
      split
      · exact hp h1 h2
      · exact h2 i
    · show (if i = m.who.toNat then p else G.old i) = _
      rw [if_neg hi]
theorem step_turn (G : Gt) (i : Nat) {gen now : Int} (w1 : 1 ≤ G.win) (w2 : G.win ≤ 64) (g : 0 ≤ gen ∧ gen ≤ 60000) (n : 0 ≤ now ∧ now ≤ 1099511627776) : GtStep G (G.turn i gen now) i := by
  refine ⟨rfl, fun h => h.put i g.1 g.2 n.1 n.2, fun h1 h2 j => ⟨?_, ?_⟩, fun j hj => ⟨?_, ?_, ?_, ?_⟩⟩
  · show (if j = i then Rp.new G.win else G.now j).Ok ∧ (if j = i then Rp.new G.win else G.now j).win = _
    split
    · exact ⟨rp_new_ok w1 w2, rfl⟩
    · exact h1 j
  · show (if j = i then G.now i else G.old j).Ok ∧ (if j = i then G.now i else G.old j).win = _
    split
    · exact h1 i
    · exact h2 j
  · show (if j = i then _ else _) = _; rw [if_neg hj]
  · show (if j = i then _ else _) = _; rw [if_neg hj]
  · show (if j = i then _ else _) = _; rw [if_neg hj]
  · show (if j = i then _ else _) = _; rw [if_neg hj]
theorem step_take (G : Gt) (m : Mg) (now : Int) (w1 : 1 ≤ G.win) (w2 : G.win ≤ 64) : GtStep G (G.take m now).2 m.who.toNat ∧ ((G.take m now).1 ≠ 0 → (G.take m now).2 = G) ∧ (m.who.toNat < G.r.n ∨ (G.take m now).2 = G) ∧ ((G.take m now).1 = 0 → mayOf m = true) := by
  unfold Gt.take
  split
  · exact ⟨.refl _ _, fun _ => rfl, .inr rfl, fun h => absurd (show (1 : Int) = 0 from h) (by decide)⟩
  · next h1 =>
    have hm : mayOf m = true := by cases hb : mayOf m with | true => rfl | false => exact absurd (.inl hb) h1
    split
    · exact ⟨.refl _ _, fun _ => rfl, .inr rfl, fun _ => hm⟩
    · next h2 =>
      have hin : G.in m.who = true := by simpa using h2
      have h0 := of_decide_eq_true hin
      have hk : m.who.toNat < G.r.n := by omega
      split
      · exact ⟨.refl _ _, fun _ => rfl, .inr rfl, fun _ => hm⟩
      · split
        · exact ⟨.refl _ _, fun _ => rfl, .inr rfl, fun _ => hm⟩
        · next h4 =>
          have hmay : (G.rep m).may m.seq = true := by simpa using h4
          have hp : (∀ i, (G.now i).Ok ∧ (G.now i).win = G.win) → (∀ i, (G.old i).Ok ∧ (G.old i).win = G.win) → ((G.rep m).put m.seq).Ok ∧ ((G.rep m).put m.seq).win = G.win := fun a b => by
            have hr : (G.rep m).Ok ∧ (G.rep m).win = G.win := by unfold Gt.rep; split; exact a _; exact b _
            refine ⟨hr.1.put hmay, ?_⟩
            rw [← hr.2]
            unfold Rp.put; split <;> rfl
          have hs := step_setRep G m hp
          split
          · have hM := may_of hm
            have hw : (G.setRep m ((G.rep m).put m.seq)).win = G.win := by rw [hs.gr]
            exact ⟨hs.trans (step_turn _ _ (by rw [hw]; exact w1) (by rw [hw]; exact w2) hM.2.2.1 (by omega)), fun h => absurd rfl h, .inl hk, fun _ => hm⟩
          · exact ⟨hs, fun h => absurd rfl h, .inl hk, fun _ => hm⟩
end
section
variable {s0 s : Ste}
theorem Ste.Ok.win (ht : Ste.Tie s0) (h : Ste.Ok s0 s) : s.g.win = s0.g.win ∧ s.g.r.n = s0.p.n ∧ ∀ i, ((s.g.now i).Ok ∧ (s.g.now i).win = s.g.win) ∧ (s.g.old i).Ok ∧ (s.g.old i).win = s.g.win := by
  have e : s.g.win = s0.g.win := by rw [h.gr]
  have en : s.g.r.n = s0.p.n := by rw [h.gr]; exact ht.gn
  exact ⟨e, en, fun i => ⟨⟨h.nok i, by rw [e, h.nw]; exact (ht.ww i).1⟩, h.ook i, by rw [e, h.ow]; exact (ht.ww i).2⟩⟩
/-- a step of the gate, of a collector -/
theorem Ste.Ok.gate (ht : Ste.Tie s0) (h : Ste.Ok s0 s) {R : Gt} {k : Nat} (hs : GtStep s.g R k) (hk : k < s0.p.n) : Ste.Ok s0 { s with g := R } := by
  obtain ⟨ew, en, hw⟩ := h.win ht
  have hr := hs.rp (fun i => (hw i).1) (fun i => (hw i).2)
  refine ⟨h.p, h.n0, h.n1, ?_, hs.rok h.rok, fun i => (hr i).1.1, fun i => (hr i).2.1, fun i => ?_, fun i => ?_, fun i hi => ?_, h.sl, h.ss, h.sb, h.sh, h.lr, h.lok, h.ll, h.t, h.tb, h.pb, h.d, h.dl⟩
  · have e := hs.gr
    rw [h.gr] at e
    exact e
  · rw [(ht.ww i).1, ← ew]; exact (hr i).1.2
  · rw [(ht.ww i).2, ← ew]; exact (hr i).2.2
  · obtain ⟨a, b, c, d⟩ := hs.out i (by omega)
    obtain ⟨a', b', c', d'⟩ := h.out i hi
    exact ⟨a.trans a', b.trans b', c.trans c', d.trans d'⟩
theorem Ste.Ok.take (ht : Ste.Tie s0) (h : Ste.Ok s0 s) (m : Mg) : Ste.Ok s0 (s.take m).2 := by
  obtain ⟨ew, en, hw⟩ := h.win ht
  obtain ⟨h1, h2, h3, h4⟩ := step_take s.g m s.now (by rw [ew]; exact ht.w1) (by rw [ew]; exact ht.w2)
  show Ste.Ok s0 { s with g := (s.g.take m s.now).2 }
  rcases h3 with h3 | h3
  · exact h.gate ht h1 (by rw [← en]; exact h3)
  · rw [h3]; exact h
theorem Ste.put_no {s : Ste} {m : Mg} (he : (s.put m).1 ≠ 0) : (s.put m).2 = s := by
  unfold Ste.put at *
  split
  · rfl
  · next h1 =>
    rw [if_neg h1] at he
    split
    · rfl
    · next h2 =>
      rw [if_neg h2] at he
      split
      · rfl
      · next h3 => rw [if_neg h3] at he; exact absurd rfl he
theorem Ste.Ok.put (ht : Ste.Tie s0) (h : Ste.Ok s0 s) (m : Mg) : Ste.Ok s0 (s.put m).2 := by
  unfold Ste.put
  split
  · exact h
  · next h1 =>
    split
    · exact h
    · next h2 =>
      split
      · exact h
      · next h3 =>
        have hk := h.take ht m
        have hm : May m := may_of (by simpa using h1)
        have hT := mayT_none (show mayT s.p.n s.p.m s.p.fr s.t (smM m) s.now = 0 from Classical.not_not.1 h2)
        rw [h.p] at hT
        refine ⟨hk.p, hk.n0, hk.n1, hk.gr, hk.rok, hk.nok, hk.ook, hk.nw, hk.ow, hk.out, hk.sl, hk.ss, hk.sb, hk.sh, hk.lr, hk.lok, hk.ll, h.t.ins hT.2.2, fun x hx => ?_, hk.pb, hk.d, hk.dl⟩
        rcases mem_ins.1 hx with rfl | hx
        · exact ⟨hT.1, hT.2.1, hm.2.2.2.2.1.2⟩
        · exact h.tb x hx
theorem endH_ok {st pr : Int} {h : Hd} {m : Int} (hs : 1 ≤ st) (hp : 1 ≤ pr) (h0 : 0 ≤ h.2 ∧ (h.1 = true → h.2 < pr) ∧ (h.1 = false → h.2 < st)) : 0 ≤ (endH st pr h m).1.2 ∧ ((endH st pr h m).1.1 = true → (endH st pr h m).1.2 < pr) ∧ ((endH st pr h m).1.1 = false → (endH st pr h m).1.2 < st) := by
  obtain ⟨b, z⟩ := h
  obtain ⟨h0, h1, h2⟩ := h0
  dsimp only at h0 h1 h2
  unfold endH moreH
  cases b
  · have h2 := h2 rfl
    dsimp only
    rw [if_neg (by decide)]
    split
    · split
      · exact ⟨by dsimp only; omega, fun e => absurd (show false = true from e) (by decide), fun _ => by dsimp only; omega⟩
      · exact ⟨Int.le_refl _, fun _ => by dsimp only; omega, fun e => absurd (show true = false from e) (by decide)⟩
    · split
      · next hq => exact ⟨by dsimp only; omega, fun e => absurd (show false = true from e) (by decide), fun _ => by dsimp only; omega⟩
      · exact ⟨h0, fun e => absurd (show false = true from e) (by decide), fun _ => h2⟩
  · have h1 := h1 rfl
    dsimp only
    rw [if_pos rfl]
    split
    · exact ⟨by dsimp only; omega, fun _ => by dsimp only; omega, fun e => absurd (show true = false from e) (by decide)⟩
    · exact ⟨Int.le_refl _, fun e => absurd (show false = true from e) (by decide), fun _ => by dsimp only; omega⟩
theorem runTo_ok {st pr : Int} {mk : List Int} {H : List Hd} (hs : 1 ≤ st) (hp : 1 ≤ pr) (h : ∀ h ∈ H, 0 ≤ h.2 ∧ (h.1 = true → h.2 < pr) ∧ (h.1 = false → h.2 < st)) (k : Nat) (hk : k ≤ H.length) : ∀ h ∈ (runTo st pr mk H k).1, 0 ≤ h.2 ∧ (h.1 = true → h.2 < pr) ∧ (h.1 = false → h.2 < st) := by
  induction k with
  | zero => exact h
  | succ k ih =>
    intro x hx
    have ih := ih (by omega)
    have hl := runTo_len st pr mk H k
    unfold runTo at hx
    dsimp only at hx
    rcases List.mem_or_eq_of_mem_set hx with hx | rfl
    · exact ih x hx
    · refine endH_ok hs hp (ih _ ?_)
      rw [List.getD_eq_getElem?_getD, List.getElem?_eq_getElem (by omega)]
      exact List.getElem_mem _
theorem raMost_bound (c : Int) (vs ts : List Int) (l : Int) : 0 ≤ (raMost c vs ts l).1 ∧ (raMost c vs ts l).1 ≤ 1000000 := by
  unfold raMost
  split
  · exact ⟨Int.le_refl _, by show (0 : Int) ≤ _; decide⟩
  · exact raTop_bound ..
/-- the samples of a metric are values that may be -/
theorem Ste.Ok.row_in (hb : Ste.Base s0) (h : Ste.Ok s0 s) (k : Nat) : mayL ((s.row k).map Sm.val) = true := by
  have hf := hb.fr
  have hl : s.t.length ≤ 512 := srt_len (now := s.now) h.t fun x hx => by
    have h1 := h.tb x hx
    have h2 := h.pb
    omega
  have hk : (s.row k).length ≤ s.t.length := Nat.le_trans (heardL_len _ _) (ofT_len _ _ _)
  refine (mayL_iff _).2 ⟨by rw [List.length_map]; omega, fun v hv => ?_⟩
  obtain ⟨x, hx, rfl⟩ := List.mem_map.1 hv
  have hx : x ∈ s.t := (List.mem_filter.1 (List.mem_filter.1 hx).1).1
  exact (h.tb x hx).1.2.2.2.2
theorem meanL_in01 {l : List Int} (hl : l.length ≤ 1000) (h : ∀ x ∈ l, 0 ≤ x ∧ x ≤ 1099511627776) : 0 ≤ (meanL l).1 ∧ (meanL l).1 ≤ 1099511627776 := by
  unfold meanL
  split
  · exact ⟨Int.le_refl _, by show (0 : Int) ≤ _; decide⟩
  · next hne =>
    have hp : 0 < l.length := List.length_pos_iff.2 hne
    have h1 := sum_le (c := 1099511627776) fun x hx => (h x hx).2
    have h0 := le_sum (c := 0) fun x hx => (h x hx).1
    refine ⟨Int.ediv_nonneg (by omega) (by omega), ?_⟩
    show l.sum / (l.length : Int) ≤ _
    exact Int.ediv_le_of_le_mul (by omega) h1
theorem Ste.mean_in (s : Ste) (k : Nat) : 0 ≤ (s.mean k).1 ∧ (s.mean k).1 ≤ 1099511627776 := by
  have := midL_ok ((s.row k).map Sm.val) s.p.f
  exact meanL_in01 this.1 this.2
theorem Ste.vals_in (s : Ste) : ∀ v ∈ s.vals, 0 ≤ v ∧ v ≤ 1099511627776 := fun v hv => by
  obtain ⟨k, _, rfl⟩ := List.mem_map.1 hv
  exact s.mean_in k
theorem Ste.vals_at (s : Ste) (k : Nat) : 0 ≤ s.vals.getD k 0 ∧ s.vals.getD k 0 ≤ 1099511627776 := by
  rw [List.getD_eq_getElem?_getD]
  cases hv : s.vals[k]? with
  | none => exact ⟨Int.le_refl _, by show (0 : Int) ≤ _; decide⟩
  | some v => exact s.vals_in v (List.mem_of_getElem? hv)
theorem getLast_drop {α : Type} {l : List α} {n : Nat} (h : n < l.length) : (l.drop n).getLast? = l.getLast? := by
  rw [List.getLast?_drop, if_neg (by omega)]
theorem Po.put_last {p : Po} (hp : p.Ok) {x : Int} (hx : p.r.mn ≤ x ∧ x ≤ p.r.mx) : (p.put x).2.l.getLast? = some x ∧ (p.put x).2.r = p.r := by
  have h1 := hp.r.per
  rw [Po.put_yes (Po.in_iff.2 hx)]
  refine ⟨?_, rfl⟩
  show (lastL (p.l ++ [x]) p.r.per.toNat).getLast? = _
  unfold lastL
  rw [getLast_drop (by rw [List.length_append, List.length_singleton]; omega)]
  exact List.getLast?_concat
theorem Ste.Ok.dec (h : Ste.Ok s0 s) : s.dec.Ok s0.l.po.r.mn s0.l.po.r.mx := by
  have e0 : s.l.po.r = s0.l.po.r := by rw [h.lr]
  unfold Ste.dec
  split
  · refine ⟨⟨h.n0, h.n1⟩, ?_, ?_, ?_, ?_, ?_, ?_⟩
    · rw [← e0]; exact h.lok.n
    all_goals exact ⟨Int.le_refl _, by show (0 : Int) ≤ _; decide⟩
  · refine ⟨⟨h.n0, h.n1⟩, ?_, raMost_bound .., s.vals_at 0, s.vals_at 1, s.vals_at 2, s.vals_at 3⟩
    rw [← e0]; exact La.come_in h.lok _
theorem Ste.Ok.closed (ht : Ste.Tie s0) (h : Ste.Ok s0 s) (hn : s.now < 1099511627776) : Ste.Ok s0 s.closed := by
  have e0 : s.l.po.r = s0.l.po.r := by rw [h.lr]
  have hd := h.dec
  have hcome := La.come_in h.lok s.vals
  have hlok : (if s.holds = true then s.l.hold else s.l.next s.vals).Ok := by
    split
    · exact La.hold_ok h.lok
    · exact La.next_ok h.lok _
  have hll : (if s.holds = true then s.l.hold else s.l.next s.vals).po.l.getLast? = some (if s.holds = true then s.l.hold else s.l.next s.vals).n := by
    split
    · exact (Po.put_last h.lok.po h.lok.n).1
    · exact (Po.put_last h.lok.po hcome).1
  have hlr : (if s.holds = true then s.l.hold else s.l.next s.vals) = { s0.l with ca := { s0.l.ca with l := (if s.holds = true then s.l.hold else s.l.next s.vals).ca.l }, po := { s0.l.po with l := (if s.holds = true then s.l.hold else s.l.next s.vals).po.l }, n := (if s.holds = true then s.l.hold else s.l.next s.vals).n } := by
    have e := h.lr
    split
    · have hp := (Po.put_last h.lok.po h.lok.n).2
      generalize hP : (s.l.po.put s.l.n).2 = P at hp
      have ep : P = { s0.l.po with l := P.l } := by cases P; dsimp only at hp ⊢; rw [hp, e0]
      have eh : s.l.hold = { s.l with po := P } := by rw [← hP]; rfl
      rw [eh]
      conv => lhs; rw [e, ep]
    · have hp := (Po.put_last h.lok.po hcome).2
      generalize hP : (s.l.po.put (s.l.come s.vals)).2 = P at hp
      have ep : P = { s0.l.po with l := P.l } := by cases P; dsimp only at hp ⊢; rw [hp, e0]
      have eh : s.l.next s.vals = { s.l with ca := s.l.ca.push (s.l.want s.vals), po := P, n := s.l.come s.vals } := by rw [← hP]; rfl
      have ec : s.l.ca.push (s.l.want s.vals) = { s0.l.ca with l := (s.l.ca.push (s.l.want s.vals)).l } := by
        have eu : s.l.ca.up = s0.l.ca.up := by rw [e]
        have ed : s.l.ca.down = s0.l.ca.down := by rw [e]
        show (⟨s.l.ca.up, s.l.ca.down, _⟩ : Ca) = ⟨s0.l.ca.up, s0.l.ca.down, _⟩
        rw [eu, ed]
        rfl
      rw [eh]
      generalize s.l.ca.push (s.l.want s.vals) = C at *
      generalize s.l.come s.vals = y at *
      conv => lhs; rw [e, ep, ec]
  refine ⟨h.p, by show 0 ≤ s.now + 1; have := h.n0; omega, by show s.now + 1 ≤ _; omega, h.gr, h.rok, h.nok, h.ook, h.nw, h.ow, h.out, (runTo_len ..).trans h.sl, h.ss, h.sb, ?_, hlr, hlok, hll, h.t.filter _, fun x hx => ?_, h.pb, fun d hd' => ?_, ?_⟩
  · have hs := h.ss
    show ∀ x ∈ (runTo s.s.st s.s.pr _ s.s.H s.s.H.length).1, _
    rw [hs.1, hs.2.1]
    exact runTo_ok ht.s1.1 ht.s1.2 h.sh _ (Nat.le_refl _)
  · have hx' := List.mem_filter.1 hx
    have h1 := h.tb x hx'.1
    have h2 : s.now < x.ep := by simpa using hx'.2
    refine ⟨h1.1, ⟨by show s.now + 1 ≤ _; omega, by show x.ep - (s.now + 1) < _; omega⟩, h1.2.2⟩
  · rcases List.mem_append.1 (List.mem_of_mem_drop hd') with h' | h'
    · exact h.d d h'
    · rw [List.mem_singleton.1 h']; exact hd
  · show ((s.ds ++ [s.dec]).drop _).length ≤ 64
    rw [List.length_drop]
    omega
theorem Ste.Ok.close (ht : Ste.Tie s0) (h : Ste.Ok s0 s) : Ste.Ok s0 s.close.2 := by
  unfold Ste.close
  split
  · exact h
  · next hn => exact h.closed ht (by omega)
/-- the law takes what is asked -/
theorem Ste.Ok.asks (ht : Ste.Tie s0) (h : Ste.Ok s0 s) : s.l.may s.vals = true := by
  have hv : s.vals.length = s.l.tg.length := by
    have e : s.l.tg = s0.l.tg := by rw [h.lr]
    have := ht.tg
    show ((List.range s.p.m.toNat).map _).length = _
    rw [List.length_map, List.length_range, h.p, e]
    omega
  exact (La.take h.lok hv s.vals_in).1
end
end Go.Proofs.YtecggbndlbkhdaaGreat
end
section
set_option linter.unusedSimpArgs false
namespace Go.Proofs.YtecggbndlbkhdaaGreat
set_option maxRecDepth 100000
open Go.RowKit
/-- the k-th part's name -/
def nm : Nat → ByteArray
  | 0 => ⟨#[110]⟩
  | 1 => ⟨#[102]⟩
  | 2 => ⟨#[109]⟩
  | 3 => ⟨#[113, 117, 111, 114, 117, 109]⟩
  | 4 => ⟨#[102, 114, 101, 115, 104]⟩
  | 5 => ⟨#[103, 114, 97, 99, 101]⟩
  | 6 => ⟨#[119, 105, 110, 100, 111, 119]⟩
  | 7 => ⟨#[116, 97, 114, 103, 101, 116]⟩
  | 8 => ⟨#[116, 111, 108]⟩
  | 9 => ⟨#[109, 105, 110]⟩
  | 10 => ⟨#[109, 97, 120]⟩
  | 11 => ⟨#[99, 97, 108, 109, 117, 112]⟩
  | 12 => ⟨#[99, 97, 108, 109, 100, 111, 119, 110]⟩
  | 13 => ⟨#[112, 111, 100, 115, 117, 112]⟩
  | 14 => ⟨#[112, 99, 116, 117, 112]⟩
  | 15 => ⟨#[112, 111, 100, 115, 100, 111, 119, 110]⟩
  | 16 => ⟨#[112, 99, 116, 100, 111, 119, 110]⟩
  | 17 => ⟨#[112, 101, 114, 105, 111, 100]⟩
  | 18 => ⟨#[102, 97, 114]⟩
  | 19 => ⟨#[115, 116, 114, 105, 107, 101, 115]⟩
  | 20 => ⟨#[112, 114, 111, 98, 101]⟩
  | _ => ⟨#[115, 101, 99, 116, 111, 114, 115]⟩
end Go.Proofs.YtecggbndlbkhdaaGreat
end
section
set_option linter.unusedSectionVars false
set_option linter.unusedSimpArgs false
namespace Go.Proofs.YtecggbndlbkhdaaGreat
set_option maxRecDepth 100000
open Go.RowKit
section
variable {c : Conf} (h : Fine c)
include h
end
end Go.Proofs.YtecggbndlbkhdaaGreat
end
section
set_option linter.unusedSimpArgs false
set_option linter.unusedVariables false
namespace Go.Proofs.YtecggbndlbkhdaaGreat
set_option maxRecDepth 100000
open Go.RowKit

/-- a slice that reads as these rows of samples -/
def RowsS (w : World) (v : Value) (ls : List (Value × List Sm)) : Prop :=
  (v = .slice none 0 0 ∧ ls = []) ∨
  ∃ b o cap, v = .slice (some ⟨b, o, none⟩) ls.length cap ∧ ls.length ≤ cap ∧ cap ≤ maxLen ∧ ∀ i, (h : i < ls.length) → w.cell? ⟨b, o + i, none⟩ = some ls[i].1 ∧ SAt w ls[i].1 ls[i].2
theorem RowsS.grown {w w1 : World} {v : Value} {l : List (Value × List Sm)} (h : RowsS w v l) (hg : w.grownBy w1 none) : RowsS w1 v l := by
  rcases h with h | ⟨b, o, cap, rfl, h1, h2, h3⟩
  · exact .inl h
  · exact .inr ⟨b, o, cap, rfl, h1, h2, fun i hi => ⟨hg.cell (h3 i hi).1 (by simp), (h3 i hi).2.grown hg⟩⟩
theorem RowsS.form {w : World} {v : Value} {l : List (Value × List Sm)} (h : RowsS w v l) : ∃ p c, v = .slice p l.length c := by
  rcases h with ⟨rfl, rfl⟩ | ⟨b, o, cap, rfl, _⟩
  · exact ⟨none, 0, rfl⟩
  · exact ⟨_, cap, rfl⟩
theorem RowsS.at {w : World} {p : Option Addr} {n c : Nat} {l : List (Value × List Sm)} (h : RowsS w (.slice p n c) l) {i : Nat} (hi : i < l.length) :
    ∃ b o, p = some ⟨b, o, none⟩ ∧ n ≤ c ∧ w.cell? ⟨b, o + i, none⟩ = some l[i].1 ∧ SAt w l[i].1 l[i].2 := by
  rcases h with ⟨e, rfl⟩ | ⟨b, o, cap, e, h1, h2, h3⟩
  · simp at hi
  · cases e
    exact ⟨b, o, rfl, h1, h3 i hi⟩
theorem RowsS.nil (w : World) : RowsS w (.slice none 0 0) [] := .inl ⟨rfl, rfl⟩

set_option maxHeartbeats 1600000 in
theorem marks_any {s : Sc} {b hb : Nat} {w : World} (h : ScAt s b hb w) (v : Value) (L : List (Value × List Sm)) (hv : RowsS w v L) (hL : L.length ≤ 1000) (hrow : ∀ x ∈ L, x.2.length ≤ 1000) (q : Int) :
    Calls Tryz.prog 246 #[.pointer (some ⟨b, 0, none⟩), v, .int .i64 q] w fun e w' => ∃ mb, e = .returned (.slice (some ⟨mb, 0, none⟩) s.H.length s.H.length) ∧ w'.heap[mb]? = some (.cells ((marksL s q (L.map Prod.snd)).map iv).toArray 372) ∧ w.heap.size ≤ mb ∧ w.grownBy w' none := by
  have HS := hid h
  have HI := hid hv
  have HROW := hid hrow
  obtain ⟨p, c, rfl⟩ := hv.form
  obtain ⟨c0, c1, c2, c3⟩ := h.cells
  have h16 := h.ok.n16
  obtain ⟨N, hN⟩ : ∃ N, s.H.length = N := ⟨_, rfl⟩
  have HNN := hid hN
  rw [hN] at c0 h16 ⊢
  obtain ⟨n, hn⟩ : ∃ n, L.length = n := ⟨_, rfl⟩
  have HN := hid hn
  rw [hn] at HI hL ⊢
  have hmk := mk_marks N (by omega)
  have B0 := hid (at_new w (.cells (Array.replicate N (iv 0)) 372))
  have G0 := hid (World.grownBy_alloc w (.cells (Array.replicate N (iv 0)) 372) none)
  have HLE := hid (Nat.le_refl w.heap.size)
  clear h hv hn hrow hN c1 c2 c3
  go_enter Tryz.func246, Tryz.ntmps246
  go_wp2_with fail
  generalize w.alloc (.cells (Array.replicate N (iv 0)) 372) = w2 at *
  obtain ⟨mb, hmb⟩ : ∃ mb, mb = w.heap.size := ⟨_, rfl⟩
  have HMB := hid hmb
  rw [← hmb] at B0 ⊢
  rw [rep_iv] at B0
  clear hmb HLE hmk
  go_loopw [22] (fun i wr => ∃ (k : Nat), k ≤ n ∧ i = .int .i64 (k : Int) ∧ wr.heap[mb]? = some (.cells ((marksF s q ((L.map Prod.snd).take k) (List.replicate N 0)).map iv).toArray 372) ∧ w.grownBy wr none)
    (fun i _ => n - (intOf i).toNat)
  case atStart => exact ⟨0, Nat.zero_le _, rfl, B0.out, G0.out⟩
  case round =>
    obtain ⟨k, hk, rfl, hbl, hgr⟩ := hrel
    have HBL := hid hbl
    have HGR := hid hgr
    clear hbl hgr
    by_cases hlt : k < n
    · have hkl : k < L.length := by rw [HN.out]; exact hlt
      obtain ⟨ab, ao, rfl, hcc, e0, hsa⟩ := (HI.out.grown HGR.out).at hkl
      have hx := List.getElem?_eq_getElem hkl
      have hr1 := HROW.out _ (List.getElem_mem hkl)
      generalize L[k] = x at *
      obtain ⟨u, row⟩ := x
      dsimp only at e0 hsa hr1
      have HSUC := hid (marksF_succ (s := s) (q := q) (mk := List.replicate N 0) (L := L.map Prod.snd) (k := k) (x := row) (by rw [List.getElem?_map, hx]; rfl))
      have hml := marksF_len s q ((L.map Prod.snd).take k) (List.replicate N 0)
      rw [List.length_replicate] at hml
      generalize marksF s q ((L.map Prod.snd).take k) (List.replicate N 0) = mk at *
      have HML := hid hml
      have HH := hid (heard_any (HS.out.grown HGR.out) u row hsa (by omega))
      have HRL := hid (show (heardL s.H row).length ≤ 1000 by have := heardL_len s.H row; omega)
      have HIN := hid (fun (x : Sm) (hx : x ∈ heardL s.H row) => heardL_in hx)
      unfold markM at HSUC
      generalize heardL s.H row = r at *
      obtain ⟨pu, cu, rfl⟩ := hsa.form
      clear hx hsa hr1 hml hkl
      go_wp2_with fail
      refine HH.out.mono ?_
      rintro e w3 ⟨u3, rfl, hown, hg⟩
      have O3 := hid hown
      have G3 := hid (gb_trans HGR.out hg (.inl rfl))
      have B3 := hid (at_grown HBL.out hg (by simp))
      have HSZ := hid (show mb < wr.heap.size from at_lt HBL.out)
      obtain ⟨p3, c3, rfl⟩ := hown.form
      clear hown hg HH HBL HGR e0
      obtain ⟨R, hR⟩ : ∃ R, r.length = R := ⟨_, rfl⟩
      have HR := hid hR
      have HMID := hid (smiddle_any (.slice p3 r.length c3) r q w3 O3.out.reads HRL.out)
      rw [hR] at O3 HMID HRL ⊢
      have HOK := hid (@midS_ok r q)
      clear hR
      generalize (midS r q).1 = m at *
      generalize (midS r q).2 = okb at *
      go_wp2_with fail
      refine HMID.out.mono ?_
      rintro e w4 ⟨rfl, hg⟩
      have O4 := hid (O3.out.grown hg)
      have G4 := hid (gb_trans G3.out hg (.inl rfl))
      have B4 := hid (at_grown B3.out hg (by simp))
      clear hg HMID O3 G3 B3
      cases okb with
      | false =>
        have HE := hid (show marksF s q ((L.map Prod.snd).take (k + 1)) (List.replicate N 0) = mk by rw [HSUC.out]; rfl)
        clear HSUC HOK
        go_wp2_with fail
        go_roundw
        case rel => exact ⟨k + 1, by omega, by go_num, by rw [HE.out]; exact B4.out, G4.out⟩
        case measure => simp [intOf]; omega
      | true =>
        have HE := hid (show marksF s q ((L.map Prod.snd).take (k + 1)) (List.replicate N 0) = markR s.far m mk r by rw [HSUC.out]; rfl)
        have HV := hid (HOK.out rfl)
        have HRL' := HRL.out
        clear HSUC HOK
        go_wp2_with fail
        go_loopw [39] (fun i wx => ∃ (j : Nat), j ≤ R ∧ i = .int .i64 (j : Int) ∧ wx.heap[mb]? = some (.cells ((markR s.far m mk (r.take j)).map iv).toArray 372) ∧ Chg [mb] w4 wx)
          (fun i _ => R - (intOf i).toNat)
        case atStart => exact ⟨0, Nat.zero_le _, rfl, B4.out, chg_refl _ _⟩
        case round =>
          obtain ⟨j, hj, rfl, hbl, hch⟩ := hrel
          have HB := hid hbl
          have HC := hid hch
          have GX := hid (((chg_grown G4.out [mb]).then hch).free (by intro x hx; rw [List.mem_singleton.1 hx, HMB.out]; exact Nat.le_refl _))
          clear hbl hch
          by_cases hjl : j < R
          · have hjr : j < r.length := by rw [HR.out]; exact hjl
            obtain ⟨ab, ao, rfl, -, hcc, e0, e1, e2, e3⟩ := (O4.out.reads.chg HC.out (fun g hg => by
              have := O4.out.lt g hg
              have h2 := HSZ.out
              simp; omega)).cells hjr
            have hx := List.getElem?_eq_getElem hjr
            obtain ⟨i, hi, hiN⟩ := HIN.out _ (List.getElem_mem hjr)
            have hval := HV.out.1 _ (List.getElem_mem hjr)
            generalize r[j] = x at *
            obtain ⟨z0, z1, z2, z3⟩ := x
            dsimp only at e0 e1 e2 e3 hi hval
            subst hi
            have HM1 := hid (markR_succ (far := s.far) (m := m) (mk := mk) hx)
            have hml := markR_len s.far m mk (r.take j)
            rw [HML.out] at hml
            generalize markR s.far m mk (r.take j) = mj at *
            unfold mark1 at HM1
            dsimp only at HM1
            rw [Int.toNat_natCast] at HM1
            rw [HNN.out] at hiN
            have hiN' : (i : Int) < (N : Int) := by omega
            have hy := List.getElem?_eq_getElem (show i < mj.length by omega)
            rw [List.getD_eq_getElem?_getD, hy, Option.getD_some] at HM1
            generalize mj[i]'(show i < mj.length by omega) = y at *
            have HW := hid (weigh_any ((HS.out.grown GX.out).alloc (.cells #[.int .i64 (i : Int), .int .i64 z1, .int .i64 z2, .int .i64 z3] 91)).drew z3 m hval HV.out.2)
            generalize weighL s.far z3 m = g at *
            have BA := hid (at_alloc HB.out (.cells #[.int .i64 (i : Int), .int .i64 z1, .int .i64 z2, .int .i64 z3] 91))
            have ck := blk_at BA.out hy
            have fk := at_free BA.out i
            have BN := hid (blk_set (k := i) (x := max y g) BA.out rfl)
            have CN := hid ((HC.out.alloc (.cells #[.int .i64 (i : Int), .int .i64 z1, .int .i64 z2, .int .i64 z3] 91)).set (p := ⟨mb, i, none⟩) (.inl (by simp)) (.int .i64 (max y g)))
            clear hx hval hjr hml hy HB HC BA
            go_wp2_with fail
            refine wp_region_still_tail 15 (by kernel_rfl) (by kernel_rfl) ?_
            simp only [List.take_succ_cons, List.take_zero, List.drop_succ_cons, List.drop_zero]
            change wpStill _ _ (wr.alloc (.cells #[.int .i64 (i : Int), .int .i64 z1, .int .i64 z2, .int .i64 z3] 91)).drew _ _ _
            repeat still_step
            still_call (still_of HW.out)
            repeat still_step
            refine wpStill_nil ?_
            change wpList _ _ _ _ _ (wr.alloc (.cells #[.int .i64 (i : Int), .int .i64 z1, .int .i64 z2, .int .i64 z3] 91)).drew
            go_wp2_with fail
            go_roundw
            case rel => exact ⟨j + 1, by omega, by go_num, by rw [HM1.out]; exact at_drew BN.out, CN.out.drew⟩
            case measure => simp [intOf]; omega
          · obtain rfl : j = R := by omega
            rw [← HR.out, List.take_length] at HB
            go_wp2_with fail
            go_roundw
            case rel => exact ⟨k + 1, by omega, by go_num, by rw [HE.out]; exact HB.out, GX.out⟩
            case measure => simp [intOf]; omega
    · obtain rfl : k = n := by omega
      have hall : (L.map Prod.snd).take k = L.map Prod.snd := by rw [List.take_of_length_le]; rw [List.length_map, HN.out]; exact Nat.le_refl _
      rw [hall] at HBL
      have HBL2 : Hid (wr.heap[mb]? = some (.cells ((marksL s q (L.map Prod.snd)).map iv).toArray 372)) := by unfold marksL; rw [HNN.out]; exact HBL
      clear HBL hall
      go_wp2_with fail
      go_ret
      exact ⟨mb, rfl, HBL2.out, by rw [HMB.out]; exact Nat.le_refl _, HGR.out⟩
end Go.Proofs.YtecggbndlbkhdaaGreat
end
section
set_option linter.unusedSimpArgs false
set_option linter.unusedVariables false
namespace Go.Proofs.YtecggbndlbkhdaaGreat
set_option maxRecDepth 100000
open Go.RowKit

/-- the blocks of the document's Law: its own, its Calm's, its Policy's -/
structure LRb where
  b : Nat
  c : Nat
  r : Nat
@[reducible] def LRb.F (R : LRb) : List Nat := [R.b, R.c, R.r]
@[reducible] def lrCells (c : Conf) (cb rb : Nat) (n : Int) : Array Value := #[.int .i64 c.n, .int .i64 c.f, .int .i64 c.m, .int .i64 c.quorum, .int .i64 c.fresh, .int .i64 c.grace, .int .i64 c.window, .int .i64 c.t0, .int .i64 c.t1, .int .i64 c.t2, .int .i64 c.t3, .int .i64 c.tol, .int .i64 c.min, .int .i64 c.max, .int .i64 c.calmup, .int .i64 c.calmdown, .int .i64 c.podsup, .int .i64 c.pctup, .int .i64 c.podsdown, .int .i64 c.pctdown, .int .i64 c.period, .int .i64 c.far, .int .i64 c.strikes, .int .i64 c.probe, .int .i64 c.sectors, .int .u64 c.seed, .pointer (some ⟨cb, 0, none⟩), .pointer (some ⟨rb, 0, none⟩), .int .i64 n]
structure LrAt (w : World) (F : List Nat) (R : LRb) (c : Conf) (m : Nat) (s : La) : Prop where
  row : w.heap[R.b]? = some (.cells (lrCells c R.c R.r s.n) 153)
  ca : CbAt w F R.c s.ca
  po : PrAt w F R.r c s.po
  inF : R.b ∈ F
  bc : R.b ≠ R.c
  br : R.b ≠ R.r
  cr : R.c ≠ R.r
  lof : Lof c m s
  hm : c.m = (m : Int)
  m4 : m ≤ 4
  ok : s.Ok
section
variable {w w' : World} {F H : List Nat} {R : LRb} {c : Conf} {m : Nat} {s : La}
theorem LrAt.chg (h : LrAt w F R c m s) (hc : Chg H w w') (hG : ∀ x ∈ H, x ∈ F) (hb : ∀ x ∈ R.F, x ∉ H) : LrAt w' F R c m s :=
  ⟨hc.at h.row (hb _ (by simp)), h.ca.chg hc hG (hb _ (by simp)), h.po.chg hc hG (hb _ (by simp)), h.inF, h.bc, h.br, h.cr, h.lof, h.hm, h.m4, h.ok⟩
theorem LrAt.grown (h : LrAt w F R c m s) (hg : w.grownBy w' none) : LrAt w' F R c m s := h.chg (chg_grown hg []) (by simp) (by simp)
theorem LrAt.drew (h : LrAt w F R c m s) : LrAt w.drew F R c m s := ⟨h.row, h.ca.drew, h.po.drew, h.inF, h.bc, h.br, h.cr, h.lof, h.hm, h.m4, h.ok⟩
theorem LrAt.calm {a : Ca} (h : LrAt w F R c m s) (ha : CbAt w' F R.c a) (hc : Chg [R.c] w w') : LrAt w' F R c m { s with ca := a } :=
  ⟨hc.at h.row (by simp [h.bc]), ha, h.po.chg hc (by simp [h.ca.inF]) (by simp [h.cr.symm]), h.inF, h.bc, h.br, h.cr, ⟨h.lof.tg, h.lof.tol, h.lof.r⟩, h.hm, h.m4, ⟨h.ok.tg, h.ok.ne, h.ok.tol, ha.ok, h.ok.po, h.ok.n⟩⟩
theorem LrAt.rates {p : Po} (h : LrAt w F R c m s) (ha : PrAt w' F R.r c p) (hc : Chg [R.r] w w') (ho : ({ s with po := p } : La).Ok) : LrAt w' F R c m { s with po := p } :=
  ⟨hc.at h.row (by simp [h.br]), h.ca.chg hc (by simp [h.po.inF]) (by simp [h.cr]), ha, h.inF, h.bc, h.br, h.cr, ⟨h.lof.tg, h.lof.tol, ha.rc⟩, h.hm, h.m4, ho⟩
theorem LrAt.count {y : Int} (h : LrAt w F R c m s) (hy : s.po.in y = true) : LrAt (w.setCell ⟨R.b, 28, none⟩ (.int .i64 y)) F R c m { s with n := y } ∧ Chg [R.b] w (w.setCell ⟨R.b, 28, none⟩ (.int .i64 y)) := by
  have hc : Chg [R.b] w (w.setCell ⟨R.b, 28, none⟩ (.int .i64 y)) := (chg_refl w [R.b]).set (.inl (by simp)) _
  refine ⟨⟨?_, h.ca.chg hc (by simp [h.inF]) (by simp [h.bc.symm]), h.po.chg hc (by simp [h.inF]) (by simp [h.br.symm]), h.inF, h.bc, h.br, h.cr, ⟨h.lof.tg, h.lof.tol, h.lof.r⟩, h.hm, h.m4, ⟨h.ok.tg, h.ok.ne, h.ok.tol, h.ok.ca, h.ok.po, Po.in_iff.1 hy⟩⟩, hc⟩
  rw [at_set h.row]; rfl
end
end Go.Proofs.YtecggbndlbkhdaaGreat
end
