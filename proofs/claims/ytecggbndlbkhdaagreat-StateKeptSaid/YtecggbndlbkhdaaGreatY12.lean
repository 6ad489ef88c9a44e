/-
  All that is known, as a row of numbers: what stands in it, part by part; how it is read back, number by number: what is read is what was written, and from nothing else. No condition. Nothing of the program is named here.
  All that is known, as a model: the gate, the table, the score, the law, decisions; as a row of numbers, and back: it comes back as it was. No condition. Nothing of the program's functions is named here.
  Contracts for the document's own collector: a new one, and the next envelope. The condition of a call: the object lies there.
  Contracts for Sample, Beat, Rotate, of package seal and of the document's own collector. The condition of a call: the object lies there; or it is nil.
-/
import Derived.WalkKit
import Derived.Test.YtecggbndlbkhdaaGreatY23
import Derived.Test.YtecggbndlbkhdaaGreatY7
import Derived.Test.YtecggbndlbkhdaaGreatY6
import Derived.Test.YtecggbndlbkhdaaGreatY25
import Derived.StillTailTactics
import Derived.WalkSpells
import Derived.WalkLawsBesides
import Derived.Deep.RegionHeld3
section
set_option linter.unusedSimpArgs false
set_option linter.unusedVariables false
namespace Go.Proofs.YtecggbndlbkhdaaGreat
set_option maxRecDepth 100000

/-- reading of numbers: what is read, and the rest -/
abbrev Rdr (α : Type) := List Nat → Option (α × List Nat)
/-- a number of at most m -/
def rd (m : Nat) : Rdr Nat
  | [] => none
  | x :: r => if x ≤ m then some (x, r) else none
/-- k of a kind -/
def rdN {α : Type} (p : Rdr α) : Nat → Rdr (List α)
  | 0, l => some ([], l)
  | k + 1, l => (p l).bind fun x => (rdN p k x.2).bind fun y => some (x.1 :: y.1, y.2)
/-- how many (at most m), and these -/
def rdL {α : Type} (p : Rdr α) (m : Nat) : Rdr (List α) := fun l => (rd m l).bind fun x => rdN p x.1 x.2

theorem rd_some {m x : Nat} {l r : List Nat} : rd m l = some (x, r) ↔ l = x :: r ∧ x ≤ m := by
  cases l with
  | nil => simp [rd]
  | cons y l =>
    show (if y ≤ m then some (y, l) else none) = some (x, r) ↔ _
    by_cases h : y ≤ m
    · rw [if_pos h]
      constructor
      · intro e; cases e; exact ⟨rfl, h⟩
      · rintro ⟨e, _⟩; cases e; rfl
    · rw [if_neg h]
      constructor
      · intro e; cases e
      · rintro ⟨e, e'⟩; cases e; exact absurd e' h
theorem rd_yes {m x : Nat} (r : List Nat) (h : x ≤ m) : rd m (x :: r) = some (x, r) := rd_some.2 ⟨rfl, h⟩
/-- a kind of part: its numbers, its bounds; it is read as it was written -/
structure Kd (α : Type) where
  ws : α → List Nat
  In : α → Prop
  rd : Rdr α
  yes : ∀ a r, In a → rd (ws a ++ r) = some (a, r)
  only : ∀ l a r, rd l = some (a, r) → l = ws a ++ r ∧ In a
section
variable {α : Type} (K : Kd α)
theorem rdN_yes : ∀ (al : List α) (r : List Nat), (∀ a ∈ al, K.In a) → rdN K.rd al.length (al.flatMap K.ws ++ r) = some (al, r)
  | [], r, _ => rfl
  | a :: al, r, h => by
    have h1 := K.yes a (al.flatMap K.ws ++ r) (h a (List.mem_cons_self ..))
    have h2 := rdN_yes al r (fun x hx => h x (List.mem_cons_of_mem _ hx))
    show (K.rd ((a :: al).flatMap K.ws ++ r)).bind _ = _
    rw [List.flatMap_cons, List.append_assoc, h1]
    simp only [Option.bind_some]
    rw [h2]
    rfl
theorem rdN_only : ∀ (k : Nat) (l : List Nat) (al : List α) (r : List Nat), rdN K.rd k l = some (al, r) → l = al.flatMap K.ws ++ r ∧ al.length = k ∧ ∀ a ∈ al, K.In a
  | 0, l, al, r, h => by
    cases h; exact ⟨rfl, rfl, fun _ h => by cases h⟩
  | k + 1, l, al, r, h => by
    unfold rdN at h
    obtain ⟨⟨a, r1⟩, h1, h⟩ := Option.bind_eq_some_iff.1 h
    obtain ⟨⟨bs, r2⟩, h2, h⟩ := Option.bind_eq_some_iff.1 h
    cases h
    obtain ⟨e1, i1⟩ := K.only _ _ _ h1
    obtain ⟨e2, n2, i2⟩ := rdN_only k r1 bs r2 h2
    refine ⟨by rw [e1, e2, List.flatMap_cons, List.append_assoc], by simp [n2], fun x hx => ?_⟩
    rcases List.mem_cons.1 hx with rfl | hx
    · exact i1
    · exact i2 x hx
theorem rdL_yes (m : Nat) (al : List α) (r : List Nat) (h : ∀ a ∈ al, K.In a) (hm : al.length ≤ m) : rdL K.rd m (al.length :: al.flatMap K.ws ++ r) = some (al, r) := by
  unfold rdL
  rw [List.cons_append, rd_yes _ hm]
  exact rdN_yes K al r h
theorem rdL_only (m : Nat) (l : List Nat) (al : List α) (r : List Nat) (h : rdL K.rd m l = some (al, r)) : l = al.length :: al.flatMap K.ws ++ r ∧ al.length ≤ m ∧ ∀ a ∈ al, K.In a := by
  unfold rdL at h
  obtain ⟨⟨x, r1⟩, h1, h2⟩ := Option.bind_eq_some_iff.1 h
  obtain ⟨e0, hx⟩ := rd_some.1 h1
  have h2 : rdN K.rd x r1 = some (al, r) := h2
  obtain ⟨e, n, i⟩ := rdN_only K _ _ _ _ h2
  subst n
  exact ⟨by rw [e0, e, List.cons_append], hx, i⟩
end

/-- a collector's numbers -/
structure Co where
  gen : Nat
  since : Nat
  top : Nat
  bits : Nat
  top2 : Nat
  bits2 : Nat
  strikes : Nat
  clean : Nat
  out : Nat
/-- a sample's -/
structure Sa where
  ep : Nat
  met : Nat
  who : Nat
  val : Nat
/-- a decision's -/
structure De where
  ep : Nat
  rep : Nat
  want : Nat
  hold : Nat
  v0 : Nat
  v1 : Nat
  v2 : Nat
  v3 : Nat
def E40 : Nat := 1099511627776
def kNum (m : Nat) : Kd Nat where
  ws x := [x]
  In x := x ≤ m
  rd := rd m
  yes a r h := rd_yes r h
  only l a r h := rd_some.1 h
/-- two parts one behind the other, as one -/
def rd2 {α β : Type} (p : Rdr α) (q : Rdr β) : Rdr (α × β) := fun l => (p l).bind fun x => (q x.2).bind fun y => some ((x.1, y.1), y.2)
def kPair {α β : Type} (A : Kd α) (B : Kd β) : Kd (α × β) where
  ws x := A.ws x.1 ++ B.ws x.2
  In x := A.In x.1 ∧ B.In x.2
  rd := rd2 A.rd B.rd
  yes a r h := by
    unfold rd2
    rw [List.append_assoc, A.yes _ _ h.1]
    simp only [Option.bind_some]
    rw [B.yes _ _ h.2]; rfl
  only l a r h := by
    unfold rd2 at h
    obtain ⟨⟨x, r1⟩, h1, h⟩ := Option.bind_eq_some_iff.1 h
    obtain ⟨⟨y, r2⟩, h2, h⟩ := Option.bind_eq_some_iff.1 h
    cases h
    obtain ⟨e1, i1⟩ := A.only _ _ _ h1
    obtain ⟨e2, i2⟩ := B.only _ _ _ h2
    exact ⟨by rw [e1]; dsimp only at e2 ⊢; rw [e2, List.append_assoc], i1, i2⟩
/-- a kind under another name -/
def kMap {α β : Type} (A : Kd α) (f : α → β) (g : β → α) (fg : ∀ b, f (g b) = b) (gf : ∀ a, g (f a) = a) : Kd β where
  ws b := A.ws (g b)
  In b := A.In (g b)
  rd l := (A.rd l).bind fun x => some (f x.1, x.2)
  yes b r h := by rw [A.yes _ _ h]; simp [fg]
  only l b r h := by
    obtain ⟨⟨x, r1⟩, h1, h⟩ := Option.bind_eq_some_iff.1 h
    cases h
    rw [gf]
    exact A.only _ _ _ h1
/-- a row of a kind, with how many ahead -/
def kRow {α : Type} (A : Kd α) (m : Nat) : Kd (List α) where
  ws l := l.length :: l.flatMap A.ws
  In l := l.length ≤ m ∧ ∀ a ∈ l, A.In a
  rd := rdL A.rd m
  yes a r h := rdL_yes A m a r h.2 h.1
  only l a r h := by
    obtain ⟨e, n, i⟩ := rdL_only A m l a r h
    exact ⟨e, n, i⟩
/-- a row of just n of a kind -/
def kVec {α : Type} (A : Kd α) (n : Nat) : Kd (List α) where
  ws l := l.flatMap A.ws
  In l := l.length = n ∧ ∀ a ∈ l, A.In a
  rd := rdN A.rd n
  yes a r h := by have := rdN_yes A a r h.2; rwa [h.1] at this
  only l a r h := by
    obtain ⟨e, k, i⟩ := rdN_only A n l a r h
    exact ⟨e, k, i⟩
def kCo : Kd Co := kMap (kPair (kNum 60000) (kPair (kNum E40) (kPair (kNum E40) (kPair (kNum 18446744073709551615) (kPair (kNum E40) (kPair (kNum 18446744073709551615) (kPair (kNum 100) (kPair (kNum 100) (kNum 1)))))))))
  (fun x => ⟨x.1, x.2.1, x.2.2.1, x.2.2.2.1, x.2.2.2.2.1, x.2.2.2.2.2.1, x.2.2.2.2.2.2.1, x.2.2.2.2.2.2.2.1, x.2.2.2.2.2.2.2.2⟩) (fun c => (c.gen, c.since, c.top, c.bits, c.top2, c.bits2, c.strikes, c.clean, c.out)) (fun _ => rfl) (fun _ => rfl)
def kSa : Kd Sa := kMap (kPair (kNum E40) (kPair (kNum 3) (kPair (kNum 15) (kNum E40)))) (fun x => ⟨x.1, x.2.1, x.2.2.1, x.2.2.2⟩) (fun c => (c.ep, c.met, c.who, c.val)) (fun _ => rfl) (fun _ => rfl)
def kDe : Kd De := kMap (kPair (kNum E40) (kPair (kNum 10000) (kPair (kNum 1000000) (kPair (kNum 1) (kPair (kNum E40) (kPair (kNum E40) (kPair (kNum E40) (kNum E40))))))))
  (fun x => ⟨x.1, x.2.1, x.2.2.1, x.2.2.2.1, x.2.2.2.2.1, x.2.2.2.2.2.1, x.2.2.2.2.2.2.1, x.2.2.2.2.2.2.2⟩) (fun c => (c.ep, c.rep, c.want, c.hold, c.v0, c.v1, c.v2, c.v3)) (fun _ => rfl) (fun _ => rfl)
theorem kCo_ws (c : Co) : kCo.ws c = [c.gen, c.since, c.top, c.bits, c.top2, c.bits2, c.strikes, c.clean, c.out] := rfl
theorem kSa_ws (c : Sa) : kSa.ws c = [c.ep, c.met, c.who, c.val] := rfl
theorem kDe_ws (c : De) : kDe.ws c = [c.ep, c.rep, c.want, c.hold, c.v0, c.v1, c.v2, c.v3] := rfl

/-- all that is known, as numbers -/
structure Fl where
  now : Nat
  cs : List Co
  calm : List Nat
  pol : List Nat
  count : Nat
  sm : List Sa
  ds : List De
def kFl (n : Nat) : Kd Fl := kMap (kPair (kNum E40) (kPair (kVec kCo n) (kPair (kRow (kNum 1000000) 1000) (kPair (kRow (kNum 1000000) 1000) (kPair (kNum 10000) (kPair (kRow kSa 1000) (kRow kDe 64)))))))
  (fun x => ⟨x.1, x.2.1, x.2.2.1, x.2.2.2.1, x.2.2.2.2.1, x.2.2.2.2.2.1, x.2.2.2.2.2.2⟩) (fun c => (c.now, c.cs, c.calm, c.pol, c.count, c.sm, c.ds)) (fun _ => rfl) (fun _ => rfl)
def Fl.ws (f : Fl) : List Nat := (kFl f.cs.length).ws f
theorem Fl.ws_eq (f : Fl) : f.ws = f.now :: (f.cs.flatMap kCo.ws ++ ((f.calm.length :: f.calm) ++ ((f.pol.length :: f.pol) ++ (f.count :: ((f.sm.length :: f.sm.flatMap kSa.ws) ++ (f.ds.length :: f.ds.flatMap kDe.ws)))))) := by
  show _ ++ _ = _
  simp [Fl.ws, kFl, kMap, kPair, kNum, kVec, kRow]
/-- read back: all of it, and nothing behind -/
def parse (n : Nat) (ws : List Nat) : Option Fl := ((kFl n).rd ws).bind fun x => if x.2 = [] then some x.1 else none
theorem parse_iff (n : Nat) (ws : List Nat) (f : Fl) : parse n ws = some f ↔ ws = (kFl n).ws f ∧ (kFl n).In f := by
  unfold parse
  constructor
  · intro h
    obtain ⟨⟨g, r⟩, h1, h⟩ := Option.bind_eq_some_iff.1 h
    dsimp only at h
    split at h
    · next e =>
      subst e
      cases h
      have := (kFl n).only _ _ _ h1
      simpa using this
    · cases h
  · rintro ⟨rfl, h⟩
    have := (kFl n).yes f [] h
    rw [List.append_nil] at this
    rw [this]; rfl
end Go.Proofs.YtecggbndlbkhdaaGreat
end
section
set_option linter.unusedSimpArgs false
set_option linter.unusedVariables false
namespace Go.Proofs.YtecggbndlbkhdaaGreat
set_option maxRecDepth 100000
open Go.RowKit

/-- a decision -/
structure Dc where
  ep : Int
  rep : Int
  want : Int
  hold : Bool
  v0 : Int
  v1 : Int
  v2 : Int
  v3 : Int
/-- the numbers of a configuration that all of it asks for: how many collectors, metrics; f, quorum, fresh -/
structure Sps where
  n : Nat
  m : Int
  f : Int
  q : Int
  fr : Int
structure Ste where
  p : Sps
  now : Int
  g : Gt
  t : List Sm
  s : Sc
  l : La
  ds : List Dc
theorem Ste.eq_of {a b : Ste} (h1 : a.p = b.p) (h2 : a.now = b.now) (h3 : a.g = b.g) (h4 : a.t = b.t) (h5 : a.s = b.s) (h6 : a.l = b.l) (h7 : a.ds = b.ds) : a = b := by
  cases a; cases b; dsimp only at *; subst h1 h2 h3 h4 h5 h6 h7; rfl
/-- one collector's numbers -/
def Ste.co (s : Ste) (i : Nat) : Co :=
  let h := standH (s.s.H.getD i (true, 0))
  ⟨(s.g.r.gen i).toNat, (s.g.r.since i).toNat, (s.g.now i).top.toNat, (s.g.now i).bits.toNat, (s.g.old i).top.toNat, (s.g.old i).bits.toNat, h.1.toNat, h.2.1.toNat, if h.2.2 then 1 else 0⟩
def saOf (x : Sm) : Sa := ⟨x.ep.toNat, x.met.toNat, x.who.toNat, x.val.toNat⟩
def smOf (x : Sa) : Sm := ⟨(x.who : Int), (x.met : Int), (x.ep : Int), (x.val : Int)⟩
def deOf (d : Dc) : De := ⟨d.ep.toNat, d.rep.toNat, d.want.toNat, if d.hold then 1 else 0, d.v0.toNat, d.v1.toNat, d.v2.toNat, d.v3.toNat⟩
def dcOf (d : De) : Dc := ⟨d.ep, d.rep, d.want, decide (d.hold = 1), d.v0, d.v1, d.v2, d.v3⟩
/-- all that is known, as numbers -/
def Ste.fl (s : Ste) : Fl := ⟨s.now.toNat, (List.range s.p.n).map s.co, s.l.ca.l.map Int.toNat, s.l.po.l.map Int.toNat, s.l.n.toNat, s.t.map saOf, s.ds.map deOf⟩

/-- how one stands, out of its numbers -/
def hdOf (c : Co) : Hd := if c.out = 1 then (true, (c.clean : Int)) else (false, (c.strikes : Int))
/-- may a collector's numbers be set? -/
def CoOk (w1 w2 : Rp) (st pr : Int) (c : Co) : Prop :=
  w1.can (c.top : Int) (BitVec.ofNat 64 c.bits) = true ∧ w2.can (c.top2 : Int) (BitVec.ofNat 64 c.bits2) = true ∧ (if c.out = 1 then c.strikes = 0 ∧ (c.clean : Int) < pr else c.clean = 0 ∧ (c.strikes : Int) < st)
/-- may the samples be put one by one, and stand as they are told? -/
def PutOk (p : Sps) (now : Int) (L : List Sm) : Prop := Srt L ∧ ∀ k x, L[k]? = some x → mayT p.n p.m p.fr (L.take k) x now = 0
/-- which numbers are a state's: s0 is the one that nothing was done to -/
structure Valid (s0 : Ste) (f : Fl) : Prop where
  co : ∀ i c, f.cs[i]? = some c → CoOk (s0.g.now i) (s0.g.old i) s0.s.st s0.s.pr c
  ca : s0.l.ca.mayset (f.calm.map fun x : Nat => (x : Int)) = true
  po : s0.l.po.mayset (f.pol.map fun x : Nat => (x : Int)) = true
  n : f.pol.getLast? = some f.count
  sm : PutOk s0.p (f.now : Int) (f.sm.map smOf)
  ds : ∀ d ∈ f.ds, s0.l.po.r.mn ≤ (d.rep : Int) ∧ (d.rep : Int) ≤ s0.l.po.r.mx
/-- a collector's part of the numbers, or what was there -/
def atOr {α : Type} (cs : List Co) (i : Nat) (f : Co → α) (a : α) : α := match cs[i]? with | some c => f c | none => a
/-- the state of these numbers -/
def Ste.set (s0 : Ste) (f : Fl) : Ste where
  p := s0.p
  now := f.now
  g := { s0.g with
    r := { s0.g.r with gen := fun i => atOr f.cs i (fun c => (c.gen : Int)) (s0.g.r.gen i), since := fun i => atOr f.cs i (fun c => (c.since : Int)) (s0.g.r.since i) }
    now := fun i => atOr f.cs i (fun c => ⟨(s0.g.now i).win, c.top, BitVec.ofNat 64 c.bits⟩) (s0.g.now i)
    old := fun i => atOr f.cs i (fun c => ⟨(s0.g.old i).win, c.top2, BitVec.ofNat 64 c.bits2⟩) (s0.g.old i) }
  t := f.sm.map smOf
  s := { s0.s with H := f.cs.map hdOf }
  l := { s0.l with ca := { s0.l.ca with l := f.calm.map fun x : Nat => (x : Int) }, po := { s0.l.po with l := f.pol.map fun x : Nat => (x : Int) }, n := f.count }
  ds := f.ds.map dcOf
/-- a decision's bounds -/
structure Dc.Ok (lo hi : Int) (d : Dc) : Prop where
  ep : 0 ≤ d.ep ∧ d.ep ≤ 1099511627776
  rep : lo ≤ d.rep ∧ d.rep ≤ hi
  want : 0 ≤ d.want ∧ d.want ≤ 1000000
  v0 : 0 ≤ d.v0 ∧ d.v0 ≤ 1099511627776
  v1 : 0 ≤ d.v1 ∧ d.v1 ≤ 1099511627776
  v2 : 0 ≤ d.v2 ∧ d.v2 ≤ 1099511627776
  v3 : 0 ≤ d.v3 ∧ d.v3 ≤ 1099511627776
/-- what is always so of a state that came of s0 -/
structure Ste.Ok (s0 s : Ste) : Prop where
  p : s.p = s0.p
  n0 : 0 ≤ s.now
  n1 : s.now ≤ 1099511627776
  gr : s.g = { s0.g with r := { s0.g.r with gen := s.g.r.gen, since := s.g.r.since }, now := s.g.now, old := s.g.old }
  rok : s.g.r.Ok
  nok : ∀ i, (s.g.now i).Ok
  ook : ∀ i, (s.g.old i).Ok
  nw : ∀ i, (s.g.now i).win = (s0.g.now i).win
  ow : ∀ i, (s.g.old i).win = (s0.g.old i).win
  out : ∀ i, s0.p.n ≤ i → s.g.r.gen i = s0.g.r.gen i ∧ s.g.r.since i = s0.g.r.since i ∧ s.g.now i = s0.g.now i ∧ s.g.old i = s0.g.old i
  sl : s.s.H.length = s0.p.n
  ss : s.s.st = s0.s.st ∧ s.s.pr = s0.s.pr ∧ s.s.far = s0.s.far
  sb : s0.s.st ≤ 100 ∧ s0.s.pr ≤ 100
  sh : ∀ h ∈ s.s.H, 0 ≤ h.2 ∧ (h.1 = true → h.2 < s0.s.pr) ∧ (h.1 = false → h.2 < s0.s.st)
  lr : s.l = { s0.l with ca := { s0.l.ca with l := s.l.ca.l }, po := { s0.l.po with l := s.l.po.l }, n := s.l.n }
  lok : s.l.Ok
  ll : s.l.po.l.getLast? = some s.l.n
  t : Srt s.t
  tb : ∀ x ∈ s.t, (0 ≤ x.who ∧ x.who < s0.p.n ∧ 0 ≤ x.met ∧ x.met < s0.p.m ∧ 0 ≤ x.val ∧ x.val ≤ 1099511627776) ∧ (s.now ≤ x.ep ∧ x.ep - s.now < s0.p.fr) ∧ x.ep ≤ 1099511627776
  pb : s0.p.n ≤ 16 ∧ s0.p.m ≤ 4
  d : ∀ d ∈ s.ds, d.Ok s0.l.po.r.mn s0.l.po.r.mx
  dl : s.ds.length ≤ 64
section
variable {s0 s : Ste} {f : Fl}
theorem toNat_back {l : List Int} (h : ∀ x ∈ l, 0 ≤ x) : (l.map Int.toNat).map (fun x : Nat => (x : Int)) = l := by
  rw [List.map_map]
  conv => rhs; rw [← List.map_id l]
  exact List.map_congr_left fun x hx => by have := h x hx; show ((x.toNat : Nat) : Int) = x; omega
theorem sm_back {x : Sm} (h1 : 0 ≤ x.who) (h2 : 0 ≤ x.met) (h3 : 0 ≤ x.ep) (h4 : 0 ≤ x.val) : smOf (saOf x) = x :=
  Sm.eq_of (by show ((x.who.toNat : Nat) : Int) = _; omega) (by show ((x.met.toNat : Nat) : Int) = _; omega) (by show ((x.ep.toNat : Nat) : Int) = _; omega) (by show ((x.val.toNat : Nat) : Int) = _; omega)
theorem Dc.eq_of {a b : Dc} (h1 : a.ep = b.ep) (h2 : a.rep = b.rep) (h3 : a.want = b.want) (h4 : a.hold = b.hold) (h5 : a.v0 = b.v0) (h6 : a.v1 = b.v1) (h7 : a.v2 = b.v2) (h8 : a.v3 = b.v3) : a = b := by
  cases a; cases b; dsimp only at *; subst h1 h2 h3 h4 h5 h6 h7 h8; rfl
theorem toNat_cast {x : Int} (h : 0 ≤ x) : ((x.toNat : Nat) : Int) = x := by omega
theorem dc_back {d : Dc} {lo hi : Int} (h : d.Ok lo hi) (hlo : 0 ≤ lo) : dcOf (deOf d) = d :=
  Dc.eq_of (toNat_cast h.ep.1) (toNat_cast (Int.le_trans hlo h.rep.1)) (toNat_cast h.want.1) (by obtain ⟨_, _, _, b, _, _, _, _⟩ := d; cases b <;> rfl) (toNat_cast h.v0.1) (toNat_cast h.v1.1) (toNat_cast h.v2.1) (toNat_cast h.v3.1)
theorem hd_back (h : Hd) (c : Co) (h0 : 0 ≤ h.2) (e1 : c.strikes = (standH h).1.toNat) (e2 : c.clean = (standH h).2.1.toNat) (e3 : c.out = if (standH h).2.2 then 1 else 0) : hdOf c = h := by
  obtain ⟨b, z⟩ := h
  have h0 : 0 ≤ z := h0
  unfold hdOf
  cases b
  · have e1 : c.strikes = z.toNat := e1
    have e3 : c.out = 0 := e3
    rw [if_neg (by omega), e1, toNat_cast h0]
  · have e2 : c.clean = z.toNat := e2
    have e3 : c.out = 1 := e3
    rw [if_pos e3, e2, toNat_cast h0]
theorem Ste.cs_at (s : Ste) (i : Nat) : (s.fl.cs)[i]? = if i < s.p.n then some (s.co i) else none := by
  show ((List.range s.p.n).map s.co)[i]? = _
  rw [List.getElem?_map]
  by_cases h : i < s.p.n
  · rw [List.getElem?_range h, if_pos h]; rfl
  · rw [List.getElem?_eq_none (by simp; omega), if_neg h]; rfl
theorem Ste.at_or {α : Type} (s : Ste) (i : Nat) (f : Co → α) (a : α) : atOr s.fl.cs i f a = if i < s.p.n then f (s.co i) else a := by
  unfold atOr
  rw [s.cs_at]
  by_cases h : i < s.p.n
  · rw [if_pos h, if_pos h]
  · rw [if_neg h, if_neg h]
theorem rp_back {r : Rp} {w : Nat} (hw : r.win = w) (h0 : 0 ≤ r.top) : (⟨w, (r.top.toNat : Nat), BitVec.ofNat 64 r.bits.toNat⟩ : Rp) = r := by
  obtain ⟨a, b, c⟩ := r
  cases hw
  show (⟨a, (b.toNat : Nat), BitVec.ofNat 64 c.toNat⟩ : Rp) = _
  rw [toNat_cast h0, BitVec.ofNat_toNat, BitVec.setWidth_eq]
/-- it comes back as it was -/
theorem Ste.back (h : Ste.Ok s0 s) : s0.set s.fl = s := by
  have hn : s.p.n = s0.p.n := by rw [h.p]
  have eg : (fun i => atOr s.fl.cs i (fun c => (c.gen : Int)) (s0.g.r.gen i)) = s.g.r.gen := funext fun i => by
    rw [s.at_or]; split
    · exact toNat_cast (h.rok.e0 i)
    · exact (h.out i (by omega)).1.symm
  have es : (fun i => atOr s.fl.cs i (fun c => (c.since : Int)) (s0.g.r.since i)) = s.g.r.since := funext fun i => by
    rw [s.at_or]; split
    · exact toNat_cast (h.rok.s0 i)
    · exact (h.out i (by omega)).2.1.symm
  have en : (fun i => atOr s.fl.cs i (fun c => (⟨(s0.g.now i).win, c.top, BitVec.ofNat 64 c.bits⟩ : Rp)) (s0.g.now i)) = s.g.now := funext fun i => by
    rw [s.at_or]; split
    · exact rp_back (h.nw i) (h.nok i).t0
    · exact (h.out i (by omega)).2.2.1.symm
  have eo : (fun i => atOr s.fl.cs i (fun c => (⟨(s0.g.old i).win, c.top2, BitVec.ofNat 64 c.bits2⟩ : Rp)) (s0.g.old i)) = s.g.old := funext fun i => by
    rw [s.at_or]; split
    · exact rp_back (h.ow i) (h.ook i).t0
    · exact (h.out i (by omega)).2.2.2.symm
  have hH : (s.fl.cs.map hdOf) = s.s.H := by
    refine List.ext_getElem? fun i => ?_
    rw [List.getElem?_map, s.cs_at]
    by_cases hi : i < s.p.n
    · have hl : i < s.s.H.length := by rw [h.sl]; omega
      rw [if_pos hi, List.getElem?_eq_getElem hl]
      refine congrArg some (hd_back _ _ (h.sh _ (List.getElem_mem hl)).1 ?_ ?_ ?_) <;> (show _ = _; unfold Ste.co; rw [List.getD_eq_getElem?_getD, List.getElem?_eq_getElem hl]; rfl)
    · rw [if_neg hi, List.getElem?_eq_none (by rw [h.sl]; omega)]; rfl
  have e0 : 0 ≤ s0.l.po.r.mn := by
    have := h.lok.po.r.mn
    rw [h.lr] at this
    have : 1 ≤ s0.l.po.r.mn ∧ s0.l.po.r.mn ≤ 10000 := this
    omega
  have hpo : ∀ x ∈ s.l.po.l, 0 ≤ x := fun x hx => by
    have h1 := (h.lok.po.m x hx).1
    have h2 := h.lok.po.r.mn.1
    omega
  have hln : 0 ≤ s.l.n := by
    have h1 := h.lok.n.1
    have h2 := h.lok.po.r.mn.1
    omega
  refine Ste.eq_of h.p.symm (toNat_cast h.n0) ?_ ?_ ?_ ?_ ?_
  · show (⟨⟨s0.g.r.seed, s0.g.r.n, s0.g.r.grace, _, _⟩, s0.g.win, s0.g.met, s0.g.fresh, _, _⟩ : Gt) = _
    rw [eg, es, en, eo]
    exact h.gr.symm
  · show (s.t.map saOf).map smOf = s.t
    rw [List.map_map]
    conv => rhs; rw [← List.map_id s.t]
    refine List.map_congr_left fun x hx => ?_
    have := h.tb x hx
    have := h.n0
    exact sm_back (by omega) (by omega) (by omega) (by omega)
  · show (⟨s.fl.cs.map hdOf, s0.s.st, s0.s.pr, s0.s.far⟩ : Sc) = s.s
    rw [hH, ← h.ss.1, ← h.ss.2.1, ← h.ss.2.2]
  · show (⟨s0.l.tg, s0.l.tol, ⟨s0.l.ca.up, s0.l.ca.down, (s.l.ca.l.map Int.toNat).map fun x : Nat => (x : Int)⟩, ⟨s0.l.po.r, (s.l.po.l.map Int.toNat).map fun x : Nat => (x : Int)⟩, (s.l.n.toNat : Nat)⟩ : La) = s.l
    rw [toNat_back fun x hx => (h.lok.ca.m x hx).1, toNat_back hpo, toNat_cast hln]
    exact h.lr.symm
  · show (s.ds.map deOf).map dcOf = s.ds
    rw [List.map_map]
    conv => rhs; rw [← List.map_id s.ds]
    exact List.map_congr_left fun x hx => dc_back (h.d x hx) e0
theorem kCo_in {c : Co} : kCo.In c ↔ c.gen ≤ 60000 ∧ c.since ≤ E40 ∧ c.top ≤ E40 ∧ c.bits ≤ 18446744073709551615 ∧ c.top2 ≤ E40 ∧ c.bits2 ≤ 18446744073709551615 ∧ c.strikes ≤ 100 ∧ c.clean ≤ 100 ∧ c.out ≤ 1 := Iff.rfl
theorem kSa_in {c : Sa} : kSa.In c ↔ c.ep ≤ E40 ∧ c.met ≤ 3 ∧ c.who ≤ 15 ∧ c.val ≤ E40 := Iff.rfl
theorem kDe_in {c : De} : kDe.In c ↔ c.ep ≤ E40 ∧ c.rep ≤ 10000 ∧ c.want ≤ 1000000 ∧ c.hold ≤ 1 ∧ c.v0 ≤ E40 ∧ c.v1 ≤ E40 ∧ c.v2 ≤ E40 ∧ c.v3 ≤ E40 := Iff.rfl
/-- the bounds of each part -/
structure FlIn (n : Nat) (f : Fl) : Prop where
  now : f.now ≤ E40
  n : f.cs.length = n
  cs : ∀ c ∈ f.cs, kCo.In c
  nca : f.calm.length ≤ 1000
  ca : ∀ x ∈ f.calm, x ≤ 1000000
  npo : f.pol.length ≤ 1000
  po : ∀ x ∈ f.pol, x ≤ 1000000
  count : f.count ≤ 10000
  nsm : f.sm.length ≤ 1000
  sm : ∀ c ∈ f.sm, kSa.In c
  nds : f.ds.length ≤ 64
  ds : ∀ c ∈ f.ds, kDe.In c
theorem kFl_in {n : Nat} : (kFl n).In f ↔ FlIn n f :=
  ⟨fun ⟨a, ⟨b, c⟩, ⟨d, e⟩, ⟨g, h⟩, i, ⟨j, k⟩, l, m⟩ => ⟨a, b, c, d, e, g, h, i, j, k, l, m⟩, fun h => ⟨h.now, ⟨h.n, h.cs⟩, ⟨h.nca, h.ca⟩, ⟨h.npo, h.po⟩, h.count, ⟨h.nsm, h.sm⟩, h.nds, h.ds⟩⟩
theorem asc_len : ∀ (l : List Nat) (a b : Nat), l.Pairwise (· < ·) → (∀ x ∈ l, a ≤ x ∧ x < b) → l.length ≤ b - a
  | [], a, b, _, _ => Nat.zero_le _
  | x :: l, a, b, h, k => by
    have h1 := List.pairwise_cons.1 h
    have k1 := k x (List.mem_cons_self ..)
    have := asc_len l (x + 1) b h1.2 fun y hy => ⟨h1.1 y hy, (k y (List.mem_cons_of_mem _ hy)).2⟩
    simp only [List.length_cons]
    omega
/-- so many samples there can be -/
theorem srt_len {L : List Sm} {now : Int} (h : Srt L) (hb : ∀ x ∈ L, (0 ≤ x.who ∧ x.who < 16) ∧ (0 ≤ x.met ∧ x.met < 4) ∧ now ≤ x.ep ∧ x.ep - now < 8) : L.length ≤ 512 := by
  have := asc_len (L.map fun x => (x.ep - now).toNat * 64 + x.met.toNat * 16 + x.who.toNat) 0 512 (by
      rw [List.pairwise_map]
      refine List.Pairwise.imp_of_mem ?_ h
      intro a b ha hb' hab
      have h1 := hb a ha
      have h2 := hb b hb'
      have hab : a.ep < b.ep ∨ a.ep = b.ep ∧ (a.met < b.met ∨ a.met = b.met ∧ a.who < b.who) := hab
      omega) (by
      intro y hy
      obtain ⟨x, hx, rfl⟩ := List.mem_map.1 hy
      have := hb x hx
      omega)
  simpa using this
theorem rp_can_own {r v : Rp} (h : r.Ok) (hw : r.win = v.win) : v.can ((r.top.toNat : Nat) : Int) (BitVec.ofNat 64 r.bits.toNat) = true := by
  rw [toNat_cast h.t0, BitVec.ofNat_toNat, BitVec.setWidth_eq]
  unfold Rp.can
  have h1 := h.w1
  have h2 := h.w2
  have h3 := h.t0
  refine decide_eq_true ⟨h.t0, h.t1, (low_none _ _ (by omega)).2 fun i hi => ?_, h.b0⟩
  have := h.bs i hi
  omega
/-- its numbers may be -/
theorem Ste.fl_in (h : Ste.Ok s0 s) (hf : s0.p.fr ≤ 8) (hca : s0.l.ca.Ok) : FlIn s0.p.n s.fl := by
  have hn : s.p.n = s0.p.n := by rw [h.p]
  have hm := h.lok.po.r.mx
  have hsm : s.t.length ≤ 512 := srt_len (now := s.now) h.t fun x hx => by
    have h1 := h.tb x hx
    have h2 := h.pb
    omega
  have hq := h.lok.po.n
  have hp := h.lok.po.r.per
  have hc := h.lok.ca.n
  have hu := h.lok.ca.u
  have hd := h.lok.ca.d
  have hlen : (List.range s.p.n).length = s0.p.n := by rw [List.length_range, hn]
  refine ⟨?_, ?_, ?_, ?_, ?_, ?_, ?_, ?_, ?_, ?_, ?_, ?_⟩
  · have := h.n1; show s.now.toNat ≤ 1099511627776; omega
  · show ((List.range s.p.n).map s.co).length = _; rw [List.length_map, hlen]
  · intro c hc
    obtain ⟨i, hi, rfl⟩ := List.mem_map.1 hc
    have hi : i < s.p.n := List.mem_range.1 hi
    have hl : i < s.s.H.length := by rw [h.sl]; omega
    have hsh := h.sh _ (List.getElem_mem hl)
    have hsb := h.sb
    have e : s.s.H.getD i (true, 0) = s.s.H[i] := by rw [List.getD_eq_getElem?_getD, List.getElem?_eq_getElem hl]; rfl
    have g1 := h.rok.e1 i
    have g2 := h.rok.s1 i
    have g3 := (h.nok i).t1
    have g4 := (h.ook i).t1
    have g5 := (s.g.now i).bits.isLt
    have g6 := (s.g.old i).bits.isLt
    refine kCo_in.2 ⟨by show (s.g.r.gen i).toNat ≤ _; omega, by show (s.g.r.since i).toNat ≤ 1099511627776; omega, by show (s.g.now i).top.toNat ≤ 1099511627776; omega, by show (s.g.now i).bits.toNat ≤ _; omega, by show (s.g.old i).top.toNat ≤ 1099511627776; omega, by show (s.g.old i).bits.toNat ≤ _; omega, ?_, ?_, ?_⟩
    · show (standH (s.s.H.getD i (true, 0))).1.toNat ≤ 100
      rw [e]
      generalize s.s.H[i] = z at *
      obtain ⟨b, z⟩ := z
      cases b
      · have := hsh.2.2 rfl; have : z < s0.s.st := this; show z.toNat ≤ 100; omega
      · show (0 : Int).toNat ≤ 100; decide
    · show (standH (s.s.H.getD i (true, 0))).2.1.toNat ≤ 100
      rw [e]
      generalize s.s.H[i] = z at *
      obtain ⟨b, z⟩ := z
      cases b
      · show (0 : Int).toNat ≤ 100; decide
      · have := hsh.2.1 rfl; have : z < s0.s.pr := this; show z.toNat ≤ 100; omega
    · show (if (standH (s.s.H.getD i (true, 0))).2.2 then 1 else 0) ≤ 1
      split <;> omega
  · show (s.l.ca.l.map Int.toNat).length ≤ 1000
    rw [List.length_map]
    unfold Ca.most at hc
    omega
  · intro x hx
    obtain ⟨y, hy, rfl⟩ := List.mem_map.1 hx
    have := h.lok.ca.m y hy
    omega
  · show (s.l.po.l.map Int.toNat).length ≤ 1000
    rw [List.length_map]
    omega
  · intro x hx
    obtain ⟨y, hy, rfl⟩ := List.mem_map.1 hx
    have := h.lok.po.m y hy
    omega
  · have := h.lok.n; show s.l.n.toNat ≤ 10000; omega
  · show (s.t.map saOf).length ≤ 1000
    rw [List.length_map]
    omega
  · intro c hc
    obtain ⟨x, hx, rfl⟩ := List.mem_map.1 hc
    have h1 := h.tb x hx
    have h2 := h.pb
    exact kSa_in.2 ⟨by show x.ep.toNat ≤ 1099511627776; omega, by show x.met.toNat ≤ 3; omega, by show x.who.toNat ≤ 15; omega, by show x.val.toNat ≤ 1099511627776; omega⟩
  · show (s.ds.map deOf).length ≤ 64
    rw [List.length_map]
    exact h.dl
  · intro c hc
    obtain ⟨d, hx, rfl⟩ := List.mem_map.1 hc
    have h1 := h.d d hx
    have h2 := h1.rep
    have h3 := h1.want
    have e0 : s.l.po.r = s0.l.po.r := by rw [h.lr]
    rw [e0] at hm
    refine kDe_in.2 ⟨by have := h1.ep; show d.ep.toNat ≤ 1099511627776; omega, by show d.rep.toNat ≤ 10000; omega, by show d.want.toNat ≤ 1000000; omega, ?_, by have := h1.v0; show d.v0.toNat ≤ 1099511627776; omega, by have := h1.v1; show d.v1.toNat ≤ 1099511627776; omega, by have := h1.v2; show d.v2.toNat ≤ 1099511627776; omega, by have := h1.v3; show d.v3.toNat ≤ 1099511627776; omega⟩
    show (if d.hold then 1 else 0) ≤ 1
    split <;> omega
/-- its numbers are a state's -/
theorem Ste.valid (h : Ste.Ok s0 s) : Valid s0 s.fl := by
  have e0 : s.l.po.r = s0.l.po.r := by rw [h.lr]
  have ec : s.l.ca.most = s0.l.ca.most := by rw [h.lr]; rfl
  have hpm := h.lok.po.r.mn
  refine ⟨?_, ?_, ?_, ?_, ?_, ?_⟩
  · intro i c hc
    rw [s.cs_at] at hc
    split at hc
    · next hi =>
      cases hc
      have hl : i < s.s.H.length := by rw [h.sl, ← h.p]; exact hi
      have hsh := h.sh _ (List.getElem_mem hl)
      have e : s.s.H.getD i (true, 0) = s.s.H[i] := by rw [List.getD_eq_getElem?_getD, List.getElem?_eq_getElem hl]; rfl
      refine ⟨rp_can_own (h.nok i) (h.nw i), rp_can_own (h.ook i) (h.ow i), ?_⟩
      unfold Ste.co
      rw [e]
      generalize s.s.H[i] = z at *
      obtain ⟨b, z⟩ := z
      cases b
      · have h1 := hsh.2.2 rfl
        have h1 : z < s0.s.st := h1
        have h0 : 0 ≤ z := hsh.1
        show (if (0 : Nat) = 1 then _ else (0 : Int).toNat = 0 ∧ ((z.toNat : Nat) : Int) < s0.s.st)
        rw [if_neg (by decide)]
        exact ⟨rfl, by omega⟩
      · have h1 := hsh.2.1 rfl
        have h1 : z < s0.s.pr := h1
        have h0 : 0 ≤ z := hsh.1
        show (if (1 : Nat) = 1 then (0 : Int).toNat = 0 ∧ ((z.toNat : Nat) : Int) < s0.s.pr else _)
        rw [if_pos rfl]
        exact ⟨rfl, by omega⟩
    · cases hc
  · show s0.l.ca.mayset ((s.l.ca.l.map Int.toNat).map fun x : Nat => (x : Int)) = true
    rw [toNat_back fun x hx => (h.lok.ca.m x hx).1]
    unfold Ca.mayset
    simp only [Bool.and_eq_true, decide_eq_true_iff, List.all_eq_true]
    exact ⟨ec ▸ h.lok.ca.n, h.lok.ca.m⟩
  · show s0.l.po.mayset ((s.l.po.l.map Int.toNat).map fun x : Nat => (x : Int)) = true
    rw [toNat_back fun x hx => by have := (h.lok.po.m x hx).1; omega]
    unfold Po.mayset Po.in
    simp only [Bool.and_eq_true, decide_eq_true_iff, List.all_eq_true]
    rw [← e0]
    exact ⟨⟨h.lok.po.m, List.length_pos_iff.2 h.lok.po.ne⟩, h.lok.po.n⟩
  · show (s.l.po.l.map Int.toNat).getLast? = some s.l.n.toNat
    rw [List.getLast?_map, h.ll]; rfl
  · have em : (s.t.map saOf).map smOf = s.t := by
      rw [List.map_map]
      conv => rhs; rw [← List.map_id s.t]
      refine List.map_congr_left fun x hx => ?_
      have := h.tb x hx
      have := h.n0
      exact sm_back (by omega) (by omega) (by omega) (by omega)
    show PutOk s0.p ((s.now.toNat : Nat) : Int) ((s.t.map saOf).map smOf)
    rw [em, toNat_cast h.n0]
    refine ⟨h.t, fun k x hk => ?_⟩
    obtain ⟨hkl, rfl⟩ := List.getElem?_eq_some_iff.1 hk
    have hb := h.tb _ (List.getElem_mem hkl)
    unfold mayT
    rw [if_neg (Classical.not_not.2 hb.1), if_neg (Classical.not_not.2 hb.2.1), if_neg]
    rintro ⟨y, hy, e⟩
    obtain ⟨j, hj, rfl⟩ := List.getElem_of_mem hy
    have hj' : j < k := by rw [List.length_take] at hj; omega
    rw [List.getElem_take] at e
    exact (List.pairwise_iff_getElem.1 h.t.ne) j k (by omega) hkl hj' e
  · intro d hd
    obtain ⟨x, hx, rfl⟩ := List.mem_map.1 hd
    have h1 := (h.d x hx).rep
    have e1 : ((x.rep.toNat : Nat) : Int) = x.rep := toNat_cast (by rw [e0] at hpm; omega)
    show s0.l.po.r.mn ≤ ((x.rep.toNat : Nat) : Int) ∧ ((x.rep.toNat : Nat) : Int) ≤ s0.l.po.r.mx
    rw [e1]
    exact h1
/-- what is so of the one that nothing was done to -/
structure Ste.Base (s0 : Ste) : Prop where
  ok : Ste.Ok s0 s0
  fr : s0.p.fr ≤ 8
  gn : ∀ i, (s0.g.now i).Ok
  go : ∀ i, (s0.g.old i).Ok
end
end Go.Proofs.YtecggbndlbkhdaaGreat
end
section
set_option linter.unusedSimpArgs false
set_option linter.unusedVariables false
namespace Go.Proofs.YtecggbndlbkhdaaGreat
set_option maxRecDepth 100000
open Go.RowKit


end Go.Proofs.YtecggbndlbkhdaaGreat
end
section
set_option linter.unusedSimpArgs false
set_option linter.unusedVariables false
namespace Go.Proofs.YtecggbndlbkhdaaGreat
set_option maxRecDepth 100000
open Go.RowKit

end Go.Proofs.YtecggbndlbkhdaaGreat
end
