/-
  Contracts for the document's own reading of messages, its envelopes. The condition: strings of a modest length.
  Contract for the document's own envelopes: what is in bytes. The condition: strings of a modest length.
  Contracts for package wire and the document's own answer, each for whatever comes: put, seal, get, split. The conditions: bytes that read as bytes, of a modest length.
  Messages, keys, tags in blocks of their own; get and split of what was put and sealed. No condition.
  A collector as a model: its seed, who it is, its generation and last number; what it seals, and what that leaves; an object that holds them. No condition.
  Contracts for package seal. The condition of a call: the object lies there; or it is nil.
-/
import Derived.Test.YtecggbndlbkhdaaGreatY15
import Derived.Test.YtecggbndlbkhdaaGreatY5
import Derived.Test.YtecggbndlbkhdaaGreatY6
import Derived.Test.YtecggbndlbkhdaaGreatY1
import Derived.Test.YtecggbndlbkhdaaGreatY13
import Derived.Test.YtecggbndlbkhdaaGreatY7
import Derived.StillTailTactics
import Derived.WalkSpells
import Derived.WalkLawsBesides
import Derived.Deep.RegionHeld3
section
set_option linter.unusedSimpArgs false
set_option linter.unusedVariables false
namespace Go.Proofs.YtecggbndlbkhdaaGreat
set_option maxRecDepth 100000
open Go.RowKit

end Go.Proofs.YtecggbndlbkhdaaGreat
end
section
set_option linter.unusedSimpArgs false
set_option linter.unusedVariables false
namespace Go.Proofs.YtecggbndlbkhdaaGreat
set_option maxRecDepth 100000
open Go.RowKit

end Go.Proofs.YtecggbndlbkhdaaGreat
end
section
set_option linter.unusedSimpArgs false
set_option linter.unusedVariables false
namespace Go.Proofs.YtecggbndlbkhdaaGreat
set_option maxRecDepth 100000
open Go.RowKit

def sealB (k0 k1 : BitVec 64) (m : Mg) : List UInt8 := if mayOf m = true then sealOf k0 k1 m else []
end Go.Proofs.YtecggbndlbkhdaaGreat
end
section
set_option linter.unusedSimpArgs false
set_option linter.unusedVariables false
namespace Go.Proofs.YtecggbndlbkhdaaGreat
set_option maxRecDepth 100000
open Go.RowKit

@[reducible] def msgObj (m : Mg) : Obj := .cells m.cells 37
end Go.Proofs.YtecggbndlbkhdaaGreat
end
section
set_option linter.unusedSimpArgs false
set_option linter.unusedVariables false
namespace Go.Proofs.YtecggbndlbkhdaaGreat
set_option maxRecDepth 100000
open Go.RowKit

/-- a collector -/
structure Sl where
  seed : BitVec 64
  who : Int
  gen : Int
  seq : Int
structure Sl.Ok (s : Sl) : Prop where
  w0 : 0 ≤ s.who
  w1 : s.who ≤ 15
  g0 : 0 ≤ s.gen
  g1 : s.gen ≤ 60000
  q0 : 0 ≤ s.seq
  q1 : s.seq ≤ 1099511627776
def Sl.new (seed : BitVec 64) (who : Int) : Sl := ⟨seed, who, 0, 0⟩
/-- the key that it seals by -/
def Sl.k (s : Sl) : Two64 := ofOf s.seed s.who s.gen
/-- a message of its own, with the next number -/
def Sl.msg (s : Sl) (m : Mg) : Mg := ⟨m.kind, s.who, m.gen, s.seq + 1, m.epoch, m.value, m.metric⟩
def Sl.out (s : Sl) (m : Mg) : List UInt8 := sealB s.k.a s.k.b (s.msg m)
def Sl.step (s : Sl) (m : Mg) : Sl := if mayOf (s.msg m) = true then ⟨s.seed, s.who, s.gen, s.seq + 1⟩ else s
def Sl.rota (s : Sl) (epoch : Int) : Mg := ⟨2, 0, s.gen + 1, 0, epoch, 0, 0⟩
def Sl.turn (s : Sl) (epoch : Int) : Sl := if mayOf (s.msg (s.rota epoch)) = true then ⟨s.seed, s.who, s.gen + 1, 0⟩ else s
theorem Sl.Ok.step {s : Sl} (h : s.Ok) (m : Mg) : (s.step m).Ok := by
  unfold Sl.step
  split
  · next hm =>
    obtain ⟨_, _, _, hq, _⟩ := may_of hm
    have q := hq.2
    exact ⟨h.w0, h.w1, h.g0, h.g1, by show (0 : Int) ≤ s.seq + 1; have := h.q0; omega, q⟩
  · exact h
theorem Sl.Ok.turn {s : Sl} (h : s.Ok) (epoch : Int) : (s.turn epoch).Ok := by
  unfold Sl.turn
  split
  · next hm =>
    obtain ⟨_, _, hg, _⟩ := may_of hm
    have q := hg.2
    exact ⟨h.w0, h.w1, by show (0 : Int) ≤ s.gen + 1; have := h.g0; omega, q, Int.le_refl _, by show (0 : Int) ≤ _; decide⟩
  · exact h

/-- an object of type t that holds a collector -/
structure SlAt (t : TypeId) (w : World) (b : Nat) (s : Sl) : Prop where
  top : w.heap[b]? = some (.cells #[.int .u64 (q s.seed), .int .i64 s.who, .int .i64 s.gen, .int .i64 s.seq] t)
  ok : s.Ok
section
variable {t : TypeId} {w w' : World} {F : List Nat} {b : Nat} {s : Sl}
theorem SlAt.chg (H : SlAt t w b s) (hc : Chg F w w') (hb : b ∉ F) : SlAt t w' b s := ⟨hc.at H.top hb, H.ok⟩
theorem SlAt.grown (H : SlAt t w b s) (hg : w.grownBy w' none) : SlAt t w' b s := H.chg (chg_grown hg []) (by simp)
theorem SlAt.drew (H : SlAt t w b s) : SlAt t w.drew b s := ⟨H.top, H.ok⟩
theorem SlAt.lt (H : SlAt t w b s) : b < w.heap.size := at_lt H.top
theorem SlAt.cells (H : SlAt t w b s) : w.cell? ⟨b, 0, none⟩ = some (.int .u64 (q s.seed)) ∧ w.cell? ⟨b, 1, none⟩ = some (.int .i64 s.who) ∧ w.cell? ⟨b, 2, none⟩ = some (.int .i64 s.gen) ∧ w.cell? ⟨b, 3, none⟩ = some (.int .i64 s.seq) ∧ w.frozen? ⟨b, 2, none⟩ = false ∧ w.frozen? ⟨b, 3, none⟩ = false :=
  ⟨at_cell H.top 0, at_cell H.top 1, at_cell H.top 2, at_cell H.top 3, at_free H.top _, at_free H.top _⟩
end
theorem OwnB.chg {base : Nat} {w w1 : World} {v : Value} {l : List UInt8} {F : List Nat} (h : OwnB base w v l) (hc : Chg F w w1) (hF : ∀ x ∈ F, x < base) : OwnB base w1 v l := by
  obtain ⟨h0, h | ⟨g, cap, cur, rfl, hb, hh, h1⟩⟩ := h
  · exact ⟨h0, .inl h⟩
  · exact ⟨h0, .inr ⟨g, cap, cur, rfl, hb, hc.at hh (fun hm => by have := hF _ hm; omega), h1⟩⟩

end Go.Proofs.YtecggbndlbkhdaaGreat
end
section
set_option linter.unusedSimpArgs false
set_option linter.unusedVariables false
namespace Go.Proofs.YtecggbndlbkhdaaGreat
set_option maxRecDepth 100000
open Go.RowKit

theorem grow_of {f : FuncId} {args : Array Value} {w : World} {v : Value} (h : Calls Tryz.prog f args w fun e w' => e = .returned v ∧ w = w') : Calls Tryz.prog f args w fun e w' => e = .returned v ∧ w.grownBy w' none := h.mono fun _ _ ⟨h1, h2⟩ => ⟨h1, h2 ▸ .refl w none⟩

/-- a walk's own: the object, and the message in a block of the call's own -/
structure KS (t : TypeId) (w : World) (g b : Nat) (s : Sl) (m : Mg) (W : World) : Prop where
  ob : SlAt t W b s
  box : W.heap[g]? = some (.cells m.cells 37)
  gr : w.grownBy W none
  lt : b < w.heap.size
  lo : w.heap.size ≤ g
section
variable {t : TypeId} {w W W1 : World} {g b : Nat} {s : Sl} {m : Mg}
theorem KS.grown (h : KS t w g b s m W) (hg : W.grownBy W1 none) : KS t w g b s m W1 := ⟨h.ob.grown hg, at_grown h.box hg (by simp), gb_trans h.gr hg (.inl rfl), h.lt, h.lo⟩
theorem KS.drew (h : KS t w g b s m W) : KS t w g b s m W.drew := ⟨h.ob.drew, h.box, gb_drew h.gr, h.lt, h.lo⟩
theorem SlAt.keep (H : SlAt t W b s) : W.cell? ⟨b, 1, none⟩ = some (.int .i64 s.who) ∧ W.cell? ⟨b, 3, none⟩ = some (.int .i64 s.seq) ∧ SlAt t W b s := ⟨H.cells.2.1, H.cells.2.2.2.1, H⟩
theorem SlAt.other (H : SlAt t W b s) {i : Nat} (v : Value) (hn : b ≠ g) : SlAt t (W.setCell ⟨g, i, none⟩ v) b s := ⟨at_set_other H.top hn v, H.ok⟩
theorem KS.ne (h : KS t w g b s m W) : b ≠ g := by have := h.lt; have := h.lo; omega
theorem KS.put (h : KS t w g b s m W) : KS t w g b s (s.msg m) ((W.setCell ⟨g, 1, none⟩ (.int .i64 s.who)).setCell ⟨g, 3, none⟩ (.int .i64 (s.seq + 1))) :=
  ⟨⟨at_set_other (at_set_other h.ob.top (by have := h.lt; have := h.lo; simp; omega) _) (by have := h.lt; have := h.lo; simp; omega) _, h.ob.ok⟩,
   by have := at_set (at_set h.box 1 (.int .i64 s.who)) 3 (.int .i64 (s.seq + 1)); exact this, gb_new (gb_new h.gr h.lo _) h.lo _, h.lt, h.lo⟩
theorem KS.own (h : KS t w g b s m W) : W.cell? ⟨g, 1, none⟩ = some (.int .i64 m.who) ∧ W.cell? ⟨g, 3, none⟩ = some (.int .i64 m.seq) ∧ W.frozen? ⟨g, 1, none⟩ = false ∧ W.frozen? ⟨g, 3, none⟩ = false := ⟨at_cell h.box 1, at_cell h.box 3, at_free h.box 1, at_free h.box 3⟩
end


end Go.Proofs.YtecggbndlbkhdaaGreat
end
