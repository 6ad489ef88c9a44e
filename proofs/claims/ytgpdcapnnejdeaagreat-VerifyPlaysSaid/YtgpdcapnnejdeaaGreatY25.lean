/-
  A collector as a model: its seed, who it is, its generation and last number; what it seals, and what that leaves; an object that holds them. No condition. And 5 texts more that this one stands on. No condition.
-/
import Derived.Test.YtgpdcapnnejdeaaGreatY20
import Derived.Test.YtgpdcapnnejdeaaGreatY7
import Derived.Test.YtgpdcapnnejdeaaGreatY13
import Derived.Test.YtgpdcapnnejdeaaGreatY4
import Derived.Test.YtgpdcapnnejdeaaGreatY16
import Derived.ProofKit
import Derived.OpenShut
import Derived.ChangeOld
import Derived.Below
import Derived.Carry
import Derived.Deep.Slices
import Derived.Deep.Fields
import Derived.ChangeSame
section
set_option linter.unusedSimpArgs false
set_option linter.unusedVariables false
namespace Go.Proofs.YtgpdcapnnejdeaaGreat
set_option maxRecDepth 100000
open Go.RowKit

structure Sl where
 seed : BitVec 64
 who : Int
 gen : Int
 seq : Int
structure Sl.Ok (s : Sl) : Prop where
 w0 : 0 ≤ s.who
 w1 : s.who ≤ 15
 g0 : 0 ≤ s.gen
 g1 : s.gen ≤ 60000
 q0 : 0 ≤ s.seq
 q1 : s.seq ≤ 1099511627776
def Sl.new (seed : BitVec 64) (who : Int) : Sl := ⟨seed, who, 0, 0⟩
theorem sl_new_ok (seed : BitVec 64) {who : Int} (h0 : 0 ≤ who) (h1 : who ≤ 15) : (Sl.new seed who).Ok := ⟨h0, h1, Int.le_refl _, by show (0 : Int) ≤ _; decide, Int.le_refl _, by show (0 : Int) ≤ _; decide⟩
def Sl.k (s : Sl) : Two64 := ofOf s.seed s.who s.gen
def Sl.msg (s : Sl) (m : Mg) : Mg := ⟨m.kind, s.who, m.gen, s.seq + 1, m.epoch, m.value, m.metric⟩
def Sl.out (s : Sl) (m : Mg) : List UInt8 := sealB s.k.a s.k.b (s.msg m)
def Sl.code (s : Sl) (m : Mg) : Int := putC (s.msg m)
def Sl.step (s : Sl) (m : Mg) : Sl := if mayOf (s.msg m) = true then ⟨s.seed, s.who, s.gen, s.seq + 1⟩ else s
def Sl.samp (s : Sl) (metric epoch value : Int) : Mg := ⟨1, 0, s.gen, 0, epoch, value, metric⟩
def Sl.rota (s : Sl) (epoch : Int) : Mg := ⟨2, 0, s.gen + 1, 0, epoch, 0, 0⟩
def Sl.turn (s : Sl) (epoch : Int) : Sl := if mayOf (s.msg (s.rota epoch)) = true then ⟨s.seed, s.who, s.gen + 1, 0⟩ else s
theorem Sl.Ok.step {s : Sl} (h : s.Ok) (m : Mg) : (s.step m).Ok := by
 unfold Sl.step
 split
 ·next hm =>
  obtain ⟨_, _, _, hq, _⟩ := may_of hm
  have q := hq.2
  exact ⟨h.w0, h.w1, h.g0, h.g1, by show (0 : Int) ≤ s.seq + 1; have := h.q0; omega, q⟩
 ·exact h
theorem Sl.Ok.turn {s : Sl} (h : s.Ok) (epoch : Int) : (s.turn epoch).Ok := by
 unfold Sl.turn
 split
 ·next hm =>
  obtain ⟨_, _, hg, _⟩ := may_of hm
  have q := hg.2
  exact ⟨h.w0, h.w1, by show (0 : Int) ≤ s.gen + 1; have := h.g0; omega, q, Int.le_refl _, by show (0 : Int) ≤ _; decide⟩
 ·exact h

structure SlAt (t : TypeId) (w : World) (b : Nat) (s : Sl) : Prop where
 top : w.heap[b]? = some (.cells #[.int .u64 (q s.seed), .int .i64 s.who, .int .i64 s.gen, .int .i64 s.seq] t)
 ok : s.Ok
section
variable {t : TypeId} {w w' : World} {F : List Nat} {b : Nat} {s : Sl}
theorem SlAt.chg (H : SlAt t w b s) (hc : Chg F w w') (hb : b ∉ F) : SlAt t w' b s := ⟨hc.at H.top hb, H.ok⟩
theorem SlAt.grown (H : SlAt t w b s) (hg : w.grownBy w' none) : SlAt t w' b s := H.chg (chg_grown hg []) (by simp)
theorem SlAt.drew (H : SlAt t w b s) : SlAt t w.drew b s := ⟨H.top, H.ok⟩
theorem SlAt.lt (H : SlAt t w b s) : b < w.heap.size := at_lt H.top
theorem SlAt.cells (H : SlAt t w b s) : w.cell? ⟨b, 0, none⟩ = some (.int .u64 (q s.seed)) ∧ w.cell? ⟨b, 1, none⟩ = some (.int .i64 s.who) ∧ w.cell? ⟨b, 2, none⟩ = some (.int .i64 s.gen) ∧ w.cell? ⟨b, 3, none⟩ = some (.int .i64 s.seq) ∧ w.frozen? ⟨b, 2, none⟩ = false ∧ w.frozen? ⟨b, 3, none⟩ = false :=
 ⟨at_cell H.top 0, at_cell H.top 1, at_cell H.top 2, at_cell H.top 3, at_free H.top _, at_free H.top _⟩
theorem SlAt.putSeq (H : SlAt t w b s) {n : Int} (h0 : 0 ≤ n) (h1 : n ≤ 1099511627776) : SlAt t (w.setCell ⟨b, 3, none⟩ (.int .i64 n)) b ⟨s.seed, s.who, s.gen, n⟩ :=
 ⟨by have := at_set H.top 3 (.int .i64 n); exact this, ⟨H.ok.w0, H.ok.w1, H.ok.g0, H.ok.g1, h0, h1⟩⟩
end
theorem OwnB.chg {base : Nat} {w w1 : World} {v : Value} {l : List UInt8} {F : List Nat} (h : OwnB base w v l) (hc : Chg F w w1) (hF : ∀ x ∈ F, x < base) : OwnB base w1 v l := by
 obtain ⟨h0, h | ⟨g, cap, cur, rfl, hb, hh, h1⟩⟩ := h
 ·exact ⟨h0, .inl h⟩
 ·exact ⟨h0, .inr ⟨g, cap, cur, rfl, hb, hc.at hh (fun hm => by have := hF _ hm; omega), h1⟩⟩

def LeavesS (w : World) (b : Nat) (l : List UInt8) (c : Int) (s : Sl) (e : Ending) (w' : World) : Prop :=
 ∃ v, e = .returned (.tuple #[v, .int .i64 c]) ∧ OwnB w.heap.size w' v l ∧ SlAt 145 w' b s ∧ Chg [b] w w'
def LeavesR (w : World) (b : Nat) (l : List UInt8) (c : Int) (s : Sl) (e : Ending) (w' : World) : Prop :=
 e = .returned (.tuple #[.string ⟨l.toArray⟩, .int .i64 c]) ∧ SlAt 108 w' b s ∧ Chg [b] w w'
end Go.Proofs.YtgpdcapnnejdeaaGreat
end
section
namespace Go.Proofs.YtgpdcapnnejdeaaGreat
set_option maxRecDepth 100000
open Go.ChangeShapes Go.WideShapes Go.ChangeAt Go.RowKit

section
variable {H : Type} {enc : TypeId × Value → H} {w : World} {base : Nat} {d : DataW H} {ps : List MemPlace} {v : Value} {t e : TypeId}

theorem bytes_of {a : Addr} {len cap : Nat} {zs : List Int} (hl : len ≤ cap) (hm : cap ≤ maxLen) (hz : zs.length = cap) (hc : ∀ i, i < zs.length → w.cell? (a.add i) = some (.int .u8 (zs.getD i 0))) (hw : ∀ n ∈ zs, (Lit.int .u8 n).wf = true) :
  ∃ l : List UInt8, l.length = len ∧ BytesAt w (.slice (some a) len cap) l := by
 refine ⟨(zs.take len).map fun n => UInt8.ofNat n.toNat, by simp; omega, .inr ⟨a, cap, by simp; omega, by simp; omega, hm, fun i hi => ?_⟩⟩
 simp at hi
 have hi2 : i < zs.length := by omega
 rw [hc i hi2]
 have hwf := hw zs[i] (List.getElem_mem hi2)
 have hb : 0 ≤ zs[i] ∧ zs[i] ≤ 255 := by simpa [Lit.wf, IntKind.min, IntKind.max, IntKind.signed, IntKind.bits] using hwf
 have e : zs.getD i 0 = zs[i] := by simp [hi2]
 rw [e]
 simp
 omega
end
end Go.Proofs.YtgpdcapnnejdeaaGreat
end
section
namespace Go.Proofs.YtgpdcapnnejdeaaGreat
set_option maxRecDepth 100000
open Go.ChangeShapes Go.WideShapes Go.ChangeAt Go.RowKit
section
variable {P : Program} {H : Type} {enc : TypeId × Value → H} {w : World} {base : Nat} {spare : Nat → Bool} {held : Bool}
end
end Go.Proofs.YtgpdcapnnejdeaaGreat
end
section

end
section
namespace Go.Proofs.YtgpdcapnnejdeaaGreat
set_option maxRecDepth 100000
open Go.ChangeShapes Go.WideShapes Go.ChangeAt Go.RowKit Go.Deep

def GridAt (w : World) (v : Value) (m n : Nat) (f : Nat → Nat → Int) : Prop :=
 (v = .slice none 0 0 ∧ n = 0) ∨ ∃ a cap, v = .slice (some a) n cap ∧ n ≤ cap ∧ cap ≤ maxLen ∧ ∀ i, i < n → ∀ j, j < m → w.cell? (a.add (i * m + j)) = some (.int .i64 (f i j)) ∧ a.block < w.heap.size
theorem GridAt.chg {w w' : World} {F : List Nat} {v : Value} {m n : Nat} {f : Nat → Nat → Int} (h : GridAt w v m n f) (hc : Chg F w w') (hF : ∀ x ∈ F, w.heap.size ≤ x) : GridAt w' v m n f := by
 rcases h with h | ⟨a, cap, rfl, h1, h2, h3⟩
 ·exact .inl h
 ·refine .inr ⟨a, cap, rfl, h1, h2, fun i hi j hj => ?_⟩
  obtain ⟨k1, k2⟩ := h3 i hi j hj
  have hb : (a.add (i * m + j)).block = a.block := by unfold Addr.add; split <;> rfl
  exact ⟨hc.cell k1 (by rw [hb]; intro hm; have := hF _ hm; omega), Nat.lt_of_lt_of_le k2 hc.size⟩
theorem GridAt.form {w : World} {v : Value} {m n : Nat} {f : Nat → Nat → Int} (h : GridAt w v m n f) : ∃ p c, v = .slice p n c ∧ n ≤ maxLen := by
 rcases h with ⟨rfl, rfl⟩ | ⟨a, cap, rfl, h1, h2, _⟩
 ·exact ⟨none, 0, rfl, Nat.zero_le _⟩
 ·exact ⟨some a, cap, rfl, Nat.le_trans h1 h2⟩
theorem GridAt.cells {w : World} {p : Option Addr} {c m n : Nat} {f : Nat → Nat → Int} (h : GridAt w (.slice p n c) m n f) {i : Nat} (hi : i < n) (hm : 0 < m) :
  ∃ ab ao, p = some ⟨ab, ao, none⟩ ∧ ab < w.heap.size ∧ ∀ j, j < m → w.cell? ⟨ab, ao + (i * m + j), none⟩ = some (.int .i64 (f i j)) := by
 rcases h with ⟨_, rfl⟩ | ⟨⟨ab, ao, asp⟩, cap, e, _, _, h3⟩
 ·omega
 ·cases e
  obtain ⟨h0, hb⟩ := h3 0 (by omega) 0 hm
  have hsp : asp = none := by simpa [Addr.add] using World.cell?_spot h0
  subst hsp
  refine ⟨ab, ao, rfl, hb, fun j hj => ?_⟩
  have := (h3 i hi j hj).1
  unfold Addr.add at this
  split at this
  ·next h => rw [h]; simpa using this
  ·simpa using this

section
variable {H : Type} {enc : TypeId × Value → H} {P : Program} {w : World} {base : Nat} {spare : Nat → Bool} {held : Bool}
end
section
variable {H : Type} {enc : TypeId × Value → H} {w : World} {base : Nat} {d : DataW H} {ps : List MemPlace} {v : Value} {t e : TypeId}
theorem cell_in {w : World} {a : Addr} {x : Value} (h : w.cell? a = some x) : a.block < w.heap.size := by
 rcases Nat.lt_or_ge a.block w.heap.size with hb | hb
 ·exact hb
 ·simp [World.cell?, Array.getElem?_eq_none hb] at h
end
end Go.Proofs.YtgpdcapnnejdeaaGreat
end
section
namespace Go.Proofs.YtgpdcapnnejdeaaGreat
set_option maxRecDepth 100000
open Go.ChangeShapes Go.WideShapes Go.ChangeAt Go.RowKit Go.Deep

structure Opv where
 k : Int
 who : Int
 a : Int
 b : Int
 v : Int
 m : Mg
 sv : Value
 s : List UInt8
def Opv.list (o : Opv) : List Value := [.int .i64 o.k, .int .i64 o.who, .int .i64 o.a, .int .i64 o.b, .int .i64 o.v, .int .i64 o.m.kind, .int .i64 o.m.who, .int .i64 o.m.gen, .int .i64 o.m.seq, .int .i64 o.m.epoch, .int .i64 o.m.value, .int .i64 o.m.metric, o.sv]
def Opv.wf (o : Opv) : Prop := (Lit.int .i64 o.k).wf = true ∧ (Lit.int .i64 o.who).wf = true ∧ (Lit.int .i64 o.a).wf = true ∧ (Lit.int .i64 o.b).wf = true ∧ (Lit.int .i64 o.v).wf = true ∧
 (Lit.int .i64 o.m.kind).wf = true ∧ (Lit.int .i64 o.m.who).wf = true ∧ (Lit.int .i64 o.m.gen).wf = true ∧ (Lit.int .i64 o.m.seq).wf = true ∧ (Lit.int .i64 o.m.epoch).wf = true ∧ (Lit.int .i64 o.m.value).wf = true ∧ (Lit.int .i64 o.m.metric).wf = true
def OpvAt (w : World) (v : Value) (n : Nat) (f : Nat → Opv) : Prop :=
 (v = .slice none 0 0 ∧ n = 0) ∨ ∃ a cap, v = .slice (some a) n cap ∧ n ≤ cap ∧ cap ≤ maxLen ∧ ∀ i, i < n → (∀ j, j < 13 → w.cell? (a.add (i * 13 + j)) = (f i).list[j]?) ∧ BytesAt w (f i).sv (f i).s ∧ (f i).wf
section
variable {H : Type} {enc : TypeId × Value → H} {w : World} {base : Nat} {spare : Nat → Bool} {held : Bool}
theorem int_at {t : TypeId} {n : Nat} {c : Value} {x : DataW H × List MemPlace} (ht : Tryz.prog.underlying t = some (.int .i64)) (h : DataW.trod enc Tryz.prog w base spare held n t [c] = some x) : ∃ z, c = .int .i64 z ∧ (Lit.int .i64 z).wf = true := by
 obtain ⟨z, h3, _, hw⟩ := DataW.trod_int ht h
 simp at h3
 exact ⟨z, h3, hw⟩
theorem bytes_in {n : Nat} {c : Value} {x : DataW H × List MemPlace} (h : DataW.trod enc Tryz.prog w 0 (fun _ => true) true n 40 [c] = some x) : ∃ l : List UInt8, BytesAt w c l := by
 rcases open_ints Tryz.underlying40 Tryz.underlying5 (by kernel_rfl) h with ⟨hcs, _⟩ | ⟨a, len', cap', zs, hcs, _, hl, hm, hz, _, hcell, hwz⟩
 ·simp at hcs
  subst hcs
  exact ⟨[], .inl ⟨rfl, rfl⟩⟩
 ·simp at hcs
  subst hcs
  obtain ⟨l, hl1, hl2⟩ := bytes_of hl hm (by simpa using hz) hcell hwz
  exact ⟨l, hl2⟩
theorem msg_in {n : Nat} {c0 c1 c2 c3 c4 c5 c6 : Value} {x : DataW H × List MemPlace} (h : DataW.trod enc Tryz.prog w base spare held n 39 [c0, c1, c2, c3, c4, c5, c6] = some x) :
  ∃ m : Mg, [c0, c1, c2, c3, c4, c5, c6] = [.int .i64 m.kind, .int .i64 m.who, .int .i64 m.gen, .int .i64 m.seq, .int .i64 m.epoch, .int .i64 m.value, .int .i64 m.metric] ∧ (Lit.int .i64 m.kind).wf = true ∧ (Lit.int .i64 m.who).wf = true ∧ (Lit.int .i64 m.gen).wf = true ∧ (Lit.int .i64 m.seq).wf = true ∧ (Lit.int .i64 m.epoch).wf = true ∧ (Lit.int .i64 m.value).wf = true ∧ (Lit.int .i64 m.metric).wf = true := by
 obtain ⟨xs, n', _, _, _, hxl, hf⟩ := DataW.trod_struct Tryz.underlying39 h
 have k3 : Tryz.prog.cellsOf 3 = 1 := by kernel_rfl
 have k2 : Tryz.prog.cellsOf 2 = 1 := by kernel_rfl
 have g : ∀ i, i < 7 → ∃ y, xs[i]? = some y := fun i hi => ⟨_, List.getElem?_eq_getElem (by rw [hxl]; exact hi)⟩
 obtain ⟨y0, g0⟩ := g 0 (by decide); obtain ⟨y1, g1⟩ := g 1 (by decide); obtain ⟨y2, g2⟩ := g 2 (by decide); obtain ⟨y3, g3⟩ := g 3 (by decide); obtain ⟨y4, g4⟩ := g 4 (by decide); obtain ⟨y5, g5⟩ := g 5 (by decide); obtain ⟨y6, g6⟩ := g 6 (by decide)
 have h0 : DataW.trod enc Tryz.prog w base spare held n' 3 (([c0, c1, c2, c3, c4, c5, c6].drop 0).take (Tryz.prog.cellsOf 3)) = some y0 := (hf 0 _ rfl).trans g0
 rw [k3] at h0
 have h1 : DataW.trod enc Tryz.prog w base spare held n' 3 (([c0, c1, c2, c3, c4, c5, c6].drop 1).take (Tryz.prog.cellsOf 3)) = some y1 := (hf 1 _ rfl).trans g1
 rw [k3] at h1
 have h2 : DataW.trod enc Tryz.prog w base spare held n' 3 (([c0, c1, c2, c3, c4, c5, c6].drop 2).take (Tryz.prog.cellsOf 3)) = some y2 := (hf 2 _ rfl).trans g2
 rw [k3] at h2
 have h3 : DataW.trod enc Tryz.prog w base spare held n' 2 (([c0, c1, c2, c3, c4, c5, c6].drop 3).take (Tryz.prog.cellsOf 2)) = some y3 := (hf 3 _ rfl).trans g3
 rw [k2] at h3
 have h4 : DataW.trod enc Tryz.prog w base spare held n' 2 (([c0, c1, c2, c3, c4, c5, c6].drop 4).take (Tryz.prog.cellsOf 2)) = some y4 := (hf 4 _ rfl).trans g4
 rw [k2] at h4
 have h5 : DataW.trod enc Tryz.prog w base spare held n' 2 (([c0, c1, c2, c3, c4, c5, c6].drop 5).take (Tryz.prog.cellsOf 2)) = some y5 := (hf 5 _ rfl).trans g5
 rw [k2] at h5
 have h6 : DataW.trod enc Tryz.prog w base spare held n' 3 (([c0, c1, c2, c3, c4, c5, c6].drop 6).take (Tryz.prog.cellsOf 3)) = some y6 := (hf 6 _ rfl).trans g6
 rw [k3] at h6
 obtain ⟨z0, rfl, w0⟩ := int_at Tryz.underlying3 h0
 obtain ⟨z1, rfl, w1⟩ := int_at Tryz.underlying3 h1
 obtain ⟨z2, rfl, w2⟩ := int_at Tryz.underlying3 h2
 obtain ⟨z3, rfl, w3⟩ := int_at Tryz.underlying2 h3
 obtain ⟨z4, rfl, w4⟩ := int_at Tryz.underlying2 h4
 obtain ⟨z5, rfl, w5⟩ := int_at Tryz.underlying2 h5
 obtain ⟨z6, rfl, w6⟩ := int_at Tryz.underlying3 h6
 exact ⟨⟨z0, z1, z2, z3, z4, z5, z6⟩, rfl, w0, w1, w2, w3, w4, w5, w6⟩
theorem opv_in {n : Nat} {cs : List Value} {x : DataW H × List MemPlace} (h : DataW.trod enc Tryz.prog w 0 (fun _ => true) true n 42 cs = some x) : ∃ o : Opv, cs = o.list ∧ BytesAt w o.sv o.s ∧ o.wf := by
 obtain ⟨xs, n', _, _, hl, hxl, hf⟩ := DataW.trod_struct Tryz.underlying42 h
 have k3 : Tryz.prog.cellsOf 3 = 1 := by kernel_rfl
 have k2 : Tryz.prog.cellsOf 2 = 1 := by kernel_rfl
 have k7 : Tryz.prog.cellsOf 39 = 7 := by kernel_rfl
 have k1 : Tryz.prog.cellsOf 40 = 1 := by kernel_rfl
 have k13 : Tryz.prog.cellsOf 42 = 13 := by kernel_rfl
 rw [k13] at hl
 have g : ∀ i, i < 7 → ∃ y, xs[i]? = some y := fun i hi => ⟨_, List.getElem?_eq_getElem (by rw [hxl]; exact hi)⟩
 obtain ⟨y0, g0⟩ := g 0 (by decide); obtain ⟨y1, g1⟩ := g 1 (by decide); obtain ⟨y2, g2⟩ := g 2 (by decide); obtain ⟨y3, g3⟩ := g 3 (by decide); obtain ⟨y4, g4⟩ := g 4 (by decide); obtain ⟨y5, g5⟩ := g 5 (by decide); obtain ⟨y6, g6⟩ := g 6 (by decide)
 obtain ⟨c0, c1, c2, c3, c4, c5, c6, c7, c8, c9, c10, c11, c12, rfl⟩ : ∃ c0 c1 c2 c3 c4 c5 c6 c7 c8 c9 c10 c11 c12, cs = [c0, c1, c2, c3, c4, c5, c6, c7, c8, c9, c10, c11, c12] := by
  match cs, hl with
  | [c0, c1, c2, c3, c4, c5, c6, c7, c8, c9, c10, c11, c12], _ => exact ⟨c0, c1, c2, c3, c4, c5, c6, c7, c8, c9, c10, c11, c12, rfl⟩
 have h0 : DataW.trod enc Tryz.prog w 0 (fun _ => true) true n' 3 (([c0, c1, c2, c3, c4, c5, c6, c7, c8, c9, c10, c11, c12].drop 0).take (Tryz.prog.cellsOf 3)) = some y0 := (hf 0 _ rfl).trans g0
 rw [k3] at h0
 have h1 : DataW.trod enc Tryz.prog w 0 (fun _ => true) true n' 3 (([c0, c1, c2, c3, c4, c5, c6, c7, c8, c9, c10, c11, c12].drop 1).take (Tryz.prog.cellsOf 3)) = some y1 := (hf 1 _ rfl).trans g1
 rw [k3] at h1
 have h2 : DataW.trod enc Tryz.prog w 0 (fun _ => true) true n' 3 (([c0, c1, c2, c3, c4, c5, c6, c7, c8, c9, c10, c11, c12].drop 2).take (Tryz.prog.cellsOf 3)) = some y2 := (hf 2 _ rfl).trans g2
 rw [k3] at h2
 have h3 : DataW.trod enc Tryz.prog w 0 (fun _ => true) true n' 3 (([c0, c1, c2, c3, c4, c5, c6, c7, c8, c9, c10, c11, c12].drop 3).take (Tryz.prog.cellsOf 3)) = some y3 := (hf 3 _ rfl).trans g3
 rw [k3] at h3
 have h4 : DataW.trod enc Tryz.prog w 0 (fun _ => true) true n' 2 (([c0, c1, c2, c3, c4, c5, c6, c7, c8, c9, c10, c11, c12].drop 4).take (Tryz.prog.cellsOf 2)) = some y4 := (hf 4 _ rfl).trans g4
 rw [k2] at h4
 have h5 : DataW.trod enc Tryz.prog w 0 (fun _ => true) true n' 39 (([c0, c1, c2, c3, c4, c5, c6, c7, c8, c9, c10, c11, c12].drop 5).take (Tryz.prog.cellsOf 39)) = some y5 := (hf 5 _ rfl).trans g5
 rw [k7] at h5
 have h6 : DataW.trod enc Tryz.prog w 0 (fun _ => true) true n' 40 (([c0, c1, c2, c3, c4, c5, c6, c7, c8, c9, c10, c11, c12].drop 12).take (Tryz.prog.cellsOf 40)) = some y6 := (hf 6 _ rfl).trans g6
 rw [k1] at h6
 obtain ⟨z0, rfl, w0⟩ := int_at Tryz.underlying3 h0
 obtain ⟨z1, rfl, w1⟩ := int_at Tryz.underlying3 h1
 obtain ⟨z2, rfl, w2⟩ := int_at Tryz.underlying3 h2
 obtain ⟨z3, rfl, w3⟩ := int_at Tryz.underlying3 h3
 obtain ⟨z4, rfl, w4⟩ := int_at Tryz.underlying2 h4
 obtain ⟨m, em, wm⟩ := msg_in h5
 obtain ⟨l, hb⟩ := bytes_in h6
 simp only [List.cons.injEq, and_true] at em
 obtain ⟨rfl, rfl, rfl, rfl, rfl, rfl, rfl⟩ := em
 exact ⟨⟨z0, z1, z2, z3, z4, m, c12, l⟩, rfl, hb, w0, w1, w2, w3, w4, wm⟩
end
section
variable {H : Type} {enc : TypeId × Value → H} {w : World} {base : Nat} {d : DataW H} {ps : List MemPlace} {v : Value}
theorem open_opv (hval : Value.okWide Tryz.prog w .any base 23 v) (h : DataW.Trod enc Tryz.prog w 0 (fun _ => true) true 23 v d ps) : ∃ n f p c, v = .slice p n c ∧ OpvAt w v n f := by
 obtain ⟨a0, len, cap, rfl⟩ := okWide_slice Tryz.underlying23 hval
 obtain ⟨fuel, hfu⟩ := h
 have k13 : Tryz.prog.cellsOf 42 = 13 := by kernel_rfl
 rcases Go.Deep.open_slice Tryz.underlying23 hfu with ⟨hcs, _⟩ | ⟨a, len', cap', m, n, D, Pl, hcs, hb, hl, hm, hmm, hx, hi⟩
 ·simp [Value.cells] at hcs
  obtain ⟨rfl, rfl, rfl⟩ := hcs
  exact ⟨0, fun _ => ⟨0, 0, 0, 0, 0, zeroM, .slice none 0 0, []⟩, none, 0, rfl, .inl ⟨rfl, rfl⟩⟩
 ·simp [Value.cells] at hcs
  obtain ⟨rfl, rfl, rfl⟩ := hcs
  rw [if_pos rfl] at hmm
  subst hmm
  have each : ∀ i, ∃ o : Opv, i < len → (∀ j, j < 13 → w.cell? (a.add (i * 13 + j)) = o.list[j]?) ∧ BytesAt w o.sv o.s ∧ o.wf := by
   intro i
   by_cases hil : i < len
   ·obtain ⟨cs', hc, ht'⟩ := hi i (by omega)
    rw [k13] at hc
    obtain ⟨o, rfl, h1, h2⟩ := opv_in ht'
    obtain ⟨_, _, hat⟩ := World.cells?_some hc
    exact ⟨o, fun _ => ⟨fun j hj => by rw [← Go.Deep.add_add]; exact hat j hj, h1, h2⟩⟩
   ·exact ⟨⟨0, 0, 0, 0, 0, zeroM, .slice none 0 0, []⟩, fun h => absurd h hil⟩
  exact ⟨len, fun i => (each i).choose, some a, _, rfl, .inr ⟨a, _, rfl, hl, hm, fun i hi => (each i).choose_spec hi⟩⟩
end
theorem OpvAt.grown {w w' : World} {v : Value} {n : Nat} {f : Nat → Opv} (h : OpvAt w v n f) (hg : w.grownBy w' none) : OpvAt w' v n f := by
 rcases h with h | ⟨a, cap, rfl, h1, h2, h3⟩
 ·exact .inl h
 ·refine .inr ⟨a, cap, rfl, h1, h2, fun i hi => ?_⟩
  obtain ⟨k1, k2, k3⟩ := h3 i hi
  refine ⟨fun j hj => ?_, k2.grown hg (by simp), k3⟩
  have h0 := k1 j hj
  have hsome : ∃ x, (f i).list[j]? = some x := ⟨_, List.getElem?_eq_getElem (show j < (f i).list.length from hj)⟩
  obtain ⟨x, hx⟩ := hsome
  rw [hx] at h0 ⊢
  exact (chg_grown hg []).cell h0 (by simp)
theorem OpvAt.form {w : World} {v : Value} {n : Nat} {f : Nat → Opv} (h : OpvAt w v n f) : ∃ p c, v = .slice p n c ∧ n ≤ c ∧ c ≤ maxLen := by
 rcases h with ⟨rfl, rfl⟩ | ⟨a, cap, rfl, h1, h2, _⟩
 ·exact ⟨none, 0, rfl, Nat.zero_le _, Nat.zero_le _⟩
 ·exact ⟨some a, cap, rfl, h1, h2⟩
theorem OpvAt.cells {w : World} {p : Option Addr} {c n : Nat} {f : Nat → Opv} (h : OpvAt w (.slice p n c) n f) {i : Nat} (hi : i < n) :
  ∃ ab ao, p = some ⟨ab, ao, none⟩ ∧ ab < w.heap.size ∧ (∀ j, j < 13 → w.cell? ⟨ab, ao + (i * 13 + j), none⟩ = (f i).list[j]?) ∧ BytesAt w (f i).sv (f i).s ∧ (f i).wf := by
 rcases h with ⟨_, rfl⟩ | ⟨⟨ab, ao, asp⟩, cap, e, _, _, h3⟩
 ·omega
 ·cases e
  obtain ⟨h0, hb, hw⟩ := h3 i hi
  have h00 : w.cell? ((⟨ab, ao, asp⟩ : Addr).add (i * 13 + 0)) = some (.int .i64 (f i).k) := h0 0 (by decide)
  have hlt := cell_in h00
  have hbb : ((⟨ab, ao, asp⟩ : Addr).add (i * 13 + 0)).block = ab := by unfold Addr.add; split <;> rfl
  rw [hbb] at hlt
  obtain ⟨z0, _, _⟩ := h3 0 (by omega)
  have hz : w.cell? ((⟨ab, ao, asp⟩ : Addr).add (0 * 13 + 0)) = some (.int .i64 (f 0).k) := z0 0 (by decide)
  have hsp : asp = none := by simpa [Addr.add] using World.cell?_spot hz
  subst hsp
  refine ⟨ab, ao, rfl, hlt, fun j hj => ?_, hb, hw⟩
  have := h0 j hj
  unfold Addr.add at this
  split at this
  ·next h => rw [h]; simpa using this
  ·simpa using this
end Go.Proofs.YtgpdcapnnejdeaaGreat
end
