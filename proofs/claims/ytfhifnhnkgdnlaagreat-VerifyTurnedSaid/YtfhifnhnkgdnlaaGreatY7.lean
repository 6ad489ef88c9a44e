/-
  Contract: which key seals a message now, whatever the message: the model's answer. The condition: the gate lies there, the message may be sent, its collector is one of the gate's own.
  A collector as a model: its seed, who it is, its generation and last number; what it seals, and what that leaves; an object that holds them. No condition.
  Contracts for package seal. The condition of a call: the object lies there; or it is nil.
  Contract: what a gate's check tells, a walk for each answer, out of the contracts of what it calls. The condition: the gate lies there, the bytes read as bytes.
  Contract: a holder's turn: its window becomes the old one, a new one is there. The condition: the gate lies there.
  A number that came in, taken as one without a sign, modulo a small one. No condition. Nothing of the program is named here.
  A number that came in, taken as one without a sign, modulo a small one, as an integer. No condition. Nothing of the program is named here.
-/
import Derived.Test.YtfhifnhnkgdnlaaGreatJ0
import Derived.Test.YtfhifnhnkgdnlaaGreatY6
import Derived.Test.YtfhifnhnkgdnlaaGreatY1
import Derived.Test.YtfhifnhnkgdnlaaGreatY4
import Derived.StillTailTactics
import Derived.WalkSpells
import Derived.WalkLawsBesides
import Derived.Deep.RegionHeld3
import Derived.Test.YtfhifnhnkgdnlaaGreatY5
import Derived.WalkKit
section
set_option linter.unusedSimpArgs false
set_option linter.unusedVariables false
namespace Go.Proofs.YtfhifnhnkgdnlaaGreat
set_option maxRecDepth 100000
open Go.RowKit

/-- the block of the window that a message's number is of -/
def GBl.rp (B : GBl) (G : Gt) (m : Mg) : Nat := if sealedOf m = G.r.gen m.who.toNat then B.A m.who.toNat else B.O m.who.toNat
theorem gsealer_yes {F : List Nat} {B : GBl} {G : Gt} (m : Mg) (now : Int) (w : World) (K : GtAt w F B G) (hin : G.in m.who = true) (hM : mayOf m = true) (hm : G.may m now = true) :
    Calls Tryz.prog 56 #[.pointer (some ⟨B.g, 0, none⟩), mg m, .int .i64 now] w fun e w' => e = .returned (.tuple #[pair (G.key m).a (G.key m).b, .pointer (some ⟨B.rp G m, 0, none⟩), .int .i64 0]) ∧ w.grownBy w' none := by
  have h0 := of_decide_eq_true hin
  obtain ⟨_, _, hg, _⟩ := may_of hM
  obtain ⟨kind, who, gen, seq, epoch, value, metric⟩ := m
  obtain ⟨i, rfl⟩ := Int.eq_ofNat_of_zero_le h0.1
  have hi : i < G.r.n := by have := h0.2; simp at this; omega
  obtain ⟨m1, m2⟩ := of_decide_eq_true hm
  unfold Gt.key GBl.rp
  unfold sealedOf at m2 ⊢
  dsimp only [Int.toNat_natCast] at m1 m2 hg ⊢
  by_cases hk : kind = 2
  · subst hk
    rw [if_pos rfl] at m2 ⊢
    have hs := m1 rfl
    rw [if_pos hs]
    exact gsealer_rot i now w K hi hg.1 hg.2 m2 hs
  · rw [if_neg hk] at m2 ⊢
    by_cases hs : gen = G.r.gen i
    · rw [if_pos hs]; exact gsealer_now i now w K hi hg.1 hg.2 hk m2 hs
    · rw [if_neg hs]; exact gsealer_old i now w K hi hg.1 hg.2 hk m2 hs
theorem gsealer_none {F : List Nat} {B : GBl} {G : Gt} (m : Mg) (now : Int) (w : World) (K : GtAt w F B G) (hin : G.in m.who = true) (hM : mayOf m = true) (hm : G.may m now = false) :
    Calls Tryz.prog 56 #[.pointer (some ⟨B.g, 0, none⟩), mg m, .int .i64 now] w fun e w' => e = .returned (.tuple #[pair 0 0, .pointer none, .int .i64 4]) ∧ w.grownBy w' none := by
  have h0 := of_decide_eq_true hin
  obtain ⟨_, _, hg, _⟩ := may_of hM
  obtain ⟨kind, who, gen, seq, epoch, value, metric⟩ := m
  obtain ⟨i, rfl⟩ := Int.eq_ofNat_of_zero_le h0.1
  have hi : i < G.r.n := by have := h0.2; simp at this; omega
  have hn := of_decide_eq_false hm
  unfold sealedOf at hn
  dsimp only [Int.toNat_natCast] at hn hg
  by_cases hk : kind = 2
  · subst hk
    rw [if_pos rfl] at hn
    by_cases hs : gen - 1 = G.r.gen i
    · exact gsealer_rno i now w K hi hg.1 hg.2 (fun h => hn ⟨fun _ => hs, h⟩) hs
    · exact gsealer_rgen i now w K hi hg.1 hg.2 hs
  · rw [if_neg hk] at hn
    exact gsealer_no i now w K hi hg.1 hg.2 hk (fun h => hn ⟨fun e => absurd e hk, h⟩)
end Go.Proofs.YtfhifnhnkgdnlaaGreat
end
section
set_option linter.unusedSimpArgs false
set_option linter.unusedVariables false
namespace Go.Proofs.YtfhifnhnkgdnlaaGreat
set_option maxRecDepth 100000
open Go.RowKit

/-- a collector -/
structure Sl where
  seed : BitVec 64
  who : Int
  gen : Int
  seq : Int
structure Sl.Ok (s : Sl) : Prop where
  w0 : 0 ≤ s.who
  w1 : s.who ≤ 15
  g0 : 0 ≤ s.gen
  g1 : s.gen ≤ 60000
  q0 : 0 ≤ s.seq
  q1 : s.seq ≤ 1099511627776
def Sl.new (seed : BitVec 64) (who : Int) : Sl := ⟨seed, who, 0, 0⟩
theorem sl_new_ok (seed : BitVec 64) {who : Int} (h0 : 0 ≤ who) (h1 : who ≤ 15) : (Sl.new seed who).Ok := ⟨h0, h1, Int.le_refl _, by show (0 : Int) ≤ _; decide, Int.le_refl _, by show (0 : Int) ≤ _; decide⟩
/-- the key that it seals by -/
def Sl.k (s : Sl) : Two64 := ofOf s.seed s.who s.gen
/-- a message of its own, with the next number -/
def Sl.msg (s : Sl) (m : Mg) : Mg := ⟨m.kind, s.who, m.gen, s.seq + 1, m.epoch, m.value, m.metric⟩
def Sl.out (s : Sl) (m : Mg) : List UInt8 := sealB s.k.a s.k.b (s.msg m)
def Sl.code (s : Sl) (m : Mg) : Int := putC (s.msg m)
def Sl.step (s : Sl) (m : Mg) : Sl := if mayOf (s.msg m) = true then ⟨s.seed, s.who, s.gen, s.seq + 1⟩ else s
def Sl.samp (s : Sl) (metric epoch value : Int) : Mg := ⟨1, 0, s.gen, 0, epoch, value, metric⟩
def Sl.rota (s : Sl) (epoch : Int) : Mg := ⟨2, 0, s.gen + 1, 0, epoch, 0, 0⟩
def Sl.turn (s : Sl) (epoch : Int) : Sl := if mayOf (s.msg (s.rota epoch)) = true then ⟨s.seed, s.who, s.gen + 1, 0⟩ else s
theorem Sl.Ok.step {s : Sl} (h : s.Ok) (m : Mg) : (s.step m).Ok := by
  unfold Sl.step
  split
  · next hm =>
    obtain ⟨_, _, _, hq, _⟩ := may_of hm
    have q := hq.2
    exact ⟨h.w0, h.w1, h.g0, h.g1, by show (0 : Int) ≤ s.seq + 1; have := h.q0; omega, q⟩
  · exact h
theorem Sl.Ok.turn {s : Sl} (h : s.Ok) (epoch : Int) : (s.turn epoch).Ok := by
  unfold Sl.turn
  split
  · next hm =>
    obtain ⟨_, _, hg, _⟩ := may_of hm
    have q := hg.2
    exact ⟨h.w0, h.w1, by show (0 : Int) ≤ s.gen + 1; have := h.g0; omega, q, Int.le_refl _, by show (0 : Int) ≤ _; decide⟩
  · exact h

/-- an object of type t that holds a collector -/
structure SlAt (t : TypeId) (w : World) (b : Nat) (s : Sl) : Prop where
  top : w.heap[b]? = some (.cells #[.int .u64 (q s.seed), .int .i64 s.who, .int .i64 s.gen, .int .i64 s.seq] t)
  ok : s.Ok
section
variable {t : TypeId} {w w' : World} {F : List Nat} {b : Nat} {s : Sl}
theorem SlAt.chg (H : SlAt t w b s) (hc : Chg F w w') (hb : b ∉ F) : SlAt t w' b s := ⟨hc.at H.top hb, H.ok⟩
theorem SlAt.grown (H : SlAt t w b s) (hg : w.grownBy w' none) : SlAt t w' b s := H.chg (chg_grown hg []) (by simp)
theorem SlAt.drew (H : SlAt t w b s) : SlAt t w.drew b s := ⟨H.top, H.ok⟩
theorem SlAt.lt (H : SlAt t w b s) : b < w.heap.size := at_lt H.top
theorem SlAt.cells (H : SlAt t w b s) : w.cell? ⟨b, 0, none⟩ = some (.int .u64 (q s.seed)) ∧ w.cell? ⟨b, 1, none⟩ = some (.int .i64 s.who) ∧ w.cell? ⟨b, 2, none⟩ = some (.int .i64 s.gen) ∧ w.cell? ⟨b, 3, none⟩ = some (.int .i64 s.seq) ∧ w.frozen? ⟨b, 2, none⟩ = false ∧ w.frozen? ⟨b, 3, none⟩ = false :=
  ⟨at_cell H.top 0, at_cell H.top 1, at_cell H.top 2, at_cell H.top 3, at_free H.top _, at_free H.top _⟩
theorem SlAt.putSeq (H : SlAt t w b s) {n : Int} (h0 : 0 ≤ n) (h1 : n ≤ 1099511627776) : SlAt t (w.setCell ⟨b, 3, none⟩ (.int .i64 n)) b ⟨s.seed, s.who, s.gen, n⟩ :=
  ⟨by have := at_set H.top 3 (.int .i64 n); exact this, ⟨H.ok.w0, H.ok.w1, H.ok.g0, H.ok.g1, h0, h1⟩⟩
end
theorem OwnB.chg {base : Nat} {w w1 : World} {v : Value} {l : List UInt8} {F : List Nat} (h : OwnB base w v l) (hc : Chg F w w1) (hF : ∀ x ∈ F, x < base) : OwnB base w1 v l := by
  obtain ⟨h0, h | ⟨g, cap, cur, rfl, hb, hh, h1⟩⟩ := h
  · exact ⟨h0, .inl h⟩
  · exact ⟨h0, .inr ⟨g, cap, cur, rfl, hb, hc.at hh (fun hm => by have := hF _ hm; omega), h1⟩⟩

/-- what a call of the program's leaves: an envelope of the call's own, its code; the object, and nothing else changed -/
def LeavesS (w : World) (b : Nat) (l : List UInt8) (c : Int) (s : Sl) (e : Ending) (w' : World) : Prop :=
  ∃ v, e = .returned (.tuple #[v, .int .i64 c]) ∧ OwnB w.heap.size w' v l ∧ SlAt 145 w' b s ∧ Chg [b] w w'
end Go.Proofs.YtfhifnhnkgdnlaaGreat
end
section
set_option linter.unusedSimpArgs false
set_option linter.unusedVariables false
namespace Go.Proofs.YtfhifnhnkgdnlaaGreat
set_option maxRecDepth 100000
open Go.RowKit

theorem grow_of {f : FuncId} {args : Array Value} {w : World} {v : Value} (h : Calls Tryz.prog f args w fun e w' => e = .returned v ∧ w = w') : Calls Tryz.prog f args w fun e w' => e = .returned v ∧ w.grownBy w' none := h.mono fun _ _ ⟨h1, h2⟩ => ⟨h1, h2 ▸ .refl w none⟩

/-- a walk's own: the object, and the message in a block of the call's own -/
structure KS (t : TypeId) (w : World) (g b : Nat) (s : Sl) (m : Mg) (W : World) : Prop where
  ob : SlAt t W b s
  box : W.heap[g]? = some (.cells m.cells 39)
  gr : w.grownBy W none
  lt : b < w.heap.size
  lo : w.heap.size ≤ g
section
variable {t : TypeId} {w W W1 : World} {g b : Nat} {s : Sl} {m : Mg}
theorem KS.grown (h : KS t w g b s m W) (hg : W.grownBy W1 none) : KS t w g b s m W1 := ⟨h.ob.grown hg, at_grown h.box hg (by simp), gb_trans h.gr hg (.inl rfl), h.lt, h.lo⟩
theorem KS.drew (h : KS t w g b s m W) : KS t w g b s m W.drew := ⟨h.ob.drew, h.box, gb_drew h.gr, h.lt, h.lo⟩
theorem SlAt.keep (H : SlAt t W b s) : W.cell? ⟨b, 1, none⟩ = some (.int .i64 s.who) ∧ W.cell? ⟨b, 3, none⟩ = some (.int .i64 s.seq) ∧ SlAt t W b s := ⟨H.cells.2.1, H.cells.2.2.2.1, H⟩
theorem SlAt.other (H : SlAt t W b s) {i : Nat} (v : Value) (hn : b ≠ g) : SlAt t (W.setCell ⟨g, i, none⟩ v) b s := ⟨at_set_other H.top hn v, H.ok⟩
theorem KS.ne (h : KS t w g b s m W) : b ≠ g := by have := h.lt; have := h.lo; omega
theorem ks_new (m : Mg) (H : SlAt t w b s) : KS t w w.heap.size b s m (w.alloc (.cells m.cells 39)) := ⟨H.grown (World.grownBy_alloc _ _ _), at_new w _, gb_alloc (.refl w none) _, H.lt, Nat.le_refl _⟩
theorem KS.put (h : KS t w g b s m W) : KS t w g b s (s.msg m) ((W.setCell ⟨g, 1, none⟩ (.int .i64 s.who)).setCell ⟨g, 3, none⟩ (.int .i64 (s.seq + 1))) :=
  ⟨⟨at_set_other (at_set_other h.ob.top (by have := h.lt; have := h.lo; simp; omega) _) (by have := h.lt; have := h.lo; simp; omega) _, h.ob.ok⟩,
   by have := at_set (at_set h.box 1 (.int .i64 s.who)) 3 (.int .i64 (s.seq + 1)); exact this, gb_new (gb_new h.gr h.lo _) h.lo _, h.lt, h.lo⟩
theorem KS.own (h : KS t w g b s m W) : W.cell? ⟨g, 1, none⟩ = some (.int .i64 m.who) ∧ W.cell? ⟨g, 3, none⟩ = some (.int .i64 m.seq) ∧ W.frozen? ⟨g, 1, none⟩ = false ∧ W.frozen? ⟨g, 3, none⟩ = false := ⟨at_cell h.box 1, at_cell h.box 3, at_free h.box 1, at_free h.box 3⟩
end


/-- a new one -/
def MadeS (w : World) (s : Sl) (e : Ending) (w' : World) : Prop := ∃ b, e = .returned (.pointer (some ⟨b, 0, none⟩)) ∧ SlAt 145 w' b s ∧ w.grownBy w' none ∧ w.heap.size ≤ b
set_option maxHeartbeats 1600000 in
theorem snew_ok (seed : BitVec 64) (who : Int) (h0 : 0 ≤ who) (h1 : who ≤ 15) (w : World) :
    Calls Tryz.prog 30 #[.int .u64 (q seed), .int .i64 who] w (MadeS w (.new seed who)) := by
  have L : Hid (SlAt 145 (w.alloc (.cells #[.int .u64 (q seed), .int .i64 who, .int .i64 0, .int .i64 0] 145)) w.heap.size (.new seed who)) := hid ⟨at_new w _, sl_new_ok seed h0 h1⟩
  have d0 : decide (who < 0) = false := by simp; omega
  have d1 : decide (16 ≤ who) = false := by simp; omega
  have d2 : decide (15 < who) = false := by simp; omega
  clear h0 h1
  go_enter Tryz.func30, Tryz.ntmps30
  go_wp2_with fail
  go_ret
  exact ⟨_, rfl, L.out, gb_alloc (.refl w none) _, Nat.le_refl _⟩
theorem sgen_any {b : Nat} {s : Sl} (w : World) (H : SlAt 145 w b s) :
    Calls Tryz.prog 76 #[.pointer (some ⟨b, 0, none⟩)] w fun e w' => e = .returned (.int .i64 s.gen) ∧ w = w' := by
  obtain ⟨c0, c1, c2, c3, f2, f3⟩ := H.cells
  clear H
  go_enter Tryz.func76, Tryz.ntmps76
  go_wp2_with fail
  refine (load_i64 _ s.gen _ c2).mono ?_
  rintro e w1 ⟨rfl, rfl⟩
  go_wp2_with fail
  go_ret
  exact ⟨rfl, rfl⟩
theorem sseq_any {b : Nat} {s : Sl} (w : World) (H : SlAt 145 w b s) :
    Calls Tryz.prog 110 #[.pointer (some ⟨b, 0, none⟩)] w fun e w' => e = .returned (.int .i64 s.seq) ∧ w = w' := by
  obtain ⟨c0, c1, c2, c3, f2, f3⟩ := H.cells
  clear H
  go_enter Tryz.func110, Tryz.ntmps110
  go_wp2_with fail
  refine (load_i64 _ s.seq _ c3).mono ?_
  rintro e w1 ⟨rfl, rfl⟩
  go_wp2_with fail
  go_ret
  exact ⟨rfl, rfl⟩
set_option maxHeartbeats 3200000 in
theorem seal_yes {b : Nat} {s : Sl} (m : Mg) (hm : mayOf (s.msg m) = true) (w : World) (H : SlAt 145 w b s) :
    Calls Tryz.prog 75 #[.pointer (some ⟨b, 0, none⟩), mg m] w (LeavesS w b (sealOf s.k.a s.k.b (s.msg m)) 0 ⟨s.seed, s.who, s.gen, s.seq + 1⟩) := by
  have E : Hid (∀ w, Calls Tryz.prog 34 #[.int .u64 (q s.seed), .int .i64 s.who, .int .i64 s.gen] w fun e w' => e = .returned (pair s.k.a s.k.b) ∧ w.grownBy w' none) := hid (fun w => of_any s.seed s.who s.gen w)
  have S := hid (fun w => seal_good s.k.a s.k.b (s.msg m) hm w)
  have K := hid (ks_new m H)
  have L : Hid (∀ W v, OwnB w.heap.size W v (sealOf s.k.a s.k.b (s.msg m)) → KS 145 w w.heap.size b s (s.msg m) W → LeavesS w b (sealOf s.k.a s.k.b (s.msg m)) 0 ⟨s.seed, s.who, s.gen, s.seq + 1⟩ (.returned (.tuple #[v, .int .i64 0])) (W.setCell ⟨b, 3, none⟩ (.int .i64 (s.seq + 1)))) := hid (fun W v ho hk => ⟨v, rfl, ho.chg ((chg_refl W [b]).set (.inl (by simp)) _) (fun x hx => by rcases List.mem_singleton.1 hx with rfl; exact hk.lt), (hk.ob.putSeq (by have := hk.ob.ok.q0; omega) (may_of hm).2.2.2.1.2), (chg_grown hk.gr [b]).set (.inl (by simp)) _⟩)
  have U := hid (fun W (h : KS 145 w w.heap.size b s m W) => h.put)
  have q0 := H.ok.q0; have q1 := H.ok.q1
  have s1 : IntKind.i64.wrap (s.seq + 1) = s.seq + 1 := IntWalk.i64_in _ (by omega)
  clear q0 q1 hm H
  obtain ⟨mm, hmm⟩ : ∃ mm, s.msg m = mm := ⟨_, rfl⟩
  rw [hmm] at L S U ⊢
  obtain ⟨ll, hll⟩ : ∃ ll, sealOf s.k.a s.k.b mm = ll := ⟨_, rfl⟩
  rw [hll] at S L ⊢
  clear hll
  clear hmm
  generalize s.k.a = ka at *
  generalize s.k.b = kb at *
  go_enter Tryz.func75, Tryz.ntmps75
  go_wp2_with fail
  refine wp_gen (fun wx => KS 145 w w.heap.size b s m wx) K.out ?_
  clear K
  intro wx kx
  obtain ⟨c0, c1, c2, c3, f2, f3⟩ := kx.ob.cells
  obtain ⟨o1, o3, g1, g3⟩ := kx.own
  have KX := hid kx; clear kx
  have KU := hid (U.out _ KX.out.drew)
  have NE := hid KX.out.ne
  have hh := KX.out.ob.drew.keep
  go_region_held3 (fun w' => w'.cell? ⟨b, 1, none⟩ = some (.int .i64 s.who) ∧ w'.cell? ⟨b, 3, none⟩ = some (.int .i64 s.seq) ∧ SlAt 145 w' b s) ((refine SlAt.keep ?_; (repeat (first | assumption | with_reducible exact KX.out.ob | with_reducible refine SlAt.drew ?_ | with_reducible refine SlAt.other ?_ _ NE.out)))) (first | (go_at_call 110; (with_reducible refine (sseq_any _ (by first | assumption | exact KX.out.ob | exact KX.out.ob.drew)).mono ?_); rintro e wa ⟨rfl, rfl⟩))
  clear hh NE
  go_wp2_with fail
  clear c0 c1 c2 c3 f2 f3 o1 o3 g1 g3
  refine wp_gen (fun wy => KS 145 w w.heap.size b s mm wy) (by first | exact KU.out | exact KU.out.drew) ?_
  clear KU KX U
  intro wy ky
  have KY := hid ky; clear ky
  refine wp_region_held_drew (S := (fun w' => (KS 145 w w.heap.size b s mm w'))) (by kernel_rfl) KY.out.drew (fun hHeld => ?_)
  try dsimp only at hHeld
  refine' jT 0 rfl (by rfl) ?_ hHeld ?_
  rotate_left
  · (intro w hSw; (try dsimp only at hSw); go_simp; try with_reducible rfl)
  try simp only [Act.put, jA, jB, jC, jD, jE, jF]
  refine' jT 1 rfl (by rfl) ?_ hHeld ?_
  rotate_left
  · (intro w hSw; (try dsimp only at hSw); go_simp; try with_reducible rfl)
  try simp only [Act.put, jA, jB, jC, jD, jE, jF]
  refine' jT 2 rfl (by rfl) ?_ hHeld ?_
  rotate_left
  · (intro w hSw; (try dsimp only at hSw); go_simp; try with_reducible rfl)
  try simp only [Act.put, jA, jB, jC, jD, jE, jF]
  refine' jT 3 rfl (by rfl) ?_ hHeld ?_
  rotate_left
  · (intro w hSw; (try dsimp only at hSw); have kk := hSw; obtain ⟨c0, c1, c2, c3, f2, f3⟩ := kk.ob.cells; go_simp; try with_reducible rfl)
  try simp only [Act.put, jA, jB, jC, jD, jE, jF]
  refine' jT 4 rfl (by rfl) ?_ hHeld ?_
  rotate_left
  · (intro w hSw; (try dsimp only at hSw); go_simp; try with_reducible rfl)
  try simp only [Act.put, jA, jB, jC, jD, jE, jF]
  refine' jT 5 rfl (by rfl) ?_ hHeld ?_
  rotate_left
  · (intro w hSw; (try dsimp only at hSw); go_simp; try with_reducible rfl)
  try simp only [Act.put, jA, jB, jC, jD, jE, jF]
  refine' jT 6 rfl (by rfl) ?_ hHeld ?_
  rotate_left
  · (intro w hSw; (try dsimp only at hSw); go_simp; try with_reducible rfl)
  try simp only [Act.put, jA, jB, jC, jD, jE, jF]
  refine' jT 7 rfl (by rfl) ?_ hHeld ?_
  rotate_left
  · (intro w hSw; (try dsimp only at hSw); have kk := hSw; obtain ⟨c0, c1, c2, c3, f2, f3⟩ := kk.ob.cells; go_simp; try with_reducible rfl)
  try simp only [Act.put, jA, jB, jC, jD, jE, jF]
  refine' jT 8 rfl (by rfl) ?_ hHeld ?_
  rotate_left
  · (intro w hSw; (try dsimp only at hSw); go_simp; try with_reducible rfl)
  try simp only [Act.put, jA, jB, jC, jD, jE, jF]
  refine' jT 11 rfl (by rfl) ?_ hHeld ?_
  rotate_left
  · (intro w hSw; (try dsimp only at hSw); (try simp only [jD, jE, jF]); refine exec_row (x := .tmp 3) hSw.box Tryz.underlying39 rfl (by kernel_rfl) ?_ ?_ <;> rfl)
  try simp only [Act.put, jA, jB, jC, jD, jE, jF]
  refine jR [9] ?_
  refine jG rfl (fun K hK => ?_) AllReadyH.nil
  try simp only [jD, jE, jF]
  go_simp
  have hH2 := hHeld
  have kk := hH2
  refine (grow_of (sgen_any _ kk.ob)).mono ?_
  rintro e w1009 ⟨rfl, hg⟩
  have L9 := hid (show (KS 145 w w.heap.size b s mm w1009) from kk.grown hg)
  clear hHeld hg kk
  go_wp2_with fail
  refine hK.out _ _ ?_ (fun hHeld => ?_)
  · exact L9.out
  clear hK K
  try dsimp only at hHeld
  try simp only [Act.put, jA, jB, jC, jD, jE, jF]
  refine jR [10] ?_
  refine jG rfl (fun K hK => ?_) AllReadyH.nil
  try simp only [jD, jE, jF]
  go_simp
  have hH2 := hHeld
  have kk := hH2
  refine (E.out _).mono ?_
  rintro e w1010 ⟨rfl, hg⟩
  have L10 := hid (show (KS 145 w w.heap.size b s mm w1010) from kk.grown hg)
  clear hHeld hg kk
  go_wp2_with fail
  refine hK.out _ _ ?_ (fun hHeld => ?_)
  · exact L10.out
  clear hK K
  try dsimp only at hHeld
  try simp only [Act.put, jA, jB, jC, jD, jE, jF]
  refine jR [12] ?_
  refine jG rfl (fun K hK => ?_) AllReadyH.nil
  try simp only [jD, jE, jF]
  go_simp
  have hH2 := hHeld
  have kk := hH2
  refine (S.out _).mono ?_
  rintro e w1012 ⟨v, rfl, ho, hg⟩
  have L12 := hid (show (KS 145 w w.heap.size b s mm w1012) from kk.grown hg)
  have Nov := hid (show OwnB w.heap.size w1012 v ll from (ho.le (gb_size kk.gr)))
  clear hHeld hg kk
  go_wp2_with fail
  refine hK.out _ _ ?_ (fun hHeld => ?_)
  · exact L12.out
  clear hK K
  try dsimp only at hHeld
  try simp only [Act.put, jA, jB, jC, jD, jE, jF]
  refine held_stronger (S' := fun w' => (fun w' => OwnB w.heap.size w' v ll) w' ∧ ((fun w' => (KS 145 w w.heap.size b s mm w'))) w') (fun _ h => h.2) _ _ _ _ ?_
  replace hHeld := And.intro Nov.out hHeld
  try dsimp only at hHeld
  refine' jT 13 rfl (by rfl) ?_ hHeld ?_
  rotate_left
  · (intro w hSw; (try dsimp only at hSw); go_simp; try with_reducible rfl)
  try simp only [Act.put, jA, jB, jC, jD, jE, jF]
  refine' jT 14 rfl (by rfl) ?_ hHeld ?_
  rotate_left
  · (intro w hSw; (try dsimp only at hSw); go_simp; try with_reducible rfl)
  try simp only [Act.put, jA, jB, jC, jD, jE, jF]
  refine' jT 15 rfl (by rfl) ?_ hHeld ?_
  rotate_left
  · (intro w hSw; (try dsimp only at hSw); go_simp; try with_reducible rfl)
  try simp only [Act.put, jA, jB, jC, jD, jE, jF]
  refine' jT 16 rfl (by rfl) ?_ hHeld ?_
  rotate_left
  · (intro w hSw; (try dsimp only at hSw); go_simp; try with_reducible rfl)
  try simp only [Act.put, jA, jB, jC, jD, jE, jF]
  refine' jT 17 rfl (by rfl) ?_ hHeld ?_
  rotate_left
  · (intro w hSw; (try dsimp only at hSw); go_simp; try with_reducible rfl)
  try simp only [Act.put, jA, jB, jC, jD, jE, jF]
  refine wpAnyH_done (by kernel_rfl) ?_ _
  obtain ⟨ov, kk⟩ := hHeld
  obtain ⟨c0, c1, c2, c3, f2, f3⟩ := kk.ob.cells
  have KZ := hid kk; clear kk
  have OV := hid ov; clear ov
  go_wp2_with fail
  refine (addn_i64 _ s.seq 1 (s.seq + 1) _ c3 f3 s1).mono ?_
  rintro e w9 ⟨rfl, rfl⟩
  go_wp2_with fail
  go_ret2
  exact L.out _ _ OV.out KZ.out

set_option maxHeartbeats 3200000 in
theorem seal_no {b : Nat} {s : Sl} (m : Mg) (hm : mayOf (s.msg m) = false) (w : World) (H : SlAt 145 w b s) :
    Calls Tryz.prog 75 #[.pointer (some ⟨b, 0, none⟩), mg m] w (LeavesS w b [] 1 s) := by
  have E : Hid (∀ w, Calls Tryz.prog 34 #[.int .u64 (q s.seed), .int .i64 s.who, .int .i64 s.gen] w fun e w' => e = .returned (pair s.k.a s.k.b) ∧ w.grownBy w' none) := hid (fun w => of_any s.seed s.who s.gen w)
  have S := hid (fun w => seal_bad s.k.a s.k.b (s.msg m) hm w)
  have K := hid (ks_new m H)
  have L : Hid (∀ W, KS 145 w w.heap.size b s (s.msg m) W → LeavesS w b [] 1 s (.returned (.tuple #[.slice none 0 0, .int .i64 1])) W) := hid (fun W hk => ⟨_, rfl, OwnB.nil _ _, hk.ob, chg_grown hk.gr [b]⟩)
  have U := hid (fun W (h : KS 145 w w.heap.size b s m W) => h.put)
  have q0 := H.ok.q0; have q1 := H.ok.q1
  have s1 : IntKind.i64.wrap (s.seq + 1) = s.seq + 1 := IntWalk.i64_in _ (by omega)
  clear q0 q1 hm H
  obtain ⟨mm, hmm⟩ : ∃ mm, s.msg m = mm := ⟨_, rfl⟩
  rw [hmm] at L S U
  clear hmm
  generalize s.k.a = ka at *
  generalize s.k.b = kb at *
  go_enter Tryz.func75, Tryz.ntmps75
  go_wp2_with fail
  refine wp_gen (fun wx => KS 145 w w.heap.size b s m wx) K.out ?_
  clear K
  intro wx kx
  obtain ⟨c0, c1, c2, c3, f2, f3⟩ := kx.ob.cells
  obtain ⟨o1, o3, g1, g3⟩ := kx.own
  have KX := hid kx; clear kx
  have KU := hid (U.out _ KX.out.drew)
  have NE := hid KX.out.ne
  have hh := KX.out.ob.drew.keep
  go_region_held3 (fun w' => w'.cell? ⟨b, 1, none⟩ = some (.int .i64 s.who) ∧ w'.cell? ⟨b, 3, none⟩ = some (.int .i64 s.seq) ∧ SlAt 145 w' b s) ((refine SlAt.keep ?_; (repeat (first | assumption | with_reducible exact KX.out.ob | with_reducible refine SlAt.drew ?_ | with_reducible refine SlAt.other ?_ _ NE.out)))) (first | (go_at_call 110; (with_reducible refine (sseq_any _ (by first | assumption | exact KX.out.ob | exact KX.out.ob.drew)).mono ?_); rintro e wa ⟨rfl, rfl⟩))
  clear hh NE
  go_wp2_with fail
  clear c0 c1 c2 c3 f2 f3 o1 o3 g1 g3
  refine wp_gen (fun wy => KS 145 w w.heap.size b s mm wy) (by first | exact KU.out | exact KU.out.drew) ?_
  clear KU KX U
  intro wy ky
  have KY := hid ky; clear ky
  refine wp_region_held_drew (S := (fun w' => (KS 145 w w.heap.size b s mm w'))) (by kernel_rfl) KY.out.drew (fun hHeld => ?_)
  try dsimp only at hHeld
  refine' jT 0 rfl (by rfl) ?_ hHeld ?_
  rotate_left
  · (intro w hSw; (try dsimp only at hSw); go_simp; try with_reducible rfl)
  try simp only [Act.put, jA, jB, jC, jD, jE, jF]
  refine' jT 1 rfl (by rfl) ?_ hHeld ?_
  rotate_left
  · (intro w hSw; (try dsimp only at hSw); go_simp; try with_reducible rfl)
  try simp only [Act.put, jA, jB, jC, jD, jE, jF]
  refine' jT 2 rfl (by rfl) ?_ hHeld ?_
  rotate_left
  · (intro w hSw; (try dsimp only at hSw); go_simp; try with_reducible rfl)
  try simp only [Act.put, jA, jB, jC, jD, jE, jF]
  refine' jT 3 rfl (by rfl) ?_ hHeld ?_
  rotate_left
  · (intro w hSw; (try dsimp only at hSw); have kk := hSw; obtain ⟨c0, c1, c2, c3, f2, f3⟩ := kk.ob.cells; go_simp; try with_reducible rfl)
  try simp only [Act.put, jA, jB, jC, jD, jE, jF]
  refine' jT 4 rfl (by rfl) ?_ hHeld ?_
  rotate_left
  · (intro w hSw; (try dsimp only at hSw); go_simp; try with_reducible rfl)
  try simp only [Act.put, jA, jB, jC, jD, jE, jF]
  refine' jT 5 rfl (by rfl) ?_ hHeld ?_
  rotate_left
  · (intro w hSw; (try dsimp only at hSw); go_simp; try with_reducible rfl)
  try simp only [Act.put, jA, jB, jC, jD, jE, jF]
  refine' jT 6 rfl (by rfl) ?_ hHeld ?_
  rotate_left
  · (intro w hSw; (try dsimp only at hSw); go_simp; try with_reducible rfl)
  try simp only [Act.put, jA, jB, jC, jD, jE, jF]
  refine' jT 7 rfl (by rfl) ?_ hHeld ?_
  rotate_left
  · (intro w hSw; (try dsimp only at hSw); have kk := hSw; obtain ⟨c0, c1, c2, c3, f2, f3⟩ := kk.ob.cells; go_simp; try with_reducible rfl)
  try simp only [Act.put, jA, jB, jC, jD, jE, jF]
  refine' jT 8 rfl (by rfl) ?_ hHeld ?_
  rotate_left
  · (intro w hSw; (try dsimp only at hSw); go_simp; try with_reducible rfl)
  try simp only [Act.put, jA, jB, jC, jD, jE, jF]
  refine' jT 11 rfl (by rfl) ?_ hHeld ?_
  rotate_left
  · (intro w hSw; (try dsimp only at hSw); (try simp only [jD, jE, jF]); refine exec_row (x := .tmp 3) hSw.box Tryz.underlying39 rfl (by kernel_rfl) ?_ ?_ <;> rfl)
  try simp only [Act.put, jA, jB, jC, jD, jE, jF]
  refine jR [9] ?_
  refine jG rfl (fun K hK => ?_) AllReadyH.nil
  try simp only [jD, jE, jF]
  go_simp
  have hH2 := hHeld
  have kk := hH2
  refine (grow_of (sgen_any _ kk.ob)).mono ?_
  rintro e w1009 ⟨rfl, hg⟩
  have L9 := hid (show (KS 145 w w.heap.size b s mm w1009) from kk.grown hg)
  clear hHeld hg kk
  go_wp2_with fail
  refine hK.out _ _ ?_ (fun hHeld => ?_)
  · exact L9.out
  clear hK K
  try dsimp only at hHeld
  try simp only [Act.put, jA, jB, jC, jD, jE, jF]
  refine jR [10] ?_
  refine jG rfl (fun K hK => ?_) AllReadyH.nil
  try simp only [jD, jE, jF]
  go_simp
  have hH2 := hHeld
  have kk := hH2
  refine (E.out _).mono ?_
  rintro e w1010 ⟨rfl, hg⟩
  have L10 := hid (show (KS 145 w w.heap.size b s mm w1010) from kk.grown hg)
  clear hHeld hg kk
  go_wp2_with fail
  refine hK.out _ _ ?_ (fun hHeld => ?_)
  · exact L10.out
  clear hK K
  try dsimp only at hHeld
  try simp only [Act.put, jA, jB, jC, jD, jE, jF]
  refine jR [12] ?_
  refine jG rfl (fun K hK => ?_) AllReadyH.nil
  try simp only [jD, jE, jF]
  go_simp
  have hH2 := hHeld
  have kk := hH2
  refine (S.out _).mono ?_
  rintro e w1012 ⟨rfl, hg⟩
  have L12 := hid (show (KS 145 w w.heap.size b s mm w1012) from kk.grown hg)
  clear hHeld hg kk
  go_wp2_with fail
  refine hK.out _ _ ?_ (fun hHeld => ?_)
  · exact L12.out
  clear hK K
  try dsimp only at hHeld
  try simp only [Act.put, jA, jB, jC, jD, jE, jF]
  refine' jT 13 rfl (by rfl) ?_ hHeld ?_
  rotate_left
  · (intro w hSw; (try dsimp only at hSw); go_simp; try with_reducible rfl)
  try simp only [Act.put, jA, jB, jC, jD, jE, jF]
  refine' jT 14 rfl (by rfl) ?_ hHeld ?_
  rotate_left
  · (intro w hSw; (try dsimp only at hSw); go_simp; try with_reducible rfl)
  try simp only [Act.put, jA, jB, jC, jD, jE, jF]
  refine' jT 15 rfl (by rfl) ?_ hHeld ?_
  rotate_left
  · (intro w hSw; (try dsimp only at hSw); go_simp; try with_reducible rfl)
  try simp only [Act.put, jA, jB, jC, jD, jE, jF]
  refine' jT 16 rfl (by rfl) ?_ hHeld ?_
  rotate_left
  · (intro w hSw; (try dsimp only at hSw); go_simp; try with_reducible rfl)
  try simp only [Act.put, jA, jB, jC, jD, jE, jF]
  refine' jT 17 rfl (by rfl) ?_ hHeld ?_
  rotate_left
  · (intro w hSw; (try dsimp only at hSw); go_simp; try with_reducible rfl)
  try simp only [Act.put, jA, jB, jC, jD, jE, jF]
  refine wpAnyH_done (by kernel_rfl) ?_ _
  have kk := hHeld
  obtain ⟨c0, c1, c2, c3, f2, f3⟩ := kk.ob.cells
  have KZ := hid kk; clear kk
  go_wp2_with fail
  go_ret2
  exact L.out _ KZ.out

theorem seal_any_s {b : Nat} {s : Sl} (m : Mg) (w : World) (H : SlAt 145 w b s) :
    Calls Tryz.prog 75 #[.pointer (some ⟨b, 0, none⟩), mg m] w (LeavesS w b (s.out m) (s.code m) (s.step m)) := by
  unfold Sl.out Sl.code Sl.step putC sealB
  cases h : mayOf (s.msg m)
  · exact seal_no m h w H
  · exact seal_yes m h w H
end Go.Proofs.YtfhifnhnkgdnlaaGreat
end
section
set_option linter.unusedSimpArgs false
set_option linter.unusedVariables false
namespace Go.Proofs.YtfhifnhnkgdnlaaGreat
set_option maxRecDepth 100000
open Go.RowKit

theorem Kg.more {w0 w w1 : World} {F : List Nat} {B : GBl} {G : Gt} {bs : List (Nat × Obj)} {ys : List (Value × List UInt8)} {v : Value} {l : List UInt8} {base : Nat} (h : Kg w0 F B G bs ys w) (ho : OwnB base w1 v l) (hg : w.grownBy w1 none) : Kg w0 F B G bs ((v, l) :: ys) w1 := (h.grown hg).addY ho.bytes
set_option maxHeartbeats 6400000 in
theorem gcheck_bytes {F : List Nat} {B : GBl} {G : Gt} (v O : Value) (l x : List UInt8) (m : Mg) (ta tb : BitVec 64) (o : Int → Bool) (now : Int) (w : World) (K : GtAt w F B G) (hl : BytesAt w v l) (CS : ∀ u, BytesAt u v l → Calls Tryz.prog 53 #[v] u fun e w' => ∃ s, e = .returned (.tuple #[mg m, s, pair ta tb, .int .i64 2]) ∧ OwnB u.heap.size w' s x ∧ u.grownBy w' none) :
    Calls Tryz.prog 18 #[.pointer (some ⟨B.g, 0, none⟩), v, .int .i64 now, O] w fun e w' => e = .returned (.tuple #[mg zeroM, .int .i64 2]) ∧ w.grownBy w' none := by
  replace CS := hid CS
  have K0 := hid ((kg_start K).addY hl |>.alloc (msgObj zeroM))
  have lb := Nat.le_refl w.heap.size
  clear hl K
  go_enter Tryz.func18, Tryz.ntmps18
  go_upto_region 1 with fail
  refine wp_gen (fun wx => Kg w F B G [(w.heap.size, msgObj zeroM)] [(v, l)] wx) K0.out ?_
  clear K0
  generalize hr8 : w.heap.size = r8 at lb ⊢
  have LB := hid (show w.heap.size ≤ r8 from Nat.le_of_eq hr8)
  clear lb
  intro w0 h0
  have K0 := hid h0; clear h0
  go_upto_region 3 with fail
  go_wp2_with fail
  refine (CS.out _ K0.out.kp.y0).mono ?_
  rintro e w1 ⟨u, rfl, ho, hg⟩
  have hlt := hid (Nat.lt_of_lt_of_le (at_lt K0.out.kp.b0) hg.size)
  have k1 := ((K0.out.more ho hg).alloc (msgObj m)).alloc (tagObj ta tb)
  rw [size_alloc] at k1
  have K1 := hid k1; clear k1 ho hg K0 CS
  go_upto_region 4 with fail
  refine wp_gen (fun wx => Kg w F B G [(w1.heap.size + 1, tagObj ta tb), (w1.heap.size, msgObj m), (r8, msgObj zeroM)] [(u, x), (v, l)] wx) K1.out ?_
  clear K1
  have N1 : Hid (r8 ≠ w1.heap.size ∧ r8 ≠ w1.heap.size + 1) := hid ⟨by have := hlt.out; omega, by have := hlt.out; omega⟩
  clear hlt
  generalize w1.heap.size + 1 = tb1 at N1 ⊢
  generalize w1.heap.size = mb at N1 ⊢
  intro w2 h2
  have K2 := hid h2; clear h2
  have R8 := hid K2.out.kp.b2; have M8 := hid K2.out.kp.b1; have G8 := hid K2.out.kp.g; clear K2
  go_wp2_with (first | refine wpList_store_row (cs := zeroM.cells) R8.out (by kernel_rfl) (by kernel_rfl) (by kernel_rfl) rfl rfl rfl rfl rfl ?_ | refine wpList_buildTo (ty := 39) (cs := zeroM.cells) rfl rfl rfl (by kernel_rfl) ?_)
  have hst := at_setRow (cs := zeroM.cells) R8.out
  have hgs := gb_setRow (cs := zeroM.cells) G8.out LB.out
  generalize w2.setRow r8 zeroM.cells = wx at hst hgs ⊢
  obtain ⟨d0, d1, d2, d3, d4, d5, d6⟩ := msg_cells hst
  exact bodyPost_ret (v := .tuple #[mg zeroM, .int .i64 2]) (by simp [results, Tryz.results18, go_sem, d0, d1, d2, d3, d4, d5, d6]; try rfl) rfl ⟨rfl, hgs⟩
set_option maxHeartbeats 6400000 in
theorem gcheck_who {F : List Nat} {B : GBl} {G : Gt} (v O : Value) (l x : List UInt8) (m : Mg) (ta tb : BitVec 64) (o : Int → Bool) (now : Int) (w : World) (K : GtAt w F B G) (hl : BytesAt w v l) (CS : ∀ u, BytesAt u v l → Calls Tryz.prog 53 #[v] u fun e w' => ∃ s, e = .returned (.tuple #[mg m, s, pair ta tb, .int .i64 0]) ∧ OwnB u.heap.size w' s x ∧ u.grownBy w' none) (CF : ∀ u, GtAt u F B G → Calls Tryz.prog 54 #[.pointer (some ⟨B.g, 0, none⟩), .int .i64 m.who] u fun e w' => e = .returned (.pointer none) ∧ u = w') :
    Calls Tryz.prog 18 #[.pointer (some ⟨B.g, 0, none⟩), v, .int .i64 now, O] w fun e w' => e = .returned (.tuple #[mg zeroM, .int .i64 3]) ∧ w.grownBy w' none := by
  replace CS := hid CS
  replace CF := hid CF
  have K0 := hid ((kg_start K).addY hl |>.alloc (msgObj zeroM))
  have lb := Nat.le_refl w.heap.size
  clear hl K
  go_enter Tryz.func18, Tryz.ntmps18
  go_upto_region 1 with fail
  refine wp_gen (fun wx => Kg w F B G [(w.heap.size, msgObj zeroM)] [(v, l)] wx) K0.out ?_
  clear K0
  generalize hr8 : w.heap.size = r8 at lb ⊢
  have LB := hid (show w.heap.size ≤ r8 from Nat.le_of_eq hr8)
  clear lb
  intro w0 h0
  have K0 := hid h0; clear h0
  go_upto_region 3 with fail
  go_wp2_with fail
  refine (CS.out _ K0.out.kp.y0).mono ?_
  rintro e w1 ⟨u, rfl, ho, hg⟩
  have hlt := hid (Nat.lt_of_lt_of_le (at_lt K0.out.kp.b0) hg.size)
  have k1 := ((K0.out.more ho hg).alloc (msgObj m)).alloc (tagObj ta tb)
  rw [size_alloc] at k1
  have K1 := hid k1; clear k1 ho hg K0 CS
  go_upto_region 4 with fail
  refine wp_gen (fun wx => Kg w F B G [(w1.heap.size + 1, tagObj ta tb), (w1.heap.size, msgObj m), (r8, msgObj zeroM)] [(u, x), (v, l)] wx) K1.out ?_
  clear K1
  have N1 : Hid (r8 ≠ w1.heap.size ∧ r8 ≠ w1.heap.size + 1) := hid ⟨by have := hlt.out; omega, by have := hlt.out; omega⟩
  clear hlt
  generalize w1.heap.size + 1 = tb1 at N1 ⊢
  generalize w1.heap.size = mb at N1 ⊢
  intro w2 h2
  have K2 := hid h2; clear h2
  obtain ⟨d0, d1, d2, d3, d4, d5, d6⟩ := msg_cells K2.out.kp.b1
  go_wp2_with fail
  refine (CF.out _ K2.out.gt).mono ?_
  rintro e w3 ⟨rfl, hw⟩
  subst hw
  clear CF
  clear d0 d1 d2 d3 d4 d5 d6
  have R8 := hid K2.out.kp.b2; have M8 := hid K2.out.kp.b1; have G8 := hid K2.out.kp.g; clear K2
  go_wp2_with (first | refine wpList_store_row (cs := zeroM.cells) R8.out (by kernel_rfl) (by kernel_rfl) (by kernel_rfl) rfl rfl rfl rfl rfl ?_ | refine wpList_buildTo (ty := 39) (cs := zeroM.cells) rfl rfl rfl (by kernel_rfl) ?_)
  have hst := at_setRow (cs := zeroM.cells) R8.out
  have hgs := gb_setRow (cs := zeroM.cells) G8.out LB.out
  generalize w2.setRow r8 zeroM.cells = wx at hst hgs ⊢
  obtain ⟨d0, d1, d2, d3, d4, d5, d6⟩ := msg_cells hst
  exact bodyPost_ret (v := .tuple #[mg zeroM, .int .i64 3]) (by simp [results, Tryz.results18, go_sem, d0, d1, d2, d3, d4, d5, d6]; try rfl) rfl ⟨rfl, hgs⟩
set_option maxHeartbeats 6400000 in
theorem gcheck_out {F : List Nat} {B : GBl} {G : Gt} (v O : Value) (l x : List UInt8) (m : Mg) (ta tb : BitVec 64) (o : Int → Bool) (now : Int) (w : World) (K : GtAt w F B G) (hl : BytesAt w v l) (CS : ∀ u, BytesAt u v l → Calls Tryz.prog 53 #[v] u fun e w' => ∃ s, e = .returned (.tuple #[mg m, s, pair ta tb, .int .i64 0]) ∧ OwnB u.heap.size w' s x ∧ u.grownBy w' none) (pf : Addr) (CF : ∀ u, GtAt u F B G → Calls Tryz.prog 54 #[.pointer (some ⟨B.g, 0, none⟩), .int .i64 m.who] u fun e w' => e = .returned (.pointer (some pf)) ∧ u = w') (CO : ∀ u, Calls Tryz.prog 55 #[O, .int .i64 m.who] u fun e w' => e = .returned (.bool true) ∧ u.grownBy w' none) :
    Calls Tryz.prog 18 #[.pointer (some ⟨B.g, 0, none⟩), v, .int .i64 now, O] w fun e w' => e = .returned (.tuple #[mg zeroM, .int .i64 3]) ∧ w.grownBy w' none := by
  replace CS := hid CS
  replace CF := hid CF
  replace CO := hid CO
  have K0 := hid ((kg_start K).addY hl |>.alloc (msgObj zeroM))
  have lb := Nat.le_refl w.heap.size
  clear hl K
  go_enter Tryz.func18, Tryz.ntmps18
  go_upto_region 1 with fail
  refine wp_gen (fun wx => Kg w F B G [(w.heap.size, msgObj zeroM)] [(v, l)] wx) K0.out ?_
  clear K0
  generalize hr8 : w.heap.size = r8 at lb ⊢
  have LB := hid (show w.heap.size ≤ r8 from Nat.le_of_eq hr8)
  clear lb
  intro w0 h0
  have K0 := hid h0; clear h0
  go_upto_region 3 with fail
  go_wp2_with fail
  refine (CS.out _ K0.out.kp.y0).mono ?_
  rintro e w1 ⟨u, rfl, ho, hg⟩
  have hlt := hid (Nat.lt_of_lt_of_le (at_lt K0.out.kp.b0) hg.size)
  have k1 := ((K0.out.more ho hg).alloc (msgObj m)).alloc (tagObj ta tb)
  rw [size_alloc] at k1
  have K1 := hid k1; clear k1 ho hg K0 CS
  go_upto_region 4 with fail
  refine wp_gen (fun wx => Kg w F B G [(w1.heap.size + 1, tagObj ta tb), (w1.heap.size, msgObj m), (r8, msgObj zeroM)] [(u, x), (v, l)] wx) K1.out ?_
  clear K1
  have N1 : Hid (r8 ≠ w1.heap.size ∧ r8 ≠ w1.heap.size + 1) := hid ⟨by have := hlt.out; omega, by have := hlt.out; omega⟩
  clear hlt
  generalize w1.heap.size + 1 = tb1 at N1 ⊢
  generalize w1.heap.size = mb at N1 ⊢
  intro w2 h2
  have K2 := hid h2; clear h2
  obtain ⟨d0, d1, d2, d3, d4, d5, d6⟩ := msg_cells K2.out.kp.b1
  go_wp2_with fail
  refine (CF.out _ K2.out.gt).mono ?_
  rintro e w3 ⟨rfl, hw⟩
  subst hw
  clear CF
  go_wp2_with fail
  refine (CO.out _).mono ?_
  rintro e w3 ⟨rfl, hg⟩
  clear d0 d1 d2 d3 d4 d5 d6
  have K3 := hid (K2.out.grown hg); clear hg K2 CO
  have R8 := hid K3.out.kp.b2; have M8 := hid K3.out.kp.b1; have G8 := hid K3.out.kp.g; clear K3
  go_wp2_with (first | refine wpList_store_row (cs := zeroM.cells) R8.out (by kernel_rfl) (by kernel_rfl) (by kernel_rfl) rfl rfl rfl rfl rfl ?_ | refine wpList_buildTo (ty := 39) (cs := zeroM.cells) rfl rfl rfl (by kernel_rfl) ?_)
  have hst := at_setRow (cs := zeroM.cells) R8.out
  have hgs := gb_setRow (cs := zeroM.cells) G8.out LB.out
  generalize w3.setRow r8 zeroM.cells = wx at hst hgs ⊢
  obtain ⟨d0, d1, d2, d3, d4, d5, d6⟩ := msg_cells hst
  exact bodyPost_ret (v := .tuple #[mg zeroM, .int .i64 3]) (by simp [results, Tryz.results18, go_sem, d0, d1, d2, d3, d4, d5, d6]; try rfl) rfl ⟨rfl, hgs⟩
set_option maxHeartbeats 6400000 in
theorem gcheck_gen {F : List Nat} {B : GBl} {G : Gt} (v O : Value) (l x : List UInt8) (m : Mg) (ta tb : BitVec 64) (o : Int → Bool) (now : Int) (w : World) (K : GtAt w F B G) (hl : BytesAt w v l) (CS : ∀ u, BytesAt u v l → Calls Tryz.prog 53 #[v] u fun e w' => ∃ s, e = .returned (.tuple #[mg m, s, pair ta tb, .int .i64 0]) ∧ OwnB u.heap.size w' s x ∧ u.grownBy w' none) (pf : Addr) (CF : ∀ u, GtAt u F B G → Calls Tryz.prog 54 #[.pointer (some ⟨B.g, 0, none⟩), .int .i64 m.who] u fun e w' => e = .returned (.pointer (some pf)) ∧ u = w') (CO : ∀ u, Calls Tryz.prog 55 #[O, .int .i64 m.who] u fun e w' => e = .returned (.bool false) ∧ u.grownBy w' none) (CK : ∀ u, GtAt u F B G → Calls Tryz.prog 56 #[.pointer (some ⟨B.g, 0, none⟩), mg m, .int .i64 now] u fun e w' => e = .returned (.tuple #[pair 0 0, .pointer none, .int .i64 4]) ∧ u.grownBy w' none) :
    Calls Tryz.prog 18 #[.pointer (some ⟨B.g, 0, none⟩), v, .int .i64 now, O] w fun e w' => e = .returned (.tuple #[mg zeroM, .int .i64 4]) ∧ w.grownBy w' none := by
  replace CS := hid CS
  replace CF := hid CF
  replace CO := hid CO
  replace CK := hid CK
  have K0 := hid ((kg_start K).addY hl |>.alloc (msgObj zeroM))
  have lb := Nat.le_refl w.heap.size
  clear hl K
  go_enter Tryz.func18, Tryz.ntmps18
  go_upto_region 1 with fail
  refine wp_gen (fun wx => Kg w F B G [(w.heap.size, msgObj zeroM)] [(v, l)] wx) K0.out ?_
  clear K0
  generalize hr8 : w.heap.size = r8 at lb ⊢
  have LB := hid (show w.heap.size ≤ r8 from Nat.le_of_eq hr8)
  clear lb
  intro w0 h0
  have K0 := hid h0; clear h0
  go_upto_region 3 with fail
  go_wp2_with fail
  refine (CS.out _ K0.out.kp.y0).mono ?_
  rintro e w1 ⟨u, rfl, ho, hg⟩
  have hlt := hid (Nat.lt_of_lt_of_le (at_lt K0.out.kp.b0) hg.size)
  have k1 := ((K0.out.more ho hg).alloc (msgObj m)).alloc (tagObj ta tb)
  rw [size_alloc] at k1
  have K1 := hid k1; clear k1 ho hg K0 CS
  go_upto_region 4 with fail
  refine wp_gen (fun wx => Kg w F B G [(w1.heap.size + 1, tagObj ta tb), (w1.heap.size, msgObj m), (r8, msgObj zeroM)] [(u, x), (v, l)] wx) K1.out ?_
  clear K1
  have N1 : Hid (r8 ≠ w1.heap.size ∧ r8 ≠ w1.heap.size + 1) := hid ⟨by have := hlt.out; omega, by have := hlt.out; omega⟩
  clear hlt
  generalize w1.heap.size + 1 = tb1 at N1 ⊢
  generalize w1.heap.size = mb at N1 ⊢
  intro w2 h2
  have K2 := hid h2; clear h2
  obtain ⟨d0, d1, d2, d3, d4, d5, d6⟩ := msg_cells K2.out.kp.b1
  go_wp2_with fail
  refine (CF.out _ K2.out.gt).mono ?_
  rintro e w3 ⟨rfl, hw⟩
  subst hw
  clear CF
  go_wp2_with fail
  refine (CO.out _).mono ?_
  rintro e w3 ⟨rfl, hg⟩
  clear d0 d1 d2 d3 d4 d5 d6
  have K3 := hid (K2.out.grown hg); clear hg K2 CO
  have M3 := hid K3.out.kp.b1
  go_wp2_with (refine wpList_row M3.out Tryz.underlying39 rfl (by kernel_rfl) rfl rfl rfl rfl ?_)
  clear M3
  refine (CK.out _ K3.out.gt).mono ?_
  rintro e w4 ⟨rfl, hg⟩
  have N2 : Hid (r8 ≠ w4.heap.size) := hid (by have := at_lt K3.out.kp.b2; have := hg.size; omega)
  have K4 := hid ((K3.out.grown hg).alloc (keyObj 0#64 0#64)); clear hg K3 CK
  go_upto_region 9 with fail
  refine wp_gen (fun wx => Kg w F B G ((w4.heap.size, keyObj 0#64 0#64) :: [(tb1, tagObj ta tb), (mb, msgObj m), (r8, msgObj zeroM)]) [(u, x), (v, l)] wx) K4.out ?_
  clear K4
  generalize w4.heap.size = kb2 at N2 ⊢
  intro w5 h5
  have K5 := hid h5; clear h5
  have R8 := hid K5.out.kp.b3; have M8 := hid K5.out.kp.b2; have G8 := hid K5.out.kp.g; clear K5
  go_wp2_with (first | refine wpList_store_row (cs := zeroM.cells) R8.out (by kernel_rfl) (by kernel_rfl) (by kernel_rfl) rfl rfl rfl rfl rfl ?_ | refine wpList_buildTo (ty := 39) (cs := zeroM.cells) rfl rfl rfl (by kernel_rfl) ?_)
  have hst := at_setRow (cs := zeroM.cells) R8.out
  have hgs := gb_setRow (cs := zeroM.cells) G8.out LB.out
  generalize w5.setRow r8 zeroM.cells = wx at hst hgs ⊢
  obtain ⟨d0, d1, d2, d3, d4, d5, d6⟩ := msg_cells hst
  exact bodyPost_ret (v := .tuple #[mg zeroM, .int .i64 4]) (by simp [results, Tryz.results18, go_sem, d0, d1, d2, d3, d4, d5, d6]; try rfl) rfl ⟨rfl, hgs⟩
set_option maxHeartbeats 6400000 in
theorem gcheck_auth {F : List Nat} {B : GBl} {G : Gt} (v O : Value) (l x : List UInt8) (m : Mg) (ta tb : BitVec 64) (o : Int → Bool) (now : Int) (w : World) (K : GtAt w F B G) (hl : BytesAt w v l) (CS : ∀ u, BytesAt u v l → Calls Tryz.prog 53 #[v] u fun e w' => ∃ s, e = .returned (.tuple #[mg m, s, pair ta tb, .int .i64 0]) ∧ OwnB u.heap.size w' s x ∧ u.grownBy w' none) (pf : Addr) (CF : ∀ u, GtAt u F B G → Calls Tryz.prog 54 #[.pointer (some ⟨B.g, 0, none⟩), .int .i64 m.who] u fun e w' => e = .returned (.pointer (some pf)) ∧ u = w') (CO : ∀ u, Calls Tryz.prog 55 #[O, .int .i64 m.who] u fun e w' => e = .returned (.bool false) ∧ u.grownBy w' none) (ka kb : BitVec 64) (rp : Nat) (CK : ∀ u, GtAt u F B G → Calls Tryz.prog 56 #[.pointer (some ⟨B.g, 0, none⟩), mg m, .int .i64 now] u fun e w' => e = .returned (.tuple #[pair ka kb, .pointer (some ⟨rp, 0, none⟩), .int .i64 0]) ∧ u.grownBy w' none) (sa sb : BitVec 64) (CT : ∀ u s, BytesAt u s x → Calls Tryz.prog 37 #[pair ka kb, s] u fun e w' => e = .returned (pair sa sb) ∧ u.grownBy w' none) (CE : ∀ u, Calls Tryz.prog 36 #[pair ta tb, pair sa sb] u fun e w' => e = .returned (.bool false) ∧ u.grownBy w' none) :
    Calls Tryz.prog 18 #[.pointer (some ⟨B.g, 0, none⟩), v, .int .i64 now, O] w fun e w' => e = .returned (.tuple #[mg zeroM, .int .i64 5]) ∧ w.grownBy w' none := by
  replace CS := hid CS
  replace CF := hid CF
  replace CO := hid CO
  replace CK := hid CK
  replace CT := hid CT
  replace CE := hid CE
  have K0 := hid ((kg_start K).addY hl |>.alloc (msgObj zeroM))
  have lb := Nat.le_refl w.heap.size
  clear hl K
  go_enter Tryz.func18, Tryz.ntmps18
  go_upto_region 1 with fail
  refine wp_gen (fun wx => Kg w F B G [(w.heap.size, msgObj zeroM)] [(v, l)] wx) K0.out ?_
  clear K0
  generalize hr8 : w.heap.size = r8 at lb ⊢
  have LB := hid (show w.heap.size ≤ r8 from Nat.le_of_eq hr8)
  clear lb
  intro w0 h0
  have K0 := hid h0; clear h0
  go_upto_region 3 with fail
  go_wp2_with fail
  refine (CS.out _ K0.out.kp.y0).mono ?_
  rintro e w1 ⟨u, rfl, ho, hg⟩
  have hlt := hid (Nat.lt_of_lt_of_le (at_lt K0.out.kp.b0) hg.size)
  have k1 := ((K0.out.more ho hg).alloc (msgObj m)).alloc (tagObj ta tb)
  rw [size_alloc] at k1
  have K1 := hid k1; clear k1 ho hg K0 CS
  go_upto_region 4 with fail
  refine wp_gen (fun wx => Kg w F B G [(w1.heap.size + 1, tagObj ta tb), (w1.heap.size, msgObj m), (r8, msgObj zeroM)] [(u, x), (v, l)] wx) K1.out ?_
  clear K1
  have N1 : Hid (r8 ≠ w1.heap.size ∧ r8 ≠ w1.heap.size + 1) := hid ⟨by have := hlt.out; omega, by have := hlt.out; omega⟩
  clear hlt
  generalize w1.heap.size + 1 = tb1 at N1 ⊢
  generalize w1.heap.size = mb at N1 ⊢
  intro w2 h2
  have K2 := hid h2; clear h2
  obtain ⟨d0, d1, d2, d3, d4, d5, d6⟩ := msg_cells K2.out.kp.b1
  go_wp2_with fail
  refine (CF.out _ K2.out.gt).mono ?_
  rintro e w3 ⟨rfl, hw⟩
  subst hw
  clear CF
  go_wp2_with fail
  refine (CO.out _).mono ?_
  rintro e w3 ⟨rfl, hg⟩
  clear d0 d1 d2 d3 d4 d5 d6
  have K3 := hid (K2.out.grown hg); clear hg K2 CO
  have M3 := hid K3.out.kp.b1
  go_wp2_with (refine wpList_row M3.out Tryz.underlying39 rfl (by kernel_rfl) rfl rfl rfl rfl ?_)
  clear M3
  refine (CK.out _ K3.out.gt).mono ?_
  rintro e w4 ⟨rfl, hg⟩
  have N2 : Hid (r8 ≠ w4.heap.size) := hid (by have := at_lt K3.out.kp.b2; have := hg.size; omega)
  have K4 := hid ((K3.out.grown hg).alloc (keyObj ka kb)); clear hg K3 CK
  go_upto_region 9 with fail
  refine wp_gen (fun wx => Kg w F B G ((w4.heap.size, keyObj ka kb) :: [(tb1, tagObj ta tb), (mb, msgObj m), (r8, msgObj zeroM)]) [(u, x), (v, l)] wx) K4.out ?_
  clear K4
  generalize w4.heap.size = kb2 at N2 ⊢
  intro w5 h5
  have K5 := hid h5; clear h5
  go_wp2_with fail
  refine wp_region_held_drew (S := (fun w' => (Kg w F B G [(kb2, keyObj ka kb), (tb1, tagObj ta tb), (mb, msgObj m), (r8, msgObj zeroM)] [(u, x), (v, l)] w'))) (by kernel_rfl) K5.out.drew (fun hHeld => ?_)
  try dsimp only at hHeld
  refine' jT 0 rfl (by rfl) ?_ hHeld ?_
  rotate_left
  · (intro w hSw; (try dsimp only at hSw); (try simp only [jD, jE, jF]); refine exec_row (x := .tmp 12) hSw.kp.b1 Tryz.underlying83 rfl (by kernel_rfl) ?_ ?_ <;> rfl)
  try simp only [Act.put, jA, jB, jC, jD, jE, jF]
  refine' jT 1 rfl (by rfl) ?_ hHeld ?_
  rotate_left
  · (intro w hSw; (try dsimp only at hSw); (try simp only [jD, jE, jF]); refine exec_row (x := .tmp 14) hSw.kp.b0 Tryz.underlying49 rfl (by kernel_rfl) ?_ ?_ <;> rfl)
  try simp only [Act.put, jA, jB, jC, jD, jE, jF]
  refine' jT 2 rfl (by rfl) ?_ hHeld ?_
  rotate_left
  · (intro w hSw; (try dsimp only at hSw); go_simp; try with_reducible rfl)
  try simp only [Act.put, jA, jB, jC, jD, jE, jF]
  refine jR [3] ?_
  refine jG rfl (fun K hK => ?_) AllReadyH.nil
  try simp only [jD, jE, jF]
  go_simp
  have hH2 := hHeld
  have kk := hH2
  refine (CT.out _ _ kk.kp.y0).mono ?_
  rintro e w1003 ⟨rfl, hg⟩
  have L3 := hid (show (Kg w F B G [(kb2, keyObj ka kb), (tb1, tagObj ta tb), (mb, msgObj m), (r8, msgObj zeroM)] [(u, x), (v, l)] w1003) from kk.grown hg)
  clear hHeld hg kk
  go_wp2_with fail
  refine hK.out _ _ ?_ (fun hHeld => ?_)
  · exact L3.out
  clear hK K
  try dsimp only at hHeld
  try simp only [Act.put, jA, jB, jC, jD, jE, jF]
  refine jR [4] ?_
  refine jG rfl (fun K hK => ?_) AllReadyH.nil
  try simp only [jD, jE, jF]
  go_simp
  have hH2 := hHeld
  have kk := hH2
  refine (CE.out _).mono ?_
  rintro e w1004 ⟨rfl, hg⟩
  have L4 := hid (show (Kg w F B G [(kb2, keyObj ka kb), (tb1, tagObj ta tb), (mb, msgObj m), (r8, msgObj zeroM)] [(u, x), (v, l)] w1004) from kk.grown hg)
  clear hHeld hg kk
  go_wp2_with fail
  refine hK.out _ _ ?_ (fun hHeld => ?_)
  · exact L4.out
  clear hK K
  try dsimp only at hHeld
  try simp only [Act.put, jA, jB, jC, jD, jE, jF]
  refine' jT 5 rfl (by rfl) ?_ hHeld ?_
  rotate_left
  · (intro w hSw; (try dsimp only at hSw); go_simp; try with_reducible rfl)
  try simp only [Act.put, jA, jB, jC, jD, jE, jF]
  refine wpAnyH_done (by kernel_rfl) ?_ _
  have kk := hHeld
  refine exit_gen (fun wx => Kg w F B G [(kb2, keyObj ka kb), (tb1, tagObj ta tb), (mb, msgObj m), (r8, msgObj zeroM)] [(u, x), (v, l)] wx) kk ?_
  clear kk
  intro w6 h6
  have K6 := hid h6; clear h6 CT CE
  have R8 := hid K6.out.kp.b3; have M8 := hid K6.out.kp.b2; have G8 := hid K6.out.kp.g; clear K6
  go_wp2_with (first | refine wpList_store_row (cs := zeroM.cells) R8.out (by kernel_rfl) (by kernel_rfl) (by kernel_rfl) rfl rfl rfl rfl rfl ?_ | refine wpList_buildTo (ty := 39) (cs := zeroM.cells) rfl rfl rfl (by kernel_rfl) ?_)
  have hst := at_setRow (cs := zeroM.cells) R8.out
  have hgs := gb_setRow (cs := zeroM.cells) G8.out LB.out
  generalize w6.setRow r8 zeroM.cells = wx at hst hgs ⊢
  obtain ⟨d0, d1, d2, d3, d4, d5, d6⟩ := msg_cells hst
  exact bodyPost_ret (v := .tuple #[mg zeroM, .int .i64 5]) (by simp [results, Tryz.results18, go_sem, d0, d1, d2, d3, d4, d5, d6]; try rfl) rfl ⟨rfl, hgs⟩
set_option maxHeartbeats 6400000 in
theorem gcheck_replay {F : List Nat} {B : GBl} {G : Gt} (v O : Value) (l x : List UInt8) (m : Mg) (ta tb : BitVec 64) (o : Int → Bool) (now : Int) (w : World) (K : GtAt w F B G) (hl : BytesAt w v l) (CS : ∀ u, BytesAt u v l → Calls Tryz.prog 53 #[v] u fun e w' => ∃ s, e = .returned (.tuple #[mg m, s, pair ta tb, .int .i64 0]) ∧ OwnB u.heap.size w' s x ∧ u.grownBy w' none) (pf : Addr) (CF : ∀ u, GtAt u F B G → Calls Tryz.prog 54 #[.pointer (some ⟨B.g, 0, none⟩), .int .i64 m.who] u fun e w' => e = .returned (.pointer (some pf)) ∧ u = w') (CO : ∀ u, Calls Tryz.prog 55 #[O, .int .i64 m.who] u fun e w' => e = .returned (.bool false) ∧ u.grownBy w' none) (ka kb : BitVec 64) (rp : Nat) (CK : ∀ u, GtAt u F B G → Calls Tryz.prog 56 #[.pointer (some ⟨B.g, 0, none⟩), mg m, .int .i64 now] u fun e w' => e = .returned (.tuple #[pair ka kb, .pointer (some ⟨rp, 0, none⟩), .int .i64 0]) ∧ u.grownBy w' none) (sa sb : BitVec 64) (CT : ∀ u s, BytesAt u s x → Calls Tryz.prog 37 #[pair ka kb, s] u fun e w' => e = .returned (pair sa sb) ∧ u.grownBy w' none) (CE : ∀ u, Calls Tryz.prog 36 #[pair ta tb, pair sa sb] u fun e w' => e = .returned (.bool true) ∧ u.grownBy w' none) (CR : ∀ u, GtAt u F B G → Calls Tryz.prog 57 #[.pointer (some ⟨rp, 0, none⟩), .int .i64 m.seq] u fun e w' => e = .returned (.bool false) ∧ u = w') :
    Calls Tryz.prog 18 #[.pointer (some ⟨B.g, 0, none⟩), v, .int .i64 now, O] w fun e w' => e = .returned (.tuple #[mg zeroM, .int .i64 6]) ∧ w.grownBy w' none := by
  replace CS := hid CS
  replace CF := hid CF
  replace CO := hid CO
  replace CK := hid CK
  replace CT := hid CT
  replace CE := hid CE
  replace CR := hid CR
  have K0 := hid ((kg_start K).addY hl |>.alloc (msgObj zeroM))
  have lb := Nat.le_refl w.heap.size
  clear hl K
  go_enter Tryz.func18, Tryz.ntmps18
  go_upto_region 1 with fail
  refine wp_gen (fun wx => Kg w F B G [(w.heap.size, msgObj zeroM)] [(v, l)] wx) K0.out ?_
  clear K0
  generalize hr8 : w.heap.size = r8 at lb ⊢
  have LB := hid (show w.heap.size ≤ r8 from Nat.le_of_eq hr8)
  clear lb
  intro w0 h0
  have K0 := hid h0; clear h0
  go_upto_region 3 with fail
  go_wp2_with fail
  refine (CS.out _ K0.out.kp.y0).mono ?_
  rintro e w1 ⟨u, rfl, ho, hg⟩
  have hlt := hid (Nat.lt_of_lt_of_le (at_lt K0.out.kp.b0) hg.size)
  have k1 := ((K0.out.more ho hg).alloc (msgObj m)).alloc (tagObj ta tb)
  rw [size_alloc] at k1
  have K1 := hid k1; clear k1 ho hg K0 CS
  go_upto_region 4 with fail
  refine wp_gen (fun wx => Kg w F B G [(w1.heap.size + 1, tagObj ta tb), (w1.heap.size, msgObj m), (r8, msgObj zeroM)] [(u, x), (v, l)] wx) K1.out ?_
  clear K1
  have N1 : Hid (r8 ≠ w1.heap.size ∧ r8 ≠ w1.heap.size + 1) := hid ⟨by have := hlt.out; omega, by have := hlt.out; omega⟩
  clear hlt
  generalize w1.heap.size + 1 = tb1 at N1 ⊢
  generalize w1.heap.size = mb at N1 ⊢
  intro w2 h2
  have K2 := hid h2; clear h2
  obtain ⟨d0, d1, d2, d3, d4, d5, d6⟩ := msg_cells K2.out.kp.b1
  go_wp2_with fail
  refine (CF.out _ K2.out.gt).mono ?_
  rintro e w3 ⟨rfl, hw⟩
  subst hw
  clear CF
  go_wp2_with fail
  refine (CO.out _).mono ?_
  rintro e w3 ⟨rfl, hg⟩
  clear d0 d1 d2 d3 d4 d5 d6
  have K3 := hid (K2.out.grown hg); clear hg K2 CO
  have M3 := hid K3.out.kp.b1
  go_wp2_with (refine wpList_row M3.out Tryz.underlying39 rfl (by kernel_rfl) rfl rfl rfl rfl ?_)
  clear M3
  refine (CK.out _ K3.out.gt).mono ?_
  rintro e w4 ⟨rfl, hg⟩
  have N2 : Hid (r8 ≠ w4.heap.size) := hid (by have := at_lt K3.out.kp.b2; have := hg.size; omega)
  have K4 := hid ((K3.out.grown hg).alloc (keyObj ka kb)); clear hg K3 CK
  go_upto_region 9 with fail
  refine wp_gen (fun wx => Kg w F B G ((w4.heap.size, keyObj ka kb) :: [(tb1, tagObj ta tb), (mb, msgObj m), (r8, msgObj zeroM)]) [(u, x), (v, l)] wx) K4.out ?_
  clear K4
  generalize w4.heap.size = kb2 at N2 ⊢
  intro w5 h5
  have K5 := hid h5; clear h5
  go_wp2_with fail
  refine wp_region_held_drew (S := (fun w' => (Kg w F B G [(kb2, keyObj ka kb), (tb1, tagObj ta tb), (mb, msgObj m), (r8, msgObj zeroM)] [(u, x), (v, l)] w'))) (by kernel_rfl) K5.out.drew (fun hHeld => ?_)
  try dsimp only at hHeld
  refine' jT 0 rfl (by rfl) ?_ hHeld ?_
  rotate_left
  · (intro w hSw; (try dsimp only at hSw); (try simp only [jD, jE, jF]); refine exec_row (x := .tmp 12) hSw.kp.b1 Tryz.underlying83 rfl (by kernel_rfl) ?_ ?_ <;> rfl)
  try simp only [Act.put, jA, jB, jC, jD, jE, jF]
  refine' jT 1 rfl (by rfl) ?_ hHeld ?_
  rotate_left
  · (intro w hSw; (try dsimp only at hSw); (try simp only [jD, jE, jF]); refine exec_row (x := .tmp 14) hSw.kp.b0 Tryz.underlying49 rfl (by kernel_rfl) ?_ ?_ <;> rfl)
  try simp only [Act.put, jA, jB, jC, jD, jE, jF]
  refine' jT 2 rfl (by rfl) ?_ hHeld ?_
  rotate_left
  · (intro w hSw; (try dsimp only at hSw); go_simp; try with_reducible rfl)
  try simp only [Act.put, jA, jB, jC, jD, jE, jF]
  refine jR [3] ?_
  refine jG rfl (fun K hK => ?_) AllReadyH.nil
  try simp only [jD, jE, jF]
  go_simp
  have hH2 := hHeld
  have kk := hH2
  refine (CT.out _ _ kk.kp.y0).mono ?_
  rintro e w1003 ⟨rfl, hg⟩
  have L3 := hid (show (Kg w F B G [(kb2, keyObj ka kb), (tb1, tagObj ta tb), (mb, msgObj m), (r8, msgObj zeroM)] [(u, x), (v, l)] w1003) from kk.grown hg)
  clear hHeld hg kk
  go_wp2_with fail
  refine hK.out _ _ ?_ (fun hHeld => ?_)
  · exact L3.out
  clear hK K
  try dsimp only at hHeld
  try simp only [Act.put, jA, jB, jC, jD, jE, jF]
  refine jR [4] ?_
  refine jG rfl (fun K hK => ?_) AllReadyH.nil
  try simp only [jD, jE, jF]
  go_simp
  have hH2 := hHeld
  have kk := hH2
  refine (CE.out _).mono ?_
  rintro e w1004 ⟨rfl, hg⟩
  have L4 := hid (show (Kg w F B G [(kb2, keyObj ka kb), (tb1, tagObj ta tb), (mb, msgObj m), (r8, msgObj zeroM)] [(u, x), (v, l)] w1004) from kk.grown hg)
  clear hHeld hg kk
  go_wp2_with fail
  refine hK.out _ _ ?_ (fun hHeld => ?_)
  · exact L4.out
  clear hK K
  try dsimp only at hHeld
  try simp only [Act.put, jA, jB, jC, jD, jE, jF]
  refine' jT 5 rfl (by rfl) ?_ hHeld ?_
  rotate_left
  · (intro w hSw; (try dsimp only at hSw); go_simp; try with_reducible rfl)
  try simp only [Act.put, jA, jB, jC, jD, jE, jF]
  refine wpAnyH_done (by kernel_rfl) ?_ _
  have kk := hHeld
  refine exit_gen (fun wx => Kg w F B G [(kb2, keyObj ka kb), (tb1, tagObj ta tb), (mb, msgObj m), (r8, msgObj zeroM)] [(u, x), (v, l)] wx) kk ?_
  clear kk
  intro w6 h6
  have K6 := hid h6; clear h6 CT CE
  obtain ⟨d0, d1, d2, d3, d4, d5, d6⟩ := msg_cells K6.out.kp.b2
  go_wp2_with fail
  refine (CR.out _ K6.out.gt).mono ?_
  rintro e w7 ⟨rfl, hw⟩
  subst hw
  clear CR
  clear d0 d1 d2 d3 d4 d5 d6
  have R8 := hid K6.out.kp.b3; have M8 := hid K6.out.kp.b2; have G8 := hid K6.out.kp.g; clear K6
  go_wp2_with (first | refine wpList_store_row (cs := zeroM.cells) R8.out (by kernel_rfl) (by kernel_rfl) (by kernel_rfl) rfl rfl rfl rfl rfl ?_ | refine wpList_buildTo (ty := 39) (cs := zeroM.cells) rfl rfl rfl (by kernel_rfl) ?_)
  have hst := at_setRow (cs := zeroM.cells) R8.out
  have hgs := gb_setRow (cs := zeroM.cells) G8.out LB.out
  generalize w6.setRow r8 zeroM.cells = wx at hst hgs ⊢
  obtain ⟨d0, d1, d2, d3, d4, d5, d6⟩ := msg_cells hst
  exact bodyPost_ret (v := .tuple #[mg zeroM, .int .i64 6]) (by simp [results, Tryz.results18, go_sem, d0, d1, d2, d3, d4, d5, d6]; try rfl) rfl ⟨rfl, hgs⟩
set_option maxHeartbeats 6400000 in
theorem gcheck_stale {F : List Nat} {B : GBl} {G : Gt} (v O : Value) (l x : List UInt8) (m : Mg) (ta tb : BitVec 64) (o : Int → Bool) (now : Int) (w : World) (K : GtAt w F B G) (hl : BytesAt w v l) (CS : ∀ u, BytesAt u v l → Calls Tryz.prog 53 #[v] u fun e w' => ∃ s, e = .returned (.tuple #[mg m, s, pair ta tb, .int .i64 0]) ∧ OwnB u.heap.size w' s x ∧ u.grownBy w' none) (pf : Addr) (CF : ∀ u, GtAt u F B G → Calls Tryz.prog 54 #[.pointer (some ⟨B.g, 0, none⟩), .int .i64 m.who] u fun e w' => e = .returned (.pointer (some pf)) ∧ u = w') (CO : ∀ u, Calls Tryz.prog 55 #[O, .int .i64 m.who] u fun e w' => e = .returned (.bool false) ∧ u.grownBy w' none) (ka kb : BitVec 64) (rp : Nat) (CK : ∀ u, GtAt u F B G → Calls Tryz.prog 56 #[.pointer (some ⟨B.g, 0, none⟩), mg m, .int .i64 now] u fun e w' => e = .returned (.tuple #[pair ka kb, .pointer (some ⟨rp, 0, none⟩), .int .i64 0]) ∧ u.grownBy w' none) (sa sb : BitVec 64) (CT : ∀ u s, BytesAt u s x → Calls Tryz.prog 37 #[pair ka kb, s] u fun e w' => e = .returned (pair sa sb) ∧ u.grownBy w' none) (CE : ∀ u, Calls Tryz.prog 36 #[pair ta tb, pair sa sb] u fun e w' => e = .returned (.bool true) ∧ u.grownBy w' none) (CR : ∀ u, GtAt u F B G → Calls Tryz.prog 57 #[.pointer (some ⟨rp, 0, none⟩), .int .i64 m.seq] u fun e w' => e = .returned (.bool true) ∧ u = w') (CI : ∀ u, GtAt u F B G → Calls Tryz.prog 58 #[.pointer (some ⟨B.g, 0, none⟩), .int .i64 m.epoch, .int .i64 now] u fun e w' => e = .returned (.bool false) ∧ u = w') :
    Calls Tryz.prog 18 #[.pointer (some ⟨B.g, 0, none⟩), v, .int .i64 now, O] w fun e w' => e = .returned (.tuple #[mg zeroM, .int .i64 7]) ∧ w.grownBy w' none := by
  replace CS := hid CS
  replace CF := hid CF
  replace CO := hid CO
  replace CK := hid CK
  replace CT := hid CT
  replace CE := hid CE
  replace CR := hid CR
  replace CI := hid CI
  have K0 := hid ((kg_start K).addY hl |>.alloc (msgObj zeroM))
  have lb := Nat.le_refl w.heap.size
  clear hl K
  go_enter Tryz.func18, Tryz.ntmps18
  go_upto_region 1 with fail
  refine wp_gen (fun wx => Kg w F B G [(w.heap.size, msgObj zeroM)] [(v, l)] wx) K0.out ?_
  clear K0
  generalize hr8 : w.heap.size = r8 at lb ⊢
  have LB := hid (show w.heap.size ≤ r8 from Nat.le_of_eq hr8)
  clear lb
  intro w0 h0
  have K0 := hid h0; clear h0
  go_upto_region 3 with fail
  go_wp2_with fail
  refine (CS.out _ K0.out.kp.y0).mono ?_
  rintro e w1 ⟨u, rfl, ho, hg⟩
  have hlt := hid (Nat.lt_of_lt_of_le (at_lt K0.out.kp.b0) hg.size)
  have k1 := ((K0.out.more ho hg).alloc (msgObj m)).alloc (tagObj ta tb)
  rw [size_alloc] at k1
  have K1 := hid k1; clear k1 ho hg K0 CS
  go_upto_region 4 with fail
  refine wp_gen (fun wx => Kg w F B G [(w1.heap.size + 1, tagObj ta tb), (w1.heap.size, msgObj m), (r8, msgObj zeroM)] [(u, x), (v, l)] wx) K1.out ?_
  clear K1
  have N1 : Hid (r8 ≠ w1.heap.size ∧ r8 ≠ w1.heap.size + 1) := hid ⟨by have := hlt.out; omega, by have := hlt.out; omega⟩
  clear hlt
  generalize w1.heap.size + 1 = tb1 at N1 ⊢
  generalize w1.heap.size = mb at N1 ⊢
  intro w2 h2
  have K2 := hid h2; clear h2
  obtain ⟨d0, d1, d2, d3, d4, d5, d6⟩ := msg_cells K2.out.kp.b1
  go_wp2_with fail
  refine (CF.out _ K2.out.gt).mono ?_
  rintro e w3 ⟨rfl, hw⟩
  subst hw
  clear CF
  go_wp2_with fail
  refine (CO.out _).mono ?_
  rintro e w3 ⟨rfl, hg⟩
  clear d0 d1 d2 d3 d4 d5 d6
  have K3 := hid (K2.out.grown hg); clear hg K2 CO
  have M3 := hid K3.out.kp.b1
  go_wp2_with (refine wpList_row M3.out Tryz.underlying39 rfl (by kernel_rfl) rfl rfl rfl rfl ?_)
  clear M3
  refine (CK.out _ K3.out.gt).mono ?_
  rintro e w4 ⟨rfl, hg⟩
  have N2 : Hid (r8 ≠ w4.heap.size) := hid (by have := at_lt K3.out.kp.b2; have := hg.size; omega)
  have K4 := hid ((K3.out.grown hg).alloc (keyObj ka kb)); clear hg K3 CK
  go_upto_region 9 with fail
  refine wp_gen (fun wx => Kg w F B G ((w4.heap.size, keyObj ka kb) :: [(tb1, tagObj ta tb), (mb, msgObj m), (r8, msgObj zeroM)]) [(u, x), (v, l)] wx) K4.out ?_
  clear K4
  generalize w4.heap.size = kb2 at N2 ⊢
  intro w5 h5
  have K5 := hid h5; clear h5
  go_wp2_with fail
  refine wp_region_held_drew (S := (fun w' => (Kg w F B G [(kb2, keyObj ka kb), (tb1, tagObj ta tb), (mb, msgObj m), (r8, msgObj zeroM)] [(u, x), (v, l)] w'))) (by kernel_rfl) K5.out.drew (fun hHeld => ?_)
  try dsimp only at hHeld
  refine' jT 0 rfl (by rfl) ?_ hHeld ?_
  rotate_left
  · (intro w hSw; (try dsimp only at hSw); (try simp only [jD, jE, jF]); refine exec_row (x := .tmp 12) hSw.kp.b1 Tryz.underlying83 rfl (by kernel_rfl) ?_ ?_ <;> rfl)
  try simp only [Act.put, jA, jB, jC, jD, jE, jF]
  refine' jT 1 rfl (by rfl) ?_ hHeld ?_
  rotate_left
  · (intro w hSw; (try dsimp only at hSw); (try simp only [jD, jE, jF]); refine exec_row (x := .tmp 14) hSw.kp.b0 Tryz.underlying49 rfl (by kernel_rfl) ?_ ?_ <;> rfl)
  try simp only [Act.put, jA, jB, jC, jD, jE, jF]
  refine' jT 2 rfl (by rfl) ?_ hHeld ?_
  rotate_left
  · (intro w hSw; (try dsimp only at hSw); go_simp; try with_reducible rfl)
  try simp only [Act.put, jA, jB, jC, jD, jE, jF]
  refine jR [3] ?_
  refine jG rfl (fun K hK => ?_) AllReadyH.nil
  try simp only [jD, jE, jF]
  go_simp
  have hH2 := hHeld
  have kk := hH2
  refine (CT.out _ _ kk.kp.y0).mono ?_
  rintro e w1003 ⟨rfl, hg⟩
  have L3 := hid (show (Kg w F B G [(kb2, keyObj ka kb), (tb1, tagObj ta tb), (mb, msgObj m), (r8, msgObj zeroM)] [(u, x), (v, l)] w1003) from kk.grown hg)
  clear hHeld hg kk
  go_wp2_with fail
  refine hK.out _ _ ?_ (fun hHeld => ?_)
  · exact L3.out
  clear hK K
  try dsimp only at hHeld
  try simp only [Act.put, jA, jB, jC, jD, jE, jF]
  refine jR [4] ?_
  refine jG rfl (fun K hK => ?_) AllReadyH.nil
  try simp only [jD, jE, jF]
  go_simp
  have hH2 := hHeld
  have kk := hH2
  refine (CE.out _).mono ?_
  rintro e w1004 ⟨rfl, hg⟩
  have L4 := hid (show (Kg w F B G [(kb2, keyObj ka kb), (tb1, tagObj ta tb), (mb, msgObj m), (r8, msgObj zeroM)] [(u, x), (v, l)] w1004) from kk.grown hg)
  clear hHeld hg kk
  go_wp2_with fail
  refine hK.out _ _ ?_ (fun hHeld => ?_)
  · exact L4.out
  clear hK K
  try dsimp only at hHeld
  try simp only [Act.put, jA, jB, jC, jD, jE, jF]
  refine' jT 5 rfl (by rfl) ?_ hHeld ?_
  rotate_left
  · (intro w hSw; (try dsimp only at hSw); go_simp; try with_reducible rfl)
  try simp only [Act.put, jA, jB, jC, jD, jE, jF]
  refine wpAnyH_done (by kernel_rfl) ?_ _
  have kk := hHeld
  refine exit_gen (fun wx => Kg w F B G [(kb2, keyObj ka kb), (tb1, tagObj ta tb), (mb, msgObj m), (r8, msgObj zeroM)] [(u, x), (v, l)] wx) kk ?_
  clear kk
  intro w6 h6
  have K6 := hid h6; clear h6 CT CE
  obtain ⟨d0, d1, d2, d3, d4, d5, d6⟩ := msg_cells K6.out.kp.b2
  go_wp2_with fail
  refine (CR.out _ K6.out.gt).mono ?_
  rintro e w7 ⟨rfl, hw⟩
  subst hw
  clear CR
  go_wp2_with fail
  refine (CI.out _ K6.out.gt).mono ?_
  rintro e w7 ⟨rfl, hw⟩
  subst hw
  clear CI
  clear d0 d1 d2 d3 d4 d5 d6
  have R8 := hid K6.out.kp.b3; have M8 := hid K6.out.kp.b2; have G8 := hid K6.out.kp.g; clear K6
  go_wp2_with (first | refine wpList_store_row (cs := zeroM.cells) R8.out (by kernel_rfl) (by kernel_rfl) (by kernel_rfl) rfl rfl rfl rfl rfl ?_ | refine wpList_buildTo (ty := 39) (cs := zeroM.cells) rfl rfl rfl (by kernel_rfl) ?_)
  have hst := at_setRow (cs := zeroM.cells) R8.out
  have hgs := gb_setRow (cs := zeroM.cells) G8.out LB.out
  generalize w6.setRow r8 zeroM.cells = wx at hst hgs ⊢
  obtain ⟨d0, d1, d2, d3, d4, d5, d6⟩ := msg_cells hst
  exact bodyPost_ret (v := .tuple #[mg zeroM, .int .i64 7]) (by simp [results, Tryz.results18, go_sem, d0, d1, d2, d3, d4, d5, d6]; try rfl) rfl ⟨rfl, hgs⟩
set_option maxHeartbeats 6400000 in
theorem gcheck_metric {F : List Nat} {B : GBl} {G : Gt} (v O : Value) (l x : List UInt8) (m : Mg) (ta tb : BitVec 64) (o : Int → Bool) (now : Int) (w : World) (K : GtAt w F B G) (hl : BytesAt w v l) (CS : ∀ u, BytesAt u v l → Calls Tryz.prog 53 #[v] u fun e w' => ∃ s, e = .returned (.tuple #[mg m, s, pair ta tb, .int .i64 0]) ∧ OwnB u.heap.size w' s x ∧ u.grownBy w' none) (pf : Addr) (CF : ∀ u, GtAt u F B G → Calls Tryz.prog 54 #[.pointer (some ⟨B.g, 0, none⟩), .int .i64 m.who] u fun e w' => e = .returned (.pointer (some pf)) ∧ u = w') (CO : ∀ u, Calls Tryz.prog 55 #[O, .int .i64 m.who] u fun e w' => e = .returned (.bool false) ∧ u.grownBy w' none) (ka kb : BitVec 64) (rp : Nat) (CK : ∀ u, GtAt u F B G → Calls Tryz.prog 56 #[.pointer (some ⟨B.g, 0, none⟩), mg m, .int .i64 now] u fun e w' => e = .returned (.tuple #[pair ka kb, .pointer (some ⟨rp, 0, none⟩), .int .i64 0]) ∧ u.grownBy w' none) (sa sb : BitVec 64) (CT : ∀ u s, BytesAt u s x → Calls Tryz.prog 37 #[pair ka kb, s] u fun e w' => e = .returned (pair sa sb) ∧ u.grownBy w' none) (CE : ∀ u, Calls Tryz.prog 36 #[pair ta tb, pair sa sb] u fun e w' => e = .returned (.bool true) ∧ u.grownBy w' none) (CR : ∀ u, GtAt u F B G → Calls Tryz.prog 57 #[.pointer (some ⟨rp, 0, none⟩), .int .i64 m.seq] u fun e w' => e = .returned (.bool true) ∧ u = w') (CI : ∀ u, GtAt u F B G → Calls Tryz.prog 58 #[.pointer (some ⟨B.g, 0, none⟩), .int .i64 m.epoch, .int .i64 now] u fun e w' => e = .returned (.bool true) ∧ u = w') (hm :  (G.met : Int) ≤ m.metric) :
    Calls Tryz.prog 18 #[.pointer (some ⟨B.g, 0, none⟩), v, .int .i64 now, O] w fun e w' => e = .returned (.tuple #[mg zeroM, .int .i64 1]) ∧ w.grownBy w' none := by
  replace CS := hid CS
  replace CF := hid CF
  replace CO := hid CO
  replace CK := hid CK
  replace CT := hid CT
  replace CE := hid CE
  replace CR := hid CR
  replace CI := hid CI
  have K0 := hid ((kg_start K).addY hl |>.alloc (msgObj zeroM))
  have lb := Nat.le_refl w.heap.size
  clear hl K
  have dm : decide ((G.met : Int) ≤ m.metric) = true := by simpa using hm
  clear hm
  go_enter Tryz.func18, Tryz.ntmps18
  go_upto_region 1 with fail
  refine wp_gen (fun wx => Kg w F B G [(w.heap.size, msgObj zeroM)] [(v, l)] wx) K0.out ?_
  clear K0
  generalize hr8 : w.heap.size = r8 at lb ⊢
  have LB := hid (show w.heap.size ≤ r8 from Nat.le_of_eq hr8)
  clear lb
  intro w0 h0
  have K0 := hid h0; clear h0
  go_upto_region 3 with fail
  go_wp2_with fail
  refine (CS.out _ K0.out.kp.y0).mono ?_
  rintro e w1 ⟨u, rfl, ho, hg⟩
  have hlt := hid (Nat.lt_of_lt_of_le (at_lt K0.out.kp.b0) hg.size)
  have k1 := ((K0.out.more ho hg).alloc (msgObj m)).alloc (tagObj ta tb)
  rw [size_alloc] at k1
  have K1 := hid k1; clear k1 ho hg K0 CS
  go_upto_region 4 with fail
  refine wp_gen (fun wx => Kg w F B G [(w1.heap.size + 1, tagObj ta tb), (w1.heap.size, msgObj m), (r8, msgObj zeroM)] [(u, x), (v, l)] wx) K1.out ?_
  clear K1
  have N1 : Hid (r8 ≠ w1.heap.size ∧ r8 ≠ w1.heap.size + 1) := hid ⟨by have := hlt.out; omega, by have := hlt.out; omega⟩
  clear hlt
  generalize w1.heap.size + 1 = tb1 at N1 ⊢
  generalize w1.heap.size = mb at N1 ⊢
  intro w2 h2
  have K2 := hid h2; clear h2
  obtain ⟨d0, d1, d2, d3, d4, d5, d6⟩ := msg_cells K2.out.kp.b1
  go_wp2_with fail
  refine (CF.out _ K2.out.gt).mono ?_
  rintro e w3 ⟨rfl, hw⟩
  subst hw
  clear CF
  go_wp2_with fail
  refine (CO.out _).mono ?_
  rintro e w3 ⟨rfl, hg⟩
  clear d0 d1 d2 d3 d4 d5 d6
  have K3 := hid (K2.out.grown hg); clear hg K2 CO
  have M3 := hid K3.out.kp.b1
  go_wp2_with (refine wpList_row M3.out Tryz.underlying39 rfl (by kernel_rfl) rfl rfl rfl rfl ?_)
  clear M3
  refine (CK.out _ K3.out.gt).mono ?_
  rintro e w4 ⟨rfl, hg⟩
  have N2 : Hid (r8 ≠ w4.heap.size) := hid (by have := at_lt K3.out.kp.b2; have := hg.size; omega)
  have K4 := hid ((K3.out.grown hg).alloc (keyObj ka kb)); clear hg K3 CK
  go_upto_region 9 with fail
  refine wp_gen (fun wx => Kg w F B G ((w4.heap.size, keyObj ka kb) :: [(tb1, tagObj ta tb), (mb, msgObj m), (r8, msgObj zeroM)]) [(u, x), (v, l)] wx) K4.out ?_
  clear K4
  generalize w4.heap.size = kb2 at N2 ⊢
  intro w5 h5
  have K5 := hid h5; clear h5
  go_wp2_with fail
  refine wp_region_held_drew (S := (fun w' => (Kg w F B G [(kb2, keyObj ka kb), (tb1, tagObj ta tb), (mb, msgObj m), (r8, msgObj zeroM)] [(u, x), (v, l)] w'))) (by kernel_rfl) K5.out.drew (fun hHeld => ?_)
  try dsimp only at hHeld
  refine' jT 0 rfl (by rfl) ?_ hHeld ?_
  rotate_left
  · (intro w hSw; (try dsimp only at hSw); (try simp only [jD, jE, jF]); refine exec_row (x := .tmp 12) hSw.kp.b1 Tryz.underlying83 rfl (by kernel_rfl) ?_ ?_ <;> rfl)
  try simp only [Act.put, jA, jB, jC, jD, jE, jF]
  refine' jT 1 rfl (by rfl) ?_ hHeld ?_
  rotate_left
  · (intro w hSw; (try dsimp only at hSw); (try simp only [jD, jE, jF]); refine exec_row (x := .tmp 14) hSw.kp.b0 Tryz.underlying49 rfl (by kernel_rfl) ?_ ?_ <;> rfl)
  try simp only [Act.put, jA, jB, jC, jD, jE, jF]
  refine' jT 2 rfl (by rfl) ?_ hHeld ?_
  rotate_left
  · (intro w hSw; (try dsimp only at hSw); go_simp; try with_reducible rfl)
  try simp only [Act.put, jA, jB, jC, jD, jE, jF]
  refine jR [3] ?_
  refine jG rfl (fun K hK => ?_) AllReadyH.nil
  try simp only [jD, jE, jF]
  go_simp
  have hH2 := hHeld
  have kk := hH2
  refine (CT.out _ _ kk.kp.y0).mono ?_
  rintro e w1003 ⟨rfl, hg⟩
  have L3 := hid (show (Kg w F B G [(kb2, keyObj ka kb), (tb1, tagObj ta tb), (mb, msgObj m), (r8, msgObj zeroM)] [(u, x), (v, l)] w1003) from kk.grown hg)
  clear hHeld hg kk
  go_wp2_with fail
  refine hK.out _ _ ?_ (fun hHeld => ?_)
  · exact L3.out
  clear hK K
  try dsimp only at hHeld
  try simp only [Act.put, jA, jB, jC, jD, jE, jF]
  refine jR [4] ?_
  refine jG rfl (fun K hK => ?_) AllReadyH.nil
  try simp only [jD, jE, jF]
  go_simp
  have hH2 := hHeld
  have kk := hH2
  refine (CE.out _).mono ?_
  rintro e w1004 ⟨rfl, hg⟩
  have L4 := hid (show (Kg w F B G [(kb2, keyObj ka kb), (tb1, tagObj ta tb), (mb, msgObj m), (r8, msgObj zeroM)] [(u, x), (v, l)] w1004) from kk.grown hg)
  clear hHeld hg kk
  go_wp2_with fail
  refine hK.out _ _ ?_ (fun hHeld => ?_)
  · exact L4.out
  clear hK K
  try dsimp only at hHeld
  try simp only [Act.put, jA, jB, jC, jD, jE, jF]
  refine' jT 5 rfl (by rfl) ?_ hHeld ?_
  rotate_left
  · (intro w hSw; (try dsimp only at hSw); go_simp; try with_reducible rfl)
  try simp only [Act.put, jA, jB, jC, jD, jE, jF]
  refine wpAnyH_done (by kernel_rfl) ?_ _
  have kk := hHeld
  refine exit_gen (fun wx => Kg w F B G [(kb2, keyObj ka kb), (tb1, tagObj ta tb), (mb, msgObj m), (r8, msgObj zeroM)] [(u, x), (v, l)] wx) kk ?_
  clear kk
  intro w6 h6
  have K6 := hid h6; clear h6 CT CE
  obtain ⟨d0, d1, d2, d3, d4, d5, d6⟩ := msg_cells K6.out.kp.b2
  go_wp2_with fail
  refine (CR.out _ K6.out.gt).mono ?_
  rintro e w7 ⟨rfl, hw⟩
  subst hw
  clear CR
  go_wp2_with fail
  refine (CI.out _ K6.out.gt).mono ?_
  rintro e w7 ⟨rfl, hw⟩
  subst hw
  clear CI
  obtain ⟨c0, c1, c2, c3, c4⟩ := K6.out.gt.tops
  go_upto_region 17 with fail
  go_quiet (fail)
  clear d0 d1 d2 d3 d4 d5 d6 c0 c1 c2 c3 c4
  refine exit_gen (fun wx => Kg w F B G [(kb2, keyObj ka kb), (tb1, tagObj ta tb), (mb, msgObj m), (r8, msgObj zeroM)] [(u, x), (v, l)] wx) (K6.out.grown (gb_drewQ w6 _)) ?_
  clear K6
  intro w7 h7
  have K7 := hid h7; clear h7
  have R8 := hid K7.out.kp.b3; have M8 := hid K7.out.kp.b2; have G8 := hid K7.out.kp.g; clear K7
  go_wp2_with (first | refine wpList_store_row (cs := zeroM.cells) R8.out (by kernel_rfl) (by kernel_rfl) (by kernel_rfl) rfl rfl rfl rfl rfl ?_ | refine wpList_buildTo (ty := 39) (cs := zeroM.cells) rfl rfl rfl (by kernel_rfl) ?_)
  have hst := at_setRow (cs := zeroM.cells) R8.out
  have hgs := gb_setRow (cs := zeroM.cells) G8.out LB.out
  generalize w7.setRow r8 zeroM.cells = wx at hst hgs ⊢
  obtain ⟨d0, d1, d2, d3, d4, d5, d6⟩ := msg_cells hst
  exact bodyPost_ret (v := .tuple #[mg zeroM, .int .i64 1]) (by simp [results, Tryz.results18, go_sem, d0, d1, d2, d3, d4, d5, d6]; try rfl) rfl ⟨rfl, hgs⟩
set_option maxHeartbeats 6400000 in
theorem gcheck_ok {F : List Nat} {B : GBl} {G : Gt} (v O : Value) (l x : List UInt8) (m : Mg) (ta tb : BitVec 64) (o : Int → Bool) (now : Int) (w : World) (K : GtAt w F B G) (hl : BytesAt w v l) (CS : ∀ u, BytesAt u v l → Calls Tryz.prog 53 #[v] u fun e w' => ∃ s, e = .returned (.tuple #[mg m, s, pair ta tb, .int .i64 0]) ∧ OwnB u.heap.size w' s x ∧ u.grownBy w' none) (pf : Addr) (CF : ∀ u, GtAt u F B G → Calls Tryz.prog 54 #[.pointer (some ⟨B.g, 0, none⟩), .int .i64 m.who] u fun e w' => e = .returned (.pointer (some pf)) ∧ u = w') (CO : ∀ u, Calls Tryz.prog 55 #[O, .int .i64 m.who] u fun e w' => e = .returned (.bool false) ∧ u.grownBy w' none) (ka kb : BitVec 64) (rp : Nat) (CK : ∀ u, GtAt u F B G → Calls Tryz.prog 56 #[.pointer (some ⟨B.g, 0, none⟩), mg m, .int .i64 now] u fun e w' => e = .returned (.tuple #[pair ka kb, .pointer (some ⟨rp, 0, none⟩), .int .i64 0]) ∧ u.grownBy w' none) (sa sb : BitVec 64) (CT : ∀ u s, BytesAt u s x → Calls Tryz.prog 37 #[pair ka kb, s] u fun e w' => e = .returned (pair sa sb) ∧ u.grownBy w' none) (CE : ∀ u, Calls Tryz.prog 36 #[pair ta tb, pair sa sb] u fun e w' => e = .returned (.bool true) ∧ u.grownBy w' none) (CR : ∀ u, GtAt u F B G → Calls Tryz.prog 57 #[.pointer (some ⟨rp, 0, none⟩), .int .i64 m.seq] u fun e w' => e = .returned (.bool true) ∧ u = w') (CI : ∀ u, GtAt u F B G → Calls Tryz.prog 58 #[.pointer (some ⟨B.g, 0, none⟩), .int .i64 m.epoch, .int .i64 now] u fun e w' => e = .returned (.bool true) ∧ u = w') (hm : ¬ (G.met : Int) ≤ m.metric) :
    Calls Tryz.prog 18 #[.pointer (some ⟨B.g, 0, none⟩), v, .int .i64 now, O] w fun e w' => e = .returned (.tuple #[mg m, .int .i64 0]) ∧ w.grownBy w' none := by
  replace CS := hid CS
  replace CF := hid CF
  replace CO := hid CO
  replace CK := hid CK
  replace CT := hid CT
  replace CE := hid CE
  replace CR := hid CR
  replace CI := hid CI
  have K0 := hid ((kg_start K).addY hl |>.alloc (msgObj zeroM))
  have lb := Nat.le_refl w.heap.size
  clear hl K
  have dm : decide ((G.met : Int) ≤ m.metric) = false := by simpa using hm
  clear hm
  go_enter Tryz.func18, Tryz.ntmps18
  go_upto_region 1 with fail
  refine wp_gen (fun wx => Kg w F B G [(w.heap.size, msgObj zeroM)] [(v, l)] wx) K0.out ?_
  clear K0
  generalize hr8 : w.heap.size = r8 at lb ⊢
  have LB := hid (show w.heap.size ≤ r8 from Nat.le_of_eq hr8)
  clear lb
  intro w0 h0
  have K0 := hid h0; clear h0
  go_upto_region 3 with fail
  go_wp2_with fail
  refine (CS.out _ K0.out.kp.y0).mono ?_
  rintro e w1 ⟨u, rfl, ho, hg⟩
  have hlt := hid (Nat.lt_of_lt_of_le (at_lt K0.out.kp.b0) hg.size)
  have k1 := ((K0.out.more ho hg).alloc (msgObj m)).alloc (tagObj ta tb)
  rw [size_alloc] at k1
  have K1 := hid k1; clear k1 ho hg K0 CS
  go_upto_region 4 with fail
  refine wp_gen (fun wx => Kg w F B G [(w1.heap.size + 1, tagObj ta tb), (w1.heap.size, msgObj m), (r8, msgObj zeroM)] [(u, x), (v, l)] wx) K1.out ?_
  clear K1
  have N1 : Hid (r8 ≠ w1.heap.size ∧ r8 ≠ w1.heap.size + 1) := hid ⟨by have := hlt.out; omega, by have := hlt.out; omega⟩
  clear hlt
  generalize w1.heap.size + 1 = tb1 at N1 ⊢
  generalize w1.heap.size = mb at N1 ⊢
  intro w2 h2
  have K2 := hid h2; clear h2
  obtain ⟨d0, d1, d2, d3, d4, d5, d6⟩ := msg_cells K2.out.kp.b1
  go_wp2_with fail
  refine (CF.out _ K2.out.gt).mono ?_
  rintro e w3 ⟨rfl, hw⟩
  subst hw
  clear CF
  go_wp2_with fail
  refine (CO.out _).mono ?_
  rintro e w3 ⟨rfl, hg⟩
  clear d0 d1 d2 d3 d4 d5 d6
  have K3 := hid (K2.out.grown hg); clear hg K2 CO
  have M3 := hid K3.out.kp.b1
  go_wp2_with (refine wpList_row M3.out Tryz.underlying39 rfl (by kernel_rfl) rfl rfl rfl rfl ?_)
  clear M3
  refine (CK.out _ K3.out.gt).mono ?_
  rintro e w4 ⟨rfl, hg⟩
  have N2 : Hid (r8 ≠ w4.heap.size) := hid (by have := at_lt K3.out.kp.b2; have := hg.size; omega)
  have K4 := hid ((K3.out.grown hg).alloc (keyObj ka kb)); clear hg K3 CK
  go_upto_region 9 with fail
  refine wp_gen (fun wx => Kg w F B G ((w4.heap.size, keyObj ka kb) :: [(tb1, tagObj ta tb), (mb, msgObj m), (r8, msgObj zeroM)]) [(u, x), (v, l)] wx) K4.out ?_
  clear K4
  generalize w4.heap.size = kb2 at N2 ⊢
  intro w5 h5
  have K5 := hid h5; clear h5
  go_wp2_with fail
  refine wp_region_held_drew (S := (fun w' => (Kg w F B G [(kb2, keyObj ka kb), (tb1, tagObj ta tb), (mb, msgObj m), (r8, msgObj zeroM)] [(u, x), (v, l)] w'))) (by kernel_rfl) K5.out.drew (fun hHeld => ?_)
  try dsimp only at hHeld
  refine' jT 0 rfl (by rfl) ?_ hHeld ?_
  rotate_left
  · (intro w hSw; (try dsimp only at hSw); (try simp only [jD, jE, jF]); refine exec_row (x := .tmp 12) hSw.kp.b1 Tryz.underlying83 rfl (by kernel_rfl) ?_ ?_ <;> rfl)
  try simp only [Act.put, jA, jB, jC, jD, jE, jF]
  refine' jT 1 rfl (by rfl) ?_ hHeld ?_
  rotate_left
  · (intro w hSw; (try dsimp only at hSw); (try simp only [jD, jE, jF]); refine exec_row (x := .tmp 14) hSw.kp.b0 Tryz.underlying49 rfl (by kernel_rfl) ?_ ?_ <;> rfl)
  try simp only [Act.put, jA, jB, jC, jD, jE, jF]
  refine' jT 2 rfl (by rfl) ?_ hHeld ?_
  rotate_left
  · (intro w hSw; (try dsimp only at hSw); go_simp; try with_reducible rfl)
  try simp only [Act.put, jA, jB, jC, jD, jE, jF]
  refine jR [3] ?_
  refine jG rfl (fun K hK => ?_) AllReadyH.nil
  try simp only [jD, jE, jF]
  go_simp
  have hH2 := hHeld
  have kk := hH2
  refine (CT.out _ _ kk.kp.y0).mono ?_
  rintro e w1003 ⟨rfl, hg⟩
  have L3 := hid (show (Kg w F B G [(kb2, keyObj ka kb), (tb1, tagObj ta tb), (mb, msgObj m), (r8, msgObj zeroM)] [(u, x), (v, l)] w1003) from kk.grown hg)
  clear hHeld hg kk
  go_wp2_with fail
  refine hK.out _ _ ?_ (fun hHeld => ?_)
  · exact L3.out
  clear hK K
  try dsimp only at hHeld
  try simp only [Act.put, jA, jB, jC, jD, jE, jF]
  refine jR [4] ?_
  refine jG rfl (fun K hK => ?_) AllReadyH.nil
  try simp only [jD, jE, jF]
  go_simp
  have hH2 := hHeld
  have kk := hH2
  refine (CE.out _).mono ?_
  rintro e w1004 ⟨rfl, hg⟩
  have L4 := hid (show (Kg w F B G [(kb2, keyObj ka kb), (tb1, tagObj ta tb), (mb, msgObj m), (r8, msgObj zeroM)] [(u, x), (v, l)] w1004) from kk.grown hg)
  clear hHeld hg kk
  go_wp2_with fail
  refine hK.out _ _ ?_ (fun hHeld => ?_)
  · exact L4.out
  clear hK K
  try dsimp only at hHeld
  try simp only [Act.put, jA, jB, jC, jD, jE, jF]
  refine' jT 5 rfl (by rfl) ?_ hHeld ?_
  rotate_left
  · (intro w hSw; (try dsimp only at hSw); go_simp; try with_reducible rfl)
  try simp only [Act.put, jA, jB, jC, jD, jE, jF]
  refine wpAnyH_done (by kernel_rfl) ?_ _
  have kk := hHeld
  refine exit_gen (fun wx => Kg w F B G [(kb2, keyObj ka kb), (tb1, tagObj ta tb), (mb, msgObj m), (r8, msgObj zeroM)] [(u, x), (v, l)] wx) kk ?_
  clear kk
  intro w6 h6
  have K6 := hid h6; clear h6 CT CE
  obtain ⟨d0, d1, d2, d3, d4, d5, d6⟩ := msg_cells K6.out.kp.b2
  go_wp2_with fail
  refine (CR.out _ K6.out.gt).mono ?_
  rintro e w7 ⟨rfl, hw⟩
  subst hw
  clear CR
  go_wp2_with fail
  refine (CI.out _ K6.out.gt).mono ?_
  rintro e w7 ⟨rfl, hw⟩
  subst hw
  clear CI
  obtain ⟨c0, c1, c2, c3, c4⟩ := K6.out.gt.tops
  go_upto_region 17 with fail
  go_quiet (fail)
  clear d0 d1 d2 d3 d4 d5 d6 c0 c1 c2 c3 c4
  refine exit_gen (fun wx => Kg w F B G [(kb2, keyObj ka kb), (tb1, tagObj ta tb), (mb, msgObj m), (r8, msgObj zeroM)] [(u, x), (v, l)] wx) (K6.out.grown (gb_drewQ w6 _)) ?_
  clear K6
  intro w7 h7
  have K7 := hid h7; clear h7
  have R8 := hid K7.out.kp.b3; have M8 := hid K7.out.kp.b2; have G8 := hid K7.out.kp.g; clear K7
  go_wp2_with (first | refine wpList_store_row (cs := m.cells) R8.out (by kernel_rfl) (by kernel_rfl) (by kernel_rfl) rfl rfl rfl rfl rfl ?_ | refine wpList_row M8.out Tryz.underlying39 rfl (by kernel_rfl) rfl rfl rfl rfl ?_)
  have hst := at_setRow (cs := m.cells) R8.out
  have hgs := gb_setRow (cs := m.cells) G8.out LB.out
  generalize w7.setRow r8 m.cells = wx at hst hgs ⊢
  obtain ⟨d0, d1, d2, d3, d4, d5, d6⟩ := msg_cells hst
  exact bodyPost_ret (v := .tuple #[mg m, .int .i64 0]) (by simp [results, Tryz.results18, go_sem, d0, d1, d2, d3, d4, d5, d6]; try rfl) rfl ⟨rfl, hgs⟩
end Go.Proofs.YtfhifnhnkgdnlaaGreat
end
section
set_option linter.unusedSimpArgs false
set_option linter.unusedVariables false
namespace Go.Proofs.YtfhifnhnkgdnlaaGreat
set_option maxRecDepth 100000
open Go.RowKit

theorem addn_u32 (a : Addr) (x s : Int) (w : World) (hc : w.cell? a = some (.int .u32 x)) (hz : w.frozen? a = false) (hs : IntKind.u32.wrap (x + 1) = s) :
    Calls Tryz.prog 106 #[.pointer (some a), .int .u32 1] w fun e w' => e = .returned (.int .u32 s) ∧ w' = w.setCell a (.int .u32 s) := by
  have hadd := run_call_add (P := Tryz.prog) Tryz.func127 (by kernel_rfl) (by kernel_rfl) (by kernel_rfl) .u32 (by kernel_rfl) (y := 1) (s := s) hc hz (by rw [show Op.intArith .add .u32 x 1 = pure (.int .u32 (IntKind.u32.wrap (x + 1))) from rfl, hs]; rfl)
  clear hs
  go_enter Tryz.func106, Tryz.ntmps106
  go_wp2
  go_ret
  exact ⟨rfl, rfl⟩
/-- what a turn leaves -/
def Turned (w : World) (hb k j : Nat) (cs : Array Value) (t : Int) (win : Nat) (e : Ending) (w' : World) : Prop :=
  e = .returned (.tuple #[]) ∧ ∃ nb, Chg [hb] w w' ∧ w'.heap[hb]? = some (.cells ((cs.setIfInBounds k (.int .u32 (succT t))).setIfInBounds (k + 1 + j) (.pointer (some ⟨nb, 0, none⟩))) 104) ∧ RpAt w' nb (.new win) ∧ w.heap.size ≤ nb
theorem turn_0 (hb k win : Nat) (t : Int) (cs : Array Value) (w : World) (h1 : 1 ≤ win) (h2 : win ≤ 64) (hr : w.heap[hb]? = some (.cells cs 104)) (c0 : cs[k]? = some (.int .u32 t)) (x : Value) (cx : cs[k + 1]? = some x) (ht : (t + 1) % 2 = 0) :
    Calls Tryz.prog 65 #[.pointer (some ⟨hb, k, none⟩), .int .i64 (win : Int)] w (Turned w hb k 0 cs t win) := by
  obtain ⟨T, hT⟩ : ∃ T, T = succT t := ⟨_, rfl⟩
  have e2 : Int.tmod T 2 = 0 := by rw [hT, Int.tmod_eq_emod_of_nonneg (b := 2) (succT_0 t), succT_mod, ht]
  have e0 : IntKind.u32.wrap (t + 1) = T := hT ▸ wrap_succT t
  unfold Turned
  rw [← hT]
  have CA := hid (addn_u32 ⟨hb, k, none⟩ t T w.drew ((at_cell hr k).trans c0) (at_free hr k) e0)
  have hr1 := at_set (at_drew hr) k (.int .u32 T)
  have cx1 : (cs.setIfInBounds k (.int .u32 T))[k + 1]? = some x := by rw [Array.getElem?_setIfInBounds, if_neg (by omega)]; exact cx
  have HLT := hid (at_lt hr)
  clear hr c0 cx e0 ht hT
  generalize cs.setIfInBounds k (.int .u32 T) = cs1 at *
  have HR := hid hr1; have CX := hid cx1; clear hr1 cx1
  go_enter Tryz.func65, Tryz.ntmps65
  go_wp2_with fail
  refine wp_region_held_drew (S := (fun _ => True)) (by kernel_rfl) trivial (fun hHeld => ?_)
  try dsimp only at hHeld
  refine' jT 0 rfl (by rfl) ?_ hHeld ?_
  rotate_left
  · (intro w hSw; (try dsimp only at hSw); go_simp; try with_reducible rfl)
  try simp only [Act.put, jA, jB, jC, jD, jE, jF]
  refine' jT 1 rfl (by rfl) ?_ hHeld ?_
  rotate_left
  · (intro w hSw; (try dsimp only at hSw); go_simp; try with_reducible rfl)
  try simp only [Act.put, jA, jB, jC, jD, jE, jF]
  refine' jT 2 rfl (by rfl) ?_ hHeld ?_
  rotate_left
  · (intro w hSw; (try dsimp only at hSw); go_simp; try with_reducible rfl)
  try simp only [Act.put, jA, jB, jC, jD, jE, jF]
  refine' jT 3 rfl (by rfl) ?_ hHeld ?_
  rotate_left
  · (intro w hSw; (try dsimp only at hSw); go_simp; try with_reducible rfl)
  try simp only [Act.put, jA, jB, jC, jD, jE, jF]
  refine' jT 6 rfl (by rfl) ?_ hHeld ?_
  rotate_left
  · (intro w hSw; (try dsimp only at hSw); go_simp; try with_reducible rfl)
  try simp only [Act.put, jA, jB, jC, jD, jE, jF]
  refine' jT 8 rfl (by rfl) ?_ hHeld ?_
  rotate_left
  · (intro w hSw; (try dsimp only at hSw); go_simp; try with_reducible rfl)
  try simp only [Act.put, jA, jB, jC, jD, jE, jF]
  refine' jT 9 rfl (by rfl) ?_ hHeld ?_
  rotate_left
  · (intro w hSw; (try dsimp only at hSw); go_simp; try with_reducible rfl)
  try simp only [Act.put, jA, jB, jC, jD, jE, jF]
  refine jR [4] ?_
  refine jG rfl (fun K hK => ?_) AllReadyH.nil
  try simp only [jD, jE, jF]
  go_simp
  refine CA.out.mono ?_
  rintro e w1 ⟨rfl, hw⟩
  subst hw
  go_wp2_with fail
  refine hK.out _ _ ?_ (fun hHeld => ?_)
  · exact trivial
  clear hK K
  try dsimp only at hHeld
  try simp only [Act.put, jA, jB, jC, jD, jE, jF]
  refine' jT 5 rfl (by rfl) ?_ hHeld ?_
  rotate_left
  · (intro w hSw; (try dsimp only at hSw); go_simp; try with_reducible rfl)
  try simp only [Act.put, jA, jB, jC, jD, jE, jF]
  refine jR [7] ?_
  refine jG rfl (fun K hK => ?_) AllReadyH.nil
  try simp only [jD, jE, jF]
  go_simp
  refine (pnew_ok win h1 h2 _).mono ?_
  rintro e w2 ⟨nb, rfl, hp, hg, hsz⟩
  have h3 := at_grown (show (w.drew.setCell ⟨hb, k, none⟩ (.int .u32 T)).heap[hb]? = _ from HR.out) hg (by simp)
  have c3 : w2.cell? ⟨hb, k + 1, none⟩ = some x := (at_cell h3 _).trans CX.out
  have f3 : w2.frozen? ⟨hb, k + 1, none⟩ = false := at_free h3 _
  have hs0 : (w.setCell ⟨hb, k, none⟩ (.int .u32 T)).drew.heap.size = w.heap.size := by show (w.setCell _ _).heap.size = _; simp [World.setCell]
  have hne : nb ≠ hb := by have := HLT.out; omega
  have FIN : Hid (Chg [hb] w (w2.setCell ⟨hb, k + 1, none⟩ (.pointer (some ⟨nb, 0, none⟩))) ∧ (w2.setCell ⟨hb, k + 1, none⟩ (.pointer (some ⟨nb, 0, none⟩))).heap[hb]? = some (.cells (cs1.setIfInBounds (k + 1) (.pointer (some ⟨nb, 0, none⟩))) 104) ∧ RpAt (w2.setCell ⟨hb, k + 1, none⟩ (.pointer (some ⟨nb, 0, none⟩))) nb (.new win) ∧ w.heap.size ≤ nb) :=
    hid ⟨((((chg_refl w [hb]).set (p := ⟨hb, k, none⟩) (.inl (by simp)) (.int .u32 T)).drew).grown hg).set (.inl (by simp)) _, at_set h3 _ _, ⟨at_set_other hp.top hne _, hp.ok⟩, by omega⟩
  clear hp hg hsz h3 hs0
  go_wp2_with fail
  refine hK.out _ _ ?_ (fun hHeld => ?_)
  · exact trivial
  clear hK K
  try dsimp only at hHeld
  try simp only [Act.put, jA, jB, jC, jD, jE, jF]
  refine' jT 10 rfl (by rfl) ?_ hHeld ?_
  rotate_left
  · (intro w hSw; (try dsimp only at hSw); go_simp; try with_reducible rfl)
  try simp only [Act.put, jA, jB, jC, jD, jE, jF]
  refine jR [11] ?_
  refine jG rfl (fun K hK => ?_) AllReadyH.nil
  try simp only [jD, jE, jF]
  go_simp
  refine hK.out _ _ ?_ (fun hHeld => ?_)
  · exact trivial
  clear hK K
  try dsimp only at hHeld
  try simp only [Act.put, jA, jB, jC, jD, jE, jF]
  refine wpAnyH_done (by kernel_rfl) ?_ _
  go_wp2_with fail
  go_end0
  exact ⟨rfl, nb, FIN.out⟩
theorem turn_1 (hb k win : Nat) (t : Int) (cs : Array Value) (w : World) (h1 : 1 ≤ win) (h2 : win ≤ 64) (hr : w.heap[hb]? = some (.cells cs 104)) (c0 : cs[k]? = some (.int .u32 t)) (x : Value) (cx : cs[k + 2]? = some x) (ht : (t + 1) % 2 = 1) :
    Calls Tryz.prog 65 #[.pointer (some ⟨hb, k, none⟩), .int .i64 (win : Int)] w (Turned w hb k 1 cs t win) := by
  obtain ⟨T, hT⟩ : ∃ T, T = succT t := ⟨_, rfl⟩
  have e2 : Int.tmod T 2 = 1 := by rw [hT, Int.tmod_eq_emod_of_nonneg (b := 2) (succT_0 t), succT_mod, ht]
  have e0 : IntKind.u32.wrap (t + 1) = T := hT ▸ wrap_succT t
  unfold Turned
  rw [← hT]
  have CA := hid (addn_u32 ⟨hb, k, none⟩ t T w.drew ((at_cell hr k).trans c0) (at_free hr k) e0)
  have hr1 := at_set (at_drew hr) k (.int .u32 T)
  have cx1 : (cs.setIfInBounds k (.int .u32 T))[k + 2]? = some x := by rw [Array.getElem?_setIfInBounds, if_neg (by omega)]; exact cx
  have HLT := hid (at_lt hr)
  clear hr c0 cx e0 ht hT
  generalize cs.setIfInBounds k (.int .u32 T) = cs1 at *
  have HR := hid hr1; have CX := hid cx1; clear hr1 cx1
  go_enter Tryz.func65, Tryz.ntmps65
  go_wp2_with fail
  refine wp_region_held_drew (S := (fun _ => True)) (by kernel_rfl) trivial (fun hHeld => ?_)
  try dsimp only at hHeld
  refine' jT 0 rfl (by rfl) ?_ hHeld ?_
  rotate_left
  · (intro w hSw; (try dsimp only at hSw); go_simp; try with_reducible rfl)
  try simp only [Act.put, jA, jB, jC, jD, jE, jF]
  refine' jT 1 rfl (by rfl) ?_ hHeld ?_
  rotate_left
  · (intro w hSw; (try dsimp only at hSw); go_simp; try with_reducible rfl)
  try simp only [Act.put, jA, jB, jC, jD, jE, jF]
  refine' jT 2 rfl (by rfl) ?_ hHeld ?_
  rotate_left
  · (intro w hSw; (try dsimp only at hSw); go_simp; try with_reducible rfl)
  try simp only [Act.put, jA, jB, jC, jD, jE, jF]
  refine' jT 3 rfl (by rfl) ?_ hHeld ?_
  rotate_left
  · (intro w hSw; (try dsimp only at hSw); go_simp; try with_reducible rfl)
  try simp only [Act.put, jA, jB, jC, jD, jE, jF]
  refine' jT 6 rfl (by rfl) ?_ hHeld ?_
  rotate_left
  · (intro w hSw; (try dsimp only at hSw); go_simp; try with_reducible rfl)
  try simp only [Act.put, jA, jB, jC, jD, jE, jF]
  refine' jT 8 rfl (by rfl) ?_ hHeld ?_
  rotate_left
  · (intro w hSw; (try dsimp only at hSw); go_simp; try with_reducible rfl)
  try simp only [Act.put, jA, jB, jC, jD, jE, jF]
  refine' jT 9 rfl (by rfl) ?_ hHeld ?_
  rotate_left
  · (intro w hSw; (try dsimp only at hSw); go_simp; try with_reducible rfl)
  try simp only [Act.put, jA, jB, jC, jD, jE, jF]
  refine jR [4] ?_
  refine jG rfl (fun K hK => ?_) AllReadyH.nil
  try simp only [jD, jE, jF]
  go_simp
  refine CA.out.mono ?_
  rintro e w1 ⟨rfl, hw⟩
  subst hw
  go_wp2_with fail
  refine hK.out _ _ ?_ (fun hHeld => ?_)
  · exact trivial
  clear hK K
  try dsimp only at hHeld
  try simp only [Act.put, jA, jB, jC, jD, jE, jF]
  refine' jT 5 rfl (by rfl) ?_ hHeld ?_
  rotate_left
  · (intro w hSw; (try dsimp only at hSw); go_simp; try with_reducible rfl)
  try simp only [Act.put, jA, jB, jC, jD, jE, jF]
  refine jR [7] ?_
  refine jG rfl (fun K hK => ?_) AllReadyH.nil
  try simp only [jD, jE, jF]
  go_simp
  refine (pnew_ok win h1 h2 _).mono ?_
  rintro e w2 ⟨nb, rfl, hp, hg, hsz⟩
  have h3 := at_grown (show (w.drew.setCell ⟨hb, k, none⟩ (.int .u32 T)).heap[hb]? = _ from HR.out) hg (by simp)
  have c3 : w2.cell? ⟨hb, k + 2, none⟩ = some x := (at_cell h3 _).trans CX.out
  have f3 : w2.frozen? ⟨hb, k + 2, none⟩ = false := at_free h3 _
  have hs0 : (w.setCell ⟨hb, k, none⟩ (.int .u32 T)).drew.heap.size = w.heap.size := by show (w.setCell _ _).heap.size = _; simp [World.setCell]
  have hne : nb ≠ hb := by have := HLT.out; omega
  have FIN : Hid (Chg [hb] w (w2.setCell ⟨hb, k + 2, none⟩ (.pointer (some ⟨nb, 0, none⟩))) ∧ (w2.setCell ⟨hb, k + 2, none⟩ (.pointer (some ⟨nb, 0, none⟩))).heap[hb]? = some (.cells (cs1.setIfInBounds (k + 2) (.pointer (some ⟨nb, 0, none⟩))) 104) ∧ RpAt (w2.setCell ⟨hb, k + 2, none⟩ (.pointer (some ⟨nb, 0, none⟩))) nb (.new win) ∧ w.heap.size ≤ nb) :=
    hid ⟨((((chg_refl w [hb]).set (p := ⟨hb, k, none⟩) (.inl (by simp)) (.int .u32 T)).drew).grown hg).set (.inl (by simp)) _, at_set h3 _ _, ⟨at_set_other hp.top hne _, hp.ok⟩, by omega⟩
  clear hp hg hsz h3 hs0
  go_wp2_with fail
  refine hK.out _ _ ?_ (fun hHeld => ?_)
  · exact trivial
  clear hK K
  try dsimp only at hHeld
  try simp only [Act.put, jA, jB, jC, jD, jE, jF]
  refine' jT 10 rfl (by rfl) ?_ hHeld ?_
  rotate_left
  · (intro w hSw; (try dsimp only at hSw); go_simp; try with_reducible rfl)
  try simp only [Act.put, jA, jB, jC, jD, jE, jF]
  refine jR [11] ?_
  refine jG rfl (fun K hK => ?_) AllReadyH.nil
  try simp only [jD, jE, jF]
  go_simp
  refine hK.out _ _ ?_ (fun hHeld => ?_)
  · exact trivial
  clear hK K
  try dsimp only at hHeld
  try simp only [Act.put, jA, jB, jC, jD, jE, jF]
  refine wpAnyH_done (by kernel_rfl) ?_ _
  go_wp2_with fail
  go_end0
  exact ⟨rfl, nb, FIN.out⟩
end Go.Proofs.YtfhifnhnkgdnlaaGreat
end
section
namespace Go.Proofs.YtfhifnhnkgdnlaaGreat
set_option maxRecDepth 100000
open Go.RowKit
theorem umod_small (x : Int) (m : Nat) (h0 : 0 < m) : ∃ k : Nat, k < m ∧ (IntKind.u64.wrap x).tmod (m : Int) = (k : Int) := by
  have h : 0 ≤ IntKind.u64.wrap x := by
    show 0 ≤ x % _
    exact Int.emod_nonneg _ (by decide)
  rw [Int.tmod_eq_emod_of_nonneg h]
  have a := Int.emod_nonneg (IntKind.u64.wrap x) (b := (m : Int)) (by omega)
  have b := Int.emod_lt_of_pos (IntKind.u64.wrap x) (b := (m : Int)) (by omega)
  exact ⟨((IntKind.u64.wrap x) % (m : Int)).toNat, by omega, by omega⟩
end Go.Proofs.YtfhifnhnkgdnlaaGreat
end
section
namespace Go.Proofs.YtfhifnhnkgdnlaaGreat
set_option maxRecDepth 100000
open Go.RowKit
theorem umod_int (x : Int) (m : Nat) (h0 : 0 < m) : ∃ k : Int, 0 ≤ k ∧ k < (m : Int) ∧ (IntKind.u64.wrap x).tmod (m : Int) = k := by
  obtain ⟨k, h1, h2⟩ := umod_small x m h0
  exact ⟨k, by omega, by omega, h2⟩
end Go.Proofs.YtfhifnhnkgdnlaaGreat
end
