/-
  A collector as a model: its seed, who it is, its generation and last number; what it seals, and what that leaves; an object that holds them. No condition.
  Contracts for package seal. The condition of a call: the object lies there; or it is nil.
  What a derived key's words are sums of, in the document's own answer. The condition: strings of a modest length.
  A contract for the document's own derived keys: four calls and two blocks that may come in any order. The condition: a label of a modest length.
  Contracts for the document's own root and collectors' keys. No condition.
-/
import Derived.Test.YtngfnigfkabihaaZ1
import Derived.Test.YtngfnigfkabihaaZ3
import Derived.StillTailTactics
import Derived.WalkSpells
import Derived.WalkLawsBesides
import Derived.Deep.RegionHeld3
section
set_option linter.unusedSimpArgs false
set_option linter.unusedVariables false
namespace Go.Proofs.Ytngfnigfkabihaa
set_option maxRecDepth 100000
open Go.RowKit

/-- a collector -/
structure Sl where
  seed : BitVec 64
  who : Int
  gen : Int
  seq : Int
structure Sl.Ok (s : Sl) : Prop where
  w0 : 0 ≤ s.who
  w1 : s.who ≤ 15
  g0 : 0 ≤ s.gen
  g1 : s.gen ≤ 60000
  q0 : 0 ≤ s.seq
  q1 : s.seq ≤ 1099511627776
def Sl.new (seed : BitVec 64) (who : Int) : Sl := ⟨seed, who, 0, 0⟩
theorem sl_new_ok (seed : BitVec 64) {who : Int} (h0 : 0 ≤ who) (h1 : who ≤ 15) : (Sl.new seed who).Ok := ⟨h0, h1, Int.le_refl _, by show (0 : Int) ≤ _; decide, Int.le_refl _, by show (0 : Int) ≤ _; decide⟩
/-- the key that it seals by -/
def Sl.k (s : Sl) : Two64 := ofOf s.seed s.who s.gen
/-- a message of its own, with the next number -/
def Sl.msg (s : Sl) (m : Mg) : Mg := ⟨m.kind, s.who, m.gen, s.seq + 1, m.epoch, m.value, m.metric⟩
def Sl.out (s : Sl) (m : Mg) : List UInt8 := sealB s.k.a s.k.b (s.msg m)
def Sl.code (s : Sl) (m : Mg) : Int := putC (s.msg m)
def Sl.step (s : Sl) (m : Mg) : Sl := if mayOf (s.msg m) = true then ⟨s.seed, s.who, s.gen, s.seq + 1⟩ else s
def Sl.samp (s : Sl) (metric epoch value : Int) : Mg := ⟨1, 0, s.gen, 0, epoch, value, metric⟩
def Sl.beat (s : Sl) (epoch : Int) : Mg := ⟨3, 0, s.gen, 0, epoch, 0, 0⟩
def Sl.rota (s : Sl) (epoch : Int) : Mg := ⟨2, 0, s.gen + 1, 0, epoch, 0, 0⟩
def Sl.turn (s : Sl) (epoch : Int) : Sl := if mayOf (s.msg (s.rota epoch)) = true then ⟨s.seed, s.who, s.gen + 1, 0⟩ else s
theorem Sl.Ok.step {s : Sl} (h : s.Ok) (m : Mg) : (s.step m).Ok := by
  unfold Sl.step
  split
  · next hm =>
    obtain ⟨_, _, _, hq, _⟩ := may_of hm
    have q := hq.2
    exact ⟨h.w0, h.w1, h.g0, h.g1, by show (0 : Int) ≤ s.seq + 1; have := h.q0; omega, q⟩
  · exact h
theorem Sl.Ok.turn {s : Sl} (h : s.Ok) (epoch : Int) : (s.turn epoch).Ok := by
  unfold Sl.turn
  split
  · next hm =>
    obtain ⟨_, _, hg, _⟩ := may_of hm
    have q := hg.2
    exact ⟨h.w0, h.w1, by show (0 : Int) ≤ s.gen + 1; have := h.g0; omega, q, Int.le_refl _, by show (0 : Int) ≤ _; decide⟩
  · exact h

/-- an object of type t that holds a collector -/
structure SlAt (t : TypeId) (w : World) (b : Nat) (s : Sl) : Prop where
  top : w.heap[b]? = some (.cells #[.int .u64 (q s.seed), .int .i64 s.who, .int .i64 s.gen, .int .i64 s.seq] t)
  ok : s.Ok
section
variable {t : TypeId} {w w' : World} {F : List Nat} {b : Nat} {s : Sl}
theorem SlAt.chg (H : SlAt t w b s) (hc : Chg F w w') (hb : b ∉ F) : SlAt t w' b s := ⟨hc.at H.top hb, H.ok⟩
theorem SlAt.grown (H : SlAt t w b s) (hg : w.grownBy w' none) : SlAt t w' b s := H.chg (chg_grown hg []) (by simp)
theorem SlAt.drew (H : SlAt t w b s) : SlAt t w.drew b s := ⟨H.top, H.ok⟩
theorem SlAt.lt (H : SlAt t w b s) : b < w.heap.size := at_lt H.top
theorem SlAt.cells (H : SlAt t w b s) : w.cell? ⟨b, 0, none⟩ = some (.int .u64 (q s.seed)) ∧ w.cell? ⟨b, 1, none⟩ = some (.int .i64 s.who) ∧ w.cell? ⟨b, 2, none⟩ = some (.int .i64 s.gen) ∧ w.cell? ⟨b, 3, none⟩ = some (.int .i64 s.seq) ∧ w.frozen? ⟨b, 2, none⟩ = false ∧ w.frozen? ⟨b, 3, none⟩ = false :=
  ⟨at_cell H.top 0, at_cell H.top 1, at_cell H.top 2, at_cell H.top 3, at_free H.top _, at_free H.top _⟩
theorem SlAt.putSeq (H : SlAt t w b s) {n : Int} (h0 : 0 ≤ n) (h1 : n ≤ 1099511627776) : SlAt t (w.setCell ⟨b, 3, none⟩ (.int .i64 n)) b ⟨s.seed, s.who, s.gen, n⟩ :=
  ⟨by have := at_set H.top 3 (.int .i64 n); exact this, ⟨H.ok.w0, H.ok.w1, H.ok.g0, H.ok.g1, h0, h1⟩⟩
theorem SlAt.putGen (H : SlAt t w b s) {n : Int} (h0 : 0 ≤ n) (h1 : n ≤ 60000) : SlAt t (w.setCell ⟨b, 2, none⟩ (.int .i64 n)) b ⟨s.seed, s.who, n, s.seq⟩ :=
  ⟨by have := at_set H.top 2 (.int .i64 n); exact this, ⟨H.ok.w0, H.ok.w1, h0, h1, H.ok.q0, H.ok.q1⟩⟩
end
theorem OwnB.chg {base : Nat} {w w1 : World} {v : Value} {l : List UInt8} {F : List Nat} (h : OwnB base w v l) (hc : Chg F w w1) (hF : ∀ x ∈ F, x < base) : OwnB base w1 v l := by
  obtain ⟨h0, h | ⟨g, cap, cur, rfl, hb, hh, h1⟩⟩ := h
  · exact ⟨h0, .inl h⟩
  · exact ⟨h0, .inr ⟨g, cap, cur, rfl, hb, hc.at hh (fun hm => by have := hF _ hm; omega), h1⟩⟩

/-- what a call of the program's leaves: an envelope of the call's own, its code; the object, and nothing else changed -/
def LeavesS (w : World) (b : Nat) (l : List UInt8) (c : Int) (s : Sl) (e : Ending) (w' : World) : Prop :=
  ∃ v, e = .returned (.tuple #[v, .int .i64 c]) ∧ OwnB w.heap.size w' v l ∧ SlAt 83 w' b s ∧ Chg [b] w w'
/-- likewise of the document's own, whose envelope is a string -/
def LeavesR (w : World) (b : Nat) (l : List UInt8) (c : Int) (s : Sl) (e : Ending) (w' : World) : Prop :=
  e = .returned (.tuple #[.string ⟨l.toArray⟩, .int .i64 c]) ∧ SlAt 40 w' b s ∧ Chg [b] w w'
end Go.Proofs.Ytngfnigfkabihaa
end
section
set_option linter.unusedSimpArgs false
set_option linter.unusedVariables false
namespace Go.Proofs.Ytngfnigfkabihaa
set_option maxRecDepth 100000
open Go.RowKit

theorem still_of {f : FuncId} {args : Array Value} {w : World} {v : Value} (h : Calls Try.prog f args w fun e w' => e = .returned v ∧ w = w') : Calls Try.prog f args w fun e w' => e = .returned v ∧ w' = w := h.mono fun _ _ ⟨h1, h2⟩ => ⟨h1, h2.symm⟩
theorem grow_of {f : FuncId} {args : Array Value} {w : World} {v : Value} (h : Calls Try.prog f args w fun e w' => e = .returned v ∧ w = w') : Calls Try.prog f args w fun e w' => e = .returned v ∧ w.grownBy w' none := h.mono fun _ _ ⟨h1, h2⟩ => ⟨h1, h2 ▸ .refl w none⟩

/-- a walk's own: the object, and the message in a block of the call's own -/
structure KS (t : TypeId) (w : World) (g b : Nat) (s : Sl) (m : Mg) (W : World) : Prop where
  ob : SlAt t W b s
  box : W.heap[g]? = some (.cells m.cells 46)
  gr : w.grownBy W none
  lt : b < w.heap.size
  lo : w.heap.size ≤ g
section
variable {t : TypeId} {w W W1 : World} {g b : Nat} {s : Sl} {m : Mg}
theorem KS.grown (h : KS t w g b s m W) (hg : W.grownBy W1 none) : KS t w g b s m W1 := ⟨h.ob.grown hg, at_grown h.box hg (by simp), gb_trans h.gr hg (.inl rfl), h.lt, h.lo⟩
theorem KS.drew (h : KS t w g b s m W) : KS t w g b s m W.drew := ⟨h.ob.drew, h.box, gb_drew h.gr, h.lt, h.lo⟩
theorem SlAt.keep (H : SlAt t W b s) : W.cell? ⟨b, 1, none⟩ = some (.int .i64 s.who) ∧ W.cell? ⟨b, 3, none⟩ = some (.int .i64 s.seq) ∧ SlAt t W b s := ⟨H.cells.2.1, H.cells.2.2.2.1, H⟩
theorem SlAt.other (H : SlAt t W b s) {i : Nat} (v : Value) (hn : b ≠ g) : SlAt t (W.setCell ⟨g, i, none⟩ v) b s := ⟨at_set_other H.top hn v, H.ok⟩
theorem KS.ne (h : KS t w g b s m W) : b ≠ g := by have := h.lt; have := h.lo; omega
theorem ks_new (m : Mg) (H : SlAt t w b s) : KS t w w.heap.size b s m (w.alloc (.cells m.cells 46)) := ⟨H.grown (World.grownBy_alloc _ _ _), at_new w _, gb_alloc (.refl w none) _, H.lt, Nat.le_refl _⟩
theorem KS.put (h : KS t w g b s m W) : KS t w g b s (s.msg m) ((W.setCell ⟨g, 1, none⟩ (.int .i64 s.who)).setCell ⟨g, 3, none⟩ (.int .i64 (s.seq + 1))) :=
  ⟨⟨at_set_other (at_set_other h.ob.top (by have := h.lt; have := h.lo; simp; omega) _) (by have := h.lt; have := h.lo; simp; omega) _, h.ob.ok⟩,
   by have := at_set (at_set h.box 1 (.int .i64 s.who)) 3 (.int .i64 (s.seq + 1)); exact this, gb_new (gb_new h.gr h.lo _) h.lo _, h.lt, h.lo⟩
theorem KS.own (h : KS t w g b s m W) : W.cell? ⟨g, 1, none⟩ = some (.int .i64 m.who) ∧ W.cell? ⟨g, 3, none⟩ = some (.int .i64 m.seq) ∧ W.frozen? ⟨g, 1, none⟩ = false ∧ W.frozen? ⟨g, 3, none⟩ = false := ⟨at_cell h.box 1, at_cell h.box 3, at_free h.box 1, at_free h.box 3⟩
end


/-- a new one -/
def MadeS (w : World) (s : Sl) (e : Ending) (w' : World) : Prop := ∃ b, e = .returned (.pointer (some ⟨b, 0, none⟩)) ∧ SlAt 83 w' b s ∧ w.grownBy w' none ∧ w.heap.size ≤ b
set_option maxHeartbeats 1600000 in
theorem snew_ok (seed : BitVec 64) (who : Int) (h0 : 0 ≤ who) (h1 : who ≤ 15) (w : World) :
    Calls Try.prog 10 #[.int .u64 (q seed), .int .i64 who] w (MadeS w (.new seed who)) := by
  have L : Hid (SlAt 83 (w.alloc (.cells #[.int .u64 (q seed), .int .i64 who, .int .i64 0, .int .i64 0] 83)) w.heap.size (.new seed who)) := hid ⟨at_new w _, sl_new_ok seed h0 h1⟩
  have d0 : decide (who < 0) = false := by simp; omega
  have d1 : decide (16 ≤ who) = false := by simp; omega
  have d2 : decide (15 < who) = false := by simp; omega
  clear h0 h1
  go_enter Try.func10, Try.ntmps10
  go_wp2_with fail
  go_ret
  exact ⟨_, rfl, L.out, gb_alloc (.refl w none) _, Nat.le_refl _⟩
set_option maxHeartbeats 1600000 in
theorem snew_nil (seed : BitVec 64) (who : Int) (h : ¬ (0 ≤ who ∧ who ≤ 15)) (w : World) :
    Calls Try.prog 10 #[.int .u64 (q seed), .int .i64 who] w fun e w' => e = .returned (.pointer none) ∧ w = w' := by
  by_cases h0 : who < 0
  · have d0 : decide (who < 0) = true := by simpa using h0
    clear h h0
    go_enter Try.func10, Try.ntmps10
    go_wp2_with fail
    go_ret
    exact ⟨rfl, rfl⟩
  · have d0 : decide (who < 0) = false := by simpa using h0
    have d1 : decide (16 ≤ who) = true := by simp; omega
    have d2 : decide (15 < who) = true := by simp; omega
    clear h h0
    go_enter Try.func10, Try.ntmps10
    go_wp2_with fail
    go_ret
    exact ⟨rfl, rfl⟩

theorem sgen_any {b : Nat} {s : Sl} (w : World) (H : SlAt 83 w b s) :
    Calls Try.prog 19 #[.pointer (some ⟨b, 0, none⟩)] w fun e w' => e = .returned (.int .i64 s.gen) ∧ w = w' := by
  obtain ⟨c0, c1, c2, c3, f2, f3⟩ := H.cells
  clear H
  go_enter Try.func19, Try.ntmps19
  go_wp2_with fail
  refine (load_i64 _ s.gen _ c2).mono ?_
  rintro e w1 ⟨rfl, rfl⟩
  go_wp2_with fail
  go_ret
  exact ⟨rfl, rfl⟩
theorem sgen_nil (w : World) :
    Calls Try.prog 19 #[.pointer none] w fun e w' => e = .returned (.int .i64 (-1)) ∧ w = w' := by
  go_enter Try.func19, Try.ntmps19
  go_wp2_with fail
  go_ret
  exact ⟨rfl, rfl⟩

theorem sseq_any {b : Nat} {s : Sl} (w : World) (H : SlAt 83 w b s) :
    Calls Try.prog 20 #[.pointer (some ⟨b, 0, none⟩)] w fun e w' => e = .returned (.int .i64 s.seq) ∧ w = w' := by
  obtain ⟨c0, c1, c2, c3, f2, f3⟩ := H.cells
  clear H
  go_enter Try.func20, Try.ntmps20
  go_wp2_with fail
  refine (load_i64 _ s.seq _ c3).mono ?_
  rintro e w1 ⟨rfl, rfl⟩
  go_wp2_with fail
  go_ret
  exact ⟨rfl, rfl⟩
theorem sseq_nil (w : World) :
    Calls Try.prog 20 #[.pointer none] w fun e w' => e = .returned (.int .i64 (-1)) ∧ w = w' := by
  go_enter Try.func20, Try.ntmps20
  go_wp2_with fail
  go_ret
  exact ⟨rfl, rfl⟩

set_option maxHeartbeats 3200000 in
theorem seal_yes {b : Nat} {s : Sl} (m : Mg) (hm : mayOf (s.msg m) = true) (w : World) (H : SlAt 83 w b s) :
    Calls Try.prog 44 #[.pointer (some ⟨b, 0, none⟩), mg m] w (LeavesS w b (sealOf s.k.a s.k.b (s.msg m)) 0 ⟨s.seed, s.who, s.gen, s.seq + 1⟩) := by
  have E : Hid (∀ w, Calls Try.prog 32 #[.int .u64 (q s.seed), .int .i64 s.who, .int .i64 s.gen] w fun e w' => e = .returned (pair s.k.a s.k.b) ∧ w.grownBy w' none) := hid (fun w => of_any s.seed s.who s.gen w)
  have S := hid (fun w => seal_good s.k.a s.k.b (s.msg m) hm w)
  have K := hid (ks_new m H)
  have L : Hid (∀ W v, OwnB w.heap.size W v (sealOf s.k.a s.k.b (s.msg m)) → KS 83 w w.heap.size b s (s.msg m) W → LeavesS w b (sealOf s.k.a s.k.b (s.msg m)) 0 ⟨s.seed, s.who, s.gen, s.seq + 1⟩ (.returned (.tuple #[v, .int .i64 0])) (W.setCell ⟨b, 3, none⟩ (.int .i64 (s.seq + 1)))) := hid (fun W v ho hk => ⟨v, rfl, ho.chg ((chg_refl W [b]).set (.inl (by simp)) _) (fun x hx => by rcases List.mem_singleton.1 hx with rfl; exact hk.lt), (hk.ob.putSeq (by have := hk.ob.ok.q0; omega) (may_of hm).2.2.2.1.2), (chg_grown hk.gr [b]).set (.inl (by simp)) _⟩)
  have U := hid (fun W (h : KS 83 w w.heap.size b s m W) => h.put)
  have q0 := H.ok.q0; have q1 := H.ok.q1
  have s1 : IntKind.i64.wrap (s.seq + 1) = s.seq + 1 := IntWalk.i64_in _ (by omega)
  clear q0 q1 hm H
  obtain ⟨mm, hmm⟩ : ∃ mm, s.msg m = mm := ⟨_, rfl⟩
  rw [hmm] at L S U ⊢
  obtain ⟨ll, hll⟩ : ∃ ll, sealOf s.k.a s.k.b mm = ll := ⟨_, rfl⟩
  rw [hll] at S L ⊢
  clear hll
  clear hmm
  generalize s.k.a = ka at *
  generalize s.k.b = kb at *
  go_enter Try.func44, Try.ntmps44
  go_wp2_with fail
  refine wp_gen (fun wx => KS 83 w w.heap.size b s m wx) K.out ?_
  clear K
  intro wx kx
  obtain ⟨c0, c1, c2, c3, f2, f3⟩ := kx.ob.cells
  obtain ⟨o1, o3, g1, g3⟩ := kx.own
  have KX := hid kx; clear kx
  have KU := hid (U.out _ KX.out.drew)
  have NE := hid KX.out.ne
  have hh := KX.out.ob.drew.keep
  go_region_held3 (fun w' => w'.cell? ⟨b, 1, none⟩ = some (.int .i64 s.who) ∧ w'.cell? ⟨b, 3, none⟩ = some (.int .i64 s.seq) ∧ SlAt 83 w' b s) ((refine SlAt.keep ?_; (repeat (first | assumption | with_reducible exact KX.out.ob | with_reducible refine SlAt.drew ?_ | with_reducible refine SlAt.other ?_ _ NE.out)))) (first | (go_at_call 20; (with_reducible refine (sseq_any _ (by first | assumption | exact KX.out.ob | exact KX.out.ob.drew)).mono ?_); rintro e wa ⟨rfl, rfl⟩))
  clear hh NE
  go_wp2_with fail
  clear c0 c1 c2 c3 f2 f3 o1 o3 g1 g3
  refine wp_gen (fun wy => KS 83 w w.heap.size b s mm wy) (by first | exact KU.out | exact KU.out.drew) ?_
  clear KU KX U
  intro wy ky
  have KY := hid ky; clear ky
  refine wp_region_held_drew (S := (fun w' => (KS 83 w w.heap.size b s mm w'))) (by kernel_rfl) KY.out.drew (fun hHeld => ?_)
  try dsimp only at hHeld
  refine' wpAnyH_take (i := 0) (v := _) rfl (by kernel_rfl) (by kernel_rfl) (by kernel_rfl) (fun _ _ _ h => h) (Or.inl ⟨by rfl, ?_⟩) hHeld ?_
  rotate_left
  · (intro w hSw; (try dsimp only at hSw); go_simp; try with_reducible rfl)
  try simp only [Act.put, List.setIfInBounds_toArray, List.set_cons_zero, List.set_cons_succ, List.getElem_toArray, List.getElem_cons_succ, List.getElem_cons_zero]
  refine' wpAnyH_take (i := 1) (v := _) rfl (by kernel_rfl) (by kernel_rfl) (by kernel_rfl) (fun _ _ _ h => h) (Or.inl ⟨by rfl, ?_⟩) hHeld ?_
  rotate_left
  · (intro w hSw; (try dsimp only at hSw); go_simp; try with_reducible rfl)
  try simp only [Act.put, List.setIfInBounds_toArray, List.set_cons_zero, List.set_cons_succ, List.getElem_toArray, List.getElem_cons_succ, List.getElem_cons_zero]
  refine' wpAnyH_take (i := 2) (v := _) rfl (by kernel_rfl) (by kernel_rfl) (by kernel_rfl) (fun _ _ _ h => h) (Or.inl ⟨by rfl, ?_⟩) hHeld ?_
  rotate_left
  · (intro w hSw; (try dsimp only at hSw); go_simp; try with_reducible rfl)
  try simp only [Act.put, List.setIfInBounds_toArray, List.set_cons_zero, List.set_cons_succ, List.getElem_toArray, List.getElem_cons_succ, List.getElem_cons_zero]
  refine' wpAnyH_take (i := 3) (v := _) rfl (by kernel_rfl) (by kernel_rfl) (by kernel_rfl) (fun _ _ _ h => h) (Or.inl ⟨by rfl, ?_⟩) hHeld ?_
  rotate_left
  · (intro w hSw; (try dsimp only at hSw); have kk := hSw; obtain ⟨c0, c1, c2, c3, f2, f3⟩ := kk.ob.cells; go_simp; try with_reducible rfl)
  try simp only [Act.put, List.setIfInBounds_toArray, List.set_cons_zero, List.set_cons_succ, List.getElem_toArray, List.getElem_cons_succ, List.getElem_cons_zero]
  refine' wpAnyH_take (i := 4) (v := _) rfl (by kernel_rfl) (by kernel_rfl) (by kernel_rfl) (fun _ _ _ h => h) (Or.inl ⟨by rfl, ?_⟩) hHeld ?_
  rotate_left
  · (intro w hSw; (try dsimp only at hSw); go_simp; try with_reducible rfl)
  try simp only [Act.put, List.setIfInBounds_toArray, List.set_cons_zero, List.set_cons_succ, List.getElem_toArray, List.getElem_cons_succ, List.getElem_cons_zero]
  refine' wpAnyH_take (i := 5) (v := _) rfl (by kernel_rfl) (by kernel_rfl) (by kernel_rfl) (fun _ _ _ h => h) (Or.inl ⟨by rfl, ?_⟩) hHeld ?_
  rotate_left
  · (intro w hSw; (try dsimp only at hSw); go_simp; try with_reducible rfl)
  try simp only [Act.put, List.setIfInBounds_toArray, List.set_cons_zero, List.set_cons_succ, List.getElem_toArray, List.getElem_cons_succ, List.getElem_cons_zero]
  refine' wpAnyH_take (i := 6) (v := _) rfl (by kernel_rfl) (by kernel_rfl) (by kernel_rfl) (fun _ _ _ h => h) (Or.inl ⟨by rfl, ?_⟩) hHeld ?_
  rotate_left
  · (intro w hSw; (try dsimp only at hSw); go_simp; try with_reducible rfl)
  try simp only [Act.put, List.setIfInBounds_toArray, List.set_cons_zero, List.set_cons_succ, List.getElem_toArray, List.getElem_cons_succ, List.getElem_cons_zero]
  refine' wpAnyH_take (i := 7) (v := _) rfl (by kernel_rfl) (by kernel_rfl) (by kernel_rfl) (fun _ _ _ h => h) (Or.inl ⟨by rfl, ?_⟩) hHeld ?_
  rotate_left
  · (intro w hSw; (try dsimp only at hSw); have kk := hSw; obtain ⟨c0, c1, c2, c3, f2, f3⟩ := kk.ob.cells; go_simp; try with_reducible rfl)
  try simp only [Act.put, List.setIfInBounds_toArray, List.set_cons_zero, List.set_cons_succ, List.getElem_toArray, List.getElem_cons_succ, List.getElem_cons_zero]
  refine' wpAnyH_take (i := 8) (v := _) rfl (by kernel_rfl) (by kernel_rfl) (by kernel_rfl) (fun _ _ _ h => h) (Or.inl ⟨by rfl, ?_⟩) hHeld ?_
  rotate_left
  · (intro w hSw; (try dsimp only at hSw); go_simp; try with_reducible rfl)
  try simp only [Act.put, List.setIfInBounds_toArray, List.set_cons_zero, List.set_cons_succ, List.getElem_toArray, List.getElem_cons_succ, List.getElem_cons_zero]
  refine' wpAnyH_take (i := 11) (v := _) rfl (by kernel_rfl) (by kernel_rfl) (by kernel_rfl) (fun _ _ _ h => h) (Or.inl ⟨by rfl, ?_⟩) hHeld ?_
  rotate_left
  · (intro w hSw; (try dsimp only at hSw); (try simp only [List.getElem_toArray, List.getElem_cons_succ, List.getElem_cons_zero]); refine exec_row (x := .tmp 3) hSw.box Try.underlying46 rfl (by kernel_rfl) ?_ ?_ <;> rfl)
  try simp only [Act.put, List.setIfInBounds_toArray, List.set_cons_zero, List.set_cons_succ, List.getElem_toArray, List.getElem_cons_succ, List.getElem_cons_zero]
  refine wpAnyH_ready (rs := [9]) (by kernel_rfl) (by simp) ?_
  refine AllReadyH.cons (o := _) rfl (fun K hK => ?_) AllReadyH.nil
  try simp only [List.getElem_toArray, List.getElem_cons_succ, List.getElem_cons_zero]
  go_simp
  have hH2 := hHeld
  have kk := hH2
  refine (grow_of (sgen_any _ kk.ob)).mono ?_
  rintro e w1009 ⟨rfl, hg⟩
  have L9 := hid (show (KS 83 w w.heap.size b s mm w1009) from kk.grown hg)
  clear hHeld hg kk
  go_wp2_with fail
  refine hK.out _ _ ?_ (fun hHeld => ?_)
  · exact L9.out
  clear hK K
  try dsimp only at hHeld
  try simp only [Act.put, List.setIfInBounds_toArray, List.set_cons_zero, List.set_cons_succ, List.getElem_toArray, List.getElem_cons_succ, List.getElem_cons_zero]
  refine wpAnyH_ready (rs := [10]) (by kernel_rfl) (by simp) ?_
  refine AllReadyH.cons (o := _) rfl (fun K hK => ?_) AllReadyH.nil
  try simp only [List.getElem_toArray, List.getElem_cons_succ, List.getElem_cons_zero]
  go_simp
  have hH2 := hHeld
  have kk := hH2
  refine (E.out _).mono ?_
  rintro e w1010 ⟨rfl, hg⟩
  have L10 := hid (show (KS 83 w w.heap.size b s mm w1010) from kk.grown hg)
  clear hHeld hg kk
  go_wp2_with fail
  refine hK.out _ _ ?_ (fun hHeld => ?_)
  · exact L10.out
  clear hK K
  try dsimp only at hHeld
  try simp only [Act.put, List.setIfInBounds_toArray, List.set_cons_zero, List.set_cons_succ, List.getElem_toArray, List.getElem_cons_succ, List.getElem_cons_zero]
  refine wpAnyH_ready (rs := [12]) (by kernel_rfl) (by simp) ?_
  refine AllReadyH.cons (o := _) rfl (fun K hK => ?_) AllReadyH.nil
  try simp only [List.getElem_toArray, List.getElem_cons_succ, List.getElem_cons_zero]
  go_simp
  have hH2 := hHeld
  have kk := hH2
  refine (S.out _).mono ?_
  rintro e w1012 ⟨v, rfl, ho, hg⟩
  have L12 := hid (show (KS 83 w w.heap.size b s mm w1012) from kk.grown hg)
  have Nov := hid (show OwnB w.heap.size w1012 v ll from (ho.le (gb_size kk.gr)))
  clear hHeld hg kk
  go_wp2_with fail
  refine hK.out _ _ ?_ (fun hHeld => ?_)
  · exact L12.out
  clear hK K
  try dsimp only at hHeld
  try simp only [Act.put, List.setIfInBounds_toArray, List.set_cons_zero, List.set_cons_succ, List.getElem_toArray, List.getElem_cons_succ, List.getElem_cons_zero]
  refine held_stronger (S' := fun w' => (fun w' => OwnB w.heap.size w' v ll) w' ∧ ((fun w' => (KS 83 w w.heap.size b s mm w'))) w') (fun _ h => h.2) _ _ _ _ ?_
  replace hHeld := And.intro Nov.out hHeld
  try dsimp only at hHeld
  refine' wpAnyH_take (i := 13) (v := _) rfl (by kernel_rfl) (by kernel_rfl) (by kernel_rfl) (fun _ _ _ h => h) (Or.inl ⟨by rfl, ?_⟩) hHeld ?_
  rotate_left
  · (intro w hSw; (try dsimp only at hSw); go_simp; try with_reducible rfl)
  try simp only [Act.put, List.setIfInBounds_toArray, List.set_cons_zero, List.set_cons_succ, List.getElem_toArray, List.getElem_cons_succ, List.getElem_cons_zero]
  refine' wpAnyH_take (i := 14) (v := _) rfl (by kernel_rfl) (by kernel_rfl) (by kernel_rfl) (fun _ _ _ h => h) (Or.inl ⟨by rfl, ?_⟩) hHeld ?_
  rotate_left
  · (intro w hSw; (try dsimp only at hSw); go_simp; try with_reducible rfl)
  try simp only [Act.put, List.setIfInBounds_toArray, List.set_cons_zero, List.set_cons_succ, List.getElem_toArray, List.getElem_cons_succ, List.getElem_cons_zero]
  refine' wpAnyH_take (i := 15) (v := _) rfl (by kernel_rfl) (by kernel_rfl) (by kernel_rfl) (fun _ _ _ h => h) (Or.inl ⟨by rfl, ?_⟩) hHeld ?_
  rotate_left
  · (intro w hSw; (try dsimp only at hSw); go_simp; try with_reducible rfl)
  try simp only [Act.put, List.setIfInBounds_toArray, List.set_cons_zero, List.set_cons_succ, List.getElem_toArray, List.getElem_cons_succ, List.getElem_cons_zero]
  refine' wpAnyH_take (i := 16) (v := _) rfl (by kernel_rfl) (by kernel_rfl) (by kernel_rfl) (fun _ _ _ h => h) (Or.inl ⟨by rfl, ?_⟩) hHeld ?_
  rotate_left
  · (intro w hSw; (try dsimp only at hSw); go_simp; try with_reducible rfl)
  try simp only [Act.put, List.setIfInBounds_toArray, List.set_cons_zero, List.set_cons_succ, List.getElem_toArray, List.getElem_cons_succ, List.getElem_cons_zero]
  refine' wpAnyH_take (i := 17) (v := _) rfl (by kernel_rfl) (by kernel_rfl) (by kernel_rfl) (fun _ _ _ h => h) (Or.inl ⟨by rfl, ?_⟩) hHeld ?_
  rotate_left
  · (intro w hSw; (try dsimp only at hSw); go_simp; try with_reducible rfl)
  try simp only [Act.put, List.setIfInBounds_toArray, List.set_cons_zero, List.set_cons_succ, List.getElem_toArray, List.getElem_cons_succ, List.getElem_cons_zero]
  refine wpAnyH_done (by kernel_rfl) ?_ _
  obtain ⟨ov, kk⟩ := hHeld
  obtain ⟨c0, c1, c2, c3, f2, f3⟩ := kk.ob.cells
  have KZ := hid kk; clear kk
  have OV := hid ov; clear ov
  go_wp2_with fail
  refine (addn_i64 _ s.seq 1 (s.seq + 1) _ c3 f3 s1).mono ?_
  rintro e w9 ⟨rfl, rfl⟩
  go_wp2_with fail
  go_ret2
  exact L.out _ _ OV.out KZ.out

set_option maxHeartbeats 3200000 in
theorem seal_no {b : Nat} {s : Sl} (m : Mg) (hm : mayOf (s.msg m) = false) (w : World) (H : SlAt 83 w b s) :
    Calls Try.prog 44 #[.pointer (some ⟨b, 0, none⟩), mg m] w (LeavesS w b [] 1 s) := by
  have E : Hid (∀ w, Calls Try.prog 32 #[.int .u64 (q s.seed), .int .i64 s.who, .int .i64 s.gen] w fun e w' => e = .returned (pair s.k.a s.k.b) ∧ w.grownBy w' none) := hid (fun w => of_any s.seed s.who s.gen w)
  have S := hid (fun w => seal_bad s.k.a s.k.b (s.msg m) hm w)
  have K := hid (ks_new m H)
  have L : Hid (∀ W, KS 83 w w.heap.size b s (s.msg m) W → LeavesS w b [] 1 s (.returned (.tuple #[.slice none 0 0, .int .i64 1])) W) := hid (fun W hk => ⟨_, rfl, OwnB.nil _ _, hk.ob, chg_grown hk.gr [b]⟩)
  have U := hid (fun W (h : KS 83 w w.heap.size b s m W) => h.put)
  have q0 := H.ok.q0; have q1 := H.ok.q1
  have s1 : IntKind.i64.wrap (s.seq + 1) = s.seq + 1 := IntWalk.i64_in _ (by omega)
  clear q0 q1 hm H
  obtain ⟨mm, hmm⟩ : ∃ mm, s.msg m = mm := ⟨_, rfl⟩
  rw [hmm] at L S U
  clear hmm
  generalize s.k.a = ka at *
  generalize s.k.b = kb at *
  go_enter Try.func44, Try.ntmps44
  go_wp2_with fail
  refine wp_gen (fun wx => KS 83 w w.heap.size b s m wx) K.out ?_
  clear K
  intro wx kx
  obtain ⟨c0, c1, c2, c3, f2, f3⟩ := kx.ob.cells
  obtain ⟨o1, o3, g1, g3⟩ := kx.own
  have KX := hid kx; clear kx
  have KU := hid (U.out _ KX.out.drew)
  have NE := hid KX.out.ne
  have hh := KX.out.ob.drew.keep
  go_region_held3 (fun w' => w'.cell? ⟨b, 1, none⟩ = some (.int .i64 s.who) ∧ w'.cell? ⟨b, 3, none⟩ = some (.int .i64 s.seq) ∧ SlAt 83 w' b s) ((refine SlAt.keep ?_; (repeat (first | assumption | with_reducible exact KX.out.ob | with_reducible refine SlAt.drew ?_ | with_reducible refine SlAt.other ?_ _ NE.out)))) (first | (go_at_call 20; (with_reducible refine (sseq_any _ (by first | assumption | exact KX.out.ob | exact KX.out.ob.drew)).mono ?_); rintro e wa ⟨rfl, rfl⟩))
  clear hh NE
  go_wp2_with fail
  clear c0 c1 c2 c3 f2 f3 o1 o3 g1 g3
  refine wp_gen (fun wy => KS 83 w w.heap.size b s mm wy) (by first | exact KU.out | exact KU.out.drew) ?_
  clear KU KX U
  intro wy ky
  have KY := hid ky; clear ky
  refine wp_region_held_drew (S := (fun w' => (KS 83 w w.heap.size b s mm w'))) (by kernel_rfl) KY.out.drew (fun hHeld => ?_)
  try dsimp only at hHeld
  refine' wpAnyH_take (i := 0) (v := _) rfl (by kernel_rfl) (by kernel_rfl) (by kernel_rfl) (fun _ _ _ h => h) (Or.inl ⟨by rfl, ?_⟩) hHeld ?_
  rotate_left
  · (intro w hSw; (try dsimp only at hSw); go_simp; try with_reducible rfl)
  try simp only [Act.put, List.setIfInBounds_toArray, List.set_cons_zero, List.set_cons_succ, List.getElem_toArray, List.getElem_cons_succ, List.getElem_cons_zero]
  refine' wpAnyH_take (i := 1) (v := _) rfl (by kernel_rfl) (by kernel_rfl) (by kernel_rfl) (fun _ _ _ h => h) (Or.inl ⟨by rfl, ?_⟩) hHeld ?_
  rotate_left
  · (intro w hSw; (try dsimp only at hSw); go_simp; try with_reducible rfl)
  try simp only [Act.put, List.setIfInBounds_toArray, List.set_cons_zero, List.set_cons_succ, List.getElem_toArray, List.getElem_cons_succ, List.getElem_cons_zero]
  refine' wpAnyH_take (i := 2) (v := _) rfl (by kernel_rfl) (by kernel_rfl) (by kernel_rfl) (fun _ _ _ h => h) (Or.inl ⟨by rfl, ?_⟩) hHeld ?_
  rotate_left
  · (intro w hSw; (try dsimp only at hSw); go_simp; try with_reducible rfl)
  try simp only [Act.put, List.setIfInBounds_toArray, List.set_cons_zero, List.set_cons_succ, List.getElem_toArray, List.getElem_cons_succ, List.getElem_cons_zero]
  refine' wpAnyH_take (i := 3) (v := _) rfl (by kernel_rfl) (by kernel_rfl) (by kernel_rfl) (fun _ _ _ h => h) (Or.inl ⟨by rfl, ?_⟩) hHeld ?_
  rotate_left
  · (intro w hSw; (try dsimp only at hSw); have kk := hSw; obtain ⟨c0, c1, c2, c3, f2, f3⟩ := kk.ob.cells; go_simp; try with_reducible rfl)
  try simp only [Act.put, List.setIfInBounds_toArray, List.set_cons_zero, List.set_cons_succ, List.getElem_toArray, List.getElem_cons_succ, List.getElem_cons_zero]
  refine' wpAnyH_take (i := 4) (v := _) rfl (by kernel_rfl) (by kernel_rfl) (by kernel_rfl) (fun _ _ _ h => h) (Or.inl ⟨by rfl, ?_⟩) hHeld ?_
  rotate_left
  · (intro w hSw; (try dsimp only at hSw); go_simp; try with_reducible rfl)
  try simp only [Act.put, List.setIfInBounds_toArray, List.set_cons_zero, List.set_cons_succ, List.getElem_toArray, List.getElem_cons_succ, List.getElem_cons_zero]
  refine' wpAnyH_take (i := 5) (v := _) rfl (by kernel_rfl) (by kernel_rfl) (by kernel_rfl) (fun _ _ _ h => h) (Or.inl ⟨by rfl, ?_⟩) hHeld ?_
  rotate_left
  · (intro w hSw; (try dsimp only at hSw); go_simp; try with_reducible rfl)
  try simp only [Act.put, List.setIfInBounds_toArray, List.set_cons_zero, List.set_cons_succ, List.getElem_toArray, List.getElem_cons_succ, List.getElem_cons_zero]
  refine' wpAnyH_take (i := 6) (v := _) rfl (by kernel_rfl) (by kernel_rfl) (by kernel_rfl) (fun _ _ _ h => h) (Or.inl ⟨by rfl, ?_⟩) hHeld ?_
  rotate_left
  · (intro w hSw; (try dsimp only at hSw); go_simp; try with_reducible rfl)
  try simp only [Act.put, List.setIfInBounds_toArray, List.set_cons_zero, List.set_cons_succ, List.getElem_toArray, List.getElem_cons_succ, List.getElem_cons_zero]
  refine' wpAnyH_take (i := 7) (v := _) rfl (by kernel_rfl) (by kernel_rfl) (by kernel_rfl) (fun _ _ _ h => h) (Or.inl ⟨by rfl, ?_⟩) hHeld ?_
  rotate_left
  · (intro w hSw; (try dsimp only at hSw); have kk := hSw; obtain ⟨c0, c1, c2, c3, f2, f3⟩ := kk.ob.cells; go_simp; try with_reducible rfl)
  try simp only [Act.put, List.setIfInBounds_toArray, List.set_cons_zero, List.set_cons_succ, List.getElem_toArray, List.getElem_cons_succ, List.getElem_cons_zero]
  refine' wpAnyH_take (i := 8) (v := _) rfl (by kernel_rfl) (by kernel_rfl) (by kernel_rfl) (fun _ _ _ h => h) (Or.inl ⟨by rfl, ?_⟩) hHeld ?_
  rotate_left
  · (intro w hSw; (try dsimp only at hSw); go_simp; try with_reducible rfl)
  try simp only [Act.put, List.setIfInBounds_toArray, List.set_cons_zero, List.set_cons_succ, List.getElem_toArray, List.getElem_cons_succ, List.getElem_cons_zero]
  refine' wpAnyH_take (i := 11) (v := _) rfl (by kernel_rfl) (by kernel_rfl) (by kernel_rfl) (fun _ _ _ h => h) (Or.inl ⟨by rfl, ?_⟩) hHeld ?_
  rotate_left
  · (intro w hSw; (try dsimp only at hSw); (try simp only [List.getElem_toArray, List.getElem_cons_succ, List.getElem_cons_zero]); refine exec_row (x := .tmp 3) hSw.box Try.underlying46 rfl (by kernel_rfl) ?_ ?_ <;> rfl)
  try simp only [Act.put, List.setIfInBounds_toArray, List.set_cons_zero, List.set_cons_succ, List.getElem_toArray, List.getElem_cons_succ, List.getElem_cons_zero]
  refine wpAnyH_ready (rs := [9]) (by kernel_rfl) (by simp) ?_
  refine AllReadyH.cons (o := _) rfl (fun K hK => ?_) AllReadyH.nil
  try simp only [List.getElem_toArray, List.getElem_cons_succ, List.getElem_cons_zero]
  go_simp
  have hH2 := hHeld
  have kk := hH2
  refine (grow_of (sgen_any _ kk.ob)).mono ?_
  rintro e w1009 ⟨rfl, hg⟩
  have L9 := hid (show (KS 83 w w.heap.size b s mm w1009) from kk.grown hg)
  clear hHeld hg kk
  go_wp2_with fail
  refine hK.out _ _ ?_ (fun hHeld => ?_)
  · exact L9.out
  clear hK K
  try dsimp only at hHeld
  try simp only [Act.put, List.setIfInBounds_toArray, List.set_cons_zero, List.set_cons_succ, List.getElem_toArray, List.getElem_cons_succ, List.getElem_cons_zero]
  refine wpAnyH_ready (rs := [10]) (by kernel_rfl) (by simp) ?_
  refine AllReadyH.cons (o := _) rfl (fun K hK => ?_) AllReadyH.nil
  try simp only [List.getElem_toArray, List.getElem_cons_succ, List.getElem_cons_zero]
  go_simp
  have hH2 := hHeld
  have kk := hH2
  refine (E.out _).mono ?_
  rintro e w1010 ⟨rfl, hg⟩
  have L10 := hid (show (KS 83 w w.heap.size b s mm w1010) from kk.grown hg)
  clear hHeld hg kk
  go_wp2_with fail
  refine hK.out _ _ ?_ (fun hHeld => ?_)
  · exact L10.out
  clear hK K
  try dsimp only at hHeld
  try simp only [Act.put, List.setIfInBounds_toArray, List.set_cons_zero, List.set_cons_succ, List.getElem_toArray, List.getElem_cons_succ, List.getElem_cons_zero]
  refine wpAnyH_ready (rs := [12]) (by kernel_rfl) (by simp) ?_
  refine AllReadyH.cons (o := _) rfl (fun K hK => ?_) AllReadyH.nil
  try simp only [List.getElem_toArray, List.getElem_cons_succ, List.getElem_cons_zero]
  go_simp
  have hH2 := hHeld
  have kk := hH2
  refine (S.out _).mono ?_
  rintro e w1012 ⟨rfl, hg⟩
  have L12 := hid (show (KS 83 w w.heap.size b s mm w1012) from kk.grown hg)
  clear hHeld hg kk
  go_wp2_with fail
  refine hK.out _ _ ?_ (fun hHeld => ?_)
  · exact L12.out
  clear hK K
  try dsimp only at hHeld
  try simp only [Act.put, List.setIfInBounds_toArray, List.set_cons_zero, List.set_cons_succ, List.getElem_toArray, List.getElem_cons_succ, List.getElem_cons_zero]
  refine' wpAnyH_take (i := 13) (v := _) rfl (by kernel_rfl) (by kernel_rfl) (by kernel_rfl) (fun _ _ _ h => h) (Or.inl ⟨by rfl, ?_⟩) hHeld ?_
  rotate_left
  · (intro w hSw; (try dsimp only at hSw); go_simp; try with_reducible rfl)
  try simp only [Act.put, List.setIfInBounds_toArray, List.set_cons_zero, List.set_cons_succ, List.getElem_toArray, List.getElem_cons_succ, List.getElem_cons_zero]
  refine' wpAnyH_take (i := 14) (v := _) rfl (by kernel_rfl) (by kernel_rfl) (by kernel_rfl) (fun _ _ _ h => h) (Or.inl ⟨by rfl, ?_⟩) hHeld ?_
  rotate_left
  · (intro w hSw; (try dsimp only at hSw); go_simp; try with_reducible rfl)
  try simp only [Act.put, List.setIfInBounds_toArray, List.set_cons_zero, List.set_cons_succ, List.getElem_toArray, List.getElem_cons_succ, List.getElem_cons_zero]
  refine' wpAnyH_take (i := 15) (v := _) rfl (by kernel_rfl) (by kernel_rfl) (by kernel_rfl) (fun _ _ _ h => h) (Or.inl ⟨by rfl, ?_⟩) hHeld ?_
  rotate_left
  · (intro w hSw; (try dsimp only at hSw); go_simp; try with_reducible rfl)
  try simp only [Act.put, List.setIfInBounds_toArray, List.set_cons_zero, List.set_cons_succ, List.getElem_toArray, List.getElem_cons_succ, List.getElem_cons_zero]
  refine' wpAnyH_take (i := 16) (v := _) rfl (by kernel_rfl) (by kernel_rfl) (by kernel_rfl) (fun _ _ _ h => h) (Or.inl ⟨by rfl, ?_⟩) hHeld ?_
  rotate_left
  · (intro w hSw; (try dsimp only at hSw); go_simp; try with_reducible rfl)
  try simp only [Act.put, List.setIfInBounds_toArray, List.set_cons_zero, List.set_cons_succ, List.getElem_toArray, List.getElem_cons_succ, List.getElem_cons_zero]
  refine' wpAnyH_take (i := 17) (v := _) rfl (by kernel_rfl) (by kernel_rfl) (by kernel_rfl) (fun _ _ _ h => h) (Or.inl ⟨by rfl, ?_⟩) hHeld ?_
  rotate_left
  · (intro w hSw; (try dsimp only at hSw); go_simp; try with_reducible rfl)
  try simp only [Act.put, List.setIfInBounds_toArray, List.set_cons_zero, List.set_cons_succ, List.getElem_toArray, List.getElem_cons_succ, List.getElem_cons_zero]
  refine wpAnyH_done (by kernel_rfl) ?_ _
  have kk := hHeld
  obtain ⟨c0, c1, c2, c3, f2, f3⟩ := kk.ob.cells
  have KZ := hid kk; clear kk
  go_wp2_with fail
  go_ret2
  exact L.out _ KZ.out

theorem seal_any_s {b : Nat} {s : Sl} (m : Mg) (w : World) (H : SlAt 83 w b s) :
    Calls Try.prog 44 #[.pointer (some ⟨b, 0, none⟩), mg m] w (LeavesS w b (s.out m) (s.code m) (s.step m)) := by
  unfold Sl.out Sl.code Sl.step putC sealB
  cases h : mayOf (s.msg m)
  · exact seal_no m h w H
  · exact seal_yes m h w H
theorem seal_nil (m : Mg) (w : World) :
    Calls Try.prog 44 #[.pointer none, mg m] w fun e w' => e = .returned (.tuple #[.slice none 0 0, .int .i64 1]) ∧ w.grownBy w' none := by
  go_enter Try.func44, Try.ntmps44
  go_wp2_with fail
  go_ret2
  exact ⟨rfl, gb_alloc (.refl w none) _⟩
end Go.Proofs.Ytngfnigfkabihaa
end
section
set_option linter.unusedSimpArgs false
namespace Go.Proofs.Ytngfnigfkabihaa
set_option maxRecDepth 100000
open Go.RowKit

/-- what a word of a derived key is the sum of, as the document's own answer lays it -/
def labelled (s : ByteArray) (mb : UInt8) (n : BitVec 64) : ByteArray := s ++ ⟨[mb].toArray⟩ ++ ⟨(put8 n).toArray⟩
theorem labelled_size (s : ByteArray) (mb : UInt8) (n : BitVec 64) : (labelled s mb n).size = s.size + 9 := by
  simp [labelled, ByteArray.size_append]; rfl
theorem refsum_der (k0 k1 : BitVec 64) (s : ByteArray) (hs : s.size ≤ 1000) (mb : UInt8) (n : BitVec 64) (w : World) :
    Calls Try.prog 54 #[pair k0 k1, .string (s ++ ⟨[mb].toArray⟩ ++ ⟨(put8 n).toArray⟩)] w fun e w' => e = .returned (.int .u64 (q (derived k0 k1 s n mb))) ∧ w.grownBy w' none := by
  have h := refsum_str k0 k1 (labelled s mb n) (by rw [labelled_size]; omega) w
  have e : (labelled s mb n).data.toList = s.data.toList ++ [mb] ++ put8 n := by simp [labelled]
  rw [e] at h
  exact h
end Go.Proofs.Ytngfnigfkabihaa
end
section
set_option linter.unusedSimpArgs false
set_option linter.unusedVariables false
namespace Go.Proofs.Ytngfnigfkabihaa
set_option maxRecDepth 100000
open Go.RowKit

/-- a block that the call made, and what lies in it -/
def Blk (w : World) (g : Nat) (o : Obj) (w' : World) : Prop := w.heap.size + 1 < g ∧ w'.heap[g]? = some o
theorem conv_1 {w : World} {g : Nat} (h : w.heap[g]? = some (.cells #[.int .u8 1] 5)) : (convert 29 9 (.slice (some ⟨g, 0, none⟩) 1 1)).run Try.prog w = .ok (.string ⟨#[1]⟩) w := conv_bytes (bytes_of_cells [1] h (by unfold maxLen; simp))
theorem conv_2 {w : World} {g : Nat} (h : w.heap[g]? = some (.cells #[.int .u8 2] 5)) : (convert 29 9 (.slice (some ⟨g, 0, none⟩) 1 1)).run Try.prog w = .ok (.string ⟨#[2]⟩) w := conv_bytes (bytes_of_cells [2] h (by unfold maxLen; simp))
theorem Blk.grown {w : World} {g : Nat} {o : Obj} {w1 w2 : World} (h : Blk w g o w1) (hg : w1.grownBy w2 none) : Blk w g o w2 := ⟨h.1, at_grown h.2 hg (by simp)⟩
theorem Blk.set0 {w : World} {g : Nat} {o : Obj} {w1 : World} (h : Blk w g o w1) (v : Value) : Blk w g o (w1.setCell ⟨w.heap.size + 1, 0, none⟩ v) := ⟨h.1, at_set_other h.2 (by have := h.1; simp; omega) v⟩
theorem Blk.set1 {w : World} {g : Nat} {o : Obj} {w1 : World} (h : Blk w g o w1) (v : Value) : Blk w g o (w1.setCell ⟨w.heap.size + 1, 1, none⟩ v) := ⟨h.1, at_set_other h.2 (by have := h.1; simp; omega) v⟩
theorem Box.size {w : World} {k0 k1 : BitVec 64} {t t' : TypeId} {w1 : World} (h : Box w k0 k1 t t' w1) : w.heap.size + 1 < w1.heap.size := by obtain ⟨x, y, h⟩ := h.ans; exact at_lt h

set_option maxHeartbeats 8000000 in
theorem refderive_any (k0 k1 : BitVec 64) (s : ByteArray) (hs : s.size ≤ 1000) (n : BitVec 64) (w : World) :
    Calls Try.prog 29 #[pair k0 k1, .string s, .int .u64 (q n)] w fun e w' => e = .returned (pair (derived k0 k1 s n 1) (derived k0 k1 s n 2)) ∧ w.grownBy w' none := by
  have hc0 := fun w => refsum_der k0 k1 s hs 1 n w
  have hc1 := fun w => refsum_der k0 k1 s hs 2 n w
  have hp := fun w => refput_any n w
  generalize derived k0 k1 s n 1 = a at hc0 ⊢
  generalize derived k0 k1 s n 2 = b at hc1 ⊢
  have zn : (⟨(put8 n).toArray⟩ : ByteArray).size = 8 := rfl
  generalize (⟨(put8 n).toArray⟩ : ByteArray) = sn at hc0 hc1 hp zn
  have C0 := hid hc0; have C1 := hid hc1; have HP := hid hp; clear hc0 hc1 hp
  go_enter Try.func29, Try.ntmps29
  go_wp2_with fail
  have hb : Box w k0 k1 61 61 ((w.alloc (.cells #[.int .u64 (q k0), .int .u64 (q k1)] 61)).alloc (.cells #[.int .u64 0, .int .u64 0] 61)) :=
    ⟨at_alloc (at_new w _) _, ⟨_, _, at_new2 w _ _⟩, gb_alloc (gb_alloc (.refl w none) _) _⟩
  have HB := hid hb; clear hb
  refine wp_gen (fun w5 => Box w k0 k1 61 61 w5) HB.out ?_
  intro w5 h5
  have hb5 := Box.drew h5
  clear HB h5
  refine wp_region_held_drew (S := (fun w' => w'.cell? ⟨w.heap.size, 0, none⟩ = some (.int .u64 (q k0)) ∧ w'.cell? ⟨w.heap.size, 1, none⟩ = some (.int .u64 (q k1)) ∧ Box w k0 k1 61 61 w')) (by kernel_rfl) (Box.keep hb5) (fun hHeld => ?_)
  try dsimp only at hHeld
  clear hb5
  generalize w5.drew = w5 at hHeld ⊢
  refine' wpAnyH_take (i := 0) (v := _) rfl (by kernel_rfl) (by kernel_rfl) (by kernel_rfl) (fun _ _ _ h => h) (Or.inl ⟨by rfl, ?_⟩) hHeld ?_
  rotate_left
  · (intro w hSw; (try dsimp only at hSw); go_simp; (try rw [if_neg (by omega)]); try with_reducible rfl)
  try simp only [Act.put, List.setIfInBounds_toArray, List.set_cons_zero, List.set_cons_succ, List.getElem_toArray, List.getElem_cons_succ, List.getElem_cons_zero]
  refine' wpAnyH_take (i := 1) (v := _) rfl (by kernel_rfl) (by kernel_rfl) (by kernel_rfl) (fun _ _ _ h => h) (Or.inl ⟨by rfl, ?_⟩) hHeld ?_
  rotate_left
  · (intro w hSw; (try dsimp only at hSw); go_simp; (try rw [if_neg (by omega)]); try with_reducible rfl)
  try simp only [Act.put, List.setIfInBounds_toArray, List.set_cons_zero, List.set_cons_succ, List.getElem_toArray, List.getElem_cons_succ, List.getElem_cons_zero]
  refine' wpAnyH_take (i := 5) (v := _) rfl (by kernel_rfl) (by kernel_rfl) (by kernel_rfl) (fun _ _ _ h => h) (Or.inl ⟨by rfl, ?_⟩) hHeld ?_
  rotate_left
  · (intro w hSw; (try dsimp only at hSw); go_simp; (try rw [if_neg (by omega)]); try with_reducible rfl)
  try simp only [Act.put, List.setIfInBounds_toArray, List.set_cons_zero, List.set_cons_succ, List.getElem_toArray, List.getElem_cons_succ, List.getElem_cons_zero]
  refine' wpAnyH_take (i := 9) (v := _) rfl (by kernel_rfl) (by kernel_rfl) (by kernel_rfl) (fun _ _ _ h => h) (Or.inl ⟨by rfl, ?_⟩) hHeld ?_
  rotate_left
  · (intro w hSw; (try dsimp only at hSw); go_simp; (try rw [if_neg (by omega)]); try with_reducible rfl)
  try simp only [Act.put, List.setIfInBounds_toArray, List.set_cons_zero, List.set_cons_succ, List.getElem_toArray, List.getElem_cons_succ, List.getElem_cons_zero]
  refine' wpAnyH_take (i := 10) (v := _) rfl (by kernel_rfl) (by kernel_rfl) (by kernel_rfl) (fun _ _ _ h => h) (Or.inl ⟨by rfl, ?_⟩) hHeld ?_
  rotate_left
  · (intro w hSw; (try dsimp only at hSw); go_simp; (try rw [if_neg (by omega)]); try with_reducible rfl)
  try simp only [Act.put, List.setIfInBounds_toArray, List.set_cons_zero, List.set_cons_succ, List.getElem_toArray, List.getElem_cons_succ, List.getElem_cons_zero]
  refine' wpAnyH_take (i := 14) (v := _) rfl (by kernel_rfl) (by kernel_rfl) (by kernel_rfl) (fun _ _ _ h => h) (Or.inl ⟨by rfl, ?_⟩) hHeld ?_
  rotate_left
  · (intro w hSw; (try dsimp only at hSw); go_simp; (try rw [if_neg (by omega)]); try with_reducible rfl)
  try simp only [Act.put, List.setIfInBounds_toArray, List.set_cons_zero, List.set_cons_succ, List.getElem_toArray, List.getElem_cons_succ, List.getElem_cons_zero]
  refine wpAnyH_ready (rs := [2, 6, 11]) (by kernel_rfl) (by simp) ?_
  refine AllReadyH.cons (o := _) rfl (fun K hK => ?_) (AllReadyH.cons (o := _) rfl (fun K hK => ?_) (AllReadyH.cons (o := _) rfl (fun K hK => ?_) (AllReadyH.nil)))
  · try simp only [List.getElem_toArray, List.getElem_cons_succ, List.getElem_cons_zero]
    have KP := hid ((Box.keep (Box.grown (box_box hHeld) (World.grownBy_alloc w5 (.cells #[.int .u8 1] 5) none))))
    have hnew := (⟨Box.size (box_box hHeld), at_new w5 _⟩ : (Blk w (w5.heap.size) (.cells #[.int .u8 1] 5)) (w5.alloc (.cells #[.int .u8 1] 5)))
    clear hHeld
    go_simp
    refine hK.out _ _ KP.out (fun hHeld => ?_)
    clear KP hK K
    try dsimp only at hHeld hnew
    generalize w5.alloc (.cells #[.int .u8 1] 5) = w101 at hHeld hnew ⊢
    try simp only [Act.put, List.setIfInBounds_toArray, List.set_cons_zero, List.set_cons_succ, List.getElem_toArray, List.getElem_cons_succ, List.getElem_cons_zero]
    refine held_stronger (S' := fun w' => (Blk w (w5.heap.size) (.cells #[.int .u8 1] 5)) w' ∧ (fun w' => w'.cell? ⟨w.heap.size, 0, none⟩ = some (.int .u64 (q k0)) ∧ w'.cell? ⟨w.heap.size, 1, none⟩ = some (.int .u64 (q k1)) ∧ Box w k0 k1 61 61 w') w') (fun _ h => h.2) _ _ _ _ ?_
    replace hHeld := And.intro hnew hHeld
    clear hnew
    try dsimp only at hHeld
    refine' wpAnyH_take (i := 3) (v := _) rfl (by kernel_rfl) (by kernel_rfl) (by kernel_rfl) (fun _ _ _ h => h) (Or.inl ⟨by rfl, ?_⟩) hHeld ?_
    rotate_left
    · (intro w hSw; (try dsimp only at hSw); have cv := conv_1 hSw.1.2; go_simp; (try rw [if_neg (by omega)]); try with_reducible rfl)
    try simp only [Act.put, List.setIfInBounds_toArray, List.set_cons_zero, List.set_cons_succ, List.getElem_toArray, List.getElem_cons_succ, List.getElem_cons_zero]
    refine' wpAnyH_take (i := 4) (v := _) rfl (by kernel_rfl) (by kernel_rfl) (by kernel_rfl) (fun _ _ _ h => h) (Or.inl ⟨by rfl, ?_⟩) hHeld ?_
    rotate_left
    · (intro w hSw; (try dsimp only at hSw); go_simp; (try rw [if_neg (by omega)]); try with_reducible rfl)
    try simp only [Act.put, List.setIfInBounds_toArray, List.set_cons_zero, List.set_cons_succ, List.getElem_toArray, List.getElem_cons_succ, List.getElem_cons_zero]
    refine wpAnyH_ready (rs := [6, 11]) (by kernel_rfl) (by simp) ?_
    refine AllReadyH.cons (o := _) rfl (fun K hK => ?_) (AllReadyH.cons (o := _) rfl (fun K hK => ?_) (AllReadyH.nil))
    · try simp only [List.getElem_toArray, List.getElem_cons_succ, List.getElem_cons_zero]
      go_simp
      refine (HP.out _).mono ?_
      rintro e w102 ⟨rfl, hg⟩
      have KP := hid (And.intro (Blk.grown hHeld.1 hg) ((Box.keep (Box.grown (box_box hHeld.2) hg))))
      clear hHeld hg
      go_wp2_with fail
      refine hK.out _ _ KP.out (fun hHeld => ?_)
      clear KP hK K
      try dsimp only at hHeld
      try simp only [Act.put, List.setIfInBounds_toArray, List.set_cons_zero, List.set_cons_succ, List.getElem_toArray, List.getElem_cons_succ, List.getElem_cons_zero]
      refine' wpAnyH_take (i := 7) (v := _) rfl (by kernel_rfl) (by kernel_rfl) (by kernel_rfl) (fun _ _ _ h => h) (Or.inl ⟨by rfl, ?_⟩) hHeld ?_
      rotate_left
      · (intro w hSw; (try dsimp only at hSw); go_simp; (try rw [if_neg (by omega)]); try with_reducible rfl)
      try simp only [Act.put, List.setIfInBounds_toArray, List.set_cons_zero, List.set_cons_succ, List.getElem_toArray, List.getElem_cons_succ, List.getElem_cons_zero]
      refine wpAnyH_ready (rs := [8, 11]) (by kernel_rfl) (by simp) ?_
      refine AllReadyH.cons (o := _) rfl (fun K hK => ?_) (AllReadyH.cons (o := _) rfl (fun K hK => ?_) (AllReadyH.nil))
      · try simp only [List.getElem_toArray, List.getElem_cons_succ, List.getElem_cons_zero]
        go_simp
        refine (C0.out _).mono ?_
        rintro e w103 ⟨rfl, hg⟩
        have KP := hid (And.intro (Blk.grown hHeld.1 hg) ((Box.keep (Box.grown (box_box hHeld.2) hg))))
        clear hHeld hg
        go_wp2_with fail
        refine hK.out _ _ KP.out (fun hHeld => ?_)
        clear KP hK K
        try dsimp only at hHeld
        try simp only [Act.put, List.setIfInBounds_toArray, List.set_cons_zero, List.set_cons_succ, List.getElem_toArray, List.getElem_cons_succ, List.getElem_cons_zero]
        refine wpAnyH_ready (rs := [11, 15]) (by kernel_rfl) (by simp) ?_
        refine AllReadyH.cons (o := _) rfl (fun K hK => ?_) (AllReadyH.cons (o := _) rfl (fun K hK => ?_) (AllReadyH.nil))
        · try simp only [List.getElem_toArray, List.getElem_cons_succ, List.getElem_cons_zero]
          have KP := hid (And.intro (Blk.grown hHeld.1 (World.grownBy_alloc w103 (.cells #[.int .u8 2] 5) none)) ((Box.keep (Box.grown (box_box hHeld.2) (World.grownBy_alloc w103 (.cells #[.int .u8 2] 5) none)))))
          have hnew := (⟨Box.size (box_box hHeld.2), at_new w103 _⟩ : (Blk w (w103.heap.size) (.cells #[.int .u8 2] 5)) (w103.alloc (.cells #[.int .u8 2] 5)))
          clear hHeld
          go_simp
          refine hK.out _ _ KP.out (fun hHeld => ?_)
          clear KP hK K
          try dsimp only at hHeld hnew
          generalize w103.alloc (.cells #[.int .u8 2] 5) = w104 at hHeld hnew ⊢
          try simp only [Act.put, List.setIfInBounds_toArray, List.set_cons_zero, List.set_cons_succ, List.getElem_toArray, List.getElem_cons_succ, List.getElem_cons_zero]
          refine held_stronger (S' := fun w' => (Blk w (w103.heap.size) (.cells #[.int .u8 2] 5)) w' ∧ (fun w' => (Blk w (w5.heap.size) (.cells #[.int .u8 1] 5)) w' ∧ (fun w' => w'.cell? ⟨w.heap.size, 0, none⟩ = some (.int .u64 (q k0)) ∧ w'.cell? ⟨w.heap.size, 1, none⟩ = some (.int .u64 (q k1)) ∧ Box w k0 k1 61 61 w') w') w') (fun _ h => h.2) _ _ _ _ ?_
          replace hHeld := And.intro hnew hHeld
          clear hnew
          try dsimp only at hHeld
          refine' wpAnyH_take (i := 12) (v := _) rfl (by kernel_rfl) (by kernel_rfl) (by kernel_rfl) (fun _ _ _ h => h) (Or.inl ⟨by rfl, ?_⟩) hHeld ?_
          rotate_left
          · (intro w hSw; (try dsimp only at hSw); have cv := conv_2 hSw.1.2; go_simp; (try rw [if_neg (by omega)]); try with_reducible rfl)
          try simp only [Act.put, List.setIfInBounds_toArray, List.set_cons_zero, List.set_cons_succ, List.getElem_toArray, List.getElem_cons_succ, List.getElem_cons_zero]
          refine' wpAnyH_take (i := 13) (v := _) rfl (by kernel_rfl) (by kernel_rfl) (by kernel_rfl) (fun _ _ _ h => h) (Or.inl ⟨by rfl, ?_⟩) hHeld ?_
          rotate_left
          · (intro w hSw; (try dsimp only at hSw); go_simp; (try rw [if_neg (by omega)]); try with_reducible rfl)
          try simp only [Act.put, List.setIfInBounds_toArray, List.set_cons_zero, List.set_cons_succ, List.getElem_toArray, List.getElem_cons_succ, List.getElem_cons_zero]
          refine wpAnyH_ready (rs := [15]) (by kernel_rfl) (by simp) ?_
          refine AllReadyH.cons (o := _) rfl (fun K hK => ?_) (AllReadyH.nil)
          try simp only [List.getElem_toArray, List.getElem_cons_succ, List.getElem_cons_zero]
          go_simp
          refine (HP.out _).mono ?_
          rintro e w105 ⟨rfl, hg⟩
          have KP := hid (And.intro (Blk.grown hHeld.1 hg) (And.intro (Blk.grown hHeld.2.1 hg) ((Box.keep (Box.grown (box_box hHeld.2.2) hg)))))
          clear hHeld hg
          go_wp2_with fail
          refine hK.out _ _ KP.out (fun hHeld => ?_)
          clear KP hK K
          try dsimp only at hHeld
          try simp only [Act.put, List.setIfInBounds_toArray, List.set_cons_zero, List.set_cons_succ, List.getElem_toArray, List.getElem_cons_succ, List.getElem_cons_zero]
          refine' wpAnyH_take (i := 16) (v := _) rfl (by kernel_rfl) (by kernel_rfl) (by kernel_rfl) (fun _ _ _ h => h) (Or.inl ⟨by rfl, ?_⟩) hHeld ?_
          rotate_left
          · (intro w hSw; (try dsimp only at hSw); go_simp; (try rw [if_neg (by omega)]); try with_reducible rfl)
          try simp only [Act.put, List.setIfInBounds_toArray, List.set_cons_zero, List.set_cons_succ, List.getElem_toArray, List.getElem_cons_succ, List.getElem_cons_zero]
          refine wpAnyH_ready (rs := [17]) (by kernel_rfl) (by simp) ?_
          refine AllReadyH.cons (o := _) rfl (fun K hK => ?_) (AllReadyH.nil)
          try simp only [List.getElem_toArray, List.getElem_cons_succ, List.getElem_cons_zero]
          go_simp
          refine (C1.out _).mono ?_
          rintro e w106 ⟨rfl, hg⟩
          have KP := hid (And.intro (Blk.grown hHeld.1 hg) (And.intro (Blk.grown hHeld.2.1 hg) ((Box.keep (Box.grown (box_box hHeld.2.2) hg)))))
          clear hHeld hg
          go_wp2_with fail
          refine hK.out _ _ KP.out (fun hHeld => ?_)
          clear KP hK K
          try dsimp only at hHeld
          try simp only [Act.put, List.setIfInBounds_toArray, List.set_cons_zero, List.set_cons_succ, List.getElem_toArray, List.getElem_cons_succ, List.getElem_cons_zero]
          refine' wpAnyH_take (i := 18) (v := _) rfl (by kernel_rfl) (by kernel_rfl) (by kernel_rfl) (fun _ _ _ h => h) (Or.inl ⟨by rfl, ?_⟩) hHeld ?_
          rotate_left
          · (intro w hSw; (try dsimp only at hSw); go_simp; (try rw [if_neg (by omega)]); try with_reducible rfl)
          try simp only [Act.put, List.setIfInBounds_toArray, List.set_cons_zero, List.set_cons_succ, List.getElem_toArray, List.getElem_cons_succ, List.getElem_cons_zero]
          refine wpAnyH_ready (rs := [19]) (by kernel_rfl) (by simp) ?_
          refine AllReadyH.cons (o := _) rfl (fun K hK => ?_) (AllReadyH.nil)
          try simp only [List.getElem_toArray, List.getElem_cons_succ, List.getElem_cons_zero]
          have hB := box_box hHeld.2.2
          obtain ⟨x, y, c0, c1, f0, f1⟩ := box_ans hHeld.2.2 (.refl w106 none)
          have KP := hid (And.intro (Blk.set1 (Blk.set0 hHeld.1 (.int .u64 (q a))) (.int .u64 (q b))) (And.intro (Blk.set1 (Blk.set0 hHeld.2.1 (.int .u64 (q a))) (.int .u64 (q b))) ((Box.keep (Box.set1 (Box.set0 (box_box hHeld.2.2) (.int .u64 (q a))) (.int .u64 (q b)))))))
          clear hHeld
          go_simp
          refine hK.out _ _ KP.out (fun hHeld => ?_)
          clear KP hK K
          try simp only [Act.put, List.setIfInBounds_toArray, List.set_cons_zero, List.set_cons_succ, List.getElem_toArray, List.getElem_cons_succ, List.getElem_cons_zero]
          refine wpAnyH_done (by kernel_rfl) ?_ _
          have hst := hB.store (.int .u64 (q a)) (.int .u64 (q b))
          clear hB c0 c1 f0 f1 hHeld
          generalize (w106.setCell ⟨w.heap.size + 1, 0, none⟩ (.int .u64 (q a))).setCell ⟨w.heap.size + 1, 1, none⟩ (.int .u64 (q b)) = wx at hst ⊢
          obtain ⟨d0, d1⟩ := pair_cells hst.1
          go_wp2_with fail
          exact bodyPost_ret (v := pair a b) (by simp [results, Try.results29, go_sem, d0, d1]) rfl ⟨rfl, hst.2⟩
        · try simp only [List.getElem_toArray, List.getElem_cons_succ, List.getElem_cons_zero]
          go_simp
          refine (HP.out _).mono ?_
          rintro e w108 ⟨rfl, hg⟩
          have KP := hid (And.intro (Blk.grown hHeld.1 hg) ((Box.keep (Box.grown (box_box hHeld.2) hg))))
          clear hHeld hg
          go_wp2_with fail
          refine hK.out _ _ KP.out (fun hHeld => ?_)
          clear KP hK K
          try dsimp only at hHeld
          try simp only [Act.put, List.setIfInBounds_toArray, List.set_cons_zero, List.set_cons_succ, List.getElem_toArray, List.getElem_cons_succ, List.getElem_cons_zero]
          refine wpAnyH_ready (rs := [11]) (by kernel_rfl) (by simp) ?_
          refine AllReadyH.cons (o := _) rfl (fun K hK => ?_) (AllReadyH.nil)
          try simp only [List.getElem_toArray, List.getElem_cons_succ, List.getElem_cons_zero]
          have KP := hid (And.intro (Blk.grown hHeld.1 (World.grownBy_alloc w108 (.cells #[.int .u8 2] 5) none)) ((Box.keep (Box.grown (box_box hHeld.2) (World.grownBy_alloc w108 (.cells #[.int .u8 2] 5) none)))))
          have hnew := (⟨Box.size (box_box hHeld.2), at_new w108 _⟩ : (Blk w (w108.heap.size) (.cells #[.int .u8 2] 5)) (w108.alloc (.cells #[.int .u8 2] 5)))
          clear hHeld
          go_simp
          refine hK.out _ _ KP.out (fun hHeld => ?_)
          clear KP hK K
          try dsimp only at hHeld hnew
          generalize w108.alloc (.cells #[.int .u8 2] 5) = w109 at hHeld hnew ⊢
          try simp only [Act.put, List.setIfInBounds_toArray, List.set_cons_zero, List.set_cons_succ, List.getElem_toArray, List.getElem_cons_succ, List.getElem_cons_zero]
          refine held_stronger (S' := fun w' => (Blk w (w108.heap.size) (.cells #[.int .u8 2] 5)) w' ∧ (fun w' => (Blk w (w5.heap.size) (.cells #[.int .u8 1] 5)) w' ∧ (fun w' => w'.cell? ⟨w.heap.size, 0, none⟩ = some (.int .u64 (q k0)) ∧ w'.cell? ⟨w.heap.size, 1, none⟩ = some (.int .u64 (q k1)) ∧ Box w k0 k1 61 61 w') w') w') (fun _ h => h.2) _ _ _ _ ?_
          replace hHeld := And.intro hnew hHeld
          clear hnew
          try dsimp only at hHeld
          refine' wpAnyH_take (i := 12) (v := _) rfl (by kernel_rfl) (by kernel_rfl) (by kernel_rfl) (fun _ _ _ h => h) (Or.inl ⟨by rfl, ?_⟩) hHeld ?_
          rotate_left
          · (intro w hSw; (try dsimp only at hSw); have cv := conv_2 hSw.1.2; go_simp; (try rw [if_neg (by omega)]); try with_reducible rfl)
          try simp only [Act.put, List.setIfInBounds_toArray, List.set_cons_zero, List.set_cons_succ, List.getElem_toArray, List.getElem_cons_succ, List.getElem_cons_zero]
          refine' wpAnyH_take (i := 13) (v := _) rfl (by kernel_rfl) (by kernel_rfl) (by kernel_rfl) (fun _ _ _ h => h) (Or.inl ⟨by rfl, ?_⟩) hHeld ?_
          rotate_left
          · (intro w hSw; (try dsimp only at hSw); go_simp; (try rw [if_neg (by omega)]); try with_reducible rfl)
          try simp only [Act.put, List.setIfInBounds_toArray, List.set_cons_zero, List.set_cons_succ, List.getElem_toArray, List.getElem_cons_succ, List.getElem_cons_zero]
          refine' wpAnyH_take (i := 16) (v := _) rfl (by kernel_rfl) (by kernel_rfl) (by kernel_rfl) (fun _ _ _ h => h) (Or.inl ⟨by rfl, ?_⟩) hHeld ?_
          rotate_left
          · (intro w hSw; (try dsimp only at hSw); go_simp; (try rw [if_neg (by omega)]); try with_reducible rfl)
          try simp only [Act.put, List.setIfInBounds_toArray, List.set_cons_zero, List.set_cons_succ, List.getElem_toArray, List.getElem_cons_succ, List.getElem_cons_zero]
          refine wpAnyH_ready (rs := [17]) (by kernel_rfl) (by simp) ?_
          refine AllReadyH.cons (o := _) rfl (fun K hK => ?_) (AllReadyH.nil)
          try simp only [List.getElem_toArray, List.getElem_cons_succ, List.getElem_cons_zero]
          go_simp
          refine (C1.out _).mono ?_
          rintro e w110 ⟨rfl, hg⟩
          have KP := hid (And.intro (Blk.grown hHeld.1 hg) (And.intro (Blk.grown hHeld.2.1 hg) ((Box.keep (Box.grown (box_box hHeld.2.2) hg)))))
          clear hHeld hg
          go_wp2_with fail
          refine hK.out _ _ KP.out (fun hHeld => ?_)
          clear KP hK K
          try dsimp only at hHeld
          try simp only [Act.put, List.setIfInBounds_toArray, List.set_cons_zero, List.set_cons_succ, List.getElem_toArray, List.getElem_cons_succ, List.getElem_cons_zero]
          refine' wpAnyH_take (i := 18) (v := _) rfl (by kernel_rfl) (by kernel_rfl) (by kernel_rfl) (fun _ _ _ h => h) (Or.inl ⟨by rfl, ?_⟩) hHeld ?_
          rotate_left
          · (intro w hSw; (try dsimp only at hSw); go_simp; (try rw [if_neg (by omega)]); try with_reducible rfl)
          try simp only [Act.put, List.setIfInBounds_toArray, List.set_cons_zero, List.set_cons_succ, List.getElem_toArray, List.getElem_cons_succ, List.getElem_cons_zero]
          refine wpAnyH_ready (rs := [19]) (by kernel_rfl) (by simp) ?_
          refine AllReadyH.cons (o := _) rfl (fun K hK => ?_) (AllReadyH.nil)
          try simp only [List.getElem_toArray, List.getElem_cons_succ, List.getElem_cons_zero]
          have hB := box_box hHeld.2.2
          obtain ⟨x, y, c0, c1, f0, f1⟩ := box_ans hHeld.2.2 (.refl w110 none)
          have KP := hid (And.intro (Blk.set1 (Blk.set0 hHeld.1 (.int .u64 (q a))) (.int .u64 (q b))) (And.intro (Blk.set1 (Blk.set0 hHeld.2.1 (.int .u64 (q a))) (.int .u64 (q b))) ((Box.keep (Box.set1 (Box.set0 (box_box hHeld.2.2) (.int .u64 (q a))) (.int .u64 (q b)))))))
          clear hHeld
          go_simp
          refine hK.out _ _ KP.out (fun hHeld => ?_)
          clear KP hK K
          try simp only [Act.put, List.setIfInBounds_toArray, List.set_cons_zero, List.set_cons_succ, List.getElem_toArray, List.getElem_cons_succ, List.getElem_cons_zero]
          refine wpAnyH_done (by kernel_rfl) ?_ _
          have hst := hB.store (.int .u64 (q a)) (.int .u64 (q b))
          clear hB c0 c1 f0 f1 hHeld
          generalize (w110.setCell ⟨w.heap.size + 1, 0, none⟩ (.int .u64 (q a))).setCell ⟨w.heap.size + 1, 1, none⟩ (.int .u64 (q b)) = wx at hst ⊢
          obtain ⟨d0, d1⟩ := pair_cells hst.1
          go_wp2_with fail
          exact bodyPost_ret (v := pair a b) (by simp [results, Try.results29, go_sem, d0, d1]) rfl ⟨rfl, hst.2⟩
      · try simp only [List.getElem_toArray, List.getElem_cons_succ, List.getElem_cons_zero]
        have KP := hid (And.intro (Blk.grown hHeld.1 (World.grownBy_alloc w102 (.cells #[.int .u8 2] 5) none)) ((Box.keep (Box.grown (box_box hHeld.2) (World.grownBy_alloc w102 (.cells #[.int .u8 2] 5) none)))))
        have hnew := (⟨Box.size (box_box hHeld.2), at_new w102 _⟩ : (Blk w (w102.heap.size) (.cells #[.int .u8 2] 5)) (w102.alloc (.cells #[.int .u8 2] 5)))
        clear hHeld
        go_simp
        refine hK.out _ _ KP.out (fun hHeld => ?_)
        clear KP hK K
        try dsimp only at hHeld hnew
        generalize w102.alloc (.cells #[.int .u8 2] 5) = w112 at hHeld hnew ⊢
        try simp only [Act.put, List.setIfInBounds_toArray, List.set_cons_zero, List.set_cons_succ, List.getElem_toArray, List.getElem_cons_succ, List.getElem_cons_zero]
        refine held_stronger (S' := fun w' => (Blk w (w102.heap.size) (.cells #[.int .u8 2] 5)) w' ∧ (fun w' => (Blk w (w5.heap.size) (.cells #[.int .u8 1] 5)) w' ∧ (fun w' => w'.cell? ⟨w.heap.size, 0, none⟩ = some (.int .u64 (q k0)) ∧ w'.cell? ⟨w.heap.size, 1, none⟩ = some (.int .u64 (q k1)) ∧ Box w k0 k1 61 61 w') w') w') (fun _ h => h.2) _ _ _ _ ?_
        replace hHeld := And.intro hnew hHeld
        clear hnew
        try dsimp only at hHeld
        refine' wpAnyH_take (i := 12) (v := _) rfl (by kernel_rfl) (by kernel_rfl) (by kernel_rfl) (fun _ _ _ h => h) (Or.inl ⟨by rfl, ?_⟩) hHeld ?_
        rotate_left
        · (intro w hSw; (try dsimp only at hSw); have cv := conv_2 hSw.1.2; go_simp; (try rw [if_neg (by omega)]); try with_reducible rfl)
        try simp only [Act.put, List.setIfInBounds_toArray, List.set_cons_zero, List.set_cons_succ, List.getElem_toArray, List.getElem_cons_succ, List.getElem_cons_zero]
        refine' wpAnyH_take (i := 13) (v := _) rfl (by kernel_rfl) (by kernel_rfl) (by kernel_rfl) (fun _ _ _ h => h) (Or.inl ⟨by rfl, ?_⟩) hHeld ?_
        rotate_left
        · (intro w hSw; (try dsimp only at hSw); go_simp; (try rw [if_neg (by omega)]); try with_reducible rfl)
        try simp only [Act.put, List.setIfInBounds_toArray, List.set_cons_zero, List.set_cons_succ, List.getElem_toArray, List.getElem_cons_succ, List.getElem_cons_zero]
        refine wpAnyH_ready (rs := [8]) (by kernel_rfl) (by simp) ?_
        refine AllReadyH.cons (o := _) rfl (fun K hK => ?_) (AllReadyH.nil)
        try simp only [List.getElem_toArray, List.getElem_cons_succ, List.getElem_cons_zero]
        go_simp
        refine (C0.out _).mono ?_
        rintro e w113 ⟨rfl, hg⟩
        have KP := hid (And.intro (Blk.grown hHeld.1 hg) (And.intro (Blk.grown hHeld.2.1 hg) ((Box.keep (Box.grown (box_box hHeld.2.2) hg)))))
        clear hHeld hg
        go_wp2_with fail
        refine hK.out _ _ KP.out (fun hHeld => ?_)
        clear KP hK K
        try dsimp only at hHeld
        try simp only [Act.put, List.setIfInBounds_toArray, List.set_cons_zero, List.set_cons_succ, List.getElem_toArray, List.getElem_cons_succ, List.getElem_cons_zero]
        refine wpAnyH_ready (rs := [15]) (by kernel_rfl) (by simp) ?_
        refine AllReadyH.cons (o := _) rfl (fun K hK => ?_) (AllReadyH.nil)
        try simp only [List.getElem_toArray, List.getElem_cons_succ, List.getElem_cons_zero]
        go_simp
        refine (HP.out _).mono ?_
        rintro e w114 ⟨rfl, hg⟩
        have KP := hid (And.intro (Blk.grown hHeld.1 hg) (And.intro (Blk.grown hHeld.2.1 hg) ((Box.keep (Box.grown (box_box hHeld.2.2) hg)))))
        clear hHeld hg
        go_wp2_with fail
        refine hK.out _ _ KP.out (fun hHeld => ?_)
        clear KP hK K
        try dsimp only at hHeld
        try simp only [Act.put, List.setIfInBounds_toArray, List.set_cons_zero, List.set_cons_succ, List.getElem_toArray, List.getElem_cons_succ, List.getElem_cons_zero]
        refine' wpAnyH_take (i := 16) (v := _) rfl (by kernel_rfl) (by kernel_rfl) (by kernel_rfl) (fun _ _ _ h => h) (Or.inl ⟨by rfl, ?_⟩) hHeld ?_
        rotate_left
        · (intro w hSw; (try dsimp only at hSw); go_simp; (try rw [if_neg (by omega)]); try with_reducible rfl)
        try simp only [Act.put, List.setIfInBounds_toArray, List.set_cons_zero, List.set_cons_succ, List.getElem_toArray, List.getElem_cons_succ, List.getElem_cons_zero]
        refine wpAnyH_ready (rs := [17]) (by kernel_rfl) (by simp) ?_
        refine AllReadyH.cons (o := _) rfl (fun K hK => ?_) (AllReadyH.nil)
        try simp only [List.getElem_toArray, List.getElem_cons_succ, List.getElem_cons_zero]
        go_simp
        refine (C1.out _).mono ?_
        rintro e w115 ⟨rfl, hg⟩
        have KP := hid (And.intro (Blk.grown hHeld.1 hg) (And.intro (Blk.grown hHeld.2.1 hg) ((Box.keep (Box.grown (box_box hHeld.2.2) hg)))))
        clear hHeld hg
        go_wp2_with fail
        refine hK.out _ _ KP.out (fun hHeld => ?_)
        clear KP hK K
        try dsimp only at hHeld
        try simp only [Act.put, List.setIfInBounds_toArray, List.set_cons_zero, List.set_cons_succ, List.getElem_toArray, List.getElem_cons_succ, List.getElem_cons_zero]
        refine' wpAnyH_take (i := 18) (v := _) rfl (by kernel_rfl) (by kernel_rfl) (by kernel_rfl) (fun _ _ _ h => h) (Or.inl ⟨by rfl, ?_⟩) hHeld ?_
        rotate_left
        · (intro w hSw; (try dsimp only at hSw); go_simp; (try rw [if_neg (by omega)]); try with_reducible rfl)
        try simp only [Act.put, List.setIfInBounds_toArray, List.set_cons_zero, List.set_cons_succ, List.getElem_toArray, List.getElem_cons_succ, List.getElem_cons_zero]
        refine wpAnyH_ready (rs := [19]) (by kernel_rfl) (by simp) ?_
        refine AllReadyH.cons (o := _) rfl (fun K hK => ?_) (AllReadyH.nil)
        try simp only [List.getElem_toArray, List.getElem_cons_succ, List.getElem_cons_zero]
        have hB := box_box hHeld.2.2
        obtain ⟨x, y, c0, c1, f0, f1⟩ := box_ans hHeld.2.2 (.refl w115 none)
        have KP := hid (And.intro (Blk.set1 (Blk.set0 hHeld.1 (.int .u64 (q a))) (.int .u64 (q b))) (And.intro (Blk.set1 (Blk.set0 hHeld.2.1 (.int .u64 (q a))) (.int .u64 (q b))) ((Box.keep (Box.set1 (Box.set0 (box_box hHeld.2.2) (.int .u64 (q a))) (.int .u64 (q b)))))))
        clear hHeld
        go_simp
        refine hK.out _ _ KP.out (fun hHeld => ?_)
        clear KP hK K
        try simp only [Act.put, List.setIfInBounds_toArray, List.set_cons_zero, List.set_cons_succ, List.getElem_toArray, List.getElem_cons_succ, List.getElem_cons_zero]
        refine wpAnyH_done (by kernel_rfl) ?_ _
        have hst := hB.store (.int .u64 (q a)) (.int .u64 (q b))
        clear hB c0 c1 f0 f1 hHeld
        generalize (w115.setCell ⟨w.heap.size + 1, 0, none⟩ (.int .u64 (q a))).setCell ⟨w.heap.size + 1, 1, none⟩ (.int .u64 (q b)) = wx at hst ⊢
        obtain ⟨d0, d1⟩ := pair_cells hst.1
        go_wp2_with fail
        exact bodyPost_ret (v := pair a b) (by simp [results, Try.results29, go_sem, d0, d1]) rfl ⟨rfl, hst.2⟩
    · try simp only [List.getElem_toArray, List.getElem_cons_succ, List.getElem_cons_zero]
      have KP := hid (And.intro (Blk.grown hHeld.1 (World.grownBy_alloc w101 (.cells #[.int .u8 2] 5) none)) ((Box.keep (Box.grown (box_box hHeld.2) (World.grownBy_alloc w101 (.cells #[.int .u8 2] 5) none)))))
      have hnew := (⟨Box.size (box_box hHeld.2), at_new w101 _⟩ : (Blk w (w101.heap.size) (.cells #[.int .u8 2] 5)) (w101.alloc (.cells #[.int .u8 2] 5)))
      clear hHeld
      go_simp
      refine hK.out _ _ KP.out (fun hHeld => ?_)
      clear KP hK K
      try dsimp only at hHeld hnew
      generalize w101.alloc (.cells #[.int .u8 2] 5) = w117 at hHeld hnew ⊢
      try simp only [Act.put, List.setIfInBounds_toArray, List.set_cons_zero, List.set_cons_succ, List.getElem_toArray, List.getElem_cons_succ, List.getElem_cons_zero]
      refine held_stronger (S' := fun w' => (Blk w (w101.heap.size) (.cells #[.int .u8 2] 5)) w' ∧ (fun w' => (Blk w (w5.heap.size) (.cells #[.int .u8 1] 5)) w' ∧ (fun w' => w'.cell? ⟨w.heap.size, 0, none⟩ = some (.int .u64 (q k0)) ∧ w'.cell? ⟨w.heap.size, 1, none⟩ = some (.int .u64 (q k1)) ∧ Box w k0 k1 61 61 w') w') w') (fun _ h => h.2) _ _ _ _ ?_
      replace hHeld := And.intro hnew hHeld
      clear hnew
      try dsimp only at hHeld
      refine' wpAnyH_take (i := 12) (v := _) rfl (by kernel_rfl) (by kernel_rfl) (by kernel_rfl) (fun _ _ _ h => h) (Or.inl ⟨by rfl, ?_⟩) hHeld ?_
      rotate_left
      · (intro w hSw; (try dsimp only at hSw); have cv := conv_2 hSw.1.2; go_simp; (try rw [if_neg (by omega)]); try with_reducible rfl)
      try simp only [Act.put, List.setIfInBounds_toArray, List.set_cons_zero, List.set_cons_succ, List.getElem_toArray, List.getElem_cons_succ, List.getElem_cons_zero]
      refine' wpAnyH_take (i := 13) (v := _) rfl (by kernel_rfl) (by kernel_rfl) (by kernel_rfl) (fun _ _ _ h => h) (Or.inl ⟨by rfl, ?_⟩) hHeld ?_
      rotate_left
      · (intro w hSw; (try dsimp only at hSw); go_simp; (try rw [if_neg (by omega)]); try with_reducible rfl)
      try simp only [Act.put, List.setIfInBounds_toArray, List.set_cons_zero, List.set_cons_succ, List.getElem_toArray, List.getElem_cons_succ, List.getElem_cons_zero]
      refine wpAnyH_ready (rs := [6]) (by kernel_rfl) (by simp) ?_
      refine AllReadyH.cons (o := _) rfl (fun K hK => ?_) (AllReadyH.nil)
      try simp only [List.getElem_toArray, List.getElem_cons_succ, List.getElem_cons_zero]
      go_simp
      refine (HP.out _).mono ?_
      rintro e w118 ⟨rfl, hg⟩
      have KP := hid (And.intro (Blk.grown hHeld.1 hg) (And.intro (Blk.grown hHeld.2.1 hg) ((Box.keep (Box.grown (box_box hHeld.2.2) hg)))))
      clear hHeld hg
      go_wp2_with fail
      refine hK.out _ _ KP.out (fun hHeld => ?_)
      clear KP hK K
      try dsimp only at hHeld
      try simp only [Act.put, List.setIfInBounds_toArray, List.set_cons_zero, List.set_cons_succ, List.getElem_toArray, List.getElem_cons_succ, List.getElem_cons_zero]
      refine' wpAnyH_take (i := 7) (v := _) rfl (by kernel_rfl) (by kernel_rfl) (by kernel_rfl) (fun _ _ _ h => h) (Or.inl ⟨by rfl, ?_⟩) hHeld ?_
      rotate_left
      · (intro w hSw; (try dsimp only at hSw); go_simp; (try rw [if_neg (by omega)]); try with_reducible rfl)
      try simp only [Act.put, List.setIfInBounds_toArray, List.set_cons_zero, List.set_cons_succ, List.getElem_toArray, List.getElem_cons_succ, List.getElem_cons_zero]
      refine wpAnyH_ready (rs := [8]) (by kernel_rfl) (by simp) ?_
      refine AllReadyH.cons (o := _) rfl (fun K hK => ?_) (AllReadyH.nil)
      try simp only [List.getElem_toArray, List.getElem_cons_succ, List.getElem_cons_zero]
      go_simp
      refine (C0.out _).mono ?_
      rintro e w119 ⟨rfl, hg⟩
      have KP := hid (And.intro (Blk.grown hHeld.1 hg) (And.intro (Blk.grown hHeld.2.1 hg) ((Box.keep (Box.grown (box_box hHeld.2.2) hg)))))
      clear hHeld hg
      go_wp2_with fail
      refine hK.out _ _ KP.out (fun hHeld => ?_)
      clear KP hK K
      try dsimp only at hHeld
      try simp only [Act.put, List.setIfInBounds_toArray, List.set_cons_zero, List.set_cons_succ, List.getElem_toArray, List.getElem_cons_succ, List.getElem_cons_zero]
      refine wpAnyH_ready (rs := [15]) (by kernel_rfl) (by simp) ?_
      refine AllReadyH.cons (o := _) rfl (fun K hK => ?_) (AllReadyH.nil)
      try simp only [List.getElem_toArray, List.getElem_cons_succ, List.getElem_cons_zero]
      go_simp
      refine (HP.out _).mono ?_
      rintro e w120 ⟨rfl, hg⟩
      have KP := hid (And.intro (Blk.grown hHeld.1 hg) (And.intro (Blk.grown hHeld.2.1 hg) ((Box.keep (Box.grown (box_box hHeld.2.2) hg)))))
      clear hHeld hg
      go_wp2_with fail
      refine hK.out _ _ KP.out (fun hHeld => ?_)
      clear KP hK K
      try dsimp only at hHeld
      try simp only [Act.put, List.setIfInBounds_toArray, List.set_cons_zero, List.set_cons_succ, List.getElem_toArray, List.getElem_cons_succ, List.getElem_cons_zero]
      refine' wpAnyH_take (i := 16) (v := _) rfl (by kernel_rfl) (by kernel_rfl) (by kernel_rfl) (fun _ _ _ h => h) (Or.inl ⟨by rfl, ?_⟩) hHeld ?_
      rotate_left
      · (intro w hSw; (try dsimp only at hSw); go_simp; (try rw [if_neg (by omega)]); try with_reducible rfl)
      try simp only [Act.put, List.setIfInBounds_toArray, List.set_cons_zero, List.set_cons_succ, List.getElem_toArray, List.getElem_cons_succ, List.getElem_cons_zero]
      refine wpAnyH_ready (rs := [17]) (by kernel_rfl) (by simp) ?_
      refine AllReadyH.cons (o := _) rfl (fun K hK => ?_) (AllReadyH.nil)
      try simp only [List.getElem_toArray, List.getElem_cons_succ, List.getElem_cons_zero]
      go_simp
      refine (C1.out _).mono ?_
      rintro e w121 ⟨rfl, hg⟩
      have KP := hid (And.intro (Blk.grown hHeld.1 hg) (And.intro (Blk.grown hHeld.2.1 hg) ((Box.keep (Box.grown (box_box hHeld.2.2) hg)))))
      clear hHeld hg
      go_wp2_with fail
      refine hK.out _ _ KP.out (fun hHeld => ?_)
      clear KP hK K
      try dsimp only at hHeld
      try simp only [Act.put, List.setIfInBounds_toArray, List.set_cons_zero, List.set_cons_succ, List.getElem_toArray, List.getElem_cons_succ, List.getElem_cons_zero]
      refine' wpAnyH_take (i := 18) (v := _) rfl (by kernel_rfl) (by kernel_rfl) (by kernel_rfl) (fun _ _ _ h => h) (Or.inl ⟨by rfl, ?_⟩) hHeld ?_
      rotate_left
      · (intro w hSw; (try dsimp only at hSw); go_simp; (try rw [if_neg (by omega)]); try with_reducible rfl)
      try simp only [Act.put, List.setIfInBounds_toArray, List.set_cons_zero, List.set_cons_succ, List.getElem_toArray, List.getElem_cons_succ, List.getElem_cons_zero]
      refine wpAnyH_ready (rs := [19]) (by kernel_rfl) (by simp) ?_
      refine AllReadyH.cons (o := _) rfl (fun K hK => ?_) (AllReadyH.nil)
      try simp only [List.getElem_toArray, List.getElem_cons_succ, List.getElem_cons_zero]
      have hB := box_box hHeld.2.2
      obtain ⟨x, y, c0, c1, f0, f1⟩ := box_ans hHeld.2.2 (.refl w121 none)
      have KP := hid (And.intro (Blk.set1 (Blk.set0 hHeld.1 (.int .u64 (q a))) (.int .u64 (q b))) (And.intro (Blk.set1 (Blk.set0 hHeld.2.1 (.int .u64 (q a))) (.int .u64 (q b))) ((Box.keep (Box.set1 (Box.set0 (box_box hHeld.2.2) (.int .u64 (q a))) (.int .u64 (q b)))))))
      clear hHeld
      go_simp
      refine hK.out _ _ KP.out (fun hHeld => ?_)
      clear KP hK K
      try simp only [Act.put, List.setIfInBounds_toArray, List.set_cons_zero, List.set_cons_succ, List.getElem_toArray, List.getElem_cons_succ, List.getElem_cons_zero]
      refine wpAnyH_done (by kernel_rfl) ?_ _
      have hst := hB.store (.int .u64 (q a)) (.int .u64 (q b))
      clear hB c0 c1 f0 f1 hHeld
      generalize (w121.setCell ⟨w.heap.size + 1, 0, none⟩ (.int .u64 (q a))).setCell ⟨w.heap.size + 1, 1, none⟩ (.int .u64 (q b)) = wx at hst ⊢
      obtain ⟨d0, d1⟩ := pair_cells hst.1
      go_wp2_with fail
      exact bodyPost_ret (v := pair a b) (by simp [results, Try.results29, go_sem, d0, d1]) rfl ⟨rfl, hst.2⟩
  · try simp only [List.getElem_toArray, List.getElem_cons_succ, List.getElem_cons_zero]
    go_simp
    refine (HP.out _).mono ?_
    rintro e w123 ⟨rfl, hg⟩
    have KP := hid ((Box.keep (Box.grown (box_box hHeld) hg)))
    clear hHeld hg
    go_wp2_with fail
    refine hK.out _ _ KP.out (fun hHeld => ?_)
    clear KP hK K
    try dsimp only at hHeld
    try simp only [Act.put, List.setIfInBounds_toArray, List.set_cons_zero, List.set_cons_succ, List.getElem_toArray, List.getElem_cons_succ, List.getElem_cons_zero]
    refine wpAnyH_ready (rs := [2, 11]) (by kernel_rfl) (by simp) ?_
    refine AllReadyH.cons (o := _) rfl (fun K hK => ?_) (AllReadyH.cons (o := _) rfl (fun K hK => ?_) (AllReadyH.nil))
    · try simp only [List.getElem_toArray, List.getElem_cons_succ, List.getElem_cons_zero]
      have KP := hid ((Box.keep (Box.grown (box_box hHeld) (World.grownBy_alloc w123 (.cells #[.int .u8 1] 5) none))))
      have hnew := (⟨Box.size (box_box hHeld), at_new w123 _⟩ : (Blk w (w123.heap.size) (.cells #[.int .u8 1] 5)) (w123.alloc (.cells #[.int .u8 1] 5)))
      clear hHeld
      go_simp
      refine hK.out _ _ KP.out (fun hHeld => ?_)
      clear KP hK K
      try dsimp only at hHeld hnew
      generalize w123.alloc (.cells #[.int .u8 1] 5) = w124 at hHeld hnew ⊢
      try simp only [Act.put, List.setIfInBounds_toArray, List.set_cons_zero, List.set_cons_succ, List.getElem_toArray, List.getElem_cons_succ, List.getElem_cons_zero]
      refine held_stronger (S' := fun w' => (Blk w (w123.heap.size) (.cells #[.int .u8 1] 5)) w' ∧ (fun w' => w'.cell? ⟨w.heap.size, 0, none⟩ = some (.int .u64 (q k0)) ∧ w'.cell? ⟨w.heap.size, 1, none⟩ = some (.int .u64 (q k1)) ∧ Box w k0 k1 61 61 w') w') (fun _ h => h.2) _ _ _ _ ?_
      replace hHeld := And.intro hnew hHeld
      clear hnew
      try dsimp only at hHeld
      refine' wpAnyH_take (i := 3) (v := _) rfl (by kernel_rfl) (by kernel_rfl) (by kernel_rfl) (fun _ _ _ h => h) (Or.inl ⟨by rfl, ?_⟩) hHeld ?_
      rotate_left
      · (intro w hSw; (try dsimp only at hSw); have cv := conv_1 hSw.1.2; go_simp; (try rw [if_neg (by omega)]); try with_reducible rfl)
      try simp only [Act.put, List.setIfInBounds_toArray, List.set_cons_zero, List.set_cons_succ, List.getElem_toArray, List.getElem_cons_succ, List.getElem_cons_zero]
      refine' wpAnyH_take (i := 4) (v := _) rfl (by kernel_rfl) (by kernel_rfl) (by kernel_rfl) (fun _ _ _ h => h) (Or.inl ⟨by rfl, ?_⟩) hHeld ?_
      rotate_left
      · (intro w hSw; (try dsimp only at hSw); go_simp; (try rw [if_neg (by omega)]); try with_reducible rfl)
      try simp only [Act.put, List.setIfInBounds_toArray, List.set_cons_zero, List.set_cons_succ, List.getElem_toArray, List.getElem_cons_succ, List.getElem_cons_zero]
      refine' wpAnyH_take (i := 7) (v := _) rfl (by kernel_rfl) (by kernel_rfl) (by kernel_rfl) (fun _ _ _ h => h) (Or.inl ⟨by rfl, ?_⟩) hHeld ?_
      rotate_left
      · (intro w hSw; (try dsimp only at hSw); go_simp; (try rw [if_neg (by omega)]); try with_reducible rfl)
      try simp only [Act.put, List.setIfInBounds_toArray, List.set_cons_zero, List.set_cons_succ, List.getElem_toArray, List.getElem_cons_succ, List.getElem_cons_zero]
      refine wpAnyH_ready (rs := [8, 11]) (by kernel_rfl) (by simp) ?_
      refine AllReadyH.cons (o := _) rfl (fun K hK => ?_) (AllReadyH.cons (o := _) rfl (fun K hK => ?_) (AllReadyH.nil))
      · try simp only [List.getElem_toArray, List.getElem_cons_succ, List.getElem_cons_zero]
        go_simp
        refine (C0.out _).mono ?_
        rintro e w125 ⟨rfl, hg⟩
        have KP := hid (And.intro (Blk.grown hHeld.1 hg) ((Box.keep (Box.grown (box_box hHeld.2) hg))))
        clear hHeld hg
        go_wp2_with fail
        refine hK.out _ _ KP.out (fun hHeld => ?_)
        clear KP hK K
        try dsimp only at hHeld
        try simp only [Act.put, List.setIfInBounds_toArray, List.set_cons_zero, List.set_cons_succ, List.getElem_toArray, List.getElem_cons_succ, List.getElem_cons_zero]
        refine wpAnyH_ready (rs := [11, 15]) (by kernel_rfl) (by simp) ?_
        refine AllReadyH.cons (o := _) rfl (fun K hK => ?_) (AllReadyH.cons (o := _) rfl (fun K hK => ?_) (AllReadyH.nil))
        · try simp only [List.getElem_toArray, List.getElem_cons_succ, List.getElem_cons_zero]
          have KP := hid (And.intro (Blk.grown hHeld.1 (World.grownBy_alloc w125 (.cells #[.int .u8 2] 5) none)) ((Box.keep (Box.grown (box_box hHeld.2) (World.grownBy_alloc w125 (.cells #[.int .u8 2] 5) none)))))
          have hnew := (⟨Box.size (box_box hHeld.2), at_new w125 _⟩ : (Blk w (w125.heap.size) (.cells #[.int .u8 2] 5)) (w125.alloc (.cells #[.int .u8 2] 5)))
          clear hHeld
          go_simp
          refine hK.out _ _ KP.out (fun hHeld => ?_)
          clear KP hK K
          try dsimp only at hHeld hnew
          generalize w125.alloc (.cells #[.int .u8 2] 5) = w126 at hHeld hnew ⊢
          try simp only [Act.put, List.setIfInBounds_toArray, List.set_cons_zero, List.set_cons_succ, List.getElem_toArray, List.getElem_cons_succ, List.getElem_cons_zero]
          refine held_stronger (S' := fun w' => (Blk w (w125.heap.size) (.cells #[.int .u8 2] 5)) w' ∧ (fun w' => (Blk w (w123.heap.size) (.cells #[.int .u8 1] 5)) w' ∧ (fun w' => w'.cell? ⟨w.heap.size, 0, none⟩ = some (.int .u64 (q k0)) ∧ w'.cell? ⟨w.heap.size, 1, none⟩ = some (.int .u64 (q k1)) ∧ Box w k0 k1 61 61 w') w') w') (fun _ h => h.2) _ _ _ _ ?_
          replace hHeld := And.intro hnew hHeld
          clear hnew
          try dsimp only at hHeld
          refine' wpAnyH_take (i := 12) (v := _) rfl (by kernel_rfl) (by kernel_rfl) (by kernel_rfl) (fun _ _ _ h => h) (Or.inl ⟨by rfl, ?_⟩) hHeld ?_
          rotate_left
          · (intro w hSw; (try dsimp only at hSw); have cv := conv_2 hSw.1.2; go_simp; (try rw [if_neg (by omega)]); try with_reducible rfl)
          try simp only [Act.put, List.setIfInBounds_toArray, List.set_cons_zero, List.set_cons_succ, List.getElem_toArray, List.getElem_cons_succ, List.getElem_cons_zero]
          refine' wpAnyH_take (i := 13) (v := _) rfl (by kernel_rfl) (by kernel_rfl) (by kernel_rfl) (fun _ _ _ h => h) (Or.inl ⟨by rfl, ?_⟩) hHeld ?_
          rotate_left
          · (intro w hSw; (try dsimp only at hSw); go_simp; (try rw [if_neg (by omega)]); try with_reducible rfl)
          try simp only [Act.put, List.setIfInBounds_toArray, List.set_cons_zero, List.set_cons_succ, List.getElem_toArray, List.getElem_cons_succ, List.getElem_cons_zero]
          refine wpAnyH_ready (rs := [15]) (by kernel_rfl) (by simp) ?_
          refine AllReadyH.cons (o := _) rfl (fun K hK => ?_) (AllReadyH.nil)
          try simp only [List.getElem_toArray, List.getElem_cons_succ, List.getElem_cons_zero]
          go_simp
          refine (HP.out _).mono ?_
          rintro e w127 ⟨rfl, hg⟩
          have KP := hid (And.intro (Blk.grown hHeld.1 hg) (And.intro (Blk.grown hHeld.2.1 hg) ((Box.keep (Box.grown (box_box hHeld.2.2) hg)))))
          clear hHeld hg
          go_wp2_with fail
          refine hK.out _ _ KP.out (fun hHeld => ?_)
          clear KP hK K
          try dsimp only at hHeld
          try simp only [Act.put, List.setIfInBounds_toArray, List.set_cons_zero, List.set_cons_succ, List.getElem_toArray, List.getElem_cons_succ, List.getElem_cons_zero]
          refine' wpAnyH_take (i := 16) (v := _) rfl (by kernel_rfl) (by kernel_rfl) (by kernel_rfl) (fun _ _ _ h => h) (Or.inl ⟨by rfl, ?_⟩) hHeld ?_
          rotate_left
          · (intro w hSw; (try dsimp only at hSw); go_simp; (try rw [if_neg (by omega)]); try with_reducible rfl)
          try simp only [Act.put, List.setIfInBounds_toArray, List.set_cons_zero, List.set_cons_succ, List.getElem_toArray, List.getElem_cons_succ, List.getElem_cons_zero]
          refine wpAnyH_ready (rs := [17]) (by kernel_rfl) (by simp) ?_
          refine AllReadyH.cons (o := _) rfl (fun K hK => ?_) (AllReadyH.nil)
          try simp only [List.getElem_toArray, List.getElem_cons_succ, List.getElem_cons_zero]
          go_simp
          refine (C1.out _).mono ?_
          rintro e w128 ⟨rfl, hg⟩
          have KP := hid (And.intro (Blk.grown hHeld.1 hg) (And.intro (Blk.grown hHeld.2.1 hg) ((Box.keep (Box.grown (box_box hHeld.2.2) hg)))))
          clear hHeld hg
          go_wp2_with fail
          refine hK.out _ _ KP.out (fun hHeld => ?_)
          clear KP hK K
          try dsimp only at hHeld
          try simp only [Act.put, List.setIfInBounds_toArray, List.set_cons_zero, List.set_cons_succ, List.getElem_toArray, List.getElem_cons_succ, List.getElem_cons_zero]
          refine' wpAnyH_take (i := 18) (v := _) rfl (by kernel_rfl) (by kernel_rfl) (by kernel_rfl) (fun _ _ _ h => h) (Or.inl ⟨by rfl, ?_⟩) hHeld ?_
          rotate_left
          · (intro w hSw; (try dsimp only at hSw); go_simp; (try rw [if_neg (by omega)]); try with_reducible rfl)
          try simp only [Act.put, List.setIfInBounds_toArray, List.set_cons_zero, List.set_cons_succ, List.getElem_toArray, List.getElem_cons_succ, List.getElem_cons_zero]
          refine wpAnyH_ready (rs := [19]) (by kernel_rfl) (by simp) ?_
          refine AllReadyH.cons (o := _) rfl (fun K hK => ?_) (AllReadyH.nil)
          try simp only [List.getElem_toArray, List.getElem_cons_succ, List.getElem_cons_zero]
          have hB := box_box hHeld.2.2
          obtain ⟨x, y, c0, c1, f0, f1⟩ := box_ans hHeld.2.2 (.refl w128 none)
          have KP := hid (And.intro (Blk.set1 (Blk.set0 hHeld.1 (.int .u64 (q a))) (.int .u64 (q b))) (And.intro (Blk.set1 (Blk.set0 hHeld.2.1 (.int .u64 (q a))) (.int .u64 (q b))) ((Box.keep (Box.set1 (Box.set0 (box_box hHeld.2.2) (.int .u64 (q a))) (.int .u64 (q b)))))))
          clear hHeld
          go_simp
          refine hK.out _ _ KP.out (fun hHeld => ?_)
          clear KP hK K
          try simp only [Act.put, List.setIfInBounds_toArray, List.set_cons_zero, List.set_cons_succ, List.getElem_toArray, List.getElem_cons_succ, List.getElem_cons_zero]
          refine wpAnyH_done (by kernel_rfl) ?_ _
          have hst := hB.store (.int .u64 (q a)) (.int .u64 (q b))
          clear hB c0 c1 f0 f1 hHeld
          generalize (w128.setCell ⟨w.heap.size + 1, 0, none⟩ (.int .u64 (q a))).setCell ⟨w.heap.size + 1, 1, none⟩ (.int .u64 (q b)) = wx at hst ⊢
          obtain ⟨d0, d1⟩ := pair_cells hst.1
          go_wp2_with fail
          exact bodyPost_ret (v := pair a b) (by simp [results, Try.results29, go_sem, d0, d1]) rfl ⟨rfl, hst.2⟩
        · try simp only [List.getElem_toArray, List.getElem_cons_succ, List.getElem_cons_zero]
          go_simp
          refine (HP.out _).mono ?_
          rintro e w130 ⟨rfl, hg⟩
          have KP := hid (And.intro (Blk.grown hHeld.1 hg) ((Box.keep (Box.grown (box_box hHeld.2) hg))))
          clear hHeld hg
          go_wp2_with fail
          refine hK.out _ _ KP.out (fun hHeld => ?_)
          clear KP hK K
          try dsimp only at hHeld
          try simp only [Act.put, List.setIfInBounds_toArray, List.set_cons_zero, List.set_cons_succ, List.getElem_toArray, List.getElem_cons_succ, List.getElem_cons_zero]
          refine wpAnyH_ready (rs := [11]) (by kernel_rfl) (by simp) ?_
          refine AllReadyH.cons (o := _) rfl (fun K hK => ?_) (AllReadyH.nil)
          try simp only [List.getElem_toArray, List.getElem_cons_succ, List.getElem_cons_zero]
          have KP := hid (And.intro (Blk.grown hHeld.1 (World.grownBy_alloc w130 (.cells #[.int .u8 2] 5) none)) ((Box.keep (Box.grown (box_box hHeld.2) (World.grownBy_alloc w130 (.cells #[.int .u8 2] 5) none)))))
          have hnew := (⟨Box.size (box_box hHeld.2), at_new w130 _⟩ : (Blk w (w130.heap.size) (.cells #[.int .u8 2] 5)) (w130.alloc (.cells #[.int .u8 2] 5)))
          clear hHeld
          go_simp
          refine hK.out _ _ KP.out (fun hHeld => ?_)
          clear KP hK K
          try dsimp only at hHeld hnew
          generalize w130.alloc (.cells #[.int .u8 2] 5) = w131 at hHeld hnew ⊢
          try simp only [Act.put, List.setIfInBounds_toArray, List.set_cons_zero, List.set_cons_succ, List.getElem_toArray, List.getElem_cons_succ, List.getElem_cons_zero]
          refine held_stronger (S' := fun w' => (Blk w (w130.heap.size) (.cells #[.int .u8 2] 5)) w' ∧ (fun w' => (Blk w (w123.heap.size) (.cells #[.int .u8 1] 5)) w' ∧ (fun w' => w'.cell? ⟨w.heap.size, 0, none⟩ = some (.int .u64 (q k0)) ∧ w'.cell? ⟨w.heap.size, 1, none⟩ = some (.int .u64 (q k1)) ∧ Box w k0 k1 61 61 w') w') w') (fun _ h => h.2) _ _ _ _ ?_
          replace hHeld := And.intro hnew hHeld
          clear hnew
          try dsimp only at hHeld
          refine' wpAnyH_take (i := 12) (v := _) rfl (by kernel_rfl) (by kernel_rfl) (by kernel_rfl) (fun _ _ _ h => h) (Or.inl ⟨by rfl, ?_⟩) hHeld ?_
          rotate_left
          · (intro w hSw; (try dsimp only at hSw); have cv := conv_2 hSw.1.2; go_simp; (try rw [if_neg (by omega)]); try with_reducible rfl)
          try simp only [Act.put, List.setIfInBounds_toArray, List.set_cons_zero, List.set_cons_succ, List.getElem_toArray, List.getElem_cons_succ, List.getElem_cons_zero]
          refine' wpAnyH_take (i := 13) (v := _) rfl (by kernel_rfl) (by kernel_rfl) (by kernel_rfl) (fun _ _ _ h => h) (Or.inl ⟨by rfl, ?_⟩) hHeld ?_
          rotate_left
          · (intro w hSw; (try dsimp only at hSw); go_simp; (try rw [if_neg (by omega)]); try with_reducible rfl)
          try simp only [Act.put, List.setIfInBounds_toArray, List.set_cons_zero, List.set_cons_succ, List.getElem_toArray, List.getElem_cons_succ, List.getElem_cons_zero]
          refine' wpAnyH_take (i := 16) (v := _) rfl (by kernel_rfl) (by kernel_rfl) (by kernel_rfl) (fun _ _ _ h => h) (Or.inl ⟨by rfl, ?_⟩) hHeld ?_
          rotate_left
          · (intro w hSw; (try dsimp only at hSw); go_simp; (try rw [if_neg (by omega)]); try with_reducible rfl)
          try simp only [Act.put, List.setIfInBounds_toArray, List.set_cons_zero, List.set_cons_succ, List.getElem_toArray, List.getElem_cons_succ, List.getElem_cons_zero]
          refine wpAnyH_ready (rs := [17]) (by kernel_rfl) (by simp) ?_
          refine AllReadyH.cons (o := _) rfl (fun K hK => ?_) (AllReadyH.nil)
          try simp only [List.getElem_toArray, List.getElem_cons_succ, List.getElem_cons_zero]
          go_simp
          refine (C1.out _).mono ?_
          rintro e w132 ⟨rfl, hg⟩
          have KP := hid (And.intro (Blk.grown hHeld.1 hg) (And.intro (Blk.grown hHeld.2.1 hg) ((Box.keep (Box.grown (box_box hHeld.2.2) hg)))))
          clear hHeld hg
          go_wp2_with fail
          refine hK.out _ _ KP.out (fun hHeld => ?_)
          clear KP hK K
          try dsimp only at hHeld
          try simp only [Act.put, List.setIfInBounds_toArray, List.set_cons_zero, List.set_cons_succ, List.getElem_toArray, List.getElem_cons_succ, List.getElem_cons_zero]
          refine' wpAnyH_take (i := 18) (v := _) rfl (by kernel_rfl) (by kernel_rfl) (by kernel_rfl) (fun _ _ _ h => h) (Or.inl ⟨by rfl, ?_⟩) hHeld ?_
          rotate_left
          · (intro w hSw; (try dsimp only at hSw); go_simp; (try rw [if_neg (by omega)]); try with_reducible rfl)
          try simp only [Act.put, List.setIfInBounds_toArray, List.set_cons_zero, List.set_cons_succ, List.getElem_toArray, List.getElem_cons_succ, List.getElem_cons_zero]
          refine wpAnyH_ready (rs := [19]) (by kernel_rfl) (by simp) ?_
          refine AllReadyH.cons (o := _) rfl (fun K hK => ?_) (AllReadyH.nil)
          try simp only [List.getElem_toArray, List.getElem_cons_succ, List.getElem_cons_zero]
          have hB := box_box hHeld.2.2
          obtain ⟨x, y, c0, c1, f0, f1⟩ := box_ans hHeld.2.2 (.refl w132 none)
          have KP := hid (And.intro (Blk.set1 (Blk.set0 hHeld.1 (.int .u64 (q a))) (.int .u64 (q b))) (And.intro (Blk.set1 (Blk.set0 hHeld.2.1 (.int .u64 (q a))) (.int .u64 (q b))) ((Box.keep (Box.set1 (Box.set0 (box_box hHeld.2.2) (.int .u64 (q a))) (.int .u64 (q b)))))))
          clear hHeld
          go_simp
          refine hK.out _ _ KP.out (fun hHeld => ?_)
          clear KP hK K
          try simp only [Act.put, List.setIfInBounds_toArray, List.set_cons_zero, List.set_cons_succ, List.getElem_toArray, List.getElem_cons_succ, List.getElem_cons_zero]
          refine wpAnyH_done (by kernel_rfl) ?_ _
          have hst := hB.store (.int .u64 (q a)) (.int .u64 (q b))
          clear hB c0 c1 f0 f1 hHeld
          generalize (w132.setCell ⟨w.heap.size + 1, 0, none⟩ (.int .u64 (q a))).setCell ⟨w.heap.size + 1, 1, none⟩ (.int .u64 (q b)) = wx at hst ⊢
          obtain ⟨d0, d1⟩ := pair_cells hst.1
          go_wp2_with fail
          exact bodyPost_ret (v := pair a b) (by simp [results, Try.results29, go_sem, d0, d1]) rfl ⟨rfl, hst.2⟩
      · try simp only [List.getElem_toArray, List.getElem_cons_succ, List.getElem_cons_zero]
        have KP := hid (And.intro (Blk.grown hHeld.1 (World.grownBy_alloc w124 (.cells #[.int .u8 2] 5) none)) ((Box.keep (Box.grown (box_box hHeld.2) (World.grownBy_alloc w124 (.cells #[.int .u8 2] 5) none)))))
        have hnew := (⟨Box.size (box_box hHeld.2), at_new w124 _⟩ : (Blk w (w124.heap.size) (.cells #[.int .u8 2] 5)) (w124.alloc (.cells #[.int .u8 2] 5)))
        clear hHeld
        go_simp
        refine hK.out _ _ KP.out (fun hHeld => ?_)
        clear KP hK K
        try dsimp only at hHeld hnew
        generalize w124.alloc (.cells #[.int .u8 2] 5) = w134 at hHeld hnew ⊢
        try simp only [Act.put, List.setIfInBounds_toArray, List.set_cons_zero, List.set_cons_succ, List.getElem_toArray, List.getElem_cons_succ, List.getElem_cons_zero]
        refine held_stronger (S' := fun w' => (Blk w (w124.heap.size) (.cells #[.int .u8 2] 5)) w' ∧ (fun w' => (Blk w (w123.heap.size) (.cells #[.int .u8 1] 5)) w' ∧ (fun w' => w'.cell? ⟨w.heap.size, 0, none⟩ = some (.int .u64 (q k0)) ∧ w'.cell? ⟨w.heap.size, 1, none⟩ = some (.int .u64 (q k1)) ∧ Box w k0 k1 61 61 w') w') w') (fun _ h => h.2) _ _ _ _ ?_
        replace hHeld := And.intro hnew hHeld
        clear hnew
        try dsimp only at hHeld
        refine' wpAnyH_take (i := 12) (v := _) rfl (by kernel_rfl) (by kernel_rfl) (by kernel_rfl) (fun _ _ _ h => h) (Or.inl ⟨by rfl, ?_⟩) hHeld ?_
        rotate_left
        · (intro w hSw; (try dsimp only at hSw); have cv := conv_2 hSw.1.2; go_simp; (try rw [if_neg (by omega)]); try with_reducible rfl)
        try simp only [Act.put, List.setIfInBounds_toArray, List.set_cons_zero, List.set_cons_succ, List.getElem_toArray, List.getElem_cons_succ, List.getElem_cons_zero]
        refine' wpAnyH_take (i := 13) (v := _) rfl (by kernel_rfl) (by kernel_rfl) (by kernel_rfl) (fun _ _ _ h => h) (Or.inl ⟨by rfl, ?_⟩) hHeld ?_
        rotate_left
        · (intro w hSw; (try dsimp only at hSw); go_simp; (try rw [if_neg (by omega)]); try with_reducible rfl)
        try simp only [Act.put, List.setIfInBounds_toArray, List.set_cons_zero, List.set_cons_succ, List.getElem_toArray, List.getElem_cons_succ, List.getElem_cons_zero]
        refine wpAnyH_ready (rs := [8]) (by kernel_rfl) (by simp) ?_
        refine AllReadyH.cons (o := _) rfl (fun K hK => ?_) (AllReadyH.nil)
        try simp only [List.getElem_toArray, List.getElem_cons_succ, List.getElem_cons_zero]
        go_simp
        refine (C0.out _).mono ?_
        rintro e w135 ⟨rfl, hg⟩
        have KP := hid (And.intro (Blk.grown hHeld.1 hg) (And.intro (Blk.grown hHeld.2.1 hg) ((Box.keep (Box.grown (box_box hHeld.2.2) hg)))))
        clear hHeld hg
        go_wp2_with fail
        refine hK.out _ _ KP.out (fun hHeld => ?_)
        clear KP hK K
        try dsimp only at hHeld
        try simp only [Act.put, List.setIfInBounds_toArray, List.set_cons_zero, List.set_cons_succ, List.getElem_toArray, List.getElem_cons_succ, List.getElem_cons_zero]
        refine wpAnyH_ready (rs := [15]) (by kernel_rfl) (by simp) ?_
        refine AllReadyH.cons (o := _) rfl (fun K hK => ?_) (AllReadyH.nil)
        try simp only [List.getElem_toArray, List.getElem_cons_succ, List.getElem_cons_zero]
        go_simp
        refine (HP.out _).mono ?_
        rintro e w136 ⟨rfl, hg⟩
        have KP := hid (And.intro (Blk.grown hHeld.1 hg) (And.intro (Blk.grown hHeld.2.1 hg) ((Box.keep (Box.grown (box_box hHeld.2.2) hg)))))
        clear hHeld hg
        go_wp2_with fail
        refine hK.out _ _ KP.out (fun hHeld => ?_)
        clear KP hK K
        try dsimp only at hHeld
        try simp only [Act.put, List.setIfInBounds_toArray, List.set_cons_zero, List.set_cons_succ, List.getElem_toArray, List.getElem_cons_succ, List.getElem_cons_zero]
        refine' wpAnyH_take (i := 16) (v := _) rfl (by kernel_rfl) (by kernel_rfl) (by kernel_rfl) (fun _ _ _ h => h) (Or.inl ⟨by rfl, ?_⟩) hHeld ?_
        rotate_left
        · (intro w hSw; (try dsimp only at hSw); go_simp; (try rw [if_neg (by omega)]); try with_reducible rfl)
        try simp only [Act.put, List.setIfInBounds_toArray, List.set_cons_zero, List.set_cons_succ, List.getElem_toArray, List.getElem_cons_succ, List.getElem_cons_zero]
        refine wpAnyH_ready (rs := [17]) (by kernel_rfl) (by simp) ?_
        refine AllReadyH.cons (o := _) rfl (fun K hK => ?_) (AllReadyH.nil)
        try simp only [List.getElem_toArray, List.getElem_cons_succ, List.getElem_cons_zero]
        go_simp
        refine (C1.out _).mono ?_
        rintro e w137 ⟨rfl, hg⟩
        have KP := hid (And.intro (Blk.grown hHeld.1 hg) (And.intro (Blk.grown hHeld.2.1 hg) ((Box.keep (Box.grown (box_box hHeld.2.2) hg)))))
        clear hHeld hg
        go_wp2_with fail
        refine hK.out _ _ KP.out (fun hHeld => ?_)
        clear KP hK K
        try dsimp only at hHeld
        try simp only [Act.put, List.setIfInBounds_toArray, List.set_cons_zero, List.set_cons_succ, List.getElem_toArray, List.getElem_cons_succ, List.getElem_cons_zero]
        refine' wpAnyH_take (i := 18) (v := _) rfl (by kernel_rfl) (by kernel_rfl) (by kernel_rfl) (fun _ _ _ h => h) (Or.inl ⟨by rfl, ?_⟩) hHeld ?_
        rotate_left
        · (intro w hSw; (try dsimp only at hSw); go_simp; (try rw [if_neg (by omega)]); try with_reducible rfl)
        try simp only [Act.put, List.setIfInBounds_toArray, List.set_cons_zero, List.set_cons_succ, List.getElem_toArray, List.getElem_cons_succ, List.getElem_cons_zero]
        refine wpAnyH_ready (rs := [19]) (by kernel_rfl) (by simp) ?_
        refine AllReadyH.cons (o := _) rfl (fun K hK => ?_) (AllReadyH.nil)
        try simp only [List.getElem_toArray, List.getElem_cons_succ, List.getElem_cons_zero]
        have hB := box_box hHeld.2.2
        obtain ⟨x, y, c0, c1, f0, f1⟩ := box_ans hHeld.2.2 (.refl w137 none)
        have KP := hid (And.intro (Blk.set1 (Blk.set0 hHeld.1 (.int .u64 (q a))) (.int .u64 (q b))) (And.intro (Blk.set1 (Blk.set0 hHeld.2.1 (.int .u64 (q a))) (.int .u64 (q b))) ((Box.keep (Box.set1 (Box.set0 (box_box hHeld.2.2) (.int .u64 (q a))) (.int .u64 (q b)))))))
        clear hHeld
        go_simp
        refine hK.out _ _ KP.out (fun hHeld => ?_)
        clear KP hK K
        try simp only [Act.put, List.setIfInBounds_toArray, List.set_cons_zero, List.set_cons_succ, List.getElem_toArray, List.getElem_cons_succ, List.getElem_cons_zero]
        refine wpAnyH_done (by kernel_rfl) ?_ _
        have hst := hB.store (.int .u64 (q a)) (.int .u64 (q b))
        clear hB c0 c1 f0 f1 hHeld
        generalize (w137.setCell ⟨w.heap.size + 1, 0, none⟩ (.int .u64 (q a))).setCell ⟨w.heap.size + 1, 1, none⟩ (.int .u64 (q b)) = wx at hst ⊢
        obtain ⟨d0, d1⟩ := pair_cells hst.1
        go_wp2_with fail
        exact bodyPost_ret (v := pair a b) (by simp [results, Try.results29, go_sem, d0, d1]) rfl ⟨rfl, hst.2⟩
    · try simp only [List.getElem_toArray, List.getElem_cons_succ, List.getElem_cons_zero]
      have KP := hid ((Box.keep (Box.grown (box_box hHeld) (World.grownBy_alloc w123 (.cells #[.int .u8 2] 5) none))))
      have hnew := (⟨Box.size (box_box hHeld), at_new w123 _⟩ : (Blk w (w123.heap.size) (.cells #[.int .u8 2] 5)) (w123.alloc (.cells #[.int .u8 2] 5)))
      clear hHeld
      go_simp
      refine hK.out _ _ KP.out (fun hHeld => ?_)
      clear KP hK K
      try dsimp only at hHeld hnew
      generalize w123.alloc (.cells #[.int .u8 2] 5) = w139 at hHeld hnew ⊢
      try simp only [Act.put, List.setIfInBounds_toArray, List.set_cons_zero, List.set_cons_succ, List.getElem_toArray, List.getElem_cons_succ, List.getElem_cons_zero]
      refine held_stronger (S' := fun w' => (Blk w (w123.heap.size) (.cells #[.int .u8 2] 5)) w' ∧ (fun w' => w'.cell? ⟨w.heap.size, 0, none⟩ = some (.int .u64 (q k0)) ∧ w'.cell? ⟨w.heap.size, 1, none⟩ = some (.int .u64 (q k1)) ∧ Box w k0 k1 61 61 w') w') (fun _ h => h.2) _ _ _ _ ?_
      replace hHeld := And.intro hnew hHeld
      clear hnew
      try dsimp only at hHeld
      refine' wpAnyH_take (i := 12) (v := _) rfl (by kernel_rfl) (by kernel_rfl) (by kernel_rfl) (fun _ _ _ h => h) (Or.inl ⟨by rfl, ?_⟩) hHeld ?_
      rotate_left
      · (intro w hSw; (try dsimp only at hSw); have cv := conv_2 hSw.1.2; go_simp; (try rw [if_neg (by omega)]); try with_reducible rfl)
      try simp only [Act.put, List.setIfInBounds_toArray, List.set_cons_zero, List.set_cons_succ, List.getElem_toArray, List.getElem_cons_succ, List.getElem_cons_zero]
      refine' wpAnyH_take (i := 13) (v := _) rfl (by kernel_rfl) (by kernel_rfl) (by kernel_rfl) (fun _ _ _ h => h) (Or.inl ⟨by rfl, ?_⟩) hHeld ?_
      rotate_left
      · (intro w hSw; (try dsimp only at hSw); go_simp; (try rw [if_neg (by omega)]); try with_reducible rfl)
      try simp only [Act.put, List.setIfInBounds_toArray, List.set_cons_zero, List.set_cons_succ, List.getElem_toArray, List.getElem_cons_succ, List.getElem_cons_zero]
      refine wpAnyH_ready (rs := [2]) (by kernel_rfl) (by simp) ?_
      refine AllReadyH.cons (o := _) rfl (fun K hK => ?_) (AllReadyH.nil)
      try simp only [List.getElem_toArray, List.getElem_cons_succ, List.getElem_cons_zero]
      have KP := hid (And.intro (Blk.grown hHeld.1 (World.grownBy_alloc w139 (.cells #[.int .u8 1] 5) none)) ((Box.keep (Box.grown (box_box hHeld.2) (World.grownBy_alloc w139 (.cells #[.int .u8 1] 5) none)))))
      have hnew := (⟨Box.size (box_box hHeld.2), at_new w139 _⟩ : (Blk w (w139.heap.size) (.cells #[.int .u8 1] 5)) (w139.alloc (.cells #[.int .u8 1] 5)))
      clear hHeld
      go_simp
      refine hK.out _ _ KP.out (fun hHeld => ?_)
      clear KP hK K
      try dsimp only at hHeld hnew
      generalize w139.alloc (.cells #[.int .u8 1] 5) = w140 at hHeld hnew ⊢
      try simp only [Act.put, List.setIfInBounds_toArray, List.set_cons_zero, List.set_cons_succ, List.getElem_toArray, List.getElem_cons_succ, List.getElem_cons_zero]
      refine held_stronger (S' := fun w' => (Blk w (w139.heap.size) (.cells #[.int .u8 1] 5)) w' ∧ (fun w' => (Blk w (w123.heap.size) (.cells #[.int .u8 2] 5)) w' ∧ (fun w' => w'.cell? ⟨w.heap.size, 0, none⟩ = some (.int .u64 (q k0)) ∧ w'.cell? ⟨w.heap.size, 1, none⟩ = some (.int .u64 (q k1)) ∧ Box w k0 k1 61 61 w') w') w') (fun _ h => h.2) _ _ _ _ ?_
      replace hHeld := And.intro hnew hHeld
      clear hnew
      try dsimp only at hHeld
      refine' wpAnyH_take (i := 3) (v := _) rfl (by kernel_rfl) (by kernel_rfl) (by kernel_rfl) (fun _ _ _ h => h) (Or.inl ⟨by rfl, ?_⟩) hHeld ?_
      rotate_left
      · (intro w hSw; (try dsimp only at hSw); have cv := conv_1 hSw.1.2; go_simp; (try rw [if_neg (by omega)]); try with_reducible rfl)
      try simp only [Act.put, List.setIfInBounds_toArray, List.set_cons_zero, List.set_cons_succ, List.getElem_toArray, List.getElem_cons_succ, List.getElem_cons_zero]
      refine' wpAnyH_take (i := 4) (v := _) rfl (by kernel_rfl) (by kernel_rfl) (by kernel_rfl) (fun _ _ _ h => h) (Or.inl ⟨by rfl, ?_⟩) hHeld ?_
      rotate_left
      · (intro w hSw; (try dsimp only at hSw); go_simp; (try rw [if_neg (by omega)]); try with_reducible rfl)
      try simp only [Act.put, List.setIfInBounds_toArray, List.set_cons_zero, List.set_cons_succ, List.getElem_toArray, List.getElem_cons_succ, List.getElem_cons_zero]
      refine' wpAnyH_take (i := 7) (v := _) rfl (by kernel_rfl) (by kernel_rfl) (by kernel_rfl) (fun _ _ _ h => h) (Or.inl ⟨by rfl, ?_⟩) hHeld ?_
      rotate_left
      · (intro w hSw; (try dsimp only at hSw); go_simp; (try rw [if_neg (by omega)]); try with_reducible rfl)
      try simp only [Act.put, List.setIfInBounds_toArray, List.set_cons_zero, List.set_cons_succ, List.getElem_toArray, List.getElem_cons_succ, List.getElem_cons_zero]
      refine wpAnyH_ready (rs := [8]) (by kernel_rfl) (by simp) ?_
      refine AllReadyH.cons (o := _) rfl (fun K hK => ?_) (AllReadyH.nil)
      try simp only [List.getElem_toArray, List.getElem_cons_succ, List.getElem_cons_zero]
      go_simp
      refine (C0.out _).mono ?_
      rintro e w141 ⟨rfl, hg⟩
      have KP := hid (And.intro (Blk.grown hHeld.1 hg) (And.intro (Blk.grown hHeld.2.1 hg) ((Box.keep (Box.grown (box_box hHeld.2.2) hg)))))
      clear hHeld hg
      go_wp2_with fail
      refine hK.out _ _ KP.out (fun hHeld => ?_)
      clear KP hK K
      try dsimp only at hHeld
      try simp only [Act.put, List.setIfInBounds_toArray, List.set_cons_zero, List.set_cons_succ, List.getElem_toArray, List.getElem_cons_succ, List.getElem_cons_zero]
      refine wpAnyH_ready (rs := [15]) (by kernel_rfl) (by simp) ?_
      refine AllReadyH.cons (o := _) rfl (fun K hK => ?_) (AllReadyH.nil)
      try simp only [List.getElem_toArray, List.getElem_cons_succ, List.getElem_cons_zero]
      go_simp
      refine (HP.out _).mono ?_
      rintro e w142 ⟨rfl, hg⟩
      have KP := hid (And.intro (Blk.grown hHeld.1 hg) (And.intro (Blk.grown hHeld.2.1 hg) ((Box.keep (Box.grown (box_box hHeld.2.2) hg)))))
      clear hHeld hg
      go_wp2_with fail
      refine hK.out _ _ KP.out (fun hHeld => ?_)
      clear KP hK K
      try dsimp only at hHeld
      try simp only [Act.put, List.setIfInBounds_toArray, List.set_cons_zero, List.set_cons_succ, List.getElem_toArray, List.getElem_cons_succ, List.getElem_cons_zero]
      refine' wpAnyH_take (i := 16) (v := _) rfl (by kernel_rfl) (by kernel_rfl) (by kernel_rfl) (fun _ _ _ h => h) (Or.inl ⟨by rfl, ?_⟩) hHeld ?_
      rotate_left
      · (intro w hSw; (try dsimp only at hSw); go_simp; (try rw [if_neg (by omega)]); try with_reducible rfl)
      try simp only [Act.put, List.setIfInBounds_toArray, List.set_cons_zero, List.set_cons_succ, List.getElem_toArray, List.getElem_cons_succ, List.getElem_cons_zero]
      refine wpAnyH_ready (rs := [17]) (by kernel_rfl) (by simp) ?_
      refine AllReadyH.cons (o := _) rfl (fun K hK => ?_) (AllReadyH.nil)
      try simp only [List.getElem_toArray, List.getElem_cons_succ, List.getElem_cons_zero]
      go_simp
      refine (C1.out _).mono ?_
      rintro e w143 ⟨rfl, hg⟩
      have KP := hid (And.intro (Blk.grown hHeld.1 hg) (And.intro (Blk.grown hHeld.2.1 hg) ((Box.keep (Box.grown (box_box hHeld.2.2) hg)))))
      clear hHeld hg
      go_wp2_with fail
      refine hK.out _ _ KP.out (fun hHeld => ?_)
      clear KP hK K
      try dsimp only at hHeld
      try simp only [Act.put, List.setIfInBounds_toArray, List.set_cons_zero, List.set_cons_succ, List.getElem_toArray, List.getElem_cons_succ, List.getElem_cons_zero]
      refine' wpAnyH_take (i := 18) (v := _) rfl (by kernel_rfl) (by kernel_rfl) (by kernel_rfl) (fun _ _ _ h => h) (Or.inl ⟨by rfl, ?_⟩) hHeld ?_
      rotate_left
      · (intro w hSw; (try dsimp only at hSw); go_simp; (try rw [if_neg (by omega)]); try with_reducible rfl)
      try simp only [Act.put, List.setIfInBounds_toArray, List.set_cons_zero, List.set_cons_succ, List.getElem_toArray, List.getElem_cons_succ, List.getElem_cons_zero]
      refine wpAnyH_ready (rs := [19]) (by kernel_rfl) (by simp) ?_
      refine AllReadyH.cons (o := _) rfl (fun K hK => ?_) (AllReadyH.nil)
      try simp only [List.getElem_toArray, List.getElem_cons_succ, List.getElem_cons_zero]
      have hB := box_box hHeld.2.2
      obtain ⟨x, y, c0, c1, f0, f1⟩ := box_ans hHeld.2.2 (.refl w143 none)
      have KP := hid (And.intro (Blk.set1 (Blk.set0 hHeld.1 (.int .u64 (q a))) (.int .u64 (q b))) (And.intro (Blk.set1 (Blk.set0 hHeld.2.1 (.int .u64 (q a))) (.int .u64 (q b))) ((Box.keep (Box.set1 (Box.set0 (box_box hHeld.2.2) (.int .u64 (q a))) (.int .u64 (q b)))))))
      clear hHeld
      go_simp
      refine hK.out _ _ KP.out (fun hHeld => ?_)
      clear KP hK K
      try simp only [Act.put, List.setIfInBounds_toArray, List.set_cons_zero, List.set_cons_succ, List.getElem_toArray, List.getElem_cons_succ, List.getElem_cons_zero]
      refine wpAnyH_done (by kernel_rfl) ?_ _
      have hst := hB.store (.int .u64 (q a)) (.int .u64 (q b))
      clear hB c0 c1 f0 f1 hHeld
      generalize (w143.setCell ⟨w.heap.size + 1, 0, none⟩ (.int .u64 (q a))).setCell ⟨w.heap.size + 1, 1, none⟩ (.int .u64 (q b)) = wx at hst ⊢
      obtain ⟨d0, d1⟩ := pair_cells hst.1
      go_wp2_with fail
      exact bodyPost_ret (v := pair a b) (by simp [results, Try.results29, go_sem, d0, d1]) rfl ⟨rfl, hst.2⟩
  · try simp only [List.getElem_toArray, List.getElem_cons_succ, List.getElem_cons_zero]
    have KP := hid ((Box.keep (Box.grown (box_box hHeld) (World.grownBy_alloc w5 (.cells #[.int .u8 2] 5) none))))
    have hnew := (⟨Box.size (box_box hHeld), at_new w5 _⟩ : (Blk w (w5.heap.size) (.cells #[.int .u8 2] 5)) (w5.alloc (.cells #[.int .u8 2] 5)))
    clear hHeld
    go_simp
    refine hK.out _ _ KP.out (fun hHeld => ?_)
    clear KP hK K
    try dsimp only at hHeld hnew
    generalize w5.alloc (.cells #[.int .u8 2] 5) = w145 at hHeld hnew ⊢
    try simp only [Act.put, List.setIfInBounds_toArray, List.set_cons_zero, List.set_cons_succ, List.getElem_toArray, List.getElem_cons_succ, List.getElem_cons_zero]
    refine held_stronger (S' := fun w' => (Blk w (w5.heap.size) (.cells #[.int .u8 2] 5)) w' ∧ (fun w' => w'.cell? ⟨w.heap.size, 0, none⟩ = some (.int .u64 (q k0)) ∧ w'.cell? ⟨w.heap.size, 1, none⟩ = some (.int .u64 (q k1)) ∧ Box w k0 k1 61 61 w') w') (fun _ h => h.2) _ _ _ _ ?_
    replace hHeld := And.intro hnew hHeld
    clear hnew
    try dsimp only at hHeld
    refine' wpAnyH_take (i := 12) (v := _) rfl (by kernel_rfl) (by kernel_rfl) (by kernel_rfl) (fun _ _ _ h => h) (Or.inl ⟨by rfl, ?_⟩) hHeld ?_
    rotate_left
    · (intro w hSw; (try dsimp only at hSw); have cv := conv_2 hSw.1.2; go_simp; (try rw [if_neg (by omega)]); try with_reducible rfl)
    try simp only [Act.put, List.setIfInBounds_toArray, List.set_cons_zero, List.set_cons_succ, List.getElem_toArray, List.getElem_cons_succ, List.getElem_cons_zero]
    refine' wpAnyH_take (i := 13) (v := _) rfl (by kernel_rfl) (by kernel_rfl) (by kernel_rfl) (fun _ _ _ h => h) (Or.inl ⟨by rfl, ?_⟩) hHeld ?_
    rotate_left
    · (intro w hSw; (try dsimp only at hSw); go_simp; (try rw [if_neg (by omega)]); try with_reducible rfl)
    try simp only [Act.put, List.setIfInBounds_toArray, List.set_cons_zero, List.set_cons_succ, List.getElem_toArray, List.getElem_cons_succ, List.getElem_cons_zero]
    refine wpAnyH_ready (rs := [2, 6]) (by kernel_rfl) (by simp) ?_
    refine AllReadyH.cons (o := _) rfl (fun K hK => ?_) (AllReadyH.cons (o := _) rfl (fun K hK => ?_) (AllReadyH.nil))
    · try simp only [List.getElem_toArray, List.getElem_cons_succ, List.getElem_cons_zero]
      have KP := hid (And.intro (Blk.grown hHeld.1 (World.grownBy_alloc w145 (.cells #[.int .u8 1] 5) none)) ((Box.keep (Box.grown (box_box hHeld.2) (World.grownBy_alloc w145 (.cells #[.int .u8 1] 5) none)))))
      have hnew := (⟨Box.size (box_box hHeld.2), at_new w145 _⟩ : (Blk w (w145.heap.size) (.cells #[.int .u8 1] 5)) (w145.alloc (.cells #[.int .u8 1] 5)))
      clear hHeld
      go_simp
      refine hK.out _ _ KP.out (fun hHeld => ?_)
      clear KP hK K
      try dsimp only at hHeld hnew
      generalize w145.alloc (.cells #[.int .u8 1] 5) = w146 at hHeld hnew ⊢
      try simp only [Act.put, List.setIfInBounds_toArray, List.set_cons_zero, List.set_cons_succ, List.getElem_toArray, List.getElem_cons_succ, List.getElem_cons_zero]
      refine held_stronger (S' := fun w' => (Blk w (w145.heap.size) (.cells #[.int .u8 1] 5)) w' ∧ (fun w' => (Blk w (w5.heap.size) (.cells #[.int .u8 2] 5)) w' ∧ (fun w' => w'.cell? ⟨w.heap.size, 0, none⟩ = some (.int .u64 (q k0)) ∧ w'.cell? ⟨w.heap.size, 1, none⟩ = some (.int .u64 (q k1)) ∧ Box w k0 k1 61 61 w') w') w') (fun _ h => h.2) _ _ _ _ ?_
      replace hHeld := And.intro hnew hHeld
      clear hnew
      try dsimp only at hHeld
      refine' wpAnyH_take (i := 3) (v := _) rfl (by kernel_rfl) (by kernel_rfl) (by kernel_rfl) (fun _ _ _ h => h) (Or.inl ⟨by rfl, ?_⟩) hHeld ?_
      rotate_left
      · (intro w hSw; (try dsimp only at hSw); have cv := conv_1 hSw.1.2; go_simp; (try rw [if_neg (by omega)]); try with_reducible rfl)
      try simp only [Act.put, List.setIfInBounds_toArray, List.set_cons_zero, List.set_cons_succ, List.getElem_toArray, List.getElem_cons_succ, List.getElem_cons_zero]
      refine' wpAnyH_take (i := 4) (v := _) rfl (by kernel_rfl) (by kernel_rfl) (by kernel_rfl) (fun _ _ _ h => h) (Or.inl ⟨by rfl, ?_⟩) hHeld ?_
      rotate_left
      · (intro w hSw; (try dsimp only at hSw); go_simp; (try rw [if_neg (by omega)]); try with_reducible rfl)
      try simp only [Act.put, List.setIfInBounds_toArray, List.set_cons_zero, List.set_cons_succ, List.getElem_toArray, List.getElem_cons_succ, List.getElem_cons_zero]
      refine wpAnyH_ready (rs := [6]) (by kernel_rfl) (by simp) ?_
      refine AllReadyH.cons (o := _) rfl (fun K hK => ?_) (AllReadyH.nil)
      try simp only [List.getElem_toArray, List.getElem_cons_succ, List.getElem_cons_zero]
      go_simp
      refine (HP.out _).mono ?_
      rintro e w147 ⟨rfl, hg⟩
      have KP := hid (And.intro (Blk.grown hHeld.1 hg) (And.intro (Blk.grown hHeld.2.1 hg) ((Box.keep (Box.grown (box_box hHeld.2.2) hg)))))
      clear hHeld hg
      go_wp2_with fail
      refine hK.out _ _ KP.out (fun hHeld => ?_)
      clear KP hK K
      try dsimp only at hHeld
      try simp only [Act.put, List.setIfInBounds_toArray, List.set_cons_zero, List.set_cons_succ, List.getElem_toArray, List.getElem_cons_succ, List.getElem_cons_zero]
      refine' wpAnyH_take (i := 7) (v := _) rfl (by kernel_rfl) (by kernel_rfl) (by kernel_rfl) (fun _ _ _ h => h) (Or.inl ⟨by rfl, ?_⟩) hHeld ?_
      rotate_left
      · (intro w hSw; (try dsimp only at hSw); go_simp; (try rw [if_neg (by omega)]); try with_reducible rfl)
      try simp only [Act.put, List.setIfInBounds_toArray, List.set_cons_zero, List.set_cons_succ, List.getElem_toArray, List.getElem_cons_succ, List.getElem_cons_zero]
      refine wpAnyH_ready (rs := [8]) (by kernel_rfl) (by simp) ?_
      refine AllReadyH.cons (o := _) rfl (fun K hK => ?_) (AllReadyH.nil)
      try simp only [List.getElem_toArray, List.getElem_cons_succ, List.getElem_cons_zero]
      go_simp
      refine (C0.out _).mono ?_
      rintro e w148 ⟨rfl, hg⟩
      have KP := hid (And.intro (Blk.grown hHeld.1 hg) (And.intro (Blk.grown hHeld.2.1 hg) ((Box.keep (Box.grown (box_box hHeld.2.2) hg)))))
      clear hHeld hg
      go_wp2_with fail
      refine hK.out _ _ KP.out (fun hHeld => ?_)
      clear KP hK K
      try dsimp only at hHeld
      try simp only [Act.put, List.setIfInBounds_toArray, List.set_cons_zero, List.set_cons_succ, List.getElem_toArray, List.getElem_cons_succ, List.getElem_cons_zero]
      refine wpAnyH_ready (rs := [15]) (by kernel_rfl) (by simp) ?_
      refine AllReadyH.cons (o := _) rfl (fun K hK => ?_) (AllReadyH.nil)
      try simp only [List.getElem_toArray, List.getElem_cons_succ, List.getElem_cons_zero]
      go_simp
      refine (HP.out _).mono ?_
      rintro e w149 ⟨rfl, hg⟩
      have KP := hid (And.intro (Blk.grown hHeld.1 hg) (And.intro (Blk.grown hHeld.2.1 hg) ((Box.keep (Box.grown (box_box hHeld.2.2) hg)))))
      clear hHeld hg
      go_wp2_with fail
      refine hK.out _ _ KP.out (fun hHeld => ?_)
      clear KP hK K
      try dsimp only at hHeld
      try simp only [Act.put, List.setIfInBounds_toArray, List.set_cons_zero, List.set_cons_succ, List.getElem_toArray, List.getElem_cons_succ, List.getElem_cons_zero]
      refine' wpAnyH_take (i := 16) (v := _) rfl (by kernel_rfl) (by kernel_rfl) (by kernel_rfl) (fun _ _ _ h => h) (Or.inl ⟨by rfl, ?_⟩) hHeld ?_
      rotate_left
      · (intro w hSw; (try dsimp only at hSw); go_simp; (try rw [if_neg (by omega)]); try with_reducible rfl)
      try simp only [Act.put, List.setIfInBounds_toArray, List.set_cons_zero, List.set_cons_succ, List.getElem_toArray, List.getElem_cons_succ, List.getElem_cons_zero]
      refine wpAnyH_ready (rs := [17]) (by kernel_rfl) (by simp) ?_
      refine AllReadyH.cons (o := _) rfl (fun K hK => ?_) (AllReadyH.nil)
      try simp only [List.getElem_toArray, List.getElem_cons_succ, List.getElem_cons_zero]
      go_simp
      refine (C1.out _).mono ?_
      rintro e w150 ⟨rfl, hg⟩
      have KP := hid (And.intro (Blk.grown hHeld.1 hg) (And.intro (Blk.grown hHeld.2.1 hg) ((Box.keep (Box.grown (box_box hHeld.2.2) hg)))))
      clear hHeld hg
      go_wp2_with fail
      refine hK.out _ _ KP.out (fun hHeld => ?_)
      clear KP hK K
      try dsimp only at hHeld
      try simp only [Act.put, List.setIfInBounds_toArray, List.set_cons_zero, List.set_cons_succ, List.getElem_toArray, List.getElem_cons_succ, List.getElem_cons_zero]
      refine' wpAnyH_take (i := 18) (v := _) rfl (by kernel_rfl) (by kernel_rfl) (by kernel_rfl) (fun _ _ _ h => h) (Or.inl ⟨by rfl, ?_⟩) hHeld ?_
      rotate_left
      · (intro w hSw; (try dsimp only at hSw); go_simp; (try rw [if_neg (by omega)]); try with_reducible rfl)
      try simp only [Act.put, List.setIfInBounds_toArray, List.set_cons_zero, List.set_cons_succ, List.getElem_toArray, List.getElem_cons_succ, List.getElem_cons_zero]
      refine wpAnyH_ready (rs := [19]) (by kernel_rfl) (by simp) ?_
      refine AllReadyH.cons (o := _) rfl (fun K hK => ?_) (AllReadyH.nil)
      try simp only [List.getElem_toArray, List.getElem_cons_succ, List.getElem_cons_zero]
      have hB := box_box hHeld.2.2
      obtain ⟨x, y, c0, c1, f0, f1⟩ := box_ans hHeld.2.2 (.refl w150 none)
      have KP := hid (And.intro (Blk.set1 (Blk.set0 hHeld.1 (.int .u64 (q a))) (.int .u64 (q b))) (And.intro (Blk.set1 (Blk.set0 hHeld.2.1 (.int .u64 (q a))) (.int .u64 (q b))) ((Box.keep (Box.set1 (Box.set0 (box_box hHeld.2.2) (.int .u64 (q a))) (.int .u64 (q b)))))))
      clear hHeld
      go_simp
      refine hK.out _ _ KP.out (fun hHeld => ?_)
      clear KP hK K
      try simp only [Act.put, List.setIfInBounds_toArray, List.set_cons_zero, List.set_cons_succ, List.getElem_toArray, List.getElem_cons_succ, List.getElem_cons_zero]
      refine wpAnyH_done (by kernel_rfl) ?_ _
      have hst := hB.store (.int .u64 (q a)) (.int .u64 (q b))
      clear hB c0 c1 f0 f1 hHeld
      generalize (w150.setCell ⟨w.heap.size + 1, 0, none⟩ (.int .u64 (q a))).setCell ⟨w.heap.size + 1, 1, none⟩ (.int .u64 (q b)) = wx at hst ⊢
      obtain ⟨d0, d1⟩ := pair_cells hst.1
      go_wp2_with fail
      exact bodyPost_ret (v := pair a b) (by simp [results, Try.results29, go_sem, d0, d1]) rfl ⟨rfl, hst.2⟩
    · try simp only [List.getElem_toArray, List.getElem_cons_succ, List.getElem_cons_zero]
      go_simp
      refine (HP.out _).mono ?_
      rintro e w152 ⟨rfl, hg⟩
      have KP := hid (And.intro (Blk.grown hHeld.1 hg) ((Box.keep (Box.grown (box_box hHeld.2) hg))))
      clear hHeld hg
      go_wp2_with fail
      refine hK.out _ _ KP.out (fun hHeld => ?_)
      clear KP hK K
      try dsimp only at hHeld
      try simp only [Act.put, List.setIfInBounds_toArray, List.set_cons_zero, List.set_cons_succ, List.getElem_toArray, List.getElem_cons_succ, List.getElem_cons_zero]
      refine wpAnyH_ready (rs := [2]) (by kernel_rfl) (by simp) ?_
      refine AllReadyH.cons (o := _) rfl (fun K hK => ?_) (AllReadyH.nil)
      try simp only [List.getElem_toArray, List.getElem_cons_succ, List.getElem_cons_zero]
      have KP := hid (And.intro (Blk.grown hHeld.1 (World.grownBy_alloc w152 (.cells #[.int .u8 1] 5) none)) ((Box.keep (Box.grown (box_box hHeld.2) (World.grownBy_alloc w152 (.cells #[.int .u8 1] 5) none)))))
      have hnew := (⟨Box.size (box_box hHeld.2), at_new w152 _⟩ : (Blk w (w152.heap.size) (.cells #[.int .u8 1] 5)) (w152.alloc (.cells #[.int .u8 1] 5)))
      clear hHeld
      go_simp
      refine hK.out _ _ KP.out (fun hHeld => ?_)
      clear KP hK K
      try dsimp only at hHeld hnew
      generalize w152.alloc (.cells #[.int .u8 1] 5) = w153 at hHeld hnew ⊢
      try simp only [Act.put, List.setIfInBounds_toArray, List.set_cons_zero, List.set_cons_succ, List.getElem_toArray, List.getElem_cons_succ, List.getElem_cons_zero]
      refine held_stronger (S' := fun w' => (Blk w (w152.heap.size) (.cells #[.int .u8 1] 5)) w' ∧ (fun w' => (Blk w (w5.heap.size) (.cells #[.int .u8 2] 5)) w' ∧ (fun w' => w'.cell? ⟨w.heap.size, 0, none⟩ = some (.int .u64 (q k0)) ∧ w'.cell? ⟨w.heap.size, 1, none⟩ = some (.int .u64 (q k1)) ∧ Box w k0 k1 61 61 w') w') w') (fun _ h => h.2) _ _ _ _ ?_
      replace hHeld := And.intro hnew hHeld
      clear hnew
      try dsimp only at hHeld
      refine' wpAnyH_take (i := 3) (v := _) rfl (by kernel_rfl) (by kernel_rfl) (by kernel_rfl) (fun _ _ _ h => h) (Or.inl ⟨by rfl, ?_⟩) hHeld ?_
      rotate_left
      · (intro w hSw; (try dsimp only at hSw); have cv := conv_1 hSw.1.2; go_simp; (try rw [if_neg (by omega)]); try with_reducible rfl)
      try simp only [Act.put, List.setIfInBounds_toArray, List.set_cons_zero, List.set_cons_succ, List.getElem_toArray, List.getElem_cons_succ, List.getElem_cons_zero]
      refine' wpAnyH_take (i := 4) (v := _) rfl (by kernel_rfl) (by kernel_rfl) (by kernel_rfl) (fun _ _ _ h => h) (Or.inl ⟨by rfl, ?_⟩) hHeld ?_
      rotate_left
      · (intro w hSw; (try dsimp only at hSw); go_simp; (try rw [if_neg (by omega)]); try with_reducible rfl)
      try simp only [Act.put, List.setIfInBounds_toArray, List.set_cons_zero, List.set_cons_succ, List.getElem_toArray, List.getElem_cons_succ, List.getElem_cons_zero]
      refine' wpAnyH_take (i := 7) (v := _) rfl (by kernel_rfl) (by kernel_rfl) (by kernel_rfl) (fun _ _ _ h => h) (Or.inl ⟨by rfl, ?_⟩) hHeld ?_
      rotate_left
      · (intro w hSw; (try dsimp only at hSw); go_simp; (try rw [if_neg (by omega)]); try with_reducible rfl)
      try simp only [Act.put, List.setIfInBounds_toArray, List.set_cons_zero, List.set_cons_succ, List.getElem_toArray, List.getElem_cons_succ, List.getElem_cons_zero]
      refine wpAnyH_ready (rs := [8]) (by kernel_rfl) (by simp) ?_
      refine AllReadyH.cons (o := _) rfl (fun K hK => ?_) (AllReadyH.nil)
      try simp only [List.getElem_toArray, List.getElem_cons_succ, List.getElem_cons_zero]
      go_simp
      refine (C0.out _).mono ?_
      rintro e w154 ⟨rfl, hg⟩
      have KP := hid (And.intro (Blk.grown hHeld.1 hg) (And.intro (Blk.grown hHeld.2.1 hg) ((Box.keep (Box.grown (box_box hHeld.2.2) hg)))))
      clear hHeld hg
      go_wp2_with fail
      refine hK.out _ _ KP.out (fun hHeld => ?_)
      clear KP hK K
      try dsimp only at hHeld
      try simp only [Act.put, List.setIfInBounds_toArray, List.set_cons_zero, List.set_cons_succ, List.getElem_toArray, List.getElem_cons_succ, List.getElem_cons_zero]
      refine wpAnyH_ready (rs := [15]) (by kernel_rfl) (by simp) ?_
      refine AllReadyH.cons (o := _) rfl (fun K hK => ?_) (AllReadyH.nil)
      try simp only [List.getElem_toArray, List.getElem_cons_succ, List.getElem_cons_zero]
      go_simp
      refine (HP.out _).mono ?_
      rintro e w155 ⟨rfl, hg⟩
      have KP := hid (And.intro (Blk.grown hHeld.1 hg) (And.intro (Blk.grown hHeld.2.1 hg) ((Box.keep (Box.grown (box_box hHeld.2.2) hg)))))
      clear hHeld hg
      go_wp2_with fail
      refine hK.out _ _ KP.out (fun hHeld => ?_)
      clear KP hK K
      try dsimp only at hHeld
      try simp only [Act.put, List.setIfInBounds_toArray, List.set_cons_zero, List.set_cons_succ, List.getElem_toArray, List.getElem_cons_succ, List.getElem_cons_zero]
      refine' wpAnyH_take (i := 16) (v := _) rfl (by kernel_rfl) (by kernel_rfl) (by kernel_rfl) (fun _ _ _ h => h) (Or.inl ⟨by rfl, ?_⟩) hHeld ?_
      rotate_left
      · (intro w hSw; (try dsimp only at hSw); go_simp; (try rw [if_neg (by omega)]); try with_reducible rfl)
      try simp only [Act.put, List.setIfInBounds_toArray, List.set_cons_zero, List.set_cons_succ, List.getElem_toArray, List.getElem_cons_succ, List.getElem_cons_zero]
      refine wpAnyH_ready (rs := [17]) (by kernel_rfl) (by simp) ?_
      refine AllReadyH.cons (o := _) rfl (fun K hK => ?_) (AllReadyH.nil)
      try simp only [List.getElem_toArray, List.getElem_cons_succ, List.getElem_cons_zero]
      go_simp
      refine (C1.out _).mono ?_
      rintro e w156 ⟨rfl, hg⟩
      have KP := hid (And.intro (Blk.grown hHeld.1 hg) (And.intro (Blk.grown hHeld.2.1 hg) ((Box.keep (Box.grown (box_box hHeld.2.2) hg)))))
      clear hHeld hg
      go_wp2_with fail
      refine hK.out _ _ KP.out (fun hHeld => ?_)
      clear KP hK K
      try dsimp only at hHeld
      try simp only [Act.put, List.setIfInBounds_toArray, List.set_cons_zero, List.set_cons_succ, List.getElem_toArray, List.getElem_cons_succ, List.getElem_cons_zero]
      refine' wpAnyH_take (i := 18) (v := _) rfl (by kernel_rfl) (by kernel_rfl) (by kernel_rfl) (fun _ _ _ h => h) (Or.inl ⟨by rfl, ?_⟩) hHeld ?_
      rotate_left
      · (intro w hSw; (try dsimp only at hSw); go_simp; (try rw [if_neg (by omega)]); try with_reducible rfl)
      try simp only [Act.put, List.setIfInBounds_toArray, List.set_cons_zero, List.set_cons_succ, List.getElem_toArray, List.getElem_cons_succ, List.getElem_cons_zero]
      refine wpAnyH_ready (rs := [19]) (by kernel_rfl) (by simp) ?_
      refine AllReadyH.cons (o := _) rfl (fun K hK => ?_) (AllReadyH.nil)
      try simp only [List.getElem_toArray, List.getElem_cons_succ, List.getElem_cons_zero]
      have hB := box_box hHeld.2.2
      obtain ⟨x, y, c0, c1, f0, f1⟩ := box_ans hHeld.2.2 (.refl w156 none)
      have KP := hid (And.intro (Blk.set1 (Blk.set0 hHeld.1 (.int .u64 (q a))) (.int .u64 (q b))) (And.intro (Blk.set1 (Blk.set0 hHeld.2.1 (.int .u64 (q a))) (.int .u64 (q b))) ((Box.keep (Box.set1 (Box.set0 (box_box hHeld.2.2) (.int .u64 (q a))) (.int .u64 (q b)))))))
      clear hHeld
      go_simp
      refine hK.out _ _ KP.out (fun hHeld => ?_)
      clear KP hK K
      try simp only [Act.put, List.setIfInBounds_toArray, List.set_cons_zero, List.set_cons_succ, List.getElem_toArray, List.getElem_cons_succ, List.getElem_cons_zero]
      refine wpAnyH_done (by kernel_rfl) ?_ _
      have hst := hB.store (.int .u64 (q a)) (.int .u64 (q b))
      clear hB c0 c1 f0 f1 hHeld
      generalize (w156.setCell ⟨w.heap.size + 1, 0, none⟩ (.int .u64 (q a))).setCell ⟨w.heap.size + 1, 1, none⟩ (.int .u64 (q b)) = wx at hst ⊢
      obtain ⟨d0, d1⟩ := pair_cells hst.1
      go_wp2_with fail
      exact bodyPost_ret (v := pair a b) (by simp [results, Try.results29, go_sem, d0, d1]) rfl ⟨rfl, hst.2⟩
end Go.Proofs.Ytngfnigfkabihaa
end
section
set_option linter.unusedSimpArgs false
namespace Go.Proofs.Ytngfnigfkabihaa
set_option maxRecDepth 100000
open Go.RowKit

theorem refkey_derive (k : Two64) (s : ByteArray) (hs : s.size ≤ 1000) (n : BitVec 64) (w : World) :
    Calls Try.prog 29 #[.agg #[.int .u64 (q k.a), .int .u64 (q k.b)], .string s, .int .u64 (q n)] w fun e w' => e = .returned (.agg #[.int .u64 (q (keyOf k s n).a), .int .u64 (q (keyOf k s n).b)]) ∧ w.grownBy w' none := refderive_any k.a k.b s hs n w

set_option maxHeartbeats 1600000 in
theorem refroot_any (seed : BitVec 64) (w : World) :
    Calls Try.prog 31 #[.int .u64 (q seed)] w fun e w' => e = .returned (.agg #[.int .u64 (q (rootOf seed).a), .int .u64 (q (rootOf seed).b)]) ∧ w.grownBy w' none := by
  have hq := q_succ seed
  have hd := refkey_derive ⟨seed, seed + 1⟩ ⟨#[114, 111, 111, 116]⟩ (by decide) 0 (w.alloc (.cells #[.int .u64 0, .int .u64 0] 61))
  change Calls _ _ _ _ (fun e w' => e = .returned (.agg #[.int .u64 (q (rootOf seed).a), .int .u64 (q (rootOf seed).b)]) ∧ _) at hd
  generalize rootOf seed = r at hd ⊢
  have A0 := hid (Ans.new w 61 (.int .u64 0) (.int .u64 0))
  have HD := hid hd; clear hd
  go_enter Try.func31, Try.ntmps31
  go_wp2_with fail
  refine HD.out.mono ?_
  rintro e w1 ⟨rfl, hg⟩
  have A1 := hid (A0.out.grown hg); clear hg HD
  obtain ⟨x, y, c0, c1, f0, f1⟩ := A1.out.cells
  go_wp2_with fail
  clear c0 c1 f0 f1
  have hst := A1.out.store (.int .u64 (q r.a)) (.int .u64 (q r.b))
  generalize (w1.setCell ⟨w.heap.size, 0, none⟩ (.int .u64 (q r.a))).setCell ⟨w.heap.size, 1, none⟩ (.int .u64 (q r.b)) = wx at hst ⊢
  obtain ⟨r0, r1⟩ := pair_cells hst.1
  exact bodyPost_ret (v := .agg #[.int .u64 (q r.a), .int .u64 (q r.b)]) (by simp [results, Try.results31, go_sem, r0, r1]) rfl ⟨rfl, hst.2⟩

set_option maxHeartbeats 1600000 in
theorem refof_any (seed : BitVec 64) (who gen : Int) (w : World) :
    Calls Try.prog 33 #[.int .u64 (q seed), .int .i64 who, .int .i64 gen] w fun e w' => e = .returned (.agg #[.int .u64 (q (ofOf seed who gen).a), .int .u64 (q (ofOf seed who gen).b)]) ∧ w.grownBy w' none := by
  have hq1 := wrap_i64 who
  have hq2 := wrap_i64 gen
  have hd := fun w => refroot_any seed w
  unfold ofOf
  generalize rootOf seed = r at hd ⊢
  have hd1 := fun w => refkey_derive r ⟨#[119, 104, 111]⟩ (by decide) (BitVec.ofInt 64 who) w
  generalize keyOf r ⟨#[119, 104, 111]⟩ (BitVec.ofInt 64 who) = k1 at hd1 ⊢
  have hd2 := fun w => refkey_derive k1 ⟨#[103, 101, 110]⟩ (by decide) (BitVec.ofInt 64 gen) w
  generalize keyOf k1 ⟨#[103, 101, 110]⟩ (BitVec.ofInt 64 gen) = k2 at hd2 ⊢
  have HD := hid hd; have HD1 := hid hd1; have HD2 := hid hd2; clear hd hd1 hd2
  have A0 := hid (Ans.new w 61 (.int .u64 0) (.int .u64 0))
  go_enter Try.func33, Try.ntmps33
  go_wp2_with fail
  refine (HD.out _).mono ?_
  rintro e w1 ⟨rfl, hg⟩
  have A1 := hid (A0.out.grown hg); clear hg
  go_wp2_with fail
  refine (HD1.out _).mono ?_
  rintro e w2 ⟨rfl, hg⟩
  have A2 := hid (A1.out.grown hg); clear hg
  go_wp2_with fail
  refine (HD2.out _).mono ?_
  rintro e w3 ⟨rfl, hg⟩
  have A3 := hid (A2.out.grown hg); clear hg
  obtain ⟨x, y, c0, c1, f0, f1⟩ := A3.out.cells
  go_wp2_with fail
  clear c0 c1 f0 f1
  have hst := A3.out.store (.int .u64 (q k2.a)) (.int .u64 (q k2.b))
  generalize (w3.setCell ⟨w.heap.size, 0, none⟩ (.int .u64 (q k2.a))).setCell ⟨w.heap.size, 1, none⟩ (.int .u64 (q k2.b)) = wx at hst ⊢
  obtain ⟨r0, r1⟩ := pair_cells hst.1
  exact bodyPost_ret (v := .agg #[.int .u64 (q k2.a), .int .u64 (q k2.b)]) (by simp [results, Try.results33, go_sem, r0, r1]) rfl ⟨rfl, hst.2⟩
end Go.Proofs.Ytngfnigfkabihaa
end
