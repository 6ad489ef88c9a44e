/-
  Contracts for package ring's calls. The condition of a call: the ring lies there; or it is nil.
  Contracts for package ring's Key: the old key, what is no key. The condition of a call: the ring lies there; or it is nil.
  Contracts for package ring's Gen, Since, Rotate, Set, New. The condition of a call: the ring lies there; or it is nil.
  Contracts for the document's own rings: what one is; Rotate and Set. The condition of a call: the ring lies there.
  The document's own Replay: what one is; has, New, May. The condition of a call: the object lies there.
  maps.Keys over a map keyedT by places, and its iterator: the places come, each once, in some order. No condition.
  Contracts for package trim's inner functions: which numbers may be; those that are left. The condition: slices that read as numbers.
  Contracts for package trim: those that are left, Median, Mean, Span, Quorum. The condition: slices that read as numbers.
-/
import Derived.Test.YtecggbndlbkhdaaGreatY5
import Derived.Test.YtecggbndlbkhdaaGreatY7
import Derived.Deep.RegionHeld3
import Derived.Test.YtecggbndlbkhdaaGreatNRpC
import Derived.Test.YtecggbndlbkhdaaGreatY1
import Derived.Deep.QuietTactic
import Derived.BigQuiet
import Derived.Test.YtecggbndlbkhdaaGreatY4
import Derived.RangeFuncStops
import Derived.RangeFuncNested
import Derived.RangeFuncBox
import Derived.RangeFuncLeaves
import Derived.Shelf.AbstractIn
import Derived.Sort.MapsRangeIn
import Derived.OwnWalkIn
import Derived.TacticsInMore
import Derived.RegionIn
import Derived.LoopNIn
import Derived.LoopIn
import Derived.Maps.AppendAt
import Derived.Test.YtecggbndlbkhdaaGreatY13
import Derived.Test.YtecggbndlbkhdaaGreatY11
section
set_option linter.unusedSimpArgs false
set_option linter.unusedVariables false
namespace Go.Proofs.YtecggbndlbkhdaaGreat
set_option maxRecDepth 100000
open Go.RowKit

/-- which keys there are -/
def Rg.keyIs (r : Rg) (i : Nat) (gen now : Int) : Prop := 0 ≤ gen ∧ (gen = r.gen i ∨ gen = r.gen i - 1 ∧ now < r.since i + (r.grace : Int))
instance (r : Rg) (i : Nat) (gen now : Int) : Decidable (r.keyIs i gen now) := by unfold Rg.keyIs; infer_instance

/-- a call that has its answer's block, and a ring that came in -/
structure AnsR (w : World) (b h : Nat) (r : Rg) (w' : World) : Prop where
  a : Ans w 251 w'
  r : RgAt w' b h r
theorem AnsR.new {w : World} {b h : Nat} {r : Rg} (H : RgAt w b h r) : AnsR w b h r (w.alloc (.cells #[.int .u64 0, .int .u64 0] 251)) := ⟨.new w _ _ _, H.grown (World.grownBy_alloc w _ none)⟩
theorem AnsR.grown {w w1 w2 : World} {b h : Nat} {r : Rg} (A : AnsR w b h r w1) (hg : w1.grownBy w2 none) : AnsR w b h r w2 := ⟨A.a.grown hg, A.r.grown hg⟩


end Go.Proofs.YtecggbndlbkhdaaGreat
end
section
set_option linter.unusedSimpArgs false
set_option linter.unusedVariables false
namespace Go.Proofs.YtecggbndlbkhdaaGreat
set_option maxRecDepth 100000
open Go.RowKit

/-- what Key answers -/
def Rg.key (r : Rg) (who gen now : Int) : Two64 × Int :=
  if 0 ≤ who ∧ who < (r.n : Int) then if r.keyIs who.toNat gen now then (ofOf r.seed who gen, 0) else (⟨0, 0⟩, 4) else (⟨0, 0⟩, 3)
end Go.Proofs.YtecggbndlbkhdaaGreat
end
section
set_option linter.unusedSimpArgs false
set_option linter.unusedVariables false
namespace Go.Proofs.YtecggbndlbkhdaaGreat
set_option maxRecDepth 100000
open Go.RowKit

theorem rgen_in {b h : Nat} {r : Rg} (i : Nat) (w : World) (H0 : RgAt w b h r) (hi : i < r.n) :
    Calls Tryz.prog 187 #[.pointer (some ⟨b, 0, none⟩), .int .i64 (i : Int)] w fun e w' => e = .returned (.int .i64 (r.gen i)) ∧ w = w' := by
  obtain ⟨c0, c1, f0, f1⟩ := H0.cells hi
  have H := hid H0; clear H0
  go_enter Tryz.func187, Tryz.ntmps187
  go_wp2_with fail
  refine (find_in i _ H.out hi).mono ?_
  rintro e w1 ⟨rfl, rfl⟩
  go_wp2_with fail
  refine (has_at _ rfl _ _ c0).mono ?_
  rintro e w1 ⟨rfl, rfl⟩
  go_wp2_with fail
  go_ret
  exact ⟨rfl, rfl⟩
theorem rsince_in {b h : Nat} {r : Rg} (i : Nat) (w : World) (H0 : RgAt w b h r) (hi : i < r.n) :
    Calls Tryz.prog 188 #[.pointer (some ⟨b, 0, none⟩), .int .i64 (i : Int)] w fun e w' => e = .returned (.int .i64 (r.since i)) ∧ w = w' := by
  obtain ⟨c0, c1, f0, f1⟩ := H0.cells hi
  have H := hid H0; clear H0
  go_enter Tryz.func188, Tryz.ntmps188
  go_wp2_with fail
  refine (find_in i _ H.out hi).mono ?_
  rintro e w1 ⟨rfl, rfl⟩
  go_wp2_with fail
  go_ret
  exact ⟨rfl, rfl⟩
/-- what Set answers, and leaves -/
def Rg.set (r : Rg) (who gen since : Int) : Int × Rg :=
  if 0 ≤ who ∧ who < (r.n : Int) then if 0 ≤ gen ∧ gen ≤ 60000 ∧ 0 ≤ since ∧ since ≤ 1099511627776 then (0, r.put who.toNat gen since) else (1, r) else (3, r)
def Leaves (w : World) (b h : Nat) (k : Int × Rg) (e : Ending) (w' : World) : Prop := e = .returned (.int .i64 k.1) ∧ RgAt w' b h k.2 ∧ Chg [h] w w'
theorem leaves_same {w : World} {b h : Nat} {r : Rg} (c : Int) (H : RgAt w b h r) : Leaves w b h (c, r) (.returned (.int .i64 c)) w := ⟨rfl, H, chg_refl w _⟩
theorem leaves_put {w : World} {b h : Nat} {r : Rg} {i : Nat} {g s : Int} (H : RgAt w b h r) (hi : i < r.n) (g0 : 0 ≤ g) (g1 : g ≤ 60000) (s0 : 0 ≤ s) (s1 : s ≤ 1099511627776) :
    Leaves w b h (0, r.put i g s) (.returned (.int .i64 0)) ((w.setCell ⟨h, i * 2, none⟩ (.int .i64 g)).setCell ⟨h, i * 2 + 1, none⟩ (.int .i64 s)) :=
  ⟨rfl, H.put hi g0 g1 s0 s1, ((chg_refl w [h]).set (.inl (by simp)) _).set (.inl (by simp)) _⟩

set_option maxHeartbeats 1600000 in
theorem rset_ok {b h : Nat} {r : Rg} (i : Nat) (gen now : Int) (w : World) (H0 : RgAt w b h r) (hi : i < r.n) (g0 : 0 ≤ gen) (g1 : gen ≤ 60000) (n0 : 0 ≤ now) (n1 : now ≤ 1099511627776) :
    Calls Tryz.prog 264 #[.pointer (some ⟨b, 0, none⟩), .int .i64 (i : Int), .int .i64 gen, .int .i64 now] w (Leaves w b h (0, r.put i gen now)) := by
  obtain ⟨c0, c1, f0, f1⟩ := H0.cells hi
  have L := hid (leaves_put (g := gen) (s := now) H0 hi g0 g1 n0 n1)
  have H := hid H0; clear H0
  generalize r.put i gen now = r' at L ⊢
  go_enter Tryz.func264, Tryz.ntmps264
  go_wp2_with fail
  refine (find_in i _ H.out hi).mono ?_
  rintro e w1 ⟨rfl, rfl⟩
  go_wp2_with fail
  refine (within_in gen 0 60000 g0 g1 _).mono ?_
  rintro e w1 ⟨rfl, rfl⟩
  go_wp2_with fail
  refine (within64_in now 0 1099511627776 n0 n1 _).mono ?_
  rintro e w1 ⟨rfl, rfl⟩
  go_wp2_with fail
  refine (store_i64 _ gen _ _ c0 f0).mono ?_
  rintro e w1 ⟨rfl, rfl⟩
  go_wp2_with fail
  go_ret
  exact L.out

set_option maxHeartbeats 1600000 in
theorem rset_arg {b h : Nat} {r : Rg} (i : Nat) (gen now : Int) (w : World) (H0 : RgAt w b h r) (hi : i < r.n) (hg : ¬ (0 ≤ gen ∧ gen ≤ 60000 ∧ 0 ≤ now ∧ now ≤ 1099511627776)) :
    Calls Tryz.prog 264 #[.pointer (some ⟨b, 0, none⟩), .int .i64 (i : Int), .int .i64 gen, .int .i64 now] w (Leaves w b h (1, r)) := by
  have L := hid (leaves_same 1 H0)
  have H := hid H0; clear H0
  by_cases g0 : 0 ≤ gen ∧ gen ≤ 60000
  · have hn : now < 0 ∨ 1099511627776 < now := by omega
    obtain ⟨g0, g1⟩ := g0
    clear hg
    go_enter Tryz.func264, Tryz.ntmps264
    go_wp2_with fail
    refine (find_in i _ H.out hi).mono ?_
    rintro e w1 ⟨rfl, rfl⟩
    go_wp2_with fail
    refine (within_in gen 0 60000 g0 g1 _).mono ?_
    rintro e w1 ⟨rfl, rfl⟩
    go_wp2_with fail
    refine (within64_out now 0 1099511627776 hn _).mono ?_
    rintro e w1 ⟨rfl, rfl⟩
    go_wp2_with fail
    go_ret
    exact L.out
  · have hn : gen < 0 ∨ 60000 < gen := by omega
    clear hg g0
    go_enter Tryz.func264, Tryz.ntmps264
    go_wp2_with fail
    refine (find_in i _ H.out hi).mono ?_
    rintro e w1 ⟨rfl, rfl⟩
    go_wp2_with fail
    refine (within_out gen 0 60000 hn _).mono ?_
    rintro e w1 ⟨rfl, rfl⟩
    go_wp2_with fail
    go_ret
    exact L.out
theorem rset_who {b h : Nat} {r : Rg} (x gen now : Int) (w : World) (H0 : RgAt w b h r) (hx : x < 0 ∨ (r.n : Int) ≤ x) :
    Calls Tryz.prog 264 #[.pointer (some ⟨b, 0, none⟩), .int .i64 x, .int .i64 gen, .int .i64 now] w (Leaves w b h (3, r)) := by
  have L := hid (leaves_same 3 H0)
  have H := hid H0; clear H0
  go_enter Tryz.func264, Tryz.ntmps264
  go_wp2_with fail
  refine (find_out x _ H.out hx).mono ?_
  rintro e w1 ⟨rfl, rfl⟩
  go_wp2_with fail
  go_ret
  exact L.out
theorem rset_any {b h : Nat} {r : Rg} (who gen now : Int) (w : World) (H : RgAt w b h r) :
    Calls Tryz.prog 264 #[.pointer (some ⟨b, 0, none⟩), .int .i64 who, .int .i64 gen, .int .i64 now] w (Leaves w b h (r.set who gen now)) := by
  by_cases h0 : 0 ≤ who ∧ who < (r.n : Int)
  · obtain ⟨i, rfl⟩ := Int.eq_ofNat_of_zero_le h0.1
    have hi : i < r.n := by have := h0.2; omega
    by_cases h1 : 0 ≤ gen ∧ gen ≤ 60000 ∧ 0 ≤ now ∧ now ≤ 1099511627776
    · rw [show r.set (i : Int) gen now = (0, r.put i gen now) by unfold Rg.set; rw [if_pos h0, Int.toNat_natCast, if_pos h1]]
      exact rset_ok i gen now w H hi h1.1 h1.2.1 h1.2.2.1 h1.2.2.2
    · rw [show r.set (i : Int) gen now = (1, r) by unfold Rg.set; rw [if_pos h0, if_neg h1]]
      exact rset_arg i gen now w H hi h1
  · rw [show r.set who gen now = (3, r) by unfold Rg.set; rw [if_neg h0]]
    exact rset_who who gen now w H (by omega)
end Go.Proofs.YtecggbndlbkhdaaGreat
end
section
set_option linter.unusedSimpArgs false
set_option linter.unusedVariables false
namespace Go.Proofs.YtecggbndlbkhdaaGreat
set_option maxRecDepth 100000
open Go.RowKit

/-- a ring of the document's -/
structure RfAt (w : World) (b g s : Nat) (r : Rg) : Prop where
  top : w.heap[b]? = some (.cells #[.int .u64 (q r.seed), .int .i64 (r.grace : Int), .slice (some ⟨g, 0, none⟩) r.n r.n, .slice (some ⟨s, 0, none⟩) r.n r.n] 285)
  gens : ∃ cs : Array Value, w.heap[g]? = some (.cells cs 3) ∧ ∀ i, i < r.n → cs[i]? = some (.int .i64 (r.gen i))
  sinces : ∃ cs : Array Value, w.heap[s]? = some (.cells cs 2) ∧ ∀ i, i < r.n → cs[i]? = some (.int .i64 (r.since i))
  bg : b ≠ g
  bs : b ≠ s
  gs : g ≠ s
  ok : r.Ok
section
variable {w w' : World} {b g s : Nat} {r : Rg} {F : List Nat}
theorem RfAt.chg (H : RfAt w b g s r) (hc : Chg F w w') (hb : b ∉ F) (hg : g ∉ F) (hs : s ∉ F) : RfAt w' b g s r :=
  ⟨hc.at H.top hb, by obtain ⟨cs, h1, h2⟩ := H.gens; exact ⟨cs, hc.at h1 hg, h2⟩, by obtain ⟨cs, h1, h2⟩ := H.sinces; exact ⟨cs, hc.at h1 hs, h2⟩, H.bg, H.bs, H.gs, H.ok⟩
theorem RfAt.grown (H : RfAt w b g s r) (hg : w.grownBy w' none) : RfAt w' b g s r := H.chg (chg_grown hg []) (by simp) (by simp) (by simp)
theorem RfAt.drew (H : RfAt w b g s r) : RfAt w.drew b g s r := ⟨H.top, H.gens, H.sinces, H.bg, H.bs, H.gs, H.ok⟩
theorem RfAt.tops (H : RfAt w b g s r) : w.cell? ⟨b, 0, none⟩ = some (.int .u64 (q r.seed)) ∧ w.cell? ⟨b, 1, none⟩ = some (.int .i64 (r.grace : Int)) ∧ w.cell? ⟨b, 2, none⟩ = some (.slice (some ⟨g, 0, none⟩) r.n r.n) ∧ w.cell? ⟨b, 3, none⟩ = some (.slice (some ⟨s, 0, none⟩) r.n r.n) :=
  ⟨at_cell H.top 0, at_cell H.top 1, at_cell H.top 2, at_cell H.top 3⟩
theorem RfAt.cells (H : RfAt w b g s r) {i : Nat} (hi : i < r.n) : w.cell? ⟨g, i, none⟩ = some (.int .i64 (r.gen i)) ∧ w.cell? ⟨s, i, none⟩ = some (.int .i64 (r.since i)) ∧ w.frozen? ⟨g, i, none⟩ = false ∧ w.frozen? ⟨s, i, none⟩ = false := by
  obtain ⟨cs, h1, h2⟩ := H.gens
  obtain ⟨ds, h3, h4⟩ := H.sinces
  exact ⟨(at_cell h1 _).trans (h2 i hi), (at_cell h3 _).trans (h4 i hi), at_free h1 _, at_free h3 _⟩
theorem RfAt.lt (H : RfAt w b g s r) : b < w.heap.size ∧ g < w.heap.size ∧ s < w.heap.size := ⟨at_lt H.top, by obtain ⟨_, h1, _⟩ := H.gens; exact at_lt h1, by obtain ⟨_, h1, _⟩ := H.sinces; exact at_lt h1⟩
theorem RfAt.put (H : RfAt w b g s r) {i : Nat} (hi : i < r.n) {x y : Int} (g0 : 0 ≤ x) (g1 : x ≤ 60000) (s0 : 0 ≤ y) (s1 : y ≤ 1099511627776) :
    RfAt ((w.setCell ⟨g, i, none⟩ (.int .i64 x)).setCell ⟨s, i, none⟩ (.int .i64 y)) b g s (r.put i x y) := by
  obtain ⟨cs, h1, h2⟩ := H.gens
  obtain ⟨ds, h3, h4⟩ := H.sinces
  have sz1 : i < cs.size := (Array.getElem?_eq_some_iff.1 (h2 i hi)).1
  have sz2 : i < ds.size := (Array.getElem?_eq_some_iff.1 (h4 i hi)).1
  refine ⟨at_set_other (at_set_other H.top H.bg _) H.bs _, ⟨_, at_set_other (at_set h1 _ _) H.gs _, fun j hj => ?_⟩, ⟨_, at_set (at_set_other h3 (fun e => H.gs e.symm) _) _ _, fun j hj => ?_⟩, H.bg, H.bs, H.gs, H.ok.put i g0 g1 s0 s1⟩
  · simp only [Rg.put]
    by_cases e : j = i
    · subst e; rw [if_pos rfl, Array.getElem?_setIfInBounds, if_pos rfl, if_pos sz1]
    · rw [if_neg e, Array.getElem?_setIfInBounds, if_neg (Ne.symm e)]; exact h2 j hj
  · simp only [Rg.put]
    by_cases e : j = i
    · subst e; rw [if_pos rfl, Array.getElem?_setIfInBounds, if_pos rfl, if_pos sz2]
    · rw [if_neg e, Array.getElem?_setIfInBounds, if_neg (Ne.symm e)]; exact h4 j hj
end
end Go.Proofs.YtecggbndlbkhdaaGreat
end
section
set_option linter.unusedSimpArgs false
set_option linter.unusedVariables false
namespace Go.Proofs.YtecggbndlbkhdaaGreat
set_option maxRecDepth 100000
open Go.RowKit

/-- the numbers that are kept, and the model -/
structure RqL (L : List Int) (r : Rp) : Prop where
  le : ∀ n, n ∈ L → n ≤ r.top
  win : ∀ n, r.top - r.win < n → n ≤ r.top → (n ∈ L ↔ r.bits.getLsbD (r.top - n).toNat = true)
/-- a Replay of the document's -/
structure RqAt (w : World) (b : Nat) (v : Value) (K : Nat) (r : Rp) : Prop where
  top : w.heap[b]? = some (.cells #[.int .i64 (r.win : Int), .int .i64 r.top, v] 287)
  row : ∃ L, OwnI 0 w v L ∧ RqL L r ∧ L.length ≤ K
  nb : b ∉ ownL v
  ok : r.Ok
section
variable {w w' : World} {b K K' : Nat} {v : Value} {r : Rp} {F : List Nat}
theorem RqAt.chg (H : RqAt w b v K r) (hc : Chg F w w') (hb : b ∉ F) (hv : ∀ g, g ∈ ownL v → g ∉ F) : RqAt w' b v K r :=
  ⟨hc.at H.top hb, by obtain ⟨L, h1, h2⟩ := H.row; exact ⟨L, h1.chg hc hv, h2⟩, H.nb, H.ok⟩
theorem RqAt.grown (H : RqAt w b v K r) (hg : w.grownBy w' none) : RqAt w' b v K r := H.chg (chg_grown hg []) (by simp) (by simp)
theorem RqAt.drew (H : RqAt w b v K r) : RqAt w.drew b v K r := H.chg ((chg_refl w []).drew) (by simp) (by simp)
theorem RqAt.more (H : RqAt w b v K r) (h : K ≤ K') : RqAt w b v K' r := ⟨H.top, by obtain ⟨L, h1, h2, h3⟩ := H.row; exact ⟨L, h1, h2, by omega⟩, H.nb, H.ok⟩
theorem RqAt.lt (H : RqAt w b v K r) : b < w.heap.size ∧ ∀ g, g ∈ ownL v → g < w.heap.size := ⟨at_lt H.top, by obtain ⟨L, h1, _⟩ := H.row; exact fun g hg => (h1.at g hg).2⟩
theorem RqAt.tops (H : RqAt w b v K r) : w.cell? ⟨b, 0, none⟩ = some (.int .i64 (r.win : Int)) ∧ w.cell? ⟨b, 1, none⟩ = some (.int .i64 r.top) ∧ w.cell? ⟨b, 2, none⟩ = some v ∧ w.frozen? ⟨b, 1, none⟩ = false ∧ w.frozen? ⟨b, 2, none⟩ = false :=
  ⟨at_cell H.top 0, at_cell H.top 1, at_cell H.top 2, at_free H.top 1, at_free H.top 2⟩
end

/-- May -/
theorem gb_drewQ (w : World) (n : Nat) : w.grownBy (w.drewN n) none := ⟨rfl, rfl, rfl, Nat.le_refl _, fun _ _ _ => rfl⟩
end Go.Proofs.YtecggbndlbkhdaaGreat
end
section
set_option linter.unusedSimpArgs false
set_option linter.unusedVariables false
namespace Go.Proofs.YtecggbndlbkhdaaGreat
set_option maxRecDepth 100000
open Go.RowKit Go.Maps Go.Shelf

set_option maxHeartbeats 1000000 in
theorem keys1_in {H : Type} {R : Value → Option (DataW H × List MemPlace)} (F : Fence) (n : Nat) (hf : F.fn 286) (hro : F.round = none) (hn : 1 ≤ n) (l Bm b nn : Nat) (D : DataW H) (L : List Sm) (J Jx : List Pc → World → Prop)
    (hM : MapIs D L) (hS : Srt L) (hL : FitsT L)
    (hY : ∀ pre x W, J pre W → pre.length < L.length → YieldAt F (n - 1) Tryz.prog l #[encP x] W fun e W' =>
      (e = .returned (.bool true) ∧ J (pre ++ [x]) W' ∧ KeepsWalks W W') ∨ (e = .returned (.bool false) ∧ Jx (pre ++ [x]) W'))
    (W : World) (hJ : AbidesFrom W.heap.size J) (hm : W.cell? ⟨Bm, 0, none⟩ = some (.map (some b))) (hown : W.ownsMap Tryz.prog 317 R b nn D) (h0 : J [] W) :
    CallsIn F n Tryz.prog 286 #[.func (.yield l) #[] #[], .pointer (some ⟨Bm, 0, none⟩)] W fun e W' => (∃ v, e = .returned v) ∧
      ((∃ ps : List Pc, ps.Perm (L.map Sm.pl) ∧ J ps W') ∨ (∃ pre : List Pc, True ∧ Jx pre W')) := by
  refine callsIn_of_wp Tryz.func286 rfl hf ?_ hro
  simp only [Tryz.ntmps286, List.size_toArray, List.length_cons, List.length_nil, Nat.reduceAdd, Nat.reduceSub, Array.replicate_succ, Array.replicate_zero, List.push_toArray, List.append_toArray, List.nil_append, List.cons_append]
  gi_wp2_with (first
    | (gi_at_range; refine wpListIn_range_own _ rfl _ 228 rfl 317 2 keyedT Tryz.underlying228 R b nn D rfl hown ?_; intro w0 hrg0 hg0 hs0)
    | gi_in)
  go_frame
  gi_loopw [3] (fun _ wr => ∃ (left : Lit → Bool) (cnt : Nat) (ps : List Pc), wr.ranges Tryz.prog 317 R b W.heap.size nn D left cnt ∧ ps.length + cnt ≤ L.length ∧ Coll D left ps ∧ J ps wr)
    (fun _ wr => wr.rangeLeft b W.heap.size)
  case atStart =>
    exact ⟨_, _, [], hrg0, by rw [hM.size]; simp, Coll.start D, hJ [] W w0 none h0 hg0 (fun r e => by cases e)⟩
  case round =>
    obtain ⟨left, cnt, ps, hrg, hcs, hC, hJs⟩ := hrel
    gi_wp2_with (first
      | (gi_at_next; refine wpListIn_next_ranges _ rfl _ rfl 317 keyedT R encP id (fun key kl hk => by obtain ⟨x, hx, _⟩ := keyOf_inv hk; exact ⟨x, hx⟩) (fun v _ _ => ⟨v, rfl⟩) b W.heap.size nn _ _ _ rfl hrg ?_ ?_)
      | gi_in)
    · -- nothing is left
      intro hc0 hl0
      gi_wp2
      go_end0
      exact ⟨⟨_, rfl⟩, .inl ⟨ps, hC.perm hM hS hL hl0, hJs⟩⟩
    · -- an entry has come
      intro x1 x2 x3 c kl yd yp w2 cnt2 hkey hlk hv hat hrg2 hlt hg2 hs2 hen
      obtain ⟨x', ex, rfl, hfx⟩ := keyOf_inv hkey
      obtain rfl : (x1, x2, x3) = x' := encP_inj ex
      clear ex
      have hJ2 : J ps w2 := hJ ps wr w2 (some W.heap.size) hJs hg2 (fun r e => by cases e; exact ⟨Nat.le_refl _, hrg.iter_walk⟩)
      have hJ3 : J ps (w2.alloc (.cells #[.int .i64 x1, .int .i64 x2, .int .i64 x3] 317)) := hJ ps w2 _ none hJ2 (World.grownBy_alloc _ _ none) (fun r e => by cases e)
      obtain ⟨fn, tmps, assign, body, hy, hR⟩ := hY ps (x1, x2, x3) _ hJ3 (by omega)
      clear hs2
      unfold encP at hen hy ⊢
      gi_wp2
      refine hR.mono ?_
      have hC2 := hC.step hfx hlk hat
      rintro e W3 (⟨rfl, hJ4, hk3⟩ | ⟨rfl, hJx3⟩)
      · gi_wp2
        have hrg3 := (hrg2.alloc _).of_walks hk3
        go_roundw
        case rel => exact ⟨_, cnt2, ps ++ [(x1, x2, x3)], hrg3, by simp; omega, hC2, hJ4⟩
        case measure => rw [hrg3.left_eq, hrg.left_eq]; exact hlt
      · gi_wp2
        refine bodyPost_ret (results_none rfl _ _ _) rfl ?_
        exact ⟨⟨_, rfl⟩, .inr ⟨ps ++ [(x1, x2, x3)], trivial, hJx3⟩⟩

/-- maps.Keys(m): the map is boxed; the function value captures the box -/
theorem keys_in (F : Fence) (n : Nat) (hf : F.fn 204) (hro : F.round = none) (mb : Option Nat) (w : World) :
    CallsIn F n Tryz.prog 204 #[.map mb] w fun e w' => e = .returned (.func (.func 286) #[] #[.pointer (some ⟨w.heap.size, 0, none⟩)]) ∧ w' = w.alloc (.cells #[.map mb] 228) := by
  refine callsIn_of_wp Tryz.func204 rfl hf ?_ hro
  simp only [Tryz.ntmps204, List.size_toArray, List.length_cons, List.length_nil, Nat.reduceAdd, Nat.reduceSub, Array.replicate_succ, Array.replicate_zero, List.push_toArray, List.append_toArray, List.nil_append, List.cons_append]
  gi_wp2
  go_ret
  exact ⟨rfl, rfl⟩
/-- what maps.Keys hands back goes through the places -/
theorem keys_stops {H : Type} {R : Value → Option (DataW H × List MemPlace)} (F : Fence) (n : Nat) (hf : F.fn 286) (hro : F.round = none) (hn : 1 ≤ n) (Bm b nn : Nat) (D : DataW H) (L : List Sm)
    (hM : MapIs D L) (hS : Srt L) (hL : FitsT L) (w : World) (hBm : Bm < w.heap.size) (hm : w.cell? ⟨Bm, 0, none⟩ = some (.map (some b))) (hown : w.ownsMap Tryz.prog 317 R b nn D) :
    SeqStops F n Tryz.prog 286 #[.pointer (some ⟨Bm, 0, none⟩)] encP (fun ps => ps.Perm (L.map Sm.pl)) (fun _ => True) L.length w := fun l J Jx W hW hJ _ hY h0 => by
  have hown' : W.ownsMap Tryz.prog 317 R b nn D := by
    have hbl := hown.lt
    obtain ⟨es, clock, hb, Ft, hs, hD⟩ := hown
    exact ⟨es, clock, (hW.block b hbl).trans hb, Ft, hs, hD⟩
  exact keys1_in F n hf hro hn l Bm b nn D L J Jx hM hS hL hY W hJ ((hW.cell (p := ⟨Bm, 0, none⟩) hBm).trans hm) hown' h0
end Go.Proofs.YtecggbndlbkhdaaGreat
end
section
set_option linter.unusedSimpArgs false
set_option linter.unusedVariables false
namespace Go.Proofs.YtecggbndlbkhdaaGreat
set_option maxRecDepth 100000
open Go.RowKit

theorem beyond_any (x : Int) (w : World) :
    Calls Tryz.prog 413 #[.int .i64 x] w fun e w' => e = .returned (.bool (!okV x)) ∧ w.grownBy w' none := by
  by_cases h0 : x < 0
  · have d0 : decide (x < 0) = true := by simpa using h0
    rw [(okV_false x).2 (.inl h0)]
    go_enter Tryz.func413, Tryz.ntmps413
    go_wp2_with fail
    go_ret
    exact ⟨rfl, .refl w none⟩
  · have d0 : decide (x < 0) = false := by simpa using h0
    by_cases h1 : 1099511627776 < x
    · have d1 : decide (1099511627776 < x) = true := by simpa using h1
      rw [(okV_false x).2 (.inr h1)]
      go_enter Tryz.func413, Tryz.ntmps413
      go_wp2_with fail
      go_ret
      exact ⟨rfl, .refl w none⟩
    · have d1 : decide (1099511627776 < x) = false := by simpa using h1
      rw [(okV_iff x).2 ⟨by omega, by omega⟩]
      go_enter Tryz.func413, Tryz.ntmps413
      go_wp2_with fail
      go_ret
      exact ⟨rfl, .refl w none⟩

theorem all_hit {l : List Int} {k : Nat} {x : Int} (h : l[k]? = some x) (hx : okV x = false) : l.all okV = false := by
  obtain ⟨hk, rfl⟩ := List.getElem?_eq_some_iff.1 h
  cases hb : l.all okV with
  | false => rfl
  | true => rw [List.all_eq_true] at hb; rw [hb _ (List.getElem_mem hk)] at hx; cases hx
theorem all_none {l : List Int} (h : ∀ (i : Nat) (x : Int), i < l.length → l[i]? = some x → okV x = true) : l.all okV = true := by
  rw [List.all_eq_true]
  intro x hx
  obtain ⟨i, hi, rfl⟩ := List.mem_iff_getElem.1 hx
  exact h i _ hi (List.getElem?_eq_getElem hi)

set_option maxHeartbeats 800000 in
theorem index_any (v : Value) (l : List Int) (w : World) (h : IntsAt w v l) :
    Calls Tryz.prog 337 #[v, .func (.func 413) #[] #[]] w fun e w' => (∃ r : Int, e = .returned (.int .i64 r) ∧ decide (0 ≤ r) = !(l.all okV)) ∧ w.grownBy w' none := by
  have HI := hid h
  obtain ⟨p, c, rfl⟩ := h.form
  obtain ⟨n, hn⟩ : ∃ n, l.length = n := ⟨_, rfl⟩
  have HN := hid hn
  have hlen := h.len
  rw [hn] at HI hlen ⊢
  unfold maxLen at hlen
  clear h hn
  go_enter Tryz.func337, Tryz.ntmps337
  go_wp2_with fail
  go_loopw [5, 8] (fun _ i wr => ∃ k : Nat, k ≤ n ∧ i = .int .i64 (k : Int) ∧ (∀ (j : Nat) (x : Int), j < k → l[j]? = some x → okV x = true) ∧ w.grownBy wr none) (fun _ i _ => n - (intOf i).toNat)
  case atStart => exact ⟨0, Nat.zero_le _, rfl, fun j x hj => absurd hj (Nat.not_lt_zero _), .refl w none⟩
  case round =>
    obtain ⟨k, hk, rfl, ha, hgr⟩ := hrel
    have HA := hid ha; have HGR := hid hgr
    clear ha hgr
    by_cases hlt : k < n
    · have hkl : k < l.length := by rw [HN.out]; exact hlt
      obtain ⟨ab, ao, rfl, -, hcc, hcell⟩ := (HI.out.grown HGR.out).cell hkl
      have hx := List.getElem?_eq_getElem hkl
      generalize l[k] = y at *
      have HX := hid hx; clear hx
      cases hy : okV y with
      | false =>
        have HB := hid (beyond_any y wr)
        rw [hy] at HB
        have HALL := hid (all_hit HX.out hy)
        clear hy
        go_wp2_with fail
        refine HB.out.mono ?_
        rintro e w1 ⟨rfl, hg⟩
        have G1 := hid (gb_trans HGR.out hg (.inl rfl))
        clear hg
        go_wp2_with fail
        go_ret
        exact ⟨⟨_, rfl, by rw [HALL.out]; simp⟩, G1.out⟩
      | true =>
        have HB := hid (beyond_any y wr)
        rw [hy] at HB
        have HY := hid hy
        clear hy
        go_wp2_with fail
        refine HB.out.mono ?_
        rintro e w1 ⟨rfl, hg⟩
        have G1 := hid (gb_trans HGR.out hg (.inl rfl))
        clear hg
        go_wp2_with fail
        go_roundw
        case rel => exact ⟨k + 1, by omega, by go_num, fun j x hj hjx => by
          rcases Nat.lt_or_ge j k with h1 | h1
          · exact HA.out j x h1 hjx
          · obtain rfl : j = k := by omega
            rw [HX.out] at hjx; cases hjx; exact HY.out, G1.out⟩
        case measure => simp [intOf]; omega
    · obtain rfl : k = n := by omega
      go_wp2_with fail
      go_ret
      exact ⟨⟨_, rfl, by rw [all_none fun i x hi => HA.out i x (by rw [← HN.out]; exact hi)]; rfl⟩, HGR.out⟩

theorem contains_any (v : Value) (l : List Int) (w : World) (h : IntsAt w v l) :
    Calls Tryz.prog 274 #[v, .func (.func 413) #[] #[]] w fun e w' => e = .returned (.bool (!(l.all okV))) ∧ w.grownBy w' none := by
  have C1 := hid (index_any v l w h)
  obtain ⟨p, c, rfl⟩ := h.form
  generalize l.length = n at *
  generalize l.all okV = b at *
  clear h
  go_enter Tryz.func274, Tryz.ntmps274
  go_wp2_with fail
  refine C1.out.mono ?_
  rintro e w1 ⟨⟨r, rfl, hr⟩, hg⟩
  have G1 := hid hg; clear hg C1
  go_wp2_with fail
  go_ret
  exact ⟨rfl, G1.out⟩

theorem tmay_any (v : Value) (l : List Int) (w : World) (h : IntsAt w v l) :
    Calls Tryz.prog 396 #[v] w fun e w' => e = .returned (.bool (mayL l)) ∧ w.grownBy w' none := by
  have C1 := hid (contains_any v l w h)
  have hm : mayL l = (decide (l.length ≤ 1000) && l.all okV) := rfl
  rw [hm]
  clear hm
  obtain ⟨p, c, rfl⟩ := h.form
  have hn := h.len
  unfold maxLen at hn
  generalize l.length = n at *
  generalize l.all okV = b at *
  clear h
  by_cases h1 : n ≤ 1000
  · have d1 : decide ((n : Int) ≤ 1000) = true := by simp; omega
    rw [decide_eq_true h1]
    clear h1
    go_enter Tryz.func396, Tryz.ntmps396
    go_wp2_with fail
    refine C1.out.mono ?_
    rintro e w1 ⟨rfl, hg⟩
    have G1 := hid hg; clear hg C1
    go_wp2_with fail
    go_ret
    exact ⟨by simp, G1.out⟩
  · have d1 : decide ((n : Int) ≤ 1000) = false := by simp; omega
    rw [decide_eq_false h1]
    clear h1 C1
    go_enter Tryz.func396, Tryz.ntmps396
    go_wp2_with fail
    go_ret
    exact ⟨by simp, .refl w none⟩
end Go.Proofs.YtecggbndlbkhdaaGreat
end
section
set_option linter.unusedSimpArgs false
set_option linter.unusedVariables false
namespace Go.Proofs.YtecggbndlbkhdaaGreat
set_option maxRecDepth 100000
open Go.RowKit

/-- what comes back reads as these numbers -/
def Tells (w : World) (l : List Int) (e : Ending) (w' : World) : Prop := ∃ u, e = .returned u ∧ IntsAt w' u l ∧ w.grownBy w' none

theorem quorum_any (n q : Int) (w : World) :
    Calls Tryz.prog 309 #[.int .i64 n, .int .i64 q] w fun e w' => e = .returned (.bool (decide (q ≤ n) && decide (0 < n))) ∧ w.grownBy w' none := by
  by_cases h : q ≤ n
  · have d0 : decide (q ≤ n) = true := by simpa using h
    by_cases h1 : 0 < n
    · have d1 : decide (0 < n) = true := by simpa using h1
      rw [d0, d1]
      go_enter Tryz.func309, Tryz.ntmps309
      go_wp2_with fail
      go_ret
      exact ⟨rfl, .refl w none⟩
    · have d1 : decide (0 < n) = false := by simpa using h1
      rw [d0, d1]
      go_enter Tryz.func309, Tryz.ntmps309
      go_wp2_with fail
      go_ret
      exact ⟨rfl, .refl w none⟩
  · have d0 : decide (q ≤ n) = false := by simpa using h
    rw [d0]
    go_enter Tryz.func309, Tryz.ntmps309
    go_wp2_with fail
    go_ret
    exact ⟨rfl, .refl w none⟩

theorem left_any (v : Value) (l : List Int) (f : Int) (w : World) (h : IntsAt w v l) (hf : -9223372036854775808 ≤ f ∧ f ≤ 9223372036854775807) :
    Calls Tryz.prog 361 #[v, .int .i64 f] w (Tells w (midL l f)) := by
  have C1 := hid (tmay_any v l w h)
  have HI := hid h
  obtain ⟨p, c, rfl⟩ := h.form
  have hn := h.len
  unfold maxLen at hn
  obtain ⟨n, hnn⟩ : ∃ n, l.length = n := ⟨_, rfl⟩
  have HN := hid hnn
  rw [hnn] at C1 HI hn ⊢
  clear h hnn
  cases hm : mayL l with
  | false =>
    rw [hm] at C1
    rw [midL_out (fun e => absurd (hm.symm.trans e.1) (by decide))]
    clear hm
    go_enter Tryz.func361, Tryz.ntmps361
    go_wp2_with fail
    refine C1.out.mono ?_
    rintro e w1 ⟨rfl, hg⟩
    have G1 := hid hg; clear hg C1
    go_wp2_with fail
    go_ret
    exact ⟨_, rfl, .nil _, G1.out⟩
  | true =>
    rw [hm] at C1
    have HM := hid hm
    clear hm
    by_cases h0 : f < 0
    · have d0 : decide (f < 0) = true := by simpa using h0
      rw [midL_out (fun e => by have := e.2.1; omega)]
      clear h0
      go_enter Tryz.func361, Tryz.ntmps361
      go_wp2_with fail
      refine C1.out.mono ?_
      rintro e w1 ⟨rfl, hg⟩
      have G1 := hid hg; clear hg C1
      go_wp2_with fail
      go_ret
      exact ⟨_, rfl, .nil _, G1.out⟩
    · have d0 : decide (f < 0) = false := by simpa using h0
      obtain ⟨k, rfl⟩ := Int.eq_ofNat_of_zero_le (show 0 ≤ f by omega)
      have hw : IntKind.i64.wrap ((n : Int) - (k : Int)) = (n : Int) - (k : Int) := IntWalk.i64_in _ (by omega)
      by_cases h1 : (n : Int) - (k : Int) ≤ (k : Int)
      · have d1 : decide ((n : Int) - (k : Int) ≤ (k : Int)) = true := by simpa using h1
        rw [midL_out (fun e => by have := e.2.2; rw [HN.out] at this; omega)]
        go_enter Tryz.func361, Tryz.ntmps361
        go_wp2_with fail
        refine C1.out.mono ?_
        rintro e w1 ⟨rfl, hg⟩
        have G1 := hid hg; clear hg C1
        go_wp2_with fail
        go_ret
        exact ⟨_, rfl, .nil _, G1.out⟩
      · have d1 : decide ((n : Int) - (k : Int) ≤ (k : Int)) = false := by simpa using h1
        have hn1 : l.length ≤ 1000000 := Nat.le_trans ((mayL_iff l).1 HM.out).1 (by decide)
        rw [midL_in ⟨HM.out, by omega, by rw [HN.out]; omega⟩]
        obtain ⟨m, hmm⟩ : ∃ m, ms l = m := ⟨_, rfl⟩
        have hml : m.length = n := by rw [← hmm, ms_len, HN.out]
        have MM := hid hmm; have ML := hid hml
        have HN1 := hid hn1
        clear hmm hml hn1
        go_enter Tryz.func361, Tryz.ntmps361
        go_wp2_with fail
        refine C1.out.mono ?_
        rintro e w1 ⟨rfl, hg⟩
        have I1 := hid (HI.out.grown hg)
        have G1 := hid hg; clear hg C1 HI
        go_wp2_with fail
        refine (osort_any _ _ _ I1.out HN1.out).mono ?_
        rintro e w2 ⟨u, rfl, ho, hg⟩
        rw [MM.out] at ho
        have G2 := hid (gb_trans G1.out hg (.inl rfl)); have O2 := hid ho.ints
        obtain ⟨pu, cu, rfl⟩ := ho.form
        clear ho hg G1 I1
        obtain ⟨ab, ao, rfl, -, hcc, -⟩ := O2.out.cell (i := 0) (by rw [ML.out]; omega)
        rw [ML.out] at O2 hcc ⊢
        have b1 : k ≤ n - k := by omega
        have b2 : n - k ≤ cu := by omega
        have b3 : ¬ cu = k := by omega
        have b4 : ((n : Int) - (k : Int)) = ((n - k : Nat) : Int) := by omega
        go_wp2_with fail
        go_ret
        refine ⟨_, rfl, ?_, G2.out⟩
        rw [show cutL l k = (m.take (n - k)).drop k from by unfold cutL; rw [MM.out, HN.out]]
        exact ints_slice1 (ints_slice0 O2.out (show n - k ≤ n by omega)) b1
end Go.Proofs.YtecggbndlbkhdaaGreat
end
