/-
  slices.AppendSeq and slices.Collect over whatever goes through places: a slice of the call's own that holds them in their order. No condition.
  Contracts for cmp.Compare, cmp.Or and table.compare: they read; compare lays blocks of its own. No condition.
  The program's table in its two blocks: its object and its map. Contracts for what only reads: placeOf, sample, admits, isFresh. No condition.
  Contracts for the document's Policy: Put, Set. The condition of a call: the object lies there, a slice reads as numbers.
  Contract for the document's Policy: Set; and the program's object and the document's, side by side. The condition of a call: the object lies there, a slice reads as numbers.
-/
import Derived.Test.YtecggbndlbkhdaaGreatY8
import Derived.Test.YtecggbndlbkhdaaGreatY10
import Derived.Test.YtecggbndlbkhdaaGreatY1
import Derived.Test.YtecggbndlbkhdaaGreatRows
import Derived.LoopTactic
import Derived.Deep.RegionHeld3
import Derived.Shelf.SlSortCmp.InsertionK
import Derived.Test.YtecggbndlbkhdaaGreatY6
import Derived.Test.YtecggbndlbkhdaaGreatY9
import Derived.BigQuiet
import Derived.Test.YtecggbndlbkhdaaGreatY14
import Derived.Test.YtecggbndlbkhdaaGreatY13
import Derived.Test.YtecggbndlbkhdaaGreatY16
import Derived.Test.YtecggbndlbkhdaaGreatY3
section
set_option linter.unusedSimpArgs false
set_option linter.unusedVariables false
namespace Go.Proofs.YtecggbndlbkhdaaGreat
set_option maxRecDepth 100000
open Go.RowKit Go.Maps Go.Shelf

attribute [local go_sem] Oper.semAt_some

def flatP (l : List Pc) : List Value := l.flatMap cellsP
theorem flatP_snoc (l : List Pc) (p : Pc) : flatP (l ++ [p]) = flatP l ++ [.int .i64 p.1, .int .i64 p.2.1, .int .i64 p.2.2] := by simp [flatP, cellsP]
theorem infoP : (Tryz.prog.info? 317).map (fun i => (i.zero, i.size, i.bytes)) = some (some (.agg #[.int .i64 0, .int .i64 0, .int .i64 0]), 3, 24) := by kernel_rfl
theorem cells_new (w : World) (l : List Value) (t : TypeId) : ∀ j u, l[j]? = some u → (w.alloc (.cells l.toArray t)).cell? ((⟨w.heap.size, 0, none⟩ : Addr).add j) = some u := by
  intro j u hj
  have e : (⟨w.heap.size, 0, none⟩ : Addr).add j = ⟨w.heap.size, j, none⟩ := by
    unfold Addr.add
    split
    · next h => subst h; rfl
    · simp
  rw [e, at_cell (at_new w _) j]
  simpa using hj
/-- the loop's variable: a block of three cells -/
def At3 (W : World) (b : Nat) (x : Pc) : Prop := W.heap[b]? = some (.cells #[.int .i64 x.1, .int .i64 x.2.1, .int .i64 x.2.2] 317)

set_option maxHeartbeats 2000000 in
theorem appendSeq_in (F : Fence) (n : Nat) (hf : F.fn 339) (hro : F.round = none) (hn : 2 ≤ n) (g : Nat) (lb : Array Value) (hFg : F.fn g) (eg : ∀ args w, (callFunc g args).run Tryz.prog w = .ok (.enter g args) w)
    (S Sp : List Pc → Prop) (N : Nat) (hN : N ≤ 100000) (w : World) (hseq : SeqStops F (n - 1) Tryz.prog g lb encP S Sp N w) :
    CallsIn F n Tryz.prog 339 #[.slice none 0 0, .func (.func g) #[] lb] w fun e w' => ∃ (v : Value) (ps : List Pc), e = .returned v ∧ S ps ∧ w'.ownsRow w.heap.size 317 3 v ps.length (flatP ps) ∧ (v = .slice none 0 0 ↔ ps = []) ∧ Below w.heap.size w w' := by
  have h1 : 1 ≤ n := by omega
  obtain ⟨i0, hi, hz0, hz1, hz2⟩ := info_parts infoP
  refine callsIn_of_wp_marks Tryz.func339 rfl hf ?_ hro
  simp only [Tryz.ntmps339, List.size_toArray, List.length_cons, List.length_nil, Nat.reduceAdd, Nat.reduceSub, Array.replicate_succ, Array.replicate_zero, List.push_toArray, List.append_toArray, List.nil_append, List.cons_append]
  gi_wp2
  have bO := Boxed.new w 314 (.slice none 0 0)
  have hB0 : Below w.heap.size w (w.alloc (.cells #[.slice none 0 0] 314)) := (Below.refl _ w).alloc (Nat.le_refl _) _
  refine wpIn_rangeFunc_ownH hro h1 (gf := g) (lb := lb) rfl hFg eg
    (SeqStops.later hseq hB0) walksK_t walksK_b (Below.refl _ _) (fun _ => rfl)
    (fun pre W => (∃ v, Boxed W w.heap.size 314 v ∧ W.ownsRow w.heap.size 317 3 v pre.length (flatP pre) ∧ (v = .slice none 0 0 ↔ pre = [])) ∧ Below w.heap.size w W)
    (fun _ _ _ => False)
    (OwnFrom.and (Own.from (holdsRow_own w.heap.size w.heap.size 314 317 3 (fun pre => pre.length) flatP (fun pre v => v = .slice none 0 0 ↔ pre = [])) _) (ownFrom_below (Nat.le_refl _) (by simp)))
    (fun _ _ _ _ _ hs _ _ => hs)
    ⟨⟨_, bO, World.ownsRow_nil _ _ _ _, by simp⟩, hB0⟩
    (fun x a' W => ∃ Bx, w.heap.size < Bx ∧ At3 W Bx x ∧ a' = { tmps := #[.slice none 0 0, .func (.func g) #[] lb, .pointer (some ⟨w.heap.size, 0, none⟩), undef, .slice none 0 0, .pointer (some ⟨Bx, 0, none⟩), .func (.func g) #[] lb, encP x, undef, undef, undef, undef, undef], defers := [] })
    (fun x a' _ X Y row hs hg hr => by
      obtain ⟨Bx, k1, k2, k3⟩ := hs
      refine ⟨Bx, k1, at_grown k2 hg (fun e => ?_), k3⟩
      obtain ⟨o, ho, hc⟩ := (hr Bx e.symm).2
      unfold At3 at k2
      rw [k2] at ho
      cases ho
      cases hc)
    ?assign ?body ?done ?stop
  case assign =>
    rintro l pre x W K ⟨⟨v, hv, hrow, hnil⟩, hB⟩ hK
    unfold encP
    gi_wp2
    exact hK _ _ ((KeepsOthers.alloc _ _).from _) (KeepsWalks.alloc _ _) ⟨⟨v, hv.alloc _, hrow.alloc _, hnil⟩, hB.alloc hB.size _⟩ ⟨W.heap.size, hv.lt, at_new W _, rfl⟩
  case body =>
    rintro l pre x a' W hl ⟨r, hr⟩ ⟨⟨v, hv, hrow, hnil⟩, hB⟩ ⟨Bx, hBx, hX, rfl⟩ hlt
    have hc := hv.cell
    have x0 := at_cell hX 0
    have x1 := at_cell hX 1
    have x2 := at_cell hX 2
    have hrow' := fun o => hrow.alloc o
    gi_wp2_with (gi_at_builtin; refine wpListIn_append_own _ rfl _ _ 314 rfl w.heap.size 317 i0 _ 3 24 Tryz.underlying314 hi hz0 hz1 hz2 rfl (by decide) _ _ _ rfl (hrow.alloc _) ⟨W.heap.size, 0, none⟩ 1 1 [.int .i64 x.1, .int .i64 x.2.1, .int .i64 x.2.2] rfl rfl (cells_new _ _ _) (by simp [Value.oneCell']) (by unfold maxLen; omega) (by omega) (by have := hB.size; simp; omega) ?_; intro v' w1 hown' hgrow _; obtain ⟨g', cap', rfl⟩ := ownsRow_succ hown'; obtain ⟨hv1, hv2, hr2, hk2, hb2⟩ := hv.appended (by decide) hrow hB.size (Nat.le_refl _) hown' hgrow; have hc1 := hv1.cell; have hf1 := hv1.frozen)
    exact ⟨hk2.from _, hk2.walks, ⟨_, hv2, by rw [flatP_snoc, List.length_append]; exact hr2, by simp⟩, hB.trans hb2⟩
  case done =>
    rintro D ys W hD hS ⟨⟨v, hv, hrow, hnil⟩, hB⟩ hK
    have hc := hv.cell
    gi_wp2
    refine ⟨by simp, .inl ⟨_, _, rfl, run_takeDeferred hK, ?_⟩⟩
    exact ⟨_, results_tmp rfl _ _ _, v, ys, rfl, hS, ownsRow_putObj hrow _ hK rfl, hnil, hB.trans (belowK_b (w := w) (Nat.le_refl _) W D _ _ (by simp at hD; omega) hK rfl rfl)⟩
  case stop =>
    rintro D c pre W _ _ h _
    exact h.elim
theorem collect_in (F : Fence) (n : Nat) (hf : F.fn 284) (hf2 : F.fn 339) (hro : F.round = none) (hn : 3 ≤ n) (g : Nat) (lb : Array Value) (hFg : F.fn g) (eg : ∀ args w, (callFunc g args).run Tryz.prog w = .ok (.enter g args) w)
    (S Sp : List Pc → Prop) (N : Nat) (hN : N ≤ 100000) (w : World) (hseq : SeqStops F (n - 1 - 1) Tryz.prog g lb encP S Sp N w) :
    CallsIn F n Tryz.prog 284 #[.func (.func g) #[] lb] w fun e w' => ∃ (v : Value) (ps : List Pc), e = .returned v ∧ S ps ∧ w'.ownsRow w.heap.size 317 3 v ps.length (flatP ps) ∧ (v = .slice none 0 0 ↔ ps = []) ∧ Below w.heap.size w w' := by
  have h1 : 1 ≤ n := by omega
  refine callsIn_of_wp Tryz.func284 rfl hf ?_ hro
  simp only [Tryz.ntmps284, List.size_toArray, List.length_cons, List.length_nil, Nat.reduceAdd, Nat.reduceSub, Array.replicate_succ, Array.replicate_zero, List.push_toArray, List.append_toArray, List.nil_append, List.cons_append]
  gi_wp2_with (gi_at_call 339; refine (appendSeq_in F (n - 1) hf2 hro (by omega) g lb hFg eg S Sp N hN _ hseq).mono ?_; rintro e w' ⟨v, ps, rfl, hS, hrow, hnil, hb⟩)
  go_ret
  exact ⟨v, ps, rfl, hS, hrow, hnil, hb⟩
end Go.Proofs.YtecggbndlbkhdaaGreat
end
section
set_option linter.unusedSimpArgs false
set_option linter.unusedVariables false
namespace Go.Proofs.YtecggbndlbkhdaaGreat
set_option maxRecDepth 100000
open Go.RowKit Go.Sort

def cmpI (x y : Int) : Int := if x < y then -1 else if y < x then 1 else 0
def or3 (a b c : Int) : Int := if a = 0 then (if b = 0 then c else b) else a
def cmpP (p r : Pc) : Int := or3 (cmpI p.1 r.1) (cmpI p.2.1 r.2.1) (cmpI p.2.2 r.2.2)
theorem nan6_any (x : Int) (w : World) : Calls Tryz.prog 342 #[.int .i64 x] w fun e w' => e = .returned (.bool false) ∧ w' = w := by
  go_enter Tryz.func342, Tryz.ntmps342
  go_wp2
  go_ret
  exact ⟨by simp, rfl⟩
theorem nan_any (x : Int) (w : World) : Calls Tryz.prog 343 #[.int .i64 x] w fun e w' => e = .returned (.bool false) ∧ w' = w := by
  go_enter Tryz.func343, Tryz.ntmps343
  go_wp2
  go_ret
  exact ⟨by simp, rfl⟩
theorem cmp6_any (x y : Int) (w : World) : Calls Tryz.prog 288 #[.int .i64 x, .int .i64 y] w fun e w' => e = .returned (.int .i64 (cmpI x y)) ∧ w' = w := by
  unfold cmpI
  by_cases h1 : x < y
  · go_enter Tryz.func288, Tryz.ntmps288
    go_wp2_with (go_at_call 342; refine (nan6_any _ _).mono ?_; rintro e w' ⟨rfl, rfl⟩)
    go_ret
    exact ⟨by simp [h1], rfl⟩
  · by_cases h2 : y < x
    · go_enter Tryz.func288, Tryz.ntmps288
      go_wp2_with (go_at_call 342; refine (nan6_any _ _).mono ?_; rintro e w' ⟨rfl, rfl⟩)
      go_ret
      exact ⟨by simp [h1, h2], rfl⟩
    · go_enter Tryz.func288, Tryz.ntmps288
      go_wp2_with (go_at_call 342; refine (nan6_any _ _).mono ?_; rintro e w' ⟨rfl, rfl⟩)
      go_ret
      exact ⟨by simp [h1, h2], rfl⟩
theorem cmp_any (x y : Int) (w : World) : Calls Tryz.prog 289 #[.int .i64 x, .int .i64 y] w fun e w' => e = .returned (.int .i64 (cmpI x y)) ∧ w' = w := by
  unfold cmpI
  by_cases h1 : x < y
  · go_enter Tryz.func289, Tryz.ntmps289
    go_wp2_with (go_at_call 343; refine (nan_any _ _).mono ?_; rintro e w' ⟨rfl, rfl⟩)
    go_ret
    exact ⟨by simp [h1], rfl⟩
  · by_cases h2 : y < x
    · go_enter Tryz.func289, Tryz.ntmps289
      go_wp2_with (go_at_call 343; refine (nan_any _ _).mono ?_; rintro e w' ⟨rfl, rfl⟩)
      go_ret
      exact ⟨by simp [h1, h2], rfl⟩
    · go_enter Tryz.func289, Tryz.ntmps289
      go_wp2_with (go_at_call 343; refine (nan_any _ _).mono ?_; rintro e w' ⟨rfl, rfl⟩)
      go_ret
      exact ⟨by simp [h1, h2], rfl⟩
theorem or_any (b : Nat) (x y z : Int) (w : World) (h0 : w.cell? ⟨b, 0, none⟩ = some (.int .i64 x)) (h1 : w.cell? ⟨b, 1, none⟩ = some (.int .i64 y)) (h2 : w.cell? ⟨b, 2, none⟩ = some (.int .i64 z)) :
    Calls Tryz.prog 287 #[.slice (some ⟨b, 0, none⟩) 3 3] w fun e w' => e = .returned (.int .i64 (or3 x y z)) ∧ w' = w := by
  obtain ⟨r, hr⟩ : ∃ r, r = or3 x y z := ⟨_, rfl⟩
  rw [← hr]
  have HR := hid hr; clear hr
  go_enter Tryz.func287, Tryz.ntmps287
  go_wp2
  go_loopw [8] (fun i wr => ∃ k : Nat, i = .int .i64 k ∧ k ≤ 3 ∧ wr = w ∧ Hid ((0 < k → x = 0) ∧ (1 < k → y = 0) ∧ (2 < k → z = 0)))
    (fun i _ => 3 - (intOf i).toNat)
  case atStart => exact ⟨0, rfl, by omega, rfl, ⟨fun h => by omega, fun h => by omega, fun h => by omega⟩⟩
  case round =>
    obtain ⟨k, rfl, hk, rfl, HK⟩ := hrel
    have hk' : k = 0 ∨ k = 1 ∨ k = 2 ∨ k = 3 := by omega
    clear hk
    rcases hk' with rfl | rfl | rfl | rfl
    · by_cases hx : x = 0
      · go_wp2
        go_roundw
        case rel => exact ⟨1, by simp, by omega, trivial, ⟨fun _ => hx, fun h => by omega, fun h => by omega⟩⟩
        case measure => simp [intOf]
      · go_wp2
        go_ret
        exact ⟨by rw [HR.out]; simp [or3, hx], rfl⟩
    · by_cases hy : y = 0
      · go_wp2
        go_roundw
        case rel => exact ⟨2, by simp, by omega, trivial, ⟨fun _ => HK.out.1 (by omega), fun _ => hy, fun h => by omega⟩⟩
        case measure => simp [intOf]
      · go_wp2
        go_ret
        exact ⟨by rw [HR.out]; simp [or3, hy, HK.out.1 (by omega)], rfl⟩
    · by_cases hz : z = 0
      · go_wp2
        go_roundw
        case rel => exact ⟨3, by simp, by omega, trivial, ⟨fun _ => HK.out.1 (by omega), fun _ => HK.out.2.1 (by omega), fun _ => hz⟩⟩
        case measure => simp [intOf]
      · go_wp2
        go_ret
        exact ⟨by rw [HR.out]; simp [or3, HK.out.1 (by omega), HK.out.2.1 (by omega)], rfl⟩
    · go_wp2
      go_ret
      exact ⟨by rw [HR.out]; simp [or3, HK.out.1 (by omega), HK.out.2.1 (by omega), HK.out.2.2 (by omega)], rfl⟩
/-- draws and new blocks, nothing else -/
def Lg (w w' : World) : Prop := ∃ n os, w' = grow (w.drewN n) os
theorem Lg.refl (w : World) : Lg w w := ⟨0, #[], by simp [grow, World.drewN]⟩
theorem Lg.alloc {w w' : World} (h : Lg w w') (o : Obj) : Lg w (w'.alloc o) := by
  obtain ⟨n, os, rfl⟩ := h
  exact ⟨n, os ++ #[o], by rw [alloc_eq_grow, grow_grow]⟩
theorem Lg.drew {w w' : World} (h : Lg w w') : Lg w w'.drew := by
  obtain ⟨n, os, rfl⟩ := h
  exact ⟨n + 1, os, rfl⟩
theorem Lg.size {w w' : World} (h : Lg w w') : w.heap.size ≤ w'.heap.size := by
  obtain ⟨n, os, rfl⟩ := h
  simp [grow, World.drewN]
/-- the two places' boxes -/
structure Cbx (w : World) (p1 p2 p3 r1 r2 r3 : Int) (W : World) : Prop where
  b0 : W.heap[w.heap.size]? = some (.cells #[.int .i64 p1, .int .i64 p2, .int .i64 p3] 317)
  b1 : W.heap[w.heap.size + 1]? = some (.cells #[.int .i64 r1, .int .i64 r2, .int .i64 r3] 317)
  lg : Lg w W
section
variable {w W : World} {p1 p2 p3 r1 r2 r3 : Int}
theorem Cbx.drew (h : Cbx w p1 p2 p3 r1 r2 r3 W) : Cbx w p1 p2 p3 r1 r2 r3 W.drew := ⟨h.b0, h.b1, h.lg.drew⟩
theorem Cbx.alloc (h : Cbx w p1 p2 p3 r1 r2 r3 W) (o : Obj) : Cbx w p1 p2 p3 r1 r2 r3 (W.alloc o) := ⟨at_alloc h.b0 o, at_alloc h.b1 o, h.lg.alloc o⟩
theorem Cbx.keep (h : Cbx w p1 p2 p3 r1 r2 r3 W) : W.cell? ⟨w.heap.size, 0, none⟩ = some (.int .i64 p1) ∧ W.cell? ⟨w.heap.size, 1, none⟩ = some (.int .i64 p2) ∧ W.cell? ⟨w.heap.size, 2, none⟩ = some (.int .i64 p3) ∧
    W.cell? ⟨w.heap.size + 1, 0, none⟩ = some (.int .i64 r1) ∧ W.cell? ⟨w.heap.size + 1, 1, none⟩ = some (.int .i64 r2) ∧ W.cell? ⟨w.heap.size + 1, 2, none⟩ = some (.int .i64 r3) ∧ Cbx w p1 p2 p3 r1 r2 r3 W :=
  ⟨at_cell h.b0 0, at_cell h.b0 1, at_cell h.b0 2, at_cell h.b1 0, at_cell h.b1 1, at_cell h.b1 2, h⟩
end
theorem cmpP_any (p r : Pc) (w : World) : Calls Tryz.prog 205 #[.agg #[.int .i64 p.1, .int .i64 p.2.1, .int .i64 p.2.2], .agg #[.int .i64 r.1, .int .i64 r.2.1, .int .i64 r.2.2]] w fun e w' => e = .returned (.int .i64 (cmpP p r)) ∧ Lg w w' := by
  obtain ⟨p1, p2, p3⟩ := p
  obtain ⟨r1, r2, r3⟩ := r
  simp only [cmpP]
  generalize hc1 : cmpI p1 r1 = c1
  generalize hc2 : cmpI p2 r2 = c2
  generalize hc3 : cmpI p3 r3 = c3
  have k1 : ∀ w, Calls Tryz.prog 288 #[.int .i64 p1, .int .i64 r1] w fun e w' => e = .returned (.int .i64 c1) ∧ w' = w := fun w => hc1 ▸ cmp6_any p1 r1 w
  have k2 : ∀ w, Calls Tryz.prog 289 #[.int .i64 p2, .int .i64 r2] w fun e w' => e = .returned (.int .i64 c2) ∧ w' = w := fun w => hc2 ▸ cmp_any p2 r2 w
  have k3 : ∀ w, Calls Tryz.prog 289 #[.int .i64 p3, .int .i64 r3] w fun e w' => e = .returned (.int .i64 c3) ∧ w' = w := fun w => hc3 ▸ cmp_any p3 r3 w
  generalize hr : or3 c1 c2 c3 = v
  have k4 : ∀ b w, w.cell? ⟨b, 0, none⟩ = some (.int .i64 c1) → w.cell? ⟨b, 1, none⟩ = some (.int .i64 c2) → w.cell? ⟨b, 2, none⟩ = some (.int .i64 c3) →
      Calls Tryz.prog 287 #[.slice (some ⟨b, 0, none⟩) 3 3] w fun e w' => e = .returned (.int .i64 v) ∧ w' = w := fun b w h0 h1 h2 => hr ▸ or_any b c1 c2 c3 w h0 h1 h2
  have K1 := hid k1
  have K2 := hid k2
  have K3 := hid k3
  have K4 := hid k4
  clear k1 k2 k3 k4 hc1 hc2 hc3 hr
  go_enter Tryz.func205, Tryz.ntmps205
  go_wp2_with fail
  have hb : Cbx w p1 p2 p3 r1 r2 r3 ((w.alloc (.cells #[.int .i64 p1, .int .i64 p2, .int .i64 p3] 317)).alloc (.cells #[.int .i64 r1, .int .i64 r2, .int .i64 r3] 317)) := ⟨at_alloc (at_new w _) _, by
    have := at_new (w.alloc (.cells #[.int .i64 p1, .int .i64 p2, .int .i64 p3] 317)) (.cells #[.int .i64 r1, .int .i64 r2, .int .i64 r3] 317)
    rwa [World.size_alloc] at this, ((Lg.refl w).alloc _).alloc _⟩
  have HB := hid hb; clear hb
  have hh := HB.out.keep
  go_region_held3 (fun w' => w'.cell? ⟨w.heap.size, 0, none⟩ = some (.int .i64 p1) ∧ w'.cell? ⟨w.heap.size, 1, none⟩ = some (.int .i64 p2) ∧ w'.cell? ⟨w.heap.size, 2, none⟩ = some (.int .i64 p3) ∧
    w'.cell? ⟨w.heap.size + 1, 0, none⟩ = some (.int .i64 r1) ∧ w'.cell? ⟨w.heap.size + 1, 1, none⟩ = some (.int .i64 r2) ∧ w'.cell? ⟨w.heap.size + 1, 2, none⟩ = some (.int .i64 r3) ∧ Cbx w p1 p2 p3 r1 r2 r3 w')
    ((refine Cbx.keep ?_; (repeat (first | assumption | with_reducible exact HB.out | with_reducible refine Cbx.drew ?_ | with_reducible refine Cbx.alloc ?_ _))))
    (first
      | (go_at_call 288; (with_reducible refine (K1.out _).mono ?_); rintro e w1 ⟨rfl, rfl⟩)
      | (go_at_call 289; (with_reducible refine (K2.out _).mono ?_); rintro e w1 ⟨rfl, rfl⟩)
      | (go_at_call 289; (with_reducible refine (K3.out _).mono ?_); rintro e w1 ⟨rfl, rfl⟩)
      | (go_at_call 287; (refine (K4.out _ _ (by go_simp) (by go_simp) (by go_simp)).mono ?_); rintro e w1 ⟨rfl, rfl⟩))
  clear hh
  go_wp2_with fail
  go_ret
  refine ⟨rfl, ?_⟩
  repeat (first | exact Lg.refl _ | refine Lg.drew ?_ | refine Lg.alloc ?_ _)
theorem cmpP_neg (p r : Pc) : cmpP p r < 0 ↔ PlLt p r := by
  unfold cmpP or3 cmpI PlLt
  repeat' split
  all_goals omega
theorem cmpP_lt (p r : Pc) : Go.Proofs.ltOf cmpP p r = decide (PlLt p r) := decide_eq_decide.2 (cmpP_neg p r)
theorem cmpP_swo : Go.Sort.SWO (Go.Proofs.ltOf cmpP) where
  irrefl x := by rw [cmpP_lt, decide_eq_false_iff_not]; exact plLt_irrefl x
  trans x y z h1 h2 := by rw [cmpP_lt, decide_eq_true_iff] at *; exact plLt_trans h1 h2
  ntrans x y z h1 h2 := by rw [cmpP_lt, decide_eq_false_iff_not] at *; unfold PlLt at *; omega
theorem cmpP_apart (x y : Pc) (h1 : Go.Proofs.ltOf cmpP x y = false) (h2 : Go.Proofs.ltOf cmpP y x = false) : x = y := by
  rw [cmpP_lt, decide_eq_false_iff_not] at *
  by_cases h : x = y
  · exact h
  · rcases plLt_total h with k | k
    · exact absurd k h1
    · exact absurd k h2
/-- places in some order, sorted: the places of the list -/
theorem sort_places {L : List Sm} (hS : Srt L) {ps : List Pc} (hp : ps.Perm (L.map Sm.pl)) : (ps.mergeSort fun x y => !(Go.Proofs.ltOf cmpP) y x) = L.map Sm.pl := by
  have hs : (L.map Sm.pl).Pairwise fun x y => (!(Go.Proofs.ltOf cmpP) y x) = true := by
    refine List.pairwise_map.2 ?_
    unfold Srt at hS
    refine hS.imp ?_
    intro a b hab
    rw [cmpP_lt, Bool.not_eq_true', decide_eq_false_iff_not]
    exact fun k => plLt_irrefl _ (plLt_trans hab k)
  refine List.Perm.eq_of_pairwise (le := fun x y : Pc => (!(Go.Proofs.ltOf cmpP) y x) = true) (fun a b _ _ h1 h2 => ?_) (List.pairwise_mergeSort (fun a b c h1 h2 => ?_) (fun a b => ?_) ps) hs ((List.mergeSort_perm ps _).trans hp)
  · rw [Bool.not_eq_true'] at h1 h2
    exact cmpP_apart a b h2 h1
  · rw [Bool.not_eq_true'] at *
    exact cmpP_swo.ntrans _ _ _ h2 h1
  · simp only [cmpP_lt, Bool.or_eq_true, Bool.not_eq_true', decide_eq_false_iff_not]
    unfold PlLt
    omega
end Go.Proofs.YtecggbndlbkhdaaGreat
end
section
set_option linter.unusedSimpArgs false
set_option linter.unusedVariables false
namespace Go.Proofs.YtecggbndlbkhdaaGreat
set_option maxRecDepth 100000
open Go.RowKit

/-- the program's table -/
structure TbAt (n m f : Int) (L : List Sm) (b mb : Nat) (W : World) : Prop where
  obj : W.heap[b]? = some (.cells #[.int .i64 n, .int .i64 m, .int .u64 f, .map (some mb)] 230)
  map : ∃ D : DataW Unit, W.ownsMap Tryz.prog 317 (plainElem Tryz.prog 2) mb L.length D ∧ MapIs D L
  fine : FineT n L
  nm : 1 ≤ n ∧ n ≤ 16 ∧ 1 ≤ m ∧ m ≤ 4 ∧ 1 ≤ f ∧ f ≤ 8
section
variable {n m f : Int} {L : List Sm} {b mb : Nat} {W W' : World} {F : List Nat} {s : Sm}
theorem owns_chg {D : DataW Unit} {k : Nat} (h : W.ownsMap Tryz.prog 317 (plainElem Tryz.prog 2) mb k D) (hc : Chg F W W') (hn : mb ∉ F) : W'.ownsMap Tryz.prog 317 (plainElem Tryz.prog 2) mb k D := by
  obtain ⟨es, clock, hb, Ft, hs, hD⟩ := h
  exact ⟨es, clock, hc.at hb hn, Ft, hs, hD⟩
theorem owns_tight {D : DataW Unit} {k : Nat} (h : W.ownsMap Tryz.prog 317 (plainElem Tryz.prog 2) mb k D) : W.ownsMap Tryz.prog 317 (plainElem Tryz.prog 2) mb (Maps.size D) D := by
  obtain ⟨es, clock, hb, Ft, hs, rfl⟩ := h
  exact ⟨es, clock, hb, Ft, by simp [Maps.size, length_sorted], rfl⟩
theorem TbAt.chg (h : TbAt n m f L b mb W) (hc : Chg F W W') (h1 : b ∉ F) (h2 : mb ∉ F) : TbAt n m f L b mb W' := by
  obtain ⟨D, k1, k2⟩ := h.map
  exact ⟨hc.at h.obj h1, ⟨D, owns_chg k1 hc h2, k2⟩, h.fine, h.nm⟩
theorem TbAt.grown (h : TbAt n m f L b mb W) (hg : W.grownBy W' none) : TbAt n m f L b mb W' := h.chg (chg_grown hg []) (by simp) (by simp)
theorem TbAt.drew (h : TbAt n m f L b mb W) : TbAt n m f L b mb W.drew := ⟨h.obj, h.map, h.fine, h.nm⟩
theorem TbAt.alloc (h : TbAt n m f L b mb W) (o : Obj) : TbAt n m f L b mb (W.alloc o) := h.grown (World.grownBy_alloc W o none)
theorem TbAt.cells (h : TbAt n m f L b mb W) : W.cell? ⟨b, 0, none⟩ = some (.int .i64 n) ∧ W.cell? ⟨b, 1, none⟩ = some (.int .i64 m) ∧ W.cell? ⟨b, 2, none⟩ = some (.int .u64 f) ∧ W.cell? ⟨b, 3, none⟩ = some (.map (some mb)) :=
  ⟨at_cell h.obj 0, at_cell h.obj 1, at_cell h.obj 2, at_cell h.obj 3⟩
theorem TbAt.lt (h : TbAt n m f L b mb W) : b < W.heap.size ∧ mb < W.heap.size := by
  obtain ⟨D, k1, k2⟩ := h.map
  exact ⟨at_lt h.obj, k1.lt⟩
theorem TbAt.ne (h : TbAt n m f L b mb W) : b ≠ mb := by
  obtain ⟨D, ⟨es, clock, hb, _⟩, k2⟩ := h.map
  intro e
  have := h.obj
  rw [e, hb] at this
  cases this
/-- a look-up that finds -/
theorem TbAt.hit (h : TbAt n m f L b mb W) (hs : s ∈ L) (c : Bool) : (Instr.lookup 228 (.map (some mb)) (.agg #[.int .i64 s.ep, .int .i64 s.met, .int .i64 s.who]) c).run Tryz.prog W = .ok (if c then .tuple #[.int .i64 s.val, .bool true] else .int .i64 s.val) W := by
  obtain ⟨D, k1, k2⟩ := h.map
  have hf := h.fine.fits s hs
  have hat := k2.at h.fine.srt h.fine.fits hs
  have hz : plainElem (H := Unit) Tryz.prog 2 (.int .i64 0) = some (.lit (.int .i64 0), []) := plainElem_int Tryz.underlying2 (by decide)
  cases c
  · obtain ⟨v, ps, hr, hv⟩ := k1.lookup keyedT Tryz.underlying228 (Tryz.zeroValue2 W) hz (keyOf_pl hf)
    rw [hat] at hv
    obtain ⟨a, rfl, e⟩ := elem_i64 hv
    cases e
    exact hr
  · obtain ⟨v, ps, hr, hv⟩ := k1.look_ok keyedT Tryz.underlying228 (Tryz.zeroValue2 W) hz (keyOf_pl hf)
    rw [hat] at hv
    obtain ⟨a, rfl, e⟩ := elem_i64 hv
    cases e
    rw [(k2.has_iff h.fine.fits hf).2 ⟨s, hs, rfl⟩] at hr
    exact hr
/-- a look-up that finds nothing -/
theorem TbAt.miss (h : TbAt n m f L b mb W) {x y z : Int} (hf : FitP (x, y, z)) (hs : ¬ There L (x, y, z)) : (Instr.lookup 228 (.map (some mb)) (.agg #[.int .i64 x, .int .i64 y, .int .i64 z]) true).run Tryz.prog W = .ok (.tuple #[.int .i64 0, .bool false]) W := by
  obtain ⟨D, k1, k2⟩ := h.map
  have hz : plainElem (H := Unit) Tryz.prog 2 (.int .i64 0) = some (.lit (.int .i64 0), []) := plainElem_int Tryz.underlying2 (by decide)
  have hh := k2.has_not h.fine.fits hf hs
  obtain ⟨v, ps, hr, hv⟩ := k1.look_ok keyedT Tryz.underlying228 (Tryz.zeroValue2 W) hz (keyOf_pl hf)
  rw [Maps.atKey_of_not_has hh] at hv
  obtain ⟨a, rfl, e⟩ := elem_i64 hv
  cases e
  rw [hh] at hr
  exact hr
end
theorem place_any (s : Sm) (w : World) : Calls Tryz.prog 234 #[.agg #[.int .i64 s.who, .int .i64 s.met, .int .i64 s.ep, .int .i64 s.val]] w fun e w' => e = .returned (.agg #[.int .i64 s.ep, .int .i64 s.met, .int .i64 s.who]) ∧ w.grownBy w' none := by
  go_enter Tryz.func234, Tryz.ntmps234
  go_wp2
  refine bodyPost_ret (v := .agg #[.int .i64 s.ep, .int .i64 s.met, .int .i64 s.who]) ?_ rfl ⟨rfl, gb_alloc (gb_alloc (.refl w none) _) _⟩
  simp [results, Tryz.results234, go_sem]
theorem sample_any (x y z v : Int) (w : World) : Calls Tryz.prog 206 #[.agg #[.int .i64 x, .int .i64 y, .int .i64 z], .int .i64 v] w fun e w' => e = .returned (.agg #[.int .i64 z, .int .i64 y, .int .i64 x, .int .i64 v]) ∧ w.grownBy w' none := by
  go_enter Tryz.func206, Tryz.ntmps206
  go_wp2
  refine bodyPost_ret (v := .agg #[.int .i64 z, .int .i64 y, .int .i64 x, .int .i64 v]) ?_ rfl ⟨rfl, gb_alloc (gb_alloc (.refl w none) _) _⟩
  simp [results, Tryz.results206, go_sem]
theorem told_bool {x y : Bool} (h : x = y) : Ending.returned (.bool x) = Ending.returned (.bool y) := by rw [h]
theorem gb_drewNT {w w1 : World} {r : Option Nat} (h : w.grownBy w1 r) (n : Nat) : w.grownBy (w1.drewN n) r := ⟨h.os, h.tape, h.output, h.size, h.block⟩
/-- may the sample's parts be? -/
def AdmT (n m : Int) (s : Sm) : Prop := 0 ≤ s.who ∧ s.who < n ∧ 0 ≤ s.met ∧ s.met < m ∧ 0 ≤ s.val ∧ s.val ≤ 1099511627776
instance (n m : Int) (s : Sm) : Decidable (AdmT n m s) := by unfold AdmT; infer_instance
set_option maxHeartbeats 1000000 in
theorem admits_any {n m f : Int} {L : List Sm} {b mb : Nat} {w : World} (h : TbAt n m f L b mb w) (s : Sm) :
    Calls Tryz.prog 232 #[.pointer (some ⟨b, 0, none⟩), .agg #[.int .i64 s.who, .int .i64 s.met, .int .i64 s.ep, .int .i64 s.val]] w fun e w' => e = .returned (.bool (decide (AdmT n m s))) ∧ w.grownBy w' none := by
  obtain ⟨c0, c1, c2, c3⟩ := (h.alloc (.cells #[.int .i64 s.who, .int .i64 s.met, .int .i64 s.ep, .int .i64 s.val] 91)).cells
  have hb := h.lt.1
  clear h
  obtain ⟨a, y, e, v⟩ := s
  simp only at *
  unfold AdmT
  simp only
  obtain ⟨r, hr⟩ : ∃ r : Bool, r = decide (0 ≤ a ∧ a < n ∧ 0 ≤ y ∧ y < m ∧ 0 ≤ v ∧ v ≤ 1099511627776) := ⟨_, rfl⟩
  rw [← hr]
  have HR := hid hr
  clear hr
  go_enter Tryz.func232, Tryz.ntmps232
  go_wp2_with fail
  by_cases h1 : 0 ≤ a
  · by_cases h2 : a < n
    · by_cases h3 : 0 ≤ y
      · by_cases h4 : y < m
        · by_cases h5 : 0 ≤ v
          · by_cases h6 : v ≤ 1099511627776
            · go_quiet (fail)
              go_wp2_with fail
              go_ret
              exact ⟨told_bool (by rw [HR.out]; first | exact (decide_eq_true (by omega)).symm | exact (decide_eq_false (by omega)).symm), gb_drewNT (gb_alloc (.refl w none) _) _⟩
            · go_quiet (fail)
              go_wp2_with fail
              go_ret
              exact ⟨told_bool (by rw [HR.out]; first | exact (decide_eq_true (by omega)).symm | exact (decide_eq_false (by omega)).symm), gb_drewNT (gb_alloc (.refl w none) _) _⟩
          · go_quiet (fail)
            go_wp2_with fail
            go_ret
            exact ⟨told_bool (by rw [HR.out]; first | exact (decide_eq_true (by omega)).symm | exact (decide_eq_false (by omega)).symm), gb_drewNT (gb_alloc (.refl w none) _) _⟩
        · go_quiet (fail)
          go_wp2_with fail
          go_ret
          exact ⟨told_bool (by rw [HR.out]; first | exact (decide_eq_true (by omega)).symm | exact (decide_eq_false (by omega)).symm), gb_drewNT (gb_alloc (.refl w none) _) _⟩
      · go_quiet (fail)
        go_wp2_with fail
        go_ret
        exact ⟨told_bool (by rw [HR.out]; first | exact (decide_eq_true (by omega)).symm | exact (decide_eq_false (by omega)).symm), gb_drewNT (gb_alloc (.refl w none) _) _⟩
    · go_quiet (fail)
      go_wp2_with fail
      go_ret
      exact ⟨told_bool (by rw [HR.out]; first | exact (decide_eq_true (by omega)).symm | exact (decide_eq_false (by omega)).symm), gb_drewNT (gb_alloc (.refl w none) _) _⟩
  · go_quiet (fail)
    go_wp2_with fail
    go_ret
    exact ⟨told_bool (by rw [HR.out]; first | exact (decide_eq_true (by omega)).symm | exact (decide_eq_false (by omega)).symm), gb_drewNT (gb_alloc (.refl w none) _) _⟩
theorem fresh_any {n m f : Int} {L : List Sm} {b mb : Nat} {w : World} (h : TbAt n m f L b mb w) (e now : Int) (he : wf64 e) (hn : wf64 now) :
    Calls Tryz.prog 233 #[.pointer (some ⟨b, 0, none⟩), .int .i64 e, .int .i64 now] w fun x w' => x = .returned (.bool (decide (now ≤ e ∧ e - now < f))) ∧ w' = w := by
  obtain ⟨c0, c1, c2, c3⟩ := h.cells
  have hf := h.nm
  unfold wf64 at he hn
  clear h
  obtain ⟨r, hr⟩ : ∃ r : Bool, r = decide (now ≤ e ∧ e - now < f) := ⟨_, rfl⟩
  rw [← hr]
  have HR := hid hr
  clear hr
  by_cases h1 : now ≤ e
  · have s1 : IntKind.u64.wrap (IntKind.u64.wrap e - IntKind.u64.wrap now) = e - now := by
      simp only [IntKind.wrap_u64]; omega
    go_enter Tryz.func233, Tryz.ntmps233
    go_wp2
    go_ret
    exact ⟨told_bool (by rw [HR.out]; simp [h1]), rfl⟩
  · go_enter Tryz.func233, Tryz.ntmps233
    go_wp2
    go_ret
    exact ⟨told_bool (by rw [HR.out]; exact (decide_eq_false (by omega)).symm), rfl⟩
end Go.Proofs.YtecggbndlbkhdaaGreat
end
section
set_option linter.unusedSimpArgs false
set_option linter.unusedVariables false
namespace Go.Proofs.YtecggbndlbkhdaaGreat
set_option maxRecDepth 100000
open Go.RowKit

end Go.Proofs.YtecggbndlbkhdaaGreat
end
section
set_option linter.unusedSimpArgs false
set_option linter.unusedVariables false
namespace Go.Proofs.YtecggbndlbkhdaaGreat
set_option maxRecDepth 100000
open Go.RowKit

/-- a configuration in a block, the program's object and the document's -/
structure Pp (w : World) (x : Nat) (c : Conf) (b1 : Nat) (p1 : Po) (b2 : Nat) (p2 : Po) (W : World) : Prop where
  k1 : Pc1 w x c b1 p1 W
  k2 : PrAt W [b2, b1, x] b2 c p2
  l2 : w.heap.size ≤ b2
  ne : b1 ≠ b2
  nx : x ≠ b2
section
variable {w W W' : World} {x b1 b2 : Nat} {c : Conf} {p p1 p2 : Po}
theorem Pp.grown (h : Pp w x c b1 p1 b2 p2 W) (hg : W.grownBy W' none) : Pp w x c b1 p1 b2 p2 W' := ⟨h.k1.grown hg, h.k2.grown hg, h.l2, h.ne, h.nx⟩
theorem Pp.drew (h : Pp w x c b1 p1 b2 p2 W) : Pp w x c b1 p1 b2 p2 W.drew := ⟨h.k1.drew, h.k2.drew, h.l2, h.ne, h.nx⟩
end
end Go.Proofs.YtecggbndlbkhdaaGreat
end
