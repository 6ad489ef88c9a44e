/-
  Contracts: Most, of the program and of the document: the greatest of what several want. The condition: slices that read as numbers.
  Contract: the document's last of a slice; slices of numbers beside blocks that change. No condition, but for short slices.
  The program's Law: its object, its targets, its Calm and its Policy, each in a block of its own. Contracts: Count, put, Hold, of nil too. The condition of a call: the object lies there.
  Contracts for package law: Next, of nil too. The condition of a call: the object lies there, slices read as numbers.
  Contracts for sync.Once as the program uses it, in one goroutine: the lock that is free is taken and given back; what was not yet done is done once. The conditions are told of the cells: the lock's word is 0.
  Contracts for the answer of package conf, which is made once: a part that may not be makes it, if no part ahead of it did. The condition: the answer's block is as the program makes it, its lock free.
-/
import Derived.Test.YthobbekocimcnaaGreatZ5
import Derived.Test.YthobbekocimcnaaGreatZ2
import Derived.StillTailTactics
import Derived.Test.YthobbekocimcnaaGreatZ1
import Derived.WalkSpells
import Derived.WalkLawsBesides
import Derived.Test.YthobbekocimcnaaGreatZ3
import Derived.Deep.RegionHeld3
import Derived.Test.YthobbekocimcnaaGreatRows
import Derived.WalkKit
import Derived.Defers
import Derived.Laws.Pointers
import Derived.Laws.LoneSync
import Derived.RegionTactic
import Derived.RegionCalls
import Derived.ChangeAlike
section
set_option linter.unusedSimpArgs false
set_option linter.unusedVariables false
namespace Go.Proofs.YthobbekocimcnaaGreat
set_option maxRecDepth 100000
open Go.RowKit

set_option maxHeartbeats 1600000 in
theorem rmost_any (c l : Int) (v u : Value) (vs ts : List Int) (w : World) (h : IntsAt w v vs) (h2 : IntsAt w u ts) :
    Calls Tryz.prog 30 #[.int .i64 c, v, u, .int .i64 l] w fun e w' => e = .returned (.tuple #[.int .i64 (raMost c vs ts l).1, .bool (raMost c vs ts l).2]) ∧ w.grownBy w' none := by
  have IV := hid h; have IT := hid h2
  obtain ⟨pv, cv, rfl⟩ := h.form
  obtain ⟨pt, ct, rfl⟩ := h2.form
  have lv := h.len; have lt := h2.len
  unfold maxLen at lv lt
  obtain ⟨n, hn⟩ : ∃ n, vs.length = n := ⟨_, rfl⟩
  obtain ⟨m, hm⟩ : ∃ n, ts.length = n := ⟨_, rfl⟩
  rw [hn] at IV lv ⊢
  rw [hm] at IT lt ⊢
  clear h h2
  by_cases h0 : n = 0
  · rw [raMost_len (.inl (hn.trans h0))]
    have d0 : ((n : Int) == 0) = true := by subst h0; rfl
    clear hn hm h0 IV IT
    go_enter Tryz.func30, Tryz.ntmps30
    go_wp2_with fail
    go_ret2
    exact ⟨rfl, .refl w none⟩
  have d0 : ((n : Int) == 0) = false := by simp; omega
  by_cases h1 : n = m
  rotate_left
  · rw [raMost_len (.inr (by rw [hn, hm]; exact h1))]
    have d1 : ((n : Int) == (m : Int)) = false := by simp; omega
    clear hn hm h0 h1 IV IT
    go_enter Tryz.func30, Tryz.ntmps30
    go_wp2_with fail
    go_ret2
    exact ⟨rfl, .refl w none⟩
  subst h1
  have d1 : ((n : Int) == (n : Int)) = true := by simp
  have HNV := hid hn; have HNT := hid hm
  have HM0 := hid (fun (ha : raAll c l vs ts = false) => raMost_bad ha)
  have HM1 := hid (fun (ha : raAll c l vs ts = true) => raMost_ok (c := c) (l := l) (show vs.length ≠ 0 by omega) (by omega) ha)
  obtain ⟨R, hR⟩ : ∃ R, raMost c vs ts l = R := ⟨_, rfl⟩
  rw [hR] at HM0 HM1 ⊢
  clear hn hm hR h0
  have HC := hid (at_new w (.cells #[.int .i64 0] 64))
  have HG := hid (World.grownBy_alloc w (.cells #[.int .i64 0] 64) none)
  go_enter Tryz.func30, Tryz.ntmps30
  go_wp2_with fail
  go_loopw [11, 12, 13, 14, 27] (fun _ _ _ _ i wr => ∃ k : Nat, k ≤ n ∧ i = .int .i64 (k : Int) ∧ wr.heap[w.heap.size]? = some (.cells #[.int .i64 (topK c l vs ts k)] 64) ∧ allK c l vs ts k = true ∧ w.grownBy wr none) (fun _ _ _ _ i _ => n - (intOf i).toNat)
  case atStart => exact ⟨0, Nat.zero_le _, rfl, by rw [topK_zero]; exact HC.out, allK_zero .., HG.out⟩
  case round =>
    obtain ⟨k, hk, rfl, hb, ha, hgr⟩ := hrel
    have HBL := hid hb; have HGR := hid hgr; have HA := hid ha
    have c0 := at_cell hb 0
    have f0 := at_free hb 0
    clear hb hgr HC HG ha
    by_cases hlt : k < n
    · have hkv : k < vs.length := by rw [HNV.out]; exact hlt
      have hkt : k < ts.length := by rw [HNT.out]; exact hlt
      obtain ⟨ab, ao, rfl, -, hcv, hcellv⟩ := (IV.out.grown HGR.out).cell hkv
      obtain ⟨bb, bo, rfl, -, hct, hcellt⟩ := (IT.out.grown HGR.out).cell hkt
      have hx := List.getElem?_eq_getElem hkv
      have hy := List.getElem?_eq_getElem hkt
      generalize vs[k] = x at *
      generalize ts[k] = y at *
      have hs := topK_next (c := c) (l := l) hx hy
      have hs2 := allK_next (c := c) (l := l) hx hy
      rw [HA.out, Bool.true_and] at hs2
      have b1 := topK_bound c l vs ts k
      have b2 := raWant_bound c x y l
      have W0 := hid (fun w => wanted_any c x y l w)
      clear hx hy
      cases ho : raOk c x y l with
      | false =>
        rw [ho] at W0 hs2
        have HR := hid (HM0.out (raAll_cut c l vs ts (k + 1) (HNV.out.trans HNT.out.symm) hs2))
        clear hs hs2 b1 b2 HBL ho
        generalize raWant c x y l = z at *
        go_wp2_with fail
        refine (W0.out _).mono ?_
        rintro e w2 ⟨rfl, rfl⟩
        clear W0
        go_wp2_with fail
        go_ret2
        obtain rfl := HR.out
        exact ⟨rfl, HGR.out⟩
      | true =>
        rw [ho] at W0 hs2
        have HS := hid hs; have HS2 := hid hs2
        clear hs hs2 ho
        generalize raWant c x y l = z at *
        generalize topK c l vs ts k = r at *
        obtain ⟨d, hd⟩ : ∃ d, z - r = d := ⟨_, rfl⟩
        have e1 : IntKind.i64.wrap (z - r) = d := by rw [hd]; exact IntWalk.i64_in _ (by omega)
        have HD := hid hd
        have L0 := hid (load_i64 _ _ _ c0)
        have A0 := hid (fun (x' : Int) (hx : x' = max 0 d) => addn_i64 _ _ x' (max r z) _ c0 f0 (by rw [hx, show r + max 0 d = max r z by omega]; exact IntWalk.i64_in _ (by omega)))
        have ht := hid (at_set HBL.out 0 (.int .i64 (max r z)))
        have hg2 := hid (gb_new HGR.out (p := ⟨w.heap.size, 0, none⟩) (Nat.le_refl _) (.int .i64 (max r z)))
        clear HBL HGR hd c0 f0
        go_wp2_with fail
        refine (W0.out _).mono ?_
        rintro e w2 ⟨rfl, rfl⟩
        clear W0
        go_wp2_with fail
        refine L0.out.mono ?_
        rintro e w2 ⟨rfl, rfl⟩
        clear L0
        go_wp2_with fail
        all_goals (refine (A0.out _ (by omega)).mono ?_; rintro e w2 ⟨rfl, hw⟩; subst hw; clear A0; go_wp2_with fail; go_roundw)
        all_goals first | (case rel => exact ⟨k + 1, by omega, by go_num, by rw [HS.out]; exact ht.out, HS2.out, hg2.out⟩) | (case measure => simp [intOf]; omega)
    · obtain rfl : k = n := by omega
      have hA : raAll c l vs ts = true := by rw [← allK_full HNV.out HNT.out]; exact HA.out
      have HR := hid (HM1.out hA)
      rw [topK_full HNV.out HNT.out] at c0
      have L0 := hid (load_i64 _ _ _ c0)
      have b1 := raTop_bound c l vs ts
      generalize raTop c l vs ts = z at *
      have e1 : IntKind.i64.wrap z = z := IntWalk.i64_in _ (by omega)
      clear HBL c0 f0 hA
      go_wp2_with fail
      refine L0.out.mono ?_
      rintro e w2 ⟨rfl, rfl⟩
      clear L0
      go_wp2_with fail
      go_ret2
      obtain rfl := HR.out
      exact ⟨rfl, HGR.out⟩
end Go.Proofs.YthobbekocimcnaaGreat
end
section
set_option linter.unusedSimpArgs false
set_option linter.unusedVariables false
namespace Go.Proofs.YthobbekocimcnaaGreat
set_option maxRecDepth 100000
open Go.RowKit

theorem ints_chg {w w' : World} {G : List Nat} {v : Value} {l : List Int} (h : IntsAt w v l) (hc : Chg G w w') (hb : ∀ a n c, v = .slice (some a) n c → a.block ∉ G) : IntsAt w' v l := by
  rcases h with h | ⟨a, cap, rfl, h1, h2, h3⟩
  · exact .inl h
  · refine .inr ⟨a, cap, rfl, h1, h2, fun i hi => hc.cell (h3 i hi) ?_⟩
    have e1 : (a.add i).block = a.block := by unfold Addr.add; split <;> rfl
    rw [e1]; exact hb a _ _ rfl
theorem rlast_any (ab ao n c k : Nat) (h1 : 1 ≤ n) (h2 : 1 ≤ k) (h3 : n ≤ c) (h4 : n ≤ 1000) (h5 : k ≤ 1000) (w : World) :
    Calls Tryz.prog 50 #[.slice (some ⟨ab, ao, none⟩) n c, .int .i64 (k : Int)] w fun e w' => e = .returned (.slice (some ⟨ab, ao + (n - k), none⟩) (n - (n - k)) (c - (n - k))) ∧ w = w' := by
  go_enter Tryz.func50, Tryz.ntmps50
  go_wp2_with fail
  all_goals go_ret
  all_goals first
  | exact ⟨rfl, rfl⟩
  | (rw [show n - k = 0 by omega]; exact ⟨rfl, rfl⟩)
  | (rw [show n - k = (max ((n : Int) - (k : Int)) 0).toNat by omega]; exact ⟨rfl, rfl⟩)
end Go.Proofs.YthobbekocimcnaaGreat
end
section
set_option linter.unusedSimpArgs false
set_option linter.unusedVariables false
namespace Go.Proofs.YthobbekocimcnaaGreat
set_option maxRecDepth 100000
open Go.RowKit

/-- the blocks of a Law: its own, its Calm's, its Policy's, its targets' -/
structure LBl where
  b : Nat
  c : Nat
  p : Nat
  t : Nat
@[reducible] def LBl.F (B : LBl) : List Nat := [B.b, B.c, B.p, B.t]
structure LBl.Ne (B : LBl) : Prop where
  bc : B.b ≠ B.c
  bp : B.b ≠ B.p
  bt : B.b ≠ B.t
  cp : B.c ≠ B.p
  ct : B.c ≠ B.t
  pt : B.p ≠ B.t
@[reducible] def laCells (B : LBl) (ao k m : Nat) (tol n : Int) : Array Value := #[.slice (some ⟨B.t, ao, none⟩) m k, .int .i64 tol, .pointer (some ⟨B.c, 0, none⟩), .pointer (some ⟨B.p, 0, none⟩), .int .i64 n]
structure LaAt (w : World) (B : LBl) (s : La) : Prop where
  row : ∃ ao k, w.heap[B.b]? = some (.cells (laCells B ao k s.tg.length s.tol s.n) 66) ∧ IntsAt w (.slice (some ⟨B.t, ao, none⟩) s.tg.length k) s.tg
  ca : CaAt w B.c s.ca
  po : PoAt w B.p s.po
  lt : B.t < w.heap.size
  ne : B.Ne
  ok : s.Ok
/-- with another count, and put to the policy -/
def La.set (s : La) (x : Int) : La := { s with po := (s.po.put x).2, n := x }
theorem La.hold_set (s : La) : s.hold = s.set s.n := rfl
theorem La.next_set (s : La) (vs : List Int) : s.next vs = ({ s with ca := s.ca.push (s.want vs) } : La).set (s.come vs) := rfl
theorem La.set_ok {s : La} (h : s.Ok) {x : Int} (hx : s.po.in x = true) : (s.set x).Ok := by
  refine ⟨h.tg, h.ne, h.tol, h.ca, Po.put_ok h.po _, ?_⟩
  have e : (s.set x).po.r = s.po.r := by
    show (s.po.put x).2.r = s.po.r
    rw [Po.put_yes hx]
  rw [e]; exact Po.in_iff.1 hx
section
variable {w w' w1 : World} {F : List Nat} {B : LBl} {s : La}
theorem LaAt.chg (H : LaAt w B s) (hc : Chg F w w') (hb : ∀ x ∈ B.F, x ∉ F) : LaAt w' B s := by
  obtain ⟨⟨ao, k, h1, h2⟩, h3, h4, h5, h6, h7⟩ := H
  exact ⟨⟨ao, k, hc.at h1 (hb _ (by simp)), ints_chg h2 hc (fun a n c e => by cases e; exact hb B.t (by simp))⟩, h3.chg hc (hb _ (by simp)), h4.chg hc (hb _ (by simp)), Nat.lt_of_lt_of_le h5 hc.size, h6, h7⟩
theorem LaAt.grown (H : LaAt w B s) (hg : w.grownBy w' none) : LaAt w' B s := H.chg (chg_grown hg []) (by simp)
theorem LaAt.drew (H : LaAt w B s) : LaAt w.drew B s := ⟨H.row, H.ca.drew, H.po.drew, H.lt, H.ne, H.ok⟩
theorem LaAt.lts (H : LaAt w B s) : ∀ x ∈ B.F, x < w.heap.size := by
  obtain ⟨ao, k, h1, h2⟩ := H.row
  intro x hx
  simp only [List.mem_cons, List.mem_singleton, List.not_mem_nil, or_false] at hx
  rcases hx with rfl | rfl | rfl | rfl
  · exact at_lt h1
  · exact H.ca.lt
  · exact H.po.lt
  · exact H.lt
theorem LaAt.cells (H : LaAt w B s) : w.cell? ⟨B.b, 1, none⟩ = some (.int .i64 s.tol) ∧ w.cell? ⟨B.b, 2, none⟩ = some (.pointer (some ⟨B.c, 0, none⟩)) ∧ w.cell? ⟨B.b, 3, none⟩ = some (.pointer (some ⟨B.p, 0, none⟩)) ∧ w.cell? ⟨B.b, 4, none⟩ = some (.int .i64 s.n) ∧ ∀ k, w.frozen? ⟨B.b, k, none⟩ = false := by
  obtain ⟨ao, k, h1, -⟩ := H.row
  exact ⟨at_cell h1 1, at_cell h1 2, at_cell h1 3, at_cell h1 4, fun k => at_free h1 k⟩
/-- another Calm in its block -/
theorem LaAt.calm {c : Ca} (H : LaAt w B s) (h : CaAt w' B.c c) (hc : Chg [B.c] w w') : LaAt w' B { s with ca := c } := by
  obtain ⟨⟨ao, k, h1, h2⟩, h3, h4, h5, h6, h7⟩ := H
  exact ⟨⟨ao, k, hc.at h1 (by simp [h6.bc]), ints_chg h2 hc (fun a n c e => by cases e; simp [h6.ct.symm])⟩, h, h4.chg hc (by simp [h6.cp.symm]), Nat.lt_of_lt_of_le h5 hc.size, h6, ⟨h7.tg, h7.ne, h7.tol, h.ok, h7.po, h7.n⟩⟩
/-- another Policy, and the count stored -/
theorem LaAt.put {p : Po} {x : Int} (H : LaAt w B s) (hp : PoAt w1 B.p p) (hc : Chg [B.p] w w1) (ho : ({ s with po := p, n := x } : La).Ok) :
    LaAt (w1.setCell ⟨B.b, 4, none⟩ (.int .i64 x)) B { s with po := p, n := x } ∧ Chg B.F w (w1.setCell ⟨B.b, 4, none⟩ (.int .i64 x)) := by
  obtain ⟨⟨ao, k, h1, h2⟩, h3, h4, h5, h6, h7⟩ := H
  have hr := hc.at h1 (by simp [h6.bp])
  have hc2 : Chg [B.b] w1 (w1.setCell ⟨B.b, 4, none⟩ (.int .i64 x)) := (chg_refl w1 [B.b]).set (.inl (by simp)) _
  refine ⟨⟨⟨ao, k, ?_, ints_chg (ints_chg h2 hc (fun a n c e => by cases e; simp [h6.pt.symm])) hc2 (fun a n c e => by cases e; simp [h6.bt.symm])⟩, (h3.chg hc (by simp [h6.cp])).chg hc2 (by simp [h6.bc.symm]), hp.chg hc2 (by simp [h6.bp.symm]), Nat.lt_of_lt_of_le h5 (Nat.le_trans hc.size hc2.size), h6, ho⟩,
    (hc.more (by simp)).then (hc2.more (by simp))⟩
  rw [at_set hr]; rfl
end
/-- Count -/
theorem lcount_nil (w : World) :
    Calls Tryz.prog 12 #[.pointer none] w fun e w' => e = .returned (.int .i64 0) ∧ w = w' := by
  go_enter Tryz.func12, Tryz.ntmps12
  go_wp2_with fail
  go_ret
  exact ⟨rfl, rfl⟩
theorem lcount_any {w : World} {B : LBl} {s : La} (H : LaAt w B s) :
    Calls Tryz.prog 12 #[.pointer (some ⟨B.b, 0, none⟩)] w fun e w' => e = .returned (.int .i64 s.n) ∧ w = w' := by
  obtain ⟨-, -, -, c4, -⟩ := H.cells
  have b := La.n_in H.ok
  have e1 : IntKind.i64.wrap s.n = s.n := IntWalk.i64_in _ (by omega)
  have L0 := hid (load_i64 _ _ _ c4)
  generalize s.n = x at *
  clear b H
  go_enter Tryz.func12, Tryz.ntmps12
  go_wp2_with fail
  refine L0.out.mono ?_
  rintro e w2 ⟨rfl, rfl⟩
  go_wp2_with fail
  go_ret
  exact ⟨rfl, rfl⟩
/-- put -/
theorem lput_any {w : World} {B : LBl} {s : La} {x : Int} (hx : s.po.in x = true) (H : LaAt w B s) :
    Calls Tryz.prog 28 #[.pointer (some ⟨B.b, 0, none⟩), .int .i64 x] w fun e w' => e = .returned (.int .i64 x) ∧ LaAt w' B (s.set x) ∧ Chg B.F w w' := by
  obtain ⟨-, -, c3, -, -⟩ := H.cells
  have HH := hid H
  have P := hid (pput_yes x hx H.po)
  have HOK := hid (La.set_ok H.ok hx)
  have hb := Po.in_iff.1 hx
  have b1 := H.po.ok.r.mn; have b2 := H.po.ok.r.mx
  have e1 : IntKind.i64.wrap x = x := IntWalk.i64_in _ (by omega)
  have hn := H.ne.bp
  have RW := hid (show ∀ W, Chg [B.p] w W → W.cell? ⟨B.b, 4, none⟩ = some (.int .i64 s.n) ∧ W.frozen? ⟨B.b, 4, none⟩ = false from fun W hc => by
    obtain ⟨ao, k, h1, -⟩ := H.row
    have h2 := hc.at h1 (by simp [hn])
    exact And.intro (at_cell h2 4) (at_free h2 4))
  clear H hx hb b1 b2 hn
  go_enter Tryz.func28, Tryz.ntmps28
  go_wp2_with fail
  refine P.out.mono ?_
  rintro e w1 ⟨rfl, hp, hc⟩
  have HP := hid hp; have HC := hid hc; clear hp hc c3
  obtain ⟨c4, f4⟩ := RW.out _ HC.out
  have S0 := hid (store_i64 _ x _ _ c4 f4)
  clear c4 f4
  go_wp2_with fail
  refine S0.out.mono ?_
  rintro e w2 ⟨rfl, rfl⟩
  go_wp2_with fail
  go_ret
  obtain ⟨h1, h2⟩ := HH.out.put HP.out HC.out HOK.out
  exact ⟨rfl, h1, h2⟩
/-- Hold -/
theorem lhold_nil (w : World) :
    Calls Tryz.prog 8 #[.pointer none] w fun e w' => e = .returned (.int .i64 0) ∧ w = w' := by
  go_enter Tryz.func8, Tryz.ntmps8
  go_wp2_with fail
  go_ret
  exact ⟨rfl, rfl⟩
theorem lhold_any {w : World} {B : LBl} {s : La} (H : LaAt w B s) :
    Calls Tryz.prog 8 #[.pointer (some ⟨B.b, 0, none⟩)] w fun e w' => e = .returned (.int .i64 s.n) ∧ LaAt w' B s.hold ∧ Chg B.F w w' := by
  have C := hid (lcount_any H)
  have P := hid (lput_any (Po.in_iff.2 H.ok.n) H)
  rw [← La.hold_set] at P
  clear H
  go_enter Tryz.func8, Tryz.ntmps8
  go_wp2_with fail
  refine C.out.mono ?_
  rintro e w1 ⟨rfl, rfl⟩
  go_wp2_with fail
  refine P.out.mono ?_
  rintro e w2 ⟨rfl, hl, hc⟩
  have HL := hid hl; have HC := hid hc; clear hl hc
  go_wp2_with fail
  go_ret
  exact ⟨rfl, HL.out, HC.out⟩
end Go.Proofs.YthobbekocimcnaaGreat
end
section
set_option linter.unusedSimpArgs false
set_option linter.unusedVariables false
namespace Go.Proofs.YthobbekocimcnaaGreat
set_option maxRecDepth 100000
open Go.RowKit

theorem LaAt.rowx {w : World} {B : LBl} {s : La} (H : LaAt w B s) : ∃ ao k m tol n, w.heap[B.b]? = some (.cells (laCells B ao k m tol n) 66) := by
  obtain ⟨ao, k, h1, -⟩ := H.row
  exact ⟨_, _, _, _, _, h1⟩
theorem lnext_nil (v : Value) (l : List Int) (w : World) (hv : IntsAt w v l) :
    Calls Tryz.prog 10 #[.pointer none, v] w fun e w' => e = .returned (.tuple #[.int .i64 0, .int .i64 0, .int .i64 1]) ∧ w = w' := by
  obtain ⟨p, c, rfl⟩ := hv.form
  clear hv
  go_enter Tryz.func10, Tryz.ntmps10
  go_wp2_with fail
  go_ret3
  exact ⟨rfl, rfl⟩
theorem La.most_no {s : La} {vs : List Int} (h : s.may vs = false) : raMost s.n vs s.tg s.tol = (0, false) := by
  unfold La.may raMost at *
  split at h
  · next c => rw [if_pos c]
  · cases h
theorem La.most_yes {s : La} {vs : List Int} (h : s.may vs = true) : raMost s.n vs s.tg s.tol = (s.want vs, true) := by
  unfold La.may at h; unfold La.want
  exact Prod.ext rfl h
set_option maxHeartbeats 1600000 in
theorem lnext_no {w : World} {B : LBl} {s : La} {v : Value} {vs : List Int} (hm : s.may vs = false) (H : LaAt w B s) (hv : IntsAt w v vs) :
    Calls Tryz.prog 10 #[.pointer (some ⟨B.b, 0, none⟩), v] w fun e w' => e = .returned (.tuple #[.int .i64 0, .int .i64 0, .int .i64 1]) ∧ w.grownBy w' none := by
  obtain ⟨pv, cv, rfl⟩ := hv.form
  obtain ⟨ao, k, hR, hIT⟩ := H.row
  have hIV := hv
  have C := hid (lcount_any H)
  have M := hid (fun (W : World) (h1 : IntsAt W (.slice pv vs.length cv) vs) (h2 : IntsAt W (.slice (some ⟨B.t, ao, none⟩) s.tg.length k) s.tg) => rmost_any s.n s.tol _ _ vs s.tg W h1 h2)
  rw [La.most_no hm] at M
  clear hv H hm
  go_enter Tryz.func10, Tryz.ntmps10
  go_wp2_with fail
  refine C.out.mono ?_
  rintro e w1 ⟨rfl, rfl⟩
  clear C
  go_wp2_with fail
  refine wp_region_held_drew (S := (fun w' => (w.grownBy w' none) ∧ (w'.heap[B.b]? = some (.cells (laCells B ao k s.tg.length s.tol s.n) 66)) ∧ (IntsAt w' (.slice (some ⟨B.t, ao, none⟩) s.tg.length k) s.tg) ∧ (IntsAt w' (.slice pv vs.length cv) vs))) (by kernel_rfl) ⟨gb_drew (.refl w none), hR, hIT, hIV⟩ (fun hHeld => ?_)
  try dsimp only at hHeld
  refine' wpAnyH_take (i := 0) (v := _) rfl (by kernel_rfl) (by kernel_rfl) (by kernel_rfl) (fun _ _ _ h => h) (Or.inl ⟨by rfl, ?_⟩) hHeld ?_
  rotate_left
  · (intro w hSw; (try dsimp only at hSw); go_simp; try with_reducible rfl)
  try simp only [Act.put, List.setIfInBounds_toArray, List.set_cons_zero, List.set_cons_succ, List.getElem_toArray, List.getElem_cons_succ, List.getElem_cons_zero]
  refine' wpAnyH_take (i := 1) (v := _) rfl (by kernel_rfl) (by kernel_rfl) (by kernel_rfl) (fun _ _ _ h => h) (Or.inl ⟨by rfl, ?_⟩) hHeld ?_
  rotate_left
  · (intro w hSw; (try dsimp only at hSw); go_simp; try with_reducible rfl)
  try simp only [Act.put, List.setIfInBounds_toArray, List.set_cons_zero, List.set_cons_succ, List.getElem_toArray, List.getElem_cons_succ, List.getElem_cons_zero]
  refine' wpAnyH_take (i := 2) (v := _) rfl (by kernel_rfl) (by kernel_rfl) (by kernel_rfl) (fun _ _ _ h => h) (Or.inl ⟨by rfl, ?_⟩) hHeld ?_
  rotate_left
  · (intro w hSw; (try dsimp only at hSw); go_simp; try with_reducible rfl)
  try simp only [Act.put, List.setIfInBounds_toArray, List.set_cons_zero, List.set_cons_succ, List.getElem_toArray, List.getElem_cons_succ, List.getElem_cons_zero]
  refine' wpAnyH_take (i := 3) (v := _) rfl (by kernel_rfl) (by kernel_rfl) (by kernel_rfl) (fun _ _ _ h => h) (Or.inl ⟨by rfl, ?_⟩) hHeld ?_
  rotate_left
  · (intro w hSw; (try dsimp only at hSw); go_simp; try with_reducible rfl)
  try simp only [Act.put, List.setIfInBounds_toArray, List.set_cons_zero, List.set_cons_succ, List.getElem_toArray, List.getElem_cons_succ, List.getElem_cons_zero]
  refine' wpAnyH_take (i := 4) (v := _) rfl (by kernel_rfl) (by kernel_rfl) (by kernel_rfl) (fun _ _ _ h => h) (Or.inl ⟨by rfl, ?_⟩) hHeld ?_
  rotate_left
  · (intro w hSw; (try dsimp only at hSw); go_simp; try with_reducible rfl)
  try simp only [Act.put, List.setIfInBounds_toArray, List.set_cons_zero, List.set_cons_succ, List.getElem_toArray, List.getElem_cons_succ, List.getElem_cons_zero]
  refine' wpAnyH_take (i := 5) (v := _) rfl (by kernel_rfl) (by kernel_rfl) (by kernel_rfl) (fun _ _ _ h => h) (Or.inl ⟨by rfl, ?_⟩) hHeld ?_
  rotate_left
  · (intro w hSw; (try dsimp only at hSw); obtain ⟨G, R, IT, IV⟩ := hSw; have c0 := at_cell R 0; go_simp; try with_reducible rfl)
  try simp only [Act.put, List.setIfInBounds_toArray, List.set_cons_zero, List.set_cons_succ, List.getElem_toArray, List.getElem_cons_succ, List.getElem_cons_zero]
  refine' wpAnyH_take (i := 6) (v := _) rfl (by kernel_rfl) (by kernel_rfl) (by kernel_rfl) (fun _ _ _ h => h) (Or.inl ⟨by rfl, ?_⟩) hHeld ?_
  rotate_left
  · (intro w hSw; (try dsimp only at hSw); go_simp; try with_reducible rfl)
  try simp only [Act.put, List.setIfInBounds_toArray, List.set_cons_zero, List.set_cons_succ, List.getElem_toArray, List.getElem_cons_succ, List.getElem_cons_zero]
  refine' wpAnyH_take (i := 7) (v := _) rfl (by kernel_rfl) (by kernel_rfl) (by kernel_rfl) (fun _ _ _ h => h) (Or.inl ⟨by rfl, ?_⟩) hHeld ?_
  rotate_left
  · (intro w hSw; (try dsimp only at hSw); go_simp; try with_reducible rfl)
  try simp only [Act.put, List.setIfInBounds_toArray, List.set_cons_zero, List.set_cons_succ, List.getElem_toArray, List.getElem_cons_succ, List.getElem_cons_zero]
  refine' wpAnyH_take (i := 8) (v := _) rfl (by kernel_rfl) (by kernel_rfl) (by kernel_rfl) (fun _ _ _ h => h) (Or.inl ⟨by rfl, ?_⟩) hHeld ?_
  rotate_left
  · (intro w hSw; (try dsimp only at hSw); go_simp; try with_reducible rfl)
  try simp only [Act.put, List.setIfInBounds_toArray, List.set_cons_zero, List.set_cons_succ, List.getElem_toArray, List.getElem_cons_succ, List.getElem_cons_zero]
  refine' wpAnyH_take (i := 9) (v := _) rfl (by kernel_rfl) (by kernel_rfl) (by kernel_rfl) (fun _ _ _ h => h) (Or.inl ⟨by rfl, ?_⟩) hHeld ?_
  rotate_left
  · (intro w hSw; (try dsimp only at hSw); obtain ⟨G, R, IT, IV⟩ := hSw; have c1 := at_cell R 1; go_simp; try with_reducible rfl)
  try simp only [Act.put, List.setIfInBounds_toArray, List.set_cons_zero, List.set_cons_succ, List.getElem_toArray, List.getElem_cons_succ, List.getElem_cons_zero]
  refine wpAnyH_ready (rs := [10]) (by kernel_rfl) (by simp) ?_
  refine AllReadyH.cons (o := _) rfl (fun K hK => ?_) AllReadyH.nil
  try simp only [List.getElem_toArray, List.getElem_cons_succ, List.getElem_cons_zero]
  go_simp
  have hH2 := hHeld
  obtain ⟨G, R, IT, IV⟩ := hH2
  refine ((M.out _ IV IT)).mono ?_
  rintro e w1010 ⟨rfl, hg⟩
  have L10 := hid (show (w.grownBy w1010 none) ∧ (w1010.heap[B.b]? = some (.cells (laCells B ao k s.tg.length s.tol s.n) 66)) ∧ (IntsAt w1010 (.slice (some ⟨B.t, ao, none⟩) s.tg.length k) s.tg) ∧ (IntsAt w1010 (.slice pv vs.length cv) vs) from ⟨gb_trans G hg (.inl rfl), at_grown R hg (by simp), IT.grown hg, IV.grown hg⟩)
  clear hHeld hg G R IT IV
  go_wp2_with fail
  refine hK.out _ _ ?_ (fun hHeld => ?_)
  · exact L10.out
  clear hK K
  try dsimp only at hHeld
  try simp only [Act.put, List.setIfInBounds_toArray, List.set_cons_zero, List.set_cons_succ, List.getElem_toArray, List.getElem_cons_succ, List.getElem_cons_zero]
  refine' wpAnyH_take (i := 11) (v := _) rfl (by kernel_rfl) (by kernel_rfl) (by kernel_rfl) (fun _ _ _ h => h) (Or.inl ⟨by rfl, ?_⟩) hHeld ?_
  rotate_left
  · (intro w hSw; (try dsimp only at hSw); go_simp; try with_reducible rfl)
  try simp only [Act.put, List.setIfInBounds_toArray, List.set_cons_zero, List.set_cons_succ, List.getElem_toArray, List.getElem_cons_succ, List.getElem_cons_zero]
  refine' wpAnyH_take (i := 12) (v := _) rfl (by kernel_rfl) (by kernel_rfl) (by kernel_rfl) (fun _ _ _ h => h) (Or.inl ⟨by rfl, ?_⟩) hHeld ?_
  rotate_left
  · (intro w hSw; (try dsimp only at hSw); go_simp; try with_reducible rfl)
  try simp only [Act.put, List.setIfInBounds_toArray, List.set_cons_zero, List.set_cons_succ, List.getElem_toArray, List.getElem_cons_succ, List.getElem_cons_zero]
  refine' wpAnyH_take (i := 13) (v := _) rfl (by kernel_rfl) (by kernel_rfl) (by kernel_rfl) (fun _ _ _ h => h) (Or.inl ⟨by rfl, ?_⟩) hHeld ?_
  rotate_left
  · (intro w hSw; (try dsimp only at hSw); go_simp; try with_reducible rfl)
  try simp only [Act.put, List.setIfInBounds_toArray, List.set_cons_zero, List.set_cons_succ, List.getElem_toArray, List.getElem_cons_succ, List.getElem_cons_zero]
  refine' wpAnyH_take (i := 14) (v := _) rfl (by kernel_rfl) (by kernel_rfl) (by kernel_rfl) (fun _ _ _ h => h) (Or.inl ⟨by rfl, ?_⟩) hHeld ?_
  rotate_left
  · (intro w hSw; (try dsimp only at hSw); go_simp; try with_reducible rfl)
  try simp only [Act.put, List.setIfInBounds_toArray, List.set_cons_zero, List.set_cons_succ, List.getElem_toArray, List.getElem_cons_succ, List.getElem_cons_zero]
  refine' wpAnyH_take (i := 15) (v := _) rfl (by kernel_rfl) (by kernel_rfl) (by kernel_rfl) (fun _ _ _ h => h) (Or.inl ⟨by rfl, ?_⟩) hHeld ?_
  rotate_left
  · (intro w hSw; (try dsimp only at hSw); go_simp; try with_reducible rfl)
  try simp only [Act.put, List.setIfInBounds_toArray, List.set_cons_zero, List.set_cons_succ, List.getElem_toArray, List.getElem_cons_succ, List.getElem_cons_zero]
  refine wpAnyH_done (by kernel_rfl) ?_ _
  obtain ⟨G, R, IT, IV⟩ := hHeld
  have G1 := hid G; clear G R IT IV
  go_wp2_with fail
  go_ret3
  exact ⟨rfl, G1.out⟩
set_option maxHeartbeats 3200000 in
theorem lnext_yes {w : World} {B : LBl} {s : La} {v : Value} {vs : List Int} (hm : s.may vs = true) (H : LaAt w B s) (hv : IntsAt w v vs) :
    Calls Tryz.prog 10 #[.pointer (some ⟨B.b, 0, none⟩), v] w fun e w' => e = .returned (.tuple #[.int .i64 (s.come vs), .int .i64 (s.want vs), .int .i64 0]) ∧ LaAt w' B (s.next vs) ∧ Chg B.F w w' := by
  obtain ⟨pv, cv, rfl⟩ := hv.form
  obtain ⟨ao, k, hR, hIT⟩ := H.row
  have hIV := hv
  have C := hid (lcount_any H)
  have M := hid (fun (W : World) (h1 : IntsAt W (.slice pv vs.length cv) vs) (h2 : IntsAt W (.slice (some ⟨B.t, ao, none⟩) s.tg.length k) s.tg) => rmost_any s.n s.tol _ _ vs s.tg W h1 h2)
  rw [La.most_yes hm] at M
  have hin : s.po.in (s.come vs) = true := Po.in_iff.2 (La.come_in H.ok vs)
  have hy : s.po.lim ((s.ca.push (s.want vs)).out s.n) = s.come vs := rfl
  have hs := La.next_set s vs
  rw [hs]
  generalize s.want vs = x at *
  generalize s.come vs = y at *
  have HIN := hid (show ({ s with ca := s.ca.push x } : La).po.in y = true from hin)
  obtain ⟨o1, ho1⟩ : ∃ o, (s.ca.push x).out s.n = o := ⟨_, rfl⟩
  rw [ho1] at hy
  have HO1 := hid ho1; have HY := hid hy
  have HH := hid H
  clear hv H hm hin hs hy ho1
  go_enter Tryz.func10, Tryz.ntmps10
  go_wp2_with fail
  refine C.out.mono ?_
  rintro e w1 ⟨rfl, rfl⟩
  clear C
  go_wp2_with fail
  refine wp_region_held_drew (S := (fun w' => (w.grownBy w' none) ∧ (w'.heap[B.b]? = some (.cells (laCells B ao k s.tg.length s.tol s.n) 66)) ∧ (IntsAt w' (.slice (some ⟨B.t, ao, none⟩) s.tg.length k) s.tg) ∧ (IntsAt w' (.slice pv vs.length cv) vs))) (by kernel_rfl) ⟨gb_drew (.refl w none), hR, hIT, hIV⟩ (fun hHeld => ?_)
  try dsimp only at hHeld
  refine' wpAnyH_take (i := 0) (v := _) rfl (by kernel_rfl) (by kernel_rfl) (by kernel_rfl) (fun _ _ _ h => h) (Or.inl ⟨by rfl, ?_⟩) hHeld ?_
  rotate_left
  · (intro w hSw; (try dsimp only at hSw); go_simp; try with_reducible rfl)
  try simp only [Act.put, List.setIfInBounds_toArray, List.set_cons_zero, List.set_cons_succ, List.getElem_toArray, List.getElem_cons_succ, List.getElem_cons_zero]
  refine' wpAnyH_take (i := 1) (v := _) rfl (by kernel_rfl) (by kernel_rfl) (by kernel_rfl) (fun _ _ _ h => h) (Or.inl ⟨by rfl, ?_⟩) hHeld ?_
  rotate_left
  · (intro w hSw; (try dsimp only at hSw); go_simp; try with_reducible rfl)
  try simp only [Act.put, List.setIfInBounds_toArray, List.set_cons_zero, List.set_cons_succ, List.getElem_toArray, List.getElem_cons_succ, List.getElem_cons_zero]
  refine' wpAnyH_take (i := 2) (v := _) rfl (by kernel_rfl) (by kernel_rfl) (by kernel_rfl) (fun _ _ _ h => h) (Or.inl ⟨by rfl, ?_⟩) hHeld ?_
  rotate_left
  · (intro w hSw; (try dsimp only at hSw); go_simp; try with_reducible rfl)
  try simp only [Act.put, List.setIfInBounds_toArray, List.set_cons_zero, List.set_cons_succ, List.getElem_toArray, List.getElem_cons_succ, List.getElem_cons_zero]
  refine' wpAnyH_take (i := 3) (v := _) rfl (by kernel_rfl) (by kernel_rfl) (by kernel_rfl) (fun _ _ _ h => h) (Or.inl ⟨by rfl, ?_⟩) hHeld ?_
  rotate_left
  · (intro w hSw; (try dsimp only at hSw); go_simp; try with_reducible rfl)
  try simp only [Act.put, List.setIfInBounds_toArray, List.set_cons_zero, List.set_cons_succ, List.getElem_toArray, List.getElem_cons_succ, List.getElem_cons_zero]
  refine' wpAnyH_take (i := 4) (v := _) rfl (by kernel_rfl) (by kernel_rfl) (by kernel_rfl) (fun _ _ _ h => h) (Or.inl ⟨by rfl, ?_⟩) hHeld ?_
  rotate_left
  · (intro w hSw; (try dsimp only at hSw); go_simp; try with_reducible rfl)
  try simp only [Act.put, List.setIfInBounds_toArray, List.set_cons_zero, List.set_cons_succ, List.getElem_toArray, List.getElem_cons_succ, List.getElem_cons_zero]
  refine' wpAnyH_take (i := 5) (v := _) rfl (by kernel_rfl) (by kernel_rfl) (by kernel_rfl) (fun _ _ _ h => h) (Or.inl ⟨by rfl, ?_⟩) hHeld ?_
  rotate_left
  · (intro w hSw; (try dsimp only at hSw); obtain ⟨G, R, IT, IV⟩ := hSw; have c0 := at_cell R 0; go_simp; try with_reducible rfl)
  try simp only [Act.put, List.setIfInBounds_toArray, List.set_cons_zero, List.set_cons_succ, List.getElem_toArray, List.getElem_cons_succ, List.getElem_cons_zero]
  refine' wpAnyH_take (i := 6) (v := _) rfl (by kernel_rfl) (by kernel_rfl) (by kernel_rfl) (fun _ _ _ h => h) (Or.inl ⟨by rfl, ?_⟩) hHeld ?_
  rotate_left
  · (intro w hSw; (try dsimp only at hSw); go_simp; try with_reducible rfl)
  try simp only [Act.put, List.setIfInBounds_toArray, List.set_cons_zero, List.set_cons_succ, List.getElem_toArray, List.getElem_cons_succ, List.getElem_cons_zero]
  refine' wpAnyH_take (i := 7) (v := _) rfl (by kernel_rfl) (by kernel_rfl) (by kernel_rfl) (fun _ _ _ h => h) (Or.inl ⟨by rfl, ?_⟩) hHeld ?_
  rotate_left
  · (intro w hSw; (try dsimp only at hSw); go_simp; try with_reducible rfl)
  try simp only [Act.put, List.setIfInBounds_toArray, List.set_cons_zero, List.set_cons_succ, List.getElem_toArray, List.getElem_cons_succ, List.getElem_cons_zero]
  refine' wpAnyH_take (i := 8) (v := _) rfl (by kernel_rfl) (by kernel_rfl) (by kernel_rfl) (fun _ _ _ h => h) (Or.inl ⟨by rfl, ?_⟩) hHeld ?_
  rotate_left
  · (intro w hSw; (try dsimp only at hSw); go_simp; try with_reducible rfl)
  try simp only [Act.put, List.setIfInBounds_toArray, List.set_cons_zero, List.set_cons_succ, List.getElem_toArray, List.getElem_cons_succ, List.getElem_cons_zero]
  refine' wpAnyH_take (i := 9) (v := _) rfl (by kernel_rfl) (by kernel_rfl) (by kernel_rfl) (fun _ _ _ h => h) (Or.inl ⟨by rfl, ?_⟩) hHeld ?_
  rotate_left
  · (intro w hSw; (try dsimp only at hSw); obtain ⟨G, R, IT, IV⟩ := hSw; have c1 := at_cell R 1; go_simp; try with_reducible rfl)
  try simp only [Act.put, List.setIfInBounds_toArray, List.set_cons_zero, List.set_cons_succ, List.getElem_toArray, List.getElem_cons_succ, List.getElem_cons_zero]
  refine wpAnyH_ready (rs := [10]) (by kernel_rfl) (by simp) ?_
  refine AllReadyH.cons (o := _) rfl (fun K hK => ?_) AllReadyH.nil
  try simp only [List.getElem_toArray, List.getElem_cons_succ, List.getElem_cons_zero]
  go_simp
  have hH2 := hHeld
  obtain ⟨G, R, IT, IV⟩ := hH2
  refine ((M.out _ IV IT)).mono ?_
  rintro e w1010 ⟨rfl, hg⟩
  have L10 := hid (show (w.grownBy w1010 none) ∧ (w1010.heap[B.b]? = some (.cells (laCells B ao k s.tg.length s.tol s.n) 66)) ∧ (IntsAt w1010 (.slice (some ⟨B.t, ao, none⟩) s.tg.length k) s.tg) ∧ (IntsAt w1010 (.slice pv vs.length cv) vs) from ⟨gb_trans G hg (.inl rfl), at_grown R hg (by simp), IT.grown hg, IV.grown hg⟩)
  clear hHeld hg G R IT IV
  go_wp2_with fail
  refine hK.out _ _ ?_ (fun hHeld => ?_)
  · exact L10.out
  clear hK K
  try dsimp only at hHeld
  try simp only [Act.put, List.setIfInBounds_toArray, List.set_cons_zero, List.set_cons_succ, List.getElem_toArray, List.getElem_cons_succ, List.getElem_cons_zero]
  refine' wpAnyH_take (i := 11) (v := _) rfl (by kernel_rfl) (by kernel_rfl) (by kernel_rfl) (fun _ _ _ h => h) (Or.inl ⟨by rfl, ?_⟩) hHeld ?_
  rotate_left
  · (intro w hSw; (try dsimp only at hSw); go_simp; try with_reducible rfl)
  try simp only [Act.put, List.setIfInBounds_toArray, List.set_cons_zero, List.set_cons_succ, List.getElem_toArray, List.getElem_cons_succ, List.getElem_cons_zero]
  refine' wpAnyH_take (i := 12) (v := _) rfl (by kernel_rfl) (by kernel_rfl) (by kernel_rfl) (fun _ _ _ h => h) (Or.inl ⟨by rfl, ?_⟩) hHeld ?_
  rotate_left
  · (intro w hSw; (try dsimp only at hSw); go_simp; try with_reducible rfl)
  try simp only [Act.put, List.setIfInBounds_toArray, List.set_cons_zero, List.set_cons_succ, List.getElem_toArray, List.getElem_cons_succ, List.getElem_cons_zero]
  refine' wpAnyH_take (i := 13) (v := _) rfl (by kernel_rfl) (by kernel_rfl) (by kernel_rfl) (fun _ _ _ h => h) (Or.inl ⟨by rfl, ?_⟩) hHeld ?_
  rotate_left
  · (intro w hSw; (try dsimp only at hSw); go_simp; try with_reducible rfl)
  try simp only [Act.put, List.setIfInBounds_toArray, List.set_cons_zero, List.set_cons_succ, List.getElem_toArray, List.getElem_cons_succ, List.getElem_cons_zero]
  refine' wpAnyH_take (i := 14) (v := _) rfl (by kernel_rfl) (by kernel_rfl) (by kernel_rfl) (fun _ _ _ h => h) (Or.inl ⟨by rfl, ?_⟩) hHeld ?_
  rotate_left
  · (intro w hSw; (try dsimp only at hSw); go_simp; try with_reducible rfl)
  try simp only [Act.put, List.setIfInBounds_toArray, List.set_cons_zero, List.set_cons_succ, List.getElem_toArray, List.getElem_cons_succ, List.getElem_cons_zero]
  refine' wpAnyH_take (i := 15) (v := _) rfl (by kernel_rfl) (by kernel_rfl) (by kernel_rfl) (fun _ _ _ h => h) (Or.inl ⟨by rfl, ?_⟩) hHeld ?_
  rotate_left
  · (intro w hSw; (try dsimp only at hSw); go_simp; try with_reducible rfl)
  try simp only [Act.put, List.setIfInBounds_toArray, List.set_cons_zero, List.set_cons_succ, List.getElem_toArray, List.getElem_cons_succ, List.getElem_cons_zero]
  refine wpAnyH_done (by kernel_rfl) ?_ _
  obtain ⟨G, R, IT, IV⟩ := hHeld
  have G1 := hid G; clear G R IT IV
  go_wp2_with fail
  generalize w1010 = WQ at *
  have T := hid ((HH.out.grown G1.out).drew); have HC := hid (show Chg B.F w WQ.drew from (chg_grown G1.out B.F).drew); clear G1 M HH hR hIT hIV
  refine wp_region_held_drew (S := (fun w' => (∃ ao k m tol n, w'.heap[B.b]? = some (.cells (laCells B ao k m tol n) 66)))) (by kernel_rfl) T.out.rowx (fun hHeld => ?_)
  try dsimp only at hHeld
  refine' wpAnyH_take (i := 0) (v := _) rfl (by kernel_rfl) (by kernel_rfl) (by kernel_rfl) (fun _ _ _ h => h) (Or.inl ⟨by rfl, ?_⟩) hHeld ?_
  rotate_left
  · (intro w hSw; (try dsimp only at hSw); go_simp; try with_reducible rfl)
  try simp only [Act.put, List.setIfInBounds_toArray, List.set_cons_zero, List.set_cons_succ, List.getElem_toArray, List.getElem_cons_succ, List.getElem_cons_zero]
  refine' wpAnyH_take (i := 1) (v := _) rfl (by kernel_rfl) (by kernel_rfl) (by kernel_rfl) (fun _ _ _ h => h) (Or.inl ⟨by rfl, ?_⟩) hHeld ?_
  rotate_left
  · (intro w hSw; (try dsimp only at hSw); go_simp; try with_reducible rfl)
  try simp only [Act.put, List.setIfInBounds_toArray, List.set_cons_zero, List.set_cons_succ, List.getElem_toArray, List.getElem_cons_succ, List.getElem_cons_zero]
  refine' wpAnyH_take (i := 2) (v := _) rfl (by kernel_rfl) (by kernel_rfl) (by kernel_rfl) (fun _ _ _ h => h) (Or.inl ⟨by rfl, ?_⟩) hHeld ?_
  rotate_left
  · (intro w hSw; (try dsimp only at hSw); go_simp; try with_reducible rfl)
  try simp only [Act.put, List.setIfInBounds_toArray, List.set_cons_zero, List.set_cons_succ, List.getElem_toArray, List.getElem_cons_succ, List.getElem_cons_zero]
  refine' wpAnyH_take (i := 3) (v := _) rfl (by kernel_rfl) (by kernel_rfl) (by kernel_rfl) (fun _ _ _ h => h) (Or.inl ⟨by rfl, ?_⟩) hHeld ?_
  rotate_left
  · (intro w hSw; (try dsimp only at hSw); go_simp; try with_reducible rfl)
  try simp only [Act.put, List.setIfInBounds_toArray, List.set_cons_zero, List.set_cons_succ, List.getElem_toArray, List.getElem_cons_succ, List.getElem_cons_zero]
  refine' wpAnyH_take (i := 4) (v := _) rfl (by kernel_rfl) (by kernel_rfl) (by kernel_rfl) (fun _ _ _ h => h) (Or.inl ⟨by rfl, ?_⟩) hHeld ?_
  rotate_left
  · (intro w hSw; (try dsimp only at hSw); have R := hSw; obtain ⟨ao', k', m', tol', n', R⟩ := R; have c2 := at_cell R 2; have c3 := at_cell R 3; go_simp; try with_reducible rfl)
  try simp only [Act.put, List.setIfInBounds_toArray, List.set_cons_zero, List.set_cons_succ, List.getElem_toArray, List.getElem_cons_succ, List.getElem_cons_zero]
  refine' wpAnyH_take (i := 5) (v := _) rfl (by kernel_rfl) (by kernel_rfl) (by kernel_rfl) (fun _ _ _ h => h) (Or.inl ⟨by rfl, ?_⟩) hHeld ?_
  rotate_left
  · (intro w hSw; (try dsimp only at hSw); go_simp; try with_reducible rfl)
  try simp only [Act.put, List.setIfInBounds_toArray, List.set_cons_zero, List.set_cons_succ, List.getElem_toArray, List.getElem_cons_succ, List.getElem_cons_zero]
  refine' wpAnyH_take (i := 6) (v := _) rfl (by kernel_rfl) (by kernel_rfl) (by kernel_rfl) (fun _ _ _ h => h) (Or.inl ⟨by rfl, ?_⟩) hHeld ?_
  rotate_left
  · (intro w hSw; (try dsimp only at hSw); go_simp; try with_reducible rfl)
  try simp only [Act.put, List.setIfInBounds_toArray, List.set_cons_zero, List.set_cons_succ, List.getElem_toArray, List.getElem_cons_succ, List.getElem_cons_zero]
  refine' wpAnyH_take (i := 7) (v := _) rfl (by kernel_rfl) (by kernel_rfl) (by kernel_rfl) (fun _ _ _ h => h) (Or.inl ⟨by rfl, ?_⟩) hHeld ?_
  rotate_left
  · (intro w hSw; (try dsimp only at hSw); go_simp; try with_reducible rfl)
  try simp only [Act.put, List.setIfInBounds_toArray, List.set_cons_zero, List.set_cons_succ, List.getElem_toArray, List.getElem_cons_succ, List.getElem_cons_zero]
  refine' wpAnyH_take (i := 8) (v := _) rfl (by kernel_rfl) (by kernel_rfl) (by kernel_rfl) (fun _ _ _ h => h) (Or.inl ⟨by rfl, ?_⟩) hHeld ?_
  rotate_left
  · (intro w hSw; (try dsimp only at hSw); have R := hSw; obtain ⟨ao', k', m', tol', n', R⟩ := R; have c2 := at_cell R 2; have c3 := at_cell R 3; go_simp; try with_reducible rfl)
  try simp only [Act.put, List.setIfInBounds_toArray, List.set_cons_zero, List.set_cons_succ, List.getElem_toArray, List.getElem_cons_succ, List.getElem_cons_zero]
  refine' wpAnyH_take (i := 9) (v := _) rfl (by kernel_rfl) (by kernel_rfl) (by kernel_rfl) (fun _ _ _ h => h) (Or.inl ⟨by rfl, ?_⟩) hHeld ?_
  rotate_left
  · (intro w hSw; (try dsimp only at hSw); go_simp; try with_reducible rfl)
  try simp only [Act.put, List.setIfInBounds_toArray, List.set_cons_zero, List.set_cons_succ, List.getElem_toArray, List.getElem_cons_succ, List.getElem_cons_zero]
  refine' wpAnyH_take (i := 10) (v := _) rfl (by kernel_rfl) (by kernel_rfl) (by kernel_rfl) (fun _ _ _ h => h) (Or.inl ⟨by rfl, ?_⟩) hHeld ?_
  rotate_left
  · (intro w hSw; (try dsimp only at hSw); go_simp; try with_reducible rfl)
  try simp only [Act.put, List.setIfInBounds_toArray, List.set_cons_zero, List.set_cons_succ, List.getElem_toArray, List.getElem_cons_succ, List.getElem_cons_zero]
  refine' wpAnyH_take (i := 14) (v := _) rfl (by kernel_rfl) (by kernel_rfl) (by kernel_rfl) (fun _ _ _ h => h) (Or.inl ⟨by rfl, ?_⟩) hHeld ?_
  rotate_left
  · (intro w hSw; (try dsimp only at hSw); go_simp; try with_reducible rfl)
  try simp only [Act.put, List.setIfInBounds_toArray, List.set_cons_zero, List.set_cons_succ, List.getElem_toArray, List.getElem_cons_succ, List.getElem_cons_zero]
  refine wpAnyH_ready (rs := [11]) (by kernel_rfl) (by simp) ?_
  refine AllReadyH.cons (o := _) rfl (fun K hK => ?_) AllReadyH.nil
  try simp only [List.getElem_toArray, List.getElem_cons_succ, List.getElem_cons_zero]
  go_simp
  have hH2 := hHeld
  have R := hH2
  refine ((next_any s.n x T.out.ca)).mono ?_
  rintro e w1011 ⟨he, hc, hch⟩
  obtain rfl := he
  have R := (T.out.calm hc hch).rowx
  replace HC := hid (HC.out.then (hch.more (by simp)))
  replace T := hid (T.out.calm hc hch)
  rw [HO1.out]
  clear hc hch
  have hg := True.intro
  have L11 := hid (show (∃ ao k m tol n, w1011.heap[B.b]? = some (.cells (laCells B ao k m tol n) 66)) from R)
  clear hHeld hg R
  go_wp2_with fail
  refine hK.out _ _ ?_ (fun hHeld => ?_)
  · exact L11.out
  clear hK K
  try dsimp only at hHeld
  try simp only [Act.put, List.setIfInBounds_toArray, List.set_cons_zero, List.set_cons_succ, List.getElem_toArray, List.getElem_cons_succ, List.getElem_cons_zero]
  refine wpAnyH_ready (rs := [12]) (by kernel_rfl) (by simp) ?_
  refine AllReadyH.cons (o := _) rfl (fun K hK => ?_) AllReadyH.nil
  try simp only [List.getElem_toArray, List.getElem_cons_succ, List.getElem_cons_zero]
  go_simp
  have hH2 := hHeld
  have R := hH2
  refine ((plim_any o1 T.out.po)).mono ?_
  rintro e w1012 ⟨he, hg⟩
  obtain rfl := he
  replace T := hid (T.out.grown hg)
  have R := T.out.rowx
  replace HC := hid (HC.out.grown hg)
  rw [show ({ s with ca := s.ca.push x } : La).po.lim o1 = y from HY.out]
  have L12 := hid (show (∃ ao k m tol n, w1012.heap[B.b]? = some (.cells (laCells B ao k m tol n) 66)) from R)
  clear hHeld hg R
  go_wp2_with fail
  refine hK.out _ _ ?_ (fun hHeld => ?_)
  · exact L12.out
  clear hK K
  try dsimp only at hHeld
  try simp only [Act.put, List.setIfInBounds_toArray, List.set_cons_zero, List.set_cons_succ, List.getElem_toArray, List.getElem_cons_succ, List.getElem_cons_zero]
  refine wpAnyH_ready (rs := [13]) (by kernel_rfl) (by simp) ?_
  refine AllReadyH.cons (o := _) rfl (fun K hK => ?_) AllReadyH.nil
  try simp only [List.getElem_toArray, List.getElem_cons_succ, List.getElem_cons_zero]
  go_simp
  have hH2 := hHeld
  have R := hH2
  refine ((lput_any (s := { s with ca := s.ca.push x }) HIN.out T.out)).mono ?_
  rintro e w1013 ⟨he, hl, hch⟩
  obtain rfl := he
  have R := hl.rowx
  replace HC := hid (HC.out.then hch)
  have T3 := hid hl
  clear hl hch
  have hg := True.intro
  have L13 := hid (show (∃ ao k m tol n, w1013.heap[B.b]? = some (.cells (laCells B ao k m tol n) 66)) from R)
  clear hHeld hg R
  go_wp2_with fail
  refine hK.out _ _ ?_ (fun hHeld => ?_)
  · exact L13.out
  clear hK K
  try dsimp only at hHeld
  try simp only [Act.put, List.setIfInBounds_toArray, List.set_cons_zero, List.set_cons_succ, List.getElem_toArray, List.getElem_cons_succ, List.getElem_cons_zero]
  refine' wpAnyH_take (i := 15) (v := _) rfl (by kernel_rfl) (by kernel_rfl) (by kernel_rfl) (fun _ _ _ h => h) (Or.inl ⟨by rfl, ?_⟩) hHeld ?_
  rotate_left
  · (intro w hSw; (try dsimp only at hSw); go_simp; try with_reducible rfl)
  try simp only [Act.put, List.setIfInBounds_toArray, List.set_cons_zero, List.set_cons_succ, List.getElem_toArray, List.getElem_cons_succ, List.getElem_cons_zero]
  refine' wpAnyH_take (i := 16) (v := _) rfl (by kernel_rfl) (by kernel_rfl) (by kernel_rfl) (fun _ _ _ h => h) (Or.inl ⟨by rfl, ?_⟩) hHeld ?_
  rotate_left
  · (intro w hSw; (try dsimp only at hSw); go_simp; try with_reducible rfl)
  try simp only [Act.put, List.setIfInBounds_toArray, List.set_cons_zero, List.set_cons_succ, List.getElem_toArray, List.getElem_cons_succ, List.getElem_cons_zero]
  refine' wpAnyH_take (i := 17) (v := _) rfl (by kernel_rfl) (by kernel_rfl) (by kernel_rfl) (fun _ _ _ h => h) (Or.inl ⟨by rfl, ?_⟩) hHeld ?_
  rotate_left
  · (intro w hSw; (try dsimp only at hSw); go_simp; try with_reducible rfl)
  try simp only [Act.put, List.setIfInBounds_toArray, List.set_cons_zero, List.set_cons_succ, List.getElem_toArray, List.getElem_cons_succ, List.getElem_cons_zero]
  refine wpAnyH_done (by kernel_rfl) ?_ _
  have R := hHeld
  clear R
  go_wp2_with fail
  go_ret3
  exact ⟨rfl, T3.out, HC.out⟩
end Go.Proofs.YthobbekocimcnaaGreat
end
section
namespace Go.Proofs.YthobbekocimcnaaGreat
set_option maxRecDepth 100000
open Go.RowKit

theorem disable (w : World) : (callFunc 92 #[]).run Tryz.prog w = .ok (.value (.tuple #[])) w := run_call_mark0 Tryz.func92 (by kernel_rfl) (by kernel_rfl) (by kernel_rfl) .disable (by kernel_rfl) w
theorem enable (w : World) : (callFunc 94 #[]).run Tryz.prog w = .ok (.value (.tuple #[])) w := run_call_mark0 Tryz.func94 (by kernel_rfl) (by kernel_rfl) (by kernel_rfl) .enable (by kernel_rfl) w
theorem acquire (a : Addr) (w : World) : (callFunc 95 #[.pointer (some a)]).run Tryz.prog w = .ok (.value (.tuple #[])) w := run_call_marked Tryz.func95 (by kernel_rfl) (by kernel_rfl) (by kernel_rfl) .acquire (by kernel_rfl) a w
theorem releaseMerge (a : Addr) (w : World) : (callFunc 97 #[.pointer (some a)]).run Tryz.prog w = .ok (.value (.tuple #[])) w := run_call_marked Tryz.func97 (by kernel_rfl) (by kernel_rfl) (by kernel_rfl) .releaseMerge (by kernel_rfl) a w

/-- '(*sync/atomic.Bool).Store(true)', entered as a deferred call: the cell holds 1. -/
theorem store_deferred (a : Addr) (x : Value) (u : FrameMode) (w : World) (hc : w.cell? a = some x) (hz : w.frozen? a = false) :
    CallsD Tryz.prog 87 #[.pointer (some a), .bool true] u w fun e u' w' => u' = u ∧ (e = .returned (.tuple #[]) ∧ w' = w.drew.setCell a (.int .u32 1)) := by
  have hc' : w.drew.cell? a = some x := by go_simp
  have hz' : w.drew.frozen? a = false := by go_simp
  have hst := run_call_store (P := Tryz.prog) Tryz.func90 (by kernel_rfl) (by kernel_rfl) (by kernel_rfl) (by kernel_rfl) (k := .u32) (y := 1) hc' hz'
  go_enter_d Tryz.func87, Tryz.ntmps87
  go_wp2
  go_region_calls
  all_goals (go_end0; exact ⟨rfl, rfl⟩)

/-- '(*sync.Mutex).Unlock', entered as a deferred call, the lock held and nobody waiting (state 1): state 0. -/
theorem unlock_deferred (a : Addr) (u : FrameMode) (w : World) (hc : w.cell? a = some (.int .i32 1)) (hz : w.frozen? a = false) :
    CallsD Tryz.prog 86 #[.pointer (some a)] u w fun e u' w' => u' = u ∧ (e = .returned (.tuple #[]) ∧ w' = w.setCell a (.int .i32 0)) := by
  have hd := disable
  have he := enable
  have hr := releaseMerge
  have hadd := run_call_add (P := Tryz.prog) Tryz.func98 (by kernel_rfl) (by kernel_rfl) (by kernel_rfl) .i32 (by kernel_rfl) (y := -1) (s := 0) hc hz (by simp [go_sem]; rfl)
  have hcv := run_convert_to_unsafe (P := Tryz.prog) (src := 133) (dst := 137) Tryz.underlying133 Tryz.underlying137 (by kernel_rfl) hc
  go_enter_d Tryz.func86, Tryz.ntmps86
  go_wp2
  go_end0
  go_wp2
  go_end0
  exact ⟨rfl, rfl⟩

/-- '(*sync.Mutex).Lock', the lock free (state 0): state 1. -/
theorem lock_free (a : Addr) (w : World) (hc : w.cell? a = some (.int .i32 0)) (hz : w.frozen? a = false) :
    Calls Tryz.prog 85 #[.pointer (some a)] w fun e w' => e = .returned (.tuple #[]) ∧ w' = w.setCell a (.int .i32 1) := by
  have hd := disable
  have he := enable
  have ha := acquire
  have hcas := run_call_cas_hit (P := Tryz.prog) Tryz.func93 (by kernel_rfl) (by kernel_rfl) (by kernel_rfl) .i32 (by kernel_rfl) (y := 1) hc hz
  have hc' : (w.setCell a (.int .i32 1)).cell? a = some (.int .i32 1) := World.cell?_setCell_same w a _ hc
  have hcv := run_convert_to_unsafe (P := Tryz.prog) (src := 133) (dst := 137) Tryz.underlying133 Tryz.underlying137 (by kernel_rfl) hc'
  go_enter Tryz.func85, Tryz.ntmps85
  go_wp2
  first | go_end0 | (simp only [Exit.inBlock, Exit.then]; refine bodyPost_ret (results_none rfl _ _ _) rfl ?_) | refine bodyPost_ret (results_none rfl _ _ _) rfl ?_
  go_wp2
  go_end0
  exact ⟨rfl, rfl⟩

/-- '(*sync.Once).Do', done already: the function is not called. -/
theorem do_done (a : Addr) (d : Int) (hd : ¬ d = 0) (fv : Value) (w : World) (h0 : w.cell? a = some (.int .u32 d)) :
    Calls Tryz.prog 80 #[.pointer (some a), fv] w fun e w' => e = .returned (.tuple #[]) ∧ w' = w := by
  have hl := run_call_load (P := Tryz.prog) Tryz.func84 (by kernel_rfl) (by kernel_rfl) (by kernel_rfl) .u32 (by kernel_rfl) h0
  have hnot : ∀ (x : Bool) (w : World), (Op.unary .not (.bool x)).run Tryz.prog w = .ok (.bool (!x)) w := fun _ _ => rfl
  have hd' : (d != 0) = true := by simp [hd]
  go_enter Tryz.func80, Tryz.ntmps80
  go_wp2
  go_end0
  exact ⟨rfl, rfl⟩
end Go.Proofs.YthobbekocimcnaaGreat
end
section
set_option linter.unusedSimpArgs false
namespace Go.Proofs.YthobbekocimcnaaGreat
set_option maxRecDepth 100000
open Go.RowKit

/-- a block that is an answer: not made, or made with a name -/
@[reducible] def ansObj (done : Int) (s : ByteArray) : Obj := .cells #[.int .u32 done, .int .i32 0, .int .u32 0, .string s] 116
/-- which name, if one -/
@[reducible] def told1 : Option ByteArray → Obj
  | none => ansObj 0 ⟨#[]⟩
  | some s => ansObj 1 s
def ask1 (st : Option ByteArray) (s : ByteArray) (may : Bool) : Option ByteArray :=
  match st with
  | some r => some r
  | none => if may then none else some s

set_option maxHeartbeats 1600000 in
theorem cslow_any (b nb pb : Nat) (hk : b ≠ nb) (hp : b ≠ pb) (s : ByteArray) (w : World)
    (hb : w.heap[b]? = some (ansObj 0 ⟨#[]⟩))
    (hnb : w.heap[nb]? = some (.cells #[.string s] 9))
    (hpb : w.heap[pb]? = some (.cells #[.pointer (some ⟨b, 0, none⟩)] 123)) :
    Calls Tryz.prog 83 #[.pointer (some ⟨b, 0, none⟩), .func (.func 81) #[] #[.pointer (some ⟨nb, 0, none⟩), .pointer (some ⟨pb, 0, none⟩)]] w fun e w' => e = .returned (.tuple #[]) ∧
      w'.heap[b]? = some (ansObj 1 s) ∧ w.grownBy w' (some b) := by
  -- the world in which the lock is held
  have hb1 := at_set hb 1 (.int .i32 1)
  have hnb1 := at_set_other (p := ⟨b, 1, none⟩) hnb (fun h => hk h.symm) (.int .i32 1)
  have hpb1 := at_set_other (p := ⟨b, 1, none⟩) hpb (fun h => hp h.symm) (.int .i32 1)
  have c1 : w.cell? ⟨b, 1, none⟩ = some (.int .i32 0) := at_cell hb 1
  have f1 : w.frozen? ⟨b, 1, none⟩ = false := at_free hb 1
  have hl := run_call_load (P := Tryz.prog) Tryz.func84 (by kernel_rfl) (by kernel_rfl) (by kernel_rfl) .u32 (by kernel_rfl) (w := w.setCell ⟨b, 1, none⟩ (.int .i32 1)) (a := ⟨b, 0, none⟩) (x := 0) (at_cell hb1 0)
  have hnot : ∀ (x : Bool) (w : World), (Op.unary .not (.bool x)).run Tryz.prog w = .ok (.bool (!x)) w := fun _ _ => rfl
  have p0 : (w.setCell ⟨b, 1, none⟩ (.int .i32 1)).cell? ⟨pb, 0, none⟩ = some (.pointer (some ⟨b, 0, none⟩)) := at_cell hpb1 0
  have q0 : (w.setCell ⟨b, 1, none⟩ (.int .i32 1)).cell? ⟨nb, 0, none⟩ = some (.string s) := at_cell hnb1 0
  have x3 : (w.setCell ⟨b, 1, none⟩ (.int .i32 1)).cell? ⟨b, 3, none⟩ = some (.string ⟨#[]⟩) := at_cell hb1 3
  have fz : ∀ i, w.frozen? ⟨b, i, none⟩ = false := fun i => at_free hb i
  have HB := hid hb; have HB1 := hid hb1
  clear hb hnb hpb hb1 hnb1 hpb1
  go_enter_defers Tryz.func83, Tryz.ntmps83
  go_wp2_with (go_at_call 85; refine (lock_free ⟨b, 1, none⟩ _ (by go_simp) (by go_simp)).mono ?_; rintro e w' ⟨rfl, rfl⟩)
  go_wp2
  go_end0
  go_wp2
  have hb3 := at_set HB1.out 3 (.string s)
  have hb4 := at_set (at_drew hb3) 0 (.int .u32 1)
  have hb5 := at_set hb4 1 (.int .i32 0)
  have hg3 := gb_row (gb_row (.refl w (some b)) (p := ⟨b, 1, none⟩) rfl (.int .i32 1)) (p := ⟨b, 3, none⟩) rfl (.string s)
  have hg5 := gb_row (gb_row (gb_drew hg3) (p := ⟨b, 0, none⟩) rfl (.int .u32 1)) (p := ⟨b, 1, none⟩) rfl (.int .i32 0)
  -- the door: two deferred calls, the last laid first
  refine leaves_cons (f := 87) (args := #[.pointer (some ⟨b, 0, none⟩), .bool true]) (by simp) (by simp [go_sem]) ?_
  refine (store_deferred ⟨b, 0, none⟩ (.int .u32 0) .returning _ (at_cell hb3 0) (at_free hb3 0)).mono ?_
  rintro e u' w'' ⟨rfl, rfl, rfl⟩
  refine leaves_cons (f := 86) (args := #[.pointer (some ⟨b, 1, none⟩)]) (by simp [settle]) (by simp [go_sem]) ?_
  refine (unlock_deferred ⟨b, 1, none⟩ _ _ (at_cell hb4 1) (at_free hb4 1)).mono ?_
  rintro e u' w'' ⟨rfl, rfl, rfl⟩
  clear hb3 hb4 hg3 x3 p0 q0 hl HB HB1 fz c1 f1 hnot
  have H5 := hid hb5; have G5 := hid hg5; clear hb5 hg5
  simp [Go.Leaves, settle, results, Tryz.results83]
  exact ⟨H5.out, G5.out⟩

set_option maxHeartbeats 800000 in
theorem cdo_first (b nb pb : Nat) (hk : b ≠ nb) (hp : b ≠ pb) (s : ByteArray) (w : World)
    (hb : w.heap[b]? = some (ansObj 0 ⟨#[]⟩))
    (hnb : w.heap[nb]? = some (.cells #[.string s] 9))
    (hpb : w.heap[pb]? = some (.cells #[.pointer (some ⟨b, 0, none⟩)] 123)) :
    Calls Tryz.prog 80 #[.pointer (some ⟨b, 0, none⟩), .func (.func 81) #[] #[.pointer (some ⟨nb, 0, none⟩), .pointer (some ⟨pb, 0, none⟩)]] w fun e w' => e = .returned (.tuple #[]) ∧
      w'.heap[b]? = some (ansObj 1 s) ∧ w.grownBy w' (some b) := by
  have hl := run_call_load (P := Tryz.prog) Tryz.func84 (by kernel_rfl) (by kernel_rfl) (by kernel_rfl) .u32 (by kernel_rfl) (w := w) (a := ⟨b, 0, none⟩) (x := 0) (at_cell hb 0)
  have hnot : ∀ (x : Bool) (w : World), (Op.unary .not (.bool x)).run Tryz.prog w = .ok (.bool (!x)) w := fun _ _ => rfl
  have HB := hid hb; have HK := hid hnb; have HP := hid hpb
  clear hb hnb hpb
  go_enter Tryz.func80, Tryz.ntmps80
  go_wp2_with (go_at_call 82; go_in)
  refine (cslow_any b nb pb hk hp s _ HB.out HK.out HP.out).mono ?_
  rintro e w' ⟨rfl, h1, h2⟩
  have H1 := hid h1; clear h1
  go_wp2
  go_end0
  exact ⟨rfl, H1.out, h2⟩

set_option maxHeartbeats 800000 in
/-- a part that may be -/
theorem ask_may (b : Nat) (s : ByteArray) (w : World) :
    Calls Tryz.prog 67 #[.pointer (some ⟨b, 0, none⟩), .string s, .bool true] w fun e w' => e = .returned (.tuple #[]) ∧ w.grownBy w' none := by
  have hnot : ∀ (x : Bool) (w : World), (Op.unary .not (.bool x)).run Tryz.prog w = .ok (.bool (!x)) w := fun _ _ => rfl
  go_enter Tryz.func67, Tryz.ntmps67
  go_wp2_with fail
  go_end0
  exact ⟨rfl, gb_alloc (gb_alloc (.refl _ _) _) _⟩

set_option maxHeartbeats 800000 in
/-- the first part that may not be -/
theorem ask_first (b : Nat) (s : ByteArray) (w : World) (hb : w.heap[b]? = some (ansObj 0 ⟨#[]⟩)) :
    Calls Tryz.prog 67 #[.pointer (some ⟨b, 0, none⟩), .string s, .bool false] w fun e w' => e = .returned (.tuple #[]) ∧
      w'.heap[b]? = some (ansObj 1 s) ∧ w.grownBy w' (some b) := by
  have hmf : ∀ (fn : Fn) (first cap : Array Value) (w : World), (Instr.makeFunc fn first cap).run Tryz.prog w = .ok (.func fn first cap) w := fun _ _ _ _ => rfl
  have hnot : ∀ (x : Bool) (w : World), (Op.unary .not (.bool x)).run Tryz.prog w = .ok (.bool (!x)) w := fun _ _ => rfl
  have hlt := at_lt hb
  have HB := hid hb
  clear hb
  go_enter Tryz.func67, Tryz.ntmps67
  go_wp2_with fail
  refine (cdo_first b (w.heap.size + 1) w.heap.size (by omega) (by omega) s _ (at_alloc (at_alloc HB.out _) _) (by simpa using at_new (w.alloc _) _) (at_alloc (at_new w _) _)).mono ?_
  rintro e w' ⟨rfl, h1, h2⟩
  have H1 := hid h1; clear h1
  go_wp2
  go_end0
  exact ⟨rfl, H1.out, gb_trans (gb_alloc (gb_alloc (.refl _ _) _) _) h2 (.inr (.inl rfl))⟩

set_option maxHeartbeats 800000 in
/-- a later part that may not be -/
theorem ask_later (b : Nat) (s r : ByteArray) (w : World) (hb : w.heap[b]? = some (ansObj 1 r)) :
    Calls Tryz.prog 67 #[.pointer (some ⟨b, 0, none⟩), .string s, .bool false] w fun e w' => e = .returned (.tuple #[]) ∧ w.grownBy w' none := by
  have hmf : ∀ (fn : Fn) (first cap : Array Value) (w : World), (Instr.makeFunc fn first cap).run Tryz.prog w = .ok (.func fn first cap) w := fun _ _ _ _ => rfl
  have hnot : ∀ (x : Bool) (w : World), (Op.unary .not (.bool x)).run Tryz.prog w = .ok (.bool (!x)) w := fun _ _ => rfl
  have HB := hid hb
  clear hb
  go_enter Tryz.func67, Tryz.ntmps67
  go_wp2_with fail
  refine (do_done ⟨b, 0, none⟩ 1 (by decide) _ _ (at_cell (at_alloc (at_alloc HB.out _) _) 0)).mono ?_
  rintro e w' ⟨rfl, rfl⟩
  go_wp2
  go_end0
  exact ⟨rfl, gb_alloc (gb_alloc (.refl _ _) _) _⟩

/-- a part is asked -/
theorem ask_any (b : Nat) (s : ByteArray) (may : Bool) (st : Option ByteArray) (w : World) (hb : w.heap[b]? = some (told1 st)) :
    Calls Tryz.prog 67 #[.pointer (some ⟨b, 0, none⟩), .string s, .bool may] w fun e w' => e = .returned (.tuple #[]) ∧
      w'.heap[b]? = some (told1 (ask1 st s may)) ∧ w.grownBy w' (some b) := by
  have weak : ∀ {a c : World}, a.grownBy c none → a.grownBy c (some b) := fun h => ⟨h.os, h.tape, h.output, h.size, fun i hi _ => h.block i hi (by simp)⟩
  cases may with
  | true =>
    refine (ask_may b s w).mono ?_
    rintro e w' ⟨rfl, hg⟩
    refine ⟨rfl, ?_, weak hg⟩
    rw [at_grown hb hg (by simp)]
    cases st <;> rfl
  | false =>
    cases st with
    | none => exact ask_first b s w hb
    | some r =>
      refine (ask_later b s r w hb).mono ?_
      rintro e w' ⟨rfl, hg⟩
      exact ⟨rfl, at_grown hb hg (by simp), weak hg⟩
end Go.Proofs.YthobbekocimcnaaGreat
end
