/-
  Contracts for the document's own collector: a new one, and the next envelope. The condition of a call: the object lies there.
  Contracts for Sample, Beat, Rotate, of package seal and of the document's own collector. The condition of a call: the object lies there; or it is nil.
  What a walk keeps of the world: blocks known whole, slices that read as bytes; kept by whatever makes memory. No condition. Nothing of the program's functions is named here.
  Messages, keys, tags in blocks of their own; get and split of what was put and sealed. No condition.
  What a walk keeps beside a collector that changes: blocks known whole, bytes of the call's own, the object. No condition.
  Two pairs of words are the same just if both words are: '==' of arrays of two. No condition.
  '==' of two messages: part for part. No condition.
  Contract: the law's own examples: the program tells what the document says of a few envelopes. No condition.
  A number that came in, taken as one without a sign, modulo a small one. No condition. Nothing of the program is named here.
  A number that came in, taken as one without a sign, modulo a small one, as an integer. No condition. Nothing of the program is named here.
-/
import Derived.Test.YtngfnigfkabihaaZ4
import Derived.StillTailTactics
import Derived.WalkSpells
import Derived.WalkLawsBesides
import Derived.Deep.RegionHeld3
import Derived.Test.YtngfnigfkabihaaZ1
import Derived.Test.YtngfnigfkabihaaZ2
import Derived.Test.YtngfnigfkabihaaZ3
import Derived.ChangeKeysEq
import Derived.Laws.StructEq
import Derived.Deep.CutRange
import Derived.WalkKit
section
set_option linter.unusedSimpArgs false
set_option linter.unusedVariables false
namespace Go.Proofs.Ytngfnigfkabihaa
set_option maxRecDepth 100000
open Go.RowKit


/-- a new one -/
def MadeT (w : World) (s : Sl) (e : Ending) (w' : World) : Prop := ∃ b, e = .returned (.pointer (some ⟨b, 0, none⟩)) ∧ SlAt 40 w' b s ∧ w.grownBy w' none ∧ w.heap.size ≤ b
set_option maxHeartbeats 1600000 in
theorem rsnew_ok (seed : BitVec 64) (who : Int) (h0 : 0 ≤ who) (h1 : who ≤ 15) (w : World) :
    Calls Try.prog 11 #[.int .u64 (q seed), .int .i64 who] w (MadeT w (.new seed who)) := by
  have L : Hid (SlAt 40 (w.alloc (.cells #[.int .u64 (q seed), .int .i64 who, .int .i64 0, .int .i64 0] 40)) w.heap.size (.new seed who)) := hid ⟨at_new w _, sl_new_ok seed h0 h1⟩
  have d0 : decide (who < 0) = false := by simp; omega
  have d1 : decide (16 ≤ who) = false := by simp; omega
  have d2 : decide (15 < who) = false := by simp; omega
  clear h0 h1
  go_enter Try.func11, Try.ntmps11
  go_wp2_with fail
  go_ret
  exact ⟨_, rfl, L.out, gb_alloc (.refl w none) _, Nat.le_refl _⟩
set_option maxHeartbeats 1600000 in
theorem rsnew_nil (seed : BitVec 64) (who : Int) (h : ¬ (0 ≤ who ∧ who ≤ 15)) (w : World) :
    Calls Try.prog 11 #[.int .u64 (q seed), .int .i64 who] w fun e w' => e = .returned (.pointer none) ∧ w = w' := by
  by_cases h0 : who < 0
  · have d0 : decide (who < 0) = true := by simpa using h0
    clear h h0
    go_enter Try.func11, Try.ntmps11
    go_wp2_with fail
    go_ret
    exact ⟨rfl, rfl⟩
  · have d0 : decide (who < 0) = false := by simpa using h0
    have d1 : decide (16 ≤ who) = true := by simp; omega
    have d2 : decide (15 < who) = true := by simp; omega
    clear h h0
    go_enter Try.func11, Try.ntmps11
    go_wp2_with fail
    go_ret
    exact ⟨rfl, rfl⟩

set_option maxHeartbeats 3200000 in
theorem rnext_yes {b : Nat} {s : Sl} (m : Mg) (hm : mayOf (s.msg m) = true) (w : World) (H : SlAt 40 w b s) :
    Calls Try.prog 45 #[.pointer (some ⟨b, 0, none⟩), mg m] w (LeavesR w b (sealOf s.k.a s.k.b (s.msg m)) 0 ⟨s.seed, s.who, s.gen, s.seq + 1⟩) := by
  have E : Hid (∀ w, Calls Try.prog 33 #[.int .u64 (q s.seed), .int .i64 s.who, .int .i64 s.gen] w fun e w' => e = .returned (pair s.k.a s.k.b) ∧ w.grownBy w' none) := hid (fun w => refof_any s.seed s.who s.gen w)
  have S := hid (fun w => rseal_good s.k.a s.k.b (s.msg m) hm w)
  have K := hid (ks_new m H)
  have L : Hid (∀ W, KS 40 w w.heap.size b s (s.msg m) W → LeavesR w b (sealOf s.k.a s.k.b (s.msg m)) 0 ⟨s.seed, s.who, s.gen, s.seq + 1⟩ (.returned (.tuple #[.string ⟨(sealOf s.k.a s.k.b (s.msg m)).toArray⟩, .int .i64 0])) (W.setCell ⟨b, 3, none⟩ (.int .i64 (s.seq + 1)))) := hid (fun W hk => ⟨rfl, (hk.ob.putSeq (by have := hk.ob.ok.q0; omega) (may_of hm).2.2.2.1.2), (chg_grown hk.gr [b]).set (.inl (by simp)) _⟩)
  have U := hid (fun W (h : KS 40 w w.heap.size b s m W) => h.put)
  have q0 := H.ok.q0; have q1 := H.ok.q1
  have s1 : IntKind.i64.wrap (s.seq + 1) = s.seq + 1 := IntWalk.i64_in _ (by omega)
  clear q0 q1 hm H
  obtain ⟨mm, hmm⟩ : ∃ mm, s.msg m = mm := ⟨_, rfl⟩
  rw [hmm] at L S U ⊢
  obtain ⟨ll, hll⟩ : ∃ ll, sealOf s.k.a s.k.b mm = ll := ⟨_, rfl⟩
  rw [hll] at S L ⊢
  clear hll
  clear hmm
  generalize s.k.a = ka at *
  generalize s.k.b = kb at *
  go_enter Try.func45, Try.ntmps45
  go_wp2_with fail
  refine wp_gen (fun wx => KS 40 w w.heap.size b s m wx) K.out ?_
  clear K
  intro wx kx
  obtain ⟨c0, c1, c2, c3, f2, f3⟩ := kx.ob.cells
  obtain ⟨o1, o3, g1, g3⟩ := kx.own
  have KX := hid kx; clear kx
  have KU := hid (U.out _ KX.out.drew)
  have NE := hid KX.out.ne
  have hh := KX.out.ob.drew.keep
  go_region_held3 (fun w' => w'.cell? ⟨b, 1, none⟩ = some (.int .i64 s.who) ∧ w'.cell? ⟨b, 3, none⟩ = some (.int .i64 s.seq) ∧ SlAt 40 w' b s) ((refine SlAt.keep ?_; (repeat (first | assumption | with_reducible exact KX.out.ob | with_reducible refine SlAt.drew ?_ | with_reducible refine SlAt.other ?_ _ NE.out)))) (first | assumption)
  clear hh NE
  go_wp2_with fail
  clear c0 c1 c2 c3 f2 f3 o1 o3 g1 g3
  refine wp_gen (fun wy => KS 40 w w.heap.size b s mm wy) (by first | exact KU.out | exact KU.out.drew) ?_
  clear KU KX U
  intro wy ky
  have KY := hid ky; clear ky
  refine wp_region_held_drew (S := (fun w' => (KS 40 w w.heap.size b s mm w'))) (by kernel_rfl) KY.out.drew (fun hHeld => ?_)
  try dsimp only at hHeld
  refine' wpAnyH_take (i := 0) (v := _) rfl (by kernel_rfl) (by kernel_rfl) (by kernel_rfl) (fun _ _ _ h => h) (Or.inl ⟨by rfl, ?_⟩) hHeld ?_
  rotate_left
  · (intro w hSw; (try dsimp only at hSw); go_simp; try with_reducible rfl)
  try simp only [Act.put, List.setIfInBounds_toArray, List.set_cons_zero, List.set_cons_succ, List.getElem_toArray, List.getElem_cons_succ, List.getElem_cons_zero]
  refine' wpAnyH_take (i := 1) (v := _) rfl (by kernel_rfl) (by kernel_rfl) (by kernel_rfl) (fun _ _ _ h => h) (Or.inl ⟨by rfl, ?_⟩) hHeld ?_
  rotate_left
  · (intro w hSw; (try dsimp only at hSw); go_simp; try with_reducible rfl)
  try simp only [Act.put, List.setIfInBounds_toArray, List.set_cons_zero, List.set_cons_succ, List.getElem_toArray, List.getElem_cons_succ, List.getElem_cons_zero]
  refine' wpAnyH_take (i := 2) (v := _) rfl (by kernel_rfl) (by kernel_rfl) (by kernel_rfl) (fun _ _ _ h => h) (Or.inl ⟨by rfl, ?_⟩) hHeld ?_
  rotate_left
  · (intro w hSw; (try dsimp only at hSw); go_simp; try with_reducible rfl)
  try simp only [Act.put, List.setIfInBounds_toArray, List.set_cons_zero, List.set_cons_succ, List.getElem_toArray, List.getElem_cons_succ, List.getElem_cons_zero]
  refine' wpAnyH_take (i := 3) (v := _) rfl (by kernel_rfl) (by kernel_rfl) (by kernel_rfl) (fun _ _ _ h => h) (Or.inl ⟨by rfl, ?_⟩) hHeld ?_
  rotate_left
  · (intro w hSw; (try dsimp only at hSw); have kk := hSw; obtain ⟨c0, c1, c2, c3, f2, f3⟩ := kk.ob.cells; go_simp; try with_reducible rfl)
  try simp only [Act.put, List.setIfInBounds_toArray, List.set_cons_zero, List.set_cons_succ, List.getElem_toArray, List.getElem_cons_succ, List.getElem_cons_zero]
  refine' wpAnyH_take (i := 4) (v := _) rfl (by kernel_rfl) (by kernel_rfl) (by kernel_rfl) (fun _ _ _ h => h) (Or.inl ⟨by rfl, ?_⟩) hHeld ?_
  rotate_left
  · (intro w hSw; (try dsimp only at hSw); go_simp; try with_reducible rfl)
  try simp only [Act.put, List.setIfInBounds_toArray, List.set_cons_zero, List.set_cons_succ, List.getElem_toArray, List.getElem_cons_succ, List.getElem_cons_zero]
  refine' wpAnyH_take (i := 5) (v := _) rfl (by kernel_rfl) (by kernel_rfl) (by kernel_rfl) (fun _ _ _ h => h) (Or.inl ⟨by rfl, ?_⟩) hHeld ?_
  rotate_left
  · (intro w hSw; (try dsimp only at hSw); go_simp; try with_reducible rfl)
  try simp only [Act.put, List.setIfInBounds_toArray, List.set_cons_zero, List.set_cons_succ, List.getElem_toArray, List.getElem_cons_succ, List.getElem_cons_zero]
  refine' wpAnyH_take (i := 6) (v := _) rfl (by kernel_rfl) (by kernel_rfl) (by kernel_rfl) (fun _ _ _ h => h) (Or.inl ⟨by rfl, ?_⟩) hHeld ?_
  rotate_left
  · (intro w hSw; (try dsimp only at hSw); go_simp; try with_reducible rfl)
  try simp only [Act.put, List.setIfInBounds_toArray, List.set_cons_zero, List.set_cons_succ, List.getElem_toArray, List.getElem_cons_succ, List.getElem_cons_zero]
  refine' wpAnyH_take (i := 7) (v := _) rfl (by kernel_rfl) (by kernel_rfl) (by kernel_rfl) (fun _ _ _ h => h) (Or.inl ⟨by rfl, ?_⟩) hHeld ?_
  rotate_left
  · (intro w hSw; (try dsimp only at hSw); have kk := hSw; obtain ⟨c0, c1, c2, c3, f2, f3⟩ := kk.ob.cells; go_simp; try with_reducible rfl)
  try simp only [Act.put, List.setIfInBounds_toArray, List.set_cons_zero, List.set_cons_succ, List.getElem_toArray, List.getElem_cons_succ, List.getElem_cons_zero]
  refine' wpAnyH_take (i := 8) (v := _) rfl (by kernel_rfl) (by kernel_rfl) (by kernel_rfl) (fun _ _ _ h => h) (Or.inl ⟨by rfl, ?_⟩) hHeld ?_
  rotate_left
  · (intro w hSw; (try dsimp only at hSw); go_simp; try with_reducible rfl)
  try simp only [Act.put, List.setIfInBounds_toArray, List.set_cons_zero, List.set_cons_succ, List.getElem_toArray, List.getElem_cons_succ, List.getElem_cons_zero]
  refine' wpAnyH_take (i := 9) (v := _) rfl (by kernel_rfl) (by kernel_rfl) (by kernel_rfl) (fun _ _ _ h => h) (Or.inl ⟨by rfl, ?_⟩) hHeld ?_
  rotate_left
  · (intro w hSw; (try dsimp only at hSw); go_simp; try with_reducible rfl)
  try simp only [Act.put, List.setIfInBounds_toArray, List.set_cons_zero, List.set_cons_succ, List.getElem_toArray, List.getElem_cons_succ, List.getElem_cons_zero]
  refine' wpAnyH_take (i := 10) (v := _) rfl (by kernel_rfl) (by kernel_rfl) (by kernel_rfl) (fun _ _ _ h => h) (Or.inl ⟨by rfl, ?_⟩) hHeld ?_
  rotate_left
  · (intro w hSw; (try dsimp only at hSw); go_simp; try with_reducible rfl)
  try simp only [Act.put, List.setIfInBounds_toArray, List.set_cons_zero, List.set_cons_succ, List.getElem_toArray, List.getElem_cons_succ, List.getElem_cons_zero]
  refine' wpAnyH_take (i := 11) (v := _) rfl (by kernel_rfl) (by kernel_rfl) (by kernel_rfl) (fun _ _ _ h => h) (Or.inl ⟨by rfl, ?_⟩) hHeld ?_
  rotate_left
  · (intro w hSw; (try dsimp only at hSw); have kk := hSw; obtain ⟨c0, c1, c2, c3, f2, f3⟩ := kk.ob.cells; go_simp; try with_reducible rfl)
  try simp only [Act.put, List.setIfInBounds_toArray, List.set_cons_zero, List.set_cons_succ, List.getElem_toArray, List.getElem_cons_succ, List.getElem_cons_zero]
  refine' wpAnyH_take (i := 13) (v := _) rfl (by kernel_rfl) (by kernel_rfl) (by kernel_rfl) (fun _ _ _ h => h) (Or.inl ⟨by rfl, ?_⟩) hHeld ?_
  rotate_left
  · (intro w hSw; (try dsimp only at hSw); (try simp only [List.getElem_toArray, List.getElem_cons_succ, List.getElem_cons_zero]); refine exec_row (x := .tmp 3) hSw.box Try.underlying46 rfl (by kernel_rfl) ?_ ?_ <;> rfl)
  try simp only [Act.put, List.setIfInBounds_toArray, List.set_cons_zero, List.set_cons_succ, List.getElem_toArray, List.getElem_cons_succ, List.getElem_cons_zero]
  refine wpAnyH_ready (rs := [12]) (by kernel_rfl) (by simp) ?_
  refine AllReadyH.cons (o := _) rfl (fun K hK => ?_) AllReadyH.nil
  try simp only [List.getElem_toArray, List.getElem_cons_succ, List.getElem_cons_zero]
  go_simp
  have hH2 := hHeld
  have kk := hH2
  refine (E.out _).mono ?_
  rintro e w1012 ⟨rfl, hg⟩
  have L12 := hid (show (KS 40 w w.heap.size b s mm w1012) from kk.grown hg)
  clear hHeld hg kk
  go_wp2_with fail
  refine hK.out _ _ ?_ (fun hHeld => ?_)
  · exact L12.out
  clear hK K
  try dsimp only at hHeld
  try simp only [Act.put, List.setIfInBounds_toArray, List.set_cons_zero, List.set_cons_succ, List.getElem_toArray, List.getElem_cons_succ, List.getElem_cons_zero]
  refine wpAnyH_ready (rs := [14]) (by kernel_rfl) (by simp) ?_
  refine AllReadyH.cons (o := _) rfl (fun K hK => ?_) AllReadyH.nil
  try simp only [List.getElem_toArray, List.getElem_cons_succ, List.getElem_cons_zero]
  go_simp
  have hH2 := hHeld
  have kk := hH2
  refine (S.out _).mono ?_
  rintro e w1014 ⟨rfl, hg⟩
  have L14 := hid (show (KS 40 w w.heap.size b s mm w1014) from kk.grown hg)
  clear hHeld hg kk
  go_wp2_with fail
  refine hK.out _ _ ?_ (fun hHeld => ?_)
  · exact L14.out
  clear hK K
  try dsimp only at hHeld
  try simp only [Act.put, List.setIfInBounds_toArray, List.set_cons_zero, List.set_cons_succ, List.getElem_toArray, List.getElem_cons_succ, List.getElem_cons_zero]
  refine' wpAnyH_take (i := 15) (v := _) rfl (by kernel_rfl) (by kernel_rfl) (by kernel_rfl) (fun _ _ _ h => h) (Or.inl ⟨by rfl, ?_⟩) hHeld ?_
  rotate_left
  · (intro w hSw; (try dsimp only at hSw); go_simp; try with_reducible rfl)
  try simp only [Act.put, List.setIfInBounds_toArray, List.set_cons_zero, List.set_cons_succ, List.getElem_toArray, List.getElem_cons_succ, List.getElem_cons_zero]
  refine' wpAnyH_take (i := 16) (v := _) rfl (by kernel_rfl) (by kernel_rfl) (by kernel_rfl) (fun _ _ _ h => h) (Or.inl ⟨by rfl, ?_⟩) hHeld ?_
  rotate_left
  · (intro w hSw; (try dsimp only at hSw); go_simp; try with_reducible rfl)
  try simp only [Act.put, List.setIfInBounds_toArray, List.set_cons_zero, List.set_cons_succ, List.getElem_toArray, List.getElem_cons_succ, List.getElem_cons_zero]
  refine' wpAnyH_take (i := 17) (v := _) rfl (by kernel_rfl) (by kernel_rfl) (by kernel_rfl) (fun _ _ _ h => h) (Or.inl ⟨by rfl, ?_⟩) hHeld ?_
  rotate_left
  · (intro w hSw; (try dsimp only at hSw); go_simp; try with_reducible rfl)
  try simp only [Act.put, List.setIfInBounds_toArray, List.set_cons_zero, List.set_cons_succ, List.getElem_toArray, List.getElem_cons_succ, List.getElem_cons_zero]
  refine' wpAnyH_take (i := 18) (v := _) rfl (by kernel_rfl) (by kernel_rfl) (by kernel_rfl) (fun _ _ _ h => h) (Or.inl ⟨by rfl, ?_⟩) hHeld ?_
  rotate_left
  · (intro w hSw; (try dsimp only at hSw); go_simp; try with_reducible rfl)
  try simp only [Act.put, List.setIfInBounds_toArray, List.set_cons_zero, List.set_cons_succ, List.getElem_toArray, List.getElem_cons_succ, List.getElem_cons_zero]
  refine' wpAnyH_take (i := 19) (v := _) rfl (by kernel_rfl) (by kernel_rfl) (by kernel_rfl) (fun _ _ _ h => h) (Or.inl ⟨by rfl, ?_⟩) hHeld ?_
  rotate_left
  · (intro w hSw; (try dsimp only at hSw); go_simp; try with_reducible rfl)
  try simp only [Act.put, List.setIfInBounds_toArray, List.set_cons_zero, List.set_cons_succ, List.getElem_toArray, List.getElem_cons_succ, List.getElem_cons_zero]
  refine wpAnyH_done (by kernel_rfl) ?_ _
  have kk := hHeld
  obtain ⟨c0, c1, c2, c3, f2, f3⟩ := kk.ob.cells
  have KZ := hid kk; clear kk
  go_wp2_with fail
  go_ret2
  exact L.out _ KZ.out

set_option maxHeartbeats 3200000 in
theorem rnext_no {b : Nat} {s : Sl} (m : Mg) (hm : mayOf (s.msg m) = false) (w : World) (H : SlAt 40 w b s) :
    Calls Try.prog 45 #[.pointer (some ⟨b, 0, none⟩), mg m] w (LeavesR w b [] 1 s) := by
  have E : Hid (∀ w, Calls Try.prog 33 #[.int .u64 (q s.seed), .int .i64 s.who, .int .i64 s.gen] w fun e w' => e = .returned (pair s.k.a s.k.b) ∧ w.grownBy w' none) := hid (fun w => refof_any s.seed s.who s.gen w)
  have S := hid (fun w => rseal_bad s.k.a s.k.b (s.msg m) hm w)
  have K := hid (ks_new m H)
  have L : Hid (∀ W, KS 40 w w.heap.size b s (s.msg m) W → LeavesR w b [] 1 s (.returned (.tuple #[.string ⟨#[]⟩, .int .i64 1])) W) := hid (fun W hk => ⟨rfl, hk.ob, chg_grown hk.gr [b]⟩)
  have U := hid (fun W (h : KS 40 w w.heap.size b s m W) => h.put)
  have q0 := H.ok.q0; have q1 := H.ok.q1
  have s1 : IntKind.i64.wrap (s.seq + 1) = s.seq + 1 := IntWalk.i64_in _ (by omega)
  clear q0 q1 hm H
  obtain ⟨mm, hmm⟩ : ∃ mm, s.msg m = mm := ⟨_, rfl⟩
  rw [hmm] at L S U
  clear hmm
  generalize s.k.a = ka at *
  generalize s.k.b = kb at *
  go_enter Try.func45, Try.ntmps45
  go_wp2_with fail
  refine wp_gen (fun wx => KS 40 w w.heap.size b s m wx) K.out ?_
  clear K
  intro wx kx
  obtain ⟨c0, c1, c2, c3, f2, f3⟩ := kx.ob.cells
  obtain ⟨o1, o3, g1, g3⟩ := kx.own
  have KX := hid kx; clear kx
  have KU := hid (U.out _ KX.out.drew)
  have NE := hid KX.out.ne
  have hh := KX.out.ob.drew.keep
  go_region_held3 (fun w' => w'.cell? ⟨b, 1, none⟩ = some (.int .i64 s.who) ∧ w'.cell? ⟨b, 3, none⟩ = some (.int .i64 s.seq) ∧ SlAt 40 w' b s) ((refine SlAt.keep ?_; (repeat (first | assumption | with_reducible exact KX.out.ob | with_reducible refine SlAt.drew ?_ | with_reducible refine SlAt.other ?_ _ NE.out)))) (first | assumption)
  clear hh NE
  go_wp2_with fail
  clear c0 c1 c2 c3 f2 f3 o1 o3 g1 g3
  refine wp_gen (fun wy => KS 40 w w.heap.size b s mm wy) (by first | exact KU.out | exact KU.out.drew) ?_
  clear KU KX U
  intro wy ky
  have KY := hid ky; clear ky
  refine wp_region_held_drew (S := (fun w' => (KS 40 w w.heap.size b s mm w'))) (by kernel_rfl) KY.out.drew (fun hHeld => ?_)
  try dsimp only at hHeld
  refine' wpAnyH_take (i := 0) (v := _) rfl (by kernel_rfl) (by kernel_rfl) (by kernel_rfl) (fun _ _ _ h => h) (Or.inl ⟨by rfl, ?_⟩) hHeld ?_
  rotate_left
  · (intro w hSw; (try dsimp only at hSw); go_simp; try with_reducible rfl)
  try simp only [Act.put, List.setIfInBounds_toArray, List.set_cons_zero, List.set_cons_succ, List.getElem_toArray, List.getElem_cons_succ, List.getElem_cons_zero]
  refine' wpAnyH_take (i := 1) (v := _) rfl (by kernel_rfl) (by kernel_rfl) (by kernel_rfl) (fun _ _ _ h => h) (Or.inl ⟨by rfl, ?_⟩) hHeld ?_
  rotate_left
  · (intro w hSw; (try dsimp only at hSw); go_simp; try with_reducible rfl)
  try simp only [Act.put, List.setIfInBounds_toArray, List.set_cons_zero, List.set_cons_succ, List.getElem_toArray, List.getElem_cons_succ, List.getElem_cons_zero]
  refine' wpAnyH_take (i := 2) (v := _) rfl (by kernel_rfl) (by kernel_rfl) (by kernel_rfl) (fun _ _ _ h => h) (Or.inl ⟨by rfl, ?_⟩) hHeld ?_
  rotate_left
  · (intro w hSw; (try dsimp only at hSw); go_simp; try with_reducible rfl)
  try simp only [Act.put, List.setIfInBounds_toArray, List.set_cons_zero, List.set_cons_succ, List.getElem_toArray, List.getElem_cons_succ, List.getElem_cons_zero]
  refine' wpAnyH_take (i := 3) (v := _) rfl (by kernel_rfl) (by kernel_rfl) (by kernel_rfl) (fun _ _ _ h => h) (Or.inl ⟨by rfl, ?_⟩) hHeld ?_
  rotate_left
  · (intro w hSw; (try dsimp only at hSw); have kk := hSw; obtain ⟨c0, c1, c2, c3, f2, f3⟩ := kk.ob.cells; go_simp; try with_reducible rfl)
  try simp only [Act.put, List.setIfInBounds_toArray, List.set_cons_zero, List.set_cons_succ, List.getElem_toArray, List.getElem_cons_succ, List.getElem_cons_zero]
  refine' wpAnyH_take (i := 4) (v := _) rfl (by kernel_rfl) (by kernel_rfl) (by kernel_rfl) (fun _ _ _ h => h) (Or.inl ⟨by rfl, ?_⟩) hHeld ?_
  rotate_left
  · (intro w hSw; (try dsimp only at hSw); go_simp; try with_reducible rfl)
  try simp only [Act.put, List.setIfInBounds_toArray, List.set_cons_zero, List.set_cons_succ, List.getElem_toArray, List.getElem_cons_succ, List.getElem_cons_zero]
  refine' wpAnyH_take (i := 5) (v := _) rfl (by kernel_rfl) (by kernel_rfl) (by kernel_rfl) (fun _ _ _ h => h) (Or.inl ⟨by rfl, ?_⟩) hHeld ?_
  rotate_left
  · (intro w hSw; (try dsimp only at hSw); go_simp; try with_reducible rfl)
  try simp only [Act.put, List.setIfInBounds_toArray, List.set_cons_zero, List.set_cons_succ, List.getElem_toArray, List.getElem_cons_succ, List.getElem_cons_zero]
  refine' wpAnyH_take (i := 6) (v := _) rfl (by kernel_rfl) (by kernel_rfl) (by kernel_rfl) (fun _ _ _ h => h) (Or.inl ⟨by rfl, ?_⟩) hHeld ?_
  rotate_left
  · (intro w hSw; (try dsimp only at hSw); go_simp; try with_reducible rfl)
  try simp only [Act.put, List.setIfInBounds_toArray, List.set_cons_zero, List.set_cons_succ, List.getElem_toArray, List.getElem_cons_succ, List.getElem_cons_zero]
  refine' wpAnyH_take (i := 7) (v := _) rfl (by kernel_rfl) (by kernel_rfl) (by kernel_rfl) (fun _ _ _ h => h) (Or.inl ⟨by rfl, ?_⟩) hHeld ?_
  rotate_left
  · (intro w hSw; (try dsimp only at hSw); have kk := hSw; obtain ⟨c0, c1, c2, c3, f2, f3⟩ := kk.ob.cells; go_simp; try with_reducible rfl)
  try simp only [Act.put, List.setIfInBounds_toArray, List.set_cons_zero, List.set_cons_succ, List.getElem_toArray, List.getElem_cons_succ, List.getElem_cons_zero]
  refine' wpAnyH_take (i := 8) (v := _) rfl (by kernel_rfl) (by kernel_rfl) (by kernel_rfl) (fun _ _ _ h => h) (Or.inl ⟨by rfl, ?_⟩) hHeld ?_
  rotate_left
  · (intro w hSw; (try dsimp only at hSw); go_simp; try with_reducible rfl)
  try simp only [Act.put, List.setIfInBounds_toArray, List.set_cons_zero, List.set_cons_succ, List.getElem_toArray, List.getElem_cons_succ, List.getElem_cons_zero]
  refine' wpAnyH_take (i := 9) (v := _) rfl (by kernel_rfl) (by kernel_rfl) (by kernel_rfl) (fun _ _ _ h => h) (Or.inl ⟨by rfl, ?_⟩) hHeld ?_
  rotate_left
  · (intro w hSw; (try dsimp only at hSw); go_simp; try with_reducible rfl)
  try simp only [Act.put, List.setIfInBounds_toArray, List.set_cons_zero, List.set_cons_succ, List.getElem_toArray, List.getElem_cons_succ, List.getElem_cons_zero]
  refine' wpAnyH_take (i := 10) (v := _) rfl (by kernel_rfl) (by kernel_rfl) (by kernel_rfl) (fun _ _ _ h => h) (Or.inl ⟨by rfl, ?_⟩) hHeld ?_
  rotate_left
  · (intro w hSw; (try dsimp only at hSw); go_simp; try with_reducible rfl)
  try simp only [Act.put, List.setIfInBounds_toArray, List.set_cons_zero, List.set_cons_succ, List.getElem_toArray, List.getElem_cons_succ, List.getElem_cons_zero]
  refine' wpAnyH_take (i := 11) (v := _) rfl (by kernel_rfl) (by kernel_rfl) (by kernel_rfl) (fun _ _ _ h => h) (Or.inl ⟨by rfl, ?_⟩) hHeld ?_
  rotate_left
  · (intro w hSw; (try dsimp only at hSw); have kk := hSw; obtain ⟨c0, c1, c2, c3, f2, f3⟩ := kk.ob.cells; go_simp; try with_reducible rfl)
  try simp only [Act.put, List.setIfInBounds_toArray, List.set_cons_zero, List.set_cons_succ, List.getElem_toArray, List.getElem_cons_succ, List.getElem_cons_zero]
  refine' wpAnyH_take (i := 13) (v := _) rfl (by kernel_rfl) (by kernel_rfl) (by kernel_rfl) (fun _ _ _ h => h) (Or.inl ⟨by rfl, ?_⟩) hHeld ?_
  rotate_left
  · (intro w hSw; (try dsimp only at hSw); (try simp only [List.getElem_toArray, List.getElem_cons_succ, List.getElem_cons_zero]); refine exec_row (x := .tmp 3) hSw.box Try.underlying46 rfl (by kernel_rfl) ?_ ?_ <;> rfl)
  try simp only [Act.put, List.setIfInBounds_toArray, List.set_cons_zero, List.set_cons_succ, List.getElem_toArray, List.getElem_cons_succ, List.getElem_cons_zero]
  refine wpAnyH_ready (rs := [12]) (by kernel_rfl) (by simp) ?_
  refine AllReadyH.cons (o := _) rfl (fun K hK => ?_) AllReadyH.nil
  try simp only [List.getElem_toArray, List.getElem_cons_succ, List.getElem_cons_zero]
  go_simp
  have hH2 := hHeld
  have kk := hH2
  refine (E.out _).mono ?_
  rintro e w1012 ⟨rfl, hg⟩
  have L12 := hid (show (KS 40 w w.heap.size b s mm w1012) from kk.grown hg)
  clear hHeld hg kk
  go_wp2_with fail
  refine hK.out _ _ ?_ (fun hHeld => ?_)
  · exact L12.out
  clear hK K
  try dsimp only at hHeld
  try simp only [Act.put, List.setIfInBounds_toArray, List.set_cons_zero, List.set_cons_succ, List.getElem_toArray, List.getElem_cons_succ, List.getElem_cons_zero]
  refine wpAnyH_ready (rs := [14]) (by kernel_rfl) (by simp) ?_
  refine AllReadyH.cons (o := _) rfl (fun K hK => ?_) AllReadyH.nil
  try simp only [List.getElem_toArray, List.getElem_cons_succ, List.getElem_cons_zero]
  go_simp
  have hH2 := hHeld
  have kk := hH2
  refine (S.out _).mono ?_
  rintro e w1014 ⟨rfl, hg⟩
  have L14 := hid (show (KS 40 w w.heap.size b s mm w1014) from kk.grown hg)
  clear hHeld hg kk
  go_wp2_with fail
  refine hK.out _ _ ?_ (fun hHeld => ?_)
  · exact L14.out
  clear hK K
  try dsimp only at hHeld
  try simp only [Act.put, List.setIfInBounds_toArray, List.set_cons_zero, List.set_cons_succ, List.getElem_toArray, List.getElem_cons_succ, List.getElem_cons_zero]
  refine' wpAnyH_take (i := 15) (v := _) rfl (by kernel_rfl) (by kernel_rfl) (by kernel_rfl) (fun _ _ _ h => h) (Or.inl ⟨by rfl, ?_⟩) hHeld ?_
  rotate_left
  · (intro w hSw; (try dsimp only at hSw); go_simp; try with_reducible rfl)
  try simp only [Act.put, List.setIfInBounds_toArray, List.set_cons_zero, List.set_cons_succ, List.getElem_toArray, List.getElem_cons_succ, List.getElem_cons_zero]
  refine' wpAnyH_take (i := 16) (v := _) rfl (by kernel_rfl) (by kernel_rfl) (by kernel_rfl) (fun _ _ _ h => h) (Or.inl ⟨by rfl, ?_⟩) hHeld ?_
  rotate_left
  · (intro w hSw; (try dsimp only at hSw); go_simp; try with_reducible rfl)
  try simp only [Act.put, List.setIfInBounds_toArray, List.set_cons_zero, List.set_cons_succ, List.getElem_toArray, List.getElem_cons_succ, List.getElem_cons_zero]
  refine' wpAnyH_take (i := 17) (v := _) rfl (by kernel_rfl) (by kernel_rfl) (by kernel_rfl) (fun _ _ _ h => h) (Or.inl ⟨by rfl, ?_⟩) hHeld ?_
  rotate_left
  · (intro w hSw; (try dsimp only at hSw); go_simp; try with_reducible rfl)
  try simp only [Act.put, List.setIfInBounds_toArray, List.set_cons_zero, List.set_cons_succ, List.getElem_toArray, List.getElem_cons_succ, List.getElem_cons_zero]
  refine' wpAnyH_take (i := 18) (v := _) rfl (by kernel_rfl) (by kernel_rfl) (by kernel_rfl) (fun _ _ _ h => h) (Or.inl ⟨by rfl, ?_⟩) hHeld ?_
  rotate_left
  · (intro w hSw; (try dsimp only at hSw); go_simp; try with_reducible rfl)
  try simp only [Act.put, List.setIfInBounds_toArray, List.set_cons_zero, List.set_cons_succ, List.getElem_toArray, List.getElem_cons_succ, List.getElem_cons_zero]
  refine' wpAnyH_take (i := 19) (v := _) rfl (by kernel_rfl) (by kernel_rfl) (by kernel_rfl) (fun _ _ _ h => h) (Or.inl ⟨by rfl, ?_⟩) hHeld ?_
  rotate_left
  · (intro w hSw; (try dsimp only at hSw); go_simp; try with_reducible rfl)
  try simp only [Act.put, List.setIfInBounds_toArray, List.set_cons_zero, List.set_cons_succ, List.getElem_toArray, List.getElem_cons_succ, List.getElem_cons_zero]
  refine wpAnyH_done (by kernel_rfl) ?_ _
  have kk := hHeld
  obtain ⟨c0, c1, c2, c3, f2, f3⟩ := kk.ob.cells
  have KZ := hid kk; clear kk
  go_wp2_with fail
  go_ret2
  exact L.out _ KZ.out

theorem rnext_any {b : Nat} {s : Sl} (m : Mg) (w : World) (H : SlAt 40 w b s) :
    Calls Try.prog 45 #[.pointer (some ⟨b, 0, none⟩), mg m] w (LeavesR w b (s.out m) (s.code m) (s.step m)) := by
  unfold Sl.out Sl.code Sl.step putC sealB
  cases h : mayOf (s.msg m)
  · exact rnext_no m h w H
  · exact rnext_yes m h w H
end Go.Proofs.Ytngfnigfkabihaa
end
section
set_option linter.unusedSimpArgs false
set_option linter.unusedVariables false
namespace Go.Proofs.Ytngfnigfkabihaa
set_option maxRecDepth 100000
open Go.RowKit

set_option maxHeartbeats 1600000 in
theorem ssample_any {b : Nat} {s : Sl} (metric epoch value : Int) (w : World) (H : SlAt 83 w b s) :
    Calls Try.prog 13 #[.pointer (some ⟨b, 0, none⟩), .int .i64 metric, .int .i64 epoch, .int .i64 value] w (LeavesS w b (s.out (s.samp metric epoch value)) (s.code (s.samp metric epoch value)) (s.step (s.samp metric epoch value))) := by
  have C : Hid (Calls Try.prog 44 #[.pointer (some ⟨b, 0, none⟩), mg (⟨1, 0, s.gen, 0, epoch, value, metric⟩ : Mg)] w (LeavesS w b (s.out (s.samp metric epoch value)) (s.code (s.samp metric epoch value)) (s.step (s.samp metric epoch value)))) := hid (seal_any_s (s.samp metric epoch value) w H)
  have G := hid (sgen_any w H)
  clear H
  generalize s.out (s.samp metric epoch value) = l at C ⊢
  generalize s.code (s.samp metric epoch value) = c at C ⊢
  generalize s.step (s.samp metric epoch value) = s' at C ⊢
  go_enter Try.func13, Try.ntmps13
  go_wp2_with fail
  refine G.out.mono ?_
  rintro e w1 ⟨rfl, rfl⟩
  go_wp2_with (refine wpList_buildTo (ty := 46) (cs := ((⟨1, 0, s.gen, 0, epoch, value, metric⟩ : Mg)).cells) rfl rfl rfl (by kernel_rfl) ?_)
  refine C.out.mono ?_
  rintro e w1 ⟨v, rfl, ho, hs, hc⟩
  have HS := hid hs; have HC := hid hc; clear hs hc
  have HO := hid ho; clear ho
  go_wp2_with fail
  go_ret2
  exact ⟨v, rfl, HO.out, HS.out, HC.out⟩
set_option maxHeartbeats 1600000 in
theorem sbeat_any {b : Nat} {s : Sl} (epoch : Int) (w : World) (H : SlAt 83 w b s) :
    Calls Try.prog 15 #[.pointer (some ⟨b, 0, none⟩), .int .i64 epoch] w (LeavesS w b (s.out (s.beat epoch)) (s.code (s.beat epoch)) (s.step (s.beat epoch))) := by
  have C : Hid (Calls Try.prog 44 #[.pointer (some ⟨b, 0, none⟩), mg (⟨3, 0, s.gen, 0, epoch, 0, 0⟩ : Mg)] w (LeavesS w b (s.out (s.beat epoch)) (s.code (s.beat epoch)) (s.step (s.beat epoch)))) := hid (seal_any_s (s.beat epoch) w H)
  have G := hid (sgen_any w H)
  clear H
  generalize s.out (s.beat epoch) = l at C ⊢
  generalize s.code (s.beat epoch) = c at C ⊢
  generalize s.step (s.beat epoch) = s' at C ⊢
  go_enter Try.func15, Try.ntmps15
  go_wp2_with fail
  refine G.out.mono ?_
  rintro e w1 ⟨rfl, rfl⟩
  go_wp2_with (refine wpList_buildTo (ty := 46) (cs := ((⟨3, 0, s.gen, 0, epoch, 0, 0⟩ : Mg)).cells) rfl rfl rfl (by kernel_rfl) ?_)
  refine C.out.mono ?_
  rintro e w1 ⟨v, rfl, ho, hs, hc⟩
  have HS := hid hs; have HC := hid hc; clear hs hc
  have HO := hid ho; clear ho
  go_wp2_with fail
  go_ret2
  exact ⟨v, rfl, HO.out, HS.out, HC.out⟩
set_option maxHeartbeats 1600000 in
theorem srotate_yes {b : Nat} {s : Sl} (epoch : Int) (hm : mayOf (s.msg (s.rota epoch)) = true) (w : World) (H : SlAt 83 w b s) :
    Calls Try.prog 17 #[.pointer (some ⟨b, 0, none⟩), .int .i64 epoch] w (LeavesS w b (sealOf s.k.a s.k.b (s.msg (s.rota epoch))) 0 ⟨s.seed, s.who, s.gen + 1, 0⟩) := by
  have C : Hid (Calls Try.prog 44 #[.pointer (some ⟨b, 0, none⟩), mg (⟨2, 0, s.gen + 1, 0, epoch, 0, 0⟩ : Mg)] w (LeavesS w b (sealOf s.k.a s.k.b (s.msg (s.rota epoch))) 0 ⟨s.seed, s.who, s.gen, s.seq + 1⟩)) := hid (seal_yes (s.rota epoch) hm w H)
  have g0 := H.ok.g0; have g1 := H.ok.g1; have lt := H.lt
  have s1 : IntKind.i64.wrap (s.gen + 1) = s.gen + 1 := IntWalk.i64_in _ (by omega)
  have G := hid (sgen_any w H)
  have L := hid (show ∀ W v, OwnB w.heap.size W v (sealOf s.k.a s.k.b (s.msg (s.rota epoch))) → SlAt 83 W b ⟨s.seed, s.who, s.gen, s.seq + 1⟩ → Chg [b] w W → LeavesS w b (sealOf s.k.a s.k.b (s.msg (s.rota epoch))) 0 ⟨s.seed, s.who, s.gen + 1, 0⟩ (.returned (.tuple #[v, .int .i64 0])) ((W.setCell ⟨b, 2, none⟩ (.int .i64 (s.gen + 1))).setCell ⟨b, 3, none⟩ (.int .i64 0)) from
    fun W v ho h hc => ⟨v, rfl, ho.chg (((chg_refl W [b]).set (.inl (by simp)) _).set (.inl (by simp)) _) (fun x hx => by rcases List.mem_singleton.1 hx with rfl; exact lt), (⟨by have := at_set (at_set h.top 2 (.int .i64 (s.gen + 1))) 3 (.int .i64 0); exact this, ⟨H.ok.w0, H.ok.w1, by show (0 : Int) ≤ s.gen + 1; omega, (may_of hm).2.2.1.2, Int.le_refl _, by show (0 : Int) ≤ _; decide⟩⟩ : SlAt 83 ((W.setCell ⟨b, 2, none⟩ (.int .i64 (s.gen + 1))).setCell ⟨b, 3, none⟩ (.int .i64 0)) b ⟨s.seed, s.who, s.gen + 1, 0⟩), ((hc.set (.inl (by simp)) _).set (.inl (by simp)) _)⟩)
  clear g0 g1 lt hm H
  generalize (sealOf s.k.a s.k.b (s.msg (s.rota epoch))) = l at C L ⊢
  go_enter Try.func17, Try.ntmps17
  go_wp2_with fail
  refine G.out.mono ?_
  rintro e w1 ⟨rfl, rfl⟩
  go_wp2_with (refine wpList_buildTo (ty := 46) (cs := ((⟨2, 0, s.gen + 1, 0, epoch, 0, 0⟩ : Mg)).cells) rfl rfl rfl (by kernel_rfl) ?_)
  refine C.out.mono ?_
  rintro e w1 ⟨v, rfl, ho, hs, hc⟩
  obtain ⟨k0, k1, k2, k3, e2, e3⟩ := hs.cells
  have HS := hid hs; have HC := hid hc; clear hs hc
  have HO := hid ho; clear ho
  go_wp2_with fail
  refine (addn_i64 _ s.gen 1 (s.gen + 1) _ k2 e2 s1).mono ?_
  rintro e w2 ⟨rfl, rfl⟩
  have k3' : (w1.setCell ⟨b, 2, none⟩ (.int .i64 (s.gen + 1))).cell? ⟨b, 3, none⟩ = some (.int .i64 (s.seq + 1)) := by go_simp
  have e3' : (w1.setCell ⟨b, 2, none⟩ (.int .i64 (s.gen + 1))).frozen? ⟨b, 3, none⟩ = false := by go_simp
  go_wp2_with fail
  refine (store_i64 _ 0 _ _ k3' e3').mono ?_
  rintro e w2 ⟨rfl, rfl⟩
  go_wp2_with fail
  go_ret2
  exact L.out _ _ HO.out HS.out HC.out
set_option maxHeartbeats 1600000 in
theorem srotate_no {b : Nat} {s : Sl} (epoch : Int) (hm : mayOf (s.msg (s.rota epoch)) = false) (w : World) (H : SlAt 83 w b s) :
    Calls Try.prog 17 #[.pointer (some ⟨b, 0, none⟩), .int .i64 epoch] w (LeavesS w b [] 1 s) := by
  have C : Hid (Calls Try.prog 44 #[.pointer (some ⟨b, 0, none⟩), mg (⟨2, 0, s.gen + 1, 0, epoch, 0, 0⟩ : Mg)] w (LeavesS w b [] 1 s)) := hid (seal_no (s.rota epoch) hm w H)
  have g0 := H.ok.g0; have g1 := H.ok.g1; have lt := H.lt
  have s1 : IntKind.i64.wrap (s.gen + 1) = s.gen + 1 := IntWalk.i64_in _ (by omega)
  have G := hid (sgen_any w H)
  clear g0 g1 lt hm H
  go_enter Try.func17, Try.ntmps17
  go_wp2_with fail
  refine G.out.mono ?_
  rintro e w1 ⟨rfl, rfl⟩
  go_wp2_with (refine wpList_buildTo (ty := 46) (cs := ((⟨2, 0, s.gen + 1, 0, epoch, 0, 0⟩ : Mg)).cells) rfl rfl rfl (by kernel_rfl) ?_)
  refine C.out.mono ?_
  rintro e w1 ⟨v, rfl, ho, hs, hc⟩
  obtain ⟨k0, k1, k2, k3, e2, e3⟩ := hs.cells
  have HS := hid hs; have HC := hid hc; clear hs hc
  have HO := hid ho; clear ho
  go_wp2_with fail
  go_ret2
  exact ⟨_, rfl, OwnB.nil _ _, HS.out, HC.out⟩
theorem srotate_any {b : Nat} {s : Sl} (epoch : Int) (w : World) (H : SlAt 83 w b s) :
    Calls Try.prog 17 #[.pointer (some ⟨b, 0, none⟩), .int .i64 epoch] w (LeavesS w b (s.out (s.rota epoch)) (s.code (s.rota epoch)) (s.turn epoch)) := by
  unfold Sl.out Sl.code Sl.turn putC sealB
  cases h : mayOf (s.msg (s.rota epoch))
  · exact srotate_no epoch h w H
  · exact srotate_yes epoch h w H
set_option maxHeartbeats 1600000 in
theorem rssample_any {b : Nat} {s : Sl} (metric epoch value : Int) (w : World) (H : SlAt 40 w b s) :
    Calls Try.prog 14 #[.pointer (some ⟨b, 0, none⟩), .int .i64 metric, .int .i64 epoch, .int .i64 value] w (LeavesR w b (s.out (s.samp metric epoch value)) (s.code (s.samp metric epoch value)) (s.step (s.samp metric epoch value))) := by
  have C : Hid (Calls Try.prog 45 #[.pointer (some ⟨b, 0, none⟩), mg (⟨1, 0, s.gen, 0, epoch, value, metric⟩ : Mg)] w (LeavesR w b (s.out (s.samp metric epoch value)) (s.code (s.samp metric epoch value)) (s.step (s.samp metric epoch value)))) := hid (rnext_any (s.samp metric epoch value) w H)
  obtain ⟨c0, c1, c2, c3, f2, f3⟩ := H.cells
  clear H
  generalize s.out (s.samp metric epoch value) = l at C ⊢
  generalize s.code (s.samp metric epoch value) = c at C ⊢
  generalize s.step (s.samp metric epoch value) = s' at C ⊢
  go_enter Try.func14, Try.ntmps14
  go_wp2_with (refine wpList_buildTo (ty := 46) (cs := ((⟨1, 0, s.gen, 0, epoch, value, metric⟩ : Mg)).cells) rfl rfl rfl (by kernel_rfl) ?_)
  refine C.out.mono ?_
  rintro e w1 ⟨rfl, hs, hc⟩
  have HS := hid hs; have HC := hid hc; clear hs hc
  go_wp2_with fail
  go_ret2
  exact ⟨rfl, HS.out, HC.out⟩
set_option maxHeartbeats 1600000 in
theorem rsbeat_any {b : Nat} {s : Sl} (epoch : Int) (w : World) (H : SlAt 40 w b s) :
    Calls Try.prog 16 #[.pointer (some ⟨b, 0, none⟩), .int .i64 epoch] w (LeavesR w b (s.out (s.beat epoch)) (s.code (s.beat epoch)) (s.step (s.beat epoch))) := by
  have C : Hid (Calls Try.prog 45 #[.pointer (some ⟨b, 0, none⟩), mg (⟨3, 0, s.gen, 0, epoch, 0, 0⟩ : Mg)] w (LeavesR w b (s.out (s.beat epoch)) (s.code (s.beat epoch)) (s.step (s.beat epoch)))) := hid (rnext_any (s.beat epoch) w H)
  obtain ⟨c0, c1, c2, c3, f2, f3⟩ := H.cells
  clear H
  generalize s.out (s.beat epoch) = l at C ⊢
  generalize s.code (s.beat epoch) = c at C ⊢
  generalize s.step (s.beat epoch) = s' at C ⊢
  go_enter Try.func16, Try.ntmps16
  go_wp2_with (refine wpList_buildTo (ty := 46) (cs := ((⟨3, 0, s.gen, 0, epoch, 0, 0⟩ : Mg)).cells) rfl rfl rfl (by kernel_rfl) ?_)
  refine C.out.mono ?_
  rintro e w1 ⟨rfl, hs, hc⟩
  have HS := hid hs; have HC := hid hc; clear hs hc
  go_wp2_with fail
  go_ret2
  exact ⟨rfl, HS.out, HC.out⟩
set_option maxHeartbeats 1600000 in
theorem rsrotate_yes {b : Nat} {s : Sl} (epoch : Int) (hm : mayOf (s.msg (s.rota epoch)) = true) (w : World) (H : SlAt 40 w b s) :
    Calls Try.prog 18 #[.pointer (some ⟨b, 0, none⟩), .int .i64 epoch] w (LeavesR w b (sealOf s.k.a s.k.b (s.msg (s.rota epoch))) 0 ⟨s.seed, s.who, s.gen + 1, 0⟩) := by
  have C : Hid (Calls Try.prog 45 #[.pointer (some ⟨b, 0, none⟩), mg (⟨2, 0, s.gen + 1, 0, epoch, 0, 0⟩ : Mg)] w (LeavesR w b (sealOf s.k.a s.k.b (s.msg (s.rota epoch))) 0 ⟨s.seed, s.who, s.gen, s.seq + 1⟩)) := hid (rnext_yes (s.rota epoch) hm w H)
  have g0 := H.ok.g0; have g1 := H.ok.g1; have lt := H.lt
  have s1 : IntKind.i64.wrap (s.gen + 1) = s.gen + 1 := IntWalk.i64_in _ (by omega)
  obtain ⟨c0, c1, c2, c3, f2, f3⟩ := H.cells
  have L := hid (show ∀ W, SlAt 40 W b ⟨s.seed, s.who, s.gen, s.seq + 1⟩ → Chg [b] w W → LeavesR w b (sealOf s.k.a s.k.b (s.msg (s.rota epoch))) 0 ⟨s.seed, s.who, s.gen + 1, 0⟩ (.returned (.tuple #[.string ⟨((sealOf s.k.a s.k.b (s.msg (s.rota epoch)))).toArray⟩, .int .i64 0])) ((W.setCell ⟨b, 2, none⟩ (.int .i64 (s.gen + 1))).setCell ⟨b, 3, none⟩ (.int .i64 0)) from
    fun W h hc => ⟨rfl, (⟨by have := at_set (at_set h.top 2 (.int .i64 (s.gen + 1))) 3 (.int .i64 0); exact this, ⟨H.ok.w0, H.ok.w1, by show (0 : Int) ≤ s.gen + 1; omega, (may_of hm).2.2.1.2, Int.le_refl _, by show (0 : Int) ≤ _; decide⟩⟩ : SlAt 40 ((W.setCell ⟨b, 2, none⟩ (.int .i64 (s.gen + 1))).setCell ⟨b, 3, none⟩ (.int .i64 0)) b ⟨s.seed, s.who, s.gen + 1, 0⟩), ((hc.set (.inl (by simp)) _).set (.inl (by simp)) _)⟩)
  clear g0 g1 lt hm H
  generalize (sealOf s.k.a s.k.b (s.msg (s.rota epoch))) = l at C L ⊢
  go_enter Try.func18, Try.ntmps18
  go_wp2_with (refine wpList_buildTo (ty := 46) (cs := ((⟨2, 0, s.gen + 1, 0, epoch, 0, 0⟩ : Mg)).cells) rfl rfl rfl (by kernel_rfl) ?_)
  refine C.out.mono ?_
  rintro e w1 ⟨rfl, hs, hc⟩
  obtain ⟨k0, k1, k2, k3, e2, e3⟩ := hs.cells
  have HS := hid hs; have HC := hid hc; clear hs hc
  go_wp2_with fail
  go_ret2
  exact L.out _ HS.out HC.out
set_option maxHeartbeats 1600000 in
theorem rsrotate_no {b : Nat} {s : Sl} (epoch : Int) (hm : mayOf (s.msg (s.rota epoch)) = false) (w : World) (H : SlAt 40 w b s) :
    Calls Try.prog 18 #[.pointer (some ⟨b, 0, none⟩), .int .i64 epoch] w (LeavesR w b [] 1 s) := by
  have C : Hid (Calls Try.prog 45 #[.pointer (some ⟨b, 0, none⟩), mg (⟨2, 0, s.gen + 1, 0, epoch, 0, 0⟩ : Mg)] w (LeavesR w b [] 1 s)) := hid (rnext_no (s.rota epoch) hm w H)
  have g0 := H.ok.g0; have g1 := H.ok.g1; have lt := H.lt
  have s1 : IntKind.i64.wrap (s.gen + 1) = s.gen + 1 := IntWalk.i64_in _ (by omega)
  obtain ⟨c0, c1, c2, c3, f2, f3⟩ := H.cells
  clear g0 g1 lt hm H
  go_enter Try.func18, Try.ntmps18
  go_wp2_with (refine wpList_buildTo (ty := 46) (cs := ((⟨2, 0, s.gen + 1, 0, epoch, 0, 0⟩ : Mg)).cells) rfl rfl rfl (by kernel_rfl) ?_)
  refine C.out.mono ?_
  rintro e w1 ⟨rfl, hs, hc⟩
  obtain ⟨k0, k1, k2, k3, e2, e3⟩ := hs.cells
  have HS := hid hs; have HC := hid hc; clear hs hc
  go_wp2_with fail
  go_ret2
  exact ⟨rfl, HS.out, HC.out⟩
theorem rsrotate_any {b : Nat} {s : Sl} (epoch : Int) (w : World) (H : SlAt 40 w b s) :
    Calls Try.prog 18 #[.pointer (some ⟨b, 0, none⟩), .int .i64 epoch] w (LeavesR w b (s.out (s.rota epoch)) (s.code (s.rota epoch)) (s.turn epoch)) := by
  unfold Sl.out Sl.code Sl.turn putC sealB
  cases h : mayOf (s.msg (s.rota epoch))
  · exact rsrotate_no epoch h w H
  · exact rsrotate_yes epoch h w H
theorem sbeat_nil (epoch : Int) (w : World) :
    Calls Try.prog 15 #[.pointer none, .int .i64 epoch] w fun e w' => e = .returned (.tuple #[.slice none 0 0, .int .i64 1]) ∧ w.grownBy w' none := by
  have C : Hid (∀ w, Calls Try.prog 44 #[.pointer none, mg (⟨3, 0, -1, 0, epoch, 0, 0⟩ : Mg)] w fun e w' => e = .returned (.tuple #[.slice none 0 0, .int .i64 1]) ∧ w.grownBy w' none) := hid (fun w => seal_nil _ w)
  go_enter Try.func15, Try.ntmps15
  go_wp2_with fail
  refine (sgen_nil _).mono ?_
  rintro e w1 ⟨rfl, rfl⟩
  go_wp2_with (refine wpList_buildTo (ty := 46) (cs := ((⟨3, 0, -1, 0, epoch, 0, 0⟩ : Mg)).cells) rfl rfl rfl (by kernel_rfl) ?_)
  refine (C.out _).mono ?_
  rintro e w1 ⟨rfl, hg⟩
  have G := hid hg; clear hg
  go_wp2_with fail
  go_ret2
  exact ⟨rfl, G.out⟩
theorem ssample_yes {b : Nat} {s : Sl} (metric epoch value : Int) (hm : mayOf (s.msg (s.samp metric epoch value)) = true) (w : World) (H : SlAt 83 w b s) :
    Calls Try.prog 13 #[.pointer (some ⟨b, 0, none⟩), .int .i64 metric, .int .i64 epoch, .int .i64 value] w (LeavesS w b (sealOf s.k.a s.k.b (s.msg (s.samp metric epoch value))) 0 ⟨s.seed, s.who, s.gen, s.seq + 1⟩) := by
  have h := ssample_any metric epoch value w H
  unfold Sl.out Sl.code Sl.step putC sealB at h
  rw [hm] at h
  exact h
theorem ssample_no {b : Nat} {s : Sl} (metric epoch value : Int) (hm : mayOf (s.msg (s.samp metric epoch value)) = false) (w : World) (H : SlAt 83 w b s) :
    Calls Try.prog 13 #[.pointer (some ⟨b, 0, none⟩), .int .i64 metric, .int .i64 epoch, .int .i64 value] w (LeavesS w b [] 1 s) := by
  have h := ssample_any metric epoch value w H
  unfold Sl.out Sl.code Sl.step putC sealB at h
  rw [hm] at h
  exact h
theorem sbeat_yes {b : Nat} {s : Sl} (epoch : Int) (hm : mayOf (s.msg (s.beat epoch)) = true) (w : World) (H : SlAt 83 w b s) :
    Calls Try.prog 15 #[.pointer (some ⟨b, 0, none⟩), .int .i64 epoch] w (LeavesS w b (sealOf s.k.a s.k.b (s.msg (s.beat epoch))) 0 ⟨s.seed, s.who, s.gen, s.seq + 1⟩) := by
  have h := sbeat_any epoch w H
  unfold Sl.out Sl.code Sl.step putC sealB at h
  rw [hm] at h
  exact h
theorem sbeat_no {b : Nat} {s : Sl} (epoch : Int) (hm : mayOf (s.msg (s.beat epoch)) = false) (w : World) (H : SlAt 83 w b s) :
    Calls Try.prog 15 #[.pointer (some ⟨b, 0, none⟩), .int .i64 epoch] w (LeavesS w b [] 1 s) := by
  have h := sbeat_any epoch w H
  unfold Sl.out Sl.code Sl.step putC sealB at h
  rw [hm] at h
  exact h
theorem rssample_yes {b : Nat} {s : Sl} (metric epoch value : Int) (hm : mayOf (s.msg (s.samp metric epoch value)) = true) (w : World) (H : SlAt 40 w b s) :
    Calls Try.prog 14 #[.pointer (some ⟨b, 0, none⟩), .int .i64 metric, .int .i64 epoch, .int .i64 value] w (LeavesR w b (sealOf s.k.a s.k.b (s.msg (s.samp metric epoch value))) 0 ⟨s.seed, s.who, s.gen, s.seq + 1⟩) := by
  have h := rssample_any metric epoch value w H
  unfold Sl.out Sl.code Sl.step putC sealB at h
  rw [hm] at h
  exact h
theorem rssample_no {b : Nat} {s : Sl} (metric epoch value : Int) (hm : mayOf (s.msg (s.samp metric epoch value)) = false) (w : World) (H : SlAt 40 w b s) :
    Calls Try.prog 14 #[.pointer (some ⟨b, 0, none⟩), .int .i64 metric, .int .i64 epoch, .int .i64 value] w (LeavesR w b [] 1 s) := by
  have h := rssample_any metric epoch value w H
  unfold Sl.out Sl.code Sl.step putC sealB at h
  rw [hm] at h
  exact h
theorem rsbeat_yes {b : Nat} {s : Sl} (epoch : Int) (hm : mayOf (s.msg (s.beat epoch)) = true) (w : World) (H : SlAt 40 w b s) :
    Calls Try.prog 16 #[.pointer (some ⟨b, 0, none⟩), .int .i64 epoch] w (LeavesR w b (sealOf s.k.a s.k.b (s.msg (s.beat epoch))) 0 ⟨s.seed, s.who, s.gen, s.seq + 1⟩) := by
  have h := rsbeat_any epoch w H
  unfold Sl.out Sl.code Sl.step putC sealB at h
  rw [hm] at h
  exact h
theorem rsbeat_no {b : Nat} {s : Sl} (epoch : Int) (hm : mayOf (s.msg (s.beat epoch)) = false) (w : World) (H : SlAt 40 w b s) :
    Calls Try.prog 16 #[.pointer (some ⟨b, 0, none⟩), .int .i64 epoch] w (LeavesR w b [] 1 s) := by
  have h := rsbeat_any epoch w H
  unfold Sl.out Sl.code Sl.step putC sealB at h
  rw [hm] at h
  exact h
end Go.Proofs.Ytngfnigfkabihaa
end
section
namespace Go.Proofs.Ytngfnigfkabihaa
set_option maxRecDepth 100000
open Go.RowKit

structure Kp (w0 : World) (bs : List (Nat × Obj)) (ys : List (Value × List UInt8)) (w : World) : Prop where
  g : w0.grownBy w none
  bl : ∀ x ∈ bs, w.heap[x.1]? = some x.2
  yl : ∀ x ∈ ys, BytesAt w x.1 x.2
section
variable {w0 w w1 : World} {bs : List (Nat × Obj)} {ys : List (Value × List UInt8)} {b : Nat} {o : Obj} {v : Value} {l : List UInt8} {x0 x1 x2 x3 x4 x5 x6 : Nat × Obj} {z0 z1 z2 z3 z4 z5 : Value × List UInt8}
theorem kp_start (w : World) : Kp w [] [] w := ⟨.refl w none, (fun _ h => by cases h), (fun _ h => by cases h)⟩
theorem Kp.grown (h : Kp w0 bs ys w) (hg : w.grownBy w1 none) : Kp w0 bs ys w1 :=
  ⟨gb_trans h.g hg (.inl rfl), fun x hx => at_grown (h.bl x hx) hg (by simp), fun x hx => (h.yl x hx).grown hg (by simp)⟩
theorem Kp.drew (h : Kp w0 bs ys w) : Kp w0 bs ys w.drew := ⟨gb_drew h.g, fun x hx => h.bl x hx, fun x hx => (h.yl x hx).drew⟩
theorem Kp.add (h : Kp w0 bs ys w) (k : w.heap[b]? = some o) : Kp w0 ((b, o) :: bs) ys w :=
  ⟨h.g, (fun x hx => (List.mem_cons.1 hx).elim (fun e => by rw [e]; exact k) (h.bl x)), h.yl⟩
theorem Kp.addY (h : Kp w0 bs ys w) (k : BytesAt w v l) : Kp w0 bs ((v, l) :: ys) w :=
  ⟨h.g, h.bl, (fun x hx => (List.mem_cons.1 hx).elim (fun e => by rw [e]; exact k) (h.yl x))⟩
theorem Kp.alloc (h : Kp w0 bs ys w) (o : Obj) : Kp w0 ((w.heap.size, o) :: bs) ys (w.alloc o) := (h.grown (World.grownBy_alloc w o none)).add (at_new w o)
theorem Kp.size (h : Kp w0 bs ys w) : w0.heap.size ≤ w.heap.size := gb_size h.g
theorem Kp.tail (h : Kp w0 (x0 :: bs) ys w) : Kp w0 bs ys w := ⟨h.g, fun x hx => h.bl x (List.mem_cons_of_mem _ hx), h.yl⟩
theorem Kp.tailY (h : Kp w0 bs (z0 :: ys) w) : Kp w0 bs ys w := ⟨h.g, h.bl, fun x hx => h.yl x (List.mem_cons_of_mem _ hx)⟩
theorem Kp.b0 (h : Kp w0 ((b, o) :: bs) ys w) : w.heap[b]? = some o := h.bl (b, o) (by simp)
theorem Kp.b1 (h : Kp w0 (x0 :: (b, o) :: bs) ys w) : w.heap[b]? = some o := h.tail.b0
theorem Kp.b2 (h : Kp w0 (x0 :: x1 :: (b, o) :: bs) ys w) : w.heap[b]? = some o := h.tail.b1
theorem Kp.b3 (h : Kp w0 (x0 :: x1 :: x2 :: (b, o) :: bs) ys w) : w.heap[b]? = some o := h.tail.b2
theorem Kp.b4 (h : Kp w0 (x0 :: x1 :: x2 :: x3 :: (b, o) :: bs) ys w) : w.heap[b]? = some o := h.tail.b3
theorem Kp.b5 (h : Kp w0 (x0 :: x1 :: x2 :: x3 :: x4 :: (b, o) :: bs) ys w) : w.heap[b]? = some o := h.tail.b4
theorem Kp.b6 (h : Kp w0 (x0 :: x1 :: x2 :: x3 :: x4 :: x5 :: (b, o) :: bs) ys w) : w.heap[b]? = some o := h.tail.b5
theorem Kp.b7 (h : Kp w0 (x0 :: x1 :: x2 :: x3 :: x4 :: x5 :: x6 :: (b, o) :: bs) ys w) : w.heap[b]? = some o := h.tail.b6
theorem Kp.y0 (h : Kp w0 bs ((v, l) :: ys) w) : BytesAt w v l := h.yl (v, l) (by simp)
theorem Kp.y1 (h : Kp w0 bs (z0 :: (v, l) :: ys) w) : BytesAt w v l := h.tailY.y0
theorem Kp.y2 (h : Kp w0 bs (z0 :: z1 :: (v, l) :: ys) w) : BytesAt w v l := h.tailY.y1
theorem Kp.y3 (h : Kp w0 bs (z0 :: z1 :: z2 :: (v, l) :: ys) w) : BytesAt w v l := h.tailY.y2
theorem Kp.y4 (h : Kp w0 bs (z0 :: z1 :: z2 :: z3 :: (v, l) :: ys) w) : BytesAt w v l := h.tailY.y3
theorem Kp.y5 (h : Kp w0 bs (z0 :: z1 :: z2 :: z3 :: z4 :: (v, l) :: ys) w) : BytesAt w v l := h.tailY.y4
/-- a store of a whole row into the block at hand, which is the call's own; the slices lie elsewhere -/
theorem Kp.set {cs old : Array Value} {t : TypeId} (h : Kp w0 ((b, .cells old t) :: bs) ys w) (hb : w0.heap.size ≤ b) (hne : ∀ x ∈ bs, x.1 ≠ b) (hy : ∀ x ∈ ys, x.2 = [] ∨ ∀ a n c, x.1 = .slice (some a) n c → a.block ≠ b) :
    Kp w0 ((b, .cells cs t) :: bs) ys (w.setRow b cs) := by
  have hgr : w.grownBy (w.setRow b cs) (some b) := ⟨rfl, rfl, rfl, by simp [World.setRow], fun k hk hr => by simp [World.setRow, Array.getElem?_modify, show b ≠ k by intro e; exact hr (by rw [e])]⟩
  refine ⟨gb_trans h.g hgr (.inr (.inr ⟨b, rfl, hb⟩)), fun x hx => ?_, fun x hx => (h.yl x hx).grown hgr (fun k e => by cases e; exact .inr (hy x hx))⟩
  rcases List.mem_cons.1 hx with rfl | hx
  · exact at_setRow h.b0
  · exact at_setRow_other (h.bl x (List.mem_cons_of_mem _ hx)) (hne x hx)
end

/-- a slice of the call's own was written to; all that is kept lies below -/
theorem Kp.own {w0 w w1 : World} {bs : List (Nat × Obj)} {ys : List (Value × List UInt8)} {base : Nat} {v : Value} {l : List UInt8} (h : Kp w0 bs ys w) (ho : OwnB base w v l) (hg : w.grownBy w1 v.ownBlock) (h0 : w0.heap.size ≤ base)
    (hb : ∀ x ∈ bs, x.1 < base) (hy : ∀ x ∈ ys, x.2 = [] ∨ ∀ a n c, x.1 = .slice (some a) n c → a.block < base) : Kp w0 bs ys w1 := by
  refine ⟨gb_own h.g ho h0 hg, fun x hx => at_own (h.bl x hx) ho (hb x hx) hg, fun x hx => (h.yl x hx).grown hg (fun k e => .inr ((hy x hx).elim .inl fun q => .inr fun a n c ea => ?_))⟩
  obtain ⟨p, c', rfl⟩ := ho.form
  cases p with
  | none => cases e
  | some g => have h1 := (ho.at g _ _ rfl).1; cases e; have := q a n c ea; omega
theorem Kp.low {w0 w : World} {bs : List (Nat × Obj)} {ys : List (Value × List UInt8)} (h : Kp w0 bs ys w) : (∀ x ∈ bs, x.1 < w.heap.size) ∧ (∀ x ∈ ys, x.2 = [] ∨ ∀ a n c, x.1 = .slice (some a) n c → a.block < w.heap.size) :=
  ⟨fun x hx => at_lt (h.bl x hx), fun x hx => (h.yl x hx).lt⟩

/-- a slice of the call's own that is not empty: its block, its bytes -/
theorem OwnB.full {base : Nat} {w : World} {v : Value} {l : List UInt8} (h : OwnB base w v l) (hl : 0 < l.length) : ∃ g c, v = .slice (some ⟨g, 0, none⟩) l.length c ∧ l.length ≤ c ∧ c ≤ maxLen ∧ base ≤ g ∧ g < w.heap.size := by
  obtain ⟨_, h | ⟨g, cap, cur, rfl, hb, hh, h1, h2, _⟩⟩ := h
  · omega
  · exact ⟨g, cap, rfl, h1, h2, hb, at_lt hh⟩
theorem byte_cell {w : World} {g n c : Nat} {l : List UInt8} (h : BytesAt w (.slice (some ⟨g, 0, none⟩) n c) l) (i : Nat) (hi : i < l.length) (x : UInt8) (hx : byteAt l i = x) : w.cell? ⟨g, i, none⟩ = some (.int .u8 (x.toNat : Int)) := by
  rcases h with ⟨h, _⟩ | ⟨a, cap, e, _, _, h3⟩
  · cases h
  · cases e
    have := h3 i hi
    have e : (⟨g, 0, none⟩ : Addr).add i = ⟨g, i, none⟩ := by unfold Addr.add; split <;> simp_all
    rw [e] at this
    rw [this, ← hx, byteAt_eq hi]
end Go.Proofs.Ytngfnigfkabihaa
end
section
set_option linter.unusedSimpArgs false
set_option linter.unusedVariables false
namespace Go.Proofs.Ytngfnigfkabihaa
set_option maxRecDepth 100000
open Go.RowKit

@[reducible] def msgObj (m : Mg) : Obj := .cells m.cells 46
@[reducible] def keyObj (a b : BitVec 64) : Obj := .cells #[.int .u64 (q a), .int .u64 (q b)] 61
@[reducible] def tagObj (a b : BitVec 64) : Obj := .cells #[.int .u64 (q a), .int .u64 (q b)] 48
theorem may_sample {who gen seq epoch value metric : Int} (h : 0 ≤ who ∧ who ≤ 15 ∧ 0 ≤ gen ∧ gen ≤ 60000 ∧ 1 ≤ seq ∧ seq ≤ 1099511627776 ∧ 0 ≤ epoch ∧ epoch ≤ 1099511627776 ∧ 0 ≤ metric ∧ metric ≤ 3 ∧ 0 ≤ value ∧ value ≤ 1099511627776) :
    mayOf ⟨1, who, gen, seq, epoch, value, metric⟩ = true := decide_eq_true (by unfold May; dsimp only; omega)
theorem may_rotate {who gen seq epoch : Int} (h : 0 ≤ who ∧ who ≤ 15 ∧ 0 ≤ gen ∧ gen ≤ 60000 ∧ 1 ≤ seq ∧ seq ≤ 1099511627776 ∧ 0 ≤ epoch ∧ epoch ≤ 1099511627776) : mayOf ⟨2, who, gen, seq, epoch, 0, 0⟩ = true := decide_eq_true (by unfold May; dsimp only; omega)
theorem may_beat {who gen seq epoch : Int} (h : 0 ≤ who ∧ who ≤ 15 ∧ 0 ≤ gen ∧ gen ≤ 60000 ∧ 1 ≤ seq ∧ seq ≤ 1099511627776 ∧ 0 ≤ epoch ∧ epoch ≤ 1099511627776) : mayOf ⟨3, who, gen, seq, epoch, 0, 0⟩ = true := decide_eq_true (by unfold May; dsimp only; omega)
theorem ne_of_kp {w0 w : World} {bs : List (Nat × Obj)} {ys : List (Value × List UInt8)} (h : Kp w0 bs ys w) {n : Nat} (hn : w.heap.size ≤ n) : ∀ x ∈ bs, x.1 ≠ n := fun x hx e => by
  have := at_lt (h.bl x hx); omega
theorem nY_of_kp {w0 w : World} {bs : List (Nat × Obj)} {ys : List (Value × List UInt8)} (h : Kp w0 bs ys w) {n : Nat} (hn : w.heap.size ≤ n) : ∀ x ∈ ys, x.2 = [] ∨ ∀ a k c, x.1 = .slice (some a) k c → a.block ≠ n := fun x hx => by
  rcases (h.yl x hx).lt with e | e
  · exact .inl e
  · exact .inr fun a k c he => by have := e a k c he; omega
theorem get_own (m : Mg) (hm : mayOf m = true) (v : Value) (w : World) (h : BytesAt w v (putOf m)) :
    Calls Try.prog 39 #[v] w fun e w' => e = .returned (.tuple #[mg m, .int .i64 0]) ∧ w.grownBy w' none := by
  have := get_all v (putOf m) w h
  rw [(gotM_some (get_put (may_of hm))).1, (gotM_some (get_put (may_of hm))).2] at this
  exact this
theorem split_own (m : Mg) (hm : mayOf m = true) (k0 k1 : BitVec 64) (v : Value) (w : World) (h : BytesAt w v (sealOf k0 k1 m)) :
    Calls Try.prog 21 #[v] w fun e w' => ∃ u, e = .returned (.tuple #[mg m, u, pair (sumOf k0 k1 (putOf m)) (sumOf k1 (inv k0) (putOf m)), .int .i64 0]) ∧ OwnB w.heap.size w' u (putOf m) ∧ w.grownBy w' none := by
  have := split_all v _ w h
  obtain ⟨e1, e2, e3, e4, e5⟩ := sp_seal hm k0 k1
  rw [e1, e2, e3, e4, e5] at this
  exact this
end Go.Proofs.Ytngfnigfkabihaa
end
section
set_option linter.unusedSimpArgs false
set_option linter.unusedVariables false
namespace Go.Proofs.Ytngfnigfkabihaa
set_option maxRecDepth 100000
open Go.RowKit

structure Ko (w0 : World) (t : TypeId) (b : Nat) (s : Sl) (bs : List (Nat × Obj)) (ys : List (Value × List UInt8)) (w : World) : Prop where
  ob : SlAt t w b s
  lo : w0.heap.size ≤ b
  g : w0.grownBy w none
  bl : ∀ x ∈ bs, w.heap[x.1]? = some x.2
  ne : ∀ x ∈ bs, x.1 ≠ b
  yl : ∀ x ∈ ys, OwnB (b + 1) w x.1 x.2
section
variable {w0 w w1 : World} {t : TypeId} {b n : Nat} {s s' : Sl} {bs : List (Nat × Obj)} {ys : List (Value × List UInt8)} {o : Obj} {v : Value} {l : List UInt8} {x0 x1 x2 x3 x4 x5 x6 : Nat × Obj} {z0 z1 z2 z3 z4 z5 : Value × List UInt8}
theorem ko_start (H : SlAt t w b s) (h : w0.grownBy w none) (hb : w0.heap.size ≤ b) : Ko w0 t b s [] [] w := ⟨H, hb, h, (fun _ h => by cases h), (fun _ h => by cases h), (fun _ h => by cases h)⟩
theorem Ko.grown (h : Ko w0 t b s bs ys w) (hg : w.grownBy w1 none) : Ko w0 t b s bs ys w1 :=
  ⟨h.ob.grown hg, h.lo, gb_trans h.g hg (.inl rfl), fun x hx => at_grown (h.bl x hx) hg (by simp), h.ne, fun x hx => (h.yl x hx).grown hg (by simp)⟩
theorem Ko.drew (h : Ko w0 t b s bs ys w) : Ko w0 t b s bs ys w.drew := ⟨h.ob.drew, h.lo, gb_drew h.g, fun x hx => h.bl x hx, h.ne, fun x hx => h.yl x hx⟩
theorem gb_chg (h : w0.grownBy w none) (hb : w0.heap.size ≤ b) (hc : Chg [b] w w1) : w0.grownBy w1 none :=
  (Chg.trans (chg_grown h []) hc (fun x hx => by rcases List.mem_singleton.1 hx with rfl; exact .inr hb)).free (fun x hx => by cases hx)
theorem Ko.leave (h : Ko w0 t b s bs ys w) (hs : SlAt t w1 b s') (hc : Chg [b] w w1) : Ko w0 t b s' bs ys w1 :=
  ⟨hs, h.lo, gb_chg h.g h.lo hc, fun x hx => hc.at (h.bl x hx) (by simpa using h.ne x hx), h.ne, fun x hx => (h.yl x hx).chg hc (fun y hy => by rcases List.mem_singleton.1 hy with rfl; exact Nat.lt_succ_self _)⟩
theorem Ko.add (h : Ko w0 t b s bs ys w) (k : w.heap[n]? = some o) (hn : n ≠ b) : Ko w0 t b s ((n, o) :: bs) ys w :=
  ⟨h.ob, h.lo, h.g, fun x hx => by rcases List.mem_cons.1 hx with rfl | hx; exact k; exact h.bl x hx, fun x hx => by rcases List.mem_cons.1 hx with rfl | hx; exact hn; exact h.ne x hx, h.yl⟩
theorem Ko.alloc (h : Ko w0 t b s bs ys w) (o : Obj) : Ko w0 t b s ((w.heap.size, o) :: bs) ys (w.alloc o) := (h.grown (World.grownBy_alloc w o none)).add (at_new w o) (by have := h.ob.lt; omega)
/-- bytes of a call's own: made behind the object -/
theorem Ko.addY (h : Ko w0 t b s bs ys w) (k : OwnB (b + 1) w v l) : Ko w0 t b s bs ((v, l) :: ys) w :=
  ⟨h.ob, h.lo, h.g, h.bl, h.ne, fun x hx => by rcases List.mem_cons.1 hx with rfl | hx; exact k; exact h.yl x hx⟩
/-- a call of the program's that seals -/
theorem Ko.sealed (h : Ko w0 t b s bs ys w) (ho : OwnB w.heap.size w1 v l) (hs : SlAt t w1 b s') (hc : Chg [b] w w1) : Ko w0 t b s' bs ((v, l) :: ys) w1 := (h.leave hs hc).addY (ho.le h.ob.lt)
theorem Ko.more (h : Ko w0 t b s bs ys w) (ho : OwnB w.heap.size w1 v l) (hg : w.grownBy w1 none) : Ko w0 t b s bs ((v, l) :: ys) w1 := (h.grown hg).addY (ho.le h.ob.lt)
theorem Ko.tail (h : Ko w0 t b s (x0 :: bs) ys w) : Ko w0 t b s bs ys w := ⟨h.ob, h.lo, h.g, fun x hx => h.bl x (List.mem_cons_of_mem _ hx), fun x hx => h.ne x (List.mem_cons_of_mem _ hx), h.yl⟩
theorem Ko.tailY (h : Ko w0 t b s bs (z0 :: ys) w) : Ko w0 t b s bs ys w := ⟨h.ob, h.lo, h.g, h.bl, h.ne, fun x hx => h.yl x (List.mem_cons_of_mem _ hx)⟩
theorem Ko.b0 (h : Ko w0 t b s ((n, o) :: bs) ys w) : w.heap[n]? = some o := h.bl (n, o) (by simp)
theorem Ko.b1 (h : Ko w0 t b s (x0 :: (n, o) :: bs) ys w) : w.heap[n]? = some o := h.tail.b0
theorem Ko.b2 (h : Ko w0 t b s (x0 :: x1 :: (n, o) :: bs) ys w) : w.heap[n]? = some o := h.tail.b1
theorem Ko.b3 (h : Ko w0 t b s (x0 :: x1 :: x2 :: (n, o) :: bs) ys w) : w.heap[n]? = some o := h.tail.b2
theorem Ko.y0 (h : Ko w0 t b s bs ((v, l) :: ys) w) : BytesAt w v l := (h.yl (v, l) (by simp)).bytes
theorem Ko.y1 (h : Ko w0 t b s bs (z0 :: (v, l) :: ys) w) : BytesAt w v l := h.tailY.y0
theorem Ko.y2 (h : Ko w0 t b s bs (z0 :: z1 :: (v, l) :: ys) w) : BytesAt w v l := h.tailY.y1
theorem Ko.y3 (h : Ko w0 t b s bs (z0 :: z1 :: z2 :: (v, l) :: ys) w) : BytesAt w v l := h.tailY.y2
end
end Go.Proofs.Ytngfnigfkabihaa
end
section
set_option linter.unusedSimpArgs false
namespace Go.Proofs.Ytngfnigfkabihaa
set_option maxRecDepth 100000
open Go.RowKit

theorem pair_equal {t : TypeId} {i : TypeInfo} (hu : Try.prog.underlying t = some (.array 2 22)) (hi : Try.prog.info? 22 = some i) (hc : Try.prog.cellsOf 22 = 1) (a b c d : BitVec 64) (w : World) :
    (Op.equalIn 10000 t (.agg #[.int .u64 (q a), .int .u64 (q b)]) (.agg #[.int .u64 (q c), .int .u64 (q d)])).run Try.prog w = .ok (a == c && b == d) w := by
  have hp : ∀ (x y : BitVec 64), (part 22 #[Value.int .u64 (q x), .int .u64 (q y)] 0).run Try.prog w = .ok (.int .u64 (q x)) w ∧ (part 22 #[Value.int .u64 (q x), .int .u64 (q y)] 1).run Try.prog w = .ok (.int .u64 (q y)) w := fun x y => by
    simp [part, isAgg, run_underlying Try.underlying22]
  have he : ∀ (x y : BitVec 64), (Op.equalIn 9999 22 (.int .u64 (q x)) (.int .u64 (q y))).run Try.prog w = .ok (x == y) w := fun x y => by
    rw [run_equalIn_int w 9998 22 .u64 .u64 _ _ Try.underlying22, q_beq]
  rw [run_equalIn_array w 9999 _ _ hu hi, hc]
  simp only [show List.range 2 = [0, 1] from rfl, Op.eqItems, Sem.run_bind, Nat.zero_mul, Nat.one_mul, (hp _ _).1, he, Result.andThen_ok]
  cases h1 : (a == c)
  · simp
  · simp only [Bool.not_true, Bool.false_eq_true, if_false, Sem.run_bind, (hp _ _).2, he, Result.andThen_ok]
    cases h2 : (b == d) <;> simp
theorem tag_equal (a b c d : BitVec 64) (w : World) :
    (Op.equalIn 10000 48 (.agg #[.int .u64 (q a), .int .u64 (q b)]) (.agg #[.int .u64 (q c), .int .u64 (q d)])).run Try.prog w = .ok (a == c && b == d) w := by
  obtain ⟨i, hi⟩ := Option.isSome_iff_exists.1 (show (Try.prog.info? 22).isSome = true by kernel_rfl)
  exact pair_equal Try.underlying48 hi (by kernel_rfl) a b c d w
theorem key_equal (a b c d : BitVec 64) (w : World) :
    (Op.equalIn 10000 61 (.agg #[.int .u64 (q a), .int .u64 (q b)]) (.agg #[.int .u64 (q c), .int .u64 (q d)])).run Try.prog w = .ok (a == c && b == d) w := by
  obtain ⟨i, hi⟩ := Option.isSome_iff_exists.1 (show (Try.prog.info? 22).isSome = true by kernel_rfl)
  exact pair_equal Try.underlying61 hi (by kernel_rfl) a b c d w
theorem words_equal (a b c d : BitVec 64) (w : World) :
    (Op.equalIn 10000 47 (.agg #[.int .u64 (q a), .int .u64 (q b)]) (.agg #[.int .u64 (q c), .int .u64 (q d)])).run Try.prog w = .ok (a == c && b == d) w := by
  obtain ⟨i, hi⟩ := Option.isSome_iff_exists.1 (show (Try.prog.info? 22).isSome = true by kernel_rfl)
  exact pair_equal Try.underlying47 hi (by kernel_rfl) a b c d w
end Go.Proofs.Ytngfnigfkabihaa
end
section
set_option linter.unusedSimpArgs false
namespace Go.Proofs.Ytngfnigfkabihaa
set_option maxRecDepth 100000
open Go.RowKit

def msgEq (a b : Mg) : Bool := a.kind == b.kind && a.who == b.who && a.gen == b.gen && a.seq == b.seq && a.epoch == b.epoch && a.value == b.value && a.metric == b.metric
theorem msgEq_iff (a b : Mg) : msgEq a b = true ↔ a = b := by
  cases a; cases b; simp [msgEq, and_assoc]
theorem msgEq_self (a : Mg) : msgEq a a = true := (msgEq_iff a a).2 rfl
theorem msgEq_ne {a b : Mg} (h : a ≠ b) : msgEq a b = false := by
  cases e : msgEq a b
  · rfl
  · exact absurd ((msgEq_iff a b).1 e) h
set_option maxHeartbeats 1600000 in
theorem msg_equal (a b : Mg) (w : World) : (Op.equalIn 10000 46 (mg a) (mg b)).run Try.prog w = .ok (msgEq a b) w := by
  unfold msgEq
  rw [run_equalIn_agg w 9999 46 a.cells b.cells (by kernel_rfl) (by kernel_rfl)]
  simp [go_sem]
  (repeat' split) <;> simp [*]
end Go.Proofs.Ytngfnigfkabihaa
end
section
set_option linter.unusedSimpArgs false
set_option linter.unusedVariables false
namespace Go.Proofs.Ytngfnigfkabihaa
set_option maxRecDepth 100000
open Go.RowKit

def s0 : Sl := .new 4 2
def s1 : Sl := ⟨4, 2, 0, 1⟩
def s2 : Sl := ⟨4, 2, 1, 0⟩
@[reducible] def lit1 : Mg := ⟨1, 2, 0, 1, 3, 9, 0⟩
@[reducible] def lit2 : Mg := ⟨2, 2, 1, 2, 4, 0, 0⟩
def mS : Mg := ⟨1, 2, 0, 1, 3, 9, 0⟩
def mR : Mg := ⟨2, 2, 1, 2, 4, 0, 0⟩
def kT : Two64 := ofOf 4 2 0
theorem told_new (w : World) : Calls Try.prog 10 #[.int .u64 4, .int .i64 2] w (MadeS w s0) := snew_ok 4#64 2 (by decide) (by decide) w
theorem told_new16 (w : World) : Calls Try.prog 10 #[.int .u64 1, .int .i64 16] w fun e w' => e = .returned (.pointer none) ∧ w = w' := snew_nil 1#64 16 (by decide) w
theorem told_samp {w : World} {b : Nat} (H : SlAt 83 w b s0) : Calls Try.prog 13 #[.pointer (some ⟨b, 0, none⟩), .int .i64 0, .int .i64 3, .int .i64 9] w (LeavesS w b (sealOf kT.a kT.b mS) 0 s1) := by
  have h := ssample_yes 0 3 9 (by decide +kernel) w H
  rw [show s0.msg (s0.samp 0 3 9) = mS from rfl, show s0.k = kT from rfl, show (⟨s0.seed, s0.who, s0.gen, s0.seq + 1⟩ : Sl) = s1 from rfl] at h
  exact h
theorem told_samp9 {w : World} {b : Nat} (H : SlAt 83 w b s1) : Calls Try.prog 13 #[.pointer (some ⟨b, 0, none⟩), .int .i64 9, .int .i64 3, .int .i64 9] w (LeavesS w b [] 1 s1) :=
  ssample_no 9 3 9 (by decide +kernel) w H
theorem told_rot {w : World} {b : Nat} (H : SlAt 83 w b s1) : Calls Try.prog 17 #[.pointer (some ⟨b, 0, none⟩), .int .i64 4] w (LeavesS w b (sealOf kT.a kT.b mR) 0 s2) := by
  have h := srotate_yes 4 (by decide +kernel) w H
  rw [show s1.msg (s1.rota 4) = mR from rfl, show s1.k = kT from rfl, show (⟨s1.seed, s1.who, s1.gen + 1, 0⟩ : Sl) = s2 from rfl] at h
  exact h
theorem told_gen {w : World} {b : Nat} (H : SlAt 83 w b s2) : Calls Try.prog 19 #[.pointer (some ⟨b, 0, none⟩)] w fun e w' => e = .returned (.int .i64 1) ∧ w = w' := sgen_any w H
theorem told_seq {w : World} {b : Nat} (H : SlAt 83 w b s2) : Calls Try.prog 20 #[.pointer (some ⟨b, 0, none⟩)] w fun e w' => e = .returned (.int .i64 0) ∧ w = w' := sseq_any w H

set_option maxHeartbeats 6400000 in
theorem told_any (w : World) :
    Calls Try.prog 12 #[] w fun e w' => e = .returned (.bool true) ∧ w.grownBy w' none := by
  have hm1 : mayOf mS = true := by decide +kernel
  have hm2 : mayOf mR = true := by decide +kernel
  have he1 : ∀ w, (Op.equalIn 10000 46 (mg mS) (.agg lit1.cells)).run Try.prog w = .ok true w := fun w => by
    have := msg_equal mS mS w; rw [msgEq_self] at this; exact this
  have he2 : ∀ w, (Op.equalIn 10000 46 (mg mR) (.agg lit2.cells)).run Try.prog w = .ok true w := fun w => by
    have := msg_equal mR mR w; rw [msgEq_self] at this; exact this
  have EO : Hid (∀ w, Calls Try.prog 32 #[.int .u64 4, .int .i64 2, .int .i64 0] w fun e w' => e = .returned (pair kT.a kT.b) ∧ w.grownBy w' none) := hid (fun w => of_any 4#64 2 0 w)
  have TS := hid (fun w b => @told_samp w b)
  have TR := hid (fun w b => @told_rot w b)
  generalize mS = m1 at hm1 he1 TS
  generalize mR = m2 at hm2 he2 TR
  generalize kT.a = ka at EO TS TR
  generalize kT.b = kb at EO TS TR
  go_enter Try.func12, Try.ntmps12
  go_wp2_with fail
  refine (told_new _).mono ?_
  rintro e w1 ⟨b, rfl, hs, hg, hb⟩
  have K1 := hid (ko_start hs hg hb); clear hs hg hb
  go_wp2_with fail
  refine (TS.out _ _ K1.out.ob).mono ?_
  rintro e w2 ⟨dv, rfl, ho, hs, hc⟩
  have K2 := hid (K1.out.sealed ho hs hc); clear ho hs hc K1 TS
  go_wp2_with fail
  have SP := split_own m1 hm1 ka kb dv w2 K2.out.y0
  refine SP.mono ?_
  rintro e w3 ⟨ys, rfl, ho, hg⟩
  generalize sumOf ka kb (putOf m1) = ta at *
  generalize sumOf kb (inv ka) (putOf m1) = tb at *
  have k3 := ((K2.out.more ho hg).alloc (msgObj m1)).alloc (tagObj ta tb)
  rw [size_alloc] at k3
  have K3 := hid k3; clear k3 ho hg K2 SP
  go_upto_region 6 with fail
  refine wp_gen (fun wx => Ko w 83 b s1 [(w3.heap.size + 1, tagObj ta tb), (w3.heap.size, msgObj m1)] [(ys, putOf m1), (dv, sealOf ka kb m1)] wx) K3.out ?_
  clear K3
  generalize w3.heap.size + 1 = t2
  generalize w3.heap.size = t1
  intro w4 h4
  have K4 := hid h4; clear h4
  go_wp2_with fail
  refine (told_samp9 K4.out.ob).mono ?_
  rintro e w5 ⟨nv, rfl, ho, hs, hc⟩
  have K5 := hid (K4.out.leave hs hc); clear ho hs hc K4
  go_wp2_with fail
  refine (TR.out _ _ K5.out.ob).mono ?_
  rintro e w6 ⟨ev, rfl, ho, hs, hc⟩
  have K6 := hid (K5.out.sealed ho hs hc); clear ho hs hc K5 TR
  go_wp2_with fail
  have TG := hid (fun v w h => tag_any ka kb v (putOf m2) w h)
  have SP := split_own m2 hm2 ka kb ev w6 K6.out.y0
  generalize sumOf ka kb (putOf m2) = tc at *
  generalize sumOf kb (inv ka) (putOf m2) = td at *
  refine SP.mono ?_
  rintro e w7 ⟨xs, rfl, ho, hg⟩
  have k7 := ((K6.out.more ho hg).alloc (msgObj m2)).alloc (tagObj tc td)
  rw [size_alloc] at k7
  have K7 := hid k7; clear k7 ho hg K6 SP
  go_upto_region 9 with fail
  refine wp_gen (fun wx => Ko w 83 b s2 [(w7.heap.size + 1, tagObj tc td), (w7.heap.size, msgObj m2), (t2, tagObj ta tb), (t1, msgObj m1)] [(xs, putOf m2), (ev, sealOf ka kb m2), (ys, putOf m1), (dv, sealOf ka kb m1)] wx) K7.out ?_
  clear K7
  generalize w7.heap.size + 1 = t4
  generalize w7.heap.size = t3
  intro w8 h8
  have K8 := hid h8; clear h8
  go_wp2_with fail
  refine (sbeat_nil 0 _).mono ?_
  rintro e w9 ⟨rfl, hg⟩
  have K9 := hid (K8.out.grown hg); clear hg K8
  go_wp2_with fail
  have ht : ∀ w, (Op.equalIn 10000 48 (.agg #[.int .u64 (q tc), .int .u64 (q td)]) (.agg #[.int .u64 (q tc), .int .u64 (q td)])).run Try.prog w = .ok true w := fun w => by
    rw [tag_equal]; simp
  refine wp_region_held_drew (S := (fun w' => (Ko w 83 b s2 [(t4, tagObj tc td), (t3, msgObj m2), (t2, tagObj ta tb), (t1, msgObj m1)] [(xs, putOf m2), (ev, sealOf ka kb m2), (ys, putOf m1), (dv, sealOf ka kb m1)] w'))) (by kernel_rfl) K9.out.drew (fun hHeld => ?_)
  try dsimp only at hHeld
  refine' wpAnyH_take (i := 0) (v := _) rfl (by kernel_rfl) (by kernel_rfl) (by kernel_rfl) (fun _ _ _ h => h) (Or.inl ⟨by rfl, ?_⟩) hHeld ?_
  rotate_left
  · (intro w hSw; (try dsimp only at hSw); go_simp; try with_reducible rfl)
  try simp only [Act.put, List.setIfInBounds_toArray, List.set_cons_zero, List.set_cons_succ, List.getElem_toArray, List.getElem_cons_succ, List.getElem_cons_zero]
  refine' wpAnyH_take (i := 1) (v := _) rfl (by kernel_rfl) (by kernel_rfl) (by kernel_rfl) (fun _ _ _ h => h) (Or.inl ⟨by rfl, ?_⟩) hHeld ?_
  rotate_left
  · (intro w hSw; (try dsimp only at hSw); go_simp; try with_reducible rfl)
  try simp only [Act.put, List.setIfInBounds_toArray, List.set_cons_zero, List.set_cons_succ, List.getElem_toArray, List.getElem_cons_succ, List.getElem_cons_zero]
  refine' wpAnyH_take (i := 2) (v := _) rfl (by kernel_rfl) (by kernel_rfl) (by kernel_rfl) (fun _ _ _ h => h) (Or.inl ⟨by rfl, ?_⟩) hHeld ?_
  rotate_left
  · (intro w hSw; (try dsimp only at hSw); go_simp; try with_reducible rfl)
  try simp only [Act.put, List.setIfInBounds_toArray, List.set_cons_zero, List.set_cons_succ, List.getElem_toArray, List.getElem_cons_succ, List.getElem_cons_zero]
  refine' wpAnyH_take (i := 3) (v := _) rfl (by kernel_rfl) (by kernel_rfl) (by kernel_rfl) (fun _ _ _ h => h) (Or.inl ⟨by rfl, ?_⟩) hHeld ?_
  rotate_left
  · (intro w hSw; (try dsimp only at hSw); go_simp; try with_reducible rfl)
  try simp only [Act.put, List.setIfInBounds_toArray, List.set_cons_zero, List.set_cons_succ, List.getElem_toArray, List.getElem_cons_succ, List.getElem_cons_zero]
  refine' wpAnyH_take (i := 4) (v := _) rfl (by kernel_rfl) (by kernel_rfl) (by kernel_rfl) (fun _ _ _ h => h) (Or.inl ⟨by rfl, ?_⟩) hHeld ?_
  rotate_left
  · (intro w hSw; (try dsimp only at hSw); go_simp; try with_reducible rfl)
  try simp only [Act.put, List.setIfInBounds_toArray, List.set_cons_zero, List.set_cons_succ, List.getElem_toArray, List.getElem_cons_succ, List.getElem_cons_zero]
  refine' wpAnyH_take (i := 5) (v := _) rfl (by kernel_rfl) (by kernel_rfl) (by kernel_rfl) (fun _ _ _ h => h) (Or.inl ⟨by rfl, ?_⟩) hHeld ?_
  rotate_left
  · (intro w hSw; (try dsimp only at hSw); go_simp; try with_reducible rfl)
  try simp only [Act.put, List.setIfInBounds_toArray, List.set_cons_zero, List.set_cons_succ, List.getElem_toArray, List.getElem_cons_succ, List.getElem_cons_zero]
  refine' wpAnyH_take (i := 6) (v := _) rfl (by kernel_rfl) (by kernel_rfl) (by kernel_rfl) (fun _ _ _ h => h) (Or.inl ⟨by rfl, ?_⟩) hHeld ?_
  rotate_left
  · (intro w hSw; (try dsimp only at hSw); go_simp; try with_reducible rfl)
  try simp only [Act.put, List.setIfInBounds_toArray, List.set_cons_zero, List.set_cons_succ, List.getElem_toArray, List.getElem_cons_succ, List.getElem_cons_zero]
  refine' wpAnyH_take (i := 7) (v := _) rfl (by kernel_rfl) (by kernel_rfl) (by kernel_rfl) (fun _ _ _ h => h) (Or.inl ⟨by rfl, ?_⟩) hHeld ?_
  rotate_left
  · (intro w hSw; (try dsimp only at hSw); (try simp only [List.getElem_toArray, List.getElem_cons_succ, List.getElem_cons_zero]); refine exec_row (x := .tmp 4) hSw.b3 Try.underlying46 rfl (by kernel_rfl) ?_ ?_ <;> rfl)
  try simp only [Act.put, List.setIfInBounds_toArray, List.set_cons_zero, List.set_cons_succ, List.getElem_toArray, List.getElem_cons_succ, List.getElem_cons_zero]
  refine' wpAnyH_take (i := 8) (v := _) rfl (by kernel_rfl) (by kernel_rfl) (by kernel_rfl) (fun _ _ _ h => h) (Or.inl ⟨by rfl, ?_⟩) hHeld ?_
  rotate_left
  · (intro w hSw; (try dsimp only at hSw); (try simp only [List.getElem_toArray, List.getElem_cons_succ, List.getElem_cons_zero]); refine exec_build (ty := 46) (parts := #[(0, Operand.const (Value.int IntKind.i64 1)), (1, Operand.const (Value.int IntKind.i64 2)), (3, Operand.const (Value.int IntKind.i64 1)), (4, Operand.const (Value.int IntKind.i64 3)), (5, Operand.const (Value.int IntKind.i64 9))]) (cs := lit1.cells) ?_ (by kernel_rfl) <;> rfl)
  try simp only [Act.put, List.setIfInBounds_toArray, List.set_cons_zero, List.set_cons_succ, List.getElem_toArray, List.getElem_cons_succ, List.getElem_cons_zero]
  refine' wpAnyH_take (i := 9) (v := _) rfl (by kernel_rfl) (by kernel_rfl) (by kernel_rfl) (fun _ _ _ h => h) (Or.inl ⟨by rfl, ?_⟩) hHeld ?_
  rotate_left
  · (intro w hSw; (try dsimp only at hSw); go_simp; try with_reducible rfl)
  try simp only [Act.put, List.setIfInBounds_toArray, List.set_cons_zero, List.set_cons_succ, List.getElem_toArray, List.getElem_cons_succ, List.getElem_cons_zero]
  refine' wpAnyH_take (i := 10) (v := _) rfl (by kernel_rfl) (by kernel_rfl) (by kernel_rfl) (fun _ _ _ h => h) (Or.inl ⟨by rfl, ?_⟩) hHeld ?_
  rotate_left
  · (intro w hSw; (try dsimp only at hSw); go_simp; try with_reducible rfl)
  try simp only [Act.put, List.setIfInBounds_toArray, List.set_cons_zero, List.set_cons_succ, List.getElem_toArray, List.getElem_cons_succ, List.getElem_cons_zero]
  refine' wpAnyH_take (i := 11) (v := _) rfl (by kernel_rfl) (by kernel_rfl) (by kernel_rfl) (fun _ _ _ h => h) (Or.inl ⟨by rfl, ?_⟩) hHeld ?_
  rotate_left
  · (intro w hSw; (try dsimp only at hSw); go_simp; try with_reducible rfl)
  try simp only [Act.put, List.setIfInBounds_toArray, List.set_cons_zero, List.set_cons_succ, List.getElem_toArray, List.getElem_cons_succ, List.getElem_cons_zero]
  refine' wpAnyH_take (i := 12) (v := _) rfl (by kernel_rfl) (by kernel_rfl) (by kernel_rfl) (fun _ _ _ h => h) (Or.inl ⟨by rfl, ?_⟩) hHeld ?_
  rotate_left
  · (intro w hSw; (try dsimp only at hSw); go_simp; try with_reducible rfl)
  try simp only [Act.put, List.setIfInBounds_toArray, List.set_cons_zero, List.set_cons_succ, List.getElem_toArray, List.getElem_cons_succ, List.getElem_cons_zero]
  refine' wpAnyH_take (i := 13) (v := _) rfl (by kernel_rfl) (by kernel_rfl) (by kernel_rfl) (fun _ _ _ h => h) (Or.inl ⟨by rfl, ?_⟩) hHeld ?_
  rotate_left
  · (intro w hSw; (try dsimp only at hSw); go_simp; try with_reducible rfl)
  try simp only [Act.put, List.setIfInBounds_toArray, List.set_cons_zero, List.set_cons_succ, List.getElem_toArray, List.getElem_cons_succ, List.getElem_cons_zero]
  refine' wpAnyH_take (i := 14) (v := _) rfl (by kernel_rfl) (by kernel_rfl) (by kernel_rfl) (fun _ _ _ h => h) (Or.inl ⟨by rfl, ?_⟩) hHeld ?_
  rotate_left
  · (intro w hSw; (try dsimp only at hSw); go_simp; try with_reducible rfl)
  try simp only [Act.put, List.setIfInBounds_toArray, List.set_cons_zero, List.set_cons_succ, List.getElem_toArray, List.getElem_cons_succ, List.getElem_cons_zero]
  refine' wpAnyH_take (i := 15) (v := _) rfl (by kernel_rfl) (by kernel_rfl) (by kernel_rfl) (fun _ _ _ h => h) (Or.inl ⟨by rfl, ?_⟩) hHeld ?_
  rotate_left
  · (intro w hSw; (try dsimp only at hSw); go_simp; try with_reducible rfl)
  try simp only [Act.put, List.setIfInBounds_toArray, List.set_cons_zero, List.set_cons_succ, List.getElem_toArray, List.getElem_cons_succ, List.getElem_cons_zero]
  refine' wpAnyH_take (i := 16) (v := _) rfl (by kernel_rfl) (by kernel_rfl) (by kernel_rfl) (fun _ _ _ h => h) (Or.inl ⟨by rfl, ?_⟩) hHeld ?_
  rotate_left
  · (intro w hSw; (try dsimp only at hSw); go_simp; try with_reducible rfl)
  try simp only [Act.put, List.setIfInBounds_toArray, List.set_cons_zero, List.set_cons_succ, List.getElem_toArray, List.getElem_cons_succ, List.getElem_cons_zero]
  refine' wpAnyH_take (i := 17) (v := _) rfl (by kernel_rfl) (by kernel_rfl) (by kernel_rfl) (fun _ _ _ h => h) (Or.inl ⟨by rfl, ?_⟩) hHeld ?_
  rotate_left
  · (intro w hSw; (try dsimp only at hSw); go_simp; try with_reducible rfl)
  try simp only [Act.put, List.setIfInBounds_toArray, List.set_cons_zero, List.set_cons_succ, List.getElem_toArray, List.getElem_cons_succ, List.getElem_cons_zero]
  refine' wpAnyH_take (i := 18) (v := _) rfl (by kernel_rfl) (by kernel_rfl) (by kernel_rfl) (fun _ _ _ h => h) (Or.inl ⟨by rfl, ?_⟩) hHeld ?_
  rotate_left
  · (intro w hSw; (try dsimp only at hSw); go_simp; try with_reducible rfl)
  try simp only [Act.put, List.setIfInBounds_toArray, List.set_cons_zero, List.set_cons_succ, List.getElem_toArray, List.getElem_cons_succ, List.getElem_cons_zero]
  refine' wpAnyH_take (i := 19) (v := _) rfl (by kernel_rfl) (by kernel_rfl) (by kernel_rfl) (fun _ _ _ h => h) (Or.inl ⟨by rfl, ?_⟩) hHeld ?_
  rotate_left
  · (intro w hSw; (try dsimp only at hSw); go_simp; try with_reducible rfl)
  try simp only [Act.put, List.setIfInBounds_toArray, List.set_cons_zero, List.set_cons_succ, List.getElem_toArray, List.getElem_cons_succ, List.getElem_cons_zero]
  refine' wpAnyH_take (i := 20) (v := _) rfl (by kernel_rfl) (by kernel_rfl) (by kernel_rfl) (fun _ _ _ h => h) (Or.inl ⟨by rfl, ?_⟩) hHeld ?_
  rotate_left
  · (intro w hSw; (try dsimp only at hSw); go_simp; try with_reducible rfl)
  try simp only [Act.put, List.setIfInBounds_toArray, List.set_cons_zero, List.set_cons_succ, List.getElem_toArray, List.getElem_cons_succ, List.getElem_cons_zero]
  refine' wpAnyH_take (i := 21) (v := _) rfl (by kernel_rfl) (by kernel_rfl) (by kernel_rfl) (fun _ _ _ h => h) (Or.inl ⟨by rfl, ?_⟩) hHeld ?_
  rotate_left
  · (intro w hSw; (try dsimp only at hSw); go_simp; try with_reducible rfl)
  try simp only [Act.put, List.setIfInBounds_toArray, List.set_cons_zero, List.set_cons_succ, List.getElem_toArray, List.getElem_cons_succ, List.getElem_cons_zero]
  refine' wpAnyH_take (i := 22) (v := _) rfl (by kernel_rfl) (by kernel_rfl) (by kernel_rfl) (fun _ _ _ h => h) (Or.inl ⟨by rfl, ?_⟩) hHeld ?_
  rotate_left
  · (intro w hSw; (try dsimp only at hSw); go_simp; try with_reducible rfl)
  try simp only [Act.put, List.setIfInBounds_toArray, List.set_cons_zero, List.set_cons_succ, List.getElem_toArray, List.getElem_cons_succ, List.getElem_cons_zero]
  refine' wpAnyH_take (i := 23) (v := _) rfl (by kernel_rfl) (by kernel_rfl) (by kernel_rfl) (fun _ _ _ h => h) (Or.inl ⟨by rfl, ?_⟩) hHeld ?_
  rotate_left
  · (intro w hSw; (try dsimp only at hSw); go_simp; try with_reducible rfl)
  try simp only [Act.put, List.setIfInBounds_toArray, List.set_cons_zero, List.set_cons_succ, List.getElem_toArray, List.getElem_cons_succ, List.getElem_cons_zero]
  refine' wpAnyH_take (i := 24) (v := _) rfl (by kernel_rfl) (by kernel_rfl) (by kernel_rfl) (fun _ _ _ h => h) (Or.inl ⟨by rfl, ?_⟩) hHeld ?_
  rotate_left
  · (intro w hSw; (try dsimp only at hSw); (try simp only [List.getElem_toArray, List.getElem_cons_succ, List.getElem_cons_zero]); refine exec_row (x := .tmp 12) hSw.b1 Try.underlying46 rfl (by kernel_rfl) ?_ ?_ <;> rfl)
  try simp only [Act.put, List.setIfInBounds_toArray, List.set_cons_zero, List.set_cons_succ, List.getElem_toArray, List.getElem_cons_succ, List.getElem_cons_zero]
  refine' wpAnyH_take (i := 25) (v := _) rfl (by kernel_rfl) (by kernel_rfl) (by kernel_rfl) (fun _ _ _ h => h) (Or.inl ⟨by rfl, ?_⟩) hHeld ?_
  rotate_left
  · (intro w hSw; (try dsimp only at hSw); (try simp only [List.getElem_toArray, List.getElem_cons_succ, List.getElem_cons_zero]); refine exec_build (ty := 46) (parts := #[(0, Operand.const (Value.int IntKind.i64 2)), (1, Operand.const (Value.int IntKind.i64 2)), (2, Operand.const (Value.int IntKind.i64 1)), (3, Operand.const (Value.int IntKind.i64 2)), (4, Operand.const (Value.int IntKind.i64 4))]) (cs := lit2.cells) ?_ (by kernel_rfl) <;> rfl)
  try simp only [Act.put, List.setIfInBounds_toArray, List.set_cons_zero, List.set_cons_succ, List.getElem_toArray, List.getElem_cons_succ, List.getElem_cons_zero]
  refine' wpAnyH_take (i := 26) (v := _) rfl (by kernel_rfl) (by kernel_rfl) (by kernel_rfl) (fun _ _ _ h => h) (Or.inl ⟨by rfl, ?_⟩) hHeld ?_
  rotate_left
  · (intro w hSw; (try dsimp only at hSw); go_simp; try with_reducible rfl)
  try simp only [Act.put, List.setIfInBounds_toArray, List.set_cons_zero, List.set_cons_succ, List.getElem_toArray, List.getElem_cons_succ, List.getElem_cons_zero]
  refine' wpAnyH_take (i := 27) (v := _) rfl (by kernel_rfl) (by kernel_rfl) (by kernel_rfl) (fun _ _ _ h => h) (Or.inl ⟨by rfl, ?_⟩) hHeld ?_
  rotate_left
  · (intro w hSw; (try dsimp only at hSw); go_simp; try with_reducible rfl)
  try simp only [Act.put, List.setIfInBounds_toArray, List.set_cons_zero, List.set_cons_succ, List.getElem_toArray, List.getElem_cons_succ, List.getElem_cons_zero]
  refine' wpAnyH_take (i := 28) (v := _) rfl (by kernel_rfl) (by kernel_rfl) (by kernel_rfl) (fun _ _ _ h => h) (Or.inl ⟨by rfl, ?_⟩) hHeld ?_
  rotate_left
  · (intro w hSw; (try dsimp only at hSw); go_simp; try with_reducible rfl)
  try simp only [Act.put, List.setIfInBounds_toArray, List.set_cons_zero, List.set_cons_succ, List.getElem_toArray, List.getElem_cons_succ, List.getElem_cons_zero]
  refine' wpAnyH_take (i := 29) (v := _) rfl (by kernel_rfl) (by kernel_rfl) (by kernel_rfl) (fun _ _ _ h => h) (Or.inl ⟨by rfl, ?_⟩) hHeld ?_
  rotate_left
  · (intro w hSw; (try dsimp only at hSw); (try simp only [List.getElem_toArray, List.getElem_cons_succ, List.getElem_cons_zero]); refine exec_row (x := .tmp 14) hSw.b0 Try.underlying48 rfl (by kernel_rfl) ?_ ?_ <;> rfl)
  try simp only [Act.put, List.setIfInBounds_toArray, List.set_cons_zero, List.set_cons_succ, List.getElem_toArray, List.getElem_cons_succ, List.getElem_cons_zero]
  refine' wpAnyH_take (i := 31) (v := _) rfl (by kernel_rfl) (by kernel_rfl) (by kernel_rfl) (fun _ _ _ h => h) (Or.inl ⟨by rfl, ?_⟩) hHeld ?_
  rotate_left
  · (intro w hSw; (try dsimp only at hSw); go_simp; try with_reducible rfl)
  try simp only [Act.put, List.setIfInBounds_toArray, List.set_cons_zero, List.set_cons_succ, List.getElem_toArray, List.getElem_cons_succ, List.getElem_cons_zero]
  refine wpAnyH_ready (rs := [30]) (by kernel_rfl) (by simp) ?_
  refine AllReadyH.cons (o := _) rfl (fun K hK => ?_) AllReadyH.nil
  try simp only [List.getElem_toArray, List.getElem_cons_succ, List.getElem_cons_zero]
  go_simp
  have hH2 := hHeld
  have kp := hH2
  refine (EO.out _).mono ?_
  rintro e w1030 ⟨rfl, hg⟩
  have L30 := hid (show (Ko w 83 b s2 [(t4, tagObj tc td), (t3, msgObj m2), (t2, tagObj ta tb), (t1, msgObj m1)] [(xs, putOf m2), (ev, sealOf ka kb m2), (ys, putOf m1), (dv, sealOf ka kb m1)] w1030) from kp.grown hg)
  clear hHeld hg kp
  go_wp2_with fail
  refine hK.out _ _ ?_ (fun hHeld => ?_)
  · exact L30.out
  clear hK K
  try dsimp only at hHeld
  try simp only [Act.put, List.setIfInBounds_toArray, List.set_cons_zero, List.set_cons_succ, List.getElem_toArray, List.getElem_cons_succ, List.getElem_cons_zero]
  refine wpAnyH_ready (rs := [32]) (by kernel_rfl) (by simp) ?_
  refine AllReadyH.cons (o := _) rfl (fun K hK => ?_) AllReadyH.nil
  try simp only [List.getElem_toArray, List.getElem_cons_succ, List.getElem_cons_zero]
  go_simp
  have hH2 := hHeld
  have kp := hH2
  refine (TG.out _ _ kp.y0).mono ?_
  rintro e w1032 ⟨rfl, hg⟩
  have L32 := hid (show (Ko w 83 b s2 [(t4, tagObj tc td), (t3, msgObj m2), (t2, tagObj ta tb), (t1, msgObj m1)] [(xs, putOf m2), (ev, sealOf ka kb m2), (ys, putOf m1), (dv, sealOf ka kb m1)] w1032) from kp.grown hg)
  clear hHeld hg kp
  go_wp2_with fail
  refine hK.out _ _ ?_ (fun hHeld => ?_)
  · exact L32.out
  clear hK K
  try dsimp only at hHeld
  try simp only [Act.put, List.setIfInBounds_toArray, List.set_cons_zero, List.set_cons_succ, List.getElem_toArray, List.getElem_cons_succ, List.getElem_cons_zero]
  refine' wpAnyH_take (i := 33) (v := _) rfl (by kernel_rfl) (by kernel_rfl) (by kernel_rfl) (fun _ _ _ h => h) (Or.inl ⟨by rfl, ?_⟩) hHeld ?_
  rotate_left
  · (intro w hSw; (try dsimp only at hSw); go_simp; try with_reducible rfl)
  try simp only [Act.put, List.setIfInBounds_toArray, List.set_cons_zero, List.set_cons_succ, List.getElem_toArray, List.getElem_cons_succ, List.getElem_cons_zero]
  refine' wpAnyH_take (i := 34) (v := _) rfl (by kernel_rfl) (by kernel_rfl) (by kernel_rfl) (fun _ _ _ h => h) (Or.inl ⟨by rfl, ?_⟩) hHeld ?_
  rotate_left
  · (intro w hSw; (try dsimp only at hSw); go_simp; try with_reducible rfl)
  try simp only [Act.put, List.setIfInBounds_toArray, List.set_cons_zero, List.set_cons_succ, List.getElem_toArray, List.getElem_cons_succ, List.getElem_cons_zero]
  refine' wpAnyH_take (i := 35) (v := _) rfl (by kernel_rfl) (by kernel_rfl) (by kernel_rfl) (fun _ _ _ h => h) (Or.inl ⟨by rfl, ?_⟩) hHeld ?_
  rotate_left
  · (intro w hSw; (try dsimp only at hSw); go_simp; try with_reducible rfl)
  try simp only [Act.put, List.setIfInBounds_toArray, List.set_cons_zero, List.set_cons_succ, List.getElem_toArray, List.getElem_cons_succ, List.getElem_cons_zero]
  refine' wpAnyH_take (i := 36) (v := _) rfl (by kernel_rfl) (by kernel_rfl) (by kernel_rfl) (fun _ _ _ h => h) (Or.inl ⟨by rfl, ?_⟩) hHeld ?_
  rotate_left
  · (intro w hSw; (try dsimp only at hSw); go_simp; try with_reducible rfl)
  try simp only [Act.put, List.setIfInBounds_toArray, List.set_cons_zero, List.set_cons_succ, List.getElem_toArray, List.getElem_cons_succ, List.getElem_cons_zero]
  refine wpAnyH_ready (rs := [37]) (by kernel_rfl) (by simp) ?_
  refine AllReadyH.cons (o := _) rfl (fun K hK => ?_) AllReadyH.nil
  try simp only [List.getElem_toArray, List.getElem_cons_succ, List.getElem_cons_zero]
  go_simp
  have hH2 := hHeld
  have kp := hH2
  refine (grow_of (told_gen kp.ob)).mono ?_
  rintro e w1037 ⟨rfl, hg⟩
  have L37 := hid (show (Ko w 83 b s2 [(t4, tagObj tc td), (t3, msgObj m2), (t2, tagObj ta tb), (t1, msgObj m1)] [(xs, putOf m2), (ev, sealOf ka kb m2), (ys, putOf m1), (dv, sealOf ka kb m1)] w1037) from kp.grown hg)
  clear hHeld hg kp
  go_wp2_with fail
  refine hK.out _ _ ?_ (fun hHeld => ?_)
  · exact L37.out
  clear hK K
  try dsimp only at hHeld
  try simp only [Act.put, List.setIfInBounds_toArray, List.set_cons_zero, List.set_cons_succ, List.getElem_toArray, List.getElem_cons_succ, List.getElem_cons_zero]
  refine' wpAnyH_take (i := 38) (v := _) rfl (by kernel_rfl) (by kernel_rfl) (by kernel_rfl) (fun _ _ _ h => h) (Or.inl ⟨by rfl, ?_⟩) hHeld ?_
  rotate_left
  · (intro w hSw; (try dsimp only at hSw); go_simp; try with_reducible rfl)
  try simp only [Act.put, List.setIfInBounds_toArray, List.set_cons_zero, List.set_cons_succ, List.getElem_toArray, List.getElem_cons_succ, List.getElem_cons_zero]
  refine' wpAnyH_take (i := 39) (v := _) rfl (by kernel_rfl) (by kernel_rfl) (by kernel_rfl) (fun _ _ _ h => h) (Or.inl ⟨by rfl, ?_⟩) hHeld ?_
  rotate_left
  · (intro w hSw; (try dsimp only at hSw); go_simp; try with_reducible rfl)
  try simp only [Act.put, List.setIfInBounds_toArray, List.set_cons_zero, List.set_cons_succ, List.getElem_toArray, List.getElem_cons_succ, List.getElem_cons_zero]
  refine' wpAnyH_take (i := 40) (v := _) rfl (by kernel_rfl) (by kernel_rfl) (by kernel_rfl) (fun _ _ _ h => h) (Or.inl ⟨by rfl, ?_⟩) hHeld ?_
  rotate_left
  · (intro w hSw; (try dsimp only at hSw); go_simp; try with_reducible rfl)
  try simp only [Act.put, List.setIfInBounds_toArray, List.set_cons_zero, List.set_cons_succ, List.getElem_toArray, List.getElem_cons_succ, List.getElem_cons_zero]
  refine' wpAnyH_take (i := 41) (v := _) rfl (by kernel_rfl) (by kernel_rfl) (by kernel_rfl) (fun _ _ _ h => h) (Or.inl ⟨by rfl, ?_⟩) hHeld ?_
  rotate_left
  · (intro w hSw; (try dsimp only at hSw); go_simp; try with_reducible rfl)
  try simp only [Act.put, List.setIfInBounds_toArray, List.set_cons_zero, List.set_cons_succ, List.getElem_toArray, List.getElem_cons_succ, List.getElem_cons_zero]
  refine wpAnyH_ready (rs := [42]) (by kernel_rfl) (by simp) ?_
  refine AllReadyH.cons (o := _) rfl (fun K hK => ?_) AllReadyH.nil
  try simp only [List.getElem_toArray, List.getElem_cons_succ, List.getElem_cons_zero]
  go_simp
  have hH2 := hHeld
  have kp := hH2
  refine (grow_of (told_seq kp.ob)).mono ?_
  rintro e w1042 ⟨rfl, hg⟩
  have L42 := hid (show (Ko w 83 b s2 [(t4, tagObj tc td), (t3, msgObj m2), (t2, tagObj ta tb), (t1, msgObj m1)] [(xs, putOf m2), (ev, sealOf ka kb m2), (ys, putOf m1), (dv, sealOf ka kb m1)] w1042) from kp.grown hg)
  clear hHeld hg kp
  go_wp2_with fail
  refine hK.out _ _ ?_ (fun hHeld => ?_)
  · exact L42.out
  clear hK K
  try dsimp only at hHeld
  try simp only [Act.put, List.setIfInBounds_toArray, List.set_cons_zero, List.set_cons_succ, List.getElem_toArray, List.getElem_cons_succ, List.getElem_cons_zero]
  refine' wpAnyH_take (i := 43) (v := _) rfl (by kernel_rfl) (by kernel_rfl) (by kernel_rfl) (fun _ _ _ h => h) (Or.inl ⟨by rfl, ?_⟩) hHeld ?_
  rotate_left
  · (intro w hSw; (try dsimp only at hSw); go_simp; try with_reducible rfl)
  try simp only [Act.put, List.setIfInBounds_toArray, List.set_cons_zero, List.set_cons_succ, List.getElem_toArray, List.getElem_cons_succ, List.getElem_cons_zero]
  refine' wpAnyH_take (i := 44) (v := _) rfl (by kernel_rfl) (by kernel_rfl) (by kernel_rfl) (fun _ _ _ h => h) (Or.inl ⟨by rfl, ?_⟩) hHeld ?_
  rotate_left
  · (intro w hSw; (try dsimp only at hSw); go_simp; try with_reducible rfl)
  try simp only [Act.put, List.setIfInBounds_toArray, List.set_cons_zero, List.set_cons_succ, List.getElem_toArray, List.getElem_cons_succ, List.getElem_cons_zero]
  refine' wpAnyH_take (i := 45) (v := _) rfl (by kernel_rfl) (by kernel_rfl) (by kernel_rfl) (fun _ _ _ h => h) (Or.inl ⟨by rfl, ?_⟩) hHeld ?_
  rotate_left
  · (intro w hSw; (try dsimp only at hSw); go_simp; try with_reducible rfl)
  try simp only [Act.put, List.setIfInBounds_toArray, List.set_cons_zero, List.set_cons_succ, List.getElem_toArray, List.getElem_cons_succ, List.getElem_cons_zero]
  refine' wpAnyH_take (i := 46) (v := _) rfl (by kernel_rfl) (by kernel_rfl) (by kernel_rfl) (fun _ _ _ h => h) (Or.inl ⟨by rfl, ?_⟩) hHeld ?_
  rotate_left
  · (intro w hSw; (try dsimp only at hSw); go_simp; try with_reducible rfl)
  try simp only [Act.put, List.setIfInBounds_toArray, List.set_cons_zero, List.set_cons_succ, List.getElem_toArray, List.getElem_cons_succ, List.getElem_cons_zero]
  refine' wpAnyH_take (i := 47) (v := _) rfl (by kernel_rfl) (by kernel_rfl) (by kernel_rfl) (fun _ _ _ h => h) (Or.inl ⟨by rfl, ?_⟩) hHeld ?_
  rotate_left
  · (intro w hSw; (try dsimp only at hSw); go_simp; try with_reducible rfl)
  try simp only [Act.put, List.setIfInBounds_toArray, List.set_cons_zero, List.set_cons_succ, List.getElem_toArray, List.getElem_cons_succ, List.getElem_cons_zero]
  refine' wpAnyH_take (i := 48) (v := _) rfl (by kernel_rfl) (by kernel_rfl) (by kernel_rfl) (fun _ _ _ h => h) (Or.inl ⟨by rfl, ?_⟩) hHeld ?_
  rotate_left
  · (intro w hSw; (try dsimp only at hSw); go_simp; try with_reducible rfl)
  try simp only [Act.put, List.setIfInBounds_toArray, List.set_cons_zero, List.set_cons_succ, List.getElem_toArray, List.getElem_cons_succ, List.getElem_cons_zero]
  refine' wpAnyH_take (i := 49) (v := _) rfl (by kernel_rfl) (by kernel_rfl) (by kernel_rfl) (fun _ _ _ h => h) (Or.inl ⟨by rfl, ?_⟩) hHeld ?_
  rotate_left
  · (intro w hSw; (try dsimp only at hSw); go_simp; try with_reducible rfl)
  try simp only [Act.put, List.setIfInBounds_toArray, List.set_cons_zero, List.set_cons_succ, List.getElem_toArray, List.getElem_cons_succ, List.getElem_cons_zero]
  refine' wpAnyH_take (i := 50) (v := _) rfl (by kernel_rfl) (by kernel_rfl) (by kernel_rfl) (fun _ _ _ h => h) (Or.inl ⟨by rfl, ?_⟩) hHeld ?_
  rotate_left
  · (intro w hSw; (try dsimp only at hSw); go_simp; try with_reducible rfl)
  try simp only [Act.put, List.setIfInBounds_toArray, List.set_cons_zero, List.set_cons_succ, List.getElem_toArray, List.getElem_cons_succ, List.getElem_cons_zero]
  refine wpAnyH_ready (rs := [51]) (by kernel_rfl) (by simp) ?_
  refine AllReadyH.cons (o := _) rfl (fun K hK => ?_) AllReadyH.nil
  try simp only [List.getElem_toArray, List.getElem_cons_succ, List.getElem_cons_zero]
  go_simp
  have hH2 := hHeld
  have kp := hH2
  refine (grow_of (sseq_nil _)).mono ?_
  rintro e w1051 ⟨rfl, hg⟩
  have L51 := hid (show (Ko w 83 b s2 [(t4, tagObj tc td), (t3, msgObj m2), (t2, tagObj ta tb), (t1, msgObj m1)] [(xs, putOf m2), (ev, sealOf ka kb m2), (ys, putOf m1), (dv, sealOf ka kb m1)] w1051) from kp.grown hg)
  clear hHeld hg kp
  go_wp2_with fail
  refine hK.out _ _ ?_ (fun hHeld => ?_)
  · exact L51.out
  clear hK K
  try dsimp only at hHeld
  try simp only [Act.put, List.setIfInBounds_toArray, List.set_cons_zero, List.set_cons_succ, List.getElem_toArray, List.getElem_cons_succ, List.getElem_cons_zero]
  refine' wpAnyH_take (i := 52) (v := _) rfl (by kernel_rfl) (by kernel_rfl) (by kernel_rfl) (fun _ _ _ h => h) (Or.inl ⟨by rfl, ?_⟩) hHeld ?_
  rotate_left
  · (intro w hSw; (try dsimp only at hSw); go_simp; try with_reducible rfl)
  try simp only [Act.put, List.setIfInBounds_toArray, List.set_cons_zero, List.set_cons_succ, List.getElem_toArray, List.getElem_cons_succ, List.getElem_cons_zero]
  refine' wpAnyH_take (i := 53) (v := _) rfl (by kernel_rfl) (by kernel_rfl) (by kernel_rfl) (fun _ _ _ h => h) (Or.inl ⟨by rfl, ?_⟩) hHeld ?_
  rotate_left
  · (intro w hSw; (try dsimp only at hSw); go_simp; try with_reducible rfl)
  try simp only [Act.put, List.setIfInBounds_toArray, List.set_cons_zero, List.set_cons_succ, List.getElem_toArray, List.getElem_cons_succ, List.getElem_cons_zero]
  refine' wpAnyH_take (i := 54) (v := _) rfl (by kernel_rfl) (by kernel_rfl) (by kernel_rfl) (fun _ _ _ h => h) (Or.inl ⟨by rfl, ?_⟩) hHeld ?_
  rotate_left
  · (intro w hSw; (try dsimp only at hSw); go_simp; try with_reducible rfl)
  try simp only [Act.put, List.setIfInBounds_toArray, List.set_cons_zero, List.set_cons_succ, List.getElem_toArray, List.getElem_cons_succ, List.getElem_cons_zero]
  refine wpAnyH_ready (rs := [55]) (by kernel_rfl) (by simp) ?_
  refine AllReadyH.cons (o := _) rfl (fun K hK => ?_) AllReadyH.nil
  try simp only [List.getElem_toArray, List.getElem_cons_succ, List.getElem_cons_zero]
  go_simp
  have hH2 := hHeld
  have kp := hH2
  refine (grow_of (told_new16 _)).mono ?_
  rintro e w1055 ⟨rfl, hg⟩
  have L55 := hid (show (Ko w 83 b s2 [(t4, tagObj tc td), (t3, msgObj m2), (t2, tagObj ta tb), (t1, msgObj m1)] [(xs, putOf m2), (ev, sealOf ka kb m2), (ys, putOf m1), (dv, sealOf ka kb m1)] w1055) from kp.grown hg)
  clear hHeld hg kp
  go_wp2_with fail
  refine hK.out _ _ ?_ (fun hHeld => ?_)
  · exact L55.out
  clear hK K
  try dsimp only at hHeld
  try simp only [Act.put, List.setIfInBounds_toArray, List.set_cons_zero, List.set_cons_succ, List.getElem_toArray, List.getElem_cons_succ, List.getElem_cons_zero]
  refine' wpAnyH_take (i := 56) (v := _) rfl (by kernel_rfl) (by kernel_rfl) (by kernel_rfl) (fun _ _ _ h => h) (Or.inl ⟨by rfl, ?_⟩) hHeld ?_
  rotate_left
  · (intro w hSw; (try dsimp only at hSw); go_simp; try with_reducible rfl)
  try simp only [Act.put, List.setIfInBounds_toArray, List.set_cons_zero, List.set_cons_succ, List.getElem_toArray, List.getElem_cons_succ, List.getElem_cons_zero]
  refine' wpAnyH_take (i := 57) (v := _) rfl (by kernel_rfl) (by kernel_rfl) (by kernel_rfl) (fun _ _ _ h => h) (Or.inl ⟨by rfl, ?_⟩) hHeld ?_
  rotate_left
  · (intro w hSw; (try dsimp only at hSw); go_simp; try with_reducible rfl)
  try simp only [Act.put, List.setIfInBounds_toArray, List.set_cons_zero, List.set_cons_succ, List.getElem_toArray, List.getElem_cons_succ, List.getElem_cons_zero]
  refine' wpAnyH_take (i := 58) (v := _) rfl (by kernel_rfl) (by kernel_rfl) (by kernel_rfl) (fun _ _ _ h => h) (Or.inl ⟨by rfl, ?_⟩) hHeld ?_
  rotate_left
  · (intro w hSw; (try dsimp only at hSw); go_simp; try with_reducible rfl)
  try simp only [Act.put, List.setIfInBounds_toArray, List.set_cons_zero, List.set_cons_succ, List.getElem_toArray, List.getElem_cons_succ, List.getElem_cons_zero]
  refine wpAnyH_done (by kernel_rfl) ?_ _
  have kp := hHeld
  have G := hid kp.g; clear kp
  go_wp2_with fail
  go_ret
  exact ⟨rfl, G.out⟩
end Go.Proofs.Ytngfnigfkabihaa
end
section
namespace Go.Proofs.Ytngfnigfkabihaa
set_option maxRecDepth 100000
open Go.RowKit
theorem umod_small (x : Int) (m : Nat) (h0 : 0 < m) : ∃ k : Nat, k < m ∧ (IntKind.u64.wrap x).tmod (m : Int) = (k : Int) := by
  have h : 0 ≤ IntKind.u64.wrap x := by
    show 0 ≤ x % _
    exact Int.emod_nonneg _ (by decide)
  rw [Int.tmod_eq_emod_of_nonneg h]
  have a := Int.emod_nonneg (IntKind.u64.wrap x) (b := (m : Int)) (by omega)
  have b := Int.emod_lt_of_pos (IntKind.u64.wrap x) (b := (m : Int)) (by omega)
  exact ⟨((IntKind.u64.wrap x) % (m : Int)).toNat, by omega, by omega⟩
end Go.Proofs.Ytngfnigfkabihaa
end
section
namespace Go.Proofs.Ytngfnigfkabihaa
set_option maxRecDepth 100000
open Go.RowKit
theorem umod_int (x : Int) (m : Nat) (h0 : 0 < m) : ∃ k : Int, 0 ≤ k ∧ k < (m : Int) ∧ (IntKind.u64.wrap x).tmod (m : Int) = k := by
  obtain ⟨k, h1, h2⟩ := umod_small x m h0
  exact ⟨k, by omega, by omega, h2⟩
end Go.Proofs.Ytngfnigfkabihaa
end
