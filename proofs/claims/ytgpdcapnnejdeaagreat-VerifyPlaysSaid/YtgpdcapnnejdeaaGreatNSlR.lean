/-
  Contracts for the document's own collector: a new one, and the next envelope. The condition of a call: the object lies there.
-/
import Derived.Test.YtgpdcapnnejdeaaGreatJ0
import Derived.Test.YtgpdcapnnejdeaaGreatNSlP
import Derived.Test.YtgpdcapnnejdeaaGreatY15
import Derived.StillTailTactics
import Derived.WalkSpells
import Derived.WalkLawsBesides
import Derived.Deep.RegionHeld3
set_option linter.unusedSimpArgs false
set_option linter.unusedVariables false
namespace Go.Proofs.YtgpdcapnnejdeaaGreat
set_option maxRecDepth 100000
open Go.RowKit


def MadeT (w : World) (s : Sl) (e : Ending) (w' : World) : Prop := ∃ b, e = .returned (.pointer (some ⟨b, 0, none⟩)) ∧ SlAt 108 w' b s ∧ w.grownBy w' none ∧ w.heap.size ≤ b
set_option maxHeartbeats 1600000 in
theorem rsnew_ok (seed : BitVec 64) (who : Int) (h0 : 0 ≤ who) (h1 : who ≤ 15) (w : World) :
  Calls Tryz.prog 13 #[.int .u64 (q seed), .int .i64 who] w (MadeT w (.new seed who)) := by
 have L : Hid (SlAt 108 (w.alloc (.cells #[.int .u64 (q seed), .int .i64 who, .int .i64 0, .int .i64 0] 108)) w.heap.size (.new seed who)) := hid ⟨at_new w _, sl_new_ok seed h0 h1⟩
 have d0 : decide (who < 0) = false := by simp; omega
 have d1 : decide (16 ≤ who) = false := by simp; omega
 have d2 : decide (15 < who) = false := by simp; omega
 clear h0 h1
 go_enter Tryz.func13, Tryz.ntmps13
 go_wp2_with fail
 go_ret
 exact ⟨_, rfl, L.out, gb_alloc (.refl w none) _, Nat.le_refl _⟩
set_option maxHeartbeats 3200000 in
theorem rnext_yes {b : Nat} {s : Sl} (m : Mg) (hm : mayOf (s.msg m) = true) (w : World) (H : SlAt 108 w b s) :
  Calls Tryz.prog 47 #[.pointer (some ⟨b, 0, none⟩), mg m] w (LeavesR w b (sealOf s.k.a s.k.b (s.msg m)) 0 ⟨s.seed, s.who, s.gen, s.seq + 1⟩) := by
 have E : Hid (∀ w, Calls Tryz.prog 17 #[.int .u64 (q s.seed), .int .i64 s.who, .int .i64 s.gen] w fun e w' => e = .returned (pair s.k.a s.k.b) ∧ w.grownBy w' none) := hid (fun w => refof_any s.seed s.who s.gen w)
 have S := hid (fun w => rseal_good s.k.a s.k.b (s.msg m) hm w)
 have K := hid (ks_new m H)
 have L : Hid (∀ W, KS 108 w w.heap.size b s (s.msg m) W → LeavesR w b (sealOf s.k.a s.k.b (s.msg m)) 0 ⟨s.seed, s.who, s.gen, s.seq + 1⟩ (.returned (.tuple #[.string ⟨(sealOf s.k.a s.k.b (s.msg m)).toArray⟩, .int .i64 0])) (W.setCell ⟨b, 3, none⟩ (.int .i64 (s.seq + 1)))) := hid (fun W hk => ⟨rfl, (hk.ob.putSeq (by have := hk.ob.ok.q0; omega) (may_of hm).2.2.2.1.2), (chg_grown hk.gr [b]).set (.inl (by simp)) _⟩)
 have U := hid (fun W (h : KS 108 w w.heap.size b s m W) => h.put)
 have q0 := H.ok.q0; have q1 := H.ok.q1
 have s1 : IntKind.i64.wrap (s.seq + 1) = s.seq + 1 := IntWalk.i64_in _ (by omega)
 clear q0 q1 hm H
 obtain ⟨mm, hmm⟩ : ∃ mm, s.msg m = mm := ⟨_, rfl⟩
 rw [hmm] at L S U ⊢
 obtain ⟨ll, hll⟩ : ∃ ll, sealOf s.k.a s.k.b mm = ll := ⟨_, rfl⟩
 rw [hll] at S L ⊢
 clear hll
 clear hmm
 generalize s.k.a = ka at *
 generalize s.k.b = kb at *
 go_enter Tryz.func47, Tryz.ntmps47
 go_wp2_with fail
 refine wp_gen (fun wx => KS 108 w w.heap.size b s m wx) K.out ?_
 clear K
 intro wx kx
 obtain ⟨c0, c1, c2, c3, f2, f3⟩ := kx.ob.cells
 obtain ⟨o1, o3, g1, g3⟩ := kx.own
 have KX := hid kx; clear kx
 have KU := hid (U.out _ KX.out.drew)
 have NE := hid KX.out.ne
 have hh := KX.out.ob.drew.keep
 go_region_held3 (fun w' => w'.cell? ⟨b, 1, none⟩ = some (.int .i64 s.who) ∧ w'.cell? ⟨b, 3, none⟩ = some (.int .i64 s.seq) ∧ SlAt 108 w' b s) ((refine SlAt.keep ?_; (repeat (first | assumption | with_reducible exact KX.out.ob | with_reducible refine SlAt.drew ?_ | with_reducible refine SlAt.other ?_ _ NE.out)))) (first | assumption)
 clear hh NE
 go_wp2_with fail
 clear c0 c1 c2 c3 f2 f3 o1 o3 g1 g3
 refine wp_gen (fun wy => KS 108 w w.heap.size b s mm wy) (by first | exact KU.out | exact KU.out.drew) ?_
 clear KU KX U
 intro wy ky
 have KY := hid ky; clear ky
 refine wp_region_held_drew (S := (fun w' => (KS 108 w w.heap.size b s mm w'))) (by kernel_rfl) KY.out.drew (fun hHeld => ?_)
 try dsimp only at hHeld
 refine jU 0 hHeld ?_
 try simp only [jX, jD, jE, jF]
 refine jU 1 hHeld ?_
 try simp only [jX, jD, jE, jF]
 refine jU 2 hHeld ?_
 try simp only [jX, jD, jE, jF]
 refine' jT 3 rfl (by rfl) ?_ hHeld ?_
 rotate_left
 ·(intro w hSw; (try dsimp only at hSw); have kk := hSw; obtain ⟨c0, c1, c2, c3, f2, f3⟩ := kk.ob.cells; go_simp; try with_reducible rfl)
 try simp only [jX, jD, jE, jF]
 refine jU 4 hHeld ?_
 try simp only [jX, jD, jE, jF]
 refine jU 5 hHeld ?_
 try simp only [jX, jD, jE, jF]
 refine jU 6 hHeld ?_
 try simp only [jX, jD, jE, jF]
 refine' jT 7 rfl (by rfl) ?_ hHeld ?_
 rotate_left
 ·(intro w hSw; (try dsimp only at hSw); have kk := hSw; obtain ⟨c0, c1, c2, c3, f2, f3⟩ := kk.ob.cells; go_simp; try with_reducible rfl)
 try simp only [jX, jD, jE, jF]
 refine jU 8 hHeld ?_
 try simp only [jX, jD, jE, jF]
 refine jU 9 hHeld ?_
 try simp only [jX, jD, jE, jF]
 refine jU 10 hHeld ?_
 try simp only [jX, jD, jE, jF]
 refine' jT 11 rfl (by rfl) ?_ hHeld ?_
 rotate_left
 ·(intro w hSw; (try dsimp only at hSw); have kk := hSw; obtain ⟨c0, c1, c2, c3, f2, f3⟩ := kk.ob.cells; go_simp; try with_reducible rfl)
 try simp only [jX, jD, jE, jF]
 refine' jT 13 rfl (by rfl) ?_ hHeld ?_
 rotate_left
 ·(intro w hSw; (try dsimp only at hSw); (try simp only [jD, jE, jF]); refine exec_row (x := .tmp 3) hSw.box Tryz.underlying39 rfl (by kernel_rfl) ?_ ?_ <;> rfl)
 try simp only [jX, jD, jE, jF]
 refine jR [12] ?_
 refine jG rfl (fun K hK => ?_) AllReadyH.nil
 try simp only [jD, jE, jF]
 go_simp
 have hH2 := hHeld
 have kk := hH2
 refine (E.out _).mono ?_
 rintro e w1012 ⟨rfl, hg⟩
 have L12 := hid (show (KS 108 w w.heap.size b s mm w1012) from kk.grown hg)
 clear hHeld hg kk
 go_wp2_with fail
 refine hK.out _ _ ?_ (fun hHeld => ?_)
 ·exact L12.out
 clear hK K
 try dsimp only at hHeld
 try simp only [jX, jD, jE, jF]
 refine jR [14] ?_
 refine jG rfl (fun K hK => ?_) AllReadyH.nil
 try simp only [jD, jE, jF]
 go_simp
 have hH2 := hHeld
 have kk := hH2
 refine (S.out _).mono ?_
 rintro e w1014 ⟨rfl, hg⟩
 have L14 := hid (show (KS 108 w w.heap.size b s mm w1014) from kk.grown hg)
 clear hHeld hg kk
 go_wp2_with fail
 refine hK.out _ _ ?_ (fun hHeld => ?_)
 ·exact L14.out
 clear hK K
 try dsimp only at hHeld
 try simp only [jX, jD, jE, jF]
 refine jU 15 hHeld ?_
 try simp only [jX, jD, jE, jF]
 refine jU 16 hHeld ?_
 try simp only [jX, jD, jE, jF]
 refine jU 17 hHeld ?_
 try simp only [jX, jD, jE, jF]
 refine jU 18 hHeld ?_
 try simp only [jX, jD, jE, jF]
 refine jU 19 hHeld ?_
 try simp only [jX, jD, jE, jF]
 refine wpAnyH_done (by kernel_rfl) ?_ _
 have kk := hHeld
 obtain ⟨c0, c1, c2, c3, f2, f3⟩ := kk.ob.cells
 have KZ := hid kk; clear kk
 go_wp2_with fail
 go_ret2
 exact L.out _ KZ.out

set_option maxHeartbeats 3200000 in
theorem rnext_no {b : Nat} {s : Sl} (m : Mg) (hm : mayOf (s.msg m) = false) (w : World) (H : SlAt 108 w b s) :
  Calls Tryz.prog 47 #[.pointer (some ⟨b, 0, none⟩), mg m] w (LeavesR w b [] 1 s) := by
 have E : Hid (∀ w, Calls Tryz.prog 17 #[.int .u64 (q s.seed), .int .i64 s.who, .int .i64 s.gen] w fun e w' => e = .returned (pair s.k.a s.k.b) ∧ w.grownBy w' none) := hid (fun w => refof_any s.seed s.who s.gen w)
 have S := hid (fun w => rseal_bad s.k.a s.k.b (s.msg m) hm w)
 have K := hid (ks_new m H)
 have L : Hid (∀ W, KS 108 w w.heap.size b s (s.msg m) W → LeavesR w b [] 1 s (.returned (.tuple #[.string ⟨#[]⟩, .int .i64 1])) W) := hid (fun W hk => ⟨rfl, hk.ob, chg_grown hk.gr [b]⟩)
 have U := hid (fun W (h : KS 108 w w.heap.size b s m W) => h.put)
 have q0 := H.ok.q0; have q1 := H.ok.q1
 have s1 : IntKind.i64.wrap (s.seq + 1) = s.seq + 1 := IntWalk.i64_in _ (by omega)
 clear q0 q1 hm H
 obtain ⟨mm, hmm⟩ : ∃ mm, s.msg m = mm := ⟨_, rfl⟩
 rw [hmm] at L S U
 clear hmm
 generalize s.k.a = ka at *
 generalize s.k.b = kb at *
 go_enter Tryz.func47, Tryz.ntmps47
 go_wp2_with fail
 refine wp_gen (fun wx => KS 108 w w.heap.size b s m wx) K.out ?_
 clear K
 intro wx kx
 obtain ⟨c0, c1, c2, c3, f2, f3⟩ := kx.ob.cells
 obtain ⟨o1, o3, g1, g3⟩ := kx.own
 have KX := hid kx; clear kx
 have KU := hid (U.out _ KX.out.drew)
 have NE := hid KX.out.ne
 have hh := KX.out.ob.drew.keep
 go_region_held3 (fun w' => w'.cell? ⟨b, 1, none⟩ = some (.int .i64 s.who) ∧ w'.cell? ⟨b, 3, none⟩ = some (.int .i64 s.seq) ∧ SlAt 108 w' b s) ((refine SlAt.keep ?_; (repeat (first | assumption | with_reducible exact KX.out.ob | with_reducible refine SlAt.drew ?_ | with_reducible refine SlAt.other ?_ _ NE.out)))) (first | assumption)
 clear hh NE
 go_wp2_with fail
 clear c0 c1 c2 c3 f2 f3 o1 o3 g1 g3
 refine wp_gen (fun wy => KS 108 w w.heap.size b s mm wy) (by first | exact KU.out | exact KU.out.drew) ?_
 clear KU KX U
 intro wy ky
 have KY := hid ky; clear ky
 refine wp_region_held_drew (S := (fun w' => (KS 108 w w.heap.size b s mm w'))) (by kernel_rfl) KY.out.drew (fun hHeld => ?_)
 try dsimp only at hHeld
 refine jU 0 hHeld ?_
 try simp only [jX, jD, jE, jF]
 refine jU 1 hHeld ?_
 try simp only [jX, jD, jE, jF]
 refine jU 2 hHeld ?_
 try simp only [jX, jD, jE, jF]
 refine' jT 3 rfl (by rfl) ?_ hHeld ?_
 rotate_left
 ·(intro w hSw; (try dsimp only at hSw); have kk := hSw; obtain ⟨c0, c1, c2, c3, f2, f3⟩ := kk.ob.cells; go_simp; try with_reducible rfl)
 try simp only [jX, jD, jE, jF]
 refine jU 4 hHeld ?_
 try simp only [jX, jD, jE, jF]
 refine jU 5 hHeld ?_
 try simp only [jX, jD, jE, jF]
 refine jU 6 hHeld ?_
 try simp only [jX, jD, jE, jF]
 refine' jT 7 rfl (by rfl) ?_ hHeld ?_
 rotate_left
 ·(intro w hSw; (try dsimp only at hSw); have kk := hSw; obtain ⟨c0, c1, c2, c3, f2, f3⟩ := kk.ob.cells; go_simp; try with_reducible rfl)
 try simp only [jX, jD, jE, jF]
 refine jU 8 hHeld ?_
 try simp only [jX, jD, jE, jF]
 refine jU 9 hHeld ?_
 try simp only [jX, jD, jE, jF]
 refine jU 10 hHeld ?_
 try simp only [jX, jD, jE, jF]
 refine' jT 11 rfl (by rfl) ?_ hHeld ?_
 rotate_left
 ·(intro w hSw; (try dsimp only at hSw); have kk := hSw; obtain ⟨c0, c1, c2, c3, f2, f3⟩ := kk.ob.cells; go_simp; try with_reducible rfl)
 try simp only [jX, jD, jE, jF]
 refine' jT 13 rfl (by rfl) ?_ hHeld ?_
 rotate_left
 ·(intro w hSw; (try dsimp only at hSw); (try simp only [jD, jE, jF]); refine exec_row (x := .tmp 3) hSw.box Tryz.underlying39 rfl (by kernel_rfl) ?_ ?_ <;> rfl)
 try simp only [jX, jD, jE, jF]
 refine jR [12] ?_
 refine jG rfl (fun K hK => ?_) AllReadyH.nil
 try simp only [jD, jE, jF]
 go_simp
 have hH2 := hHeld
 have kk := hH2
 refine (E.out _).mono ?_
 rintro e w1012 ⟨rfl, hg⟩
 have L12 := hid (show (KS 108 w w.heap.size b s mm w1012) from kk.grown hg)
 clear hHeld hg kk
 go_wp2_with fail
 refine hK.out _ _ ?_ (fun hHeld => ?_)
 ·exact L12.out
 clear hK K
 try dsimp only at hHeld
 try simp only [jX, jD, jE, jF]
 refine jR [14] ?_
 refine jG rfl (fun K hK => ?_) AllReadyH.nil
 try simp only [jD, jE, jF]
 go_simp
 have hH2 := hHeld
 have kk := hH2
 refine (S.out _).mono ?_
 rintro e w1014 ⟨rfl, hg⟩
 have L14 := hid (show (KS 108 w w.heap.size b s mm w1014) from kk.grown hg)
 clear hHeld hg kk
 go_wp2_with fail
 refine hK.out _ _ ?_ (fun hHeld => ?_)
 ·exact L14.out
 clear hK K
 try dsimp only at hHeld
 try simp only [jX, jD, jE, jF]
 refine jU 15 hHeld ?_
 try simp only [jX, jD, jE, jF]
 refine jU 16 hHeld ?_
 try simp only [jX, jD, jE, jF]
 refine jU 17 hHeld ?_
 try simp only [jX, jD, jE, jF]
 refine jU 18 hHeld ?_
 try simp only [jX, jD, jE, jF]
 refine jU 19 hHeld ?_
 try simp only [jX, jD, jE, jF]
 refine wpAnyH_done (by kernel_rfl) ?_ _
 have kk := hHeld
 obtain ⟨c0, c1, c2, c3, f2, f3⟩ := kk.ob.cells
 have KZ := hid kk; clear kk
 go_wp2_with fail
 go_ret2
 exact L.out _ KZ.out

theorem rnext_any {b : Nat} {s : Sl} (m : Mg) (w : World) (H : SlAt 108 w b s) :
  Calls Tryz.prog 47 #[.pointer (some ⟨b, 0, none⟩), mg m] w (LeavesR w b (s.out m) (s.code m) (s.step m)) := by
 unfold Sl.out Sl.code Sl.step putC sealB
 cases h : mayOf (s.msg m)
 ·exact rnext_no m h w H
 ·exact rnext_yes m h w H
end Go.Proofs.YtgpdcapnnejdeaaGreat
