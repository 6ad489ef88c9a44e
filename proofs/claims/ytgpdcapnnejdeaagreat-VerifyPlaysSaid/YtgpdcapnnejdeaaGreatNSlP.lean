/-
  Contracts for package seal. The condition of a call: the object lies there; or it is nil.
-/
import Derived.Test.YtgpdcapnnejdeaaGreatJ0
import Derived.Test.YtgpdcapnnejdeaaGreatY25
import Derived.StillTailTactics
import Derived.WalkSpells
import Derived.WalkLawsBesides
import Derived.Deep.RegionHeld3
set_option linter.unusedSimpArgs false
set_option linter.unusedVariables false
namespace Go.Proofs.YtgpdcapnnejdeaaGreat
set_option maxRecDepth 100000
open Go.RowKit

theorem grow_of {f : FuncId} {args : Array Value} {w : World} {v : Value} (h : Calls Tryz.prog f args w fun e w' => e = .returned v ∧ w = w') : Calls Tryz.prog f args w fun e w' => e = .returned v ∧ w.grownBy w' none := h.mono fun _ _ ⟨h1, h2⟩ => ⟨h1, h2 ▸ .refl w none⟩

structure KS (t : TypeId) (w : World) (g b : Nat) (s : Sl) (m : Mg) (W : World) : Prop where
 ob : SlAt t W b s
 box : W.heap[g]? = some (.cells m.cells 39)
 gr : w.grownBy W none
 lt : b < w.heap.size
 lo : w.heap.size ≤ g
section
variable {t : TypeId} {w W W1 : World} {g b : Nat} {s : Sl} {m : Mg}
theorem KS.grown (h : KS t w g b s m W) (hg : W.grownBy W1 none) : KS t w g b s m W1 := ⟨h.ob.grown hg, at_grown h.box hg (by simp), gb_trans h.gr hg (.inl rfl), h.lt, h.lo⟩
theorem KS.drew (h : KS t w g b s m W) : KS t w g b s m W.drew := ⟨h.ob.drew, h.box, gb_drew h.gr, h.lt, h.lo⟩
theorem SlAt.keep (H : SlAt t W b s) : W.cell? ⟨b, 1, none⟩ = some (.int .i64 s.who) ∧ W.cell? ⟨b, 3, none⟩ = some (.int .i64 s.seq) ∧ SlAt t W b s := ⟨H.cells.2.1, H.cells.2.2.2.1, H⟩
theorem SlAt.other (H : SlAt t W b s) {i : Nat} (v : Value) (hn : b ≠ g) : SlAt t (W.setCell ⟨g, i, none⟩ v) b s := ⟨at_set_other H.top hn v, H.ok⟩
theorem KS.ne (h : KS t w g b s m W) : b ≠ g := by have := h.lt; have := h.lo; omega
theorem ks_new (m : Mg) (H : SlAt t w b s) : KS t w w.heap.size b s m (w.alloc (.cells m.cells 39)) := ⟨H.grown (World.grownBy_alloc _ _ _), at_new w _, gb_alloc (.refl w none) _, H.lt, Nat.le_refl _⟩
theorem KS.put (h : KS t w g b s m W) : KS t w g b s (s.msg m) ((W.setCell ⟨g, 1, none⟩ (.int .i64 s.who)).setCell ⟨g, 3, none⟩ (.int .i64 (s.seq + 1))) :=
 ⟨⟨at_set_other (at_set_other h.ob.top (by have := h.lt; have := h.lo; simp; omega) _) (by have := h.lt; have := h.lo; simp; omega) _, h.ob.ok⟩,
  by have := at_set (at_set h.box 1 (.int .i64 s.who)) 3 (.int .i64 (s.seq + 1)); exact this, gb_new (gb_new h.gr h.lo _) h.lo _, h.lt, h.lo⟩
theorem KS.own (h : KS t w g b s m W) : W.cell? ⟨g, 1, none⟩ = some (.int .i64 m.who) ∧ W.cell? ⟨g, 3, none⟩ = some (.int .i64 m.seq) ∧ W.frozen? ⟨g, 1, none⟩ = false ∧ W.frozen? ⟨g, 3, none⟩ = false := ⟨at_cell h.box 1, at_cell h.box 3, at_free h.box 1, at_free h.box 3⟩
end


def MadeS (w : World) (s : Sl) (e : Ending) (w' : World) : Prop := ∃ b, e = .returned (.pointer (some ⟨b, 0, none⟩)) ∧ SlAt 145 w' b s ∧ w.grownBy w' none ∧ w.heap.size ≤ b
set_option maxHeartbeats 1600000 in
theorem snew_ok (seed : BitVec 64) (who : Int) (h0 : 0 ≤ who) (h1 : who ≤ 15) (w : World) :
  Calls Tryz.prog 30 #[.int .u64 (q seed), .int .i64 who] w (MadeS w (.new seed who)) := by
 have L : Hid (SlAt 145 (w.alloc (.cells #[.int .u64 (q seed), .int .i64 who, .int .i64 0, .int .i64 0] 145)) w.heap.size (.new seed who)) := hid ⟨at_new w _, sl_new_ok seed h0 h1⟩
 have d0 : decide (who < 0) = false := by simp; omega
 have d1 : decide (16 ≤ who) = false := by simp; omega
 have d2 : decide (15 < who) = false := by simp; omega
 clear h0 h1
 go_enter Tryz.func30, Tryz.ntmps30
 go_wp2_with fail
 go_ret
 exact ⟨_, rfl, L.out, gb_alloc (.refl w none) _, Nat.le_refl _⟩
theorem sgen_any {b : Nat} {s : Sl} (w : World) (H : SlAt 145 w b s) :
  Calls Tryz.prog 76 #[.pointer (some ⟨b, 0, none⟩)] w fun e w' => e = .returned (.int .i64 s.gen) ∧ w = w' := by
 obtain ⟨c0, c1, c2, c3, f2, f3⟩ := H.cells
 clear H
 go_enter Tryz.func76, Tryz.ntmps76
 go_wp2_with fail
 refine (load_i64 _ s.gen _ c2).mono ?_
 rintro e w1 ⟨rfl, rfl⟩
 go_wp2_with fail
 go_ret
 exact ⟨rfl, rfl⟩
theorem sseq_any {b : Nat} {s : Sl} (w : World) (H : SlAt 145 w b s) :
  Calls Tryz.prog 110 #[.pointer (some ⟨b, 0, none⟩)] w fun e w' => e = .returned (.int .i64 s.seq) ∧ w = w' := by
 obtain ⟨c0, c1, c2, c3, f2, f3⟩ := H.cells
 clear H
 go_enter Tryz.func110, Tryz.ntmps110
 go_wp2_with fail
 refine (load_i64 _ s.seq _ c3).mono ?_
 rintro e w1 ⟨rfl, rfl⟩
 go_wp2_with fail
 go_ret
 exact ⟨rfl, rfl⟩
set_option maxHeartbeats 3200000 in
theorem seal_yes {b : Nat} {s : Sl} (m : Mg) (hm : mayOf (s.msg m) = true) (w : World) (H : SlAt 145 w b s) :
  Calls Tryz.prog 75 #[.pointer (some ⟨b, 0, none⟩), mg m] w (LeavesS w b (sealOf s.k.a s.k.b (s.msg m)) 0 ⟨s.seed, s.who, s.gen, s.seq + 1⟩) := by
 have E : Hid (∀ w, Calls Tryz.prog 34 #[.int .u64 (q s.seed), .int .i64 s.who, .int .i64 s.gen] w fun e w' => e = .returned (pair s.k.a s.k.b) ∧ w.grownBy w' none) := hid (fun w => of_any s.seed s.who s.gen w)
 have S := hid (fun w => seal_good s.k.a s.k.b (s.msg m) hm w)
 have K := hid (ks_new m H)
 have L : Hid (∀ W v, OwnB w.heap.size W v (sealOf s.k.a s.k.b (s.msg m)) → KS 145 w w.heap.size b s (s.msg m) W → LeavesS w b (sealOf s.k.a s.k.b (s.msg m)) 0 ⟨s.seed, s.who, s.gen, s.seq + 1⟩ (.returned (.tuple #[v, .int .i64 0])) (W.setCell ⟨b, 3, none⟩ (.int .i64 (s.seq + 1)))) := hid (fun W v ho hk => ⟨v, rfl, ho.chg ((chg_refl W [b]).set (.inl (by simp)) _) (fun x hx => by rcases List.mem_singleton.1 hx with rfl; exact hk.lt), (hk.ob.putSeq (by have := hk.ob.ok.q0; omega) (may_of hm).2.2.2.1.2), (chg_grown hk.gr [b]).set (.inl (by simp)) _⟩)
 have U := hid (fun W (h : KS 145 w w.heap.size b s m W) => h.put)
 have q0 := H.ok.q0; have q1 := H.ok.q1
 have s1 : IntKind.i64.wrap (s.seq + 1) = s.seq + 1 := IntWalk.i64_in _ (by omega)
 clear q0 q1 hm H
 obtain ⟨mm, hmm⟩ : ∃ mm, s.msg m = mm := ⟨_, rfl⟩
 rw [hmm] at L S U ⊢
 obtain ⟨ll, hll⟩ : ∃ ll, sealOf s.k.a s.k.b mm = ll := ⟨_, rfl⟩
 rw [hll] at S L ⊢
 clear hll
 clear hmm
 generalize s.k.a = ka at *
 generalize s.k.b = kb at *
 go_enter Tryz.func75, Tryz.ntmps75
 go_wp2_with fail
 refine wp_gen (fun wx => KS 145 w w.heap.size b s m wx) K.out ?_
 clear K
 intro wx kx
 obtain ⟨c0, c1, c2, c3, f2, f3⟩ := kx.ob.cells
 obtain ⟨o1, o3, g1, g3⟩ := kx.own
 have KX := hid kx; clear kx
 have KU := hid (U.out _ KX.out.drew)
 have NE := hid KX.out.ne
 have hh := KX.out.ob.drew.keep
 go_region_held3 (fun w' => w'.cell? ⟨b, 1, none⟩ = some (.int .i64 s.who) ∧ w'.cell? ⟨b, 3, none⟩ = some (.int .i64 s.seq) ∧ SlAt 145 w' b s) ((refine SlAt.keep ?_; (repeat (first | assumption | with_reducible exact KX.out.ob | with_reducible refine SlAt.drew ?_ | with_reducible refine SlAt.other ?_ _ NE.out)))) (first | (go_at_call 110; (with_reducible refine (sseq_any _ (by first | assumption | exact KX.out.ob | exact KX.out.ob.drew)).mono ?_); rintro e wa ⟨rfl, rfl⟩))
 clear hh NE
 go_wp2_with fail
 clear c0 c1 c2 c3 f2 f3 o1 o3 g1 g3
 refine wp_gen (fun wy => KS 145 w w.heap.size b s mm wy) (by first | exact KU.out | exact KU.out.drew) ?_
 clear KU KX U
 intro wy ky
 have KY := hid ky; clear ky
 refine wp_region_held_drew (S := (fun w' => (KS 145 w w.heap.size b s mm w'))) (by kernel_rfl) KY.out.drew (fun hHeld => ?_)
 try dsimp only at hHeld
 refine jU 0 hHeld ?_
 try simp only [jX, jD, jE, jF]
 refine jU 1 hHeld ?_
 try simp only [jX, jD, jE, jF]
 refine jU 2 hHeld ?_
 try simp only [jX, jD, jE, jF]
 refine' jT 3 rfl (by rfl) ?_ hHeld ?_
 rotate_left
 ·(intro w hSw; (try dsimp only at hSw); have kk := hSw; obtain ⟨c0, c1, c2, c3, f2, f3⟩ := kk.ob.cells; go_simp; try with_reducible rfl)
 try simp only [jX, jD, jE, jF]
 refine jU 4 hHeld ?_
 try simp only [jX, jD, jE, jF]
 refine jU 5 hHeld ?_
 try simp only [jX, jD, jE, jF]
 refine jU 6 hHeld ?_
 try simp only [jX, jD, jE, jF]
 refine' jT 7 rfl (by rfl) ?_ hHeld ?_
 rotate_left
 ·(intro w hSw; (try dsimp only at hSw); have kk := hSw; obtain ⟨c0, c1, c2, c3, f2, f3⟩ := kk.ob.cells; go_simp; try with_reducible rfl)
 try simp only [jX, jD, jE, jF]
 refine jU 8 hHeld ?_
 try simp only [jX, jD, jE, jF]
 refine' jT 11 rfl (by rfl) ?_ hHeld ?_
 rotate_left
 ·(intro w hSw; (try dsimp only at hSw); (try simp only [jD, jE, jF]); refine exec_row (x := .tmp 3) hSw.box Tryz.underlying39 rfl (by kernel_rfl) ?_ ?_ <;> rfl)
 try simp only [jX, jD, jE, jF]
 refine jR [9] ?_
 refine jG rfl (fun K hK => ?_) AllReadyH.nil
 try simp only [jD, jE, jF]
 go_simp
 have hH2 := hHeld
 have kk := hH2
 refine (grow_of (sgen_any _ kk.ob)).mono ?_
 rintro e w1009 ⟨rfl, hg⟩
 have L9 := hid (show (KS 145 w w.heap.size b s mm w1009) from kk.grown hg)
 clear hHeld hg kk
 go_wp2_with fail
 refine hK.out _ _ ?_ (fun hHeld => ?_)
 ·exact L9.out
 clear hK K
 try dsimp only at hHeld
 try simp only [jX, jD, jE, jF]
 refine jR [10] ?_
 refine jG rfl (fun K hK => ?_) AllReadyH.nil
 try simp only [jD, jE, jF]
 go_simp
 have hH2 := hHeld
 have kk := hH2
 refine (E.out _).mono ?_
 rintro e w1010 ⟨rfl, hg⟩
 have L10 := hid (show (KS 145 w w.heap.size b s mm w1010) from kk.grown hg)
 clear hHeld hg kk
 go_wp2_with fail
 refine hK.out _ _ ?_ (fun hHeld => ?_)
 ·exact L10.out
 clear hK K
 try dsimp only at hHeld
 try simp only [jX, jD, jE, jF]
 refine jR [12] ?_
 refine jG rfl (fun K hK => ?_) AllReadyH.nil
 try simp only [jD, jE, jF]
 go_simp
 have hH2 := hHeld
 have kk := hH2
 refine (S.out _).mono ?_
 rintro e w1012 ⟨v, rfl, ho, hg⟩
 have L12 := hid (show (KS 145 w w.heap.size b s mm w1012) from kk.grown hg)
 have Nov := hid (show OwnB w.heap.size w1012 v ll from (ho.le (gb_size kk.gr)))
 clear hHeld hg kk
 go_wp2_with fail
 refine hK.out _ _ ?_ (fun hHeld => ?_)
 ·exact L12.out
 clear hK K
 try dsimp only at hHeld
 try simp only [jX, jD, jE, jF]
 refine held_stronger (S' := fun w' => (fun w' => OwnB w.heap.size w' v ll) w' ∧ ((fun w' => (KS 145 w w.heap.size b s mm w'))) w') (fun _ h => h.2) _ _ _ _ ?_
 replace hHeld := And.intro Nov.out hHeld
 try dsimp only at hHeld
 refine jU 13 hHeld ?_
 try simp only [jX, jD, jE, jF]
 refine jU 14 hHeld ?_
 try simp only [jX, jD, jE, jF]
 refine jU 15 hHeld ?_
 try simp only [jX, jD, jE, jF]
 refine jU 16 hHeld ?_
 try simp only [jX, jD, jE, jF]
 refine jU 17 hHeld ?_
 try simp only [jX, jD, jE, jF]
 refine wpAnyH_done (by kernel_rfl) ?_ _
 obtain ⟨ov, kk⟩ := hHeld
 obtain ⟨c0, c1, c2, c3, f2, f3⟩ := kk.ob.cells
 have KZ := hid kk; clear kk
 have OV := hid ov; clear ov
 go_wp2_with fail
 refine (addn_i64 _ s.seq 1 (s.seq + 1) _ c3 f3 s1).mono ?_
 rintro e w9 ⟨rfl, rfl⟩
 go_wp2_with fail
 go_ret2
 exact L.out _ _ OV.out KZ.out

set_option maxHeartbeats 3200000 in
theorem seal_no {b : Nat} {s : Sl} (m : Mg) (hm : mayOf (s.msg m) = false) (w : World) (H : SlAt 145 w b s) :
  Calls Tryz.prog 75 #[.pointer (some ⟨b, 0, none⟩), mg m] w (LeavesS w b [] 1 s) := by
 have E : Hid (∀ w, Calls Tryz.prog 34 #[.int .u64 (q s.seed), .int .i64 s.who, .int .i64 s.gen] w fun e w' => e = .returned (pair s.k.a s.k.b) ∧ w.grownBy w' none) := hid (fun w => of_any s.seed s.who s.gen w)
 have S := hid (fun w => seal_bad s.k.a s.k.b (s.msg m) hm w)
 have K := hid (ks_new m H)
 have L : Hid (∀ W, KS 145 w w.heap.size b s (s.msg m) W → LeavesS w b [] 1 s (.returned (.tuple #[.slice none 0 0, .int .i64 1])) W) := hid (fun W hk => ⟨_, rfl, OwnB.nil _ _, hk.ob, chg_grown hk.gr [b]⟩)
 have U := hid (fun W (h : KS 145 w w.heap.size b s m W) => h.put)
 have q0 := H.ok.q0; have q1 := H.ok.q1
 have s1 : IntKind.i64.wrap (s.seq + 1) = s.seq + 1 := IntWalk.i64_in _ (by omega)
 clear q0 q1 hm H
 obtain ⟨mm, hmm⟩ : ∃ mm, s.msg m = mm := ⟨_, rfl⟩
 rw [hmm] at L S U
 clear hmm
 generalize s.k.a = ka at *
 generalize s.k.b = kb at *
 go_enter Tryz.func75, Tryz.ntmps75
 go_wp2_with fail
 refine wp_gen (fun wx => KS 145 w w.heap.size b s m wx) K.out ?_
 clear K
 intro wx kx
 obtain ⟨c0, c1, c2, c3, f2, f3⟩ := kx.ob.cells
 obtain ⟨o1, o3, g1, g3⟩ := kx.own
 have KX := hid kx; clear kx
 have KU := hid (U.out _ KX.out.drew)
 have NE := hid KX.out.ne
 have hh := KX.out.ob.drew.keep
 go_region_held3 (fun w' => w'.cell? ⟨b, 1, none⟩ = some (.int .i64 s.who) ∧ w'.cell? ⟨b, 3, none⟩ = some (.int .i64 s.seq) ∧ SlAt 145 w' b s) ((refine SlAt.keep ?_; (repeat (first | assumption | with_reducible exact KX.out.ob | with_reducible refine SlAt.drew ?_ | with_reducible refine SlAt.other ?_ _ NE.out)))) (first | (go_at_call 110; (with_reducible refine (sseq_any _ (by first | assumption | exact KX.out.ob | exact KX.out.ob.drew)).mono ?_); rintro e wa ⟨rfl, rfl⟩))
 clear hh NE
 go_wp2_with fail
 clear c0 c1 c2 c3 f2 f3 o1 o3 g1 g3
 refine wp_gen (fun wy => KS 145 w w.heap.size b s mm wy) (by first | exact KU.out | exact KU.out.drew) ?_
 clear KU KX U
 intro wy ky
 have KY := hid ky; clear ky
 refine wp_region_held_drew (S := (fun w' => (KS 145 w w.heap.size b s mm w'))) (by kernel_rfl) KY.out.drew (fun hHeld => ?_)
 try dsimp only at hHeld
 refine jU 0 hHeld ?_
 try simp only [jX, jD, jE, jF]
 refine jU 1 hHeld ?_
 try simp only [jX, jD, jE, jF]
 refine jU 2 hHeld ?_
 try simp only [jX, jD, jE, jF]
 refine' jT 3 rfl (by rfl) ?_ hHeld ?_
 rotate_left
 ·(intro w hSw; (try dsimp only at hSw); have kk := hSw; obtain ⟨c0, c1, c2, c3, f2, f3⟩ := kk.ob.cells; go_simp; try with_reducible rfl)
 try simp only [jX, jD, jE, jF]
 refine jU 4 hHeld ?_
 try simp only [jX, jD, jE, jF]
 refine jU 5 hHeld ?_
 try simp only [jX, jD, jE, jF]
 refine jU 6 hHeld ?_
 try simp only [jX, jD, jE, jF]
 refine' jT 7 rfl (by rfl) ?_ hHeld ?_
 rotate_left
 ·(intro w hSw; (try dsimp only at hSw); have kk := hSw; obtain ⟨c0, c1, c2, c3, f2, f3⟩ := kk.ob.cells; go_simp; try with_reducible rfl)
 try simp only [jX, jD, jE, jF]
 refine jU 8 hHeld ?_
 try simp only [jX, jD, jE, jF]
 refine' jT 11 rfl (by rfl) ?_ hHeld ?_
 rotate_left
 ·(intro w hSw; (try dsimp only at hSw); (try simp only [jD, jE, jF]); refine exec_row (x := .tmp 3) hSw.box Tryz.underlying39 rfl (by kernel_rfl) ?_ ?_ <;> rfl)
 try simp only [jX, jD, jE, jF]
 refine jR [9] ?_
 refine jG rfl (fun K hK => ?_) AllReadyH.nil
 try simp only [jD, jE, jF]
 go_simp
 have hH2 := hHeld
 have kk := hH2
 refine (grow_of (sgen_any _ kk.ob)).mono ?_
 rintro e w1009 ⟨rfl, hg⟩
 have L9 := hid (show (KS 145 w w.heap.size b s mm w1009) from kk.grown hg)
 clear hHeld hg kk
 go_wp2_with fail
 refine hK.out _ _ ?_ (fun hHeld => ?_)
 ·exact L9.out
 clear hK K
 try dsimp only at hHeld
 try simp only [jX, jD, jE, jF]
 refine jR [10] ?_
 refine jG rfl (fun K hK => ?_) AllReadyH.nil
 try simp only [jD, jE, jF]
 go_simp
 have hH2 := hHeld
 have kk := hH2
 refine (E.out _).mono ?_
 rintro e w1010 ⟨rfl, hg⟩
 have L10 := hid (show (KS 145 w w.heap.size b s mm w1010) from kk.grown hg)
 clear hHeld hg kk
 go_wp2_with fail
 refine hK.out _ _ ?_ (fun hHeld => ?_)
 ·exact L10.out
 clear hK K
 try dsimp only at hHeld
 try simp only [jX, jD, jE, jF]
 refine jR [12] ?_
 refine jG rfl (fun K hK => ?_) AllReadyH.nil
 try simp only [jD, jE, jF]
 go_simp
 have hH2 := hHeld
 have kk := hH2
 refine (S.out _).mono ?_
 rintro e w1012 ⟨rfl, hg⟩
 have L12 := hid (show (KS 145 w w.heap.size b s mm w1012) from kk.grown hg)
 clear hHeld hg kk
 go_wp2_with fail
 refine hK.out _ _ ?_ (fun hHeld => ?_)
 ·exact L12.out
 clear hK K
 try dsimp only at hHeld
 try simp only [jX, jD, jE, jF]
 refine jU 13 hHeld ?_
 try simp only [jX, jD, jE, jF]
 refine jU 14 hHeld ?_
 try simp only [jX, jD, jE, jF]
 refine jU 15 hHeld ?_
 try simp only [jX, jD, jE, jF]
 refine jU 16 hHeld ?_
 try simp only [jX, jD, jE, jF]
 refine jU 17 hHeld ?_
 try simp only [jX, jD, jE, jF]
 refine wpAnyH_done (by kernel_rfl) ?_ _
 have kk := hHeld
 obtain ⟨c0, c1, c2, c3, f2, f3⟩ := kk.ob.cells
 have KZ := hid kk; clear kk
 go_wp2_with fail
 go_ret2
 exact L.out _ KZ.out

theorem seal_any_s {b : Nat} {s : Sl} (m : Mg) (w : World) (H : SlAt 145 w b s) :
  Calls Tryz.prog 75 #[.pointer (some ⟨b, 0, none⟩), mg m] w (LeavesS w b (s.out m) (s.code m) (s.step m)) := by
 unfold Sl.out Sl.code Sl.step putC sealB
 cases h : mayOf (s.msg m)
 ·exact seal_no m h w H
 ·exact seal_yes m h w H
end Go.Proofs.YtgpdcapnnejdeaaGreat
