/-
  Contract: which key seals a message now, and which window its number is of, by the document. The condition: its gate lies there, the collector is one of its own, the message may be sent.
-/
import Derived.Test.YtgpdcapnnejdeaaGreatJ0
import Derived.Test.YtgpdcapnnejdeaaGreatNGr
import Derived.Test.YtgpdcapnnejdeaaGreatNRfB
import Derived.Deep.RegionHeld3
import Derived.Deep.QuietTactic
import Derived.BigQuiet
set_option linter.unusedSimpArgs false
set_option linter.unusedVariables false
namespace Go.Proofs.YtgpdcapnnejdeaaGreat
set_option maxRecDepth 100000
open Go.RowKit

set_option maxHeartbeats 3200000 in
theorem rkeyg_now {F : List Nat} {B : RBl} {c : Conf} {KN : Nat} {G : Gt} {kind gen seq epoch value metric : Int} (i : Nat) (now : Int) (w : World) (k0 : GrAt w F B c KN G) (hi : i < G.r.n) (g0 : 0 ≤ gen) (g1 : gen ≤ 60000) (hk : kind ≠ 2) (hkey : G.r.keyIs i gen now) (hs : gen = G.r.gen i) :
  Calls Tryz.prog 60 #[.pointer (some ⟨B.g, 0, none⟩), mg ⟨kind, (i : Int), gen, seq, epoch, value, metric⟩, .int .i64 now] w fun e w' => e = .returned (.tuple #[pair (ofOf G.r.seed i gen).a (ofOf G.r.seed i gen).b, .pointer (some ⟨B.A i, 0, none⟩), .int .i64 0]) ∧ w.grownBy w' none := by
 have K0 := hid (((kr_start k0).alloc (msgObj ⟨kind, (i : Int), gen, seq, epoch, value, metric⟩)).alloc (keyObj 0#64 0#64))
 rw [size_alloc] at K0
 have hin : 0 ≤ (i : Int) ∧ (i : Int) < (G.r.n : Int) := by omega
 have n16 := k0.ring.ok.n2
 have cc1 := k0.c1; have cc2 := k0.c2
 have CS := hid (fun u => rsealed_any ⟨kind, (i : Int), gen, seq, epoch, value, metric⟩ g0 g1 u)
 rw [show sealedOf ⟨kind, (i : Int), gen, seq, epoch, value, metric⟩ = gen from if_neg (by first | rfl | exact hk)] at CS
 have CK := hid (fun u (k : RfAt u B.r B.gn B.sn G.r) => fkey_any (i : Int) gen now u k)
 have hKE : G.r.key (i : Int) gen now = ((ofOf G.r.seed i gen), 0) := by unfold Rg.key; rw [if_pos hin, if_pos (by simpa using hkey)]
 rw [hKE] at CK
 simp only [keyVal] at CK
 clear hkey hKE
 generalize ofOf G.r.seed i gen = kv at *
 obtain ⟨ka, kb⟩ := kv
 dsimp only at *
 have CG := hid (fun u (k : GrAt u F B c KN G) => (⟨k.tops, k.ring.tops, (k.ring.cells hi).1, k.cells hi⟩ : _ ∧ _ ∧ _ ∧ _))
 have dk : (kind == 2) = false := by simpa using hk
 have ds : (gen != G.r.gen i) = false := by simpa using hs
 have ds2 : (gen == G.r.gen i) = true := by simpa using hs
 clear hs
 clear k0
 generalize G.r.gen i = gn at *
 obtain ⟨q1, q2⟩ := hin
 generalize G.r.n = nn at q2 n16 CG hi cc1 cc2
 unfold maxLen at cc1 cc2
 go_enter Tryz.func60, Tryz.ntmps60
 go_upto_region 1 with fail
 refine wp_gen (fun wx => Kr w F B c KN G [(w.heap.size + 1, keyObj 0#64 0#64), (w.heap.size, msgObj ⟨kind, (i : Int), gen, seq, epoch, value, metric⟩)] [] wx) K0.out ?_
 clear K0
 have z0 : w.heap.size ≤ w.heap.size + 1 := Nat.le_succ _
 have z1 : w.heap.size ≠ w.heap.size + 1 := by omega
 have zz := And.intro z0 z1; clear z0 z1
 generalize w.heap.size + 1 = kb1 at *
 have lb := Nat.le_refl w.heap.size
 generalize hbm : w.heap.size = bm at zz lb ⊢
 have ZZ : Hid (w.heap.size ≤ kb1) := hid (hbm ▸ zz.1)
 have NB : Hid (bm ≠ kb1) := hid zz.2
 clear zz lb
 intro w1 h1
 have K1 := hid h1; clear h1
 go_wp2_with (refine wpList_row K1.out.kp.b1 Tryz.underlying39 rfl (by kernel_rfl) rfl rfl rfl rfl ?_)
 refine (CS.out _).mono ?_
 rintro e wS ⟨rfl, hg⟩
 have K1s := hid (K1.out.grown hg); clear hg K1 CS
 have m0 : wS.cell? ⟨bm, 0, none⟩ = some (.int .i64 kind) := at_cell K1s.out.kp.b1 0
 have m1 : wS.cell? ⟨bm, 1, none⟩ = some (.int .i64 (i : Int)) := at_cell K1s.out.kp.b1 1
 obtain ⟨⟨t0, t2, t4, t6, t26, t27, t28⟩, ⟨r0, r1, r2, r3⟩, rg, ⟨x1, x2, x3, x4⟩⟩ := CG.out _ K1s.out.gt
 go_upto_region 2 with fail
 go_quiet (fail)
 clear m0 m1 t0 t2 t4 t6 t26 t27 t28 r0 r1 r2 r3 rg x1 x2 x3 x4
 have lt1 := at_lt K1s.out.kp.b0
 refine exit_gen (fun wx => (Kr w F B c KN G [(bm, msgObj ⟨kind, (i : Int), gen, seq, epoch, value, metric⟩)] [] wx ∧ TwoAt kb1 49 wx) ∧ kb1 < wx.heap.size) ⟨⟨(K1s.out.tail).grown (gb_drewQ wS _), ⟨_, _, at_grown K1s.out.kp.b0 (gb_drewQ wS _) (by simp)⟩⟩, lt1⟩ ?_
 clear K1s lt1
 rintro w2 ⟨⟨k2, tw2⟩, l2⟩
 have K2 := hid k2; have T2 := hid tw2; have L2 := hid l2; clear k2 tw2 l2
 go_wp2_with fail
 refine wp_region_held_drew (S := (fun w' => (Kr w F B c KN G [(bm, msgObj ⟨kind, (i : Int), gen, seq, epoch, value, metric⟩)] [] w') ∧ (TwoAt kb1 49 w') ∧ (kb1 < w'.heap.size))) (by kernel_rfl) ⟨K2.out.drew, T2.out, L2.out⟩ (fun hHeld => ?_)
 try dsimp only at hHeld
 refine jU 0 hHeld ?_
 try simp only [jX, jD, jE, jF]
 refine jU 1 hHeld ?_
 try simp only [jX, jD, jE, jF]
 refine jU 2 hHeld ?_
 try simp only [jX, jD, jE, jF]
 refine' jT 3 rfl (by rfl) ?_ hHeld ?_
 rotate_left
 ·(intro w hSw; (try dsimp only at hSw); obtain ⟨kk, tw, lt⟩ := hSw; obtain ⟨⟨t0, t2, t4, t6, t26, t27, t28⟩, _⟩ := CG.out _ kk.gt; have m1 : w.cell? ⟨bm, 1, none⟩ = some (Value.int IntKind.i64 (i : Int)) := at_cell kk.kp.b0 1; go_simp; try with_reducible rfl)
 try simp only [jX, jD, jE, jF]
 refine jU 4 hHeld ?_
 try simp only [jX, jD, jE, jF]
 refine' jT 5 rfl (by rfl) ?_ hHeld ?_
 rotate_left
 ·(intro w hSw; (try dsimp only at hSw); obtain ⟨kk, tw, lt⟩ := hSw; obtain ⟨⟨t0, t2, t4, t6, t26, t27, t28⟩, _⟩ := CG.out _ kk.gt; have m1 : w.cell? ⟨bm, 1, none⟩ = some (Value.int IntKind.i64 (i : Int)) := at_cell kk.kp.b0 1; go_simp; try with_reducible rfl)
 try simp only [jX, jD, jE, jF]
 refine jU 6 hHeld ?_
 try simp only [jX, jD, jE, jF]
 refine jU 7 hHeld ?_
 try simp only [jX, jD, jE, jF]
 refine jR [8, 12] ?_
 refine jG rfl (fun K hK => ?_) (jG rfl (fun K hK => ?_) AllReadyH.nil)
 ·try simp only [jD, jE, jF]
  go_simp
  have hH2 := hHeld
  obtain ⟨kk, tw, lt⟩ := hH2
  refine (CK.out _ kk.gt.ring).mono ?_
  rintro e w1008 ⟨rfl, hg⟩
  have L8 := hid (show (Kr w F B c KN G [(bm, msgObj ⟨kind, (i : Int), gen, seq, epoch, value, metric⟩)] [] w1008) ∧ (TwoAt kb1 49 w1008) ∧ (kb1 < w1008.heap.size) from ⟨kk.grown hg, tw.grown hg, Nat.lt_of_lt_of_le lt hg.size⟩)
  clear hHeld hg kk tw lt
  go_wp2_with fail
  refine hK.out _ _ ?_ (fun hHeld => ?_)
  ·exact L8.out
  clear hK K
  try dsimp only at hHeld
  try simp only [jX, jD, jE, jF]
  refine jU 9 hHeld ?_
  try simp only [jX, jD, jE, jF]
  refine jU 10 hHeld ?_
  try simp only [jX, jD, jE, jF]
  refine jU 11 hHeld ?_
  try simp only [jX, jD, jE, jF]
  refine jR [12] ?_
  refine jG rfl (fun K hK => ?_) AllReadyH.nil
  have hH2 := hHeld
  obtain ⟨kk, tw, lt⟩ := hH2
  have hg : w1008.grownBy (w1008.alloc (keyObj 0#64 0#64)) none := World.grownBy_alloc _ _ _
  obtain ⟨nk, hnk⟩ : ∃ nk, w1008.heap.size = nk := ⟨_, rfl⟩
  have hnk0 : kb1 < nk ∧ w.heap.size ≤ nk ∧ bm ≠ nk := hnk ▸ ⟨lt, kk.size, by have := at_lt kk.kp.b0; omega⟩
  have L12 := hid (show (Kr w F B c KN G [(bm, msgObj ⟨kind, (i : Int), gen, seq, epoch, value, metric⟩)] [] (w1008.alloc (keyObj 0#64 0#64))) ∧ (TwoAt kb1 49 (w1008.alloc (keyObj 0#64 0#64))) ∧ (kb1 < (w1008.alloc (keyObj 0#64 0#64)).heap.size) from ⟨kk.grown hg, tw.grown hg, Nat.lt_of_lt_of_le lt hg.size⟩)
  have Nan := hid (show TwoAt nk 49 (w1008.alloc (keyObj 0#64 0#64)) from ⟨_, _, by rw [← hnk]; exact at_new w1008 _⟩)
  clear hHeld hg kk tw lt
  try simp only [jD, jE, jF]
  go_simp
  refine hK.out _ _ ?_ (fun hHeld => ?_)
  ·exact L12.out
  clear hK K
  try dsimp only at hHeld
  try simp only [jX, jD, jE, jF]
  refine held_stronger (S' := fun w' => (fun w' => TwoAt nk 49 w') w' ∧ ((fun w' => (Kr w F B c KN G [(bm, msgObj ⟨kind, (i : Int), gen, seq, epoch, value, metric⟩)] [] w') ∧ (TwoAt kb1 49 w') ∧ (kb1 < w'.heap.size))) w') (fun _ h => h.2) _ _ _ _ ?_
  replace hHeld := And.intro Nan.out hHeld
  try dsimp only at hHeld
  refine jR [13] ?_
  refine jG rfl (fun K hK => ?_) AllReadyH.nil
  have hH2 := hHeld
  obtain ⟨an, kk, tw, lt⟩ := hH2
  obtain ⟨xo, yo, hno⟩ := id an
  have L13 := hid (show (TwoAt nk 49 (((w1008.alloc (keyObj 0#64 0#64))).setRow nk #[.int .u64 (q ka), .int .u64 (q kb)])) ∧ (Kr w F B c KN G [(bm, msgObj ⟨kind, (i : Int), gen, seq, epoch, value, metric⟩)] [] (((w1008.alloc (keyObj 0#64 0#64))).setRow nk #[.int .u64 (q ka), .int .u64 (q kb)])) ∧ (TwoAt kb1 49 (((w1008.alloc (keyObj 0#64 0#64))).setRow nk #[.int .u64 (q ka), .int .u64 (q kb)])) ∧ (kb1 < (((w1008.alloc (keyObj 0#64 0#64))).setRow nk #[.int .u64 (q ka), .int .u64 (q kb)]).heap.size) from ⟨an.row _ _, kk.rowOther hnk0.2.1 (by simp [hnk0.2.2]) (by simp), tw.other (by have := hnk0.1; omega), (by simpa [World.setRow] using lt)⟩)
  have Nbx := hid (show (((w1008.alloc (keyObj 0#64 0#64))).setRow nk #[.int .u64 (q ka), .int .u64 (q kb)]).heap[nk]? = some (.cells #[.int .u64 (q ka), .int .u64 (q kb)] 49) from at_setRow hno)
  have A13 := hid (hno)
  clear hHeld an kk tw lt
  try simp only [jD, jE, jF]
  rw [if_pos (by rfl)]
  refine wp_store_row (cs := #[.int .u64 (q ka), .int .u64 (q kb)]) A13.out (by kernel_rfl) (by kernel_rfl) (by kernel_rfl) rfl rfl rfl rfl ?_
  refine hK.out _ _ ?_ (fun hHeld => ?_)
  ·exact L13.out
  clear hK K
  try dsimp only at hHeld
  try simp only [jX, jD, jE, jF]
  refine held_stronger (S' := fun w' => (fun w' => w'.heap[nk]? = some (.cells #[.int .u64 (q ka), .int .u64 (q kb)] 49)) w' ∧ ((fun w' => (TwoAt nk 49 w') ∧ (Kr w F B c KN G [(bm, msgObj ⟨kind, (i : Int), gen, seq, epoch, value, metric⟩)] [] w') ∧ (TwoAt kb1 49 w') ∧ (kb1 < w'.heap.size))) w') (fun _ h => h.2) _ _ _ _ ?_
  replace hHeld := And.intro Nbx.out hHeld
  try dsimp only at hHeld
  refine jU 14 hHeld ?_
  try simp only [jX, jD, jE, jF]
  refine wpAnyH_done (by kernel_rfl) ?_ _
  obtain ⟨bx, an, kk, tw, lt⟩ := hHeld
  refine exit_gen (fun wx => (Kr w F B c KN G [(bm, msgObj ⟨kind, (i : Int), gen, seq, epoch, value, metric⟩)] [] wx ∧ TwoAt kb1 49 wx) ∧ wx.heap[nk]? = some (.cells #[.int .u64 (q ka), .int .u64 (q kb)] 49)) ⟨⟨kk, tw⟩, bx⟩ ?_
  clear kk tw bx an lt
  rintro w3 ⟨⟨k3, t3⟩, b3⟩
  have K3 := hid k3; have T3 := hid t3; have X3 := hid b3; clear k3 t3 b3
  obtain ⟨⟨t0, t2, t4, t6, t26, t27, t28⟩, ⟨r0, r1, r2, r3⟩, rg, ⟨x1, x2, x3, x4⟩⟩ := CG.out _ K3.out.gt
  have m1 : w3.cell? ⟨bm, 1, none⟩ = some (.int .i64 (i : Int)) := at_cell K3.out.kp.b0 1
  go_upto_region 7 with fail
  go_quiet (fail)
  clear m1 t0 t2 t4 t6 t26 t27 t28 r0 r1 r2 r3 rg x1 x2 x3 x4
  refine exit_gen (fun wx => (Kr w F B c KN G [(bm, msgObj ⟨kind, (i : Int), gen, seq, epoch, value, metric⟩)] [] wx ∧ TwoAt kb1 49 wx) ∧ wx.heap[nk]? = some (.cells #[.int .u64 (q ka), .int .u64 (q kb)] 49)) ⟨⟨K3.out.grown (gb_drewQ w3 _), T3.out.grown (gb_drewQ w3 _)⟩, at_grown X3.out (gb_drewQ w3 _) (by simp)⟩ ?_
  clear K3 T3 X3
  rintro w4 ⟨⟨k3, t3⟩, b3⟩
  have K4 := hid k3; have T4 := hid t3; have X4 := hid b3; clear k3 t3 b3
  go_wp2_with fail
  refine wp_region_held_drew (S := (fun w' => (Kr w F B c KN G [(bm, msgObj ⟨kind, (i : Int), gen, seq, epoch, value, metric⟩)] [] w') ∧ (TwoAt kb1 49 w') ∧ (w'.heap[nk]? = some (.cells #[.int .u64 (q ka), .int .u64 (q kb)] 49)))) (by kernel_rfl) ⟨K4.out.drew, T4.out, X4.out⟩ (fun hHeld => ?_)
  try dsimp only at hHeld
  refine' jT 0 rfl (by rfl) ?_ hHeld ?_
  rotate_left
  ·(intro w hSw; (try dsimp only at hSw); (try simp only [jD, jE, jF]); refine exec_row (x := .tmp 10) hSw.2.2 Tryz.underlying49 rfl (by kernel_rfl) ?_ ?_ <;> rfl)
  try simp only [jX, jD, jE, jF]
  refine jU 1 hHeld ?_
  try simp only [jX, jD, jE, jF]
  refine jU 2 hHeld ?_
  try simp only [jX, jD, jE, jF]
  refine jU 3 hHeld ?_
  try simp only [jX, jD, jE, jF]
  refine' jT 4 rfl (by rfl) ?_ hHeld ?_
  rotate_left
  ·(intro w hSw; (try dsimp only at hSw); obtain ⟨kk, tw, bx⟩ := hSw; obtain ⟨⟨t0, t2, t4, t6, t26, t27, t28⟩, _, _, ⟨x1, x2, x3, x4⟩⟩ := CG.out _ kk.gt; have m1 : w.cell? ⟨bm, 1, none⟩ = some (Value.int IntKind.i64 (i : Int)) := at_cell kk.kp.b0 1; go_simp; try with_reducible rfl)
  try simp only [jX, jD, jE, jF]
  refine jU 5 hHeld ?_
  try simp only [jX, jD, jE, jF]
  refine' jT 6 rfl (by rfl) ?_ hHeld ?_
  rotate_left
  ·(intro w hSw; (try dsimp only at hSw); obtain ⟨kk, tw, bx⟩ := hSw; obtain ⟨⟨t0, t2, t4, t6, t26, t27, t28⟩, _, _, ⟨x1, x2, x3, x4⟩⟩ := CG.out _ kk.gt; have m1 : w.cell? ⟨bm, 1, none⟩ = some (Value.int IntKind.i64 (i : Int)) := at_cell kk.kp.b0 1; go_simp; try with_reducible rfl)
  try simp only [jX, jD, jE, jF]
  refine jU 7 hHeld ?_
  try simp only [jX, jD, jE, jF]
  refine' jT 8 rfl (by rfl) ?_ hHeld ?_
  rotate_left
  ·(intro w hSw; (try dsimp only at hSw); obtain ⟨kk, tw, bx⟩ := hSw; obtain ⟨⟨t0, t2, t4, t6, t26, t27, t28⟩, _, _, ⟨x1, x2, x3, x4⟩⟩ := CG.out _ kk.gt; have m1 : w.cell? ⟨bm, 1, none⟩ = some (Value.int IntKind.i64 (i : Int)) := at_cell kk.kp.b0 1; go_simp; try with_reducible rfl)
  try simp only [jX, jD, jE, jF]
  refine jR [9] ?_
  refine jG rfl (fun K hK => ?_) AllReadyH.nil
  have hH2 := hHeld
  obtain ⟨kk, tw, bx⟩ := hH2
  obtain ⟨xo, yo, hno⟩ := id tw
  have L9 := hid (show (Kr w F B c KN G [(bm, msgObj ⟨kind, (i : Int), gen, seq, epoch, value, metric⟩)] [] ((w4.drew).setRow kb1 #[.int .u64 (q ka), .int .u64 (q kb)])) ∧ (TwoAt kb1 49 ((w4.drew).setRow kb1 #[.int .u64 (q ka), .int .u64 (q kb)])) ∧ (((w4.drew).setRow kb1 #[.int .u64 (q ka), .int .u64 (q kb)]).heap[nk]? = some (.cells #[.int .u64 (q ka), .int .u64 (q kb)] 49)) from ⟨kk.rowOther ZZ.out (by simp [NB.out]) (by simp), tw.row _ _, at_setRow_other bx (by have := hnk0.1; omega)⟩)
  have Nrs := hid (show ((w4.drew).setRow kb1 #[.int .u64 (q ka), .int .u64 (q kb)]).heap[kb1]? = some (.cells #[.int .u64 (q ka), .int .u64 (q kb)] 49) from at_setRow hno)
  have A9 := hid (hno)
  clear hHeld kk tw bx
  try simp only [jD, jE, jF]
  rw [if_pos (by rfl)]
  refine wp_store_row (cs := #[.int .u64 (q ka), .int .u64 (q kb)]) A9.out (by kernel_rfl) (by kernel_rfl) (by kernel_rfl) rfl rfl rfl rfl ?_
  refine hK.out _ _ ?_ (fun hHeld => ?_)
  ·exact L9.out
  clear hK K
  try dsimp only at hHeld
  try simp only [jX, jD, jE, jF]
  refine held_stronger (S' := fun w' => (fun w' => w'.heap[kb1]? = some (.cells #[.int .u64 (q ka), .int .u64 (q kb)] 49)) w' ∧ ((fun w' => (Kr w F B c KN G [(bm, msgObj ⟨kind, (i : Int), gen, seq, epoch, value, metric⟩)] [] w') ∧ (TwoAt kb1 49 w') ∧ (w'.heap[nk]? = some (.cells #[.int .u64 (q ka), .int .u64 (q kb)] 49)))) w') (fun _ h => h.2) _ _ _ _ ?_
  replace hHeld := And.intro Nrs.out hHeld
  try dsimp only at hHeld
  refine jU 10 hHeld ?_
  try simp only [jX, jD, jE, jF]
  refine jU 11 hHeld ?_
  try simp only [jX, jD, jE, jF]
  refine wpAnyH_done (by kernel_rfl) ?_ _
  obtain ⟨rs, kk, tw, bx⟩ := hHeld
  refine exit_gen (fun wx => wx.heap[kb1]? = some (.cells #[.int .u64 (q ka), .int .u64 (q kb)] 49) ∧ w.grownBy wx none) ⟨rs, kk.kp.g⟩ ?_
  clear kk tw bx rs
  rintro w5 ⟨rs4, g4⟩
  have r0 : w5.cell? ⟨kb1, 0, none⟩ = some (.int .u64 (q ka)) := at_cell rs4 0
  have r1 : w5.cell? ⟨kb1, 1, none⟩ = some (.int .u64 (q kb)) := at_cell rs4 1
  have G4 := hid g4; clear g4 rs4
  go_wp2_with fail
  exact bodyPost_ret (v := .tuple #[pair ka kb, .pointer (some ⟨B.A i, 0, none⟩), .int .i64 0]) (by simp [results, Tryz.results60, go_sem, r0, r1]) rfl ⟨rfl, G4.out⟩
 ·have hH2 := hHeld
  obtain ⟨kk, tw, lt⟩ := hH2
  have hg : w2.drew.grownBy (w2.drew.alloc (keyObj 0#64 0#64)) none := World.grownBy_alloc _ _ _
  obtain ⟨nk, hnk⟩ : ∃ nk, w2.drew.heap.size = nk := ⟨_, rfl⟩
  have hnk0 : kb1 < nk ∧ w.heap.size ≤ nk ∧ bm ≠ nk := hnk ▸ ⟨lt, kk.size, by have := at_lt kk.kp.b0; omega⟩
  have L12 := hid (show (Kr w F B c KN G [(bm, msgObj ⟨kind, (i : Int), gen, seq, epoch, value, metric⟩)] [] (w2.drew.alloc (keyObj 0#64 0#64))) ∧ (TwoAt kb1 49 (w2.drew.alloc (keyObj 0#64 0#64))) ∧ (kb1 < (w2.drew.alloc (keyObj 0#64 0#64)).heap.size) from ⟨kk.grown hg, tw.grown hg, Nat.lt_of_lt_of_le lt hg.size⟩)
  have Nan := hid (show TwoAt nk 49 (w2.drew.alloc (keyObj 0#64 0#64)) from ⟨_, _, by rw [← hnk]; exact at_new w2.drew _⟩)
  clear hHeld hg kk tw lt
  try simp only [jD, jE, jF]
  go_simp
  refine hK.out _ _ ?_ (fun hHeld => ?_)
  ·exact L12.out
  clear hK K
  try dsimp only at hHeld
  try simp only [jX, jD, jE, jF]
  refine held_stronger (S' := fun w' => (fun w' => TwoAt nk 49 w') w' ∧ ((fun w' => (Kr w F B c KN G [(bm, msgObj ⟨kind, (i : Int), gen, seq, epoch, value, metric⟩)] [] w') ∧ (TwoAt kb1 49 w') ∧ (kb1 < w'.heap.size))) w') (fun _ h => h.2) _ _ _ _ ?_
  replace hHeld := And.intro Nan.out hHeld
  try dsimp only at hHeld
  refine jR [8] ?_
  refine jG rfl (fun K hK => ?_) AllReadyH.nil
  try simp only [jD, jE, jF]
  go_simp
  have hH2 := hHeld
  obtain ⟨an, kk, tw, lt⟩ := hH2
  refine (CK.out _ kk.gt.ring).mono ?_
  rintro e w1008 ⟨rfl, hg⟩
  have L8 := hid (show (TwoAt nk 49 w1008) ∧ (Kr w F B c KN G [(bm, msgObj ⟨kind, (i : Int), gen, seq, epoch, value, metric⟩)] [] w1008) ∧ (TwoAt kb1 49 w1008) ∧ (kb1 < w1008.heap.size) from ⟨an.grown hg, kk.grown hg, tw.grown hg, Nat.lt_of_lt_of_le lt hg.size⟩)
  clear hHeld hg an kk tw lt
  go_wp2_with fail
  refine hK.out _ _ ?_ (fun hHeld => ?_)
  ·exact L8.out
  clear hK K
  try dsimp only at hHeld
  try simp only [jX, jD, jE, jF]
  refine jU 9 hHeld ?_
  try simp only [jX, jD, jE, jF]
  refine jU 10 hHeld ?_
  try simp only [jX, jD, jE, jF]
  refine jU 11 hHeld ?_
  try simp only [jX, jD, jE, jF]
  refine jR [13] ?_
  refine jG rfl (fun K hK => ?_) AllReadyH.nil
  have hH2 := hHeld
  obtain ⟨an, kk, tw, lt⟩ := hH2
  obtain ⟨xo, yo, hno⟩ := id an
  have L13 := hid (show (TwoAt nk 49 ((w1008).setRow nk #[.int .u64 (q ka), .int .u64 (q kb)])) ∧ (Kr w F B c KN G [(bm, msgObj ⟨kind, (i : Int), gen, seq, epoch, value, metric⟩)] [] ((w1008).setRow nk #[.int .u64 (q ka), .int .u64 (q kb)])) ∧ (TwoAt kb1 49 ((w1008).setRow nk #[.int .u64 (q ka), .int .u64 (q kb)])) ∧ (kb1 < ((w1008).setRow nk #[.int .u64 (q ka), .int .u64 (q kb)]).heap.size) from ⟨an.row _ _, kk.rowOther hnk0.2.1 (by simp [hnk0.2.2]) (by simp), tw.other (by have := hnk0.1; omega), (by simpa [World.setRow] using lt)⟩)
  have Nbx := hid (show ((w1008).setRow nk #[.int .u64 (q ka), .int .u64 (q kb)]).heap[nk]? = some (.cells #[.int .u64 (q ka), .int .u64 (q kb)] 49) from at_setRow hno)
  have A13 := hid (hno)
  clear hHeld an kk tw lt
  try simp only [jD, jE, jF]
  rw [if_pos (by rfl)]
  refine wp_store_row (cs := #[.int .u64 (q ka), .int .u64 (q kb)]) A13.out (by kernel_rfl) (by kernel_rfl) (by kernel_rfl) rfl rfl rfl rfl ?_
  refine hK.out _ _ ?_ (fun hHeld => ?_)
  ·exact L13.out
  clear hK K
  try dsimp only at hHeld
  try simp only [jX, jD, jE, jF]
  refine held_stronger (S' := fun w' => (fun w' => w'.heap[nk]? = some (.cells #[.int .u64 (q ka), .int .u64 (q kb)] 49)) w' ∧ ((fun w' => (TwoAt nk 49 w') ∧ (Kr w F B c KN G [(bm, msgObj ⟨kind, (i : Int), gen, seq, epoch, value, metric⟩)] [] w') ∧ (TwoAt kb1 49 w') ∧ (kb1 < w'.heap.size))) w') (fun _ h => h.2) _ _ _ _ ?_
  replace hHeld := And.intro Nbx.out hHeld
  try dsimp only at hHeld
  refine jU 14 hHeld ?_
  try simp only [jX, jD, jE, jF]
  refine wpAnyH_done (by kernel_rfl) ?_ _
  obtain ⟨bx, an, kk, tw, lt⟩ := hHeld
  refine exit_gen (fun wx => (Kr w F B c KN G [(bm, msgObj ⟨kind, (i : Int), gen, seq, epoch, value, metric⟩)] [] wx ∧ TwoAt kb1 49 wx) ∧ wx.heap[nk]? = some (.cells #[.int .u64 (q ka), .int .u64 (q kb)] 49)) ⟨⟨kk, tw⟩, bx⟩ ?_
  clear kk tw bx an lt
  rintro w3 ⟨⟨k3, t3⟩, b3⟩
  have K3 := hid k3; have T3 := hid t3; have X3 := hid b3; clear k3 t3 b3
  obtain ⟨⟨t0, t2, t4, t6, t26, t27, t28⟩, ⟨r0, r1, r2, r3⟩, rg, ⟨x1, x2, x3, x4⟩⟩ := CG.out _ K3.out.gt
  have m1 : w3.cell? ⟨bm, 1, none⟩ = some (.int .i64 (i : Int)) := at_cell K3.out.kp.b0 1
  go_upto_region 7 with fail
  go_quiet (fail)
  clear m1 t0 t2 t4 t6 t26 t27 t28 r0 r1 r2 r3 rg x1 x2 x3 x4
  refine exit_gen (fun wx => (Kr w F B c KN G [(bm, msgObj ⟨kind, (i : Int), gen, seq, epoch, value, metric⟩)] [] wx ∧ TwoAt kb1 49 wx) ∧ wx.heap[nk]? = some (.cells #[.int .u64 (q ka), .int .u64 (q kb)] 49)) ⟨⟨K3.out.grown (gb_drewQ w3 _), T3.out.grown (gb_drewQ w3 _)⟩, at_grown X3.out (gb_drewQ w3 _) (by simp)⟩ ?_
  clear K3 T3 X3
  rintro w4 ⟨⟨k3, t3⟩, b3⟩
  have K4 := hid k3; have T4 := hid t3; have X4 := hid b3; clear k3 t3 b3
  go_wp2_with fail
  refine wp_region_held_drew (S := (fun w' => (Kr w F B c KN G [(bm, msgObj ⟨kind, (i : Int), gen, seq, epoch, value, metric⟩)] [] w') ∧ (TwoAt kb1 49 w') ∧ (w'.heap[nk]? = some (.cells #[.int .u64 (q ka), .int .u64 (q kb)] 49)))) (by kernel_rfl) ⟨K4.out.drew, T4.out, X4.out⟩ (fun hHeld => ?_)
  try dsimp only at hHeld
  refine' jT 0 rfl (by rfl) ?_ hHeld ?_
  rotate_left
  ·(intro w hSw; (try dsimp only at hSw); (try simp only [jD, jE, jF]); refine exec_row (x := .tmp 10) hSw.2.2 Tryz.underlying49 rfl (by kernel_rfl) ?_ ?_ <;> rfl)
  try simp only [jX, jD, jE, jF]
  refine jU 1 hHeld ?_
  try simp only [jX, jD, jE, jF]
  refine jU 2 hHeld ?_
  try simp only [jX, jD, jE, jF]
  refine jU 3 hHeld ?_
  try simp only [jX, jD, jE, jF]
  refine' jT 4 rfl (by rfl) ?_ hHeld ?_
  rotate_left
  ·(intro w hSw; (try dsimp only at hSw); obtain ⟨kk, tw, bx⟩ := hSw; obtain ⟨⟨t0, t2, t4, t6, t26, t27, t28⟩, _, _, ⟨x1, x2, x3, x4⟩⟩ := CG.out _ kk.gt; have m1 : w.cell? ⟨bm, 1, none⟩ = some (Value.int IntKind.i64 (i : Int)) := at_cell kk.kp.b0 1; go_simp; try with_reducible rfl)
  try simp only [jX, jD, jE, jF]
  refine jU 5 hHeld ?_
  try simp only [jX, jD, jE, jF]
  refine' jT 6 rfl (by rfl) ?_ hHeld ?_
  rotate_left
  ·(intro w hSw; (try dsimp only at hSw); obtain ⟨kk, tw, bx⟩ := hSw; obtain ⟨⟨t0, t2, t4, t6, t26, t27, t28⟩, _, _, ⟨x1, x2, x3, x4⟩⟩ := CG.out _ kk.gt; have m1 : w.cell? ⟨bm, 1, none⟩ = some (Value.int IntKind.i64 (i : Int)) := at_cell kk.kp.b0 1; go_simp; try with_reducible rfl)
  try simp only [jX, jD, jE, jF]
  refine jU 7 hHeld ?_
  try simp only [jX, jD, jE, jF]
  refine' jT 8 rfl (by rfl) ?_ hHeld ?_
  rotate_left
  ·(intro w hSw; (try dsimp only at hSw); obtain ⟨kk, tw, bx⟩ := hSw; obtain ⟨⟨t0, t2, t4, t6, t26, t27, t28⟩, _, _, ⟨x1, x2, x3, x4⟩⟩ := CG.out _ kk.gt; have m1 : w.cell? ⟨bm, 1, none⟩ = some (Value.int IntKind.i64 (i : Int)) := at_cell kk.kp.b0 1; go_simp; try with_reducible rfl)
  try simp only [jX, jD, jE, jF]
  refine jR [9] ?_
  refine jG rfl (fun K hK => ?_) AllReadyH.nil
  have hH2 := hHeld
  obtain ⟨kk, tw, bx⟩ := hH2
  obtain ⟨xo, yo, hno⟩ := id tw
  have L9 := hid (show (Kr w F B c KN G [(bm, msgObj ⟨kind, (i : Int), gen, seq, epoch, value, metric⟩)] [] ((w4.drew).setRow kb1 #[.int .u64 (q ka), .int .u64 (q kb)])) ∧ (TwoAt kb1 49 ((w4.drew).setRow kb1 #[.int .u64 (q ka), .int .u64 (q kb)])) ∧ (((w4.drew).setRow kb1 #[.int .u64 (q ka), .int .u64 (q kb)]).heap[nk]? = some (.cells #[.int .u64 (q ka), .int .u64 (q kb)] 49)) from ⟨kk.rowOther ZZ.out (by simp [NB.out]) (by simp), tw.row _ _, at_setRow_other bx (by have := hnk0.1; omega)⟩)
  have Nrs := hid (show ((w4.drew).setRow kb1 #[.int .u64 (q ka), .int .u64 (q kb)]).heap[kb1]? = some (.cells #[.int .u64 (q ka), .int .u64 (q kb)] 49) from at_setRow hno)
  have A9 := hid (hno)
  clear hHeld kk tw bx
  try simp only [jD, jE, jF]
  rw [if_pos (by rfl)]
  refine wp_store_row (cs := #[.int .u64 (q ka), .int .u64 (q kb)]) A9.out (by kernel_rfl) (by kernel_rfl) (by kernel_rfl) rfl rfl rfl rfl ?_
  refine hK.out _ _ ?_ (fun hHeld => ?_)
  ·exact L9.out
  clear hK K
  try dsimp only at hHeld
  try simp only [jX, jD, jE, jF]
  refine held_stronger (S' := fun w' => (fun w' => w'.heap[kb1]? = some (.cells #[.int .u64 (q ka), .int .u64 (q kb)] 49)) w' ∧ ((fun w' => (Kr w F B c KN G [(bm, msgObj ⟨kind, (i : Int), gen, seq, epoch, value, metric⟩)] [] w') ∧ (TwoAt kb1 49 w') ∧ (w'.heap[nk]? = some (.cells #[.int .u64 (q ka), .int .u64 (q kb)] 49)))) w') (fun _ h => h.2) _ _ _ _ ?_
  replace hHeld := And.intro Nrs.out hHeld
  try dsimp only at hHeld
  refine jU 10 hHeld ?_
  try simp only [jX, jD, jE, jF]
  refine jU 11 hHeld ?_
  try simp only [jX, jD, jE, jF]
  refine wpAnyH_done (by kernel_rfl) ?_ _
  obtain ⟨rs, kk, tw, bx⟩ := hHeld
  refine exit_gen (fun wx => wx.heap[kb1]? = some (.cells #[.int .u64 (q ka), .int .u64 (q kb)] 49) ∧ w.grownBy wx none) ⟨rs, kk.kp.g⟩ ?_
  clear kk tw bx rs
  rintro w5 ⟨rs4, g4⟩
  have r0 : w5.cell? ⟨kb1, 0, none⟩ = some (.int .u64 (q ka)) := at_cell rs4 0
  have r1 : w5.cell? ⟨kb1, 1, none⟩ = some (.int .u64 (q kb)) := at_cell rs4 1
  have G4 := hid g4; clear g4 rs4
  go_wp2_with fail
  exact bodyPost_ret (v := .tuple #[pair ka kb, .pointer (some ⟨B.A i, 0, none⟩), .int .i64 0]) (by simp [results, Tryz.results60, go_sem, r0, r1]) rfl ⟨rfl, G4.out⟩
set_option maxHeartbeats 3200000 in
theorem rkeyg_old {F : List Nat} {B : RBl} {c : Conf} {KN : Nat} {G : Gt} {kind gen seq epoch value metric : Int} (i : Nat) (now : Int) (w : World) (k0 : GrAt w F B c KN G) (hi : i < G.r.n) (g0 : 0 ≤ gen) (g1 : gen ≤ 60000) (hk : kind ≠ 2) (hkey : G.r.keyIs i gen now) (hs : gen ≠ G.r.gen i) :
  Calls Tryz.prog 60 #[.pointer (some ⟨B.g, 0, none⟩), mg ⟨kind, (i : Int), gen, seq, epoch, value, metric⟩, .int .i64 now] w fun e w' => e = .returned (.tuple #[pair (ofOf G.r.seed i gen).a (ofOf G.r.seed i gen).b, .pointer (some ⟨B.O i, 0, none⟩), .int .i64 0]) ∧ w.grownBy w' none := by
 have K0 := hid (((kr_start k0).alloc (msgObj ⟨kind, (i : Int), gen, seq, epoch, value, metric⟩)).alloc (keyObj 0#64 0#64))
 rw [size_alloc] at K0
 have hin : 0 ≤ (i : Int) ∧ (i : Int) < (G.r.n : Int) := by omega
 have n16 := k0.ring.ok.n2
 have cc1 := k0.c1; have cc2 := k0.c2
 have CS := hid (fun u => rsealed_any ⟨kind, (i : Int), gen, seq, epoch, value, metric⟩ g0 g1 u)
 rw [show sealedOf ⟨kind, (i : Int), gen, seq, epoch, value, metric⟩ = gen from if_neg (by first | rfl | exact hk)] at CS
 have CK := hid (fun u (k : RfAt u B.r B.gn B.sn G.r) => fkey_any (i : Int) gen now u k)
 have hKE : G.r.key (i : Int) gen now = ((ofOf G.r.seed i gen), 0) := by unfold Rg.key; rw [if_pos hin, if_pos (by simpa using hkey)]
 rw [hKE] at CK
 simp only [keyVal] at CK
 clear hkey hKE
 generalize ofOf G.r.seed i gen = kv at *
 obtain ⟨ka, kb⟩ := kv
 dsimp only at *
 have CG := hid (fun u (k : GrAt u F B c KN G) => (⟨k.tops, k.ring.tops, (k.ring.cells hi).1, k.cells hi⟩ : _ ∧ _ ∧ _ ∧ _))
 have dk : (kind == 2) = false := by simpa using hk
 have ds : (gen != G.r.gen i) = true := by simpa using hs
 have ds2 : (gen == G.r.gen i) = false := by simpa using hs
 clear hs
 clear k0
 generalize G.r.gen i = gn at *
 obtain ⟨q1, q2⟩ := hin
 generalize G.r.n = nn at q2 n16 CG hi cc1 cc2
 unfold maxLen at cc1 cc2
 go_enter Tryz.func60, Tryz.ntmps60
 go_upto_region 1 with fail
 refine wp_gen (fun wx => Kr w F B c KN G [(w.heap.size + 1, keyObj 0#64 0#64), (w.heap.size, msgObj ⟨kind, (i : Int), gen, seq, epoch, value, metric⟩)] [] wx) K0.out ?_
 clear K0
 have z0 : w.heap.size ≤ w.heap.size + 1 := Nat.le_succ _
 have z1 : w.heap.size ≠ w.heap.size + 1 := by omega
 have zz := And.intro z0 z1; clear z0 z1
 generalize w.heap.size + 1 = kb1 at *
 have lb := Nat.le_refl w.heap.size
 generalize hbm : w.heap.size = bm at zz lb ⊢
 have ZZ : Hid (w.heap.size ≤ kb1) := hid (hbm ▸ zz.1)
 have NB : Hid (bm ≠ kb1) := hid zz.2
 clear zz lb
 intro w1 h1
 have K1 := hid h1; clear h1
 go_wp2_with (refine wpList_row K1.out.kp.b1 Tryz.underlying39 rfl (by kernel_rfl) rfl rfl rfl rfl ?_)
 refine (CS.out _).mono ?_
 rintro e wS ⟨rfl, hg⟩
 have K1s := hid (K1.out.grown hg); clear hg K1 CS
 have m0 : wS.cell? ⟨bm, 0, none⟩ = some (.int .i64 kind) := at_cell K1s.out.kp.b1 0
 have m1 : wS.cell? ⟨bm, 1, none⟩ = some (.int .i64 (i : Int)) := at_cell K1s.out.kp.b1 1
 obtain ⟨⟨t0, t2, t4, t6, t26, t27, t28⟩, ⟨r0, r1, r2, r3⟩, rg, ⟨x1, x2, x3, x4⟩⟩ := CG.out _ K1s.out.gt
 go_upto_region 2 with fail
 go_quiet (fail)
 clear m0 m1 t0 t2 t4 t6 t26 t27 t28 r0 r1 r2 r3 rg x1 x2 x3 x4
 have lt1 := at_lt K1s.out.kp.b0
 refine exit_gen (fun wx => (Kr w F B c KN G [(bm, msgObj ⟨kind, (i : Int), gen, seq, epoch, value, metric⟩)] [] wx ∧ TwoAt kb1 49 wx) ∧ kb1 < wx.heap.size) ⟨⟨(K1s.out.tail).grown (gb_drewQ wS _), ⟨_, _, at_grown K1s.out.kp.b0 (gb_drewQ wS _) (by simp)⟩⟩, lt1⟩ ?_
 clear K1s lt1
 rintro w2 ⟨⟨k2, tw2⟩, l2⟩
 have K2 := hid k2; have T2 := hid tw2; have L2 := hid l2; clear k2 tw2 l2
 go_wp2_with fail
 refine wp_region_held_drew (S := (fun w' => (Kr w F B c KN G [(bm, msgObj ⟨kind, (i : Int), gen, seq, epoch, value, metric⟩)] [] w') ∧ (TwoAt kb1 49 w') ∧ (kb1 < w'.heap.size))) (by kernel_rfl) ⟨K2.out.drew, T2.out, L2.out⟩ (fun hHeld => ?_)
 try dsimp only at hHeld
 refine jU 0 hHeld ?_
 try simp only [jX, jD, jE, jF]
 refine jU 1 hHeld ?_
 try simp only [jX, jD, jE, jF]
 refine jU 2 hHeld ?_
 try simp only [jX, jD, jE, jF]
 refine' jT 3 rfl (by rfl) ?_ hHeld ?_
 rotate_left
 ·(intro w hSw; (try dsimp only at hSw); obtain ⟨kk, tw, lt⟩ := hSw; obtain ⟨⟨t0, t2, t4, t6, t26, t27, t28⟩, _⟩ := CG.out _ kk.gt; have m1 : w.cell? ⟨bm, 1, none⟩ = some (Value.int IntKind.i64 (i : Int)) := at_cell kk.kp.b0 1; go_simp; try with_reducible rfl)
 try simp only [jX, jD, jE, jF]
 refine jU 4 hHeld ?_
 try simp only [jX, jD, jE, jF]
 refine' jT 5 rfl (by rfl) ?_ hHeld ?_
 rotate_left
 ·(intro w hSw; (try dsimp only at hSw); obtain ⟨kk, tw, lt⟩ := hSw; obtain ⟨⟨t0, t2, t4, t6, t26, t27, t28⟩, _⟩ := CG.out _ kk.gt; have m1 : w.cell? ⟨bm, 1, none⟩ = some (Value.int IntKind.i64 (i : Int)) := at_cell kk.kp.b0 1; go_simp; try with_reducible rfl)
 try simp only [jX, jD, jE, jF]
 refine jU 6 hHeld ?_
 try simp only [jX, jD, jE, jF]
 refine jU 7 hHeld ?_
 try simp only [jX, jD, jE, jF]
 refine jR [8, 12] ?_
 refine jG rfl (fun K hK => ?_) (jG rfl (fun K hK => ?_) AllReadyH.nil)
 ·try simp only [jD, jE, jF]
  go_simp
  have hH2 := hHeld
  obtain ⟨kk, tw, lt⟩ := hH2
  refine (CK.out _ kk.gt.ring).mono ?_
  rintro e w1008 ⟨rfl, hg⟩
  have L8 := hid (show (Kr w F B c KN G [(bm, msgObj ⟨kind, (i : Int), gen, seq, epoch, value, metric⟩)] [] w1008) ∧ (TwoAt kb1 49 w1008) ∧ (kb1 < w1008.heap.size) from ⟨kk.grown hg, tw.grown hg, Nat.lt_of_lt_of_le lt hg.size⟩)
  clear hHeld hg kk tw lt
  go_wp2_with fail
  refine hK.out _ _ ?_ (fun hHeld => ?_)
  ·exact L8.out
  clear hK K
  try dsimp only at hHeld
  try simp only [jX, jD, jE, jF]
  refine jU 9 hHeld ?_
  try simp only [jX, jD, jE, jF]
  refine jU 10 hHeld ?_
  try simp only [jX, jD, jE, jF]
  refine jU 11 hHeld ?_
  try simp only [jX, jD, jE, jF]
  refine jR [12] ?_
  refine jG rfl (fun K hK => ?_) AllReadyH.nil
  have hH2 := hHeld
  obtain ⟨kk, tw, lt⟩ := hH2
  have hg : w1008.grownBy (w1008.alloc (keyObj 0#64 0#64)) none := World.grownBy_alloc _ _ _
  obtain ⟨nk, hnk⟩ : ∃ nk, w1008.heap.size = nk := ⟨_, rfl⟩
  have hnk0 : kb1 < nk ∧ w.heap.size ≤ nk ∧ bm ≠ nk := hnk ▸ ⟨lt, kk.size, by have := at_lt kk.kp.b0; omega⟩
  have L12 := hid (show (Kr w F B c KN G [(bm, msgObj ⟨kind, (i : Int), gen, seq, epoch, value, metric⟩)] [] (w1008.alloc (keyObj 0#64 0#64))) ∧ (TwoAt kb1 49 (w1008.alloc (keyObj 0#64 0#64))) ∧ (kb1 < (w1008.alloc (keyObj 0#64 0#64)).heap.size) from ⟨kk.grown hg, tw.grown hg, Nat.lt_of_lt_of_le lt hg.size⟩)
  have Nan := hid (show TwoAt nk 49 (w1008.alloc (keyObj 0#64 0#64)) from ⟨_, _, by rw [← hnk]; exact at_new w1008 _⟩)
  clear hHeld hg kk tw lt
  try simp only [jD, jE, jF]
  go_simp
  refine hK.out _ _ ?_ (fun hHeld => ?_)
  ·exact L12.out
  clear hK K
  try dsimp only at hHeld
  try simp only [jX, jD, jE, jF]
  refine held_stronger (S' := fun w' => (fun w' => TwoAt nk 49 w') w' ∧ ((fun w' => (Kr w F B c KN G [(bm, msgObj ⟨kind, (i : Int), gen, seq, epoch, value, metric⟩)] [] w') ∧ (TwoAt kb1 49 w') ∧ (kb1 < w'.heap.size))) w') (fun _ h => h.2) _ _ _ _ ?_
  replace hHeld := And.intro Nan.out hHeld
  try dsimp only at hHeld
  refine jR [13] ?_
  refine jG rfl (fun K hK => ?_) AllReadyH.nil
  have hH2 := hHeld
  obtain ⟨an, kk, tw, lt⟩ := hH2
  obtain ⟨xo, yo, hno⟩ := id an
  have L13 := hid (show (TwoAt nk 49 (((w1008.alloc (keyObj 0#64 0#64))).setRow nk #[.int .u64 (q ka), .int .u64 (q kb)])) ∧ (Kr w F B c KN G [(bm, msgObj ⟨kind, (i : Int), gen, seq, epoch, value, metric⟩)] [] (((w1008.alloc (keyObj 0#64 0#64))).setRow nk #[.int .u64 (q ka), .int .u64 (q kb)])) ∧ (TwoAt kb1 49 (((w1008.alloc (keyObj 0#64 0#64))).setRow nk #[.int .u64 (q ka), .int .u64 (q kb)])) ∧ (kb1 < (((w1008.alloc (keyObj 0#64 0#64))).setRow nk #[.int .u64 (q ka), .int .u64 (q kb)]).heap.size) from ⟨an.row _ _, kk.rowOther hnk0.2.1 (by simp [hnk0.2.2]) (by simp), tw.other (by have := hnk0.1; omega), (by simpa [World.setRow] using lt)⟩)
  have Nbx := hid (show (((w1008.alloc (keyObj 0#64 0#64))).setRow nk #[.int .u64 (q ka), .int .u64 (q kb)]).heap[nk]? = some (.cells #[.int .u64 (q ka), .int .u64 (q kb)] 49) from at_setRow hno)
  have A13 := hid (hno)
  clear hHeld an kk tw lt
  try simp only [jD, jE, jF]
  rw [if_pos (by rfl)]
  refine wp_store_row (cs := #[.int .u64 (q ka), .int .u64 (q kb)]) A13.out (by kernel_rfl) (by kernel_rfl) (by kernel_rfl) rfl rfl rfl rfl ?_
  refine hK.out _ _ ?_ (fun hHeld => ?_)
  ·exact L13.out
  clear hK K
  try dsimp only at hHeld
  try simp only [jX, jD, jE, jF]
  refine held_stronger (S' := fun w' => (fun w' => w'.heap[nk]? = some (.cells #[.int .u64 (q ka), .int .u64 (q kb)] 49)) w' ∧ ((fun w' => (TwoAt nk 49 w') ∧ (Kr w F B c KN G [(bm, msgObj ⟨kind, (i : Int), gen, seq, epoch, value, metric⟩)] [] w') ∧ (TwoAt kb1 49 w') ∧ (kb1 < w'.heap.size))) w') (fun _ h => h.2) _ _ _ _ ?_
  replace hHeld := And.intro Nbx.out hHeld
  try dsimp only at hHeld
  refine jU 14 hHeld ?_
  try simp only [jX, jD, jE, jF]
  refine wpAnyH_done (by kernel_rfl) ?_ _
  obtain ⟨bx, an, kk, tw, lt⟩ := hHeld
  refine exit_gen (fun wx => (Kr w F B c KN G [(bm, msgObj ⟨kind, (i : Int), gen, seq, epoch, value, metric⟩)] [] wx ∧ TwoAt kb1 49 wx) ∧ wx.heap[nk]? = some (.cells #[.int .u64 (q ka), .int .u64 (q kb)] 49)) ⟨⟨kk, tw⟩, bx⟩ ?_
  clear kk tw bx an lt
  rintro w3 ⟨⟨k3, t3⟩, b3⟩
  have K3 := hid k3; have T3 := hid t3; have X3 := hid b3; clear k3 t3 b3
  obtain ⟨⟨t0, t2, t4, t6, t26, t27, t28⟩, ⟨r0, r1, r2, r3⟩, rg, ⟨x1, x2, x3, x4⟩⟩ := CG.out _ K3.out.gt
  have m1 : w3.cell? ⟨bm, 1, none⟩ = some (.int .i64 (i : Int)) := at_cell K3.out.kp.b0 1
  go_upto_region 7 with fail
  go_quiet (fail)
  clear m1 t0 t2 t4 t6 t26 t27 t28 r0 r1 r2 r3 rg x1 x2 x3 x4
  refine exit_gen (fun wx => (Kr w F B c KN G [(bm, msgObj ⟨kind, (i : Int), gen, seq, epoch, value, metric⟩)] [] wx ∧ TwoAt kb1 49 wx) ∧ wx.heap[nk]? = some (.cells #[.int .u64 (q ka), .int .u64 (q kb)] 49)) ⟨⟨K3.out.grown (gb_drewQ w3 _), T3.out.grown (gb_drewQ w3 _)⟩, at_grown X3.out (gb_drewQ w3 _) (by simp)⟩ ?_
  clear K3 T3 X3
  rintro w4 ⟨⟨k3, t3⟩, b3⟩
  have K4 := hid k3; have T4 := hid t3; have X4 := hid b3; clear k3 t3 b3
  go_wp2_with fail
  refine wp_region_held_drew (S := (fun w' => (Kr w F B c KN G [(bm, msgObj ⟨kind, (i : Int), gen, seq, epoch, value, metric⟩)] [] w') ∧ (TwoAt kb1 49 w') ∧ (w'.heap[nk]? = some (.cells #[.int .u64 (q ka), .int .u64 (q kb)] 49)))) (by kernel_rfl) ⟨K4.out.drew, T4.out, X4.out⟩ (fun hHeld => ?_)
  try dsimp only at hHeld
  refine' jT 0 rfl (by rfl) ?_ hHeld ?_
  rotate_left
  ·(intro w hSw; (try dsimp only at hSw); (try simp only [jD, jE, jF]); refine exec_row (x := .tmp 10) hSw.2.2 Tryz.underlying49 rfl (by kernel_rfl) ?_ ?_ <;> rfl)
  try simp only [jX, jD, jE, jF]
  refine jU 1 hHeld ?_
  try simp only [jX, jD, jE, jF]
  refine jU 2 hHeld ?_
  try simp only [jX, jD, jE, jF]
  refine jU 3 hHeld ?_
  try simp only [jX, jD, jE, jF]
  refine' jT 4 rfl (by rfl) ?_ hHeld ?_
  rotate_left
  ·(intro w hSw; (try dsimp only at hSw); obtain ⟨kk, tw, bx⟩ := hSw; obtain ⟨⟨t0, t2, t4, t6, t26, t27, t28⟩, _, _, ⟨x1, x2, x3, x4⟩⟩ := CG.out _ kk.gt; have m1 : w.cell? ⟨bm, 1, none⟩ = some (Value.int IntKind.i64 (i : Int)) := at_cell kk.kp.b0 1; go_simp; try with_reducible rfl)
  try simp only [jX, jD, jE, jF]
  refine jU 5 hHeld ?_
  try simp only [jX, jD, jE, jF]
  refine' jT 6 rfl (by rfl) ?_ hHeld ?_
  rotate_left
  ·(intro w hSw; (try dsimp only at hSw); obtain ⟨kk, tw, bx⟩ := hSw; obtain ⟨⟨t0, t2, t4, t6, t26, t27, t28⟩, _, _, ⟨x1, x2, x3, x4⟩⟩ := CG.out _ kk.gt; have m1 : w.cell? ⟨bm, 1, none⟩ = some (Value.int IntKind.i64 (i : Int)) := at_cell kk.kp.b0 1; go_simp; try with_reducible rfl)
  try simp only [jX, jD, jE, jF]
  refine jU 7 hHeld ?_
  try simp only [jX, jD, jE, jF]
  refine' jT 8 rfl (by rfl) ?_ hHeld ?_
  rotate_left
  ·(intro w hSw; (try dsimp only at hSw); obtain ⟨kk, tw, bx⟩ := hSw; obtain ⟨⟨t0, t2, t4, t6, t26, t27, t28⟩, _, _, ⟨x1, x2, x3, x4⟩⟩ := CG.out _ kk.gt; have m1 : w.cell? ⟨bm, 1, none⟩ = some (Value.int IntKind.i64 (i : Int)) := at_cell kk.kp.b0 1; go_simp; try with_reducible rfl)
  try simp only [jX, jD, jE, jF]
  refine jR [9] ?_
  refine jG rfl (fun K hK => ?_) AllReadyH.nil
  have hH2 := hHeld
  obtain ⟨kk, tw, bx⟩ := hH2
  obtain ⟨xo, yo, hno⟩ := id tw
  have L9 := hid (show (Kr w F B c KN G [(bm, msgObj ⟨kind, (i : Int), gen, seq, epoch, value, metric⟩)] [] ((w4.drew).setRow kb1 #[.int .u64 (q ka), .int .u64 (q kb)])) ∧ (TwoAt kb1 49 ((w4.drew).setRow kb1 #[.int .u64 (q ka), .int .u64 (q kb)])) ∧ (((w4.drew).setRow kb1 #[.int .u64 (q ka), .int .u64 (q kb)]).heap[nk]? = some (.cells #[.int .u64 (q ka), .int .u64 (q kb)] 49)) from ⟨kk.rowOther ZZ.out (by simp [NB.out]) (by simp), tw.row _ _, at_setRow_other bx (by have := hnk0.1; omega)⟩)
  have Nrs := hid (show ((w4.drew).setRow kb1 #[.int .u64 (q ka), .int .u64 (q kb)]).heap[kb1]? = some (.cells #[.int .u64 (q ka), .int .u64 (q kb)] 49) from at_setRow hno)
  have A9 := hid (hno)
  clear hHeld kk tw bx
  try simp only [jD, jE, jF]
  rw [if_pos (by rfl)]
  refine wp_store_row (cs := #[.int .u64 (q ka), .int .u64 (q kb)]) A9.out (by kernel_rfl) (by kernel_rfl) (by kernel_rfl) rfl rfl rfl rfl ?_
  refine hK.out _ _ ?_ (fun hHeld => ?_)
  ·exact L9.out
  clear hK K
  try dsimp only at hHeld
  try simp only [jX, jD, jE, jF]
  refine held_stronger (S' := fun w' => (fun w' => w'.heap[kb1]? = some (.cells #[.int .u64 (q ka), .int .u64 (q kb)] 49)) w' ∧ ((fun w' => (Kr w F B c KN G [(bm, msgObj ⟨kind, (i : Int), gen, seq, epoch, value, metric⟩)] [] w') ∧ (TwoAt kb1 49 w') ∧ (w'.heap[nk]? = some (.cells #[.int .u64 (q ka), .int .u64 (q kb)] 49)))) w') (fun _ h => h.2) _ _ _ _ ?_
  replace hHeld := And.intro Nrs.out hHeld
  try dsimp only at hHeld
  refine jU 10 hHeld ?_
  try simp only [jX, jD, jE, jF]
  refine jU 11 hHeld ?_
  try simp only [jX, jD, jE, jF]
  refine wpAnyH_done (by kernel_rfl) ?_ _
  obtain ⟨rs, kk, tw, bx⟩ := hHeld
  refine exit_gen (fun wx => wx.heap[kb1]? = some (.cells #[.int .u64 (q ka), .int .u64 (q kb)] 49) ∧ w.grownBy wx none) ⟨rs, kk.kp.g⟩ ?_
  clear kk tw bx rs
  rintro w5 ⟨rs4, g4⟩
  have r0 : w5.cell? ⟨kb1, 0, none⟩ = some (.int .u64 (q ka)) := at_cell rs4 0
  have r1 : w5.cell? ⟨kb1, 1, none⟩ = some (.int .u64 (q kb)) := at_cell rs4 1
  have G4 := hid g4; clear g4 rs4
  go_wp2_with fail
  exact bodyPost_ret (v := .tuple #[pair ka kb, .pointer (some ⟨B.O i, 0, none⟩), .int .i64 0]) (by simp [results, Tryz.results60, go_sem, r0, r1]) rfl ⟨rfl, G4.out⟩
 ·have hH2 := hHeld
  obtain ⟨kk, tw, lt⟩ := hH2
  have hg : w2.drew.grownBy (w2.drew.alloc (keyObj 0#64 0#64)) none := World.grownBy_alloc _ _ _
  obtain ⟨nk, hnk⟩ : ∃ nk, w2.drew.heap.size = nk := ⟨_, rfl⟩
  have hnk0 : kb1 < nk ∧ w.heap.size ≤ nk ∧ bm ≠ nk := hnk ▸ ⟨lt, kk.size, by have := at_lt kk.kp.b0; omega⟩
  have L12 := hid (show (Kr w F B c KN G [(bm, msgObj ⟨kind, (i : Int), gen, seq, epoch, value, metric⟩)] [] (w2.drew.alloc (keyObj 0#64 0#64))) ∧ (TwoAt kb1 49 (w2.drew.alloc (keyObj 0#64 0#64))) ∧ (kb1 < (w2.drew.alloc (keyObj 0#64 0#64)).heap.size) from ⟨kk.grown hg, tw.grown hg, Nat.lt_of_lt_of_le lt hg.size⟩)
  have Nan := hid (show TwoAt nk 49 (w2.drew.alloc (keyObj 0#64 0#64)) from ⟨_, _, by rw [← hnk]; exact at_new w2.drew _⟩)
  clear hHeld hg kk tw lt
  try simp only [jD, jE, jF]
  go_simp
  refine hK.out _ _ ?_ (fun hHeld => ?_)
  ·exact L12.out
  clear hK K
  try dsimp only at hHeld
  try simp only [jX, jD, jE, jF]
  refine held_stronger (S' := fun w' => (fun w' => TwoAt nk 49 w') w' ∧ ((fun w' => (Kr w F B c KN G [(bm, msgObj ⟨kind, (i : Int), gen, seq, epoch, value, metric⟩)] [] w') ∧ (TwoAt kb1 49 w') ∧ (kb1 < w'.heap.size))) w') (fun _ h => h.2) _ _ _ _ ?_
  replace hHeld := And.intro Nan.out hHeld
  try dsimp only at hHeld
  refine jR [8] ?_
  refine jG rfl (fun K hK => ?_) AllReadyH.nil
  try simp only [jD, jE, jF]
  go_simp
  have hH2 := hHeld
  obtain ⟨an, kk, tw, lt⟩ := hH2
  refine (CK.out _ kk.gt.ring).mono ?_
  rintro e w1008 ⟨rfl, hg⟩
  have L8 := hid (show (TwoAt nk 49 w1008) ∧ (Kr w F B c KN G [(bm, msgObj ⟨kind, (i : Int), gen, seq, epoch, value, metric⟩)] [] w1008) ∧ (TwoAt kb1 49 w1008) ∧ (kb1 < w1008.heap.size) from ⟨an.grown hg, kk.grown hg, tw.grown hg, Nat.lt_of_lt_of_le lt hg.size⟩)
  clear hHeld hg an kk tw lt
  go_wp2_with fail
  refine hK.out _ _ ?_ (fun hHeld => ?_)
  ·exact L8.out
  clear hK K
  try dsimp only at hHeld
  try simp only [jX, jD, jE, jF]
  refine jU 9 hHeld ?_
  try simp only [jX, jD, jE, jF]
  refine jU 10 hHeld ?_
  try simp only [jX, jD, jE, jF]
  refine jU 11 hHeld ?_
  try simp only [jX, jD, jE, jF]
  refine jR [13] ?_
  refine jG rfl (fun K hK => ?_) AllReadyH.nil
  have hH2 := hHeld
  obtain ⟨an, kk, tw, lt⟩ := hH2
  obtain ⟨xo, yo, hno⟩ := id an
  have L13 := hid (show (TwoAt nk 49 ((w1008).setRow nk #[.int .u64 (q ka), .int .u64 (q kb)])) ∧ (Kr w F B c KN G [(bm, msgObj ⟨kind, (i : Int), gen, seq, epoch, value, metric⟩)] [] ((w1008).setRow nk #[.int .u64 (q ka), .int .u64 (q kb)])) ∧ (TwoAt kb1 49 ((w1008).setRow nk #[.int .u64 (q ka), .int .u64 (q kb)])) ∧ (kb1 < ((w1008).setRow nk #[.int .u64 (q ka), .int .u64 (q kb)]).heap.size) from ⟨an.row _ _, kk.rowOther hnk0.2.1 (by simp [hnk0.2.2]) (by simp), tw.other (by have := hnk0.1; omega), (by simpa [World.setRow] using lt)⟩)
  have Nbx := hid (show ((w1008).setRow nk #[.int .u64 (q ka), .int .u64 (q kb)]).heap[nk]? = some (.cells #[.int .u64 (q ka), .int .u64 (q kb)] 49) from at_setRow hno)
  have A13 := hid (hno)
  clear hHeld an kk tw lt
  try simp only [jD, jE, jF]
  rw [if_pos (by rfl)]
  refine wp_store_row (cs := #[.int .u64 (q ka), .int .u64 (q kb)]) A13.out (by kernel_rfl) (by kernel_rfl) (by kernel_rfl) rfl rfl rfl rfl ?_
  refine hK.out _ _ ?_ (fun hHeld => ?_)
  ·exact L13.out
  clear hK K
  try dsimp only at hHeld
  try simp only [jX, jD, jE, jF]
  refine held_stronger (S' := fun w' => (fun w' => w'.heap[nk]? = some (.cells #[.int .u64 (q ka), .int .u64 (q kb)] 49)) w' ∧ ((fun w' => (TwoAt nk 49 w') ∧ (Kr w F B c KN G [(bm, msgObj ⟨kind, (i : Int), gen, seq, epoch, value, metric⟩)] [] w') ∧ (TwoAt kb1 49 w') ∧ (kb1 < w'.heap.size))) w') (fun _ h => h.2) _ _ _ _ ?_
  replace hHeld := And.intro Nbx.out hHeld
  try dsimp only at hHeld
  refine jU 14 hHeld ?_
  try simp only [jX, jD, jE, jF]
  refine wpAnyH_done (by kernel_rfl) ?_ _
  obtain ⟨bx, an, kk, tw, lt⟩ := hHeld
  refine exit_gen (fun wx => (Kr w F B c KN G [(bm, msgObj ⟨kind, (i : Int), gen, seq, epoch, value, metric⟩)] [] wx ∧ TwoAt kb1 49 wx) ∧ wx.heap[nk]? = some (.cells #[.int .u64 (q ka), .int .u64 (q kb)] 49)) ⟨⟨kk, tw⟩, bx⟩ ?_
  clear kk tw bx an lt
  rintro w3 ⟨⟨k3, t3⟩, b3⟩
  have K3 := hid k3; have T3 := hid t3; have X3 := hid b3; clear k3 t3 b3
  obtain ⟨⟨t0, t2, t4, t6, t26, t27, t28⟩, ⟨r0, r1, r2, r3⟩, rg, ⟨x1, x2, x3, x4⟩⟩ := CG.out _ K3.out.gt
  have m1 : w3.cell? ⟨bm, 1, none⟩ = some (.int .i64 (i : Int)) := at_cell K3.out.kp.b0 1
  go_upto_region 7 with fail
  go_quiet (fail)
  clear m1 t0 t2 t4 t6 t26 t27 t28 r0 r1 r2 r3 rg x1 x2 x3 x4
  refine exit_gen (fun wx => (Kr w F B c KN G [(bm, msgObj ⟨kind, (i : Int), gen, seq, epoch, value, metric⟩)] [] wx ∧ TwoAt kb1 49 wx) ∧ wx.heap[nk]? = some (.cells #[.int .u64 (q ka), .int .u64 (q kb)] 49)) ⟨⟨K3.out.grown (gb_drewQ w3 _), T3.out.grown (gb_drewQ w3 _)⟩, at_grown X3.out (gb_drewQ w3 _) (by simp)⟩ ?_
  clear K3 T3 X3
  rintro w4 ⟨⟨k3, t3⟩, b3⟩
  have K4 := hid k3; have T4 := hid t3; have X4 := hid b3; clear k3 t3 b3
  go_wp2_with fail
  refine wp_region_held_drew (S := (fun w' => (Kr w F B c KN G [(bm, msgObj ⟨kind, (i : Int), gen, seq, epoch, value, metric⟩)] [] w') ∧ (TwoAt kb1 49 w') ∧ (w'.heap[nk]? = some (.cells #[.int .u64 (q ka), .int .u64 (q kb)] 49)))) (by kernel_rfl) ⟨K4.out.drew, T4.out, X4.out⟩ (fun hHeld => ?_)
  try dsimp only at hHeld
  refine' jT 0 rfl (by rfl) ?_ hHeld ?_
  rotate_left
  ·(intro w hSw; (try dsimp only at hSw); (try simp only [jD, jE, jF]); refine exec_row (x := .tmp 10) hSw.2.2 Tryz.underlying49 rfl (by kernel_rfl) ?_ ?_ <;> rfl)
  try simp only [jX, jD, jE, jF]
  refine jU 1 hHeld ?_
  try simp only [jX, jD, jE, jF]
  refine jU 2 hHeld ?_
  try simp only [jX, jD, jE, jF]
  refine jU 3 hHeld ?_
  try simp only [jX, jD, jE, jF]
  refine' jT 4 rfl (by rfl) ?_ hHeld ?_
  rotate_left
  ·(intro w hSw; (try dsimp only at hSw); obtain ⟨kk, tw, bx⟩ := hSw; obtain ⟨⟨t0, t2, t4, t6, t26, t27, t28⟩, _, _, ⟨x1, x2, x3, x4⟩⟩ := CG.out _ kk.gt; have m1 : w.cell? ⟨bm, 1, none⟩ = some (Value.int IntKind.i64 (i : Int)) := at_cell kk.kp.b0 1; go_simp; try with_reducible rfl)
  try simp only [jX, jD, jE, jF]
  refine jU 5 hHeld ?_
  try simp only [jX, jD, jE, jF]
  refine' jT 6 rfl (by rfl) ?_ hHeld ?_
  rotate_left
  ·(intro w hSw; (try dsimp only at hSw); obtain ⟨kk, tw, bx⟩ := hSw; obtain ⟨⟨t0, t2, t4, t6, t26, t27, t28⟩, _, _, ⟨x1, x2, x3, x4⟩⟩ := CG.out _ kk.gt; have m1 : w.cell? ⟨bm, 1, none⟩ = some (Value.int IntKind.i64 (i : Int)) := at_cell kk.kp.b0 1; go_simp; try with_reducible rfl)
  try simp only [jX, jD, jE, jF]
  refine jU 7 hHeld ?_
  try simp only [jX, jD, jE, jF]
  refine' jT 8 rfl (by rfl) ?_ hHeld ?_
  rotate_left
  ·(intro w hSw; (try dsimp only at hSw); obtain ⟨kk, tw, bx⟩ := hSw; obtain ⟨⟨t0, t2, t4, t6, t26, t27, t28⟩, _, _, ⟨x1, x2, x3, x4⟩⟩ := CG.out _ kk.gt; have m1 : w.cell? ⟨bm, 1, none⟩ = some (Value.int IntKind.i64 (i : Int)) := at_cell kk.kp.b0 1; go_simp; try with_reducible rfl)
  try simp only [jX, jD, jE, jF]
  refine jR [9] ?_
  refine jG rfl (fun K hK => ?_) AllReadyH.nil
  have hH2 := hHeld
  obtain ⟨kk, tw, bx⟩ := hH2
  obtain ⟨xo, yo, hno⟩ := id tw
  have L9 := hid (show (Kr w F B c KN G [(bm, msgObj ⟨kind, (i : Int), gen, seq, epoch, value, metric⟩)] [] ((w4.drew).setRow kb1 #[.int .u64 (q ka), .int .u64 (q kb)])) ∧ (TwoAt kb1 49 ((w4.drew).setRow kb1 #[.int .u64 (q ka), .int .u64 (q kb)])) ∧ (((w4.drew).setRow kb1 #[.int .u64 (q ka), .int .u64 (q kb)]).heap[nk]? = some (.cells #[.int .u64 (q ka), .int .u64 (q kb)] 49)) from ⟨kk.rowOther ZZ.out (by simp [NB.out]) (by simp), tw.row _ _, at_setRow_other bx (by have := hnk0.1; omega)⟩)
  have Nrs := hid (show ((w4.drew).setRow kb1 #[.int .u64 (q ka), .int .u64 (q kb)]).heap[kb1]? = some (.cells #[.int .u64 (q ka), .int .u64 (q kb)] 49) from at_setRow hno)
  have A9 := hid (hno)
  clear hHeld kk tw bx
  try simp only [jD, jE, jF]
  rw [if_pos (by rfl)]
  refine wp_store_row (cs := #[.int .u64 (q ka), .int .u64 (q kb)]) A9.out (by kernel_rfl) (by kernel_rfl) (by kernel_rfl) rfl rfl rfl rfl ?_
  refine hK.out _ _ ?_ (fun hHeld => ?_)
  ·exact L9.out
  clear hK K
  try dsimp only at hHeld
  try simp only [jX, jD, jE, jF]
  refine held_stronger (S' := fun w' => (fun w' => w'.heap[kb1]? = some (.cells #[.int .u64 (q ka), .int .u64 (q kb)] 49)) w' ∧ ((fun w' => (Kr w F B c KN G [(bm, msgObj ⟨kind, (i : Int), gen, seq, epoch, value, metric⟩)] [] w') ∧ (TwoAt kb1 49 w') ∧ (w'.heap[nk]? = some (.cells #[.int .u64 (q ka), .int .u64 (q kb)] 49)))) w') (fun _ h => h.2) _ _ _ _ ?_
  replace hHeld := And.intro Nrs.out hHeld
  try dsimp only at hHeld
  refine jU 10 hHeld ?_
  try simp only [jX, jD, jE, jF]
  refine jU 11 hHeld ?_
  try simp only [jX, jD, jE, jF]
  refine wpAnyH_done (by kernel_rfl) ?_ _
  obtain ⟨rs, kk, tw, bx⟩ := hHeld
  refine exit_gen (fun wx => wx.heap[kb1]? = some (.cells #[.int .u64 (q ka), .int .u64 (q kb)] 49) ∧ w.grownBy wx none) ⟨rs, kk.kp.g⟩ ?_
  clear kk tw bx rs
  rintro w5 ⟨rs4, g4⟩
  have r0 : w5.cell? ⟨kb1, 0, none⟩ = some (.int .u64 (q ka)) := at_cell rs4 0
  have r1 : w5.cell? ⟨kb1, 1, none⟩ = some (.int .u64 (q kb)) := at_cell rs4 1
  have G4 := hid g4; clear g4 rs4
  go_wp2_with fail
  exact bodyPost_ret (v := .tuple #[pair ka kb, .pointer (some ⟨B.O i, 0, none⟩), .int .i64 0]) (by simp [results, Tryz.results60, go_sem, r0, r1]) rfl ⟨rfl, G4.out⟩
set_option maxHeartbeats 3200000 in
theorem rkeyg_no {F : List Nat} {B : RBl} {c : Conf} {KN : Nat} {G : Gt} {kind gen seq epoch value metric : Int} (i : Nat) (now : Int) (w : World) (k0 : GrAt w F B c KN G) (hi : i < G.r.n) (g0 : 0 ≤ gen) (g1 : gen ≤ 60000) (hk : kind ≠ 2) (hkey : ¬ G.r.keyIs i gen now) :
  Calls Tryz.prog 60 #[.pointer (some ⟨B.g, 0, none⟩), mg ⟨kind, (i : Int), gen, seq, epoch, value, metric⟩, .int .i64 now] w fun e w' => e = .returned (.tuple #[.agg #[.int .u64 0, .int .u64 0], .pointer none, .int .i64 4]) ∧ w.grownBy w' none := by
 have K0 := hid (((kr_start k0).alloc (msgObj ⟨kind, (i : Int), gen, seq, epoch, value, metric⟩)).alloc (keyObj 0#64 0#64))
 rw [size_alloc] at K0
 have hin : 0 ≤ (i : Int) ∧ (i : Int) < (G.r.n : Int) := by omega
 have n16 := k0.ring.ok.n2
 have cc1 := k0.c1; have cc2 := k0.c2
 have CS := hid (fun u => rsealed_any ⟨kind, (i : Int), gen, seq, epoch, value, metric⟩ g0 g1 u)
 rw [show sealedOf ⟨kind, (i : Int), gen, seq, epoch, value, metric⟩ = gen from if_neg (by first | rfl | exact hk)] at CS
 have CK := hid (fun u (k : RfAt u B.r B.gn B.sn G.r) => fkey_any (i : Int) gen now u k)
 have hKE : G.r.key (i : Int) gen now = (⟨0, 0⟩, 4) := by unfold Rg.key; rw [if_pos hin, if_neg (by simpa using hkey)]
 rw [hKE] at CK
 simp only [keyVal] at CK
 have CG := hid (fun u (k : GrAt u F B c KN G) => (⟨k.tops, k.ring.tops, (k.ring.cells hi).1, k.cells hi⟩ : _ ∧ _ ∧ _ ∧ _))
 have dk : (kind == 2) = false := by simpa using hk
 skip
 clear k0
 generalize G.r.gen i = gn at *
 obtain ⟨q1, q2⟩ := hin
 generalize G.r.n = nn at q2 n16 CG hi cc1 cc2
 unfold maxLen at cc1 cc2
 go_enter Tryz.func60, Tryz.ntmps60
 go_upto_region 1 with fail
 refine wp_gen (fun wx => Kr w F B c KN G [(w.heap.size + 1, keyObj 0#64 0#64), (w.heap.size, msgObj ⟨kind, (i : Int), gen, seq, epoch, value, metric⟩)] [] wx) K0.out ?_
 clear K0
 have z0 : w.heap.size ≤ w.heap.size + 1 := Nat.le_succ _
 have z1 : w.heap.size ≠ w.heap.size + 1 := by omega
 have zz := And.intro z0 z1; clear z0 z1
 generalize w.heap.size + 1 = kb1 at *
 have lb := Nat.le_refl w.heap.size
 generalize hbm : w.heap.size = bm at zz lb ⊢
 have ZZ : Hid (w.heap.size ≤ kb1) := hid (hbm ▸ zz.1)
 have NB : Hid (bm ≠ kb1) := hid zz.2
 clear zz lb
 intro w1 h1
 have K1 := hid h1; clear h1
 go_wp2_with (refine wpList_row K1.out.kp.b1 Tryz.underlying39 rfl (by kernel_rfl) rfl rfl rfl rfl ?_)
 refine (CS.out _).mono ?_
 rintro e wS ⟨rfl, hg⟩
 have K1s := hid (K1.out.grown hg); clear hg K1 CS
 have m0 : wS.cell? ⟨bm, 0, none⟩ = some (.int .i64 kind) := at_cell K1s.out.kp.b1 0
 have m1 : wS.cell? ⟨bm, 1, none⟩ = some (.int .i64 (i : Int)) := at_cell K1s.out.kp.b1 1
 obtain ⟨⟨t0, t2, t4, t6, t26, t27, t28⟩, ⟨r0, r1, r2, r3⟩, rg, ⟨x1, x2, x3, x4⟩⟩ := CG.out _ K1s.out.gt
 go_upto_region 2 with fail
 go_quiet (fail)
 clear m0 m1 t0 t2 t4 t6 t26 t27 t28 r0 r1 r2 r3 rg x1 x2 x3 x4
 have lt1 := at_lt K1s.out.kp.b0
 refine exit_gen (fun wx => (Kr w F B c KN G [(bm, msgObj ⟨kind, (i : Int), gen, seq, epoch, value, metric⟩)] [] wx ∧ TwoAt kb1 49 wx) ∧ kb1 < wx.heap.size) ⟨⟨(K1s.out.tail).grown (gb_drewQ wS _), ⟨_, _, at_grown K1s.out.kp.b0 (gb_drewQ wS _) (by simp)⟩⟩, lt1⟩ ?_
 clear K1s lt1
 rintro w2 ⟨⟨k2, tw2⟩, l2⟩
 have K2 := hid k2; have T2 := hid tw2; have L2 := hid l2; clear k2 tw2 l2
 go_wp2_with fail
 refine wp_region_held_drew (S := (fun w' => (Kr w F B c KN G [(bm, msgObj ⟨kind, (i : Int), gen, seq, epoch, value, metric⟩)] [] w') ∧ (TwoAt kb1 49 w') ∧ (kb1 < w'.heap.size))) (by kernel_rfl) ⟨K2.out.drew, T2.out, L2.out⟩ (fun hHeld => ?_)
 try dsimp only at hHeld
 refine jU 0 hHeld ?_
 try simp only [jX, jD, jE, jF]
 refine jU 1 hHeld ?_
 try simp only [jX, jD, jE, jF]
 refine jU 2 hHeld ?_
 try simp only [jX, jD, jE, jF]
 refine' jT 3 rfl (by rfl) ?_ hHeld ?_
 rotate_left
 ·(intro w hSw; (try dsimp only at hSw); obtain ⟨kk, tw, lt⟩ := hSw; obtain ⟨⟨t0, t2, t4, t6, t26, t27, t28⟩, _⟩ := CG.out _ kk.gt; have m1 : w.cell? ⟨bm, 1, none⟩ = some (Value.int IntKind.i64 (i : Int)) := at_cell kk.kp.b0 1; go_simp; try with_reducible rfl)
 try simp only [jX, jD, jE, jF]
 refine jU 4 hHeld ?_
 try simp only [jX, jD, jE, jF]
 refine' jT 5 rfl (by rfl) ?_ hHeld ?_
 rotate_left
 ·(intro w hSw; (try dsimp only at hSw); obtain ⟨kk, tw, lt⟩ := hSw; obtain ⟨⟨t0, t2, t4, t6, t26, t27, t28⟩, _⟩ := CG.out _ kk.gt; have m1 : w.cell? ⟨bm, 1, none⟩ = some (Value.int IntKind.i64 (i : Int)) := at_cell kk.kp.b0 1; go_simp; try with_reducible rfl)
 try simp only [jX, jD, jE, jF]
 refine jU 6 hHeld ?_
 try simp only [jX, jD, jE, jF]
 refine jU 7 hHeld ?_
 try simp only [jX, jD, jE, jF]
 refine jR [8, 12] ?_
 refine jG rfl (fun K hK => ?_) (jG rfl (fun K hK => ?_) AllReadyH.nil)
 ·try simp only [jD, jE, jF]
  go_simp
  have hH2 := hHeld
  obtain ⟨kk, tw, lt⟩ := hH2
  refine (CK.out _ kk.gt.ring).mono ?_
  rintro e w1008 ⟨rfl, hg⟩
  have L8 := hid (show (Kr w F B c KN G [(bm, msgObj ⟨kind, (i : Int), gen, seq, epoch, value, metric⟩)] [] w1008) ∧ (TwoAt kb1 49 w1008) ∧ (kb1 < w1008.heap.size) from ⟨kk.grown hg, tw.grown hg, Nat.lt_of_lt_of_le lt hg.size⟩)
  clear hHeld hg kk tw lt
  go_wp2_with fail
  refine hK.out _ _ ?_ (fun hHeld => ?_)
  ·exact L8.out
  clear hK K
  try dsimp only at hHeld
  try simp only [jX, jD, jE, jF]
  refine jU 9 hHeld ?_
  try simp only [jX, jD, jE, jF]
  refine jU 10 hHeld ?_
  try simp only [jX, jD, jE, jF]
  refine jU 11 hHeld ?_
  try simp only [jX, jD, jE, jF]
  refine jR [12] ?_
  refine jG rfl (fun K hK => ?_) AllReadyH.nil
  have hH2 := hHeld
  obtain ⟨kk, tw, lt⟩ := hH2
  have hg : w1008.grownBy (w1008.alloc (keyObj 0#64 0#64)) none := World.grownBy_alloc _ _ _
  obtain ⟨nk, hnk⟩ : ∃ nk, w1008.heap.size = nk := ⟨_, rfl⟩
  have hnk0 : kb1 < nk ∧ w.heap.size ≤ nk ∧ bm ≠ nk := hnk ▸ ⟨lt, kk.size, by have := at_lt kk.kp.b0; omega⟩
  have L12 := hid (show (Kr w F B c KN G [(bm, msgObj ⟨kind, (i : Int), gen, seq, epoch, value, metric⟩)] [] (w1008.alloc (keyObj 0#64 0#64))) ∧ (TwoAt kb1 49 (w1008.alloc (keyObj 0#64 0#64))) ∧ (kb1 < (w1008.alloc (keyObj 0#64 0#64)).heap.size) from ⟨kk.grown hg, tw.grown hg, Nat.lt_of_lt_of_le lt hg.size⟩)
  have Nan := hid (show TwoAt nk 49 (w1008.alloc (keyObj 0#64 0#64)) from ⟨_, _, by rw [← hnk]; exact at_new w1008 _⟩)
  clear hHeld hg kk tw lt
  try simp only [jD, jE, jF]
  go_simp
  refine hK.out _ _ ?_ (fun hHeld => ?_)
  ·exact L12.out
  clear hK K
  try dsimp only at hHeld
  try simp only [jX, jD, jE, jF]
  refine held_stronger (S' := fun w' => (fun w' => TwoAt nk 49 w') w' ∧ ((fun w' => (Kr w F B c KN G [(bm, msgObj ⟨kind, (i : Int), gen, seq, epoch, value, metric⟩)] [] w') ∧ (TwoAt kb1 49 w') ∧ (kb1 < w'.heap.size))) w') (fun _ h => h.2) _ _ _ _ ?_
  replace hHeld := And.intro Nan.out hHeld
  try dsimp only at hHeld
  refine jR [13] ?_
  refine jG rfl (fun K hK => ?_) AllReadyH.nil
  have hH2 := hHeld
  obtain ⟨an, kk, tw, lt⟩ := hH2
  obtain ⟨xo, yo, hno⟩ := id an
  have L13 := hid (show (TwoAt nk 49 (((w1008.alloc (keyObj 0#64 0#64))).setRow nk #[.int .u64 0, .int .u64 0])) ∧ (Kr w F B c KN G [(bm, msgObj ⟨kind, (i : Int), gen, seq, epoch, value, metric⟩)] [] (((w1008.alloc (keyObj 0#64 0#64))).setRow nk #[.int .u64 0, .int .u64 0])) ∧ (TwoAt kb1 49 (((w1008.alloc (keyObj 0#64 0#64))).setRow nk #[.int .u64 0, .int .u64 0])) ∧ (kb1 < (((w1008.alloc (keyObj 0#64 0#64))).setRow nk #[.int .u64 0, .int .u64 0]).heap.size) from ⟨an.row _ _, kk.rowOther hnk0.2.1 (by simp [hnk0.2.2]) (by simp), tw.other (by have := hnk0.1; omega), (by simpa [World.setRow] using lt)⟩)
  have Nbx := hid (show (((w1008.alloc (keyObj 0#64 0#64))).setRow nk #[.int .u64 0, .int .u64 0]).heap[nk]? = some (.cells #[.int .u64 0, .int .u64 0] 49) from at_setRow hno)
  have A13 := hid (hno)
  clear hHeld an kk tw lt
  try simp only [jD, jE, jF]
  rw [if_pos (by rfl)]
  refine wp_store_row (cs := #[.int .u64 0, .int .u64 0]) A13.out (by kernel_rfl) (by kernel_rfl) (by kernel_rfl) rfl rfl rfl rfl ?_
  refine hK.out _ _ ?_ (fun hHeld => ?_)
  ·exact L13.out
  clear hK K
  try dsimp only at hHeld
  try simp only [jX, jD, jE, jF]
  refine held_stronger (S' := fun w' => (fun w' => w'.heap[nk]? = some (.cells #[.int .u64 0, .int .u64 0] 49)) w' ∧ ((fun w' => (TwoAt nk 49 w') ∧ (Kr w F B c KN G [(bm, msgObj ⟨kind, (i : Int), gen, seq, epoch, value, metric⟩)] [] w') ∧ (TwoAt kb1 49 w') ∧ (kb1 < w'.heap.size))) w') (fun _ h => h.2) _ _ _ _ ?_
  replace hHeld := And.intro Nbx.out hHeld
  try dsimp only at hHeld
  refine jU 14 hHeld ?_
  try simp only [jX, jD, jE, jF]
  refine wpAnyH_done (by kernel_rfl) ?_ _
  obtain ⟨bx, an, kk, tw, lt⟩ := hHeld
  refine exit_gen (fun wx => (Kr w F B c KN G [(bm, msgObj ⟨kind, (i : Int), gen, seq, epoch, value, metric⟩)] [] wx ∧ TwoAt kb1 49 wx) ∧ wx.heap[nk]? = some (.cells #[.int .u64 0, .int .u64 0] 49)) ⟨⟨kk, tw⟩, bx⟩ ?_
  clear kk tw bx an lt
  rintro w3 ⟨⟨k3, t3⟩, b3⟩
  have K3 := hid k3; have T3 := hid t3; have X3 := hid b3; clear k3 t3 b3
  obtain ⟨x0, y0, hx0⟩ := T3.out
  have c0 : w3.cell? ⟨kb1, 0, none⟩ = some x0 := at_cell hx0 0
  have c1 : w3.cell? ⟨kb1, 1, none⟩ = some y0 := at_cell hx0 1
  have f0 : w3.frozen? ⟨kb1, 0, none⟩ = false := at_free hx0 0
  have f1 : w3.frozen? ⟨kb1, 1, none⟩ = false := at_free hx0 1
  have HX := hid hx0; have HG := hid (K3.out.kp.g); clear hx0
  go_wp2_with fail
  clear c0 c1 f0 f1
  have h0 : ((w3.setCell ⟨kb1, 0, none⟩ (.int .u64 0)).setCell ⟨kb1, 1, none⟩ (.int .u64 0)).heap[kb1]? = some (.cells #[.int .u64 0, .int .u64 0] 49) := by have := at_set (at_set HX.out 0 (.int .u64 0)) 1 (.int .u64 0); exact this
  have h1 : w.grownBy ((w3.setCell ⟨kb1, 0, none⟩ (.int .u64 0)).setCell ⟨kb1, 1, none⟩ (.int .u64 0)) none := gb_new (gb_new HG.out ZZ.out _) ZZ.out _
  generalize (w3.setCell ⟨kb1, 0, none⟩ (.int .u64 0)).setCell ⟨kb1, 1, none⟩ (.int .u64 0) = wx at h0 h1 ⊢
  have r0 : wx.cell? ⟨kb1, 0, none⟩ = some (.int .u64 0) := at_cell h0 0
  have r1 : wx.cell? ⟨kb1, 1, none⟩ = some (.int .u64 0) := at_cell h0 1
  exact bodyPost_ret (v := .tuple #[.agg #[.int .u64 0, .int .u64 0], .pointer none, .int .i64 4]) (by simp [results, Tryz.results60, go_sem, r0, r1]) rfl ⟨rfl, h1⟩
 ·have hH2 := hHeld
  obtain ⟨kk, tw, lt⟩ := hH2
  have hg : w2.drew.grownBy (w2.drew.alloc (keyObj 0#64 0#64)) none := World.grownBy_alloc _ _ _
  obtain ⟨nk, hnk⟩ : ∃ nk, w2.drew.heap.size = nk := ⟨_, rfl⟩
  have hnk0 : kb1 < nk ∧ w.heap.size ≤ nk ∧ bm ≠ nk := hnk ▸ ⟨lt, kk.size, by have := at_lt kk.kp.b0; omega⟩
  have L12 := hid (show (Kr w F B c KN G [(bm, msgObj ⟨kind, (i : Int), gen, seq, epoch, value, metric⟩)] [] (w2.drew.alloc (keyObj 0#64 0#64))) ∧ (TwoAt kb1 49 (w2.drew.alloc (keyObj 0#64 0#64))) ∧ (kb1 < (w2.drew.alloc (keyObj 0#64 0#64)).heap.size) from ⟨kk.grown hg, tw.grown hg, Nat.lt_of_lt_of_le lt hg.size⟩)
  have Nan := hid (show TwoAt nk 49 (w2.drew.alloc (keyObj 0#64 0#64)) from ⟨_, _, by rw [← hnk]; exact at_new w2.drew _⟩)
  clear hHeld hg kk tw lt
  try simp only [jD, jE, jF]
  go_simp
  refine hK.out _ _ ?_ (fun hHeld => ?_)
  ·exact L12.out
  clear hK K
  try dsimp only at hHeld
  try simp only [jX, jD, jE, jF]
  refine held_stronger (S' := fun w' => (fun w' => TwoAt nk 49 w') w' ∧ ((fun w' => (Kr w F B c KN G [(bm, msgObj ⟨kind, (i : Int), gen, seq, epoch, value, metric⟩)] [] w') ∧ (TwoAt kb1 49 w') ∧ (kb1 < w'.heap.size))) w') (fun _ h => h.2) _ _ _ _ ?_
  replace hHeld := And.intro Nan.out hHeld
  try dsimp only at hHeld
  refine jR [8] ?_
  refine jG rfl (fun K hK => ?_) AllReadyH.nil
  try simp only [jD, jE, jF]
  go_simp
  have hH2 := hHeld
  obtain ⟨an, kk, tw, lt⟩ := hH2
  refine (CK.out _ kk.gt.ring).mono ?_
  rintro e w1008 ⟨rfl, hg⟩
  have L8 := hid (show (TwoAt nk 49 w1008) ∧ (Kr w F B c KN G [(bm, msgObj ⟨kind, (i : Int), gen, seq, epoch, value, metric⟩)] [] w1008) ∧ (TwoAt kb1 49 w1008) ∧ (kb1 < w1008.heap.size) from ⟨an.grown hg, kk.grown hg, tw.grown hg, Nat.lt_of_lt_of_le lt hg.size⟩)
  clear hHeld hg an kk tw lt
  go_wp2_with fail
  refine hK.out _ _ ?_ (fun hHeld => ?_)
  ·exact L8.out
  clear hK K
  try dsimp only at hHeld
  try simp only [jX, jD, jE, jF]
  refine jU 9 hHeld ?_
  try simp only [jX, jD, jE, jF]
  refine jU 10 hHeld ?_
  try simp only [jX, jD, jE, jF]
  refine jU 11 hHeld ?_
  try simp only [jX, jD, jE, jF]
  refine jR [13] ?_
  refine jG rfl (fun K hK => ?_) AllReadyH.nil
  have hH2 := hHeld
  obtain ⟨an, kk, tw, lt⟩ := hH2
  obtain ⟨xo, yo, hno⟩ := id an
  have L13 := hid (show (TwoAt nk 49 ((w1008).setRow nk #[.int .u64 0, .int .u64 0])) ∧ (Kr w F B c KN G [(bm, msgObj ⟨kind, (i : Int), gen, seq, epoch, value, metric⟩)] [] ((w1008).setRow nk #[.int .u64 0, .int .u64 0])) ∧ (TwoAt kb1 49 ((w1008).setRow nk #[.int .u64 0, .int .u64 0])) ∧ (kb1 < ((w1008).setRow nk #[.int .u64 0, .int .u64 0]).heap.size) from ⟨an.row _ _, kk.rowOther hnk0.2.1 (by simp [hnk0.2.2]) (by simp), tw.other (by have := hnk0.1; omega), (by simpa [World.setRow] using lt)⟩)
  have Nbx := hid (show ((w1008).setRow nk #[.int .u64 0, .int .u64 0]).heap[nk]? = some (.cells #[.int .u64 0, .int .u64 0] 49) from at_setRow hno)
  have A13 := hid (hno)
  clear hHeld an kk tw lt
  try simp only [jD, jE, jF]
  rw [if_pos (by rfl)]
  refine wp_store_row (cs := #[.int .u64 0, .int .u64 0]) A13.out (by kernel_rfl) (by kernel_rfl) (by kernel_rfl) rfl rfl rfl rfl ?_
  refine hK.out _ _ ?_ (fun hHeld => ?_)
  ·exact L13.out
  clear hK K
  try dsimp only at hHeld
  try simp only [jX, jD, jE, jF]
  refine held_stronger (S' := fun w' => (fun w' => w'.heap[nk]? = some (.cells #[.int .u64 0, .int .u64 0] 49)) w' ∧ ((fun w' => (TwoAt nk 49 w') ∧ (Kr w F B c KN G [(bm, msgObj ⟨kind, (i : Int), gen, seq, epoch, value, metric⟩)] [] w') ∧ (TwoAt kb1 49 w') ∧ (kb1 < w'.heap.size))) w') (fun _ h => h.2) _ _ _ _ ?_
  replace hHeld := And.intro Nbx.out hHeld
  try dsimp only at hHeld
  refine jU 14 hHeld ?_
  try simp only [jX, jD, jE, jF]
  refine wpAnyH_done (by kernel_rfl) ?_ _
  obtain ⟨bx, an, kk, tw, lt⟩ := hHeld
  refine exit_gen (fun wx => (Kr w F B c KN G [(bm, msgObj ⟨kind, (i : Int), gen, seq, epoch, value, metric⟩)] [] wx ∧ TwoAt kb1 49 wx) ∧ wx.heap[nk]? = some (.cells #[.int .u64 0, .int .u64 0] 49)) ⟨⟨kk, tw⟩, bx⟩ ?_
  clear kk tw bx an lt
  rintro w3 ⟨⟨k3, t3⟩, b3⟩
  have K3 := hid k3; have T3 := hid t3; have X3 := hid b3; clear k3 t3 b3
  obtain ⟨x0, y0, hx0⟩ := T3.out
  have c0 : w3.cell? ⟨kb1, 0, none⟩ = some x0 := at_cell hx0 0
  have c1 : w3.cell? ⟨kb1, 1, none⟩ = some y0 := at_cell hx0 1
  have f0 : w3.frozen? ⟨kb1, 0, none⟩ = false := at_free hx0 0
  have f1 : w3.frozen? ⟨kb1, 1, none⟩ = false := at_free hx0 1
  have HX := hid hx0; have HG := hid (K3.out.kp.g); clear hx0
  go_wp2_with fail
  clear c0 c1 f0 f1
  have h0 : ((w3.setCell ⟨kb1, 0, none⟩ (.int .u64 0)).setCell ⟨kb1, 1, none⟩ (.int .u64 0)).heap[kb1]? = some (.cells #[.int .u64 0, .int .u64 0] 49) := by have := at_set (at_set HX.out 0 (.int .u64 0)) 1 (.int .u64 0); exact this
  have h1 : w.grownBy ((w3.setCell ⟨kb1, 0, none⟩ (.int .u64 0)).setCell ⟨kb1, 1, none⟩ (.int .u64 0)) none := gb_new (gb_new HG.out ZZ.out _) ZZ.out _
  generalize (w3.setCell ⟨kb1, 0, none⟩ (.int .u64 0)).setCell ⟨kb1, 1, none⟩ (.int .u64 0) = wx at h0 h1 ⊢
  have r0 : wx.cell? ⟨kb1, 0, none⟩ = some (.int .u64 0) := at_cell h0 0
  have r1 : wx.cell? ⟨kb1, 1, none⟩ = some (.int .u64 0) := at_cell h0 1
  exact bodyPost_ret (v := .tuple #[.agg #[.int .u64 0, .int .u64 0], .pointer none, .int .i64 4]) (by simp [results, Tryz.results60, go_sem, r0, r1]) rfl ⟨rfl, h1⟩
set_option maxHeartbeats 3200000 in
theorem rkeyg_rot {F : List Nat} {B : RBl} {c : Conf} {KN : Nat} {G : Gt} {gen seq epoch value metric : Int} (i : Nat) (now : Int) (w : World) (k0 : GrAt w F B c KN G) (hi : i < G.r.n) (g0 : 0 ≤ gen) (g1 : gen ≤ 60000) (hkey : G.r.keyIs i (gen - 1) now) (hs : (gen - 1) = G.r.gen i) :
  Calls Tryz.prog 60 #[.pointer (some ⟨B.g, 0, none⟩), mg ⟨2, (i : Int), gen, seq, epoch, value, metric⟩, .int .i64 now] w fun e w' => e = .returned (.tuple #[pair (ofOf G.r.seed i (gen - 1)).a (ofOf G.r.seed i (gen - 1)).b, .pointer (some ⟨B.A i, 0, none⟩), .int .i64 0]) ∧ w.grownBy w' none := by
 have K0 := hid (((kr_start k0).alloc (msgObj ⟨2, (i : Int), gen, seq, epoch, value, metric⟩)).alloc (keyObj 0#64 0#64))
 rw [size_alloc] at K0
 have hin : 0 ≤ (i : Int) ∧ (i : Int) < (G.r.n : Int) := by omega
 have n16 := k0.ring.ok.n2
 have cc1 := k0.c1; have cc2 := k0.c2
 have CS := hid (fun u => rsealed_any ⟨2, (i : Int), gen, seq, epoch, value, metric⟩ g0 g1 u)
 rw [show sealedOf ⟨2, (i : Int), gen, seq, epoch, value, metric⟩ = (gen - 1) from if_pos (by first | rfl | exact hk)] at CS
 have CK := hid (fun u (k : RfAt u B.r B.gn B.sn G.r) => fkey_any (i : Int) (gen - 1) now u k)
 have hKE : G.r.key (i : Int) (gen - 1) now = ((ofOf G.r.seed i (gen - 1)), 0) := by unfold Rg.key; rw [if_pos hin, if_pos (by simpa using hkey)]
 rw [hKE] at CK
 simp only [keyVal] at CK
 clear hkey hKE
 generalize ofOf G.r.seed i (gen - 1) = kv at *
 obtain ⟨ka, kb⟩ := kv
 dsimp only at *
 have CG := hid (fun u (k : GrAt u F B c KN G) => (⟨k.tops, k.ring.tops, (k.ring.cells hi).1, k.cells hi⟩ : _ ∧ _ ∧ _ ∧ _))
 have ds : ((gen - 1) != G.r.gen i) = false := by simpa using hs
 have ds2 : ((gen - 1) == G.r.gen i) = true := by simpa using hs
 clear hs
 obtain ⟨sg, hsg⟩ : ∃ sg, sg = gen - 1 := ⟨_, rfl⟩
 rw [← hsg] at ds ds2 CK CS
 clear hsg
 clear k0
 generalize G.r.gen i = gn at *
 obtain ⟨q1, q2⟩ := hin
 generalize G.r.n = nn at q2 n16 CG hi cc1 cc2
 unfold maxLen at cc1 cc2
 go_enter Tryz.func60, Tryz.ntmps60
 go_upto_region 1 with fail
 refine wp_gen (fun wx => Kr w F B c KN G [(w.heap.size + 1, keyObj 0#64 0#64), (w.heap.size, msgObj ⟨2, (i : Int), gen, seq, epoch, value, metric⟩)] [] wx) K0.out ?_
 clear K0
 have z0 : w.heap.size ≤ w.heap.size + 1 := Nat.le_succ _
 have z1 : w.heap.size ≠ w.heap.size + 1 := by omega
 have zz := And.intro z0 z1; clear z0 z1
 generalize w.heap.size + 1 = kb1 at *
 have lb := Nat.le_refl w.heap.size
 generalize hbm : w.heap.size = bm at zz lb ⊢
 have ZZ : Hid (w.heap.size ≤ kb1) := hid (hbm ▸ zz.1)
 have NB : Hid (bm ≠ kb1) := hid zz.2
 clear zz lb
 intro w1 h1
 have K1 := hid h1; clear h1
 go_wp2_with (refine wpList_row K1.out.kp.b1 Tryz.underlying39 rfl (by kernel_rfl) rfl rfl rfl rfl ?_)
 refine (CS.out _).mono ?_
 rintro e wS ⟨rfl, hg⟩
 have K1s := hid (K1.out.grown hg); clear hg K1 CS
 have m0 : wS.cell? ⟨bm, 0, none⟩ = some (.int .i64 2) := at_cell K1s.out.kp.b1 0
 have m1 : wS.cell? ⟨bm, 1, none⟩ = some (.int .i64 (i : Int)) := at_cell K1s.out.kp.b1 1
 obtain ⟨⟨t0, t2, t4, t6, t26, t27, t28⟩, ⟨r0, r1, r2, r3⟩, rg, ⟨x1, x2, x3, x4⟩⟩ := CG.out _ K1s.out.gt
 go_upto_region 2 with fail
 go_quiet (fail)
 clear m0 m1 t0 t2 t4 t6 t26 t27 t28 r0 r1 r2 r3 rg x1 x2 x3 x4
 have lt1 := at_lt K1s.out.kp.b0
 refine exit_gen (fun wx => (Kr w F B c KN G [(bm, msgObj ⟨2, (i : Int), gen, seq, epoch, value, metric⟩)] [] wx ∧ TwoAt kb1 49 wx) ∧ kb1 < wx.heap.size) ⟨⟨(K1s.out.tail).grown (gb_drewQ wS _), ⟨_, _, at_grown K1s.out.kp.b0 (gb_drewQ wS _) (by simp)⟩⟩, lt1⟩ ?_
 clear K1s lt1
 rintro w2 ⟨⟨k2, tw2⟩, l2⟩
 have K2 := hid k2; have T2 := hid tw2; have L2 := hid l2; clear k2 tw2 l2
 go_wp2_with fail
 refine wp_region_held_drew (S := (fun w' => (Kr w F B c KN G [(bm, msgObj ⟨2, (i : Int), gen, seq, epoch, value, metric⟩)] [] w') ∧ (TwoAt kb1 49 w') ∧ (kb1 < w'.heap.size))) (by kernel_rfl) ⟨K2.out.drew, T2.out, L2.out⟩ (fun hHeld => ?_)
 try dsimp only at hHeld
 refine jU 0 hHeld ?_
 try simp only [jX, jD, jE, jF]
 refine jU 1 hHeld ?_
 try simp only [jX, jD, jE, jF]
 refine jU 2 hHeld ?_
 try simp only [jX, jD, jE, jF]
 refine' jT 3 rfl (by rfl) ?_ hHeld ?_
 rotate_left
 ·(intro w hSw; (try dsimp only at hSw); obtain ⟨kk, tw, lt⟩ := hSw; obtain ⟨⟨t0, t2, t4, t6, t26, t27, t28⟩, _⟩ := CG.out _ kk.gt; have m1 : w.cell? ⟨bm, 1, none⟩ = some (Value.int IntKind.i64 (i : Int)) := at_cell kk.kp.b0 1; go_simp; try with_reducible rfl)
 try simp only [jX, jD, jE, jF]
 refine jU 4 hHeld ?_
 try simp only [jX, jD, jE, jF]
 refine' jT 5 rfl (by rfl) ?_ hHeld ?_
 rotate_left
 ·(intro w hSw; (try dsimp only at hSw); obtain ⟨kk, tw, lt⟩ := hSw; obtain ⟨⟨t0, t2, t4, t6, t26, t27, t28⟩, _⟩ := CG.out _ kk.gt; have m1 : w.cell? ⟨bm, 1, none⟩ = some (Value.int IntKind.i64 (i : Int)) := at_cell kk.kp.b0 1; go_simp; try with_reducible rfl)
 try simp only [jX, jD, jE, jF]
 refine jU 6 hHeld ?_
 try simp only [jX, jD, jE, jF]
 refine jU 7 hHeld ?_
 try simp only [jX, jD, jE, jF]
 refine jR [8, 12] ?_
 refine jG rfl (fun K hK => ?_) (jG rfl (fun K hK => ?_) AllReadyH.nil)
 ·try simp only [jD, jE, jF]
  go_simp
  have hH2 := hHeld
  obtain ⟨kk, tw, lt⟩ := hH2
  refine (CK.out _ kk.gt.ring).mono ?_
  rintro e w1008 ⟨rfl, hg⟩
  have L8 := hid (show (Kr w F B c KN G [(bm, msgObj ⟨2, (i : Int), gen, seq, epoch, value, metric⟩)] [] w1008) ∧ (TwoAt kb1 49 w1008) ∧ (kb1 < w1008.heap.size) from ⟨kk.grown hg, tw.grown hg, Nat.lt_of_lt_of_le lt hg.size⟩)
  clear hHeld hg kk tw lt
  go_wp2_with fail
  refine hK.out _ _ ?_ (fun hHeld => ?_)
  ·exact L8.out
  clear hK K
  try dsimp only at hHeld
  try simp only [jX, jD, jE, jF]
  refine jU 9 hHeld ?_
  try simp only [jX, jD, jE, jF]
  refine jU 10 hHeld ?_
  try simp only [jX, jD, jE, jF]
  refine jU 11 hHeld ?_
  try simp only [jX, jD, jE, jF]
  refine jR [12] ?_
  refine jG rfl (fun K hK => ?_) AllReadyH.nil
  have hH2 := hHeld
  obtain ⟨kk, tw, lt⟩ := hH2
  have hg : w1008.grownBy (w1008.alloc (keyObj 0#64 0#64)) none := World.grownBy_alloc _ _ _
  obtain ⟨nk, hnk⟩ : ∃ nk, w1008.heap.size = nk := ⟨_, rfl⟩
  have hnk0 : kb1 < nk ∧ w.heap.size ≤ nk ∧ bm ≠ nk := hnk ▸ ⟨lt, kk.size, by have := at_lt kk.kp.b0; omega⟩
  have L12 := hid (show (Kr w F B c KN G [(bm, msgObj ⟨2, (i : Int), gen, seq, epoch, value, metric⟩)] [] (w1008.alloc (keyObj 0#64 0#64))) ∧ (TwoAt kb1 49 (w1008.alloc (keyObj 0#64 0#64))) ∧ (kb1 < (w1008.alloc (keyObj 0#64 0#64)).heap.size) from ⟨kk.grown hg, tw.grown hg, Nat.lt_of_lt_of_le lt hg.size⟩)
  have Nan := hid (show TwoAt nk 49 (w1008.alloc (keyObj 0#64 0#64)) from ⟨_, _, by rw [← hnk]; exact at_new w1008 _⟩)
  clear hHeld hg kk tw lt
  try simp only [jD, jE, jF]
  go_simp
  refine hK.out _ _ ?_ (fun hHeld => ?_)
  ·exact L12.out
  clear hK K
  try dsimp only at hHeld
  try simp only [jX, jD, jE, jF]
  refine held_stronger (S' := fun w' => (fun w' => TwoAt nk 49 w') w' ∧ ((fun w' => (Kr w F B c KN G [(bm, msgObj ⟨2, (i : Int), gen, seq, epoch, value, metric⟩)] [] w') ∧ (TwoAt kb1 49 w') ∧ (kb1 < w'.heap.size))) w') (fun _ h => h.2) _ _ _ _ ?_
  replace hHeld := And.intro Nan.out hHeld
  try dsimp only at hHeld
  refine jR [13] ?_
  refine jG rfl (fun K hK => ?_) AllReadyH.nil
  have hH2 := hHeld
  obtain ⟨an, kk, tw, lt⟩ := hH2
  obtain ⟨xo, yo, hno⟩ := id an
  have L13 := hid (show (TwoAt nk 49 (((w1008.alloc (keyObj 0#64 0#64))).setRow nk #[.int .u64 (q ka), .int .u64 (q kb)])) ∧ (Kr w F B c KN G [(bm, msgObj ⟨2, (i : Int), gen, seq, epoch, value, metric⟩)] [] (((w1008.alloc (keyObj 0#64 0#64))).setRow nk #[.int .u64 (q ka), .int .u64 (q kb)])) ∧ (TwoAt kb1 49 (((w1008.alloc (keyObj 0#64 0#64))).setRow nk #[.int .u64 (q ka), .int .u64 (q kb)])) ∧ (kb1 < (((w1008.alloc (keyObj 0#64 0#64))).setRow nk #[.int .u64 (q ka), .int .u64 (q kb)]).heap.size) from ⟨an.row _ _, kk.rowOther hnk0.2.1 (by simp [hnk0.2.2]) (by simp), tw.other (by have := hnk0.1; omega), (by simpa [World.setRow] using lt)⟩)
  have Nbx := hid (show (((w1008.alloc (keyObj 0#64 0#64))).setRow nk #[.int .u64 (q ka), .int .u64 (q kb)]).heap[nk]? = some (.cells #[.int .u64 (q ka), .int .u64 (q kb)] 49) from at_setRow hno)
  have A13 := hid (hno)
  clear hHeld an kk tw lt
  try simp only [jD, jE, jF]
  rw [if_pos (by rfl)]
  refine wp_store_row (cs := #[.int .u64 (q ka), .int .u64 (q kb)]) A13.out (by kernel_rfl) (by kernel_rfl) (by kernel_rfl) rfl rfl rfl rfl ?_
  refine hK.out _ _ ?_ (fun hHeld => ?_)
  ·exact L13.out
  clear hK K
  try dsimp only at hHeld
  try simp only [jX, jD, jE, jF]
  refine held_stronger (S' := fun w' => (fun w' => w'.heap[nk]? = some (.cells #[.int .u64 (q ka), .int .u64 (q kb)] 49)) w' ∧ ((fun w' => (TwoAt nk 49 w') ∧ (Kr w F B c KN G [(bm, msgObj ⟨2, (i : Int), gen, seq, epoch, value, metric⟩)] [] w') ∧ (TwoAt kb1 49 w') ∧ (kb1 < w'.heap.size))) w') (fun _ h => h.2) _ _ _ _ ?_
  replace hHeld := And.intro Nbx.out hHeld
  try dsimp only at hHeld
  refine jU 14 hHeld ?_
  try simp only [jX, jD, jE, jF]
  refine wpAnyH_done (by kernel_rfl) ?_ _
  obtain ⟨bx, an, kk, tw, lt⟩ := hHeld
  refine exit_gen (fun wx => (Kr w F B c KN G [(bm, msgObj ⟨2, (i : Int), gen, seq, epoch, value, metric⟩)] [] wx ∧ TwoAt kb1 49 wx) ∧ wx.heap[nk]? = some (.cells #[.int .u64 (q ka), .int .u64 (q kb)] 49)) ⟨⟨kk, tw⟩, bx⟩ ?_
  clear kk tw bx an lt
  rintro w3 ⟨⟨k3, t3⟩, b3⟩
  have K3 := hid k3; have T3 := hid t3; have X3 := hid b3; clear k3 t3 b3
  obtain ⟨⟨t0, t2, t4, t6, t26, t27, t28⟩, ⟨r0, r1, r2, r3⟩, rg, ⟨x1, x2, x3, x4⟩⟩ := CG.out _ K3.out.gt
  have m1 : w3.cell? ⟨bm, 1, none⟩ = some (.int .i64 (i : Int)) := at_cell K3.out.kp.b0 1
  go_upto_region 7 with fail
  go_quiet (fail)
  clear m1 t0 t2 t4 t6 t26 t27 t28 r0 r1 r2 r3 rg x1 x2 x3 x4
  refine exit_gen (fun wx => (Kr w F B c KN G [(bm, msgObj ⟨2, (i : Int), gen, seq, epoch, value, metric⟩)] [] wx ∧ TwoAt kb1 49 wx) ∧ wx.heap[nk]? = some (.cells #[.int .u64 (q ka), .int .u64 (q kb)] 49)) ⟨⟨K3.out.grown (gb_drewQ w3 _), T3.out.grown (gb_drewQ w3 _)⟩, at_grown X3.out (gb_drewQ w3 _) (by simp)⟩ ?_
  clear K3 T3 X3
  rintro w4 ⟨⟨k3, t3⟩, b3⟩
  have K4 := hid k3; have T4 := hid t3; have X4 := hid b3; clear k3 t3 b3
  go_wp2_with fail
  refine wp_region_held_drew (S := (fun w' => (Kr w F B c KN G [(bm, msgObj ⟨2, (i : Int), gen, seq, epoch, value, metric⟩)] [] w') ∧ (TwoAt kb1 49 w') ∧ (w'.heap[nk]? = some (.cells #[.int .u64 (q ka), .int .u64 (q kb)] 49)))) (by kernel_rfl) ⟨K4.out.drew, T4.out, X4.out⟩ (fun hHeld => ?_)
  try dsimp only at hHeld
  refine' jT 0 rfl (by rfl) ?_ hHeld ?_
  rotate_left
  ·(intro w hSw; (try dsimp only at hSw); (try simp only [jD, jE, jF]); refine exec_row (x := .tmp 10) hSw.2.2 Tryz.underlying49 rfl (by kernel_rfl) ?_ ?_ <;> rfl)
  try simp only [jX, jD, jE, jF]
  refine jU 1 hHeld ?_
  try simp only [jX, jD, jE, jF]
  refine jU 2 hHeld ?_
  try simp only [jX, jD, jE, jF]
  refine jU 3 hHeld ?_
  try simp only [jX, jD, jE, jF]
  refine' jT 4 rfl (by rfl) ?_ hHeld ?_
  rotate_left
  ·(intro w hSw; (try dsimp only at hSw); obtain ⟨kk, tw, bx⟩ := hSw; obtain ⟨⟨t0, t2, t4, t6, t26, t27, t28⟩, _, _, ⟨x1, x2, x3, x4⟩⟩ := CG.out _ kk.gt; have m1 : w.cell? ⟨bm, 1, none⟩ = some (Value.int IntKind.i64 (i : Int)) := at_cell kk.kp.b0 1; go_simp; try with_reducible rfl)
  try simp only [jX, jD, jE, jF]
  refine jU 5 hHeld ?_
  try simp only [jX, jD, jE, jF]
  refine' jT 6 rfl (by rfl) ?_ hHeld ?_
  rotate_left
  ·(intro w hSw; (try dsimp only at hSw); obtain ⟨kk, tw, bx⟩ := hSw; obtain ⟨⟨t0, t2, t4, t6, t26, t27, t28⟩, _, _, ⟨x1, x2, x3, x4⟩⟩ := CG.out _ kk.gt; have m1 : w.cell? ⟨bm, 1, none⟩ = some (Value.int IntKind.i64 (i : Int)) := at_cell kk.kp.b0 1; go_simp; try with_reducible rfl)
  try simp only [jX, jD, jE, jF]
  refine jU 7 hHeld ?_
  try simp only [jX, jD, jE, jF]
  refine' jT 8 rfl (by rfl) ?_ hHeld ?_
  rotate_left
  ·(intro w hSw; (try dsimp only at hSw); obtain ⟨kk, tw, bx⟩ := hSw; obtain ⟨⟨t0, t2, t4, t6, t26, t27, t28⟩, _, _, ⟨x1, x2, x3, x4⟩⟩ := CG.out _ kk.gt; have m1 : w.cell? ⟨bm, 1, none⟩ = some (Value.int IntKind.i64 (i : Int)) := at_cell kk.kp.b0 1; go_simp; try with_reducible rfl)
  try simp only [jX, jD, jE, jF]
  refine jR [9] ?_
  refine jG rfl (fun K hK => ?_) AllReadyH.nil
  have hH2 := hHeld
  obtain ⟨kk, tw, bx⟩ := hH2
  obtain ⟨xo, yo, hno⟩ := id tw
  have L9 := hid (show (Kr w F B c KN G [(bm, msgObj ⟨2, (i : Int), gen, seq, epoch, value, metric⟩)] [] ((w4.drew).setRow kb1 #[.int .u64 (q ka), .int .u64 (q kb)])) ∧ (TwoAt kb1 49 ((w4.drew).setRow kb1 #[.int .u64 (q ka), .int .u64 (q kb)])) ∧ (((w4.drew).setRow kb1 #[.int .u64 (q ka), .int .u64 (q kb)]).heap[nk]? = some (.cells #[.int .u64 (q ka), .int .u64 (q kb)] 49)) from ⟨kk.rowOther ZZ.out (by simp [NB.out]) (by simp), tw.row _ _, at_setRow_other bx (by have := hnk0.1; omega)⟩)
  have Nrs := hid (show ((w4.drew).setRow kb1 #[.int .u64 (q ka), .int .u64 (q kb)]).heap[kb1]? = some (.cells #[.int .u64 (q ka), .int .u64 (q kb)] 49) from at_setRow hno)
  have A9 := hid (hno)
  clear hHeld kk tw bx
  try simp only [jD, jE, jF]
  rw [if_pos (by rfl)]
  refine wp_store_row (cs := #[.int .u64 (q ka), .int .u64 (q kb)]) A9.out (by kernel_rfl) (by kernel_rfl) (by kernel_rfl) rfl rfl rfl rfl ?_
  refine hK.out _ _ ?_ (fun hHeld => ?_)
  ·exact L9.out
  clear hK K
  try dsimp only at hHeld
  try simp only [jX, jD, jE, jF]
  refine held_stronger (S' := fun w' => (fun w' => w'.heap[kb1]? = some (.cells #[.int .u64 (q ka), .int .u64 (q kb)] 49)) w' ∧ ((fun w' => (Kr w F B c KN G [(bm, msgObj ⟨2, (i : Int), gen, seq, epoch, value, metric⟩)] [] w') ∧ (TwoAt kb1 49 w') ∧ (w'.heap[nk]? = some (.cells #[.int .u64 (q ka), .int .u64 (q kb)] 49)))) w') (fun _ h => h.2) _ _ _ _ ?_
  replace hHeld := And.intro Nrs.out hHeld
  try dsimp only at hHeld
  refine jU 10 hHeld ?_
  try simp only [jX, jD, jE, jF]
  refine jU 11 hHeld ?_
  try simp only [jX, jD, jE, jF]
  refine wpAnyH_done (by kernel_rfl) ?_ _
  obtain ⟨rs, kk, tw, bx⟩ := hHeld
  refine exit_gen (fun wx => wx.heap[kb1]? = some (.cells #[.int .u64 (q ka), .int .u64 (q kb)] 49) ∧ w.grownBy wx none) ⟨rs, kk.kp.g⟩ ?_
  clear kk tw bx rs
  rintro w5 ⟨rs4, g4⟩
  have r0 : w5.cell? ⟨kb1, 0, none⟩ = some (.int .u64 (q ka)) := at_cell rs4 0
  have r1 : w5.cell? ⟨kb1, 1, none⟩ = some (.int .u64 (q kb)) := at_cell rs4 1
  have G4 := hid g4; clear g4 rs4
  go_wp2_with fail
  exact bodyPost_ret (v := .tuple #[pair ka kb, .pointer (some ⟨B.A i, 0, none⟩), .int .i64 0]) (by simp [results, Tryz.results60, go_sem, r0, r1]) rfl ⟨rfl, G4.out⟩
 ·have hH2 := hHeld
  obtain ⟨kk, tw, lt⟩ := hH2
  have hg : w2.drew.grownBy (w2.drew.alloc (keyObj 0#64 0#64)) none := World.grownBy_alloc _ _ _
  obtain ⟨nk, hnk⟩ : ∃ nk, w2.drew.heap.size = nk := ⟨_, rfl⟩
  have hnk0 : kb1 < nk ∧ w.heap.size ≤ nk ∧ bm ≠ nk := hnk ▸ ⟨lt, kk.size, by have := at_lt kk.kp.b0; omega⟩
  have L12 := hid (show (Kr w F B c KN G [(bm, msgObj ⟨2, (i : Int), gen, seq, epoch, value, metric⟩)] [] (w2.drew.alloc (keyObj 0#64 0#64))) ∧ (TwoAt kb1 49 (w2.drew.alloc (keyObj 0#64 0#64))) ∧ (kb1 < (w2.drew.alloc (keyObj 0#64 0#64)).heap.size) from ⟨kk.grown hg, tw.grown hg, Nat.lt_of_lt_of_le lt hg.size⟩)
  have Nan := hid (show TwoAt nk 49 (w2.drew.alloc (keyObj 0#64 0#64)) from ⟨_, _, by rw [← hnk]; exact at_new w2.drew _⟩)
  clear hHeld hg kk tw lt
  try simp only [jD, jE, jF]
  go_simp
  refine hK.out _ _ ?_ (fun hHeld => ?_)
  ·exact L12.out
  clear hK K
  try dsimp only at hHeld
  try simp only [jX, jD, jE, jF]
  refine held_stronger (S' := fun w' => (fun w' => TwoAt nk 49 w') w' ∧ ((fun w' => (Kr w F B c KN G [(bm, msgObj ⟨2, (i : Int), gen, seq, epoch, value, metric⟩)] [] w') ∧ (TwoAt kb1 49 w') ∧ (kb1 < w'.heap.size))) w') (fun _ h => h.2) _ _ _ _ ?_
  replace hHeld := And.intro Nan.out hHeld
  try dsimp only at hHeld
  refine jR [8] ?_
  refine jG rfl (fun K hK => ?_) AllReadyH.nil
  try simp only [jD, jE, jF]
  go_simp
  have hH2 := hHeld
  obtain ⟨an, kk, tw, lt⟩ := hH2
  refine (CK.out _ kk.gt.ring).mono ?_
  rintro e w1008 ⟨rfl, hg⟩
  have L8 := hid (show (TwoAt nk 49 w1008) ∧ (Kr w F B c KN G [(bm, msgObj ⟨2, (i : Int), gen, seq, epoch, value, metric⟩)] [] w1008) ∧ (TwoAt kb1 49 w1008) ∧ (kb1 < w1008.heap.size) from ⟨an.grown hg, kk.grown hg, tw.grown hg, Nat.lt_of_lt_of_le lt hg.size⟩)
  clear hHeld hg an kk tw lt
  go_wp2_with fail
  refine hK.out _ _ ?_ (fun hHeld => ?_)
  ·exact L8.out
  clear hK K
  try dsimp only at hHeld
  try simp only [jX, jD, jE, jF]
  refine jU 9 hHeld ?_
  try simp only [jX, jD, jE, jF]
  refine jU 10 hHeld ?_
  try simp only [jX, jD, jE, jF]
  refine jU 11 hHeld ?_
  try simp only [jX, jD, jE, jF]
  refine jR [13] ?_
  refine jG rfl (fun K hK => ?_) AllReadyH.nil
  have hH2 := hHeld
  obtain ⟨an, kk, tw, lt⟩ := hH2
  obtain ⟨xo, yo, hno⟩ := id an
  have L13 := hid (show (TwoAt nk 49 ((w1008).setRow nk #[.int .u64 (q ka), .int .u64 (q kb)])) ∧ (Kr w F B c KN G [(bm, msgObj ⟨2, (i : Int), gen, seq, epoch, value, metric⟩)] [] ((w1008).setRow nk #[.int .u64 (q ka), .int .u64 (q kb)])) ∧ (TwoAt kb1 49 ((w1008).setRow nk #[.int .u64 (q ka), .int .u64 (q kb)])) ∧ (kb1 < ((w1008).setRow nk #[.int .u64 (q ka), .int .u64 (q kb)]).heap.size) from ⟨an.row _ _, kk.rowOther hnk0.2.1 (by simp [hnk0.2.2]) (by simp), tw.other (by have := hnk0.1; omega), (by simpa [World.setRow] using lt)⟩)
  have Nbx := hid (show ((w1008).setRow nk #[.int .u64 (q ka), .int .u64 (q kb)]).heap[nk]? = some (.cells #[.int .u64 (q ka), .int .u64 (q kb)] 49) from at_setRow hno)
  have A13 := hid (hno)
  clear hHeld an kk tw lt
  try simp only [jD, jE, jF]
  rw [if_pos (by rfl)]
  refine wp_store_row (cs := #[.int .u64 (q ka), .int .u64 (q kb)]) A13.out (by kernel_rfl) (by kernel_rfl) (by kernel_rfl) rfl rfl rfl rfl ?_
  refine hK.out _ _ ?_ (fun hHeld => ?_)
  ·exact L13.out
  clear hK K
  try dsimp only at hHeld
  try simp only [jX, jD, jE, jF]
  refine held_stronger (S' := fun w' => (fun w' => w'.heap[nk]? = some (.cells #[.int .u64 (q ka), .int .u64 (q kb)] 49)) w' ∧ ((fun w' => (TwoAt nk 49 w') ∧ (Kr w F B c KN G [(bm, msgObj ⟨2, (i : Int), gen, seq, epoch, value, metric⟩)] [] w') ∧ (TwoAt kb1 49 w') ∧ (kb1 < w'.heap.size))) w') (fun _ h => h.2) _ _ _ _ ?_
  replace hHeld := And.intro Nbx.out hHeld
  try dsimp only at hHeld
  refine jU 14 hHeld ?_
  try simp only [jX, jD, jE, jF]
  refine wpAnyH_done (by kernel_rfl) ?_ _
  obtain ⟨bx, an, kk, tw, lt⟩ := hHeld
  refine exit_gen (fun wx => (Kr w F B c KN G [(bm, msgObj ⟨2, (i : Int), gen, seq, epoch, value, metric⟩)] [] wx ∧ TwoAt kb1 49 wx) ∧ wx.heap[nk]? = some (.cells #[.int .u64 (q ka), .int .u64 (q kb)] 49)) ⟨⟨kk, tw⟩, bx⟩ ?_
  clear kk tw bx an lt
  rintro w3 ⟨⟨k3, t3⟩, b3⟩
  have K3 := hid k3; have T3 := hid t3; have X3 := hid b3; clear k3 t3 b3
  obtain ⟨⟨t0, t2, t4, t6, t26, t27, t28⟩, ⟨r0, r1, r2, r3⟩, rg, ⟨x1, x2, x3, x4⟩⟩ := CG.out _ K3.out.gt
  have m1 : w3.cell? ⟨bm, 1, none⟩ = some (.int .i64 (i : Int)) := at_cell K3.out.kp.b0 1
  go_upto_region 7 with fail
  go_quiet (fail)
  clear m1 t0 t2 t4 t6 t26 t27 t28 r0 r1 r2 r3 rg x1 x2 x3 x4
  refine exit_gen (fun wx => (Kr w F B c KN G [(bm, msgObj ⟨2, (i : Int), gen, seq, epoch, value, metric⟩)] [] wx ∧ TwoAt kb1 49 wx) ∧ wx.heap[nk]? = some (.cells #[.int .u64 (q ka), .int .u64 (q kb)] 49)) ⟨⟨K3.out.grown (gb_drewQ w3 _), T3.out.grown (gb_drewQ w3 _)⟩, at_grown X3.out (gb_drewQ w3 _) (by simp)⟩ ?_
  clear K3 T3 X3
  rintro w4 ⟨⟨k3, t3⟩, b3⟩
  have K4 := hid k3; have T4 := hid t3; have X4 := hid b3; clear k3 t3 b3
  go_wp2_with fail
  refine wp_region_held_drew (S := (fun w' => (Kr w F B c KN G [(bm, msgObj ⟨2, (i : Int), gen, seq, epoch, value, metric⟩)] [] w') ∧ (TwoAt kb1 49 w') ∧ (w'.heap[nk]? = some (.cells #[.int .u64 (q ka), .int .u64 (q kb)] 49)))) (by kernel_rfl) ⟨K4.out.drew, T4.out, X4.out⟩ (fun hHeld => ?_)
  try dsimp only at hHeld
  refine' jT 0 rfl (by rfl) ?_ hHeld ?_
  rotate_left
  ·(intro w hSw; (try dsimp only at hSw); (try simp only [jD, jE, jF]); refine exec_row (x := .tmp 10) hSw.2.2 Tryz.underlying49 rfl (by kernel_rfl) ?_ ?_ <;> rfl)
  try simp only [jX, jD, jE, jF]
  refine jU 1 hHeld ?_
  try simp only [jX, jD, jE, jF]
  refine jU 2 hHeld ?_
  try simp only [jX, jD, jE, jF]
  refine jU 3 hHeld ?_
  try simp only [jX, jD, jE, jF]
  refine' jT 4 rfl (by rfl) ?_ hHeld ?_
  rotate_left
  ·(intro w hSw; (try dsimp only at hSw); obtain ⟨kk, tw, bx⟩ := hSw; obtain ⟨⟨t0, t2, t4, t6, t26, t27, t28⟩, _, _, ⟨x1, x2, x3, x4⟩⟩ := CG.out _ kk.gt; have m1 : w.cell? ⟨bm, 1, none⟩ = some (Value.int IntKind.i64 (i : Int)) := at_cell kk.kp.b0 1; go_simp; try with_reducible rfl)
  try simp only [jX, jD, jE, jF]
  refine jU 5 hHeld ?_
  try simp only [jX, jD, jE, jF]
  refine' jT 6 rfl (by rfl) ?_ hHeld ?_
  rotate_left
  ·(intro w hSw; (try dsimp only at hSw); obtain ⟨kk, tw, bx⟩ := hSw; obtain ⟨⟨t0, t2, t4, t6, t26, t27, t28⟩, _, _, ⟨x1, x2, x3, x4⟩⟩ := CG.out _ kk.gt; have m1 : w.cell? ⟨bm, 1, none⟩ = some (Value.int IntKind.i64 (i : Int)) := at_cell kk.kp.b0 1; go_simp; try with_reducible rfl)
  try simp only [jX, jD, jE, jF]
  refine jU 7 hHeld ?_
  try simp only [jX, jD, jE, jF]
  refine' jT 8 rfl (by rfl) ?_ hHeld ?_
  rotate_left
  ·(intro w hSw; (try dsimp only at hSw); obtain ⟨kk, tw, bx⟩ := hSw; obtain ⟨⟨t0, t2, t4, t6, t26, t27, t28⟩, _, _, ⟨x1, x2, x3, x4⟩⟩ := CG.out _ kk.gt; have m1 : w.cell? ⟨bm, 1, none⟩ = some (Value.int IntKind.i64 (i : Int)) := at_cell kk.kp.b0 1; go_simp; try with_reducible rfl)
  try simp only [jX, jD, jE, jF]
  refine jR [9] ?_
  refine jG rfl (fun K hK => ?_) AllReadyH.nil
  have hH2 := hHeld
  obtain ⟨kk, tw, bx⟩ := hH2
  obtain ⟨xo, yo, hno⟩ := id tw
  have L9 := hid (show (Kr w F B c KN G [(bm, msgObj ⟨2, (i : Int), gen, seq, epoch, value, metric⟩)] [] ((w4.drew).setRow kb1 #[.int .u64 (q ka), .int .u64 (q kb)])) ∧ (TwoAt kb1 49 ((w4.drew).setRow kb1 #[.int .u64 (q ka), .int .u64 (q kb)])) ∧ (((w4.drew).setRow kb1 #[.int .u64 (q ka), .int .u64 (q kb)]).heap[nk]? = some (.cells #[.int .u64 (q ka), .int .u64 (q kb)] 49)) from ⟨kk.rowOther ZZ.out (by simp [NB.out]) (by simp), tw.row _ _, at_setRow_other bx (by have := hnk0.1; omega)⟩)
  have Nrs := hid (show ((w4.drew).setRow kb1 #[.int .u64 (q ka), .int .u64 (q kb)]).heap[kb1]? = some (.cells #[.int .u64 (q ka), .int .u64 (q kb)] 49) from at_setRow hno)
  have A9 := hid (hno)
  clear hHeld kk tw bx
  try simp only [jD, jE, jF]
  rw [if_pos (by rfl)]
  refine wp_store_row (cs := #[.int .u64 (q ka), .int .u64 (q kb)]) A9.out (by kernel_rfl) (by kernel_rfl) (by kernel_rfl) rfl rfl rfl rfl ?_
  refine hK.out _ _ ?_ (fun hHeld => ?_)
  ·exact L9.out
  clear hK K
  try dsimp only at hHeld
  try simp only [jX, jD, jE, jF]
  refine held_stronger (S' := fun w' => (fun w' => w'.heap[kb1]? = some (.cells #[.int .u64 (q ka), .int .u64 (q kb)] 49)) w' ∧ ((fun w' => (Kr w F B c KN G [(bm, msgObj ⟨2, (i : Int), gen, seq, epoch, value, metric⟩)] [] w') ∧ (TwoAt kb1 49 w') ∧ (w'.heap[nk]? = some (.cells #[.int .u64 (q ka), .int .u64 (q kb)] 49)))) w') (fun _ h => h.2) _ _ _ _ ?_
  replace hHeld := And.intro Nrs.out hHeld
  try dsimp only at hHeld
  refine jU 10 hHeld ?_
  try simp only [jX, jD, jE, jF]
  refine jU 11 hHeld ?_
  try simp only [jX, jD, jE, jF]
  refine wpAnyH_done (by kernel_rfl) ?_ _
  obtain ⟨rs, kk, tw, bx⟩ := hHeld
  refine exit_gen (fun wx => wx.heap[kb1]? = some (.cells #[.int .u64 (q ka), .int .u64 (q kb)] 49) ∧ w.grownBy wx none) ⟨rs, kk.kp.g⟩ ?_
  clear kk tw bx rs
  rintro w5 ⟨rs4, g4⟩
  have r0 : w5.cell? ⟨kb1, 0, none⟩ = some (.int .u64 (q ka)) := at_cell rs4 0
  have r1 : w5.cell? ⟨kb1, 1, none⟩ = some (.int .u64 (q kb)) := at_cell rs4 1
  have G4 := hid g4; clear g4 rs4
  go_wp2_with fail
  exact bodyPost_ret (v := .tuple #[pair ka kb, .pointer (some ⟨B.A i, 0, none⟩), .int .i64 0]) (by simp [results, Tryz.results60, go_sem, r0, r1]) rfl ⟨rfl, G4.out⟩
set_option maxHeartbeats 3200000 in
theorem rkeyg_rno {F : List Nat} {B : RBl} {c : Conf} {KN : Nat} {G : Gt} {gen seq epoch value metric : Int} (i : Nat) (now : Int) (w : World) (k0 : GrAt w F B c KN G) (hi : i < G.r.n) (g0 : 0 ≤ gen) (g1 : gen ≤ 60000) (hkey : ¬ G.r.keyIs i (gen - 1) now) (hs : (gen - 1) = G.r.gen i) :
  Calls Tryz.prog 60 #[.pointer (some ⟨B.g, 0, none⟩), mg ⟨2, (i : Int), gen, seq, epoch, value, metric⟩, .int .i64 now] w fun e w' => e = .returned (.tuple #[.agg #[.int .u64 0, .int .u64 0], .pointer none, .int .i64 4]) ∧ w.grownBy w' none := by
 have K0 := hid (((kr_start k0).alloc (msgObj ⟨2, (i : Int), gen, seq, epoch, value, metric⟩)).alloc (keyObj 0#64 0#64))
 rw [size_alloc] at K0
 have hin : 0 ≤ (i : Int) ∧ (i : Int) < (G.r.n : Int) := by omega
 have n16 := k0.ring.ok.n2
 have cc1 := k0.c1; have cc2 := k0.c2
 have CS := hid (fun u => rsealed_any ⟨2, (i : Int), gen, seq, epoch, value, metric⟩ g0 g1 u)
 rw [show sealedOf ⟨2, (i : Int), gen, seq, epoch, value, metric⟩ = (gen - 1) from if_pos (by first | rfl | exact hk)] at CS
 have CK := hid (fun u (k : RfAt u B.r B.gn B.sn G.r) => fkey_any (i : Int) (gen - 1) now u k)
 have hKE : G.r.key (i : Int) (gen - 1) now = (⟨0, 0⟩, 4) := by unfold Rg.key; rw [if_pos hin, if_neg (by simpa using hkey)]
 rw [hKE] at CK
 simp only [keyVal] at CK
 have CG := hid (fun u (k : GrAt u F B c KN G) => (⟨k.tops, k.ring.tops, (k.ring.cells hi).1, k.cells hi⟩ : _ ∧ _ ∧ _ ∧ _))
 have ds : ((gen - 1) != G.r.gen i) = false := by simpa using hs
 have ds2 : ((gen - 1) == G.r.gen i) = true := by simpa using hs
 clear hs
 obtain ⟨sg, hsg⟩ : ∃ sg, sg = gen - 1 := ⟨_, rfl⟩
 rw [← hsg] at ds ds2 CK CS
 clear hsg
 clear k0
 generalize G.r.gen i = gn at *
 obtain ⟨q1, q2⟩ := hin
 generalize G.r.n = nn at q2 n16 CG hi cc1 cc2
 unfold maxLen at cc1 cc2
 go_enter Tryz.func60, Tryz.ntmps60
 go_upto_region 1 with fail
 refine wp_gen (fun wx => Kr w F B c KN G [(w.heap.size + 1, keyObj 0#64 0#64), (w.heap.size, msgObj ⟨2, (i : Int), gen, seq, epoch, value, metric⟩)] [] wx) K0.out ?_
 clear K0
 have z0 : w.heap.size ≤ w.heap.size + 1 := Nat.le_succ _
 have z1 : w.heap.size ≠ w.heap.size + 1 := by omega
 have zz := And.intro z0 z1; clear z0 z1
 generalize w.heap.size + 1 = kb1 at *
 have lb := Nat.le_refl w.heap.size
 generalize hbm : w.heap.size = bm at zz lb ⊢
 have ZZ : Hid (w.heap.size ≤ kb1) := hid (hbm ▸ zz.1)
 have NB : Hid (bm ≠ kb1) := hid zz.2
 clear zz lb
 intro w1 h1
 have K1 := hid h1; clear h1
 go_wp2_with (refine wpList_row K1.out.kp.b1 Tryz.underlying39 rfl (by kernel_rfl) rfl rfl rfl rfl ?_)
 refine (CS.out _).mono ?_
 rintro e wS ⟨rfl, hg⟩
 have K1s := hid (K1.out.grown hg); clear hg K1 CS
 have m0 : wS.cell? ⟨bm, 0, none⟩ = some (.int .i64 2) := at_cell K1s.out.kp.b1 0
 have m1 : wS.cell? ⟨bm, 1, none⟩ = some (.int .i64 (i : Int)) := at_cell K1s.out.kp.b1 1
 obtain ⟨⟨t0, t2, t4, t6, t26, t27, t28⟩, ⟨r0, r1, r2, r3⟩, rg, ⟨x1, x2, x3, x4⟩⟩ := CG.out _ K1s.out.gt
 go_upto_region 2 with fail
 go_quiet (fail)
 clear m0 m1 t0 t2 t4 t6 t26 t27 t28 r0 r1 r2 r3 rg x1 x2 x3 x4
 have lt1 := at_lt K1s.out.kp.b0
 refine exit_gen (fun wx => (Kr w F B c KN G [(bm, msgObj ⟨2, (i : Int), gen, seq, epoch, value, metric⟩)] [] wx ∧ TwoAt kb1 49 wx) ∧ kb1 < wx.heap.size) ⟨⟨(K1s.out.tail).grown (gb_drewQ wS _), ⟨_, _, at_grown K1s.out.kp.b0 (gb_drewQ wS _) (by simp)⟩⟩, lt1⟩ ?_
 clear K1s lt1
 rintro w2 ⟨⟨k2, tw2⟩, l2⟩
 have K2 := hid k2; have T2 := hid tw2; have L2 := hid l2; clear k2 tw2 l2
 go_wp2_with fail
 refine wp_region_held_drew (S := (fun w' => (Kr w F B c KN G [(bm, msgObj ⟨2, (i : Int), gen, seq, epoch, value, metric⟩)] [] w') ∧ (TwoAt kb1 49 w') ∧ (kb1 < w'.heap.size))) (by kernel_rfl) ⟨K2.out.drew, T2.out, L2.out⟩ (fun hHeld => ?_)
 try dsimp only at hHeld
 refine jU 0 hHeld ?_
 try simp only [jX, jD, jE, jF]
 refine jU 1 hHeld ?_
 try simp only [jX, jD, jE, jF]
 refine jU 2 hHeld ?_
 try simp only [jX, jD, jE, jF]
 refine' jT 3 rfl (by rfl) ?_ hHeld ?_
 rotate_left
 ·(intro w hSw; (try dsimp only at hSw); obtain ⟨kk, tw, lt⟩ := hSw; obtain ⟨⟨t0, t2, t4, t6, t26, t27, t28⟩, _⟩ := CG.out _ kk.gt; have m1 : w.cell? ⟨bm, 1, none⟩ = some (Value.int IntKind.i64 (i : Int)) := at_cell kk.kp.b0 1; go_simp; try with_reducible rfl)
 try simp only [jX, jD, jE, jF]
 refine jU 4 hHeld ?_
 try simp only [jX, jD, jE, jF]
 refine' jT 5 rfl (by rfl) ?_ hHeld ?_
 rotate_left
 ·(intro w hSw; (try dsimp only at hSw); obtain ⟨kk, tw, lt⟩ := hSw; obtain ⟨⟨t0, t2, t4, t6, t26, t27, t28⟩, _⟩ := CG.out _ kk.gt; have m1 : w.cell? ⟨bm, 1, none⟩ = some (Value.int IntKind.i64 (i : Int)) := at_cell kk.kp.b0 1; go_simp; try with_reducible rfl)
 try simp only [jX, jD, jE, jF]
 refine jU 6 hHeld ?_
 try simp only [jX, jD, jE, jF]
 refine jU 7 hHeld ?_
 try simp only [jX, jD, jE, jF]
 refine jR [8, 12] ?_
 refine jG rfl (fun K hK => ?_) (jG rfl (fun K hK => ?_) AllReadyH.nil)
 ·try simp only [jD, jE, jF]
  go_simp
  have hH2 := hHeld
  obtain ⟨kk, tw, lt⟩ := hH2
  refine (CK.out _ kk.gt.ring).mono ?_
  rintro e w1008 ⟨rfl, hg⟩
  have L8 := hid (show (Kr w F B c KN G [(bm, msgObj ⟨2, (i : Int), gen, seq, epoch, value, metric⟩)] [] w1008) ∧ (TwoAt kb1 49 w1008) ∧ (kb1 < w1008.heap.size) from ⟨kk.grown hg, tw.grown hg, Nat.lt_of_lt_of_le lt hg.size⟩)
  clear hHeld hg kk tw lt
  go_wp2_with fail
  refine hK.out _ _ ?_ (fun hHeld => ?_)
  ·exact L8.out
  clear hK K
  try dsimp only at hHeld
  try simp only [jX, jD, jE, jF]
  refine jU 9 hHeld ?_
  try simp only [jX, jD, jE, jF]
  refine jU 10 hHeld ?_
  try simp only [jX, jD, jE, jF]
  refine jU 11 hHeld ?_
  try simp only [jX, jD, jE, jF]
  refine jR [12] ?_
  refine jG rfl (fun K hK => ?_) AllReadyH.nil
  have hH2 := hHeld
  obtain ⟨kk, tw, lt⟩ := hH2
  have hg : w1008.grownBy (w1008.alloc (keyObj 0#64 0#64)) none := World.grownBy_alloc _ _ _
  obtain ⟨nk, hnk⟩ : ∃ nk, w1008.heap.size = nk := ⟨_, rfl⟩
  have hnk0 : kb1 < nk ∧ w.heap.size ≤ nk ∧ bm ≠ nk := hnk ▸ ⟨lt, kk.size, by have := at_lt kk.kp.b0; omega⟩
  have L12 := hid (show (Kr w F B c KN G [(bm, msgObj ⟨2, (i : Int), gen, seq, epoch, value, metric⟩)] [] (w1008.alloc (keyObj 0#64 0#64))) ∧ (TwoAt kb1 49 (w1008.alloc (keyObj 0#64 0#64))) ∧ (kb1 < (w1008.alloc (keyObj 0#64 0#64)).heap.size) from ⟨kk.grown hg, tw.grown hg, Nat.lt_of_lt_of_le lt hg.size⟩)
  have Nan := hid (show TwoAt nk 49 (w1008.alloc (keyObj 0#64 0#64)) from ⟨_, _, by rw [← hnk]; exact at_new w1008 _⟩)
  clear hHeld hg kk tw lt
  try simp only [jD, jE, jF]
  go_simp
  refine hK.out _ _ ?_ (fun hHeld => ?_)
  ·exact L12.out
  clear hK K
  try dsimp only at hHeld
  try simp only [jX, jD, jE, jF]
  refine held_stronger (S' := fun w' => (fun w' => TwoAt nk 49 w') w' ∧ ((fun w' => (Kr w F B c KN G [(bm, msgObj ⟨2, (i : Int), gen, seq, epoch, value, metric⟩)] [] w') ∧ (TwoAt kb1 49 w') ∧ (kb1 < w'.heap.size))) w') (fun _ h => h.2) _ _ _ _ ?_
  replace hHeld := And.intro Nan.out hHeld
  try dsimp only at hHeld
  refine jR [13] ?_
  refine jG rfl (fun K hK => ?_) AllReadyH.nil
  have hH2 := hHeld
  obtain ⟨an, kk, tw, lt⟩ := hH2
  obtain ⟨xo, yo, hno⟩ := id an
  have L13 := hid (show (TwoAt nk 49 (((w1008.alloc (keyObj 0#64 0#64))).setRow nk #[.int .u64 0, .int .u64 0])) ∧ (Kr w F B c KN G [(bm, msgObj ⟨2, (i : Int), gen, seq, epoch, value, metric⟩)] [] (((w1008.alloc (keyObj 0#64 0#64))).setRow nk #[.int .u64 0, .int .u64 0])) ∧ (TwoAt kb1 49 (((w1008.alloc (keyObj 0#64 0#64))).setRow nk #[.int .u64 0, .int .u64 0])) ∧ (kb1 < (((w1008.alloc (keyObj 0#64 0#64))).setRow nk #[.int .u64 0, .int .u64 0]).heap.size) from ⟨an.row _ _, kk.rowOther hnk0.2.1 (by simp [hnk0.2.2]) (by simp), tw.other (by have := hnk0.1; omega), (by simpa [World.setRow] using lt)⟩)
  have Nbx := hid (show (((w1008.alloc (keyObj 0#64 0#64))).setRow nk #[.int .u64 0, .int .u64 0]).heap[nk]? = some (.cells #[.int .u64 0, .int .u64 0] 49) from at_setRow hno)
  have A13 := hid (hno)
  clear hHeld an kk tw lt
  try simp only [jD, jE, jF]
  rw [if_pos (by rfl)]
  refine wp_store_row (cs := #[.int .u64 0, .int .u64 0]) A13.out (by kernel_rfl) (by kernel_rfl) (by kernel_rfl) rfl rfl rfl rfl ?_
  refine hK.out _ _ ?_ (fun hHeld => ?_)
  ·exact L13.out
  clear hK K
  try dsimp only at hHeld
  try simp only [jX, jD, jE, jF]
  refine held_stronger (S' := fun w' => (fun w' => w'.heap[nk]? = some (.cells #[.int .u64 0, .int .u64 0] 49)) w' ∧ ((fun w' => (TwoAt nk 49 w') ∧ (Kr w F B c KN G [(bm, msgObj ⟨2, (i : Int), gen, seq, epoch, value, metric⟩)] [] w') ∧ (TwoAt kb1 49 w') ∧ (kb1 < w'.heap.size))) w') (fun _ h => h.2) _ _ _ _ ?_
  replace hHeld := And.intro Nbx.out hHeld
  try dsimp only at hHeld
  refine jU 14 hHeld ?_
  try simp only [jX, jD, jE, jF]
  refine wpAnyH_done (by kernel_rfl) ?_ _
  obtain ⟨bx, an, kk, tw, lt⟩ := hHeld
  refine exit_gen (fun wx => (Kr w F B c KN G [(bm, msgObj ⟨2, (i : Int), gen, seq, epoch, value, metric⟩)] [] wx ∧ TwoAt kb1 49 wx) ∧ wx.heap[nk]? = some (.cells #[.int .u64 0, .int .u64 0] 49)) ⟨⟨kk, tw⟩, bx⟩ ?_
  clear kk tw bx an lt
  rintro w3 ⟨⟨k3, t3⟩, b3⟩
  have K3 := hid k3; have T3 := hid t3; have X3 := hid b3; clear k3 t3 b3
  obtain ⟨x0, y0, hx0⟩ := T3.out
  have c0 : w3.cell? ⟨kb1, 0, none⟩ = some x0 := at_cell hx0 0
  have c1 : w3.cell? ⟨kb1, 1, none⟩ = some y0 := at_cell hx0 1
  have f0 : w3.frozen? ⟨kb1, 0, none⟩ = false := at_free hx0 0
  have f1 : w3.frozen? ⟨kb1, 1, none⟩ = false := at_free hx0 1
  have HX := hid hx0; have HG := hid (K3.out.kp.g); clear hx0
  go_wp2_with fail
  clear c0 c1 f0 f1
  have h0 : ((w3.setCell ⟨kb1, 0, none⟩ (.int .u64 0)).setCell ⟨kb1, 1, none⟩ (.int .u64 0)).heap[kb1]? = some (.cells #[.int .u64 0, .int .u64 0] 49) := by have := at_set (at_set HX.out 0 (.int .u64 0)) 1 (.int .u64 0); exact this
  have h1 : w.grownBy ((w3.setCell ⟨kb1, 0, none⟩ (.int .u64 0)).setCell ⟨kb1, 1, none⟩ (.int .u64 0)) none := gb_new (gb_new HG.out ZZ.out _) ZZ.out _
  generalize (w3.setCell ⟨kb1, 0, none⟩ (.int .u64 0)).setCell ⟨kb1, 1, none⟩ (.int .u64 0) = wx at h0 h1 ⊢
  have r0 : wx.cell? ⟨kb1, 0, none⟩ = some (.int .u64 0) := at_cell h0 0
  have r1 : wx.cell? ⟨kb1, 1, none⟩ = some (.int .u64 0) := at_cell h0 1
  exact bodyPost_ret (v := .tuple #[.agg #[.int .u64 0, .int .u64 0], .pointer none, .int .i64 4]) (by simp [results, Tryz.results60, go_sem, r0, r1]) rfl ⟨rfl, h1⟩
 ·have hH2 := hHeld
  obtain ⟨kk, tw, lt⟩ := hH2
  have hg : w2.drew.grownBy (w2.drew.alloc (keyObj 0#64 0#64)) none := World.grownBy_alloc _ _ _
  obtain ⟨nk, hnk⟩ : ∃ nk, w2.drew.heap.size = nk := ⟨_, rfl⟩
  have hnk0 : kb1 < nk ∧ w.heap.size ≤ nk ∧ bm ≠ nk := hnk ▸ ⟨lt, kk.size, by have := at_lt kk.kp.b0; omega⟩
  have L12 := hid (show (Kr w F B c KN G [(bm, msgObj ⟨2, (i : Int), gen, seq, epoch, value, metric⟩)] [] (w2.drew.alloc (keyObj 0#64 0#64))) ∧ (TwoAt kb1 49 (w2.drew.alloc (keyObj 0#64 0#64))) ∧ (kb1 < (w2.drew.alloc (keyObj 0#64 0#64)).heap.size) from ⟨kk.grown hg, tw.grown hg, Nat.lt_of_lt_of_le lt hg.size⟩)
  have Nan := hid (show TwoAt nk 49 (w2.drew.alloc (keyObj 0#64 0#64)) from ⟨_, _, by rw [← hnk]; exact at_new w2.drew _⟩)
  clear hHeld hg kk tw lt
  try simp only [jD, jE, jF]
  go_simp
  refine hK.out _ _ ?_ (fun hHeld => ?_)
  ·exact L12.out
  clear hK K
  try dsimp only at hHeld
  try simp only [jX, jD, jE, jF]
  refine held_stronger (S' := fun w' => (fun w' => TwoAt nk 49 w') w' ∧ ((fun w' => (Kr w F B c KN G [(bm, msgObj ⟨2, (i : Int), gen, seq, epoch, value, metric⟩)] [] w') ∧ (TwoAt kb1 49 w') ∧ (kb1 < w'.heap.size))) w') (fun _ h => h.2) _ _ _ _ ?_
  replace hHeld := And.intro Nan.out hHeld
  try dsimp only at hHeld
  refine jR [8] ?_
  refine jG rfl (fun K hK => ?_) AllReadyH.nil
  try simp only [jD, jE, jF]
  go_simp
  have hH2 := hHeld
  obtain ⟨an, kk, tw, lt⟩ := hH2
  refine (CK.out _ kk.gt.ring).mono ?_
  rintro e w1008 ⟨rfl, hg⟩
  have L8 := hid (show (TwoAt nk 49 w1008) ∧ (Kr w F B c KN G [(bm, msgObj ⟨2, (i : Int), gen, seq, epoch, value, metric⟩)] [] w1008) ∧ (TwoAt kb1 49 w1008) ∧ (kb1 < w1008.heap.size) from ⟨an.grown hg, kk.grown hg, tw.grown hg, Nat.lt_of_lt_of_le lt hg.size⟩)
  clear hHeld hg an kk tw lt
  go_wp2_with fail
  refine hK.out _ _ ?_ (fun hHeld => ?_)
  ·exact L8.out
  clear hK K
  try dsimp only at hHeld
  try simp only [jX, jD, jE, jF]
  refine jU 9 hHeld ?_
  try simp only [jX, jD, jE, jF]
  refine jU 10 hHeld ?_
  try simp only [jX, jD, jE, jF]
  refine jU 11 hHeld ?_
  try simp only [jX, jD, jE, jF]
  refine jR [13] ?_
  refine jG rfl (fun K hK => ?_) AllReadyH.nil
  have hH2 := hHeld
  obtain ⟨an, kk, tw, lt⟩ := hH2
  obtain ⟨xo, yo, hno⟩ := id an
  have L13 := hid (show (TwoAt nk 49 ((w1008).setRow nk #[.int .u64 0, .int .u64 0])) ∧ (Kr w F B c KN G [(bm, msgObj ⟨2, (i : Int), gen, seq, epoch, value, metric⟩)] [] ((w1008).setRow nk #[.int .u64 0, .int .u64 0])) ∧ (TwoAt kb1 49 ((w1008).setRow nk #[.int .u64 0, .int .u64 0])) ∧ (kb1 < ((w1008).setRow nk #[.int .u64 0, .int .u64 0]).heap.size) from ⟨an.row _ _, kk.rowOther hnk0.2.1 (by simp [hnk0.2.2]) (by simp), tw.other (by have := hnk0.1; omega), (by simpa [World.setRow] using lt)⟩)
  have Nbx := hid (show ((w1008).setRow nk #[.int .u64 0, .int .u64 0]).heap[nk]? = some (.cells #[.int .u64 0, .int .u64 0] 49) from at_setRow hno)
  have A13 := hid (hno)
  clear hHeld an kk tw lt
  try simp only [jD, jE, jF]
  rw [if_pos (by rfl)]
  refine wp_store_row (cs := #[.int .u64 0, .int .u64 0]) A13.out (by kernel_rfl) (by kernel_rfl) (by kernel_rfl) rfl rfl rfl rfl ?_
  refine hK.out _ _ ?_ (fun hHeld => ?_)
  ·exact L13.out
  clear hK K
  try dsimp only at hHeld
  try simp only [jX, jD, jE, jF]
  refine held_stronger (S' := fun w' => (fun w' => w'.heap[nk]? = some (.cells #[.int .u64 0, .int .u64 0] 49)) w' ∧ ((fun w' => (TwoAt nk 49 w') ∧ (Kr w F B c KN G [(bm, msgObj ⟨2, (i : Int), gen, seq, epoch, value, metric⟩)] [] w') ∧ (TwoAt kb1 49 w') ∧ (kb1 < w'.heap.size))) w') (fun _ h => h.2) _ _ _ _ ?_
  replace hHeld := And.intro Nbx.out hHeld
  try dsimp only at hHeld
  refine jU 14 hHeld ?_
  try simp only [jX, jD, jE, jF]
  refine wpAnyH_done (by kernel_rfl) ?_ _
  obtain ⟨bx, an, kk, tw, lt⟩ := hHeld
  refine exit_gen (fun wx => (Kr w F B c KN G [(bm, msgObj ⟨2, (i : Int), gen, seq, epoch, value, metric⟩)] [] wx ∧ TwoAt kb1 49 wx) ∧ wx.heap[nk]? = some (.cells #[.int .u64 0, .int .u64 0] 49)) ⟨⟨kk, tw⟩, bx⟩ ?_
  clear kk tw bx an lt
  rintro w3 ⟨⟨k3, t3⟩, b3⟩
  have K3 := hid k3; have T3 := hid t3; have X3 := hid b3; clear k3 t3 b3
  obtain ⟨x0, y0, hx0⟩ := T3.out
  have c0 : w3.cell? ⟨kb1, 0, none⟩ = some x0 := at_cell hx0 0
  have c1 : w3.cell? ⟨kb1, 1, none⟩ = some y0 := at_cell hx0 1
  have f0 : w3.frozen? ⟨kb1, 0, none⟩ = false := at_free hx0 0
  have f1 : w3.frozen? ⟨kb1, 1, none⟩ = false := at_free hx0 1
  have HX := hid hx0; have HG := hid (K3.out.kp.g); clear hx0
  go_wp2_with fail
  clear c0 c1 f0 f1
  have h0 : ((w3.setCell ⟨kb1, 0, none⟩ (.int .u64 0)).setCell ⟨kb1, 1, none⟩ (.int .u64 0)).heap[kb1]? = some (.cells #[.int .u64 0, .int .u64 0] 49) := by have := at_set (at_set HX.out 0 (.int .u64 0)) 1 (.int .u64 0); exact this
  have h1 : w.grownBy ((w3.setCell ⟨kb1, 0, none⟩ (.int .u64 0)).setCell ⟨kb1, 1, none⟩ (.int .u64 0)) none := gb_new (gb_new HG.out ZZ.out _) ZZ.out _
  generalize (w3.setCell ⟨kb1, 0, none⟩ (.int .u64 0)).setCell ⟨kb1, 1, none⟩ (.int .u64 0) = wx at h0 h1 ⊢
  have r0 : wx.cell? ⟨kb1, 0, none⟩ = some (.int .u64 0) := at_cell h0 0
  have r1 : wx.cell? ⟨kb1, 1, none⟩ = some (.int .u64 0) := at_cell h0 1
  exact bodyPost_ret (v := .tuple #[.agg #[.int .u64 0, .int .u64 0], .pointer none, .int .i64 4]) (by simp [results, Tryz.results60, go_sem, r0, r1]) rfl ⟨rfl, h1⟩
set_option maxHeartbeats 3200000 in
theorem rkeyg_rgen {F : List Nat} {B : RBl} {c : Conf} {KN : Nat} {G : Gt} {gen seq epoch value metric : Int} (i : Nat) (now : Int) (w : World) (k0 : GrAt w F B c KN G) (hi : i < G.r.n) (g0 : 0 ≤ gen) (g1 : gen ≤ 60000) (hs : (gen - 1) ≠ G.r.gen i) :
  Calls Tryz.prog 60 #[.pointer (some ⟨B.g, 0, none⟩), mg ⟨2, (i : Int), gen, seq, epoch, value, metric⟩, .int .i64 now] w fun e w' => e = .returned (.tuple #[.agg #[.int .u64 0, .int .u64 0], .pointer none, .int .i64 4]) ∧ w.grownBy w' none := by
 have K0 := hid (((kr_start k0).alloc (msgObj ⟨2, (i : Int), gen, seq, epoch, value, metric⟩)).alloc (keyObj 0#64 0#64))
 rw [size_alloc] at K0
 have hin : 0 ≤ (i : Int) ∧ (i : Int) < (G.r.n : Int) := by omega
 have n16 := k0.ring.ok.n2
 have cc1 := k0.c1; have cc2 := k0.c2
 have CS := hid (fun u => rsealed_any ⟨2, (i : Int), gen, seq, epoch, value, metric⟩ g0 g1 u)
 rw [show sealedOf ⟨2, (i : Int), gen, seq, epoch, value, metric⟩ = (gen - 1) from if_pos (by first | rfl | exact hk)] at CS
 have CK := hid (fun u (k : RfAt u B.r B.gn B.sn G.r) => fkey_any (i : Int) (gen - 1) now u k)
 have CG := hid (fun u (k : GrAt u F B c KN G) => (⟨k.tops, k.ring.tops, (k.ring.cells hi).1, k.cells hi⟩ : _ ∧ _ ∧ _ ∧ _))
 have ds : ((gen - 1) != G.r.gen i) = true := by simpa using hs
 have ds2 : ((gen - 1) == G.r.gen i) = false := by simpa using hs
 clear hs
 obtain ⟨sg, hsg⟩ : ∃ sg, sg = gen - 1 := ⟨_, rfl⟩
 rw [← hsg] at ds ds2 CK CS
 clear hsg
 clear k0
 generalize G.r.gen i = gn at *
 obtain ⟨q1, q2⟩ := hin
 generalize G.r.n = nn at q2 n16 CG hi cc1 cc2
 unfold maxLen at cc1 cc2
 go_enter Tryz.func60, Tryz.ntmps60
 go_upto_region 1 with fail
 refine wp_gen (fun wx => Kr w F B c KN G [(w.heap.size + 1, keyObj 0#64 0#64), (w.heap.size, msgObj ⟨2, (i : Int), gen, seq, epoch, value, metric⟩)] [] wx) K0.out ?_
 clear K0
 have z0 : w.heap.size ≤ w.heap.size + 1 := Nat.le_succ _
 have z1 : w.heap.size ≠ w.heap.size + 1 := by omega
 have zz := And.intro z0 z1; clear z0 z1
 generalize w.heap.size + 1 = kb1 at *
 have lb := Nat.le_refl w.heap.size
 generalize hbm : w.heap.size = bm at zz lb ⊢
 have ZZ : Hid (w.heap.size ≤ kb1) := hid (hbm ▸ zz.1)
 have NB : Hid (bm ≠ kb1) := hid zz.2
 clear zz lb
 intro w1 h1
 have K1 := hid h1; clear h1
 go_wp2_with (refine wpList_row K1.out.kp.b1 Tryz.underlying39 rfl (by kernel_rfl) rfl rfl rfl rfl ?_)
 refine (CS.out _).mono ?_
 rintro e wS ⟨rfl, hg⟩
 have K1s := hid (K1.out.grown hg); clear hg K1 CS
 have m0 : wS.cell? ⟨bm, 0, none⟩ = some (.int .i64 2) := at_cell K1s.out.kp.b1 0
 have m1 : wS.cell? ⟨bm, 1, none⟩ = some (.int .i64 (i : Int)) := at_cell K1s.out.kp.b1 1
 obtain ⟨⟨t0, t2, t4, t6, t26, t27, t28⟩, ⟨r0, r1, r2, r3⟩, rg, ⟨x1, x2, x3, x4⟩⟩ := CG.out _ K1s.out.gt
 go_upto_region 2 with fail
 go_quiet (fail)
 clear m0 m1 t0 t2 t4 t6 t26 t27 t28 r0 r1 r2 r3 rg x1 x2 x3 x4
 have lt1 := at_lt K1s.out.kp.b0
 refine exit_gen (fun wx => (Kr w F B c KN G [(bm, msgObj ⟨2, (i : Int), gen, seq, epoch, value, metric⟩)] [] wx ∧ TwoAt kb1 49 wx) ∧ kb1 < wx.heap.size) ⟨⟨(K1s.out.tail).grown (gb_drewQ wS _), ⟨_, _, at_grown K1s.out.kp.b0 (gb_drewQ wS _) (by simp)⟩⟩, lt1⟩ ?_
 clear K1s lt1
 rintro w2 ⟨⟨k2, tw2⟩, l2⟩
 have K2 := hid k2; have T2 := hid tw2; have L2 := hid l2; clear k2 tw2 l2
 obtain ⟨x0, y0, hx0⟩ := T2.out
 have c0 : w2.cell? ⟨kb1, 0, none⟩ = some x0 := at_cell hx0 0
 have c1 : w2.cell? ⟨kb1, 1, none⟩ = some y0 := at_cell hx0 1
 have f0 : w2.frozen? ⟨kb1, 0, none⟩ = false := at_free hx0 0
 have f1 : w2.frozen? ⟨kb1, 1, none⟩ = false := at_free hx0 1
 have HX := hid hx0; have HG := hid (K2.out.kp.g); clear hx0
 go_wp2_with fail
 clear c0 c1 f0 f1
 have h0 : ((w2.setCell ⟨kb1, 0, none⟩ (.int .u64 0)).setCell ⟨kb1, 1, none⟩ (.int .u64 0)).heap[kb1]? = some (.cells #[.int .u64 0, .int .u64 0] 49) := by have := at_set (at_set HX.out 0 (.int .u64 0)) 1 (.int .u64 0); exact this
 have h1 : w.grownBy ((w2.setCell ⟨kb1, 0, none⟩ (.int .u64 0)).setCell ⟨kb1, 1, none⟩ (.int .u64 0)) none := gb_new (gb_new HG.out ZZ.out _) ZZ.out _
 generalize (w2.setCell ⟨kb1, 0, none⟩ (.int .u64 0)).setCell ⟨kb1, 1, none⟩ (.int .u64 0) = wx at h0 h1 ⊢
 have r0 : wx.cell? ⟨kb1, 0, none⟩ = some (.int .u64 0) := at_cell h0 0
 have r1 : wx.cell? ⟨kb1, 1, none⟩ = some (.int .u64 0) := at_cell h0 1
 exact bodyPost_ret (v := .tuple #[.agg #[.int .u64 0, .int .u64 0], .pointer none, .int .i64 4]) (by simp [results, Tryz.results60, go_sem, r0, r1]) rfl ⟨rfl, h1⟩
end Go.Proofs.YtgpdcapnnejdeaaGreat
