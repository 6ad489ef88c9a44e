/-
  Contract: which key seals a message now, and which window its number is of; none of a generation that seals nothing. The condition: the gate lies there, the collector is one of its own, the message may be sent.
-/
import Derived.Test.YtgpdcapnnejdeaaGreatJ0
import Derived.Test.YtgpdcapnnejdeaaGreatY17
import Derived.Test.YtgpdcapnnejdeaaGreatY5
import Derived.Test.YtgpdcapnnejdeaaGreatNWSplit
import Derived.Test.YtgpdcapnnejdeaaGreatY11
import Derived.Deep.RegionHeld3
import Derived.Deep.QuietTactic
set_option linter.unusedSimpArgs false
set_option linter.unusedVariables false
namespace Go.Proofs.YtgpdcapnnejdeaaGreat
set_option maxRecDepth 100000
open Go.RowKit

structure Kg (w0 : World) (F : List Nat) (B : GBl) (G : Gt) (bs : List (Nat × Obj)) (ys : List (Value × List UInt8)) (w : World) : Prop where
 gt : GtAt w F B G
 kp : Kp w0 bs ys w
 lo : ∀ x ∈ F, x < w0.heap.size
section
variable {w0 w w1 : World} {F : List Nat} {B : GBl} {G : Gt} {bs : List (Nat × Obj)} {ys : List (Value × List UInt8)} {b : Nat} {o : Obj} {v : Value} {l : List UInt8} {x0 : Nat × Obj} {z0 : Value × List UInt8}
theorem kg_start (K : GtAt w F B G) : Kg w F B G [] [] w := ⟨K, kp_start w, K.lt⟩
theorem Kg.grown (h : Kg w0 F B G bs ys w) (hg : w.grownBy w1 none) : Kg w0 F B G bs ys w1 := ⟨h.gt.grown hg, h.kp.grown hg, h.lo⟩
theorem Kg.drew (h : Kg w0 F B G bs ys w) : Kg w0 F B G bs ys w.drew := ⟨h.gt.drew, h.kp.drew, h.lo⟩
theorem Kg.alloc (h : Kg w0 F B G bs ys w) (o : Obj) : Kg w0 F B G ((w.heap.size, o) :: bs) ys (w.alloc o) := ⟨h.gt.grown (World.grownBy_alloc w o none), h.kp.alloc o, h.lo⟩
theorem Kg.addY (h : Kg w0 F B G bs ys w) (k : BytesAt w v l) : Kg w0 F B G bs ((v, l) :: ys) w := ⟨h.gt, h.kp.addY k, h.lo⟩
theorem Kg.tail (h : Kg w0 F B G (x0 :: bs) ys w) : Kg w0 F B G bs ys w := ⟨h.gt, h.kp.tail, h.lo⟩
theorem Kg.tailY (h : Kg w0 F B G bs (z0 :: ys) w) : Kg w0 F B G bs ys w := ⟨h.gt, h.kp.tailY, h.lo⟩
theorem Kg.size (h : Kg w0 F B G bs ys w) : w0.heap.size ≤ w.heap.size := h.kp.size
theorem chg_gb {x : Nat} (hc : Chg [x] w w1) : w.grownBy w1 (some x) := ⟨hc.os, hc.tape, hc.output, hc.size, fun i hi hn => hc.block i hi (by simp; rintro rfl; exact hn rfl)⟩
theorem Kg.put {o' : Obj} (h : Kg w0 F B G ((b, o) :: bs) ys w) (hb : w0.heap.size ≤ b) (hc : Chg [b] w w1) (ho : w1.heap[b]? = some o') (hne : ∀ x ∈ bs, x.1 ≠ b) (hy : ∀ x ∈ ys, x.2 = [] ∨ ∀ a n c, x.1 = .slice (some a) n c → a.block ≠ b) : Kg w0 F B G ((b, o') :: bs) ys w1 := by
 refine ⟨h.gt.chg hc (fun x hx => by have := h.lo x hx; simp; omega), ⟨gb_trans h.kp.g (chg_gb hc) (.inr (.inr ⟨b, rfl, hb⟩)), fun x hx => ?_, fun x hx => (h.kp.yl x hx).grown (chg_gb hc) (fun k e => by cases e; exact .inr (hy x hx))⟩, h.lo⟩
 rcases List.mem_cons.1 hx with rfl | hx
 ·exact ho
 ·exact hc.at (h.kp.bl x (List.mem_cons_of_mem _ hx)) (by simpa using hne x hx)
theorem chg_row2 (w : World) (b : Nat) (cs : Array Value) : Chg [b] w (w.setRow b cs) :=
 ⟨rfl, rfl, rfl, by simp [World.setRow], fun k hk hn => by simp only [World.setRow, Array.getElem?_modify]; exact if_neg (fun e => hn (by simp [e]))⟩
theorem Kg.setRow {old cs : Array Value} {t : TypeId} (h : Kg w0 F B G ((b, .cells old t) :: bs) ys w) (hb : w0.heap.size ≤ b) (hne : ∀ x ∈ bs, x.1 ≠ b) (hy : ∀ x ∈ ys, x.2 = [] ∨ ∀ a n c, x.1 = .slice (some a) n c → a.block ≠ b) : Kg w0 F B G ((b, .cells cs t) :: bs) ys (w.setRow b cs) :=
 h.put hb (chg_row2 w b cs) (at_setRow h.kp.b0) hne hy
theorem Kg.rowOther {cs : Array Value} {n : Nat} (h : Kg w0 F B G bs ys w) (hb : w0.heap.size ≤ n) (hne : ∀ x ∈ bs, x.1 ≠ n) (hy : ∀ x ∈ ys, x.2 = [] ∨ ∀ a k c, x.1 = .slice (some a) k c → a.block ≠ n) : Kg w0 F B G bs ys (w.setRow n cs) :=
 ⟨h.gt.chg (chg_row2 w n cs) (fun x hx => by have := h.lo x hx; simp; omega), ⟨gb_setRow h.kp.g hb, fun x hx => at_setRow_other (h.kp.bl x hx) (hne x hx), fun x hx => (h.kp.yl x hx).grown (chg_gb (chg_row2 w n cs)) (fun k e => by cases e; exact .inr (hy x hx))⟩, h.lo⟩
end
def TwoAt (n : Nat) (t : TypeId) (w : World) : Prop := ∃ x y, w.heap[n]? = some (.cells #[x, y] t)
theorem TwoAt.grown {n : Nat} {t : TypeId} {w w1 : World} (h : TwoAt n t w) (hg : w.grownBy w1 none) : TwoAt n t w1 := by obtain ⟨x, y, h⟩ := h; exact ⟨x, y, at_grown h hg (by simp)⟩
theorem TwoAt.drew {n : Nat} {t : TypeId} {w : World} (h : TwoAt n t w) : TwoAt n t w.drew := h
theorem TwoAt.other {n k : Nat} {t : TypeId} {w : World} {cs : Array Value} (h : TwoAt n t w) (hn : n ≠ k) : TwoAt n t (w.setRow k cs) := by obtain ⟨x, y, h⟩ := h; exact ⟨x, y, at_setRow_other h hn⟩
theorem TwoAt.row {n : Nat} {t : TypeId} {w : World} (h : TwoAt n t w) (a b : Value) : TwoAt n t (w.setRow n #[a, b]) := by obtain ⟨x, y, h⟩ := h; exact ⟨a, b, at_setRow h⟩

set_option maxHeartbeats 3200000 in
theorem gsealer_now {F : List Nat} {B : GBl} {G : Gt} {kind gen seq epoch value metric : Int} (i : Nat) (now : Int) (w : World) (K : GtAt w F B G) (hi : i < G.r.n) (g0 : 0 ≤ gen) (g1 : gen ≤ 60000) (hk : kind ≠ 2) (hkey : G.r.keyIs i gen now) (hs : gen = G.r.gen i) :
  Calls Tryz.prog 56 #[.pointer (some ⟨B.g, 0, none⟩), mg ⟨kind, (i : Int), gen, seq, epoch, value, metric⟩, .int .i64 now] w fun e w' => e = .returned (.tuple #[pair (ofOf G.r.seed i gen).a (ofOf G.r.seed i gen).b, .pointer (some ⟨B.A i, 0, none⟩), .int .i64 0]) ∧ w.grownBy w' none := by
 have K0 := hid (((kg_start K).alloc (msgObj ⟨kind, (i : Int), gen, seq, epoch, value, metric⟩)).alloc (keyObj 0#64 0#64))
 rw [size_alloc] at K0
 have hn : i < G.r.n := hi
 have CG := hid (fun u (k : RgAt u B.rb B.rh G.r) => rgen_in i u k hi)
 have CK := hid (fun u (k : RgAt u B.rb B.rh G.r) => rkey_any (i : Int) gen now u k)
 have hin : 0 ≤ (i : Int) ∧ (i : Int) < (G.r.n : Int) := by omega
 have hKE : G.r.key (i : Int) gen now = ((ofOf G.r.seed i gen), 0) := by unfold Rg.key; rw [if_pos hin, if_pos (by simpa using hkey)]
 rw [hKE] at CK
 simp only [keyVal] at CK
 clear hkey hKE
 generalize ofOf G.r.seed i gen = kv at *
 obtain ⟨ka, kb⟩ := kv
 dsimp only at *
 have CR := hid (fun u (k : GtAt u F B G) => greplay_in i u k hi)
 clear hi hin K
 have dk : (kind == 2) = false := by simpa using hk
 have ds : (gen != G.r.gen i) = false := by simpa using hs
 clear hs
 generalize G.r.gen i = gn at *
 have HK0 := hid K0.out
 go_enter Tryz.func56, Tryz.ntmps56
 go_upto_region 1 with fail
 refine wp_gen (fun wx => Kg w F B G [(w.heap.size + 1, keyObj 0#64 0#64), (w.heap.size, msgObj ⟨kind, (i : Int), gen, seq, epoch, value, metric⟩)] [] wx) K0.out ?_
 clear K0 HK0
 have z0 : w.heap.size ≤ w.heap.size + 1 := Nat.le_succ _
 have z1 : w.heap.size ≠ w.heap.size + 1 := by omega
 have zz := And.intro z0 z1; clear z0 z1
 generalize w.heap.size + 1 = kb1 at *
 have lb := Nat.le_refl w.heap.size
 generalize hbm : w.heap.size = bm at zz lb ⊢
 have ZZ : Hid (w.heap.size ≤ kb1) := hid (hbm ▸ zz.1)
 have NB : Hid (bm ≠ kb1) := hid zz.2
 clear zz lb
 intro w1 h1
 have K1 := hid h1; clear h1
 have m0 : w1.cell? ⟨bm, 0, none⟩ = some (.int .i64 kind) := at_cell K1.out.kp.b1 0
 have m1 : w1.cell? ⟨bm, 1, none⟩ = some (.int .i64 (i : Int)) := at_cell K1.out.kp.b1 1
 have m2 : w1.cell? ⟨bm, 2, none⟩ = some (.int .i64 gen) := at_cell K1.out.kp.b1 2
 obtain ⟨c0, c1, c2, c3, c4⟩ := K1.out.gt.tops
 go_quiet ((go_at_call 25; exact Calls.quiet_of_same (still_of (CG.out _ (K1.out.gt.ring.grown (gb_drewQ w1 _))))))
 go_wp2_with fail
 clear m0 m1 m2 c0 c1 c2 c3 c4
 have lt1 := at_lt K1.out.kp.b0
 refine wp_gen (fun wx => (Kg w F B G [(bm, msgObj ⟨kind, (i : Int), gen, seq, epoch, value, metric⟩)] [] wx ∧ TwoAt kb1 49 wx) ∧ kb1 < wx.heap.size) ⟨⟨(K1.out.tail).grown (gb_drewQ w1 _), ⟨_, _, at_grown K1.out.kp.b0 (gb_drewQ w1 _) (by simp)⟩⟩, lt1⟩ ?_
 clear K1 lt1
 rintro w2 ⟨⟨k2, tw2⟩, l2⟩
 have K2 := hid k2; have T2 := hid tw2; have L2 := hid l2; clear k2 tw2 l2
 refine wp_region_held_drew (S := (fun w' => (Kg w F B G [(bm, msgObj ⟨kind, (i : Int), gen, seq, epoch, value, metric⟩)] [] w') ∧ (TwoAt kb1 49 w') ∧ (kb1 < w'.heap.size))) (by kernel_rfl) ⟨K2.out.drew, T2.out, L2.out⟩ (fun hHeld => ?_)
 try dsimp only at hHeld
 refine jU 0 hHeld ?_
 try simp only [jX, jD, jE, jF]
 refine jU 1 hHeld ?_
 try simp only [jX, jD, jE, jF]
 refine jU 2 hHeld ?_
 try simp only [jX, jD, jE, jF]
 refine' jT 3 rfl (by rfl) ?_ hHeld ?_
 rotate_left
 ·(intro w hSw; (try dsimp only at hSw); obtain ⟨kk, tw, lt⟩ := hSw; obtain ⟨c0, c1, c2, c3, c4⟩ := kk.gt.tops; have m1 : w.cell? ⟨bm, 1, none⟩ = some (Value.int IntKind.i64 (i : Int)) := at_cell kk.kp.b0 1; go_simp; try with_reducible rfl)
 try simp only [jX, jD, jE, jF]
 refine jU 4 hHeld ?_
 try simp only [jX, jD, jE, jF]
 refine' jT 5 rfl (by rfl) ?_ hHeld ?_
 rotate_left
 ·(intro w hSw; (try dsimp only at hSw); obtain ⟨kk, tw, lt⟩ := hSw; obtain ⟨c0, c1, c2, c3, c4⟩ := kk.gt.tops; have m1 : w.cell? ⟨bm, 1, none⟩ = some (Value.int IntKind.i64 (i : Int)) := at_cell kk.kp.b0 1; go_simp; try with_reducible rfl)
 try simp only [jX, jD, jE, jF]
 refine jU 6 hHeld ?_
 try simp only [jX, jD, jE, jF]
 refine jU 7 hHeld ?_
 try simp only [jX, jD, jE, jF]
 refine jR [8, 12] ?_
 refine jG rfl (fun K hK => ?_) (jG rfl (fun K hK => ?_) AllReadyH.nil)
 ·try simp only [jD, jE, jF]
  go_simp
  have hH2 := hHeld
  obtain ⟨kk, tw, lt⟩ := hH2
  refine (CK.out _ kk.gt.ring).mono ?_
  rintro e w1008 ⟨rfl, hg⟩
  have L8 := hid (show (Kg w F B G [(bm, msgObj ⟨kind, (i : Int), gen, seq, epoch, value, metric⟩)] [] w1008) ∧ (TwoAt kb1 49 w1008) ∧ (kb1 < w1008.heap.size) from ⟨kk.grown hg, tw.grown hg, Nat.lt_of_lt_of_le lt hg.size⟩)
  clear hHeld hg kk tw lt
  go_wp2_with fail
  refine hK.out _ _ ?_ (fun hHeld => ?_)
  ·exact L8.out
  clear hK K
  try dsimp only at hHeld
  try simp only [jX, jD, jE, jF]
  refine jU 9 hHeld ?_
  try simp only [jX, jD, jE, jF]
  refine jU 10 hHeld ?_
  try simp only [jX, jD, jE, jF]
  refine jU 11 hHeld ?_
  try simp only [jX, jD, jE, jF]
  refine jR [12] ?_
  refine jG rfl (fun K hK => ?_) AllReadyH.nil
  have hH2 := hHeld
  obtain ⟨kk, tw, lt⟩ := hH2
  have hg : w1008.grownBy (w1008.alloc (keyObj 0#64 0#64)) none := World.grownBy_alloc _ _ _
  obtain ⟨nk, hnk⟩ : ∃ nk, w1008.heap.size = nk := ⟨_, rfl⟩
  have hnk0 : kb1 < nk ∧ w.heap.size ≤ nk ∧ bm ≠ nk := hnk ▸ ⟨lt, kk.size, by have := at_lt kk.kp.b0; omega⟩
  have L12 := hid (show (Kg w F B G [(bm, msgObj ⟨kind, (i : Int), gen, seq, epoch, value, metric⟩)] [] (w1008.alloc (keyObj 0#64 0#64))) ∧ (TwoAt kb1 49 (w1008.alloc (keyObj 0#64 0#64))) ∧ (kb1 < (w1008.alloc (keyObj 0#64 0#64)).heap.size) from ⟨kk.grown hg, tw.grown hg, Nat.lt_of_lt_of_le lt hg.size⟩)
  have Nan := hid (show TwoAt nk 49 (w1008.alloc (keyObj 0#64 0#64)) from ⟨_, _, by rw [← hnk]; exact at_new w1008 _⟩)
  clear hHeld hg kk tw lt
  try simp only [jD, jE, jF]
  go_simp
  refine hK.out _ _ ?_ (fun hHeld => ?_)
  ·exact L12.out
  clear hK K
  try dsimp only at hHeld
  try simp only [jX, jD, jE, jF]
  refine held_stronger (S' := fun w' => (fun w' => TwoAt nk 49 w') w' ∧ ((fun w' => (Kg w F B G [(bm, msgObj ⟨kind, (i : Int), gen, seq, epoch, value, metric⟩)] [] w') ∧ (TwoAt kb1 49 w') ∧ (kb1 < w'.heap.size))) w') (fun _ h => h.2) _ _ _ _ ?_
  replace hHeld := And.intro Nan.out hHeld
  try dsimp only at hHeld
  refine jR [13] ?_
  refine jG rfl (fun K hK => ?_) AllReadyH.nil
  have hH2 := hHeld
  obtain ⟨an, kk, tw, lt⟩ := hH2
  obtain ⟨xo, yo, hno⟩ := id an
  have L13 := hid (show (TwoAt nk 49 (((w1008.alloc (keyObj 0#64 0#64))).setRow nk #[.int .u64 (q ka), .int .u64 (q kb)])) ∧ (Kg w F B G [(bm, msgObj ⟨kind, (i : Int), gen, seq, epoch, value, metric⟩)] [] (((w1008.alloc (keyObj 0#64 0#64))).setRow nk #[.int .u64 (q ka), .int .u64 (q kb)])) ∧ (TwoAt kb1 49 (((w1008.alloc (keyObj 0#64 0#64))).setRow nk #[.int .u64 (q ka), .int .u64 (q kb)])) ∧ (kb1 < (((w1008.alloc (keyObj 0#64 0#64))).setRow nk #[.int .u64 (q ka), .int .u64 (q kb)]).heap.size) from ⟨an.row _ _, kk.rowOther hnk0.2.1 (by simp [hnk0.2.2]) (by simp), tw.other (by have := hnk0.1; omega), (by simpa [World.setRow] using lt)⟩)
  have Nbx := hid (show (((w1008.alloc (keyObj 0#64 0#64))).setRow nk #[.int .u64 (q ka), .int .u64 (q kb)]).heap[nk]? = some (.cells #[.int .u64 (q ka), .int .u64 (q kb)] 49) from at_setRow hno)
  have A13 := hid (hno)
  clear hHeld an kk tw lt
  try simp only [jD, jE, jF]
  rw [if_pos (by rfl)]
  refine wp_store_row (cs := #[.int .u64 (q ka), .int .u64 (q kb)]) A13.out (by kernel_rfl) (by kernel_rfl) (by kernel_rfl) rfl rfl rfl rfl ?_
  refine hK.out _ _ ?_ (fun hHeld => ?_)
  ·exact L13.out
  clear hK K
  try dsimp only at hHeld
  try simp only [jX, jD, jE, jF]
  refine held_stronger (S' := fun w' => (fun w' => w'.heap[nk]? = some (.cells #[.int .u64 (q ka), .int .u64 (q kb)] 49)) w' ∧ ((fun w' => (TwoAt nk 49 w') ∧ (Kg w F B G [(bm, msgObj ⟨kind, (i : Int), gen, seq, epoch, value, metric⟩)] [] w') ∧ (TwoAt kb1 49 w') ∧ (kb1 < w'.heap.size))) w') (fun _ h => h.2) _ _ _ _ ?_
  replace hHeld := And.intro Nbx.out hHeld
  try dsimp only at hHeld
  refine jU 14 hHeld ?_
  try simp only [jX, jD, jE, jF]
  refine wpAnyH_done (by kernel_rfl) ?_ _
  obtain ⟨bx, an, kk, tw, lt⟩ := hHeld
  refine exit_gen (fun wx => (Kg w F B G [(bm, msgObj ⟨kind, (i : Int), gen, seq, epoch, value, metric⟩)] [] wx ∧ TwoAt kb1 49 wx) ∧ wx.heap[nk]? = some (.cells #[.int .u64 (q ka), .int .u64 (q kb)] 49)) ⟨⟨kk, tw⟩, bx⟩ ?_
  clear kk tw bx an lt
  rintro w3 ⟨⟨k3, t3⟩, b3⟩
  have K3 := hid k3; have T3 := hid t3; have X3 := hid b3; clear k3 t3 b3
  go_wp2_with fail
  refine wp_region_held_drew (S := (fun w' => (Kg w F B G [(bm, msgObj ⟨kind, (i : Int), gen, seq, epoch, value, metric⟩)] [] w') ∧ (TwoAt kb1 49 w') ∧ (w'.heap[nk]? = some (.cells #[.int .u64 (q ka), .int .u64 (q kb)] 49)))) (by kernel_rfl) ⟨K3.out.drew, T3.out, X3.out⟩ (fun hHeld => ?_)
  try dsimp only at hHeld
  refine' jT 0 rfl (by rfl) ?_ hHeld ?_
  rotate_left
  ·(intro w hSw; (try dsimp only at hSw); (try simp only [jD, jE, jF]); refine exec_row (x := .tmp 11) hSw.2.2 Tryz.underlying49 rfl (by kernel_rfl) ?_ ?_ <;> rfl)
  try simp only [jX, jD, jE, jF]
  refine jU 1 hHeld ?_
  try simp only [jX, jD, jE, jF]
  refine jU 2 hHeld ?_
  try simp only [jX, jD, jE, jF]
  refine' jT 3 rfl (by rfl) ?_ hHeld ?_
  rotate_left
  ·(intro w hSw; (try dsimp only at hSw); obtain ⟨kk, tw, bx⟩ := hSw; have m1 : w.cell? ⟨bm, 1, none⟩ = some (Value.int IntKind.i64 (i : Int)) := at_cell kk.kp.b0 1; go_simp; try with_reducible rfl)
  try simp only [jX, jD, jE, jF]
  refine jR [4] ?_
  refine jG rfl (fun K hK => ?_) AllReadyH.nil
  try simp only [jD, jE, jF]
  go_simp
  have hH2 := hHeld
  obtain ⟨kk, tw, bx⟩ := hH2
  refine (CR.out _ kk.gt).mono ?_
  rintro e w1004 ⟨rfl, hg⟩
  have L4 := hid (show (Kg w F B G [(bm, msgObj ⟨kind, (i : Int), gen, seq, epoch, value, metric⟩)] [] w1004) ∧ (TwoAt kb1 49 w1004) ∧ (w1004.heap[nk]? = some (.cells #[.int .u64 (q ka), .int .u64 (q kb)] 49)) from ⟨kk.grown hg, tw.grown hg, at_grown bx hg (by simp)⟩)
  clear hHeld hg kk tw bx
  go_wp2_with fail
  refine hK.out _ _ ?_ (fun hHeld => ?_)
  ·exact L4.out
  clear hK K
  try dsimp only at hHeld
  try simp only [jX, jD, jE, jF]
  refine jR [5] ?_
  refine jG rfl (fun K hK => ?_) AllReadyH.nil
  have hH2 := hHeld
  obtain ⟨kk, tw, bx⟩ := hH2
  obtain ⟨xo, yo, hno⟩ := id tw
  have L5 := hid (show (Kg w F B G [(bm, msgObj ⟨kind, (i : Int), gen, seq, epoch, value, metric⟩)] [] ((w1004).setRow kb1 #[.int .u64 (q ka), .int .u64 (q kb)])) ∧ (TwoAt kb1 49 ((w1004).setRow kb1 #[.int .u64 (q ka), .int .u64 (q kb)])) ∧ (((w1004).setRow kb1 #[.int .u64 (q ka), .int .u64 (q kb)]).heap[nk]? = some (.cells #[.int .u64 (q ka), .int .u64 (q kb)] 49)) from ⟨kk.rowOther ZZ.out (by simp [NB.out]) (by simp), tw.row _ _, at_setRow_other bx (by have := hnk0.1; omega)⟩)
  have Nrs := hid (show ((w1004).setRow kb1 #[.int .u64 (q ka), .int .u64 (q kb)]).heap[kb1]? = some (.cells #[.int .u64 (q ka), .int .u64 (q kb)] 49) from at_setRow hno)
  have A5 := hid (hno)
  clear hHeld kk tw bx
  try simp only [jD, jE, jF]
  rw [if_pos (by rfl)]
  refine wp_store_row (cs := #[.int .u64 (q ka), .int .u64 (q kb)]) A5.out (by kernel_rfl) (by kernel_rfl) (by kernel_rfl) rfl rfl rfl rfl ?_
  refine hK.out _ _ ?_ (fun hHeld => ?_)
  ·exact L5.out
  clear hK K
  try dsimp only at hHeld
  try simp only [jX, jD, jE, jF]
  refine held_stronger (S' := fun w' => (fun w' => w'.heap[kb1]? = some (.cells #[.int .u64 (q ka), .int .u64 (q kb)] 49)) w' ∧ ((fun w' => (Kg w F B G [(bm, msgObj ⟨kind, (i : Int), gen, seq, epoch, value, metric⟩)] [] w') ∧ (TwoAt kb1 49 w') ∧ (w'.heap[nk]? = some (.cells #[.int .u64 (q ka), .int .u64 (q kb)] 49)))) w') (fun _ h => h.2) _ _ _ _ ?_
  replace hHeld := And.intro Nrs.out hHeld
  try dsimp only at hHeld
  refine jU 6 hHeld ?_
  try simp only [jX, jD, jE, jF]
  refine jU 7 hHeld ?_
  try simp only [jX, jD, jE, jF]
  refine wpAnyH_done (by kernel_rfl) ?_ _
  obtain ⟨rs, kk, tw, bx⟩ := hHeld
  refine exit_gen (fun wx => wx.heap[kb1]? = some (.cells #[.int .u64 (q ka), .int .u64 (q kb)] 49) ∧ w.grownBy wx none) ⟨rs, kk.kp.g⟩ ?_
  clear kk tw bx rs
  rintro w4 ⟨rs4, g4⟩
  have r0 : w4.cell? ⟨kb1, 0, none⟩ = some (.int .u64 (q ka)) := at_cell rs4 0
  have r1 : w4.cell? ⟨kb1, 1, none⟩ = some (.int .u64 (q kb)) := at_cell rs4 1
  have G4 := hid g4; clear g4 rs4
  go_wp2_with fail
  exact bodyPost_ret (v := .tuple #[pair ka kb, .pointer (some ⟨B.A i, 0, none⟩), .int .i64 0]) (by simp [results, Tryz.results56, go_sem, r0, r1]) rfl ⟨rfl, G4.out⟩
 ·have hH2 := hHeld
  obtain ⟨kk, tw, lt⟩ := hH2
  have hg : w2.drew.grownBy (w2.drew.alloc (keyObj 0#64 0#64)) none := World.grownBy_alloc _ _ _
  obtain ⟨nk, hnk⟩ : ∃ nk, w2.drew.heap.size = nk := ⟨_, rfl⟩
  have hnk0 : kb1 < nk ∧ w.heap.size ≤ nk ∧ bm ≠ nk := hnk ▸ ⟨lt, kk.size, by have := at_lt kk.kp.b0; omega⟩
  have L12 := hid (show (Kg w F B G [(bm, msgObj ⟨kind, (i : Int), gen, seq, epoch, value, metric⟩)] [] (w2.drew.alloc (keyObj 0#64 0#64))) ∧ (TwoAt kb1 49 (w2.drew.alloc (keyObj 0#64 0#64))) ∧ (kb1 < (w2.drew.alloc (keyObj 0#64 0#64)).heap.size) from ⟨kk.grown hg, tw.grown hg, Nat.lt_of_lt_of_le lt hg.size⟩)
  have Nan := hid (show TwoAt nk 49 (w2.drew.alloc (keyObj 0#64 0#64)) from ⟨_, _, by rw [← hnk]; exact at_new w2.drew _⟩)
  clear hHeld hg kk tw lt
  try simp only [jD, jE, jF]
  go_simp
  refine hK.out _ _ ?_ (fun hHeld => ?_)
  ·exact L12.out
  clear hK K
  try dsimp only at hHeld
  try simp only [jX, jD, jE, jF]
  refine held_stronger (S' := fun w' => (fun w' => TwoAt nk 49 w') w' ∧ ((fun w' => (Kg w F B G [(bm, msgObj ⟨kind, (i : Int), gen, seq, epoch, value, metric⟩)] [] w') ∧ (TwoAt kb1 49 w') ∧ (kb1 < w'.heap.size))) w') (fun _ h => h.2) _ _ _ _ ?_
  replace hHeld := And.intro Nan.out hHeld
  try dsimp only at hHeld
  refine jR [8] ?_
  refine jG rfl (fun K hK => ?_) AllReadyH.nil
  try simp only [jD, jE, jF]
  go_simp
  have hH2 := hHeld
  obtain ⟨an, kk, tw, lt⟩ := hH2
  refine (CK.out _ kk.gt.ring).mono ?_
  rintro e w1008 ⟨rfl, hg⟩
  have L8 := hid (show (TwoAt nk 49 w1008) ∧ (Kg w F B G [(bm, msgObj ⟨kind, (i : Int), gen, seq, epoch, value, metric⟩)] [] w1008) ∧ (TwoAt kb1 49 w1008) ∧ (kb1 < w1008.heap.size) from ⟨an.grown hg, kk.grown hg, tw.grown hg, Nat.lt_of_lt_of_le lt hg.size⟩)
  clear hHeld hg an kk tw lt
  go_wp2_with fail
  refine hK.out _ _ ?_ (fun hHeld => ?_)
  ·exact L8.out
  clear hK K
  try dsimp only at hHeld
  try simp only [jX, jD, jE, jF]
  refine jU 9 hHeld ?_
  try simp only [jX, jD, jE, jF]
  refine jU 10 hHeld ?_
  try simp only [jX, jD, jE, jF]
  refine jU 11 hHeld ?_
  try simp only [jX, jD, jE, jF]
  refine jR [13] ?_
  refine jG rfl (fun K hK => ?_) AllReadyH.nil
  have hH2 := hHeld
  obtain ⟨an, kk, tw, lt⟩ := hH2
  obtain ⟨xo, yo, hno⟩ := id an
  have L13 := hid (show (TwoAt nk 49 ((w1008).setRow nk #[.int .u64 (q ka), .int .u64 (q kb)])) ∧ (Kg w F B G [(bm, msgObj ⟨kind, (i : Int), gen, seq, epoch, value, metric⟩)] [] ((w1008).setRow nk #[.int .u64 (q ka), .int .u64 (q kb)])) ∧ (TwoAt kb1 49 ((w1008).setRow nk #[.int .u64 (q ka), .int .u64 (q kb)])) ∧ (kb1 < ((w1008).setRow nk #[.int .u64 (q ka), .int .u64 (q kb)]).heap.size) from ⟨an.row _ _, kk.rowOther hnk0.2.1 (by simp [hnk0.2.2]) (by simp), tw.other (by have := hnk0.1; omega), (by simpa [World.setRow] using lt)⟩)
  have Nbx := hid (show ((w1008).setRow nk #[.int .u64 (q ka), .int .u64 (q kb)]).heap[nk]? = some (.cells #[.int .u64 (q ka), .int .u64 (q kb)] 49) from at_setRow hno)
  have A13 := hid (hno)
  clear hHeld an kk tw lt
  try simp only [jD, jE, jF]
  rw [if_pos (by rfl)]
  refine wp_store_row (cs := #[.int .u64 (q ka), .int .u64 (q kb)]) A13.out (by kernel_rfl) (by kernel_rfl) (by kernel_rfl) rfl rfl rfl rfl ?_
  refine hK.out _ _ ?_ (fun hHeld => ?_)
  ·exact L13.out
  clear hK K
  try dsimp only at hHeld
  try simp only [jX, jD, jE, jF]
  refine held_stronger (S' := fun w' => (fun w' => w'.heap[nk]? = some (.cells #[.int .u64 (q ka), .int .u64 (q kb)] 49)) w' ∧ ((fun w' => (TwoAt nk 49 w') ∧ (Kg w F B G [(bm, msgObj ⟨kind, (i : Int), gen, seq, epoch, value, metric⟩)] [] w') ∧ (TwoAt kb1 49 w') ∧ (kb1 < w'.heap.size))) w') (fun _ h => h.2) _ _ _ _ ?_
  replace hHeld := And.intro Nbx.out hHeld
  try dsimp only at hHeld
  refine jU 14 hHeld ?_
  try simp only [jX, jD, jE, jF]
  refine wpAnyH_done (by kernel_rfl) ?_ _
  obtain ⟨bx, an, kk, tw, lt⟩ := hHeld
  refine exit_gen (fun wx => (Kg w F B G [(bm, msgObj ⟨kind, (i : Int), gen, seq, epoch, value, metric⟩)] [] wx ∧ TwoAt kb1 49 wx) ∧ wx.heap[nk]? = some (.cells #[.int .u64 (q ka), .int .u64 (q kb)] 49)) ⟨⟨kk, tw⟩, bx⟩ ?_
  clear kk tw bx an lt
  rintro w3 ⟨⟨k3, t3⟩, b3⟩
  have K3 := hid k3; have T3 := hid t3; have X3 := hid b3; clear k3 t3 b3
  go_wp2_with fail
  refine wp_region_held_drew (S := (fun w' => (Kg w F B G [(bm, msgObj ⟨kind, (i : Int), gen, seq, epoch, value, metric⟩)] [] w') ∧ (TwoAt kb1 49 w') ∧ (w'.heap[nk]? = some (.cells #[.int .u64 (q ka), .int .u64 (q kb)] 49)))) (by kernel_rfl) ⟨K3.out.drew, T3.out, X3.out⟩ (fun hHeld => ?_)
  try dsimp only at hHeld
  refine' jT 0 rfl (by rfl) ?_ hHeld ?_
  rotate_left
  ·(intro w hSw; (try dsimp only at hSw); (try simp only [jD, jE, jF]); refine exec_row (x := .tmp 11) hSw.2.2 Tryz.underlying49 rfl (by kernel_rfl) ?_ ?_ <;> rfl)
  try simp only [jX, jD, jE, jF]
  refine jU 1 hHeld ?_
  try simp only [jX, jD, jE, jF]
  refine jU 2 hHeld ?_
  try simp only [jX, jD, jE, jF]
  refine' jT 3 rfl (by rfl) ?_ hHeld ?_
  rotate_left
  ·(intro w hSw; (try dsimp only at hSw); obtain ⟨kk, tw, bx⟩ := hSw; have m1 : w.cell? ⟨bm, 1, none⟩ = some (Value.int IntKind.i64 (i : Int)) := at_cell kk.kp.b0 1; go_simp; try with_reducible rfl)
  try simp only [jX, jD, jE, jF]
  refine jR [4] ?_
  refine jG rfl (fun K hK => ?_) AllReadyH.nil
  try simp only [jD, jE, jF]
  go_simp
  have hH2 := hHeld
  obtain ⟨kk, tw, bx⟩ := hH2
  refine (CR.out _ kk.gt).mono ?_
  rintro e w1004 ⟨rfl, hg⟩
  have L4 := hid (show (Kg w F B G [(bm, msgObj ⟨kind, (i : Int), gen, seq, epoch, value, metric⟩)] [] w1004) ∧ (TwoAt kb1 49 w1004) ∧ (w1004.heap[nk]? = some (.cells #[.int .u64 (q ka), .int .u64 (q kb)] 49)) from ⟨kk.grown hg, tw.grown hg, at_grown bx hg (by simp)⟩)
  clear hHeld hg kk tw bx
  go_wp2_with fail
  refine hK.out _ _ ?_ (fun hHeld => ?_)
  ·exact L4.out
  clear hK K
  try dsimp only at hHeld
  try simp only [jX, jD, jE, jF]
  refine jR [5] ?_
  refine jG rfl (fun K hK => ?_) AllReadyH.nil
  have hH2 := hHeld
  obtain ⟨kk, tw, bx⟩ := hH2
  obtain ⟨xo, yo, hno⟩ := id tw
  have L5 := hid (show (Kg w F B G [(bm, msgObj ⟨kind, (i : Int), gen, seq, epoch, value, metric⟩)] [] ((w1004).setRow kb1 #[.int .u64 (q ka), .int .u64 (q kb)])) ∧ (TwoAt kb1 49 ((w1004).setRow kb1 #[.int .u64 (q ka), .int .u64 (q kb)])) ∧ (((w1004).setRow kb1 #[.int .u64 (q ka), .int .u64 (q kb)]).heap[nk]? = some (.cells #[.int .u64 (q ka), .int .u64 (q kb)] 49)) from ⟨kk.rowOther ZZ.out (by simp [NB.out]) (by simp), tw.row _ _, at_setRow_other bx (by have := hnk0.1; omega)⟩)
  have Nrs := hid (show ((w1004).setRow kb1 #[.int .u64 (q ka), .int .u64 (q kb)]).heap[kb1]? = some (.cells #[.int .u64 (q ka), .int .u64 (q kb)] 49) from at_setRow hno)
  have A5 := hid (hno)
  clear hHeld kk tw bx
  try simp only [jD, jE, jF]
  rw [if_pos (by rfl)]
  refine wp_store_row (cs := #[.int .u64 (q ka), .int .u64 (q kb)]) A5.out (by kernel_rfl) (by kernel_rfl) (by kernel_rfl) rfl rfl rfl rfl ?_
  refine hK.out _ _ ?_ (fun hHeld => ?_)
  ·exact L5.out
  clear hK K
  try dsimp only at hHeld
  try simp only [jX, jD, jE, jF]
  refine held_stronger (S' := fun w' => (fun w' => w'.heap[kb1]? = some (.cells #[.int .u64 (q ka), .int .u64 (q kb)] 49)) w' ∧ ((fun w' => (Kg w F B G [(bm, msgObj ⟨kind, (i : Int), gen, seq, epoch, value, metric⟩)] [] w') ∧ (TwoAt kb1 49 w') ∧ (w'.heap[nk]? = some (.cells #[.int .u64 (q ka), .int .u64 (q kb)] 49)))) w') (fun _ h => h.2) _ _ _ _ ?_
  replace hHeld := And.intro Nrs.out hHeld
  try dsimp only at hHeld
  refine jU 6 hHeld ?_
  try simp only [jX, jD, jE, jF]
  refine jU 7 hHeld ?_
  try simp only [jX, jD, jE, jF]
  refine wpAnyH_done (by kernel_rfl) ?_ _
  obtain ⟨rs, kk, tw, bx⟩ := hHeld
  refine exit_gen (fun wx => wx.heap[kb1]? = some (.cells #[.int .u64 (q ka), .int .u64 (q kb)] 49) ∧ w.grownBy wx none) ⟨rs, kk.kp.g⟩ ?_
  clear kk tw bx rs
  rintro w4 ⟨rs4, g4⟩
  have r0 : w4.cell? ⟨kb1, 0, none⟩ = some (.int .u64 (q ka)) := at_cell rs4 0
  have r1 : w4.cell? ⟨kb1, 1, none⟩ = some (.int .u64 (q kb)) := at_cell rs4 1
  have G4 := hid g4; clear g4 rs4
  go_wp2_with fail
  exact bodyPost_ret (v := .tuple #[pair ka kb, .pointer (some ⟨B.A i, 0, none⟩), .int .i64 0]) (by simp [results, Tryz.results56, go_sem, r0, r1]) rfl ⟨rfl, G4.out⟩
set_option maxHeartbeats 3200000 in
theorem gsealer_old {F : List Nat} {B : GBl} {G : Gt} {kind gen seq epoch value metric : Int} (i : Nat) (now : Int) (w : World) (K : GtAt w F B G) (hi : i < G.r.n) (g0 : 0 ≤ gen) (g1 : gen ≤ 60000) (hk : kind ≠ 2) (hkey : G.r.keyIs i gen now) (hs : gen ≠ G.r.gen i) :
  Calls Tryz.prog 56 #[.pointer (some ⟨B.g, 0, none⟩), mg ⟨kind, (i : Int), gen, seq, epoch, value, metric⟩, .int .i64 now] w fun e w' => e = .returned (.tuple #[pair (ofOf G.r.seed i gen).a (ofOf G.r.seed i gen).b, .pointer (some ⟨B.O i, 0, none⟩), .int .i64 0]) ∧ w.grownBy w' none := by
 have K0 := hid (((kg_start K).alloc (msgObj ⟨kind, (i : Int), gen, seq, epoch, value, metric⟩)).alloc (keyObj 0#64 0#64))
 rw [size_alloc] at K0
 have hn : i < G.r.n := hi
 have CG := hid (fun u (k : RgAt u B.rb B.rh G.r) => rgen_in i u k hi)
 have CK := hid (fun u (k : RgAt u B.rb B.rh G.r) => rkey_any (i : Int) gen now u k)
 have hin : 0 ≤ (i : Int) ∧ (i : Int) < (G.r.n : Int) := by omega
 have hKE : G.r.key (i : Int) gen now = ((ofOf G.r.seed i gen), 0) := by unfold Rg.key; rw [if_pos hin, if_pos (by simpa using hkey)]
 rw [hKE] at CK
 simp only [keyVal] at CK
 clear hkey hKE
 generalize ofOf G.r.seed i gen = kv at *
 obtain ⟨ka, kb⟩ := kv
 dsimp only at *
 have CR := hid (fun u (k : GtAt u F B G) => gold_in i u k hi)
 clear hi hin K
 have dk : (kind == 2) = false := by simpa using hk
 have ds : (gen != G.r.gen i) = true := by simpa using hs
 clear hs
 generalize G.r.gen i = gn at *
 have HK0 := hid K0.out
 go_enter Tryz.func56, Tryz.ntmps56
 go_upto_region 1 with fail
 refine wp_gen (fun wx => Kg w F B G [(w.heap.size + 1, keyObj 0#64 0#64), (w.heap.size, msgObj ⟨kind, (i : Int), gen, seq, epoch, value, metric⟩)] [] wx) K0.out ?_
 clear K0 HK0
 have z0 : w.heap.size ≤ w.heap.size + 1 := Nat.le_succ _
 have z1 : w.heap.size ≠ w.heap.size + 1 := by omega
 have zz := And.intro z0 z1; clear z0 z1
 generalize w.heap.size + 1 = kb1 at *
 have lb := Nat.le_refl w.heap.size
 generalize hbm : w.heap.size = bm at zz lb ⊢
 have ZZ : Hid (w.heap.size ≤ kb1) := hid (hbm ▸ zz.1)
 have NB : Hid (bm ≠ kb1) := hid zz.2
 clear zz lb
 intro w1 h1
 have K1 := hid h1; clear h1
 have m0 : w1.cell? ⟨bm, 0, none⟩ = some (.int .i64 kind) := at_cell K1.out.kp.b1 0
 have m1 : w1.cell? ⟨bm, 1, none⟩ = some (.int .i64 (i : Int)) := at_cell K1.out.kp.b1 1
 have m2 : w1.cell? ⟨bm, 2, none⟩ = some (.int .i64 gen) := at_cell K1.out.kp.b1 2
 obtain ⟨c0, c1, c2, c3, c4⟩ := K1.out.gt.tops
 go_quiet ((go_at_call 25; exact Calls.quiet_of_same (still_of (CG.out _ (K1.out.gt.ring.grown (gb_drewQ w1 _))))))
 go_wp2_with fail
 clear m0 m1 m2 c0 c1 c2 c3 c4
 have lt1 := at_lt K1.out.kp.b0
 refine wp_gen (fun wx => (Kg w F B G [(bm, msgObj ⟨kind, (i : Int), gen, seq, epoch, value, metric⟩)] [] wx ∧ TwoAt kb1 49 wx) ∧ kb1 < wx.heap.size) ⟨⟨(K1.out.tail).grown (gb_drewQ w1 _), ⟨_, _, at_grown K1.out.kp.b0 (gb_drewQ w1 _) (by simp)⟩⟩, lt1⟩ ?_
 clear K1 lt1
 rintro w2 ⟨⟨k2, tw2⟩, l2⟩
 have K2 := hid k2; have T2 := hid tw2; have L2 := hid l2; clear k2 tw2 l2
 refine wp_region_held_drew (S := (fun w' => (Kg w F B G [(bm, msgObj ⟨kind, (i : Int), gen, seq, epoch, value, metric⟩)] [] w') ∧ (TwoAt kb1 49 w') ∧ (kb1 < w'.heap.size))) (by kernel_rfl) ⟨K2.out.drew, T2.out, L2.out⟩ (fun hHeld => ?_)
 try dsimp only at hHeld
 refine jU 0 hHeld ?_
 try simp only [jX, jD, jE, jF]
 refine jU 1 hHeld ?_
 try simp only [jX, jD, jE, jF]
 refine jU 2 hHeld ?_
 try simp only [jX, jD, jE, jF]
 refine' jT 3 rfl (by rfl) ?_ hHeld ?_
 rotate_left
 ·(intro w hSw; (try dsimp only at hSw); obtain ⟨kk, tw, lt⟩ := hSw; obtain ⟨c0, c1, c2, c3, c4⟩ := kk.gt.tops; have m1 : w.cell? ⟨bm, 1, none⟩ = some (Value.int IntKind.i64 (i : Int)) := at_cell kk.kp.b0 1; go_simp; try with_reducible rfl)
 try simp only [jX, jD, jE, jF]
 refine jU 4 hHeld ?_
 try simp only [jX, jD, jE, jF]
 refine' jT 5 rfl (by rfl) ?_ hHeld ?_
 rotate_left
 ·(intro w hSw; (try dsimp only at hSw); obtain ⟨kk, tw, lt⟩ := hSw; obtain ⟨c0, c1, c2, c3, c4⟩ := kk.gt.tops; have m1 : w.cell? ⟨bm, 1, none⟩ = some (Value.int IntKind.i64 (i : Int)) := at_cell kk.kp.b0 1; go_simp; try with_reducible rfl)
 try simp only [jX, jD, jE, jF]
 refine jU 6 hHeld ?_
 try simp only [jX, jD, jE, jF]
 refine jU 7 hHeld ?_
 try simp only [jX, jD, jE, jF]
 refine jR [8, 12] ?_
 refine jG rfl (fun K hK => ?_) (jG rfl (fun K hK => ?_) AllReadyH.nil)
 ·try simp only [jD, jE, jF]
  go_simp
  have hH2 := hHeld
  obtain ⟨kk, tw, lt⟩ := hH2
  refine (CK.out _ kk.gt.ring).mono ?_
  rintro e w1008 ⟨rfl, hg⟩
  have L8 := hid (show (Kg w F B G [(bm, msgObj ⟨kind, (i : Int), gen, seq, epoch, value, metric⟩)] [] w1008) ∧ (TwoAt kb1 49 w1008) ∧ (kb1 < w1008.heap.size) from ⟨kk.grown hg, tw.grown hg, Nat.lt_of_lt_of_le lt hg.size⟩)
  clear hHeld hg kk tw lt
  go_wp2_with fail
  refine hK.out _ _ ?_ (fun hHeld => ?_)
  ·exact L8.out
  clear hK K
  try dsimp only at hHeld
  try simp only [jX, jD, jE, jF]
  refine jU 9 hHeld ?_
  try simp only [jX, jD, jE, jF]
  refine jU 10 hHeld ?_
  try simp only [jX, jD, jE, jF]
  refine jU 11 hHeld ?_
  try simp only [jX, jD, jE, jF]
  refine jR [12] ?_
  refine jG rfl (fun K hK => ?_) AllReadyH.nil
  have hH2 := hHeld
  obtain ⟨kk, tw, lt⟩ := hH2
  have hg : w1008.grownBy (w1008.alloc (keyObj 0#64 0#64)) none := World.grownBy_alloc _ _ _
  obtain ⟨nk, hnk⟩ : ∃ nk, w1008.heap.size = nk := ⟨_, rfl⟩
  have hnk0 : kb1 < nk ∧ w.heap.size ≤ nk ∧ bm ≠ nk := hnk ▸ ⟨lt, kk.size, by have := at_lt kk.kp.b0; omega⟩
  have L12 := hid (show (Kg w F B G [(bm, msgObj ⟨kind, (i : Int), gen, seq, epoch, value, metric⟩)] [] (w1008.alloc (keyObj 0#64 0#64))) ∧ (TwoAt kb1 49 (w1008.alloc (keyObj 0#64 0#64))) ∧ (kb1 < (w1008.alloc (keyObj 0#64 0#64)).heap.size) from ⟨kk.grown hg, tw.grown hg, Nat.lt_of_lt_of_le lt hg.size⟩)
  have Nan := hid (show TwoAt nk 49 (w1008.alloc (keyObj 0#64 0#64)) from ⟨_, _, by rw [← hnk]; exact at_new w1008 _⟩)
  clear hHeld hg kk tw lt
  try simp only [jD, jE, jF]
  go_simp
  refine hK.out _ _ ?_ (fun hHeld => ?_)
  ·exact L12.out
  clear hK K
  try dsimp only at hHeld
  try simp only [jX, jD, jE, jF]
  refine held_stronger (S' := fun w' => (fun w' => TwoAt nk 49 w') w' ∧ ((fun w' => (Kg w F B G [(bm, msgObj ⟨kind, (i : Int), gen, seq, epoch, value, metric⟩)] [] w') ∧ (TwoAt kb1 49 w') ∧ (kb1 < w'.heap.size))) w') (fun _ h => h.2) _ _ _ _ ?_
  replace hHeld := And.intro Nan.out hHeld
  try dsimp only at hHeld
  refine jR [13] ?_
  refine jG rfl (fun K hK => ?_) AllReadyH.nil
  have hH2 := hHeld
  obtain ⟨an, kk, tw, lt⟩ := hH2
  obtain ⟨xo, yo, hno⟩ := id an
  have L13 := hid (show (TwoAt nk 49 (((w1008.alloc (keyObj 0#64 0#64))).setRow nk #[.int .u64 (q ka), .int .u64 (q kb)])) ∧ (Kg w F B G [(bm, msgObj ⟨kind, (i : Int), gen, seq, epoch, value, metric⟩)] [] (((w1008.alloc (keyObj 0#64 0#64))).setRow nk #[.int .u64 (q ka), .int .u64 (q kb)])) ∧ (TwoAt kb1 49 (((w1008.alloc (keyObj 0#64 0#64))).setRow nk #[.int .u64 (q ka), .int .u64 (q kb)])) ∧ (kb1 < (((w1008.alloc (keyObj 0#64 0#64))).setRow nk #[.int .u64 (q ka), .int .u64 (q kb)]).heap.size) from ⟨an.row _ _, kk.rowOther hnk0.2.1 (by simp [hnk0.2.2]) (by simp), tw.other (by have := hnk0.1; omega), (by simpa [World.setRow] using lt)⟩)
  have Nbx := hid (show (((w1008.alloc (keyObj 0#64 0#64))).setRow nk #[.int .u64 (q ka), .int .u64 (q kb)]).heap[nk]? = some (.cells #[.int .u64 (q ka), .int .u64 (q kb)] 49) from at_setRow hno)
  have A13 := hid (hno)
  clear hHeld an kk tw lt
  try simp only [jD, jE, jF]
  rw [if_pos (by rfl)]
  refine wp_store_row (cs := #[.int .u64 (q ka), .int .u64 (q kb)]) A13.out (by kernel_rfl) (by kernel_rfl) (by kernel_rfl) rfl rfl rfl rfl ?_
  refine hK.out _ _ ?_ (fun hHeld => ?_)
  ·exact L13.out
  clear hK K
  try dsimp only at hHeld
  try simp only [jX, jD, jE, jF]
  refine held_stronger (S' := fun w' => (fun w' => w'.heap[nk]? = some (.cells #[.int .u64 (q ka), .int .u64 (q kb)] 49)) w' ∧ ((fun w' => (TwoAt nk 49 w') ∧ (Kg w F B G [(bm, msgObj ⟨kind, (i : Int), gen, seq, epoch, value, metric⟩)] [] w') ∧ (TwoAt kb1 49 w') ∧ (kb1 < w'.heap.size))) w') (fun _ h => h.2) _ _ _ _ ?_
  replace hHeld := And.intro Nbx.out hHeld
  try dsimp only at hHeld
  refine jU 14 hHeld ?_
  try simp only [jX, jD, jE, jF]
  refine wpAnyH_done (by kernel_rfl) ?_ _
  obtain ⟨bx, an, kk, tw, lt⟩ := hHeld
  refine exit_gen (fun wx => (Kg w F B G [(bm, msgObj ⟨kind, (i : Int), gen, seq, epoch, value, metric⟩)] [] wx ∧ TwoAt kb1 49 wx) ∧ wx.heap[nk]? = some (.cells #[.int .u64 (q ka), .int .u64 (q kb)] 49)) ⟨⟨kk, tw⟩, bx⟩ ?_
  clear kk tw bx an lt
  rintro w3 ⟨⟨k3, t3⟩, b3⟩
  have K3 := hid k3; have T3 := hid t3; have X3 := hid b3; clear k3 t3 b3
  go_wp2_with fail
  refine wp_region_held_drew (S := (fun w' => (Kg w F B G [(bm, msgObj ⟨kind, (i : Int), gen, seq, epoch, value, metric⟩)] [] w') ∧ (TwoAt kb1 49 w') ∧ (w'.heap[nk]? = some (.cells #[.int .u64 (q ka), .int .u64 (q kb)] 49)))) (by kernel_rfl) ⟨K3.out.drew, T3.out, X3.out⟩ (fun hHeld => ?_)
  try dsimp only at hHeld
  refine' jT 0 rfl (by rfl) ?_ hHeld ?_
  rotate_left
  ·(intro w hSw; (try dsimp only at hSw); (try simp only [jD, jE, jF]); refine exec_row (x := .tmp 11) hSw.2.2 Tryz.underlying49 rfl (by kernel_rfl) ?_ ?_ <;> rfl)
  try simp only [jX, jD, jE, jF]
  refine jU 1 hHeld ?_
  try simp only [jX, jD, jE, jF]
  refine jU 2 hHeld ?_
  try simp only [jX, jD, jE, jF]
  refine' jT 3 rfl (by rfl) ?_ hHeld ?_
  rotate_left
  ·(intro w hSw; (try dsimp only at hSw); obtain ⟨kk, tw, bx⟩ := hSw; have m1 : w.cell? ⟨bm, 1, none⟩ = some (Value.int IntKind.i64 (i : Int)) := at_cell kk.kp.b0 1; go_simp; try with_reducible rfl)
  try simp only [jX, jD, jE, jF]
  refine jR [4] ?_
  refine jG rfl (fun K hK => ?_) AllReadyH.nil
  try simp only [jD, jE, jF]
  go_simp
  have hH2 := hHeld
  obtain ⟨kk, tw, bx⟩ := hH2
  refine (CR.out _ kk.gt).mono ?_
  rintro e w1004 ⟨rfl, hg⟩
  have L4 := hid (show (Kg w F B G [(bm, msgObj ⟨kind, (i : Int), gen, seq, epoch, value, metric⟩)] [] w1004) ∧ (TwoAt kb1 49 w1004) ∧ (w1004.heap[nk]? = some (.cells #[.int .u64 (q ka), .int .u64 (q kb)] 49)) from ⟨kk.grown hg, tw.grown hg, at_grown bx hg (by simp)⟩)
  clear hHeld hg kk tw bx
  go_wp2_with fail
  refine hK.out _ _ ?_ (fun hHeld => ?_)
  ·exact L4.out
  clear hK K
  try dsimp only at hHeld
  try simp only [jX, jD, jE, jF]
  refine jR [5] ?_
  refine jG rfl (fun K hK => ?_) AllReadyH.nil
  have hH2 := hHeld
  obtain ⟨kk, tw, bx⟩ := hH2
  obtain ⟨xo, yo, hno⟩ := id tw
  have L5 := hid (show (Kg w F B G [(bm, msgObj ⟨kind, (i : Int), gen, seq, epoch, value, metric⟩)] [] ((w1004).setRow kb1 #[.int .u64 (q ka), .int .u64 (q kb)])) ∧ (TwoAt kb1 49 ((w1004).setRow kb1 #[.int .u64 (q ka), .int .u64 (q kb)])) ∧ (((w1004).setRow kb1 #[.int .u64 (q ka), .int .u64 (q kb)]).heap[nk]? = some (.cells #[.int .u64 (q ka), .int .u64 (q kb)] 49)) from ⟨kk.rowOther ZZ.out (by simp [NB.out]) (by simp), tw.row _ _, at_setRow_other bx (by have := hnk0.1; omega)⟩)
  have Nrs := hid (show ((w1004).setRow kb1 #[.int .u64 (q ka), .int .u64 (q kb)]).heap[kb1]? = some (.cells #[.int .u64 (q ka), .int .u64 (q kb)] 49) from at_setRow hno)
  have A5 := hid (hno)
  clear hHeld kk tw bx
  try simp only [jD, jE, jF]
  rw [if_pos (by rfl)]
  refine wp_store_row (cs := #[.int .u64 (q ka), .int .u64 (q kb)]) A5.out (by kernel_rfl) (by kernel_rfl) (by kernel_rfl) rfl rfl rfl rfl ?_
  refine hK.out _ _ ?_ (fun hHeld => ?_)
  ·exact L5.out
  clear hK K
  try dsimp only at hHeld
  try simp only [jX, jD, jE, jF]
  refine held_stronger (S' := fun w' => (fun w' => w'.heap[kb1]? = some (.cells #[.int .u64 (q ka), .int .u64 (q kb)] 49)) w' ∧ ((fun w' => (Kg w F B G [(bm, msgObj ⟨kind, (i : Int), gen, seq, epoch, value, metric⟩)] [] w') ∧ (TwoAt kb1 49 w') ∧ (w'.heap[nk]? = some (.cells #[.int .u64 (q ka), .int .u64 (q kb)] 49)))) w') (fun _ h => h.2) _ _ _ _ ?_
  replace hHeld := And.intro Nrs.out hHeld
  try dsimp only at hHeld
  refine jU 6 hHeld ?_
  try simp only [jX, jD, jE, jF]
  refine jU 7 hHeld ?_
  try simp only [jX, jD, jE, jF]
  refine wpAnyH_done (by kernel_rfl) ?_ _
  obtain ⟨rs, kk, tw, bx⟩ := hHeld
  refine exit_gen (fun wx => wx.heap[kb1]? = some (.cells #[.int .u64 (q ka), .int .u64 (q kb)] 49) ∧ w.grownBy wx none) ⟨rs, kk.kp.g⟩ ?_
  clear kk tw bx rs
  rintro w4 ⟨rs4, g4⟩
  have r0 : w4.cell? ⟨kb1, 0, none⟩ = some (.int .u64 (q ka)) := at_cell rs4 0
  have r1 : w4.cell? ⟨kb1, 1, none⟩ = some (.int .u64 (q kb)) := at_cell rs4 1
  have G4 := hid g4; clear g4 rs4
  go_wp2_with fail
  exact bodyPost_ret (v := .tuple #[pair ka kb, .pointer (some ⟨B.O i, 0, none⟩), .int .i64 0]) (by simp [results, Tryz.results56, go_sem, r0, r1]) rfl ⟨rfl, G4.out⟩
 ·have hH2 := hHeld
  obtain ⟨kk, tw, lt⟩ := hH2
  have hg : w2.drew.grownBy (w2.drew.alloc (keyObj 0#64 0#64)) none := World.grownBy_alloc _ _ _
  obtain ⟨nk, hnk⟩ : ∃ nk, w2.drew.heap.size = nk := ⟨_, rfl⟩
  have hnk0 : kb1 < nk ∧ w.heap.size ≤ nk ∧ bm ≠ nk := hnk ▸ ⟨lt, kk.size, by have := at_lt kk.kp.b0; omega⟩
  have L12 := hid (show (Kg w F B G [(bm, msgObj ⟨kind, (i : Int), gen, seq, epoch, value, metric⟩)] [] (w2.drew.alloc (keyObj 0#64 0#64))) ∧ (TwoAt kb1 49 (w2.drew.alloc (keyObj 0#64 0#64))) ∧ (kb1 < (w2.drew.alloc (keyObj 0#64 0#64)).heap.size) from ⟨kk.grown hg, tw.grown hg, Nat.lt_of_lt_of_le lt hg.size⟩)
  have Nan := hid (show TwoAt nk 49 (w2.drew.alloc (keyObj 0#64 0#64)) from ⟨_, _, by rw [← hnk]; exact at_new w2.drew _⟩)
  clear hHeld hg kk tw lt
  try simp only [jD, jE, jF]
  go_simp
  refine hK.out _ _ ?_ (fun hHeld => ?_)
  ·exact L12.out
  clear hK K
  try dsimp only at hHeld
  try simp only [jX, jD, jE, jF]
  refine held_stronger (S' := fun w' => (fun w' => TwoAt nk 49 w') w' ∧ ((fun w' => (Kg w F B G [(bm, msgObj ⟨kind, (i : Int), gen, seq, epoch, value, metric⟩)] [] w') ∧ (TwoAt kb1 49 w') ∧ (kb1 < w'.heap.size))) w') (fun _ h => h.2) _ _ _ _ ?_
  replace hHeld := And.intro Nan.out hHeld
  try dsimp only at hHeld
  refine jR [8] ?_
  refine jG rfl (fun K hK => ?_) AllReadyH.nil
  try simp only [jD, jE, jF]
  go_simp
  have hH2 := hHeld
  obtain ⟨an, kk, tw, lt⟩ := hH2
  refine (CK.out _ kk.gt.ring).mono ?_
  rintro e w1008 ⟨rfl, hg⟩
  have L8 := hid (show (TwoAt nk 49 w1008) ∧ (Kg w F B G [(bm, msgObj ⟨kind, (i : Int), gen, seq, epoch, value, metric⟩)] [] w1008) ∧ (TwoAt kb1 49 w1008) ∧ (kb1 < w1008.heap.size) from ⟨an.grown hg, kk.grown hg, tw.grown hg, Nat.lt_of_lt_of_le lt hg.size⟩)
  clear hHeld hg an kk tw lt
  go_wp2_with fail
  refine hK.out _ _ ?_ (fun hHeld => ?_)
  ·exact L8.out
  clear hK K
  try dsimp only at hHeld
  try simp only [jX, jD, jE, jF]
  refine jU 9 hHeld ?_
  try simp only [jX, jD, jE, jF]
  refine jU 10 hHeld ?_
  try simp only [jX, jD, jE, jF]
  refine jU 11 hHeld ?_
  try simp only [jX, jD, jE, jF]
  refine jR [13] ?_
  refine jG rfl (fun K hK => ?_) AllReadyH.nil
  have hH2 := hHeld
  obtain ⟨an, kk, tw, lt⟩ := hH2
  obtain ⟨xo, yo, hno⟩ := id an
  have L13 := hid (show (TwoAt nk 49 ((w1008).setRow nk #[.int .u64 (q ka), .int .u64 (q kb)])) ∧ (Kg w F B G [(bm, msgObj ⟨kind, (i : Int), gen, seq, epoch, value, metric⟩)] [] ((w1008).setRow nk #[.int .u64 (q ka), .int .u64 (q kb)])) ∧ (TwoAt kb1 49 ((w1008).setRow nk #[.int .u64 (q ka), .int .u64 (q kb)])) ∧ (kb1 < ((w1008).setRow nk #[.int .u64 (q ka), .int .u64 (q kb)]).heap.size) from ⟨an.row _ _, kk.rowOther hnk0.2.1 (by simp [hnk0.2.2]) (by simp), tw.other (by have := hnk0.1; omega), (by simpa [World.setRow] using lt)⟩)
  have Nbx := hid (show ((w1008).setRow nk #[.int .u64 (q ka), .int .u64 (q kb)]).heap[nk]? = some (.cells #[.int .u64 (q ka), .int .u64 (q kb)] 49) from at_setRow hno)
  have A13 := hid (hno)
  clear hHeld an kk tw lt
  try simp only [jD, jE, jF]
  rw [if_pos (by rfl)]
  refine wp_store_row (cs := #[.int .u64 (q ka), .int .u64 (q kb)]) A13.out (by kernel_rfl) (by kernel_rfl) (by kernel_rfl) rfl rfl rfl rfl ?_
  refine hK.out _ _ ?_ (fun hHeld => ?_)
  ·exact L13.out
  clear hK K
  try dsimp only at hHeld
  try simp only [jX, jD, jE, jF]
  refine held_stronger (S' := fun w' => (fun w' => w'.heap[nk]? = some (.cells #[.int .u64 (q ka), .int .u64 (q kb)] 49)) w' ∧ ((fun w' => (TwoAt nk 49 w') ∧ (Kg w F B G [(bm, msgObj ⟨kind, (i : Int), gen, seq, epoch, value, metric⟩)] [] w') ∧ (TwoAt kb1 49 w') ∧ (kb1 < w'.heap.size))) w') (fun _ h => h.2) _ _ _ _ ?_
  replace hHeld := And.intro Nbx.out hHeld
  try dsimp only at hHeld
  refine jU 14 hHeld ?_
  try simp only [jX, jD, jE, jF]
  refine wpAnyH_done (by kernel_rfl) ?_ _
  obtain ⟨bx, an, kk, tw, lt⟩ := hHeld
  refine exit_gen (fun wx => (Kg w F B G [(bm, msgObj ⟨kind, (i : Int), gen, seq, epoch, value, metric⟩)] [] wx ∧ TwoAt kb1 49 wx) ∧ wx.heap[nk]? = some (.cells #[.int .u64 (q ka), .int .u64 (q kb)] 49)) ⟨⟨kk, tw⟩, bx⟩ ?_
  clear kk tw bx an lt
  rintro w3 ⟨⟨k3, t3⟩, b3⟩
  have K3 := hid k3; have T3 := hid t3; have X3 := hid b3; clear k3 t3 b3
  go_wp2_with fail
  refine wp_region_held_drew (S := (fun w' => (Kg w F B G [(bm, msgObj ⟨kind, (i : Int), gen, seq, epoch, value, metric⟩)] [] w') ∧ (TwoAt kb1 49 w') ∧ (w'.heap[nk]? = some (.cells #[.int .u64 (q ka), .int .u64 (q kb)] 49)))) (by kernel_rfl) ⟨K3.out.drew, T3.out, X3.out⟩ (fun hHeld => ?_)
  try dsimp only at hHeld
  refine' jT 0 rfl (by rfl) ?_ hHeld ?_
  rotate_left
  ·(intro w hSw; (try dsimp only at hSw); (try simp only [jD, jE, jF]); refine exec_row (x := .tmp 11) hSw.2.2 Tryz.underlying49 rfl (by kernel_rfl) ?_ ?_ <;> rfl)
  try simp only [jX, jD, jE, jF]
  refine jU 1 hHeld ?_
  try simp only [jX, jD, jE, jF]
  refine jU 2 hHeld ?_
  try simp only [jX, jD, jE, jF]
  refine' jT 3 rfl (by rfl) ?_ hHeld ?_
  rotate_left
  ·(intro w hSw; (try dsimp only at hSw); obtain ⟨kk, tw, bx⟩ := hSw; have m1 : w.cell? ⟨bm, 1, none⟩ = some (Value.int IntKind.i64 (i : Int)) := at_cell kk.kp.b0 1; go_simp; try with_reducible rfl)
  try simp only [jX, jD, jE, jF]
  refine jR [4] ?_
  refine jG rfl (fun K hK => ?_) AllReadyH.nil
  try simp only [jD, jE, jF]
  go_simp
  have hH2 := hHeld
  obtain ⟨kk, tw, bx⟩ := hH2
  refine (CR.out _ kk.gt).mono ?_
  rintro e w1004 ⟨rfl, hg⟩
  have L4 := hid (show (Kg w F B G [(bm, msgObj ⟨kind, (i : Int), gen, seq, epoch, value, metric⟩)] [] w1004) ∧ (TwoAt kb1 49 w1004) ∧ (w1004.heap[nk]? = some (.cells #[.int .u64 (q ka), .int .u64 (q kb)] 49)) from ⟨kk.grown hg, tw.grown hg, at_grown bx hg (by simp)⟩)
  clear hHeld hg kk tw bx
  go_wp2_with fail
  refine hK.out _ _ ?_ (fun hHeld => ?_)
  ·exact L4.out
  clear hK K
  try dsimp only at hHeld
  try simp only [jX, jD, jE, jF]
  refine jR [5] ?_
  refine jG rfl (fun K hK => ?_) AllReadyH.nil
  have hH2 := hHeld
  obtain ⟨kk, tw, bx⟩ := hH2
  obtain ⟨xo, yo, hno⟩ := id tw
  have L5 := hid (show (Kg w F B G [(bm, msgObj ⟨kind, (i : Int), gen, seq, epoch, value, metric⟩)] [] ((w1004).setRow kb1 #[.int .u64 (q ka), .int .u64 (q kb)])) ∧ (TwoAt kb1 49 ((w1004).setRow kb1 #[.int .u64 (q ka), .int .u64 (q kb)])) ∧ (((w1004).setRow kb1 #[.int .u64 (q ka), .int .u64 (q kb)]).heap[nk]? = some (.cells #[.int .u64 (q ka), .int .u64 (q kb)] 49)) from ⟨kk.rowOther ZZ.out (by simp [NB.out]) (by simp), tw.row _ _, at_setRow_other bx (by have := hnk0.1; omega)⟩)
  have Nrs := hid (show ((w1004).setRow kb1 #[.int .u64 (q ka), .int .u64 (q kb)]).heap[kb1]? = some (.cells #[.int .u64 (q ka), .int .u64 (q kb)] 49) from at_setRow hno)
  have A5 := hid (hno)
  clear hHeld kk tw bx
  try simp only [jD, jE, jF]
  rw [if_pos (by rfl)]
  refine wp_store_row (cs := #[.int .u64 (q ka), .int .u64 (q kb)]) A5.out (by kernel_rfl) (by kernel_rfl) (by kernel_rfl) rfl rfl rfl rfl ?_
  refine hK.out _ _ ?_ (fun hHeld => ?_)
  ·exact L5.out
  clear hK K
  try dsimp only at hHeld
  try simp only [jX, jD, jE, jF]
  refine held_stronger (S' := fun w' => (fun w' => w'.heap[kb1]? = some (.cells #[.int .u64 (q ka), .int .u64 (q kb)] 49)) w' ∧ ((fun w' => (Kg w F B G [(bm, msgObj ⟨kind, (i : Int), gen, seq, epoch, value, metric⟩)] [] w') ∧ (TwoAt kb1 49 w') ∧ (w'.heap[nk]? = some (.cells #[.int .u64 (q ka), .int .u64 (q kb)] 49)))) w') (fun _ h => h.2) _ _ _ _ ?_
  replace hHeld := And.intro Nrs.out hHeld
  try dsimp only at hHeld
  refine jU 6 hHeld ?_
  try simp only [jX, jD, jE, jF]
  refine jU 7 hHeld ?_
  try simp only [jX, jD, jE, jF]
  refine wpAnyH_done (by kernel_rfl) ?_ _
  obtain ⟨rs, kk, tw, bx⟩ := hHeld
  refine exit_gen (fun wx => wx.heap[kb1]? = some (.cells #[.int .u64 (q ka), .int .u64 (q kb)] 49) ∧ w.grownBy wx none) ⟨rs, kk.kp.g⟩ ?_
  clear kk tw bx rs
  rintro w4 ⟨rs4, g4⟩
  have r0 : w4.cell? ⟨kb1, 0, none⟩ = some (.int .u64 (q ka)) := at_cell rs4 0
  have r1 : w4.cell? ⟨kb1, 1, none⟩ = some (.int .u64 (q kb)) := at_cell rs4 1
  have G4 := hid g4; clear g4 rs4
  go_wp2_with fail
  exact bodyPost_ret (v := .tuple #[pair ka kb, .pointer (some ⟨B.O i, 0, none⟩), .int .i64 0]) (by simp [results, Tryz.results56, go_sem, r0, r1]) rfl ⟨rfl, G4.out⟩
set_option maxHeartbeats 3200000 in
theorem gsealer_no {F : List Nat} {B : GBl} {G : Gt} {kind gen seq epoch value metric : Int} (i : Nat) (now : Int) (w : World) (K : GtAt w F B G) (hi : i < G.r.n) (g0 : 0 ≤ gen) (g1 : gen ≤ 60000) (hk : kind ≠ 2) (hkey : ¬ G.r.keyIs i gen now) :
  Calls Tryz.prog 56 #[.pointer (some ⟨B.g, 0, none⟩), mg ⟨kind, (i : Int), gen, seq, epoch, value, metric⟩, .int .i64 now] w fun e w' => e = .returned (.tuple #[.agg #[.int .u64 0, .int .u64 0], .pointer none, .int .i64 4]) ∧ w.grownBy w' none := by
 have K0 := hid (((kg_start K).alloc (msgObj ⟨kind, (i : Int), gen, seq, epoch, value, metric⟩)).alloc (keyObj 0#64 0#64))
 rw [size_alloc] at K0
 have hn : i < G.r.n := hi
 have CG := hid (fun u (k : RgAt u B.rb B.rh G.r) => rgen_in i u k hi)
 have CK := hid (fun u (k : RgAt u B.rb B.rh G.r) => rkey_any (i : Int) gen now u k)
 have hin : 0 ≤ (i : Int) ∧ (i : Int) < (G.r.n : Int) := by omega
 have hKE : G.r.key (i : Int) gen now = (⟨0, 0⟩, 4) := by unfold Rg.key; rw [if_pos hin, if_neg (by simpa using hkey)]
 rw [hKE] at CK
 simp only [keyVal] at CK
 have CR := hid (fun u (k : GtAt u F B G) => gold_in i u k hi)
 clear hi hin K
 have dk : (kind == 2) = false := by simpa using hk
 skip
 generalize G.r.gen i = gn at *
 have HK0 := hid K0.out
 go_enter Tryz.func56, Tryz.ntmps56
 go_upto_region 1 with fail
 refine wp_gen (fun wx => Kg w F B G [(w.heap.size + 1, keyObj 0#64 0#64), (w.heap.size, msgObj ⟨kind, (i : Int), gen, seq, epoch, value, metric⟩)] [] wx) K0.out ?_
 clear K0 HK0
 have z0 : w.heap.size ≤ w.heap.size + 1 := Nat.le_succ _
 have z1 : w.heap.size ≠ w.heap.size + 1 := by omega
 have zz := And.intro z0 z1; clear z0 z1
 generalize w.heap.size + 1 = kb1 at *
 have lb := Nat.le_refl w.heap.size
 generalize hbm : w.heap.size = bm at zz lb ⊢
 have ZZ : Hid (w.heap.size ≤ kb1) := hid (hbm ▸ zz.1)
 have NB : Hid (bm ≠ kb1) := hid zz.2
 clear zz lb
 intro w1 h1
 have K1 := hid h1; clear h1
 have m0 : w1.cell? ⟨bm, 0, none⟩ = some (.int .i64 kind) := at_cell K1.out.kp.b1 0
 have m1 : w1.cell? ⟨bm, 1, none⟩ = some (.int .i64 (i : Int)) := at_cell K1.out.kp.b1 1
 have m2 : w1.cell? ⟨bm, 2, none⟩ = some (.int .i64 gen) := at_cell K1.out.kp.b1 2
 obtain ⟨c0, c1, c2, c3, c4⟩ := K1.out.gt.tops
 go_quiet ((go_at_call 25; exact Calls.quiet_of_same (still_of (CG.out _ (K1.out.gt.ring.grown (gb_drewQ w1 _))))))
 go_wp2_with fail
 clear m0 m1 m2 c0 c1 c2 c3 c4
 have lt1 := at_lt K1.out.kp.b0
 refine wp_gen (fun wx => (Kg w F B G [(bm, msgObj ⟨kind, (i : Int), gen, seq, epoch, value, metric⟩)] [] wx ∧ TwoAt kb1 49 wx) ∧ kb1 < wx.heap.size) ⟨⟨(K1.out.tail).grown (gb_drewQ w1 _), ⟨_, _, at_grown K1.out.kp.b0 (gb_drewQ w1 _) (by simp)⟩⟩, lt1⟩ ?_
 clear K1 lt1
 rintro w2 ⟨⟨k2, tw2⟩, l2⟩
 have K2 := hid k2; have T2 := hid tw2; have L2 := hid l2; clear k2 tw2 l2
 refine wp_region_held_drew (S := (fun w' => (Kg w F B G [(bm, msgObj ⟨kind, (i : Int), gen, seq, epoch, value, metric⟩)] [] w') ∧ (TwoAt kb1 49 w') ∧ (kb1 < w'.heap.size))) (by kernel_rfl) ⟨K2.out.drew, T2.out, L2.out⟩ (fun hHeld => ?_)
 try dsimp only at hHeld
 refine jU 0 hHeld ?_
 try simp only [jX, jD, jE, jF]
 refine jU 1 hHeld ?_
 try simp only [jX, jD, jE, jF]
 refine jU 2 hHeld ?_
 try simp only [jX, jD, jE, jF]
 refine' jT 3 rfl (by rfl) ?_ hHeld ?_
 rotate_left
 ·(intro w hSw; (try dsimp only at hSw); obtain ⟨kk, tw, lt⟩ := hSw; obtain ⟨c0, c1, c2, c3, c4⟩ := kk.gt.tops; have m1 : w.cell? ⟨bm, 1, none⟩ = some (Value.int IntKind.i64 (i : Int)) := at_cell kk.kp.b0 1; go_simp; try with_reducible rfl)
 try simp only [jX, jD, jE, jF]
 refine jU 4 hHeld ?_
 try simp only [jX, jD, jE, jF]
 refine' jT 5 rfl (by rfl) ?_ hHeld ?_
 rotate_left
 ·(intro w hSw; (try dsimp only at hSw); obtain ⟨kk, tw, lt⟩ := hSw; obtain ⟨c0, c1, c2, c3, c4⟩ := kk.gt.tops; have m1 : w.cell? ⟨bm, 1, none⟩ = some (Value.int IntKind.i64 (i : Int)) := at_cell kk.kp.b0 1; go_simp; try with_reducible rfl)
 try simp only [jX, jD, jE, jF]
 refine jU 6 hHeld ?_
 try simp only [jX, jD, jE, jF]
 refine jU 7 hHeld ?_
 try simp only [jX, jD, jE, jF]
 refine jR [8, 12] ?_
 refine jG rfl (fun K hK => ?_) (jG rfl (fun K hK => ?_) AllReadyH.nil)
 ·try simp only [jD, jE, jF]
  go_simp
  have hH2 := hHeld
  obtain ⟨kk, tw, lt⟩ := hH2
  refine (CK.out _ kk.gt.ring).mono ?_
  rintro e w1008 ⟨rfl, hg⟩
  have L8 := hid (show (Kg w F B G [(bm, msgObj ⟨kind, (i : Int), gen, seq, epoch, value, metric⟩)] [] w1008) ∧ (TwoAt kb1 49 w1008) ∧ (kb1 < w1008.heap.size) from ⟨kk.grown hg, tw.grown hg, Nat.lt_of_lt_of_le lt hg.size⟩)
  clear hHeld hg kk tw lt
  go_wp2_with fail
  refine hK.out _ _ ?_ (fun hHeld => ?_)
  ·exact L8.out
  clear hK K
  try dsimp only at hHeld
  try simp only [jX, jD, jE, jF]
  refine jU 9 hHeld ?_
  try simp only [jX, jD, jE, jF]
  refine jU 10 hHeld ?_
  try simp only [jX, jD, jE, jF]
  refine jU 11 hHeld ?_
  try simp only [jX, jD, jE, jF]
  refine jR [12] ?_
  refine jG rfl (fun K hK => ?_) AllReadyH.nil
  have hH2 := hHeld
  obtain ⟨kk, tw, lt⟩ := hH2
  have hg : w1008.grownBy (w1008.alloc (keyObj 0#64 0#64)) none := World.grownBy_alloc _ _ _
  obtain ⟨nk, hnk⟩ : ∃ nk, w1008.heap.size = nk := ⟨_, rfl⟩
  have hnk0 : kb1 < nk ∧ w.heap.size ≤ nk ∧ bm ≠ nk := hnk ▸ ⟨lt, kk.size, by have := at_lt kk.kp.b0; omega⟩
  have L12 := hid (show (Kg w F B G [(bm, msgObj ⟨kind, (i : Int), gen, seq, epoch, value, metric⟩)] [] (w1008.alloc (keyObj 0#64 0#64))) ∧ (TwoAt kb1 49 (w1008.alloc (keyObj 0#64 0#64))) ∧ (kb1 < (w1008.alloc (keyObj 0#64 0#64)).heap.size) from ⟨kk.grown hg, tw.grown hg, Nat.lt_of_lt_of_le lt hg.size⟩)
  have Nan := hid (show TwoAt nk 49 (w1008.alloc (keyObj 0#64 0#64)) from ⟨_, _, by rw [← hnk]; exact at_new w1008 _⟩)
  clear hHeld hg kk tw lt
  try simp only [jD, jE, jF]
  go_simp
  refine hK.out _ _ ?_ (fun hHeld => ?_)
  ·exact L12.out
  clear hK K
  try dsimp only at hHeld
  try simp only [jX, jD, jE, jF]
  refine held_stronger (S' := fun w' => (fun w' => TwoAt nk 49 w') w' ∧ ((fun w' => (Kg w F B G [(bm, msgObj ⟨kind, (i : Int), gen, seq, epoch, value, metric⟩)] [] w') ∧ (TwoAt kb1 49 w') ∧ (kb1 < w'.heap.size))) w') (fun _ h => h.2) _ _ _ _ ?_
  replace hHeld := And.intro Nan.out hHeld
  try dsimp only at hHeld
  refine jR [13] ?_
  refine jG rfl (fun K hK => ?_) AllReadyH.nil
  have hH2 := hHeld
  obtain ⟨an, kk, tw, lt⟩ := hH2
  obtain ⟨xo, yo, hno⟩ := id an
  have L13 := hid (show (TwoAt nk 49 (((w1008.alloc (keyObj 0#64 0#64))).setRow nk #[.int .u64 0, .int .u64 0])) ∧ (Kg w F B G [(bm, msgObj ⟨kind, (i : Int), gen, seq, epoch, value, metric⟩)] [] (((w1008.alloc (keyObj 0#64 0#64))).setRow nk #[.int .u64 0, .int .u64 0])) ∧ (TwoAt kb1 49 (((w1008.alloc (keyObj 0#64 0#64))).setRow nk #[.int .u64 0, .int .u64 0])) ∧ (kb1 < (((w1008.alloc (keyObj 0#64 0#64))).setRow nk #[.int .u64 0, .int .u64 0]).heap.size) from ⟨an.row _ _, kk.rowOther hnk0.2.1 (by simp [hnk0.2.2]) (by simp), tw.other (by have := hnk0.1; omega), (by simpa [World.setRow] using lt)⟩)
  have Nbx := hid (show (((w1008.alloc (keyObj 0#64 0#64))).setRow nk #[.int .u64 0, .int .u64 0]).heap[nk]? = some (.cells #[.int .u64 0, .int .u64 0] 49) from at_setRow hno)
  have A13 := hid (hno)
  clear hHeld an kk tw lt
  try simp only [jD, jE, jF]
  rw [if_pos (by rfl)]
  refine wp_store_row (cs := #[.int .u64 0, .int .u64 0]) A13.out (by kernel_rfl) (by kernel_rfl) (by kernel_rfl) rfl rfl rfl rfl ?_
  refine hK.out _ _ ?_ (fun hHeld => ?_)
  ·exact L13.out
  clear hK K
  try dsimp only at hHeld
  try simp only [jX, jD, jE, jF]
  refine held_stronger (S' := fun w' => (fun w' => w'.heap[nk]? = some (.cells #[.int .u64 0, .int .u64 0] 49)) w' ∧ ((fun w' => (TwoAt nk 49 w') ∧ (Kg w F B G [(bm, msgObj ⟨kind, (i : Int), gen, seq, epoch, value, metric⟩)] [] w') ∧ (TwoAt kb1 49 w') ∧ (kb1 < w'.heap.size))) w') (fun _ h => h.2) _ _ _ _ ?_
  replace hHeld := And.intro Nbx.out hHeld
  try dsimp only at hHeld
  refine jU 14 hHeld ?_
  try simp only [jX, jD, jE, jF]
  refine wpAnyH_done (by kernel_rfl) ?_ _
  obtain ⟨bx, an, kk, tw, lt⟩ := hHeld
  refine exit_gen (fun wx => (Kg w F B G [(bm, msgObj ⟨kind, (i : Int), gen, seq, epoch, value, metric⟩)] [] wx ∧ TwoAt kb1 49 wx) ∧ wx.heap[nk]? = some (.cells #[.int .u64 0, .int .u64 0] 49)) ⟨⟨kk, tw⟩, bx⟩ ?_
  clear kk tw bx an lt
  rintro w3 ⟨⟨k3, t3⟩, b3⟩
  have K3 := hid k3; have T3 := hid t3; have X3 := hid b3; clear k3 t3 b3
  obtain ⟨x0, y0, hx0⟩ := T3.out
  have c0 : w3.cell? ⟨kb1, 0, none⟩ = some x0 := at_cell hx0 0
  have c1 : w3.cell? ⟨kb1, 1, none⟩ = some y0 := at_cell hx0 1
  have f0 : w3.frozen? ⟨kb1, 0, none⟩ = false := at_free hx0 0
  have f1 : w3.frozen? ⟨kb1, 1, none⟩ = false := at_free hx0 1
  have HX := hid hx0; have HG := hid (K3.out.kp.g); clear hx0
  go_wp2_with fail
  clear c0 c1 f0 f1
  have h0 : ((w3.setCell ⟨kb1, 0, none⟩ (.int .u64 0)).setCell ⟨kb1, 1, none⟩ (.int .u64 0)).heap[kb1]? = some (.cells #[.int .u64 0, .int .u64 0] 49) := by have := at_set (at_set HX.out 0 (.int .u64 0)) 1 (.int .u64 0); exact this
  have h1 : w.grownBy ((w3.setCell ⟨kb1, 0, none⟩ (.int .u64 0)).setCell ⟨kb1, 1, none⟩ (.int .u64 0)) none := gb_new (gb_new HG.out ZZ.out _) ZZ.out _
  generalize (w3.setCell ⟨kb1, 0, none⟩ (.int .u64 0)).setCell ⟨kb1, 1, none⟩ (.int .u64 0) = wx at h0 h1 ⊢
  have r0 : wx.cell? ⟨kb1, 0, none⟩ = some (.int .u64 0) := at_cell h0 0
  have r1 : wx.cell? ⟨kb1, 1, none⟩ = some (.int .u64 0) := at_cell h0 1
  exact bodyPost_ret (v := .tuple #[.agg #[.int .u64 0, .int .u64 0], .pointer none, .int .i64 4]) (by simp [results, Tryz.results56, go_sem, r0, r1]) rfl ⟨rfl, h1⟩
 ·have hH2 := hHeld
  obtain ⟨kk, tw, lt⟩ := hH2
  have hg : w2.drew.grownBy (w2.drew.alloc (keyObj 0#64 0#64)) none := World.grownBy_alloc _ _ _
  obtain ⟨nk, hnk⟩ : ∃ nk, w2.drew.heap.size = nk := ⟨_, rfl⟩
  have hnk0 : kb1 < nk ∧ w.heap.size ≤ nk ∧ bm ≠ nk := hnk ▸ ⟨lt, kk.size, by have := at_lt kk.kp.b0; omega⟩
  have L12 := hid (show (Kg w F B G [(bm, msgObj ⟨kind, (i : Int), gen, seq, epoch, value, metric⟩)] [] (w2.drew.alloc (keyObj 0#64 0#64))) ∧ (TwoAt kb1 49 (w2.drew.alloc (keyObj 0#64 0#64))) ∧ (kb1 < (w2.drew.alloc (keyObj 0#64 0#64)).heap.size) from ⟨kk.grown hg, tw.grown hg, Nat.lt_of_lt_of_le lt hg.size⟩)
  have Nan := hid (show TwoAt nk 49 (w2.drew.alloc (keyObj 0#64 0#64)) from ⟨_, _, by rw [← hnk]; exact at_new w2.drew _⟩)
  clear hHeld hg kk tw lt
  try simp only [jD, jE, jF]
  go_simp
  refine hK.out _ _ ?_ (fun hHeld => ?_)
  ·exact L12.out
  clear hK K
  try dsimp only at hHeld
  try simp only [jX, jD, jE, jF]
  refine held_stronger (S' := fun w' => (fun w' => TwoAt nk 49 w') w' ∧ ((fun w' => (Kg w F B G [(bm, msgObj ⟨kind, (i : Int), gen, seq, epoch, value, metric⟩)] [] w') ∧ (TwoAt kb1 49 w') ∧ (kb1 < w'.heap.size))) w') (fun _ h => h.2) _ _ _ _ ?_
  replace hHeld := And.intro Nan.out hHeld
  try dsimp only at hHeld
  refine jR [8] ?_
  refine jG rfl (fun K hK => ?_) AllReadyH.nil
  try simp only [jD, jE, jF]
  go_simp
  have hH2 := hHeld
  obtain ⟨an, kk, tw, lt⟩ := hH2
  refine (CK.out _ kk.gt.ring).mono ?_
  rintro e w1008 ⟨rfl, hg⟩
  have L8 := hid (show (TwoAt nk 49 w1008) ∧ (Kg w F B G [(bm, msgObj ⟨kind, (i : Int), gen, seq, epoch, value, metric⟩)] [] w1008) ∧ (TwoAt kb1 49 w1008) ∧ (kb1 < w1008.heap.size) from ⟨an.grown hg, kk.grown hg, tw.grown hg, Nat.lt_of_lt_of_le lt hg.size⟩)
  clear hHeld hg an kk tw lt
  go_wp2_with fail
  refine hK.out _ _ ?_ (fun hHeld => ?_)
  ·exact L8.out
  clear hK K
  try dsimp only at hHeld
  try simp only [jX, jD, jE, jF]
  refine jU 9 hHeld ?_
  try simp only [jX, jD, jE, jF]
  refine jU 10 hHeld ?_
  try simp only [jX, jD, jE, jF]
  refine jU 11 hHeld ?_
  try simp only [jX, jD, jE, jF]
  refine jR [13] ?_
  refine jG rfl (fun K hK => ?_) AllReadyH.nil
  have hH2 := hHeld
  obtain ⟨an, kk, tw, lt⟩ := hH2
  obtain ⟨xo, yo, hno⟩ := id an
  have L13 := hid (show (TwoAt nk 49 ((w1008).setRow nk #[.int .u64 0, .int .u64 0])) ∧ (Kg w F B G [(bm, msgObj ⟨kind, (i : Int), gen, seq, epoch, value, metric⟩)] [] ((w1008).setRow nk #[.int .u64 0, .int .u64 0])) ∧ (TwoAt kb1 49 ((w1008).setRow nk #[.int .u64 0, .int .u64 0])) ∧ (kb1 < ((w1008).setRow nk #[.int .u64 0, .int .u64 0]).heap.size) from ⟨an.row _ _, kk.rowOther hnk0.2.1 (by simp [hnk0.2.2]) (by simp), tw.other (by have := hnk0.1; omega), (by simpa [World.setRow] using lt)⟩)
  have Nbx := hid (show ((w1008).setRow nk #[.int .u64 0, .int .u64 0]).heap[nk]? = some (.cells #[.int .u64 0, .int .u64 0] 49) from at_setRow hno)
  have A13 := hid (hno)
  clear hHeld an kk tw lt
  try simp only [jD, jE, jF]
  rw [if_pos (by rfl)]
  refine wp_store_row (cs := #[.int .u64 0, .int .u64 0]) A13.out (by kernel_rfl) (by kernel_rfl) (by kernel_rfl) rfl rfl rfl rfl ?_
  refine hK.out _ _ ?_ (fun hHeld => ?_)
  ·exact L13.out
  clear hK K
  try dsimp only at hHeld
  try simp only [jX, jD, jE, jF]
  refine held_stronger (S' := fun w' => (fun w' => w'.heap[nk]? = some (.cells #[.int .u64 0, .int .u64 0] 49)) w' ∧ ((fun w' => (TwoAt nk 49 w') ∧ (Kg w F B G [(bm, msgObj ⟨kind, (i : Int), gen, seq, epoch, value, metric⟩)] [] w') ∧ (TwoAt kb1 49 w') ∧ (kb1 < w'.heap.size))) w') (fun _ h => h.2) _ _ _ _ ?_
  replace hHeld := And.intro Nbx.out hHeld
  try dsimp only at hHeld
  refine jU 14 hHeld ?_
  try simp only [jX, jD, jE, jF]
  refine wpAnyH_done (by kernel_rfl) ?_ _
  obtain ⟨bx, an, kk, tw, lt⟩ := hHeld
  refine exit_gen (fun wx => (Kg w F B G [(bm, msgObj ⟨kind, (i : Int), gen, seq, epoch, value, metric⟩)] [] wx ∧ TwoAt kb1 49 wx) ∧ wx.heap[nk]? = some (.cells #[.int .u64 0, .int .u64 0] 49)) ⟨⟨kk, tw⟩, bx⟩ ?_
  clear kk tw bx an lt
  rintro w3 ⟨⟨k3, t3⟩, b3⟩
  have K3 := hid k3; have T3 := hid t3; have X3 := hid b3; clear k3 t3 b3
  obtain ⟨x0, y0, hx0⟩ := T3.out
  have c0 : w3.cell? ⟨kb1, 0, none⟩ = some x0 := at_cell hx0 0
  have c1 : w3.cell? ⟨kb1, 1, none⟩ = some y0 := at_cell hx0 1
  have f0 : w3.frozen? ⟨kb1, 0, none⟩ = false := at_free hx0 0
  have f1 : w3.frozen? ⟨kb1, 1, none⟩ = false := at_free hx0 1
  have HX := hid hx0; have HG := hid (K3.out.kp.g); clear hx0
  go_wp2_with fail
  clear c0 c1 f0 f1
  have h0 : ((w3.setCell ⟨kb1, 0, none⟩ (.int .u64 0)).setCell ⟨kb1, 1, none⟩ (.int .u64 0)).heap[kb1]? = some (.cells #[.int .u64 0, .int .u64 0] 49) := by have := at_set (at_set HX.out 0 (.int .u64 0)) 1 (.int .u64 0); exact this
  have h1 : w.grownBy ((w3.setCell ⟨kb1, 0, none⟩ (.int .u64 0)).setCell ⟨kb1, 1, none⟩ (.int .u64 0)) none := gb_new (gb_new HG.out ZZ.out _) ZZ.out _
  generalize (w3.setCell ⟨kb1, 0, none⟩ (.int .u64 0)).setCell ⟨kb1, 1, none⟩ (.int .u64 0) = wx at h0 h1 ⊢
  have r0 : wx.cell? ⟨kb1, 0, none⟩ = some (.int .u64 0) := at_cell h0 0
  have r1 : wx.cell? ⟨kb1, 1, none⟩ = some (.int .u64 0) := at_cell h0 1
  exact bodyPost_ret (v := .tuple #[.agg #[.int .u64 0, .int .u64 0], .pointer none, .int .i64 4]) (by simp [results, Tryz.results56, go_sem, r0, r1]) rfl ⟨rfl, h1⟩
set_option maxHeartbeats 3200000 in
theorem gsealer_rot {F : List Nat} {B : GBl} {G : Gt} {gen seq epoch value metric : Int} (i : Nat) (now : Int) (w : World) (K : GtAt w F B G) (hi : i < G.r.n) (g0 : 0 ≤ gen) (g1 : gen ≤ 60000) (hkey : G.r.keyIs i (gen - 1) now) (hs : (gen - 1) = G.r.gen i) :
  Calls Tryz.prog 56 #[.pointer (some ⟨B.g, 0, none⟩), mg ⟨2, (i : Int), gen, seq, epoch, value, metric⟩, .int .i64 now] w fun e w' => e = .returned (.tuple #[pair (ofOf G.r.seed i (gen - 1)).a (ofOf G.r.seed i (gen - 1)).b, .pointer (some ⟨B.A i, 0, none⟩), .int .i64 0]) ∧ w.grownBy w' none := by
 have K0 := hid (((kg_start K).alloc (msgObj ⟨2, (i : Int), gen, seq, epoch, value, metric⟩)).alloc (keyObj 0#64 0#64))
 rw [size_alloc] at K0
 have hn : i < G.r.n := hi
 have CG := hid (fun u (k : RgAt u B.rb B.rh G.r) => rgen_in i u k hi)
 have CK := hid (fun u (k : RgAt u B.rb B.rh G.r) => rkey_any (i : Int) (gen - 1) now u k)
 have hin : 0 ≤ (i : Int) ∧ (i : Int) < (G.r.n : Int) := by omega
 have hKE : G.r.key (i : Int) (gen - 1) now = ((ofOf G.r.seed i (gen - 1)), 0) := by unfold Rg.key; rw [if_pos hin, if_pos (by simpa using hkey)]
 rw [hKE] at CK
 simp only [keyVal] at CK
 clear hkey hKE
 generalize ofOf G.r.seed i (gen - 1) = kv at *
 obtain ⟨ka, kb⟩ := kv
 dsimp only at *
 have CR := hid (fun u (k : GtAt u F B G) => greplay_in i u k hi)
 clear hi hin K
 have ds : ((gen - 1) != G.r.gen i) = false := by simpa using hs
 clear hs
 obtain ⟨sg, hsg⟩ : ∃ sg, sg = gen - 1 := ⟨_, rfl⟩
 rw [← hsg] at ds CK
 have sub : IntKind.i64.wrap (gen - 1) = sg := by rw [hsg]; exact IntWalk.i64_in _ (by omega)
 clear hsg
 generalize G.r.gen i = gn at *
 have HK0 := hid K0.out
 go_enter Tryz.func56, Tryz.ntmps56
 go_upto_region 1 with fail
 refine wp_gen (fun wx => Kg w F B G [(w.heap.size + 1, keyObj 0#64 0#64), (w.heap.size, msgObj ⟨2, (i : Int), gen, seq, epoch, value, metric⟩)] [] wx) K0.out ?_
 clear K0 HK0
 have z0 : w.heap.size ≤ w.heap.size + 1 := Nat.le_succ _
 have z1 : w.heap.size ≠ w.heap.size + 1 := by omega
 have zz := And.intro z0 z1; clear z0 z1
 generalize w.heap.size + 1 = kb1 at *
 have lb := Nat.le_refl w.heap.size
 generalize hbm : w.heap.size = bm at zz lb ⊢
 have ZZ : Hid (w.heap.size ≤ kb1) := hid (hbm ▸ zz.1)
 have NB : Hid (bm ≠ kb1) := hid zz.2
 clear zz lb
 intro w1 h1
 have K1 := hid h1; clear h1
 have m0 : w1.cell? ⟨bm, 0, none⟩ = some (.int .i64 2) := at_cell K1.out.kp.b1 0
 have m1 : w1.cell? ⟨bm, 1, none⟩ = some (.int .i64 (i : Int)) := at_cell K1.out.kp.b1 1
 have m2 : w1.cell? ⟨bm, 2, none⟩ = some (.int .i64 gen) := at_cell K1.out.kp.b1 2
 obtain ⟨c0, c1, c2, c3, c4⟩ := K1.out.gt.tops
 go_quiet ((go_at_call 25; exact Calls.quiet_of_same (still_of (CG.out _ (K1.out.gt.ring.grown (gb_drewQ w1 _))))))
 go_wp2_with fail
 clear m0 m1 m2 c0 c1 c2 c3 c4
 have lt1 := at_lt K1.out.kp.b0
 refine wp_gen (fun wx => (Kg w F B G [(bm, msgObj ⟨2, (i : Int), gen, seq, epoch, value, metric⟩)] [] wx ∧ TwoAt kb1 49 wx) ∧ kb1 < wx.heap.size) ⟨⟨(K1.out.tail).grown (gb_drewQ w1 _), ⟨_, _, at_grown K1.out.kp.b0 (gb_drewQ w1 _) (by simp)⟩⟩, lt1⟩ ?_
 clear K1 lt1
 rintro w2 ⟨⟨k2, tw2⟩, l2⟩
 have K2 := hid k2; have T2 := hid tw2; have L2 := hid l2; clear k2 tw2 l2
 refine wp_region_held_drew (S := (fun w' => (Kg w F B G [(bm, msgObj ⟨2, (i : Int), gen, seq, epoch, value, metric⟩)] [] w') ∧ (TwoAt kb1 49 w') ∧ (kb1 < w'.heap.size))) (by kernel_rfl) ⟨K2.out.drew, T2.out, L2.out⟩ (fun hHeld => ?_)
 try dsimp only at hHeld
 refine jU 0 hHeld ?_
 try simp only [jX, jD, jE, jF]
 refine jU 1 hHeld ?_
 try simp only [jX, jD, jE, jF]
 refine jU 2 hHeld ?_
 try simp only [jX, jD, jE, jF]
 refine' jT 3 rfl (by rfl) ?_ hHeld ?_
 rotate_left
 ·(intro w hSw; (try dsimp only at hSw); obtain ⟨kk, tw, lt⟩ := hSw; obtain ⟨c0, c1, c2, c3, c4⟩ := kk.gt.tops; have m1 : w.cell? ⟨bm, 1, none⟩ = some (Value.int IntKind.i64 (i : Int)) := at_cell kk.kp.b0 1; go_simp; try with_reducible rfl)
 try simp only [jX, jD, jE, jF]
 refine jU 4 hHeld ?_
 try simp only [jX, jD, jE, jF]
 refine' jT 5 rfl (by rfl) ?_ hHeld ?_
 rotate_left
 ·(intro w hSw; (try dsimp only at hSw); obtain ⟨kk, tw, lt⟩ := hSw; obtain ⟨c0, c1, c2, c3, c4⟩ := kk.gt.tops; have m1 : w.cell? ⟨bm, 1, none⟩ = some (Value.int IntKind.i64 (i : Int)) := at_cell kk.kp.b0 1; go_simp; try with_reducible rfl)
 try simp only [jX, jD, jE, jF]
 refine jU 6 hHeld ?_
 try simp only [jX, jD, jE, jF]
 refine jU 7 hHeld ?_
 try simp only [jX, jD, jE, jF]
 refine jR [8, 12] ?_
 refine jG rfl (fun K hK => ?_) (jG rfl (fun K hK => ?_) AllReadyH.nil)
 ·try simp only [jD, jE, jF]
  go_simp
  have hH2 := hHeld
  obtain ⟨kk, tw, lt⟩ := hH2
  refine (CK.out _ kk.gt.ring).mono ?_
  rintro e w1008 ⟨rfl, hg⟩
  have L8 := hid (show (Kg w F B G [(bm, msgObj ⟨2, (i : Int), gen, seq, epoch, value, metric⟩)] [] w1008) ∧ (TwoAt kb1 49 w1008) ∧ (kb1 < w1008.heap.size) from ⟨kk.grown hg, tw.grown hg, Nat.lt_of_lt_of_le lt hg.size⟩)
  clear hHeld hg kk tw lt
  go_wp2_with fail
  refine hK.out _ _ ?_ (fun hHeld => ?_)
  ·exact L8.out
  clear hK K
  try dsimp only at hHeld
  try simp only [jX, jD, jE, jF]
  refine jU 9 hHeld ?_
  try simp only [jX, jD, jE, jF]
  refine jU 10 hHeld ?_
  try simp only [jX, jD, jE, jF]
  refine jU 11 hHeld ?_
  try simp only [jX, jD, jE, jF]
  refine jR [12] ?_
  refine jG rfl (fun K hK => ?_) AllReadyH.nil
  have hH2 := hHeld
  obtain ⟨kk, tw, lt⟩ := hH2
  have hg : w1008.grownBy (w1008.alloc (keyObj 0#64 0#64)) none := World.grownBy_alloc _ _ _
  obtain ⟨nk, hnk⟩ : ∃ nk, w1008.heap.size = nk := ⟨_, rfl⟩
  have hnk0 : kb1 < nk ∧ w.heap.size ≤ nk ∧ bm ≠ nk := hnk ▸ ⟨lt, kk.size, by have := at_lt kk.kp.b0; omega⟩
  have L12 := hid (show (Kg w F B G [(bm, msgObj ⟨2, (i : Int), gen, seq, epoch, value, metric⟩)] [] (w1008.alloc (keyObj 0#64 0#64))) ∧ (TwoAt kb1 49 (w1008.alloc (keyObj 0#64 0#64))) ∧ (kb1 < (w1008.alloc (keyObj 0#64 0#64)).heap.size) from ⟨kk.grown hg, tw.grown hg, Nat.lt_of_lt_of_le lt hg.size⟩)
  have Nan := hid (show TwoAt nk 49 (w1008.alloc (keyObj 0#64 0#64)) from ⟨_, _, by rw [← hnk]; exact at_new w1008 _⟩)
  clear hHeld hg kk tw lt
  try simp only [jD, jE, jF]
  go_simp
  refine hK.out _ _ ?_ (fun hHeld => ?_)
  ·exact L12.out
  clear hK K
  try dsimp only at hHeld
  try simp only [jX, jD, jE, jF]
  refine held_stronger (S' := fun w' => (fun w' => TwoAt nk 49 w') w' ∧ ((fun w' => (Kg w F B G [(bm, msgObj ⟨2, (i : Int), gen, seq, epoch, value, metric⟩)] [] w') ∧ (TwoAt kb1 49 w') ∧ (kb1 < w'.heap.size))) w') (fun _ h => h.2) _ _ _ _ ?_
  replace hHeld := And.intro Nan.out hHeld
  try dsimp only at hHeld
  refine jR [13] ?_
  refine jG rfl (fun K hK => ?_) AllReadyH.nil
  have hH2 := hHeld
  obtain ⟨an, kk, tw, lt⟩ := hH2
  obtain ⟨xo, yo, hno⟩ := id an
  have L13 := hid (show (TwoAt nk 49 (((w1008.alloc (keyObj 0#64 0#64))).setRow nk #[.int .u64 (q ka), .int .u64 (q kb)])) ∧ (Kg w F B G [(bm, msgObj ⟨2, (i : Int), gen, seq, epoch, value, metric⟩)] [] (((w1008.alloc (keyObj 0#64 0#64))).setRow nk #[.int .u64 (q ka), .int .u64 (q kb)])) ∧ (TwoAt kb1 49 (((w1008.alloc (keyObj 0#64 0#64))).setRow nk #[.int .u64 (q ka), .int .u64 (q kb)])) ∧ (kb1 < (((w1008.alloc (keyObj 0#64 0#64))).setRow nk #[.int .u64 (q ka), .int .u64 (q kb)]).heap.size) from ⟨an.row _ _, kk.rowOther hnk0.2.1 (by simp [hnk0.2.2]) (by simp), tw.other (by have := hnk0.1; omega), (by simpa [World.setRow] using lt)⟩)
  have Nbx := hid (show (((w1008.alloc (keyObj 0#64 0#64))).setRow nk #[.int .u64 (q ka), .int .u64 (q kb)]).heap[nk]? = some (.cells #[.int .u64 (q ka), .int .u64 (q kb)] 49) from at_setRow hno)
  have A13 := hid (hno)
  clear hHeld an kk tw lt
  try simp only [jD, jE, jF]
  rw [if_pos (by rfl)]
  refine wp_store_row (cs := #[.int .u64 (q ka), .int .u64 (q kb)]) A13.out (by kernel_rfl) (by kernel_rfl) (by kernel_rfl) rfl rfl rfl rfl ?_
  refine hK.out _ _ ?_ (fun hHeld => ?_)
  ·exact L13.out
  clear hK K
  try dsimp only at hHeld
  try simp only [jX, jD, jE, jF]
  refine held_stronger (S' := fun w' => (fun w' => w'.heap[nk]? = some (.cells #[.int .u64 (q ka), .int .u64 (q kb)] 49)) w' ∧ ((fun w' => (TwoAt nk 49 w') ∧ (Kg w F B G [(bm, msgObj ⟨2, (i : Int), gen, seq, epoch, value, metric⟩)] [] w') ∧ (TwoAt kb1 49 w') ∧ (kb1 < w'.heap.size))) w') (fun _ h => h.2) _ _ _ _ ?_
  replace hHeld := And.intro Nbx.out hHeld
  try dsimp only at hHeld
  refine jU 14 hHeld ?_
  try simp only [jX, jD, jE, jF]
  refine wpAnyH_done (by kernel_rfl) ?_ _
  obtain ⟨bx, an, kk, tw, lt⟩ := hHeld
  refine exit_gen (fun wx => (Kg w F B G [(bm, msgObj ⟨2, (i : Int), gen, seq, epoch, value, metric⟩)] [] wx ∧ TwoAt kb1 49 wx) ∧ wx.heap[nk]? = some (.cells #[.int .u64 (q ka), .int .u64 (q kb)] 49)) ⟨⟨kk, tw⟩, bx⟩ ?_
  clear kk tw bx an lt
  rintro w3 ⟨⟨k3, t3⟩, b3⟩
  have K3 := hid k3; have T3 := hid t3; have X3 := hid b3; clear k3 t3 b3
  go_wp2_with fail
  refine wp_region_held_drew (S := (fun w' => (Kg w F B G [(bm, msgObj ⟨2, (i : Int), gen, seq, epoch, value, metric⟩)] [] w') ∧ (TwoAt kb1 49 w') ∧ (w'.heap[nk]? = some (.cells #[.int .u64 (q ka), .int .u64 (q kb)] 49)))) (by kernel_rfl) ⟨K3.out.drew, T3.out, X3.out⟩ (fun hHeld => ?_)
  try dsimp only at hHeld
  refine' jT 0 rfl (by rfl) ?_ hHeld ?_
  rotate_left
  ·(intro w hSw; (try dsimp only at hSw); (try simp only [jD, jE, jF]); refine exec_row (x := .tmp 11) hSw.2.2 Tryz.underlying49 rfl (by kernel_rfl) ?_ ?_ <;> rfl)
  try simp only [jX, jD, jE, jF]
  refine jU 1 hHeld ?_
  try simp only [jX, jD, jE, jF]
  refine jU 2 hHeld ?_
  try simp only [jX, jD, jE, jF]
  refine' jT 3 rfl (by rfl) ?_ hHeld ?_
  rotate_left
  ·(intro w hSw; (try dsimp only at hSw); obtain ⟨kk, tw, bx⟩ := hSw; have m1 : w.cell? ⟨bm, 1, none⟩ = some (Value.int IntKind.i64 (i : Int)) := at_cell kk.kp.b0 1; go_simp; try with_reducible rfl)
  try simp only [jX, jD, jE, jF]
  refine jR [4] ?_
  refine jG rfl (fun K hK => ?_) AllReadyH.nil
  try simp only [jD, jE, jF]
  go_simp
  have hH2 := hHeld
  obtain ⟨kk, tw, bx⟩ := hH2
  refine (CR.out _ kk.gt).mono ?_
  rintro e w1004 ⟨rfl, hg⟩
  have L4 := hid (show (Kg w F B G [(bm, msgObj ⟨2, (i : Int), gen, seq, epoch, value, metric⟩)] [] w1004) ∧ (TwoAt kb1 49 w1004) ∧ (w1004.heap[nk]? = some (.cells #[.int .u64 (q ka), .int .u64 (q kb)] 49)) from ⟨kk.grown hg, tw.grown hg, at_grown bx hg (by simp)⟩)
  clear hHeld hg kk tw bx
  go_wp2_with fail
  refine hK.out _ _ ?_ (fun hHeld => ?_)
  ·exact L4.out
  clear hK K
  try dsimp only at hHeld
  try simp only [jX, jD, jE, jF]
  refine jR [5] ?_
  refine jG rfl (fun K hK => ?_) AllReadyH.nil
  have hH2 := hHeld
  obtain ⟨kk, tw, bx⟩ := hH2
  obtain ⟨xo, yo, hno⟩ := id tw
  have L5 := hid (show (Kg w F B G [(bm, msgObj ⟨2, (i : Int), gen, seq, epoch, value, metric⟩)] [] ((w1004).setRow kb1 #[.int .u64 (q ka), .int .u64 (q kb)])) ∧ (TwoAt kb1 49 ((w1004).setRow kb1 #[.int .u64 (q ka), .int .u64 (q kb)])) ∧ (((w1004).setRow kb1 #[.int .u64 (q ka), .int .u64 (q kb)]).heap[nk]? = some (.cells #[.int .u64 (q ka), .int .u64 (q kb)] 49)) from ⟨kk.rowOther ZZ.out (by simp [NB.out]) (by simp), tw.row _ _, at_setRow_other bx (by have := hnk0.1; omega)⟩)
  have Nrs := hid (show ((w1004).setRow kb1 #[.int .u64 (q ka), .int .u64 (q kb)]).heap[kb1]? = some (.cells #[.int .u64 (q ka), .int .u64 (q kb)] 49) from at_setRow hno)
  have A5 := hid (hno)
  clear hHeld kk tw bx
  try simp only [jD, jE, jF]
  rw [if_pos (by rfl)]
  refine wp_store_row (cs := #[.int .u64 (q ka), .int .u64 (q kb)]) A5.out (by kernel_rfl) (by kernel_rfl) (by kernel_rfl) rfl rfl rfl rfl ?_
  refine hK.out _ _ ?_ (fun hHeld => ?_)
  ·exact L5.out
  clear hK K
  try dsimp only at hHeld
  try simp only [jX, jD, jE, jF]
  refine held_stronger (S' := fun w' => (fun w' => w'.heap[kb1]? = some (.cells #[.int .u64 (q ka), .int .u64 (q kb)] 49)) w' ∧ ((fun w' => (Kg w F B G [(bm, msgObj ⟨2, (i : Int), gen, seq, epoch, value, metric⟩)] [] w') ∧ (TwoAt kb1 49 w') ∧ (w'.heap[nk]? = some (.cells #[.int .u64 (q ka), .int .u64 (q kb)] 49)))) w') (fun _ h => h.2) _ _ _ _ ?_
  replace hHeld := And.intro Nrs.out hHeld
  try dsimp only at hHeld
  refine jU 6 hHeld ?_
  try simp only [jX, jD, jE, jF]
  refine jU 7 hHeld ?_
  try simp only [jX, jD, jE, jF]
  refine wpAnyH_done (by kernel_rfl) ?_ _
  obtain ⟨rs, kk, tw, bx⟩ := hHeld
  refine exit_gen (fun wx => wx.heap[kb1]? = some (.cells #[.int .u64 (q ka), .int .u64 (q kb)] 49) ∧ w.grownBy wx none) ⟨rs, kk.kp.g⟩ ?_
  clear kk tw bx rs
  rintro w4 ⟨rs4, g4⟩
  have r0 : w4.cell? ⟨kb1, 0, none⟩ = some (.int .u64 (q ka)) := at_cell rs4 0
  have r1 : w4.cell? ⟨kb1, 1, none⟩ = some (.int .u64 (q kb)) := at_cell rs4 1
  have G4 := hid g4; clear g4 rs4
  go_wp2_with fail
  exact bodyPost_ret (v := .tuple #[pair ka kb, .pointer (some ⟨B.A i, 0, none⟩), .int .i64 0]) (by simp [results, Tryz.results56, go_sem, r0, r1]) rfl ⟨rfl, G4.out⟩
 ·have hH2 := hHeld
  obtain ⟨kk, tw, lt⟩ := hH2
  have hg : w2.drew.grownBy (w2.drew.alloc (keyObj 0#64 0#64)) none := World.grownBy_alloc _ _ _
  obtain ⟨nk, hnk⟩ : ∃ nk, w2.drew.heap.size = nk := ⟨_, rfl⟩
  have hnk0 : kb1 < nk ∧ w.heap.size ≤ nk ∧ bm ≠ nk := hnk ▸ ⟨lt, kk.size, by have := at_lt kk.kp.b0; omega⟩
  have L12 := hid (show (Kg w F B G [(bm, msgObj ⟨2, (i : Int), gen, seq, epoch, value, metric⟩)] [] (w2.drew.alloc (keyObj 0#64 0#64))) ∧ (TwoAt kb1 49 (w2.drew.alloc (keyObj 0#64 0#64))) ∧ (kb1 < (w2.drew.alloc (keyObj 0#64 0#64)).heap.size) from ⟨kk.grown hg, tw.grown hg, Nat.lt_of_lt_of_le lt hg.size⟩)
  have Nan := hid (show TwoAt nk 49 (w2.drew.alloc (keyObj 0#64 0#64)) from ⟨_, _, by rw [← hnk]; exact at_new w2.drew _⟩)
  clear hHeld hg kk tw lt
  try simp only [jD, jE, jF]
  go_simp
  refine hK.out _ _ ?_ (fun hHeld => ?_)
  ·exact L12.out
  clear hK K
  try dsimp only at hHeld
  try simp only [jX, jD, jE, jF]
  refine held_stronger (S' := fun w' => (fun w' => TwoAt nk 49 w') w' ∧ ((fun w' => (Kg w F B G [(bm, msgObj ⟨2, (i : Int), gen, seq, epoch, value, metric⟩)] [] w') ∧ (TwoAt kb1 49 w') ∧ (kb1 < w'.heap.size))) w') (fun _ h => h.2) _ _ _ _ ?_
  replace hHeld := And.intro Nan.out hHeld
  try dsimp only at hHeld
  refine jR [8] ?_
  refine jG rfl (fun K hK => ?_) AllReadyH.nil
  try simp only [jD, jE, jF]
  go_simp
  have hH2 := hHeld
  obtain ⟨an, kk, tw, lt⟩ := hH2
  refine (CK.out _ kk.gt.ring).mono ?_
  rintro e w1008 ⟨rfl, hg⟩
  have L8 := hid (show (TwoAt nk 49 w1008) ∧ (Kg w F B G [(bm, msgObj ⟨2, (i : Int), gen, seq, epoch, value, metric⟩)] [] w1008) ∧ (TwoAt kb1 49 w1008) ∧ (kb1 < w1008.heap.size) from ⟨an.grown hg, kk.grown hg, tw.grown hg, Nat.lt_of_lt_of_le lt hg.size⟩)
  clear hHeld hg an kk tw lt
  go_wp2_with fail
  refine hK.out _ _ ?_ (fun hHeld => ?_)
  ·exact L8.out
  clear hK K
  try dsimp only at hHeld
  try simp only [jX, jD, jE, jF]
  refine jU 9 hHeld ?_
  try simp only [jX, jD, jE, jF]
  refine jU 10 hHeld ?_
  try simp only [jX, jD, jE, jF]
  refine jU 11 hHeld ?_
  try simp only [jX, jD, jE, jF]
  refine jR [13] ?_
  refine jG rfl (fun K hK => ?_) AllReadyH.nil
  have hH2 := hHeld
  obtain ⟨an, kk, tw, lt⟩ := hH2
  obtain ⟨xo, yo, hno⟩ := id an
  have L13 := hid (show (TwoAt nk 49 ((w1008).setRow nk #[.int .u64 (q ka), .int .u64 (q kb)])) ∧ (Kg w F B G [(bm, msgObj ⟨2, (i : Int), gen, seq, epoch, value, metric⟩)] [] ((w1008).setRow nk #[.int .u64 (q ka), .int .u64 (q kb)])) ∧ (TwoAt kb1 49 ((w1008).setRow nk #[.int .u64 (q ka), .int .u64 (q kb)])) ∧ (kb1 < ((w1008).setRow nk #[.int .u64 (q ka), .int .u64 (q kb)]).heap.size) from ⟨an.row _ _, kk.rowOther hnk0.2.1 (by simp [hnk0.2.2]) (by simp), tw.other (by have := hnk0.1; omega), (by simpa [World.setRow] using lt)⟩)
  have Nbx := hid (show ((w1008).setRow nk #[.int .u64 (q ka), .int .u64 (q kb)]).heap[nk]? = some (.cells #[.int .u64 (q ka), .int .u64 (q kb)] 49) from at_setRow hno)
  have A13 := hid (hno)
  clear hHeld an kk tw lt
  try simp only [jD, jE, jF]
  rw [if_pos (by rfl)]
  refine wp_store_row (cs := #[.int .u64 (q ka), .int .u64 (q kb)]) A13.out (by kernel_rfl) (by kernel_rfl) (by kernel_rfl) rfl rfl rfl rfl ?_
  refine hK.out _ _ ?_ (fun hHeld => ?_)
  ·exact L13.out
  clear hK K
  try dsimp only at hHeld
  try simp only [jX, jD, jE, jF]
  refine held_stronger (S' := fun w' => (fun w' => w'.heap[nk]? = some (.cells #[.int .u64 (q ka), .int .u64 (q kb)] 49)) w' ∧ ((fun w' => (TwoAt nk 49 w') ∧ (Kg w F B G [(bm, msgObj ⟨2, (i : Int), gen, seq, epoch, value, metric⟩)] [] w') ∧ (TwoAt kb1 49 w') ∧ (kb1 < w'.heap.size))) w') (fun _ h => h.2) _ _ _ _ ?_
  replace hHeld := And.intro Nbx.out hHeld
  try dsimp only at hHeld
  refine jU 14 hHeld ?_
  try simp only [jX, jD, jE, jF]
  refine wpAnyH_done (by kernel_rfl) ?_ _
  obtain ⟨bx, an, kk, tw, lt⟩ := hHeld
  refine exit_gen (fun wx => (Kg w F B G [(bm, msgObj ⟨2, (i : Int), gen, seq, epoch, value, metric⟩)] [] wx ∧ TwoAt kb1 49 wx) ∧ wx.heap[nk]? = some (.cells #[.int .u64 (q ka), .int .u64 (q kb)] 49)) ⟨⟨kk, tw⟩, bx⟩ ?_
  clear kk tw bx an lt
  rintro w3 ⟨⟨k3, t3⟩, b3⟩
  have K3 := hid k3; have T3 := hid t3; have X3 := hid b3; clear k3 t3 b3
  go_wp2_with fail
  refine wp_region_held_drew (S := (fun w' => (Kg w F B G [(bm, msgObj ⟨2, (i : Int), gen, seq, epoch, value, metric⟩)] [] w') ∧ (TwoAt kb1 49 w') ∧ (w'.heap[nk]? = some (.cells #[.int .u64 (q ka), .int .u64 (q kb)] 49)))) (by kernel_rfl) ⟨K3.out.drew, T3.out, X3.out⟩ (fun hHeld => ?_)
  try dsimp only at hHeld
  refine' jT 0 rfl (by rfl) ?_ hHeld ?_
  rotate_left
  ·(intro w hSw; (try dsimp only at hSw); (try simp only [jD, jE, jF]); refine exec_row (x := .tmp 11) hSw.2.2 Tryz.underlying49 rfl (by kernel_rfl) ?_ ?_ <;> rfl)
  try simp only [jX, jD, jE, jF]
  refine jU 1 hHeld ?_
  try simp only [jX, jD, jE, jF]
  refine jU 2 hHeld ?_
  try simp only [jX, jD, jE, jF]
  refine' jT 3 rfl (by rfl) ?_ hHeld ?_
  rotate_left
  ·(intro w hSw; (try dsimp only at hSw); obtain ⟨kk, tw, bx⟩ := hSw; have m1 : w.cell? ⟨bm, 1, none⟩ = some (Value.int IntKind.i64 (i : Int)) := at_cell kk.kp.b0 1; go_simp; try with_reducible rfl)
  try simp only [jX, jD, jE, jF]
  refine jR [4] ?_
  refine jG rfl (fun K hK => ?_) AllReadyH.nil
  try simp only [jD, jE, jF]
  go_simp
  have hH2 := hHeld
  obtain ⟨kk, tw, bx⟩ := hH2
  refine (CR.out _ kk.gt).mono ?_
  rintro e w1004 ⟨rfl, hg⟩
  have L4 := hid (show (Kg w F B G [(bm, msgObj ⟨2, (i : Int), gen, seq, epoch, value, metric⟩)] [] w1004) ∧ (TwoAt kb1 49 w1004) ∧ (w1004.heap[nk]? = some (.cells #[.int .u64 (q ka), .int .u64 (q kb)] 49)) from ⟨kk.grown hg, tw.grown hg, at_grown bx hg (by simp)⟩)
  clear hHeld hg kk tw bx
  go_wp2_with fail
  refine hK.out _ _ ?_ (fun hHeld => ?_)
  ·exact L4.out
  clear hK K
  try dsimp only at hHeld
  try simp only [jX, jD, jE, jF]
  refine jR [5] ?_
  refine jG rfl (fun K hK => ?_) AllReadyH.nil
  have hH2 := hHeld
  obtain ⟨kk, tw, bx⟩ := hH2
  obtain ⟨xo, yo, hno⟩ := id tw
  have L5 := hid (show (Kg w F B G [(bm, msgObj ⟨2, (i : Int), gen, seq, epoch, value, metric⟩)] [] ((w1004).setRow kb1 #[.int .u64 (q ka), .int .u64 (q kb)])) ∧ (TwoAt kb1 49 ((w1004).setRow kb1 #[.int .u64 (q ka), .int .u64 (q kb)])) ∧ (((w1004).setRow kb1 #[.int .u64 (q ka), .int .u64 (q kb)]).heap[nk]? = some (.cells #[.int .u64 (q ka), .int .u64 (q kb)] 49)) from ⟨kk.rowOther ZZ.out (by simp [NB.out]) (by simp), tw.row _ _, at_setRow_other bx (by have := hnk0.1; omega)⟩)
  have Nrs := hid (show ((w1004).setRow kb1 #[.int .u64 (q ka), .int .u64 (q kb)]).heap[kb1]? = some (.cells #[.int .u64 (q ka), .int .u64 (q kb)] 49) from at_setRow hno)
  have A5 := hid (hno)
  clear hHeld kk tw bx
  try simp only [jD, jE, jF]
  rw [if_pos (by rfl)]
  refine wp_store_row (cs := #[.int .u64 (q ka), .int .u64 (q kb)]) A5.out (by kernel_rfl) (by kernel_rfl) (by kernel_rfl) rfl rfl rfl rfl ?_
  refine hK.out _ _ ?_ (fun hHeld => ?_)
  ·exact L5.out
  clear hK K
  try dsimp only at hHeld
  try simp only [jX, jD, jE, jF]
  refine held_stronger (S' := fun w' => (fun w' => w'.heap[kb1]? = some (.cells #[.int .u64 (q ka), .int .u64 (q kb)] 49)) w' ∧ ((fun w' => (Kg w F B G [(bm, msgObj ⟨2, (i : Int), gen, seq, epoch, value, metric⟩)] [] w') ∧ (TwoAt kb1 49 w') ∧ (w'.heap[nk]? = some (.cells #[.int .u64 (q ka), .int .u64 (q kb)] 49)))) w') (fun _ h => h.2) _ _ _ _ ?_
  replace hHeld := And.intro Nrs.out hHeld
  try dsimp only at hHeld
  refine jU 6 hHeld ?_
  try simp only [jX, jD, jE, jF]
  refine jU 7 hHeld ?_
  try simp only [jX, jD, jE, jF]
  refine wpAnyH_done (by kernel_rfl) ?_ _
  obtain ⟨rs, kk, tw, bx⟩ := hHeld
  refine exit_gen (fun wx => wx.heap[kb1]? = some (.cells #[.int .u64 (q ka), .int .u64 (q kb)] 49) ∧ w.grownBy wx none) ⟨rs, kk.kp.g⟩ ?_
  clear kk tw bx rs
  rintro w4 ⟨rs4, g4⟩
  have r0 : w4.cell? ⟨kb1, 0, none⟩ = some (.int .u64 (q ka)) := at_cell rs4 0
  have r1 : w4.cell? ⟨kb1, 1, none⟩ = some (.int .u64 (q kb)) := at_cell rs4 1
  have G4 := hid g4; clear g4 rs4
  go_wp2_with fail
  exact bodyPost_ret (v := .tuple #[pair ka kb, .pointer (some ⟨B.A i, 0, none⟩), .int .i64 0]) (by simp [results, Tryz.results56, go_sem, r0, r1]) rfl ⟨rfl, G4.out⟩
set_option maxHeartbeats 3200000 in
theorem gsealer_rno {F : List Nat} {B : GBl} {G : Gt} {gen seq epoch value metric : Int} (i : Nat) (now : Int) (w : World) (K : GtAt w F B G) (hi : i < G.r.n) (g0 : 0 ≤ gen) (g1 : gen ≤ 60000) (hkey : ¬ G.r.keyIs i (gen - 1) now) (hs : (gen - 1) = G.r.gen i) :
  Calls Tryz.prog 56 #[.pointer (some ⟨B.g, 0, none⟩), mg ⟨2, (i : Int), gen, seq, epoch, value, metric⟩, .int .i64 now] w fun e w' => e = .returned (.tuple #[.agg #[.int .u64 0, .int .u64 0], .pointer none, .int .i64 4]) ∧ w.grownBy w' none := by
 have K0 := hid (((kg_start K).alloc (msgObj ⟨2, (i : Int), gen, seq, epoch, value, metric⟩)).alloc (keyObj 0#64 0#64))
 rw [size_alloc] at K0
 have hn : i < G.r.n := hi
 have CG := hid (fun u (k : RgAt u B.rb B.rh G.r) => rgen_in i u k hi)
 have CK := hid (fun u (k : RgAt u B.rb B.rh G.r) => rkey_any (i : Int) (gen - 1) now u k)
 have hin : 0 ≤ (i : Int) ∧ (i : Int) < (G.r.n : Int) := by omega
 have hKE : G.r.key (i : Int) (gen - 1) now = (⟨0, 0⟩, 4) := by unfold Rg.key; rw [if_pos hin, if_neg (by simpa using hkey)]
 rw [hKE] at CK
 simp only [keyVal] at CK
 have CR := hid (fun u (k : GtAt u F B G) => gold_in i u k hi)
 clear hi hin K
 have ds : ((gen - 1) != G.r.gen i) = false := by simpa using hs
 clear hs
 obtain ⟨sg, hsg⟩ : ∃ sg, sg = gen - 1 := ⟨_, rfl⟩
 rw [← hsg] at ds CK
 have sub : IntKind.i64.wrap (gen - 1) = sg := by rw [hsg]; exact IntWalk.i64_in _ (by omega)
 clear hsg
 generalize G.r.gen i = gn at *
 have HK0 := hid K0.out
 go_enter Tryz.func56, Tryz.ntmps56
 go_upto_region 1 with fail
 refine wp_gen (fun wx => Kg w F B G [(w.heap.size + 1, keyObj 0#64 0#64), (w.heap.size, msgObj ⟨2, (i : Int), gen, seq, epoch, value, metric⟩)] [] wx) K0.out ?_
 clear K0 HK0
 have z0 : w.heap.size ≤ w.heap.size + 1 := Nat.le_succ _
 have z1 : w.heap.size ≠ w.heap.size + 1 := by omega
 have zz := And.intro z0 z1; clear z0 z1
 generalize w.heap.size + 1 = kb1 at *
 have lb := Nat.le_refl w.heap.size
 generalize hbm : w.heap.size = bm at zz lb ⊢
 have ZZ : Hid (w.heap.size ≤ kb1) := hid (hbm ▸ zz.1)
 have NB : Hid (bm ≠ kb1) := hid zz.2
 clear zz lb
 intro w1 h1
 have K1 := hid h1; clear h1
 have m0 : w1.cell? ⟨bm, 0, none⟩ = some (.int .i64 2) := at_cell K1.out.kp.b1 0
 have m1 : w1.cell? ⟨bm, 1, none⟩ = some (.int .i64 (i : Int)) := at_cell K1.out.kp.b1 1
 have m2 : w1.cell? ⟨bm, 2, none⟩ = some (.int .i64 gen) := at_cell K1.out.kp.b1 2
 obtain ⟨c0, c1, c2, c3, c4⟩ := K1.out.gt.tops
 go_quiet ((go_at_call 25; exact Calls.quiet_of_same (still_of (CG.out _ (K1.out.gt.ring.grown (gb_drewQ w1 _))))))
 go_wp2_with fail
 clear m0 m1 m2 c0 c1 c2 c3 c4
 have lt1 := at_lt K1.out.kp.b0
 refine wp_gen (fun wx => (Kg w F B G [(bm, msgObj ⟨2, (i : Int), gen, seq, epoch, value, metric⟩)] [] wx ∧ TwoAt kb1 49 wx) ∧ kb1 < wx.heap.size) ⟨⟨(K1.out.tail).grown (gb_drewQ w1 _), ⟨_, _, at_grown K1.out.kp.b0 (gb_drewQ w1 _) (by simp)⟩⟩, lt1⟩ ?_
 clear K1 lt1
 rintro w2 ⟨⟨k2, tw2⟩, l2⟩
 have K2 := hid k2; have T2 := hid tw2; have L2 := hid l2; clear k2 tw2 l2
 refine wp_region_held_drew (S := (fun w' => (Kg w F B G [(bm, msgObj ⟨2, (i : Int), gen, seq, epoch, value, metric⟩)] [] w') ∧ (TwoAt kb1 49 w') ∧ (kb1 < w'.heap.size))) (by kernel_rfl) ⟨K2.out.drew, T2.out, L2.out⟩ (fun hHeld => ?_)
 try dsimp only at hHeld
 refine jU 0 hHeld ?_
 try simp only [jX, jD, jE, jF]
 refine jU 1 hHeld ?_
 try simp only [jX, jD, jE, jF]
 refine jU 2 hHeld ?_
 try simp only [jX, jD, jE, jF]
 refine' jT 3 rfl (by rfl) ?_ hHeld ?_
 rotate_left
 ·(intro w hSw; (try dsimp only at hSw); obtain ⟨kk, tw, lt⟩ := hSw; obtain ⟨c0, c1, c2, c3, c4⟩ := kk.gt.tops; have m1 : w.cell? ⟨bm, 1, none⟩ = some (Value.int IntKind.i64 (i : Int)) := at_cell kk.kp.b0 1; go_simp; try with_reducible rfl)
 try simp only [jX, jD, jE, jF]
 refine jU 4 hHeld ?_
 try simp only [jX, jD, jE, jF]
 refine' jT 5 rfl (by rfl) ?_ hHeld ?_
 rotate_left
 ·(intro w hSw; (try dsimp only at hSw); obtain ⟨kk, tw, lt⟩ := hSw; obtain ⟨c0, c1, c2, c3, c4⟩ := kk.gt.tops; have m1 : w.cell? ⟨bm, 1, none⟩ = some (Value.int IntKind.i64 (i : Int)) := at_cell kk.kp.b0 1; go_simp; try with_reducible rfl)
 try simp only [jX, jD, jE, jF]
 refine jU 6 hHeld ?_
 try simp only [jX, jD, jE, jF]
 refine jU 7 hHeld ?_
 try simp only [jX, jD, jE, jF]
 refine jR [8, 12] ?_
 refine jG rfl (fun K hK => ?_) (jG rfl (fun K hK => ?_) AllReadyH.nil)
 ·try simp only [jD, jE, jF]
  go_simp
  have hH2 := hHeld
  obtain ⟨kk, tw, lt⟩ := hH2
  refine (CK.out _ kk.gt.ring).mono ?_
  rintro e w1008 ⟨rfl, hg⟩
  have L8 := hid (show (Kg w F B G [(bm, msgObj ⟨2, (i : Int), gen, seq, epoch, value, metric⟩)] [] w1008) ∧ (TwoAt kb1 49 w1008) ∧ (kb1 < w1008.heap.size) from ⟨kk.grown hg, tw.grown hg, Nat.lt_of_lt_of_le lt hg.size⟩)
  clear hHeld hg kk tw lt
  go_wp2_with fail
  refine hK.out _ _ ?_ (fun hHeld => ?_)
  ·exact L8.out
  clear hK K
  try dsimp only at hHeld
  try simp only [jX, jD, jE, jF]
  refine jU 9 hHeld ?_
  try simp only [jX, jD, jE, jF]
  refine jU 10 hHeld ?_
  try simp only [jX, jD, jE, jF]
  refine jU 11 hHeld ?_
  try simp only [jX, jD, jE, jF]
  refine jR [12] ?_
  refine jG rfl (fun K hK => ?_) AllReadyH.nil
  have hH2 := hHeld
  obtain ⟨kk, tw, lt⟩ := hH2
  have hg : w1008.grownBy (w1008.alloc (keyObj 0#64 0#64)) none := World.grownBy_alloc _ _ _
  obtain ⟨nk, hnk⟩ : ∃ nk, w1008.heap.size = nk := ⟨_, rfl⟩
  have hnk0 : kb1 < nk ∧ w.heap.size ≤ nk ∧ bm ≠ nk := hnk ▸ ⟨lt, kk.size, by have := at_lt kk.kp.b0; omega⟩
  have L12 := hid (show (Kg w F B G [(bm, msgObj ⟨2, (i : Int), gen, seq, epoch, value, metric⟩)] [] (w1008.alloc (keyObj 0#64 0#64))) ∧ (TwoAt kb1 49 (w1008.alloc (keyObj 0#64 0#64))) ∧ (kb1 < (w1008.alloc (keyObj 0#64 0#64)).heap.size) from ⟨kk.grown hg, tw.grown hg, Nat.lt_of_lt_of_le lt hg.size⟩)
  have Nan := hid (show TwoAt nk 49 (w1008.alloc (keyObj 0#64 0#64)) from ⟨_, _, by rw [← hnk]; exact at_new w1008 _⟩)
  clear hHeld hg kk tw lt
  try simp only [jD, jE, jF]
  go_simp
  refine hK.out _ _ ?_ (fun hHeld => ?_)
  ·exact L12.out
  clear hK K
  try dsimp only at hHeld
  try simp only [jX, jD, jE, jF]
  refine held_stronger (S' := fun w' => (fun w' => TwoAt nk 49 w') w' ∧ ((fun w' => (Kg w F B G [(bm, msgObj ⟨2, (i : Int), gen, seq, epoch, value, metric⟩)] [] w') ∧ (TwoAt kb1 49 w') ∧ (kb1 < w'.heap.size))) w') (fun _ h => h.2) _ _ _ _ ?_
  replace hHeld := And.intro Nan.out hHeld
  try dsimp only at hHeld
  refine jR [13] ?_
  refine jG rfl (fun K hK => ?_) AllReadyH.nil
  have hH2 := hHeld
  obtain ⟨an, kk, tw, lt⟩ := hH2
  obtain ⟨xo, yo, hno⟩ := id an
  have L13 := hid (show (TwoAt nk 49 (((w1008.alloc (keyObj 0#64 0#64))).setRow nk #[.int .u64 0, .int .u64 0])) ∧ (Kg w F B G [(bm, msgObj ⟨2, (i : Int), gen, seq, epoch, value, metric⟩)] [] (((w1008.alloc (keyObj 0#64 0#64))).setRow nk #[.int .u64 0, .int .u64 0])) ∧ (TwoAt kb1 49 (((w1008.alloc (keyObj 0#64 0#64))).setRow nk #[.int .u64 0, .int .u64 0])) ∧ (kb1 < (((w1008.alloc (keyObj 0#64 0#64))).setRow nk #[.int .u64 0, .int .u64 0]).heap.size) from ⟨an.row _ _, kk.rowOther hnk0.2.1 (by simp [hnk0.2.2]) (by simp), tw.other (by have := hnk0.1; omega), (by simpa [World.setRow] using lt)⟩)
  have Nbx := hid (show (((w1008.alloc (keyObj 0#64 0#64))).setRow nk #[.int .u64 0, .int .u64 0]).heap[nk]? = some (.cells #[.int .u64 0, .int .u64 0] 49) from at_setRow hno)
  have A13 := hid (hno)
  clear hHeld an kk tw lt
  try simp only [jD, jE, jF]
  rw [if_pos (by rfl)]
  refine wp_store_row (cs := #[.int .u64 0, .int .u64 0]) A13.out (by kernel_rfl) (by kernel_rfl) (by kernel_rfl) rfl rfl rfl rfl ?_
  refine hK.out _ _ ?_ (fun hHeld => ?_)
  ·exact L13.out
  clear hK K
  try dsimp only at hHeld
  try simp only [jX, jD, jE, jF]
  refine held_stronger (S' := fun w' => (fun w' => w'.heap[nk]? = some (.cells #[.int .u64 0, .int .u64 0] 49)) w' ∧ ((fun w' => (TwoAt nk 49 w') ∧ (Kg w F B G [(bm, msgObj ⟨2, (i : Int), gen, seq, epoch, value, metric⟩)] [] w') ∧ (TwoAt kb1 49 w') ∧ (kb1 < w'.heap.size))) w') (fun _ h => h.2) _ _ _ _ ?_
  replace hHeld := And.intro Nbx.out hHeld
  try dsimp only at hHeld
  refine jU 14 hHeld ?_
  try simp only [jX, jD, jE, jF]
  refine wpAnyH_done (by kernel_rfl) ?_ _
  obtain ⟨bx, an, kk, tw, lt⟩ := hHeld
  refine exit_gen (fun wx => (Kg w F B G [(bm, msgObj ⟨2, (i : Int), gen, seq, epoch, value, metric⟩)] [] wx ∧ TwoAt kb1 49 wx) ∧ wx.heap[nk]? = some (.cells #[.int .u64 0, .int .u64 0] 49)) ⟨⟨kk, tw⟩, bx⟩ ?_
  clear kk tw bx an lt
  rintro w3 ⟨⟨k3, t3⟩, b3⟩
  have K3 := hid k3; have T3 := hid t3; have X3 := hid b3; clear k3 t3 b3
  obtain ⟨x0, y0, hx0⟩ := T3.out
  have c0 : w3.cell? ⟨kb1, 0, none⟩ = some x0 := at_cell hx0 0
  have c1 : w3.cell? ⟨kb1, 1, none⟩ = some y0 := at_cell hx0 1
  have f0 : w3.frozen? ⟨kb1, 0, none⟩ = false := at_free hx0 0
  have f1 : w3.frozen? ⟨kb1, 1, none⟩ = false := at_free hx0 1
  have HX := hid hx0; have HG := hid (K3.out.kp.g); clear hx0
  go_wp2_with fail
  clear c0 c1 f0 f1
  have h0 : ((w3.setCell ⟨kb1, 0, none⟩ (.int .u64 0)).setCell ⟨kb1, 1, none⟩ (.int .u64 0)).heap[kb1]? = some (.cells #[.int .u64 0, .int .u64 0] 49) := by have := at_set (at_set HX.out 0 (.int .u64 0)) 1 (.int .u64 0); exact this
  have h1 : w.grownBy ((w3.setCell ⟨kb1, 0, none⟩ (.int .u64 0)).setCell ⟨kb1, 1, none⟩ (.int .u64 0)) none := gb_new (gb_new HG.out ZZ.out _) ZZ.out _
  generalize (w3.setCell ⟨kb1, 0, none⟩ (.int .u64 0)).setCell ⟨kb1, 1, none⟩ (.int .u64 0) = wx at h0 h1 ⊢
  have r0 : wx.cell? ⟨kb1, 0, none⟩ = some (.int .u64 0) := at_cell h0 0
  have r1 : wx.cell? ⟨kb1, 1, none⟩ = some (.int .u64 0) := at_cell h0 1
  exact bodyPost_ret (v := .tuple #[.agg #[.int .u64 0, .int .u64 0], .pointer none, .int .i64 4]) (by simp [results, Tryz.results56, go_sem, r0, r1]) rfl ⟨rfl, h1⟩
 ·have hH2 := hHeld
  obtain ⟨kk, tw, lt⟩ := hH2
  have hg : w2.drew.grownBy (w2.drew.alloc (keyObj 0#64 0#64)) none := World.grownBy_alloc _ _ _
  obtain ⟨nk, hnk⟩ : ∃ nk, w2.drew.heap.size = nk := ⟨_, rfl⟩
  have hnk0 : kb1 < nk ∧ w.heap.size ≤ nk ∧ bm ≠ nk := hnk ▸ ⟨lt, kk.size, by have := at_lt kk.kp.b0; omega⟩
  have L12 := hid (show (Kg w F B G [(bm, msgObj ⟨2, (i : Int), gen, seq, epoch, value, metric⟩)] [] (w2.drew.alloc (keyObj 0#64 0#64))) ∧ (TwoAt kb1 49 (w2.drew.alloc (keyObj 0#64 0#64))) ∧ (kb1 < (w2.drew.alloc (keyObj 0#64 0#64)).heap.size) from ⟨kk.grown hg, tw.grown hg, Nat.lt_of_lt_of_le lt hg.size⟩)
  have Nan := hid (show TwoAt nk 49 (w2.drew.alloc (keyObj 0#64 0#64)) from ⟨_, _, by rw [← hnk]; exact at_new w2.drew _⟩)
  clear hHeld hg kk tw lt
  try simp only [jD, jE, jF]
  go_simp
  refine hK.out _ _ ?_ (fun hHeld => ?_)
  ·exact L12.out
  clear hK K
  try dsimp only at hHeld
  try simp only [jX, jD, jE, jF]
  refine held_stronger (S' := fun w' => (fun w' => TwoAt nk 49 w') w' ∧ ((fun w' => (Kg w F B G [(bm, msgObj ⟨2, (i : Int), gen, seq, epoch, value, metric⟩)] [] w') ∧ (TwoAt kb1 49 w') ∧ (kb1 < w'.heap.size))) w') (fun _ h => h.2) _ _ _ _ ?_
  replace hHeld := And.intro Nan.out hHeld
  try dsimp only at hHeld
  refine jR [8] ?_
  refine jG rfl (fun K hK => ?_) AllReadyH.nil
  try simp only [jD, jE, jF]
  go_simp
  have hH2 := hHeld
  obtain ⟨an, kk, tw, lt⟩ := hH2
  refine (CK.out _ kk.gt.ring).mono ?_
  rintro e w1008 ⟨rfl, hg⟩
  have L8 := hid (show (TwoAt nk 49 w1008) ∧ (Kg w F B G [(bm, msgObj ⟨2, (i : Int), gen, seq, epoch, value, metric⟩)] [] w1008) ∧ (TwoAt kb1 49 w1008) ∧ (kb1 < w1008.heap.size) from ⟨an.grown hg, kk.grown hg, tw.grown hg, Nat.lt_of_lt_of_le lt hg.size⟩)
  clear hHeld hg an kk tw lt
  go_wp2_with fail
  refine hK.out _ _ ?_ (fun hHeld => ?_)
  ·exact L8.out
  clear hK K
  try dsimp only at hHeld
  try simp only [jX, jD, jE, jF]
  refine jU 9 hHeld ?_
  try simp only [jX, jD, jE, jF]
  refine jU 10 hHeld ?_
  try simp only [jX, jD, jE, jF]
  refine jU 11 hHeld ?_
  try simp only [jX, jD, jE, jF]
  refine jR [13] ?_
  refine jG rfl (fun K hK => ?_) AllReadyH.nil
  have hH2 := hHeld
  obtain ⟨an, kk, tw, lt⟩ := hH2
  obtain ⟨xo, yo, hno⟩ := id an
  have L13 := hid (show (TwoAt nk 49 ((w1008).setRow nk #[.int .u64 0, .int .u64 0])) ∧ (Kg w F B G [(bm, msgObj ⟨2, (i : Int), gen, seq, epoch, value, metric⟩)] [] ((w1008).setRow nk #[.int .u64 0, .int .u64 0])) ∧ (TwoAt kb1 49 ((w1008).setRow nk #[.int .u64 0, .int .u64 0])) ∧ (kb1 < ((w1008).setRow nk #[.int .u64 0, .int .u64 0]).heap.size) from ⟨an.row _ _, kk.rowOther hnk0.2.1 (by simp [hnk0.2.2]) (by simp), tw.other (by have := hnk0.1; omega), (by simpa [World.setRow] using lt)⟩)
  have Nbx := hid (show ((w1008).setRow nk #[.int .u64 0, .int .u64 0]).heap[nk]? = some (.cells #[.int .u64 0, .int .u64 0] 49) from at_setRow hno)
  have A13 := hid (hno)
  clear hHeld an kk tw lt
  try simp only [jD, jE, jF]
  rw [if_pos (by rfl)]
  refine wp_store_row (cs := #[.int .u64 0, .int .u64 0]) A13.out (by kernel_rfl) (by kernel_rfl) (by kernel_rfl) rfl rfl rfl rfl ?_
  refine hK.out _ _ ?_ (fun hHeld => ?_)
  ·exact L13.out
  clear hK K
  try dsimp only at hHeld
  try simp only [jX, jD, jE, jF]
  refine held_stronger (S' := fun w' => (fun w' => w'.heap[nk]? = some (.cells #[.int .u64 0, .int .u64 0] 49)) w' ∧ ((fun w' => (TwoAt nk 49 w') ∧ (Kg w F B G [(bm, msgObj ⟨2, (i : Int), gen, seq, epoch, value, metric⟩)] [] w') ∧ (TwoAt kb1 49 w') ∧ (kb1 < w'.heap.size))) w') (fun _ h => h.2) _ _ _ _ ?_
  replace hHeld := And.intro Nbx.out hHeld
  try dsimp only at hHeld
  refine jU 14 hHeld ?_
  try simp only [jX, jD, jE, jF]
  refine wpAnyH_done (by kernel_rfl) ?_ _
  obtain ⟨bx, an, kk, tw, lt⟩ := hHeld
  refine exit_gen (fun wx => (Kg w F B G [(bm, msgObj ⟨2, (i : Int), gen, seq, epoch, value, metric⟩)] [] wx ∧ TwoAt kb1 49 wx) ∧ wx.heap[nk]? = some (.cells #[.int .u64 0, .int .u64 0] 49)) ⟨⟨kk, tw⟩, bx⟩ ?_
  clear kk tw bx an lt
  rintro w3 ⟨⟨k3, t3⟩, b3⟩
  have K3 := hid k3; have T3 := hid t3; have X3 := hid b3; clear k3 t3 b3
  obtain ⟨x0, y0, hx0⟩ := T3.out
  have c0 : w3.cell? ⟨kb1, 0, none⟩ = some x0 := at_cell hx0 0
  have c1 : w3.cell? ⟨kb1, 1, none⟩ = some y0 := at_cell hx0 1
  have f0 : w3.frozen? ⟨kb1, 0, none⟩ = false := at_free hx0 0
  have f1 : w3.frozen? ⟨kb1, 1, none⟩ = false := at_free hx0 1
  have HX := hid hx0; have HG := hid (K3.out.kp.g); clear hx0
  go_wp2_with fail
  clear c0 c1 f0 f1
  have h0 : ((w3.setCell ⟨kb1, 0, none⟩ (.int .u64 0)).setCell ⟨kb1, 1, none⟩ (.int .u64 0)).heap[kb1]? = some (.cells #[.int .u64 0, .int .u64 0] 49) := by have := at_set (at_set HX.out 0 (.int .u64 0)) 1 (.int .u64 0); exact this
  have h1 : w.grownBy ((w3.setCell ⟨kb1, 0, none⟩ (.int .u64 0)).setCell ⟨kb1, 1, none⟩ (.int .u64 0)) none := gb_new (gb_new HG.out ZZ.out _) ZZ.out _
  generalize (w3.setCell ⟨kb1, 0, none⟩ (.int .u64 0)).setCell ⟨kb1, 1, none⟩ (.int .u64 0) = wx at h0 h1 ⊢
  have r0 : wx.cell? ⟨kb1, 0, none⟩ = some (.int .u64 0) := at_cell h0 0
  have r1 : wx.cell? ⟨kb1, 1, none⟩ = some (.int .u64 0) := at_cell h0 1
  exact bodyPost_ret (v := .tuple #[.agg #[.int .u64 0, .int .u64 0], .pointer none, .int .i64 4]) (by simp [results, Tryz.results56, go_sem, r0, r1]) rfl ⟨rfl, h1⟩
set_option maxHeartbeats 3200000 in
theorem gsealer_rgen {F : List Nat} {B : GBl} {G : Gt} {gen seq epoch value metric : Int} (i : Nat) (now : Int) (w : World) (K : GtAt w F B G) (hi : i < G.r.n) (g0 : 0 ≤ gen) (g1 : gen ≤ 60000) (hs : (gen - 1) ≠ G.r.gen i) :
  Calls Tryz.prog 56 #[.pointer (some ⟨B.g, 0, none⟩), mg ⟨2, (i : Int), gen, seq, epoch, value, metric⟩, .int .i64 now] w fun e w' => e = .returned (.tuple #[.agg #[.int .u64 0, .int .u64 0], .pointer none, .int .i64 4]) ∧ w.grownBy w' none := by
 have K0 := hid (((kg_start K).alloc (msgObj ⟨2, (i : Int), gen, seq, epoch, value, metric⟩)).alloc (keyObj 0#64 0#64))
 rw [size_alloc] at K0
 have hn : i < G.r.n := hi
 have CG := hid (fun u (k : RgAt u B.rb B.rh G.r) => rgen_in i u k hi)
 have CK := hid (fun u (k : RgAt u B.rb B.rh G.r) => rkey_any (i : Int) (gen - 1) now u k)
 have hin : 0 ≤ (i : Int) ∧ (i : Int) < (G.r.n : Int) := by omega
 have CR := hid (fun u (k : GtAt u F B G) => gold_in i u k hi)
 clear hi hin K
 have ds : ((gen - 1) != G.r.gen i) = true := by simpa using hs
 clear hs
 obtain ⟨sg, hsg⟩ : ∃ sg, sg = gen - 1 := ⟨_, rfl⟩
 rw [← hsg] at ds CK
 have sub : IntKind.i64.wrap (gen - 1) = sg := by rw [hsg]; exact IntWalk.i64_in _ (by omega)
 clear hsg
 generalize G.r.gen i = gn at *
 have HK0 := hid K0.out
 go_enter Tryz.func56, Tryz.ntmps56
 go_upto_region 1 with fail
 refine wp_gen (fun wx => Kg w F B G [(w.heap.size + 1, keyObj 0#64 0#64), (w.heap.size, msgObj ⟨2, (i : Int), gen, seq, epoch, value, metric⟩)] [] wx) K0.out ?_
 clear K0 HK0
 have z0 : w.heap.size ≤ w.heap.size + 1 := Nat.le_succ _
 have z1 : w.heap.size ≠ w.heap.size + 1 := by omega
 have zz := And.intro z0 z1; clear z0 z1
 generalize w.heap.size + 1 = kb1 at *
 have lb := Nat.le_refl w.heap.size
 generalize hbm : w.heap.size = bm at zz lb ⊢
 have ZZ : Hid (w.heap.size ≤ kb1) := hid (hbm ▸ zz.1)
 have NB : Hid (bm ≠ kb1) := hid zz.2
 clear zz lb
 intro w1 h1
 have K1 := hid h1; clear h1
 have m0 : w1.cell? ⟨bm, 0, none⟩ = some (.int .i64 2) := at_cell K1.out.kp.b1 0
 have m1 : w1.cell? ⟨bm, 1, none⟩ = some (.int .i64 (i : Int)) := at_cell K1.out.kp.b1 1
 have m2 : w1.cell? ⟨bm, 2, none⟩ = some (.int .i64 gen) := at_cell K1.out.kp.b1 2
 obtain ⟨c0, c1, c2, c3, c4⟩ := K1.out.gt.tops
 go_quiet ((go_at_call 25; exact Calls.quiet_of_same (still_of (CG.out _ (K1.out.gt.ring.grown (gb_drewQ w1 _))))))
 clear m1 m2 c0 c1 c2 c3 c4
 generalize hw2 : w1.drewN _ = w2
 have m0' : w2.cell? ⟨bm, 0, none⟩ = some (.int .i64 2) := hw2 ▸ m0
 clear m0
 obtain ⟨x0, y0, hx0⟩ := show TwoAt kb1 49 w2 from hw2 ▸ (⟨_, _, at_grown K1.out.kp.b0 (gb_drewQ w1 _) (by simp)⟩ : TwoAt kb1 49 (w1.drewN _))
 have c0 : w2.cell? ⟨kb1, 0, none⟩ = some x0 := at_cell hx0 0
 have c1 : w2.cell? ⟨kb1, 1, none⟩ = some y0 := at_cell hx0 1
 have f0 : w2.frozen? ⟨kb1, 0, none⟩ = false := at_free hx0 0
 have f1 : w2.frozen? ⟨kb1, 1, none⟩ = false := at_free hx0 1
 have HX := hid hx0; have HG := hid (show w.grownBy w2 none from hw2 ▸ (K1.out.grown (gb_drewQ w1 _)).kp.g); clear hx0
 go_wp2_with fail
 clear c0 c1 f0 f1
 have h0 : ((w2.setCell ⟨kb1, 0, none⟩ (.int .u64 0)).setCell ⟨kb1, 1, none⟩ (.int .u64 0)).heap[kb1]? = some (.cells #[.int .u64 0, .int .u64 0] 49) := by have := at_set (at_set HX.out 0 (.int .u64 0)) 1 (.int .u64 0); exact this
 have h1 : w.grownBy ((w2.setCell ⟨kb1, 0, none⟩ (.int .u64 0)).setCell ⟨kb1, 1, none⟩ (.int .u64 0)) none := gb_new (gb_new HG.out ZZ.out _) ZZ.out _
 generalize (w2.setCell ⟨kb1, 0, none⟩ (.int .u64 0)).setCell ⟨kb1, 1, none⟩ (.int .u64 0) = wx at h0 h1 ⊢
 have r0 : wx.cell? ⟨kb1, 0, none⟩ = some (.int .u64 0) := at_cell h0 0
 have r1 : wx.cell? ⟨kb1, 1, none⟩ = some (.int .u64 0) := at_cell h0 1
 exact bodyPost_ret (v := .tuple #[.agg #[.int .u64 0, .int .u64 0], .pointer none, .int .i64 4]) (by simp [results, Tryz.results56, go_sem, r0, r1]) rfl ⟨rfl, h1⟩
end Go.Proofs.YtgpdcapnnejdeaaGreat
