/-
  The walk of the statement ConfOne: one that may be, with one part beyond its bounds, is wrong by that part's name. The condition: the numbers read as a list.
-/
import Derived.Test.YtabfeaifbjfdoaaCfFine
set_option linter.unusedSimpArgs false
namespace Go.Proofs.Ytabfeaifbjfdoaa.one
set_option maxRecDepth 100000
open Go.RowKit

/-- what the law lays: the names, the configuration -/
structure Ols (w0 : World) (A x : Nat) (c : Conf) (w : World) : Prop where
  hA : w.heap[A]? = some (.cells nmCells 9)
  cx : Cfx w0 x c w
theorem Ols.grown {w0 w1 w2 : World} {A x : Nat} {c : Conf} (h : Ols w0 A x c w1) (hg : w1.grownBy w2 none) : Ols w0 A x c w2 := ⟨at_grown h.hA hg (by simp), h.cx.grown hg⟩
theorem Ols.drew {w0 w1 : World} {A x : Nat} {c : Conf} (h : Ols w0 A x c w1) : Ols w0 A x c w1.drew := ⟨h.hA, h.cx.drew⟩

set_option maxHeartbeats 6400000 in
theorem walk (l : List Int) {p : Option Addr} {cap : Nat} (part : Int) (low : Bool) {w : World} (hl : IntsAt w (.slice p l.length cap) l) :
    Calls Try.prog 5 #[.slice p l.length cap, .int .i64 part, .bool low] w fun e w' => e = .returned (.bool true) ∧ w.grownBy w' none := by
  have HF := hid (fit_any l p cap w hl); clear hl
  go_enter Try.func5, Try.ntmps5
  go_wp2_with fail
  refine HF.out.mono ?_
  rintro e w1 ⟨c, rfl, hfine, hg⟩
  have G1 := hid hg; have FN := hid hfine; clear hg HF hfine
  go_wp2_with (first | refine wpList_store_new (w := w1) (cs := c.cells) rfl (by kernel_rfl) (by kernel_rfl) (by kernel_rfl) rfl rfl rfl rfl rfl ?_ | refine wpList_conf (c := c) (at_new w1 _) rfl rfl rfl rfl ?_)
  have hM := may_any c (w1.alloc (.cells c.cells 27))
  rw [fine_none FN.out] at hM
  refine hM.mono ?_
  rintro e w2 ⟨rfl, hg⟩
  have C2 := hid ((cfx_new c G1.out).grown hg); clear hg hM
  have hlow : w.heap.size ≤ w1.heap.size := gb_size G1.out
  clear G1
  generalize w1.heap.size = x at hlow C2 ⊢
  have hb0 : ((none : Option ByteArray).getD ⟨#[]⟩).toList.isEmpty = true := by decide +kernel
  rw [hb0]
  clear hb0
  go_upto_region 5 with (first | refine Great.wpList_buildSliceTo rfl 22 9 22 _ rfl w2.heap.size rfl _ rfl Try.underlying22 nmCells (by kernel_rfl) ?_)
  have O2 := hid (show Ols w w2.heap.size x c (w2.alloc (.cells nmCells 9)) from ⟨at_new w2 _, C2.out.grown (World.grownBy_alloc w2 _ none)⟩)
  refine wp_gen (Ols w w2.heap.size x c) O2.out ?_
  clear O2 C2
  generalize w2.heap.size = A
  intro w3 h3
  have O3 := hid h3; clear h3
  obtain ⟨k, hk, ek⟩ := umod_small part 22 (by omega)
  have ek' : (IntKind.u64.wrap part).tmod 22 = (k : Int) := ek
  clear ek
  have k0 : (0 : Int) ≤ (k : Int) := by omega
  have k1 : (k : Int) < 22 := by omega
  have hlen : IntKind.u64.wrap 22 = 22 := by decide +kernel
  go_upto_region 6 with fail
  clear ek' hlen
  have cA : w3.cell? ⟨A, k, none⟩ = some (.string (nm k)) := (at_cell O3.out.hA k).trans (nm_cell k hk)
  go_upto_if 23 with fail
  go_cut [10] from 131 to 131 (fun s wx => ∃ nn : Int, s = .int .i64 nn ∧ (nn = -1 ∨ nn = 1048576) ∧ wx = w3)
  case first =>
    cases low with
    | true =>
      go_wp2_with fail
      go_meet
      exact ⟨_, rfl, .inl rfl, rfl⟩
    | false =>
      go_wp2_with fail
      go_meet
      exact ⟨_, rfl, .inr rfl, rfl⟩
  case rest =>
  obtain ⟨nn, rfl, hnn, rfl⟩ := hcut
  have HN := hid hnn; clear hnn
  go_upto_block 0 with fail
  have fz : ∀ i, wc.frozen? ⟨x, i, none⟩ = false := fun i => at_free O3.out.cx.box i
  go_cut [] from 28 to 116 (fun wx => ∃ c' : Conf, Ols w A x c' wx ∧ (st22 c').getD ⟨#[]⟩ = nm k)
  case first =>
    have hxA : x ≠ A := by
      intro e
      have h1 := O3.out.hA
      rw [← e, O3.out.cx.box] at h1
      cases h1
    have hk22 : k = 0 ∨ k = 1 ∨ k = 2 ∨ k = 3 ∨ k = 4 ∨ k = 5 ∨ k = 6 ∨ k = 7 ∨ k = 8 ∨ k = 9 ∨ k = 10 ∨ k = 11 ∨ k = 12 ∨ k = 13 ∨ k = 14 ∨ k = 15 ∨ k = 16 ∨ k = 17 ∨ k = 18 ∨ k = 19 ∨ k = 20 ∨ k = 21 := by omega
    rcases hk22 with rfl | rfl | rfl | rfl | rfl | rfl | rfl | rfl | rfl | rfl | rfl | rfl | rfl | rfl | rfl | rfl | rfl | rfl | rfl | rfl | rfl | rfl
    · have hn : nm 0 = ⟨#[110]⟩ := rfl
      rw [hn] at cA ⊢
      clear hn
      have z : wc.cell? ⟨x, 0, none⟩ = some (.int .i64 c.n) := at_cell O3.out.cx.box 0
      go_wp2_with fail
      go_meet
      exact ⟨⟨nn, c.f, c.m, c.quorum, c.fresh, c.grace, c.window, c.t0, c.t1, c.t2, c.t3, c.tol, c.min, c.max, c.calmup, c.calmdown, c.podsup, c.pctup, c.podsdown, c.pctdown, c.period, c.far, c.strikes, c.probe, c.sectors, c.seed⟩, ⟨at_set_other O3.out.hA (Ne.symm hxA) _, ⟨at_set O3.out.cx.box 0 _, gb_new O3.out.cx.g (p := ⟨x, 0, none⟩) hlow _⟩⟩, one1 FN.out (nn) (HN.out)⟩
    · have hn : nm 1 = ⟨#[102]⟩ := rfl
      rw [hn] at cA ⊢
      clear hn
      have z : wc.cell? ⟨x, 1, none⟩ = some (.int .i64 c.f) := at_cell O3.out.cx.box 1
      go_wp2_with fail
      go_meet
      exact ⟨⟨c.n, nn, c.m, c.quorum, c.fresh, c.grace, c.window, c.t0, c.t1, c.t2, c.t3, c.tol, c.min, c.max, c.calmup, c.calmdown, c.podsup, c.pctup, c.podsdown, c.pctdown, c.period, c.far, c.strikes, c.probe, c.sectors, c.seed⟩, ⟨at_set_other O3.out.hA (Ne.symm hxA) _, ⟨at_set O3.out.cx.box 1 _, gb_new O3.out.cx.g (p := ⟨x, 1, none⟩) hlow _⟩⟩, one2 FN.out (nn) (HN.out)⟩
    · have hn : nm 2 = ⟨#[109]⟩ := rfl
      rw [hn] at cA ⊢
      clear hn
      have z : wc.cell? ⟨x, 2, none⟩ = some (.int .i64 c.m) := at_cell O3.out.cx.box 2
      go_wp2_with fail
      go_meet
      exact ⟨⟨c.n, c.f, nn, c.quorum, c.fresh, c.grace, c.window, c.t0, c.t1, c.t2, c.t3, c.tol, c.min, c.max, c.calmup, c.calmdown, c.podsup, c.pctup, c.podsdown, c.pctdown, c.period, c.far, c.strikes, c.probe, c.sectors, c.seed⟩, ⟨at_set_other O3.out.hA (Ne.symm hxA) _, ⟨at_set O3.out.cx.box 2 _, gb_new O3.out.cx.g (p := ⟨x, 2, none⟩) hlow _⟩⟩, one3 FN.out (nn) (HN.out)⟩
    · have hn : nm 3 = ⟨#[113, 117, 111, 114, 117, 109]⟩ := rfl
      rw [hn] at cA ⊢
      clear hn
      have z : wc.cell? ⟨x, 3, none⟩ = some (.int .i64 c.quorum) := at_cell O3.out.cx.box 3
      go_wp2_with fail
      go_meet
      exact ⟨⟨c.n, c.f, c.m, nn, c.fresh, c.grace, c.window, c.t0, c.t1, c.t2, c.t3, c.tol, c.min, c.max, c.calmup, c.calmdown, c.podsup, c.pctup, c.podsdown, c.pctdown, c.period, c.far, c.strikes, c.probe, c.sectors, c.seed⟩, ⟨at_set_other O3.out.hA (Ne.symm hxA) _, ⟨at_set O3.out.cx.box 3 _, gb_new O3.out.cx.g (p := ⟨x, 3, none⟩) hlow _⟩⟩, one4 FN.out (nn) (HN.out)⟩
    · have hn : nm 4 = ⟨#[102, 114, 101, 115, 104]⟩ := rfl
      rw [hn] at cA ⊢
      clear hn
      have z : wc.cell? ⟨x, 4, none⟩ = some (.int .i64 c.fresh) := at_cell O3.out.cx.box 4
      go_wp2_with fail
      go_meet
      exact ⟨⟨c.n, c.f, c.m, c.quorum, nn, c.grace, c.window, c.t0, c.t1, c.t2, c.t3, c.tol, c.min, c.max, c.calmup, c.calmdown, c.podsup, c.pctup, c.podsdown, c.pctdown, c.period, c.far, c.strikes, c.probe, c.sectors, c.seed⟩, ⟨at_set_other O3.out.hA (Ne.symm hxA) _, ⟨at_set O3.out.cx.box 4 _, gb_new O3.out.cx.g (p := ⟨x, 4, none⟩) hlow _⟩⟩, one5 FN.out (nn) (HN.out)⟩
    · have hn : nm 5 = ⟨#[103, 114, 97, 99, 101]⟩ := rfl
      rw [hn] at cA ⊢
      clear hn
      have z : wc.cell? ⟨x, 5, none⟩ = some (.int .i64 c.grace) := at_cell O3.out.cx.box 5
      go_wp2_with fail
      go_meet
      exact ⟨⟨c.n, c.f, c.m, c.quorum, c.fresh, nn, c.window, c.t0, c.t1, c.t2, c.t3, c.tol, c.min, c.max, c.calmup, c.calmdown, c.podsup, c.pctup, c.podsdown, c.pctdown, c.period, c.far, c.strikes, c.probe, c.sectors, c.seed⟩, ⟨at_set_other O3.out.hA (Ne.symm hxA) _, ⟨at_set O3.out.cx.box 5 _, gb_new O3.out.cx.g (p := ⟨x, 5, none⟩) hlow _⟩⟩, one6 FN.out (nn) (HN.out)⟩
    · have hn : nm 6 = ⟨#[119, 105, 110, 100, 111, 119]⟩ := rfl
      rw [hn] at cA ⊢
      clear hn
      have z : wc.cell? ⟨x, 6, none⟩ = some (.int .i64 c.window) := at_cell O3.out.cx.box 6
      go_wp2_with fail
      go_meet
      exact ⟨⟨c.n, c.f, c.m, c.quorum, c.fresh, c.grace, nn, c.t0, c.t1, c.t2, c.t3, c.tol, c.min, c.max, c.calmup, c.calmdown, c.podsup, c.pctup, c.podsdown, c.pctdown, c.period, c.far, c.strikes, c.probe, c.sectors, c.seed⟩, ⟨at_set_other O3.out.hA (Ne.symm hxA) _, ⟨at_set O3.out.cx.box 6 _, gb_new O3.out.cx.g (p := ⟨x, 6, none⟩) hlow _⟩⟩, one7 FN.out (nn) (HN.out)⟩
    · have hn : nm 7 = ⟨#[116, 97, 114, 103, 101, 116]⟩ := rfl
      rw [hn] at cA ⊢
      clear hn
      have z : wc.cell? ⟨x, 7, none⟩ = some (.int .i64 c.t0) := at_cell O3.out.cx.box 7
      rcases HN.out with rfl | rfl
      · go_wp2_with fail
        go_meet
        exact ⟨⟨c.n, c.f, c.m, c.quorum, c.fresh, c.grace, c.window, -1073741824, c.t1, c.t2, c.t3, c.tol, c.min, c.max, c.calmup, c.calmdown, c.podsup, c.pctup, c.podsdown, c.pctdown, c.period, c.far, c.strikes, c.probe, c.sectors, c.seed⟩, ⟨at_set_other O3.out.hA (Ne.symm hxA) _, ⟨at_set O3.out.cx.box 7 _, gb_new O3.out.cx.g (p := ⟨x, 7, none⟩) hlow _⟩⟩, one8 FN.out (-1073741824) (.inl rfl)⟩
      · go_wp2_with fail
        go_meet
        exact ⟨⟨c.n, c.f, c.m, c.quorum, c.fresh, c.grace, c.window, 1125899906842624, c.t1, c.t2, c.t3, c.tol, c.min, c.max, c.calmup, c.calmdown, c.podsup, c.pctup, c.podsdown, c.pctdown, c.period, c.far, c.strikes, c.probe, c.sectors, c.seed⟩, ⟨at_set_other O3.out.hA (Ne.symm hxA) _, ⟨at_set O3.out.cx.box 7 _, gb_new O3.out.cx.g (p := ⟨x, 7, none⟩) hlow _⟩⟩, one8 FN.out (1125899906842624) (.inr rfl)⟩
    · have hn : nm 8 = ⟨#[116, 111, 108]⟩ := rfl
      rw [hn] at cA ⊢
      clear hn
      have z : wc.cell? ⟨x, 11, none⟩ = some (.int .i64 c.tol) := at_cell O3.out.cx.box 11
      go_wp2_with fail
      go_meet
      exact ⟨⟨c.n, c.f, c.m, c.quorum, c.fresh, c.grace, c.window, c.t0, c.t1, c.t2, c.t3, nn, c.min, c.max, c.calmup, c.calmdown, c.podsup, c.pctup, c.podsdown, c.pctdown, c.period, c.far, c.strikes, c.probe, c.sectors, c.seed⟩, ⟨at_set_other O3.out.hA (Ne.symm hxA) _, ⟨at_set O3.out.cx.box 11 _, gb_new O3.out.cx.g (p := ⟨x, 11, none⟩) hlow _⟩⟩, one9 FN.out (nn) (HN.out)⟩
    · have hn : nm 9 = ⟨#[109, 105, 110]⟩ := rfl
      rw [hn] at cA ⊢
      clear hn
      have z : wc.cell? ⟨x, 12, none⟩ = some (.int .i64 c.min) := at_cell O3.out.cx.box 12
      go_wp2_with fail
      go_meet
      exact ⟨⟨c.n, c.f, c.m, c.quorum, c.fresh, c.grace, c.window, c.t0, c.t1, c.t2, c.t3, c.tol, nn, c.max, c.calmup, c.calmdown, c.podsup, c.pctup, c.podsdown, c.pctdown, c.period, c.far, c.strikes, c.probe, c.sectors, c.seed⟩, ⟨at_set_other O3.out.hA (Ne.symm hxA) _, ⟨at_set O3.out.cx.box 12 _, gb_new O3.out.cx.g (p := ⟨x, 12, none⟩) hlow _⟩⟩, one10 FN.out (nn) (HN.out)⟩
    · have hn : nm 10 = ⟨#[109, 97, 120]⟩ := rfl
      rw [hn] at cA ⊢
      clear hn
      have z : wc.cell? ⟨x, 13, none⟩ = some (.int .i64 c.max) := at_cell O3.out.cx.box 13
      go_wp2_with fail
      go_meet
      exact ⟨⟨c.n, c.f, c.m, c.quorum, c.fresh, c.grace, c.window, c.t0, c.t1, c.t2, c.t3, c.tol, c.min, nn, c.calmup, c.calmdown, c.podsup, c.pctup, c.podsdown, c.pctdown, c.period, c.far, c.strikes, c.probe, c.sectors, c.seed⟩, ⟨at_set_other O3.out.hA (Ne.symm hxA) _, ⟨at_set O3.out.cx.box 13 _, gb_new O3.out.cx.g (p := ⟨x, 13, none⟩) hlow _⟩⟩, one11 FN.out (nn) (HN.out)⟩
    · have hn : nm 11 = ⟨#[99, 97, 108, 109, 117, 112]⟩ := rfl
      rw [hn] at cA ⊢
      clear hn
      have z : wc.cell? ⟨x, 14, none⟩ = some (.int .i64 c.calmup) := at_cell O3.out.cx.box 14
      go_wp2_with fail
      go_meet
      exact ⟨⟨c.n, c.f, c.m, c.quorum, c.fresh, c.grace, c.window, c.t0, c.t1, c.t2, c.t3, c.tol, c.min, c.max, nn, c.calmdown, c.podsup, c.pctup, c.podsdown, c.pctdown, c.period, c.far, c.strikes, c.probe, c.sectors, c.seed⟩, ⟨at_set_other O3.out.hA (Ne.symm hxA) _, ⟨at_set O3.out.cx.box 14 _, gb_new O3.out.cx.g (p := ⟨x, 14, none⟩) hlow _⟩⟩, one12 FN.out (nn) (HN.out)⟩
    · have hn : nm 12 = ⟨#[99, 97, 108, 109, 100, 111, 119, 110]⟩ := rfl
      rw [hn] at cA ⊢
      clear hn
      have z : wc.cell? ⟨x, 15, none⟩ = some (.int .i64 c.calmdown) := at_cell O3.out.cx.box 15
      go_wp2_with fail
      go_meet
      exact ⟨⟨c.n, c.f, c.m, c.quorum, c.fresh, c.grace, c.window, c.t0, c.t1, c.t2, c.t3, c.tol, c.min, c.max, c.calmup, nn, c.podsup, c.pctup, c.podsdown, c.pctdown, c.period, c.far, c.strikes, c.probe, c.sectors, c.seed⟩, ⟨at_set_other O3.out.hA (Ne.symm hxA) _, ⟨at_set O3.out.cx.box 15 _, gb_new O3.out.cx.g (p := ⟨x, 15, none⟩) hlow _⟩⟩, one13 FN.out (nn) (HN.out)⟩
    · have hn : nm 13 = ⟨#[112, 111, 100, 115, 117, 112]⟩ := rfl
      rw [hn] at cA ⊢
      clear hn
      have z : wc.cell? ⟨x, 16, none⟩ = some (.int .i64 c.podsup) := at_cell O3.out.cx.box 16
      go_wp2_with fail
      go_meet
      exact ⟨⟨c.n, c.f, c.m, c.quorum, c.fresh, c.grace, c.window, c.t0, c.t1, c.t2, c.t3, c.tol, c.min, c.max, c.calmup, c.calmdown, nn, c.pctup, c.podsdown, c.pctdown, c.period, c.far, c.strikes, c.probe, c.sectors, c.seed⟩, ⟨at_set_other O3.out.hA (Ne.symm hxA) _, ⟨at_set O3.out.cx.box 16 _, gb_new O3.out.cx.g (p := ⟨x, 16, none⟩) hlow _⟩⟩, one14 FN.out (nn) (HN.out)⟩
    · have hn : nm 14 = ⟨#[112, 99, 116, 117, 112]⟩ := rfl
      rw [hn] at cA ⊢
      clear hn
      have z : wc.cell? ⟨x, 17, none⟩ = some (.int .i64 c.pctup) := at_cell O3.out.cx.box 17
      go_wp2_with fail
      go_meet
      exact ⟨⟨c.n, c.f, c.m, c.quorum, c.fresh, c.grace, c.window, c.t0, c.t1, c.t2, c.t3, c.tol, c.min, c.max, c.calmup, c.calmdown, c.podsup, nn, c.podsdown, c.pctdown, c.period, c.far, c.strikes, c.probe, c.sectors, c.seed⟩, ⟨at_set_other O3.out.hA (Ne.symm hxA) _, ⟨at_set O3.out.cx.box 17 _, gb_new O3.out.cx.g (p := ⟨x, 17, none⟩) hlow _⟩⟩, one15 FN.out (nn) (HN.out)⟩
    · have hn : nm 15 = ⟨#[112, 111, 100, 115, 100, 111, 119, 110]⟩ := rfl
      rw [hn] at cA ⊢
      clear hn
      have z : wc.cell? ⟨x, 18, none⟩ = some (.int .i64 c.podsdown) := at_cell O3.out.cx.box 18
      go_wp2_with fail
      go_meet
      exact ⟨⟨c.n, c.f, c.m, c.quorum, c.fresh, c.grace, c.window, c.t0, c.t1, c.t2, c.t3, c.tol, c.min, c.max, c.calmup, c.calmdown, c.podsup, c.pctup, nn, c.pctdown, c.period, c.far, c.strikes, c.probe, c.sectors, c.seed⟩, ⟨at_set_other O3.out.hA (Ne.symm hxA) _, ⟨at_set O3.out.cx.box 18 _, gb_new O3.out.cx.g (p := ⟨x, 18, none⟩) hlow _⟩⟩, one16 FN.out (nn) (HN.out)⟩
    · have hn : nm 16 = ⟨#[112, 99, 116, 100, 111, 119, 110]⟩ := rfl
      rw [hn] at cA ⊢
      clear hn
      have z : wc.cell? ⟨x, 19, none⟩ = some (.int .i64 c.pctdown) := at_cell O3.out.cx.box 19
      go_wp2_with fail
      go_meet
      exact ⟨⟨c.n, c.f, c.m, c.quorum, c.fresh, c.grace, c.window, c.t0, c.t1, c.t2, c.t3, c.tol, c.min, c.max, c.calmup, c.calmdown, c.podsup, c.pctup, c.podsdown, nn, c.period, c.far, c.strikes, c.probe, c.sectors, c.seed⟩, ⟨at_set_other O3.out.hA (Ne.symm hxA) _, ⟨at_set O3.out.cx.box 19 _, gb_new O3.out.cx.g (p := ⟨x, 19, none⟩) hlow _⟩⟩, one17 FN.out (nn) (HN.out)⟩
    · have hn : nm 17 = ⟨#[112, 101, 114, 105, 111, 100]⟩ := rfl
      rw [hn] at cA ⊢
      clear hn
      have z : wc.cell? ⟨x, 20, none⟩ = some (.int .i64 c.period) := at_cell O3.out.cx.box 20
      go_wp2_with fail
      go_meet
      exact ⟨⟨c.n, c.f, c.m, c.quorum, c.fresh, c.grace, c.window, c.t0, c.t1, c.t2, c.t3, c.tol, c.min, c.max, c.calmup, c.calmdown, c.podsup, c.pctup, c.podsdown, c.pctdown, nn, c.far, c.strikes, c.probe, c.sectors, c.seed⟩, ⟨at_set_other O3.out.hA (Ne.symm hxA) _, ⟨at_set O3.out.cx.box 20 _, gb_new O3.out.cx.g (p := ⟨x, 20, none⟩) hlow _⟩⟩, one18 FN.out (nn) (HN.out)⟩
    · have hn : nm 18 = ⟨#[102, 97, 114]⟩ := rfl
      rw [hn] at cA ⊢
      clear hn
      have z : wc.cell? ⟨x, 21, none⟩ = some (.int .i64 c.far) := at_cell O3.out.cx.box 21
      rcases HN.out with rfl | rfl
      · go_wp2_with fail
        go_meet
        exact ⟨⟨c.n, c.f, c.m, c.quorum, c.fresh, c.grace, c.window, c.t0, c.t1, c.t2, c.t3, c.tol, c.min, c.max, c.calmup, c.calmdown, c.podsup, c.pctup, c.podsdown, c.pctdown, c.period, -1073741824, c.strikes, c.probe, c.sectors, c.seed⟩, ⟨at_set_other O3.out.hA (Ne.symm hxA) _, ⟨at_set O3.out.cx.box 21 _, gb_new O3.out.cx.g (p := ⟨x, 21, none⟩) hlow _⟩⟩, one19 FN.out (-1073741824) (.inl rfl)⟩
      · go_wp2_with fail
        go_meet
        exact ⟨⟨c.n, c.f, c.m, c.quorum, c.fresh, c.grace, c.window, c.t0, c.t1, c.t2, c.t3, c.tol, c.min, c.max, c.calmup, c.calmdown, c.podsup, c.pctup, c.podsdown, c.pctdown, c.period, 1125899906842624, c.strikes, c.probe, c.sectors, c.seed⟩, ⟨at_set_other O3.out.hA (Ne.symm hxA) _, ⟨at_set O3.out.cx.box 21 _, gb_new O3.out.cx.g (p := ⟨x, 21, none⟩) hlow _⟩⟩, one19 FN.out (1125899906842624) (.inr rfl)⟩
    · have hn : nm 19 = ⟨#[115, 116, 114, 105, 107, 101, 115]⟩ := rfl
      rw [hn] at cA ⊢
      clear hn
      have z : wc.cell? ⟨x, 22, none⟩ = some (.int .i64 c.strikes) := at_cell O3.out.cx.box 22
      go_wp2_with fail
      go_meet
      exact ⟨⟨c.n, c.f, c.m, c.quorum, c.fresh, c.grace, c.window, c.t0, c.t1, c.t2, c.t3, c.tol, c.min, c.max, c.calmup, c.calmdown, c.podsup, c.pctup, c.podsdown, c.pctdown, c.period, c.far, nn, c.probe, c.sectors, c.seed⟩, ⟨at_set_other O3.out.hA (Ne.symm hxA) _, ⟨at_set O3.out.cx.box 22 _, gb_new O3.out.cx.g (p := ⟨x, 22, none⟩) hlow _⟩⟩, one20 FN.out (nn) (HN.out)⟩
    · have hn : nm 20 = ⟨#[112, 114, 111, 98, 101]⟩ := rfl
      rw [hn] at cA ⊢
      clear hn
      have z : wc.cell? ⟨x, 23, none⟩ = some (.int .i64 c.probe) := at_cell O3.out.cx.box 23
      go_wp2_with fail
      go_meet
      exact ⟨⟨c.n, c.f, c.m, c.quorum, c.fresh, c.grace, c.window, c.t0, c.t1, c.t2, c.t3, c.tol, c.min, c.max, c.calmup, c.calmdown, c.podsup, c.pctup, c.podsdown, c.pctdown, c.period, c.far, c.strikes, nn, c.sectors, c.seed⟩, ⟨at_set_other O3.out.hA (Ne.symm hxA) _, ⟨at_set O3.out.cx.box 23 _, gb_new O3.out.cx.g (p := ⟨x, 23, none⟩) hlow _⟩⟩, one21 FN.out (nn) (HN.out)⟩
    · have hn : nm 21 = ⟨#[115, 101, 99, 116, 111, 114, 115]⟩ := rfl
      rw [hn] at cA ⊢
      clear hn
      have z : wc.cell? ⟨x, 24, none⟩ = some (.int .i64 c.sectors) := at_cell O3.out.cx.box 24
      go_wp2_with fail
      go_meet
      exact ⟨⟨c.n, c.f, c.m, c.quorum, c.fresh, c.grace, c.window, c.t0, c.t1, c.t2, c.t3, c.tol, c.min, c.max, c.calmup, c.calmdown, c.podsup, c.pctup, c.podsdown, c.pctdown, c.period, c.far, c.strikes, c.probe, nn, c.seed⟩, ⟨at_set_other O3.out.hA (Ne.symm hxA) _, ⟨at_set O3.out.cx.box 24 _, gb_new O3.out.cx.g (p := ⟨x, 24, none⟩) hlow _⟩⟩, one22 FN.out (nn) (HN.out)⟩
  case rest =>
  obtain ⟨c', hC, hw⟩ := hcut
  have hW := fun w => wrong_any c' w
  have hM := fun w => may_any c' w
  rw [hw] at hW hM
  rw [nm_full k hk] at hM
  have WR := hid hW; have MY := hid hM; have C7 := hid hC; clear hW hM hC hw O3 cA fz HN FN
  go_upto_region 53 with fail
  refine wp_region_held_drew (S := (fun w' => w'.cell? ⟨A, k, none⟩ = some (.string (nm k)) ∧ Ols w A x c' w')) (by kernel_rfl) ⟨(at_cell C7.out.hA k).trans (nm_cell k hk), C7.out.drew⟩ (fun hHeld => ?_)
  try dsimp only at hHeld
  refine wpAnyH_ready (rs := [0]) (by kernel_rfl) (by simp) ?_
  refine AllReadyH.cons (o := _) rfl (fun K hK => ?_) AllReadyH.nil
  try simp only [List.getElem_toArray, List.getElem_cons_succ, List.getElem_cons_zero]
  go_simp
  refine (told_any _).mono ?_
  rintro e w100 ⟨rfl, hg⟩
  have L0 := hid (hHeld.2.grown hg)
  clear hHeld hg
  go_wp2_with fail
  refine hK.out _ _ ?_ (fun hHeld => ?_)
  · exact ⟨(at_cell L0.out.hA k).trans (nm_cell k hk), L0.out⟩
  clear hK K
  try dsimp only at hHeld
  try simp only [Act.put, List.setIfInBounds_toArray, List.set_cons_zero, List.set_cons_succ, List.getElem_toArray, List.getElem_cons_succ, List.getElem_cons_zero]
  refine' wpAnyH_take (i := 1) (v := _) rfl (by kernel_rfl) (by kernel_rfl) (by kernel_rfl) (fun _ _ _ h => h) (Or.inl ⟨by rfl, ?_⟩) hHeld ?_
  rotate_left
  · (intro w hSw; (try dsimp only at hSw); go_simp; try with_reducible rfl)
  try simp only [Act.put, List.setIfInBounds_toArray, List.set_cons_zero, List.set_cons_succ, List.getElem_toArray, List.getElem_cons_succ, List.getElem_cons_zero]
  refine' wpAnyH_take (i := 2) (v := _) rfl (by kernel_rfl) (by kernel_rfl) (by kernel_rfl) (fun _ _ _ h => h) (Or.inl ⟨by rfl, ?_⟩) hHeld ?_
  rotate_left
  · (intro w hSw; (try dsimp only at hSw); (try simp only [List.getElem_toArray, List.getElem_cons_succ, List.getElem_cons_zero]); refine exec_row (x := .tmp 7) hSw.2.cx.box Try.underlying27 rfl (by kernel_rfl) ?_ ?_ <;> rfl)
  try simp only [Act.put, List.setIfInBounds_toArray, List.set_cons_zero, List.set_cons_succ, List.getElem_toArray, List.getElem_cons_succ, List.getElem_cons_zero]
  refine' wpAnyH_take (i := 4) (v := _) rfl (by kernel_rfl) (by kernel_rfl) (by kernel_rfl) (fun _ _ _ h => h) (Or.inl ⟨by rfl, ?_⟩) hHeld ?_
  rotate_left
  · (intro w hSw; (try dsimp only at hSw); go_simp; try with_reducible rfl)
  try simp only [Act.put, List.setIfInBounds_toArray, List.set_cons_zero, List.set_cons_succ, List.getElem_toArray, List.getElem_cons_succ, List.getElem_cons_zero]
  refine' wpAnyH_take (i := 5) (v := _) rfl (by kernel_rfl) (by kernel_rfl) (by kernel_rfl) (fun _ _ _ h => h) (Or.inl ⟨by rfl, ?_⟩) hHeld ?_
  rotate_left
  · (intro w hSw; (try dsimp only at hSw); go_simp; try with_reducible rfl)
  try simp only [Act.put, List.setIfInBounds_toArray, List.set_cons_zero, List.set_cons_succ, List.getElem_toArray, List.getElem_cons_succ, List.getElem_cons_zero]
  refine' wpAnyH_take (i := 6) (v := _) rfl (by kernel_rfl) (by kernel_rfl) (by kernel_rfl) (fun _ _ _ h => h) (Or.inl ⟨by rfl, ?_⟩) hHeld ?_
  rotate_left
  · (intro w hSw; (try dsimp only at hSw); go_simp; try with_reducible rfl)
  try simp only [Act.put, List.setIfInBounds_toArray, List.set_cons_zero, List.set_cons_succ, List.getElem_toArray, List.getElem_cons_succ, List.getElem_cons_zero]
  refine' wpAnyH_take (i := 7) (v := _) rfl (by kernel_rfl) (by kernel_rfl) (by kernel_rfl) (fun _ _ _ h => h) (Or.inl ⟨by rfl, ?_⟩) hHeld ?_
  rotate_left
  · (intro w hSw; (try dsimp only at hSw); go_simp; try with_reducible rfl)
  try simp only [Act.put, List.setIfInBounds_toArray, List.set_cons_zero, List.set_cons_succ, List.getElem_toArray, List.getElem_cons_succ, List.getElem_cons_zero]
  refine wpAnyH_ready (rs := [3]) (by kernel_rfl) (by simp) ?_
  refine AllReadyH.cons (o := _) rfl (fun K hK => ?_) AllReadyH.nil
  try simp only [List.getElem_toArray, List.getElem_cons_succ, List.getElem_cons_zero]
  go_simp
  refine (WR.out _).mono ?_
  rintro e w103 ⟨rfl, hg⟩
  have L3 := hid (hHeld.2.grown hg)
  clear hHeld hg
  go_wp2_with fail
  refine hK.out _ _ ?_ (fun hHeld => ?_)
  · exact ⟨(at_cell L3.out.hA k).trans (nm_cell k hk), L3.out⟩
  clear hK K
  try dsimp only at hHeld
  try simp only [Act.put, List.setIfInBounds_toArray, List.set_cons_zero, List.set_cons_succ, List.getElem_toArray, List.getElem_cons_succ, List.getElem_cons_zero]
  refine' wpAnyH_take (i := 8) (v := _) rfl (by kernel_rfl) (by kernel_rfl) (by kernel_rfl) (fun _ _ _ h => h) (Or.inl ⟨by rfl, ?_⟩) hHeld ?_
  rotate_left
  · (intro w hSw; (try dsimp only at hSw); go_simp; try with_reducible rfl)
  try simp only [Act.put, List.setIfInBounds_toArray, List.set_cons_zero, List.set_cons_succ, List.getElem_toArray, List.getElem_cons_succ, List.getElem_cons_zero]
  refine' wpAnyH_take (i := 9) (v := _) rfl (by kernel_rfl) (by kernel_rfl) (by kernel_rfl) (fun _ _ _ h => h) (Or.inl ⟨by rfl, ?_⟩) hHeld ?_
  rotate_left
  · (intro w hSw; (try dsimp only at hSw); go_simp; try with_reducible rfl)
  try simp only [Act.put, List.setIfInBounds_toArray, List.set_cons_zero, List.set_cons_succ, List.getElem_toArray, List.getElem_cons_succ, List.getElem_cons_zero]
  refine' wpAnyH_take (i := 10) (v := _) rfl (by kernel_rfl) (by kernel_rfl) (by kernel_rfl) (fun _ _ _ h => h) (Or.inl ⟨by rfl, ?_⟩) hHeld ?_
  rotate_left
  · (intro w hSw; (try dsimp only at hSw); go_simp; try with_reducible rfl)
  try simp only [Act.put, List.setIfInBounds_toArray, List.set_cons_zero, List.set_cons_succ, List.getElem_toArray, List.getElem_cons_succ, List.getElem_cons_zero]
  refine' wpAnyH_take (i := 11) (v := _) rfl (by kernel_rfl) (by kernel_rfl) (by kernel_rfl) (fun _ _ _ h => h) (Or.inl ⟨by rfl, ?_⟩) hHeld ?_
  rotate_left
  · (intro w hSw; (try dsimp only at hSw); (try simp only [List.getElem_toArray, List.getElem_cons_succ, List.getElem_cons_zero]); refine exec_row (x := .tmp 7) hSw.2.cx.box Try.underlying27 rfl (by kernel_rfl) ?_ ?_ <;> rfl)
  try simp only [Act.put, List.setIfInBounds_toArray, List.set_cons_zero, List.set_cons_succ, List.getElem_toArray, List.getElem_cons_succ, List.getElem_cons_zero]
  refine wpAnyH_ready (rs := [12]) (by kernel_rfl) (by simp) ?_
  refine AllReadyH.cons (o := _) rfl (fun K hK => ?_) AllReadyH.nil
  try simp only [List.getElem_toArray, List.getElem_cons_succ, List.getElem_cons_zero]
  go_simp
  refine (MY.out _).mono ?_
  rintro e w112 ⟨rfl, hg⟩
  have L12 := hid (hHeld.2.grown hg)
  clear hHeld hg
  go_wp2_with fail
  refine hK.out _ _ ?_ (fun hHeld => ?_)
  · exact ⟨(at_cell L12.out.hA k).trans (nm_cell k hk), L12.out⟩
  clear hK K
  try dsimp only at hHeld
  try simp only [Act.put, List.setIfInBounds_toArray, List.set_cons_zero, List.set_cons_succ, List.getElem_toArray, List.getElem_cons_succ, List.getElem_cons_zero]
  refine' wpAnyH_take (i := 13) (v := _) rfl (by kernel_rfl) (by kernel_rfl) (by kernel_rfl) (fun _ _ _ h => h) (Or.inl ⟨by rfl, ?_⟩) hHeld ?_
  rotate_left
  · (intro w hSw; (try dsimp only at hSw); go_simp; try with_reducible rfl)
  try simp only [Act.put, List.setIfInBounds_toArray, List.set_cons_zero, List.set_cons_succ, List.getElem_toArray, List.getElem_cons_succ, List.getElem_cons_zero]
  refine' wpAnyH_take (i := 14) (v := _) rfl (by kernel_rfl) (by kernel_rfl) (by kernel_rfl) (fun _ _ _ h => h) (Or.inl ⟨by rfl, ?_⟩) hHeld ?_
  rotate_left
  · (intro w hSw; (try dsimp only at hSw); go_simp; try with_reducible rfl)
  try simp only [Act.put, List.setIfInBounds_toArray, List.set_cons_zero, List.set_cons_succ, List.getElem_toArray, List.getElem_cons_succ, List.getElem_cons_zero]
  refine' wpAnyH_take (i := 15) (v := _) rfl (by kernel_rfl) (by kernel_rfl) (by kernel_rfl) (fun _ _ _ h => h) (Or.inl ⟨by rfl, ?_⟩) hHeld ?_
  rotate_left
  · (intro w hSw; (try dsimp only at hSw); go_simp; try with_reducible rfl)
  try simp only [Act.put, List.setIfInBounds_toArray, List.set_cons_zero, List.set_cons_succ, List.getElem_toArray, List.getElem_cons_succ, List.getElem_cons_zero]
  refine wpAnyH_done (by kernel_rfl) ?_ _
  clear hHeld
  go_wp2_with fail
  go_ret
  exact ⟨rfl, L12.out.cx.g⟩
end Go.Proofs.Ytabfeaifbjfdoaa.one
