/-
  The walk of the statement TablePlays: samples are there, by epochs and metrics, as the document says, step by step. No condition.
-/
import Derived.Test.YtjjcnojckbeekaaTbN
import Derived.Test.YtjjcnojckbeekaaTbU
import Derived.Test.YtjjcnojckbeekaaTbE
import Derived.Test.YtjjcnojckbeekaaGrid
import Derived.Test.YtjjcnojckbeekaaUmi
import Derived.Test.YtjjcnojckbeekaaOps
import Derived.Deep.CutRange
import Derived.Deep.CutBlock
import Derived.Deep.RegionHeld3
set_option linter.unusedSimpArgs false
set_option linter.unusedVariables false
namespace Go.Proofs.Ytjjcnojckbeekaa.tbplays
set_option maxRecDepth 100000
open Go.RowKit

theorem kinds_op : (List.range 5).all (fun j => kindAt Try.prog 10 31 j == some .i64) = true := by kernel_rfl
theorem cells_op : Try.prog.cellsOf 31 = 5 := by kernel_rfl
theorem umod_pos (x n : Int) (h : 0 < n) : ∃ z : Int, 0 ≤ z ∧ z < n ∧ (IntKind.u64.wrap x).tmod n = z := by
  obtain ⟨k, rfl⟩ : ∃ k : Nat, n = (k : Int) := ⟨n.toNat, by omega⟩
  exact umod_int x k (by omega)
theorem putT_le {n m f now : Int} {L : List Sm} {s : Sm} {k : Nat} (h : L.length ≤ k) : (putT n m f L s now).length ≤ k + 1 := by
  have := putT_len n m f L s now; omega
/-- one table of each side -/
structure Tp (w : World) (base : Nat) (n m f : Int) (L1 L2 : List Sm) (tb mb rb : Nat) (W : World) : Prop where
  ta : TbAt n m f L1 tb mb W
  tr : RtAt base n m f L2 rb W
  gr : w.grownBy W none
  lo : w.heap.size ≤ mb ∧ w.heap.size ≤ rb
  hi : tb < base ∧ mb < base
  ap : tb ≠ rb ∧ mb ≠ rb
/-- and the sample of the round -/
structure Po (w : World) (base : Nat) (n m f : Int) (L : List Sm) (tb mb rb x : Nat) (s : Sm) (W : World) : Prop where
  tp : Tp w base n m f L L tb mb rb W
  bx : W.heap[x]? = some (.cells #[.int .i64 s.who, .int .i64 s.met, .int .i64 s.ep, .int .i64 s.val] 29)
  hx : base ≤ x
section
variable {w W W' : World} {base tb mb rb x : Nat} {n m f t r : Int} {L L1 L2 L' : List Sm} {s s' : Sm}
theorem Tp.grown (h : Tp w base n m f L1 L2 tb mb rb W) (hg : W.grownBy W' none) : Tp w base n m f L1 L2 tb mb rb W' := ⟨h.ta.grown hg, h.tr.grown hg, gb_trans h.gr hg (.inl rfl), h.lo, h.hi, h.ap⟩
theorem Tp.drew (h : Tp w base n m f L1 L2 tb mb rb W) : Tp w base n m f L1 L2 tb mb rb W.drew := ⟨h.ta.drew, h.tr.drew, gb_drew h.gr, h.lo, h.hi, h.ap⟩
theorem Tp.mayP (h : Tp w base n m f L1 L2 tb mb rb W) (hlen : L1.length ≤ 100000) (s : Sm) (t : Int) (he : wf64 s.ep) (ht : wf64 t) (hr : mayT n m f L1 s t = r) :
    Calls Try.prog 10 #[.pointer (some ⟨tb, 0, none⟩), .agg #[.int .i64 s.who, .int .i64 s.met, .int .i64 s.ep, .int .i64 s.val], .int .i64 t] W fun e w' => e = .returned (.int .i64 r) ∧ Tp w base n m f L1 L2 tb mb rb w' ∧ Chg [mb, rb] W w' :=
  (may_any h.ta s t he ht).mono fun e w' ⟨h1, h2⟩ => ⟨by rw [h1, hr], h.grown h2, chg_grown h2 _⟩
theorem Tp.mayR (h : Tp w base n m f L1 L2 tb mb rb W) (hlen : L2.length ≤ 100000) (s : Sm) (t : Int) (he : wf64 s.ep) (ht : wf64 t) (hr : mayT n m f L2 s t = r) :
    Calls Try.prog 11 #[.pointer (some ⟨rb, 0, none⟩), .agg #[.int .i64 s.who, .int .i64 s.met, .int .i64 s.ep, .int .i64 s.val], .int .i64 t] W fun e w' => e = .returned (.int .i64 r) ∧ Tp w base n m f L1 L2 tb mb rb w' ∧ Chg [mb, rb] W w' :=
  (rmay_any h.tr hlen s t he ht).mono fun e w' ⟨h1, h2⟩ => ⟨by rw [h1, hr], h.grown h2, chg_grown h2 _⟩
theorem Tp.chgP (h : Tp w base n m f L1 L2 tb mb rb W) (ta : TbAt n m f L' tb mb W') (hc : Chg [mb] W W') : Tp w base n m f L' L2 tb mb rb W' ∧ Chg [mb, rb] W W' :=
  ⟨⟨ta, h.tr.chg hc (by simp only [List.mem_singleton]; rintro y rfl; exact h.hi.2) (by simpa using fun e => h.ap.2 e.symm), ((chg_grown h.gr [mb]).then hc).free (by simp only [List.mem_singleton]; rintro y rfl; exact h.lo.1), h.lo, h.hi, h.ap⟩, hc.more (by simp)⟩
theorem Tp.chgR (h : Tp w base n m f L1 L2 tb mb rb W) (tr : RtAt base n m f L' rb W') (hc : Chg [rb] W W') : Tp w base n m f L1 L' tb mb rb W' ∧ Chg [mb, rb] W W' :=
  ⟨⟨h.ta.chg hc (by simpa using h.ap.1) (by simpa using h.ap.2), tr, ((chg_grown h.gr [rb]).then hc).free (by simp only [List.mem_singleton]; rintro y rfl; exact h.lo.2), h.lo, h.hi, h.ap⟩, hc.more (by simp)⟩
theorem Tp.putP (h : Tp w base n m f L1 L2 tb mb rb W) (hlen : L1.length ≤ 100000) (s : Sm) (t : Int) (he : wf64 s.ep) (ht : wf64 t) (hr : mayT n m f L1 s t = r) (hL : putT n m f L1 s t = L') :
    Calls Try.prog 12 #[.pointer (some ⟨tb, 0, none⟩), .agg #[.int .i64 s.who, .int .i64 s.met, .int .i64 s.ep, .int .i64 s.val], .int .i64 t] W fun e w' => e = .returned (.int .i64 r) ∧ Tp w base n m f L' L2 tb mb rb w' ∧ Chg [mb, rb] W w' :=
  (put_any h.ta hlen s t he ht).mono fun e w' ⟨h1, h2, h3⟩ => ⟨by rw [h1, hr], h.chgP (hL ▸ h2) h3⟩
theorem Tp.putR (h : Tp w base n m f L1 L2 tb mb rb W) (hlen : L2.length ≤ 100000) (s : Sm) (t : Int) (he : wf64 s.ep) (ht : wf64 t) (hr : mayT n m f L2 s t = r) (hL : putT n m f L2 s t = L') :
    Calls Try.prog 13 #[.pointer (some ⟨rb, 0, none⟩), .agg #[.int .i64 s.who, .int .i64 s.met, .int .i64 s.ep, .int .i64 s.val], .int .i64 t] W fun e w' => e = .returned (.int .i64 r) ∧ Tp w base n m f L1 L' tb mb rb w' ∧ Chg [mb, rb] W w' :=
  (rput_any h.tr hlen s t he ht).mono fun e w' ⟨h1, h2, h3⟩ => ⟨by rw [h1, hr], h.chgR (hL ▸ h2) h3⟩
theorem Tp.dropP (h : Tp w base n m f L1 L2 tb mb rb W) (hlen : L1.length ≤ 100000) (t : Int) :
    Calls Try.prog 14 #[.pointer (some ⟨tb, 0, none⟩), .int .i64 t] W fun e w' => e = .returned (.int .i64 ((L1.length - (dropT L1 t).length : Nat) : Int)) ∧ Tp w base n m f (dropT L1 t) L2 tb mb rb w' ∧ Chg [mb, rb] W w' :=
  (drop_any h.ta hlen t).mono fun e w' ⟨h1, h2, h3⟩ => ⟨h1, h.chgP h2 h3⟩
theorem Tp.dropR (h : Tp w base n m f L1 L2 tb mb rb W) (hlen : L2.length ≤ 100000) (t : Int) :
    Calls Try.prog 15 #[.pointer (some ⟨rb, 0, none⟩), .int .i64 t] W fun e w' => e = .returned (.int .i64 ((L2.length - (dropT L2 t).length : Nat) : Int)) ∧ Tp w base n m f L1 (dropT L2 t) tb mb rb w' ∧ Chg [mb, rb] W w' :=
  (rdrop_any h.tr hlen t).mono fun e w' ⟨h1, h2, h3⟩ => ⟨h1, h.chgR h2 h3⟩
theorem Po.drew (h : Po w base n m f L tb mb rb x s W) : Po w base n m f L tb mb rb x s W.drew := ⟨h.tp.drew, h.bx, h.hx⟩
/-- the document's samples do not lie in this block -/
def Off (rb x : Nat) (W : World) : Prop := ∀ a b c v, W.heap[rb]? = some (.cells #[a, b, c, v] 40) → v.ownBlock ≠ some x
theorem Po.start (h : Tp w base n m f L L tb mb rb W) (s : Sm) : Po w base n m f L tb mb rb W.heap.size s (W.alloc (.cells #[.int .i64 s.who, .int .i64 s.met, .int .i64 s.ep, .int .i64 s.val] 29)) ∧ Off rb W.heap.size (W.alloc (.cells #[.int .i64 s.who, .int .i64 s.met, .int .i64 s.ep, .int .i64 s.val] 29)) := by
  refine ⟨⟨h.grown (World.grownBy_alloc _ _ none), at_new _ _, h.tr.le⟩, fun a b c v hv e => ?_⟩
  obtain ⟨v', h1, h2⟩ := h.tr.obj
  have h3 := at_alloc h1 (.cells #[.int .i64 s.who, .int .i64 s.met, .int .i64 s.ep, .int .i64 s.val] 29)
  rw [h3] at hv
  cases hv
  exact absurd (h2.lt _ e).2 (Nat.lt_irrefl _)
theorem Po.made (h : Po w base n m f L tb mb rb x s W) (hne : Off rb x W) : Po w base n m f L tb mb rb x s' (W.setRow x #[.int .i64 s'.who, .int .i64 s'.met, .int .i64 s'.ep, .int .i64 s'.val]) := by
  have hc : Chg [x] W (W.setRow x #[.int .i64 s'.who, .int .i64 s'.met, .int .i64 s'.ep, .int .i64 s'.val]) :=
    ⟨rfl, rfl, rfl, by simp [World.setRow], fun k hk hr => by simp [World.setRow, Array.getElem?_modify, show x ≠ k by intro e; exact hr (by simp [e])]⟩
  have h1 := h.hx; have h2 := h.tp.hi; have h3 := h.tp.tr.lo; have h4 := h.tp.lo
  obtain ⟨v, k1, k2⟩ := h.tp.tr.obj
  refine ⟨⟨h.tp.ta.chg hc (by simp; omega) (by simp; omega), ⟨⟨v, hc.at k1 (by simp; omega), k2.chg hc (fun g hg hm => ?_)⟩, h3, Nat.le_trans h.tp.tr.le hc.size, h.tp.tr.fine, h.tp.tr.nm⟩, ((chg_grown h.tp.gr [x]).then hc).free (by simp only [List.mem_singleton]; rintro y rfl; omega), h.tp.lo, h.tp.hi, h.tp.ap⟩, at_setRow h.bx, h1⟩
  simp only [List.mem_singleton] at hm
  subst hm
  exact hne _ _ _ _ k1 hg
end
theorem walk_bad (n m f : Int) (hb : ¬ MayNew n m f) (v : Value) {w : World} :
    Calls Try.prog 3 #[.int .i64 n, .int .i64 m, .int .i64 f, v] w fun e w' => e = .returned (.bool true) ∧ w.grownBy w' none := by
  have H1 := hid (fun w => new_not n m f hb w)
  have H2 := hid (fun w => rnew_not n m f hb w)
  clear hb
  go_enter Try.func3, Try.ntmps3
  go_wp2_with fail
  refine (H1.out _).mono ?_
  rintro e w1 ⟨rfl, rfl⟩
  go_wp2_with fail
  refine (H2.out _).mono ?_
  rintro e w1 ⟨rfl, rfl⟩
  go_wp2_with fail
  refine (tbtold_any _).mono ?_
  rintro e w2 ⟨rfl, hg⟩
  have G2 := hid hg
  clear hg
  go_wp2_with fail
  go_ret
  exact ⟨by simp, G2.out⟩
theorem news (n m f : Int) (h : MayNew n m f) (w : World) : Calls Try.prog 7 #[.int .i64 n, .int .i64 m, .int .i64 f] w fun e w1 => e = .returned (.pointer (some ⟨w.heap.size + 1, 0, none⟩)) ∧ w.grownBy w1 none ∧ w.heap.size + 1 < w1.heap.size ∧
    Calls Try.prog 8 #[.int .i64 n, .int .i64 m, .int .i64 f] w1 fun e w2 => e = .returned (.pointer (some ⟨w1.heap.size, 0, none⟩)) ∧ Tp w (w1.heap.size + 1) n m f [] [] (w.heap.size + 1) w.heap.size w1.heap.size w2 :=
  (new_yes n m f h w).mono fun e w1 ⟨h1, h2, h3⟩ => ⟨h1, h3, h2.lt.1, (rnew_yes n m f h w1).mono fun e w2 ⟨k1, k2, k3⟩ => ⟨k1, h2.grown k3, k2, gb_trans h3 k3 (.inl rfl), ⟨Nat.le_refl _, h3.size⟩, by have := h2.lt; omega, by have := h2.lt; omega⟩⟩
theorem walk_long (n m f : Int) (hb : MayNew n m f) (p : Option Addr) (c len : Nat) (hl : 60 < len) {w : World} :
    Calls Try.prog 3 #[.int .i64 n, .int .i64 m, .int .i64 f, .slice p len c] w fun e w' => e = .returned (.bool true) ∧ w.grownBy w' none := by
  have H1 := hid (fun w => news n m f hb w)
  have hd : (60 : Int) < (len : Int) := by omega
  clear hb hl
  go_enter Try.func3, Try.ntmps3
  go_wp2_with fail
  refine (H1.out _).mono ?_
  rintro e w1 ⟨rfl, hg, hs, hN⟩
  have HN := hid hN
  clear hg hs hN
  go_wp2_with fail
  refine HN.out.mono ?_
  rintro e w2 ⟨rfl, hT⟩
  have T2 := hid hT
  clear hT HN
  go_wp2_with fail
  refine (tbtold_any _).mono ?_
  rintro e w3 ⟨rfl, hg⟩
  have T3 := hid (T2.out.grown hg)
  clear hg T2
  go_wp2_with fail
  go_ret
  exact ⟨by simp, T3.out.gr⟩
set_option maxHeartbeats 12800000 in
theorem walk_good (n m f : Int) (hb : MayNew n m f) (p : Option Addr) (c len : Nat) (hl : len ≤ 60) (g : Nat → Nat → Int) {w : World} (hG : GridAt w (.slice p len c) 5 len g) (hwf : ∀ i, i < len → ∀ j, j < 5 → (Lit.int .i64 (g i j)).wf = true) :
    Calls Try.prog 3 #[.int .i64 n, .int .i64 m, .int .i64 f, .slice p len c] w fun e w' => e = .returned (.bool true) ∧ w.grownBy w' none := by
  have H1 := hid (fun w => news n m f hb w)
  have hd : ¬ (60 : Int) < (len : Int) := by omega
  have GR := hid hG; have HL := hid hl; have WF := hid hwf; have MN := hid hb
  clear hb hl hG hwf
  go_enter Try.func3, Try.ntmps3
  go_wp2_with fail
  refine (H1.out _).mono ?_
  rintro e w1 ⟨rfl, hg, hs, hN⟩
  have HN := hid hN
  clear hg hs hN
  go_wp2_with fail
  refine HN.out.mono ?_
  rintro e w2 ⟨rfl, hT⟩
  have T2 := hid hT
  clear hT HN H1
  obtain ⟨base, hbase⟩ : ∃ b, w1.heap.size + 1 = b := ⟨_, rfl⟩
  rw [hbase] at T2
  generalize w1.heap.size = rb at *
  generalize w.heap.size + 1 = tb at *
  obtain ⟨mb, hmb⟩ : ∃ b, w.heap.size = b := ⟨_, rfl⟩
  rw [hmb] at T2
  clear hbase hmb
  go_wp2_with fail
  clear hd
  go_loopw [11, 12] (fun nv i wr => ∃ (k : Nat) (t : Int) (L : List Sm), k ≤ len ∧ i = .int .i64 (k : Int) ∧ nv = .int .i64 t ∧ (0 ≤ t ∧ t ≤ (k : Int) ∧ wf64 t) ∧ L.length ≤ k ∧ Tp w base n m f L L tb mb rb wr) (fun _ i _ => len - (intOf i).toNat)
  case atStart => exact ⟨0, 0, [], Nat.zero_le _, rfl, rfl, by decide, Nat.le_refl _, T2.out⟩
  case round =>
    obtain ⟨k, t, L, hk, rfl, rfl, hnow, hL, hT⟩ := hrel
    have T3 := hid hT; have NOW := hid hnow; have LK := hid hL
    clear hT hnow hL T2
    by_cases hlt : k < len
    · obtain ⟨ab, ao, rfl, hcc, hab, hc⟩ := (GR.out.grown T3.out.gr).cells hlt (by decide)
      have c0 : wr.cell? ⟨ab, ao + k * 5, none⟩ = some (.int .i64 (g k 0)) := hc 0 (by decide)
      have c1 : wr.cell? ⟨ab, ao + k * 5 + 1, none⟩ = some (.int .i64 (g k 1)) := hc 1 (by decide)
      have c2 : wr.cell? ⟨ab, ao + k * 5 + 2, none⟩ = some (.int .i64 (g k 2)) := hc 2 (by decide)
      have c3 : wr.cell? ⟨ab, ao + k * 5 + 3, none⟩ = some (.int .i64 (g k 3)) := hc 3 (by decide)
      have c4 : wr.cell? ⟨ab, ao + k * 5 + 4, none⟩ = some (.int .i64 (g k 4)) := hc 4 (by decide)
      have FE0 := hid (show wf64 (g k 3) ∧ wf64 (g k 2) from ⟨(wf64_iff _).1 (WF.out k hlt 3 (by decide)), (wf64_iff _).1 (WF.out k hlt 2 (by decide))⟩)
      clear hc
      generalize g k 0 = o0 at *
      generalize g k 1 = o1 at *
      generalize g k 2 = o2 at *
      generalize g k 3 = o3 at *
      generalize g k 4 = o4 at *
      have K60 := hid (show (k : Int) < 60 by have := HL.out; omega)
      have LEN5 := hid (show L.length ≤ 100000 by have := LK.out; have := K60.out; omega)
      have hk0 : (0 : Int) ≤ (k : Int) := by omega
      have hk1 : (k : Int) < (len : Int) := by omega
      go_upto_block 2 with fail
      obtain ⟨hp, hoff⟩ := Po.start T3.out ⟨o1, o2, o3, o4⟩
      clear c0 c1 c2 c3 c4 hab
      refine wp_gen (fun wx => Po w base n m f L tb mb rb wr.heap.size ⟨o1, o2, o3, o4⟩ wx ∧ Off rb wr.heap.size wx) ⟨hp, hoff⟩ ?_
      clear hp hoff
      generalize wr.heap.size = x
      obtain ⟨s, hs⟩ : ∃ s : Sm, s = ⟨o1, o2, o3, o4⟩ := ⟨_, rfl⟩
      rw [← hs]
      have FE0 := hid (show wf64 s.ep ∧ wf64 s.met by rw [hs]; exact FE0.out)
      clear hs
      rintro w4 ⟨hp, hoff⟩
      have P4 := hid hp; have OFF := hid hoff
      have HX := hid hp.hx
      have HNB := hid (show x ∉ [mb, rb] by have h1 := hp.hx; have h2 := hp.tp.hi; have h3 := hp.tp.tr.lo; simp; omega)
      clear hp hoff T3
      generalize bits .and .i64 o0 7 = y
      go_cut [11] from 53 to 141 (fun v wx => ∃ (t' : Int) (s : Sm) (L' : List Sm), v = .int .i64 t' ∧ (0 ≤ t' ∧ t' ≤ (k : Int) + 1 ∧ wf64 t') ∧ (wf64 s.ep ∧ wf64 s.met) ∧ L'.length ≤ k + 1 ∧ Po w base n m f L' tb mb rb x s wx)
      case first =>
        by_cases hy : y < 6
        · go_upto_if 80 with fail
          go_cut [] from 78 to 109 (fun wx => ∃ s : Sm, (wf64 s.ep ∧ wf64 s.met) ∧ Po w base n m f L tb mb rb x s wx)
          case first =>
            by_cases h4 : (k : Int) % 4 < 3
            · skip
              have q0 : ¬ n = 0 := by have := MN.out.1; omega
              have q1 : ¬ m = 0 := by have := MN.out.2.2.1; omega
              have q2 : ¬ f = 0 := by have := MN.out.2.2.2.2.1; omega
              obtain ⟨z0, z00, z01, m0⟩ := umod_pos s.who n (by have := MN.out.1; omega)
              obtain ⟨z1, z10, z11, m1⟩ := umod_pos s.met m (by have := MN.out.2.2.1; omega)
              obtain ⟨z2, z20, z21, m2⟩ := umod_pos s.ep f (by have := MN.out.2.2.2.2.1; omega)
              obtain ⟨z3, z30, z31, m3⟩ := umod_pos s.val 1000 (by omega)
              have hmn := MN.out
              unfold MayNew at hmn
              have d0 : IntKind.i64.wrap z0 = z0 := IntWalk.i64_in _ (by omega)
              have d1 : IntKind.i64.wrap z1 = z1 := IntWalk.i64_in _ (by omega)
              have d2 : IntKind.i64.wrap z2 = z2 := IntWalk.i64_in _ (by omega)
              have d3 : IntKind.i64.wrap z3 = z3 := IntWalk.i64_in _ (by omega)
              have u0 : IntKind.u64.wrap n = n := IntWalk.u64_in _ (by omega)
              have u1 : IntKind.u64.wrap m = m := IntWalk.u64_in _ (by omega)
              have u2 : IntKind.u64.wrap f = f := IntWalk.u64_in _ (by omega)
              obtain ⟨S, hS⟩ : ∃ S, S = t + z2 := ⟨_, rfl⟩
              have d4 : IntKind.i64.wrap (t + z2) = S := by rw [hS]; exact IntWalk.i64_in _ (by have := NOW.out; have := K60.out; omega)
              have HFE := hid (show wf64 S ∧ wf64 z1 by unfold wf64; have := NOW.out; have := K60.out; omega)
              clear hmn z00 z01 z10 z11 z20 z21 z30 z31 hS
              have bx := P4.out.bx
              obtain ⟨sw, sm, se, sv⟩ := s
              simp only at bx m0 m1 m2 m3
              go_upto_region 18 with fail
              refine wp_region_last (S := (fun w' => (w'.heap[x]? = some (.cells #[.int .i64 sw, .int .i64 sm, .int .i64 se, .int .i64 sv] 29)))) 29 29 #[false, false, false, false, false, false, false, false, false, false, false, false, false, false, false, false, false, false, false, false, false, false, false, false, false, false, false, false, false, true] (by kernel_rfl) (by kernel_rfl) (by kernel_rfl) (by kernel_rfl) bx (fun hHeld => ?_)
              try dsimp only at hHeld
              refine' wpAnyH_take (i := 0) (v := _) rfl (by kernel_rfl) (by kernel_rfl) (by kernel_rfl) (fun _ _ _ h => h) (Or.inl ⟨by rfl, ?_⟩) hHeld ?_
              rotate_left
              · (intro w hSw; (try dsimp only at hSw); go_simp; try with_reducible rfl)
              try simp only [Act.put, List.setIfInBounds_toArray, List.set_cons_zero, List.set_cons_succ, List.getElem_toArray, List.getElem_cons_succ, List.getElem_cons_zero]
              refine' wpAnyH_take (i := 1) (v := _) rfl (by kernel_rfl) (by kernel_rfl) (by kernel_rfl) (fun _ _ _ h => h) (Or.inl ⟨by rfl, ?_⟩) hHeld ?_
              rotate_left
              · (intro w hSw; (try dsimp only at hSw); have bx := hSw; have e0 := at_cell bx 0; have e1 := at_cell bx 1; have e2 := at_cell bx 2; have e3 := at_cell bx 3; go_simp; try with_reducible rfl)
              try simp only [Act.put, List.setIfInBounds_toArray, List.set_cons_zero, List.set_cons_succ, List.getElem_toArray, List.getElem_cons_succ, List.getElem_cons_zero]
              refine' wpAnyH_take (i := 2) (v := _) rfl (by kernel_rfl) (by kernel_rfl) (by kernel_rfl) (fun _ _ _ h => h) (Or.inl ⟨by rfl, ?_⟩) hHeld ?_
              rotate_left
              · (intro w hSw; (try dsimp only at hSw); go_simp; try with_reducible rfl)
              try simp only [Act.put, List.setIfInBounds_toArray, List.set_cons_zero, List.set_cons_succ, List.getElem_toArray, List.getElem_cons_succ, List.getElem_cons_zero]
              refine' wpAnyH_take (i := 3) (v := _) rfl (by kernel_rfl) (by kernel_rfl) (by kernel_rfl) (fun _ _ _ h => h) (Or.inl ⟨by rfl, ?_⟩) hHeld ?_
              rotate_left
              · (intro w hSw; (try dsimp only at hSw); go_simp; try with_reducible rfl)
              try simp only [Act.put, List.setIfInBounds_toArray, List.set_cons_zero, List.set_cons_succ, List.getElem_toArray, List.getElem_cons_succ, List.getElem_cons_zero]
              refine' wpAnyH_take (i := 4) (v := _) rfl (by kernel_rfl) (by kernel_rfl) (by kernel_rfl) (fun _ _ _ h => h) (Or.inl ⟨by rfl, ?_⟩) hHeld ?_
              rotate_left
              · (intro w hSw; (try dsimp only at hSw); go_simp; try with_reducible rfl)
              try simp only [Act.put, List.setIfInBounds_toArray, List.set_cons_zero, List.set_cons_succ, List.getElem_toArray, List.getElem_cons_succ, List.getElem_cons_zero]
              refine' wpAnyH_take (i := 5) (v := _) rfl (by kernel_rfl) (by kernel_rfl) (by kernel_rfl) (fun _ _ _ h => h) (Or.inl ⟨by rfl, ?_⟩) hHeld ?_
              rotate_left
              · (intro w hSw; (try dsimp only at hSw); go_simp; try with_reducible rfl)
              try simp only [Act.put, List.setIfInBounds_toArray, List.set_cons_zero, List.set_cons_succ, List.getElem_toArray, List.getElem_cons_succ, List.getElem_cons_zero]
              refine' wpAnyH_take (i := 6) (v := _) rfl (by kernel_rfl) (by kernel_rfl) (by kernel_rfl) (fun _ _ _ h => h) (Or.inl ⟨by rfl, ?_⟩) hHeld ?_
              rotate_left
              · (intro w hSw; (try dsimp only at hSw); go_simp; try with_reducible rfl)
              try simp only [Act.put, List.setIfInBounds_toArray, List.set_cons_zero, List.set_cons_succ, List.getElem_toArray, List.getElem_cons_succ, List.getElem_cons_zero]
              refine' wpAnyH_take (i := 7) (v := _) rfl (by kernel_rfl) (by kernel_rfl) (by kernel_rfl) (fun _ _ _ h => h) (Or.inl ⟨by rfl, ?_⟩) hHeld ?_
              rotate_left
              · (intro w hSw; (try dsimp only at hSw); go_simp; try with_reducible rfl)
              try simp only [Act.put, List.setIfInBounds_toArray, List.set_cons_zero, List.set_cons_succ, List.getElem_toArray, List.getElem_cons_succ, List.getElem_cons_zero]
              refine' wpAnyH_take (i := 8) (v := _) rfl (by kernel_rfl) (by kernel_rfl) (by kernel_rfl) (fun _ _ _ h => h) (Or.inl ⟨by rfl, ?_⟩) hHeld ?_
              rotate_left
              · (intro w hSw; (try dsimp only at hSw); have bx := hSw; have e0 := at_cell bx 0; have e1 := at_cell bx 1; have e2 := at_cell bx 2; have e3 := at_cell bx 3; go_simp; try with_reducible rfl)
              try simp only [Act.put, List.setIfInBounds_toArray, List.set_cons_zero, List.set_cons_succ, List.getElem_toArray, List.getElem_cons_succ, List.getElem_cons_zero]
              refine' wpAnyH_take (i := 9) (v := _) rfl (by kernel_rfl) (by kernel_rfl) (by kernel_rfl) (fun _ _ _ h => h) (Or.inl ⟨by rfl, ?_⟩) hHeld ?_
              rotate_left
              · (intro w hSw; (try dsimp only at hSw); go_simp; try with_reducible rfl)
              try simp only [Act.put, List.setIfInBounds_toArray, List.set_cons_zero, List.set_cons_succ, List.getElem_toArray, List.getElem_cons_succ, List.getElem_cons_zero]
              refine' wpAnyH_take (i := 10) (v := _) rfl (by kernel_rfl) (by kernel_rfl) (by kernel_rfl) (fun _ _ _ h => h) (Or.inl ⟨by rfl, ?_⟩) hHeld ?_
              rotate_left
              · (intro w hSw; (try dsimp only at hSw); go_simp; try with_reducible rfl)
              try simp only [Act.put, List.setIfInBounds_toArray, List.set_cons_zero, List.set_cons_succ, List.getElem_toArray, List.getElem_cons_succ, List.getElem_cons_zero]
              refine' wpAnyH_take (i := 11) (v := _) rfl (by kernel_rfl) (by kernel_rfl) (by kernel_rfl) (fun _ _ _ h => h) (Or.inl ⟨by rfl, ?_⟩) hHeld ?_
              rotate_left
              · (intro w hSw; (try dsimp only at hSw); go_simp; try with_reducible rfl)
              try simp only [Act.put, List.setIfInBounds_toArray, List.set_cons_zero, List.set_cons_succ, List.getElem_toArray, List.getElem_cons_succ, List.getElem_cons_zero]
              refine' wpAnyH_take (i := 12) (v := _) rfl (by kernel_rfl) (by kernel_rfl) (by kernel_rfl) (fun _ _ _ h => h) (Or.inl ⟨by rfl, ?_⟩) hHeld ?_
              rotate_left
              · (intro w hSw; (try dsimp only at hSw); go_simp; try with_reducible rfl)
              try simp only [Act.put, List.setIfInBounds_toArray, List.set_cons_zero, List.set_cons_succ, List.getElem_toArray, List.getElem_cons_succ, List.getElem_cons_zero]
              refine' wpAnyH_take (i := 13) (v := _) rfl (by kernel_rfl) (by kernel_rfl) (by kernel_rfl) (fun _ _ _ h => h) (Or.inl ⟨by rfl, ?_⟩) hHeld ?_
              rotate_left
              · (intro w hSw; (try dsimp only at hSw); go_simp; try with_reducible rfl)
              try simp only [Act.put, List.setIfInBounds_toArray, List.set_cons_zero, List.set_cons_succ, List.getElem_toArray, List.getElem_cons_succ, List.getElem_cons_zero]
              refine' wpAnyH_take (i := 14) (v := _) rfl (by kernel_rfl) (by kernel_rfl) (by kernel_rfl) (fun _ _ _ h => h) (Or.inl ⟨by rfl, ?_⟩) hHeld ?_
              rotate_left
              · (intro w hSw; (try dsimp only at hSw); go_simp; try with_reducible rfl)
              try simp only [Act.put, List.setIfInBounds_toArray, List.set_cons_zero, List.set_cons_succ, List.getElem_toArray, List.getElem_cons_succ, List.getElem_cons_zero]
              refine' wpAnyH_take (i := 15) (v := _) rfl (by kernel_rfl) (by kernel_rfl) (by kernel_rfl) (fun _ _ _ h => h) (Or.inl ⟨by rfl, ?_⟩) hHeld ?_
              rotate_left
              · (intro w hSw; (try dsimp only at hSw); go_simp; try with_reducible rfl)
              try simp only [Act.put, List.setIfInBounds_toArray, List.set_cons_zero, List.set_cons_succ, List.getElem_toArray, List.getElem_cons_succ, List.getElem_cons_zero]
              refine' wpAnyH_take (i := 16) (v := _) rfl (by kernel_rfl) (by kernel_rfl) (by kernel_rfl) (fun _ _ _ h => h) (Or.inl ⟨by rfl, ?_⟩) hHeld ?_
              rotate_left
              · (intro w hSw; (try dsimp only at hSw); have bx := hSw; have e0 := at_cell bx 0; have e1 := at_cell bx 1; have e2 := at_cell bx 2; have e3 := at_cell bx 3; go_simp; try with_reducible rfl)
              try simp only [Act.put, List.setIfInBounds_toArray, List.set_cons_zero, List.set_cons_succ, List.getElem_toArray, List.getElem_cons_succ, List.getElem_cons_zero]
              refine' wpAnyH_take (i := 17) (v := _) rfl (by kernel_rfl) (by kernel_rfl) (by kernel_rfl) (fun _ _ _ h => h) (Or.inl ⟨by rfl, ?_⟩) hHeld ?_
              rotate_left
              · (intro w hSw; (try dsimp only at hSw); go_simp; try with_reducible rfl)
              try simp only [Act.put, List.setIfInBounds_toArray, List.set_cons_zero, List.set_cons_succ, List.getElem_toArray, List.getElem_cons_succ, List.getElem_cons_zero]
              refine' wpAnyH_take (i := 18) (v := _) rfl (by kernel_rfl) (by kernel_rfl) (by kernel_rfl) (fun _ _ _ h => h) (Or.inl ⟨by rfl, ?_⟩) hHeld ?_
              rotate_left
              · (intro w hSw; (try dsimp only at hSw); go_simp; try with_reducible rfl)
              try simp only [Act.put, List.setIfInBounds_toArray, List.set_cons_zero, List.set_cons_succ, List.getElem_toArray, List.getElem_cons_succ, List.getElem_cons_zero]
              refine' wpAnyH_take (i := 19) (v := _) rfl (by kernel_rfl) (by kernel_rfl) (by kernel_rfl) (fun _ _ _ h => h) (Or.inl ⟨by rfl, ?_⟩) hHeld ?_
              rotate_left
              · (intro w hSw; (try dsimp only at hSw); go_simp; try with_reducible rfl)
              try simp only [Act.put, List.setIfInBounds_toArray, List.set_cons_zero, List.set_cons_succ, List.getElem_toArray, List.getElem_cons_succ, List.getElem_cons_zero]
              refine' wpAnyH_take (i := 20) (v := _) rfl (by kernel_rfl) (by kernel_rfl) (by kernel_rfl) (fun _ _ _ h => h) (Or.inl ⟨by rfl, ?_⟩) hHeld ?_
              rotate_left
              · (intro w hSw; (try dsimp only at hSw); go_simp; try with_reducible rfl)
              try simp only [Act.put, List.setIfInBounds_toArray, List.set_cons_zero, List.set_cons_succ, List.getElem_toArray, List.getElem_cons_succ, List.getElem_cons_zero]
              refine' wpAnyH_take (i := 21) (v := _) rfl (by kernel_rfl) (by kernel_rfl) (by kernel_rfl) (fun _ _ _ h => h) (Or.inl ⟨by rfl, ?_⟩) hHeld ?_
              rotate_left
              · (intro w hSw; (try dsimp only at hSw); go_simp; try with_reducible rfl)
              try simp only [Act.put, List.setIfInBounds_toArray, List.set_cons_zero, List.set_cons_succ, List.getElem_toArray, List.getElem_cons_succ, List.getElem_cons_zero]
              refine' wpAnyH_take (i := 22) (v := _) rfl (by kernel_rfl) (by kernel_rfl) (by kernel_rfl) (fun _ _ _ h => h) (Or.inl ⟨by rfl, ?_⟩) hHeld ?_
              rotate_left
              · (intro w hSw; (try dsimp only at hSw); go_simp; try with_reducible rfl)
              try simp only [Act.put, List.setIfInBounds_toArray, List.set_cons_zero, List.set_cons_succ, List.getElem_toArray, List.getElem_cons_succ, List.getElem_cons_zero]
              refine' wpAnyH_take (i := 23) (v := _) rfl (by kernel_rfl) (by kernel_rfl) (by kernel_rfl) (fun _ _ _ h => h) (Or.inl ⟨by rfl, ?_⟩) hHeld ?_
              rotate_left
              · (intro w hSw; (try dsimp only at hSw); go_simp; try with_reducible rfl)
              try simp only [Act.put, List.setIfInBounds_toArray, List.set_cons_zero, List.set_cons_succ, List.getElem_toArray, List.getElem_cons_succ, List.getElem_cons_zero]
              refine' wpAnyH_take (i := 24) (v := _) rfl (by kernel_rfl) (by kernel_rfl) (by kernel_rfl) (fun _ _ _ h => h) (Or.inl ⟨by rfl, ?_⟩) hHeld ?_
              rotate_left
              · (intro w hSw; (try dsimp only at hSw); have bx := hSw; have e0 := at_cell bx 0; have e1 := at_cell bx 1; have e2 := at_cell bx 2; have e3 := at_cell bx 3; go_simp; try with_reducible rfl)
              try simp only [Act.put, List.setIfInBounds_toArray, List.set_cons_zero, List.set_cons_succ, List.getElem_toArray, List.getElem_cons_succ, List.getElem_cons_zero]
              refine' wpAnyH_take (i := 25) (v := _) rfl (by kernel_rfl) (by kernel_rfl) (by kernel_rfl) (fun _ _ _ h => h) (Or.inl ⟨by rfl, ?_⟩) hHeld ?_
              rotate_left
              · (intro w hSw; (try dsimp only at hSw); go_simp; try with_reducible rfl)
              try simp only [Act.put, List.setIfInBounds_toArray, List.set_cons_zero, List.set_cons_succ, List.getElem_toArray, List.getElem_cons_succ, List.getElem_cons_zero]
              refine' wpAnyH_take (i := 26) (v := _) rfl (by kernel_rfl) (by kernel_rfl) (by kernel_rfl) (fun _ _ _ h => h) (Or.inl ⟨by rfl, ?_⟩) hHeld ?_
              rotate_left
              · (intro w hSw; (try dsimp only at hSw); go_simp; try with_reducible rfl)
              try simp only [Act.put, List.setIfInBounds_toArray, List.set_cons_zero, List.set_cons_succ, List.getElem_toArray, List.getElem_cons_succ, List.getElem_cons_zero]
              refine' wpAnyH_take (i := 27) (v := _) rfl (by kernel_rfl) (by kernel_rfl) (by kernel_rfl) (fun _ _ _ h => h) (Or.inl ⟨by rfl, ?_⟩) hHeld ?_
              rotate_left
              · (intro w hSw; (try dsimp only at hSw); go_simp; try with_reducible rfl)
              try simp only [Act.put, List.setIfInBounds_toArray, List.set_cons_zero, List.set_cons_succ, List.getElem_toArray, List.getElem_cons_succ, List.getElem_cons_zero]
              refine' wpAnyH_take (i := 28) (v := _) rfl (by kernel_rfl) (by kernel_rfl) (by kernel_rfl) (fun _ _ _ h => h) (Or.inl ⟨by rfl, ?_⟩) hHeld ?_
              rotate_left
              · (intro w hSw; (try dsimp only at hSw); go_simp; try with_reducible rfl)
              try simp only [Act.put, List.setIfInBounds_toArray, List.set_cons_zero, List.set_cons_succ, List.getElem_toArray, List.getElem_cons_succ, List.getElem_cons_zero]
              refine wpAnyH_done (by kernel_rfl) ?_ _
              have bx := hHeld
              refine atLast_step (o := _) rfl (fun K hK => ?_)
              try simp only [List.getElem_toArray, List.getElem_cons_succ, List.getElem_cons_zero]
              rw [if_pos (by rfl)]
              refine Go.wp_store_row _ _ _ rfl x #[.int .i64 z0, .int .i64 z1, .int .i64 S, .int .i64 z3] rfl rfl _ _ bx (by kernel_rfl) (by kernel_rfl) (by kernel_rfl) ?_
              refine hK.out _ _ ?_
              clear hK K
              try simp only [Act.put, List.setIfInBounds_toArray, List.set_cons_zero, List.set_cons_succ, List.getElem_toArray, List.getElem_cons_succ, List.getElem_cons_zero]
              have HP := hid (P4.out.drew.made (s' := ⟨z0, z1, S, z3⟩) OFF.out)
              clear bx
              generalize w4.drew.setRow x #[.int .i64 z0, .int .i64 z1, .int .i64 S, .int .i64 z3] = w5 at *
              go_wp2_with fail
              go_meet
              exact ⟨_, HFE.out, HP.out⟩
            · have h5 : (3 : Int) ≤ (k : Int) % 4 := by omega
              clear h4
              go_wp2_with fail
              go_meet
              exact ⟨s, FE0.out, P4.out⟩
          case rest =>
            obtain ⟨s, hfe, hp⟩ := hcut
            have P5 := hid hp; have FE := hid hfe
            clear hp hfe P4 OFF FE0
            have T0 := hid P5.out.tp
            have hlen := LEN5.out; have he := FE.out.1; have ht := NOW.out.2.2
            have bx := P5.out.bx
            go_upto_region 19 with fail
            refine wp_region_held_drew (S := (fun w' => (w'.heap[x]? = some (.cells #[.int .i64 s.who, .int .i64 s.met, .int .i64 s.ep, .int .i64 s.val] 29)))) (by kernel_rfl) bx (fun hHeld => ?_)
            try dsimp only at hHeld
            refine' wpAnyH_take (i := 0) (v := _) rfl (by kernel_rfl) (by kernel_rfl) (by kernel_rfl) (fun _ _ _ h => h) (Or.inl ⟨by rfl, ?_⟩) hHeld ?_
            rotate_left
            · (intro w hSw; (try dsimp only at hSw); go_simp; try with_reducible rfl)
            try simp only [Act.put, List.setIfInBounds_toArray, List.set_cons_zero, List.set_cons_succ, List.getElem_toArray, List.getElem_cons_succ, List.getElem_cons_zero]
            refine' wpAnyH_take (i := 1) (v := _) rfl (by kernel_rfl) (by kernel_rfl) (by kernel_rfl) (fun _ _ _ h => h) (Or.inl ⟨by rfl, ?_⟩) hHeld ?_
            rotate_left
            · (intro w hSw; (try dsimp only at hSw); have bx := hSw; have e0 := at_cell bx 0; have e1 := at_cell bx 1; have e2 := at_cell bx 2; have e3 := at_cell bx 3; go_simp; try with_reducible rfl)
            try simp only [Act.put, List.setIfInBounds_toArray, List.set_cons_zero, List.set_cons_succ, List.getElem_toArray, List.getElem_cons_succ, List.getElem_cons_zero]
            refine' wpAnyH_take (i := 2) (v := _) rfl (by kernel_rfl) (by kernel_rfl) (by kernel_rfl) (fun _ _ _ h => h) (Or.inl ⟨by rfl, ?_⟩) hHeld ?_
            rotate_left
            · (intro w hSw; (try dsimp only at hSw); go_simp; try with_reducible rfl)
            try simp only [Act.put, List.setIfInBounds_toArray, List.set_cons_zero, List.set_cons_succ, List.getElem_toArray, List.getElem_cons_succ, List.getElem_cons_zero]
            refine' wpAnyH_take (i := 4) (v := _) rfl (by kernel_rfl) (by kernel_rfl) (by kernel_rfl) (fun _ _ _ h => h) (Or.inl ⟨by rfl, ?_⟩) hHeld ?_
            rotate_left
            · (intro w hSw; (try dsimp only at hSw); go_simp; try with_reducible rfl)
            try simp only [Act.put, List.setIfInBounds_toArray, List.set_cons_zero, List.set_cons_succ, List.getElem_toArray, List.getElem_cons_succ, List.getElem_cons_zero]
            refine' wpAnyH_take (i := 5) (v := _) rfl (by kernel_rfl) (by kernel_rfl) (by kernel_rfl) (fun _ _ _ h => h) (Or.inl ⟨by rfl, ?_⟩) hHeld ?_
            rotate_left
            · (intro w hSw; (try dsimp only at hSw); have bx := hSw; have e0 := at_cell bx 0; have e1 := at_cell bx 1; have e2 := at_cell bx 2; have e3 := at_cell bx 3; go_simp; try with_reducible rfl)
            try simp only [Act.put, List.setIfInBounds_toArray, List.set_cons_zero, List.set_cons_succ, List.getElem_toArray, List.getElem_cons_succ, List.getElem_cons_zero]
            refine' wpAnyH_take (i := 6) (v := _) rfl (by kernel_rfl) (by kernel_rfl) (by kernel_rfl) (fun _ _ _ h => h) (Or.inl ⟨by rfl, ?_⟩) hHeld ?_
            rotate_left
            · (intro w hSw; (try dsimp only at hSw); go_simp; try with_reducible rfl)
            try simp only [Act.put, List.setIfInBounds_toArray, List.set_cons_zero, List.set_cons_succ, List.getElem_toArray, List.getElem_cons_succ, List.getElem_cons_zero]
            refine wpAnyH_ready (rs := [3]) (by kernel_rfl) (by simp) ?_
            refine AllReadyH.cons (o := _) rfl (fun K hK => ?_) AllReadyH.nil
            try simp only [List.getElem_toArray, List.getElem_cons_succ, List.getElem_cons_zero]
            go_simp
            have hH2 := hHeld
            have bx := hH2
            refine ((T0.out.drew.mayP hlen s t he ht rfl)).mono ?_
            rintro e w1003 ⟨rfl, hT, hg⟩
            have T3 := hid hT
            clear hT
            have L3 := hid (show (w1003.heap[x]? = some (.cells #[.int .i64 s.who, .int .i64 s.met, .int .i64 s.ep, .int .i64 s.val] 29)) from (hg.at bx HNB.out))
            clear hHeld hg bx
            go_wp2_with fail
            refine hK.out _ _ ?_ (fun hHeld => ?_)
            · exact L3.out
            clear hK K
            try dsimp only at hHeld
            try simp only [Act.put, List.setIfInBounds_toArray, List.set_cons_zero, List.set_cons_succ, List.getElem_toArray, List.getElem_cons_succ, List.getElem_cons_zero]
            refine wpAnyH_ready (rs := [7]) (by kernel_rfl) (by simp) ?_
            refine AllReadyH.cons (o := _) rfl (fun K hK => ?_) AllReadyH.nil
            try simp only [List.getElem_toArray, List.getElem_cons_succ, List.getElem_cons_zero]
            go_simp
            have hH2 := hHeld
            have bx := hH2
            refine ((T3.out.mayR hlen s t he ht rfl)).mono ?_
            rintro e w1007 ⟨rfl, hT, hg⟩
            have T7 := hid hT
            clear hT
            clear T3
            have L7 := hid (show (w1007.heap[x]? = some (.cells #[.int .i64 s.who, .int .i64 s.met, .int .i64 s.ep, .int .i64 s.val] 29)) from (hg.at bx HNB.out))
            clear hHeld hg bx
            go_wp2_with fail
            refine hK.out _ _ ?_ (fun hHeld => ?_)
            · exact L7.out
            clear hK K
            try dsimp only at hHeld
            try simp only [Act.put, List.setIfInBounds_toArray, List.set_cons_zero, List.set_cons_succ, List.getElem_toArray, List.getElem_cons_succ, List.getElem_cons_zero]
            refine' wpAnyH_take (i := 8) (v := _) rfl (by kernel_rfl) (by kernel_rfl) (by kernel_rfl) (fun _ _ _ h => h) (Or.inl ⟨by rfl, ?_⟩) hHeld ?_
            rotate_left
            · (intro w hSw; (try dsimp only at hSw); go_simp; try with_reducible rfl)
            try simp only [Act.put, List.setIfInBounds_toArray, List.set_cons_zero, List.set_cons_succ, List.getElem_toArray, List.getElem_cons_succ, List.getElem_cons_zero]
            refine' wpAnyH_take (i := 9) (v := _) rfl (by kernel_rfl) (by kernel_rfl) (by kernel_rfl) (fun _ _ _ h => h) (Or.inl ⟨by rfl, ?_⟩) hHeld ?_
            rotate_left
            · (intro w hSw; (try dsimp only at hSw); go_simp; try with_reducible rfl)
            try simp only [Act.put, List.setIfInBounds_toArray, List.set_cons_zero, List.set_cons_succ, List.getElem_toArray, List.getElem_cons_succ, List.getElem_cons_zero]
            refine' wpAnyH_take (i := 10) (v := _) rfl (by kernel_rfl) (by kernel_rfl) (by kernel_rfl) (fun _ _ _ h => h) (Or.inl ⟨by rfl, ?_⟩) hHeld ?_
            rotate_left
            · (intro w hSw; (try dsimp only at hSw); go_simp; try with_reducible rfl)
            try simp only [Act.put, List.setIfInBounds_toArray, List.set_cons_zero, List.set_cons_succ, List.getElem_toArray, List.getElem_cons_succ, List.getElem_cons_zero]
            refine' wpAnyH_take (i := 11) (v := _) rfl (by kernel_rfl) (by kernel_rfl) (by kernel_rfl) (fun _ _ _ h => h) (Or.inl ⟨by rfl, ?_⟩) hHeld ?_
            rotate_left
            · (intro w hSw; (try dsimp only at hSw); have bx := hSw; have e0 := at_cell bx 0; have e1 := at_cell bx 1; have e2 := at_cell bx 2; have e3 := at_cell bx 3; go_simp; try with_reducible rfl)
            try simp only [Act.put, List.setIfInBounds_toArray, List.set_cons_zero, List.set_cons_succ, List.getElem_toArray, List.getElem_cons_succ, List.getElem_cons_zero]
            refine' wpAnyH_take (i := 12) (v := _) rfl (by kernel_rfl) (by kernel_rfl) (by kernel_rfl) (fun _ _ _ h => h) (Or.inl ⟨by rfl, ?_⟩) hHeld ?_
            rotate_left
            · (intro w hSw; (try dsimp only at hSw); go_simp; try with_reducible rfl)
            try simp only [Act.put, List.setIfInBounds_toArray, List.set_cons_zero, List.set_cons_succ, List.getElem_toArray, List.getElem_cons_succ, List.getElem_cons_zero]
            refine' wpAnyH_take (i := 14) (v := _) rfl (by kernel_rfl) (by kernel_rfl) (by kernel_rfl) (fun _ _ _ h => h) (Or.inl ⟨by rfl, ?_⟩) hHeld ?_
            rotate_left
            · (intro w hSw; (try dsimp only at hSw); go_simp; try with_reducible rfl)
            try simp only [Act.put, List.setIfInBounds_toArray, List.set_cons_zero, List.set_cons_succ, List.getElem_toArray, List.getElem_cons_succ, List.getElem_cons_zero]
            refine' wpAnyH_take (i := 15) (v := _) rfl (by kernel_rfl) (by kernel_rfl) (by kernel_rfl) (fun _ _ _ h => h) (Or.inl ⟨by rfl, ?_⟩) hHeld ?_
            rotate_left
            · (intro w hSw; (try dsimp only at hSw); have bx := hSw; have e0 := at_cell bx 0; have e1 := at_cell bx 1; have e2 := at_cell bx 2; have e3 := at_cell bx 3; go_simp; try with_reducible rfl)
            try simp only [Act.put, List.setIfInBounds_toArray, List.set_cons_zero, List.set_cons_succ, List.getElem_toArray, List.getElem_cons_succ, List.getElem_cons_zero]
            refine' wpAnyH_take (i := 16) (v := _) rfl (by kernel_rfl) (by kernel_rfl) (by kernel_rfl) (fun _ _ _ h => h) (Or.inl ⟨by rfl, ?_⟩) hHeld ?_
            rotate_left
            · (intro w hSw; (try dsimp only at hSw); go_simp; try with_reducible rfl)
            try simp only [Act.put, List.setIfInBounds_toArray, List.set_cons_zero, List.set_cons_succ, List.getElem_toArray, List.getElem_cons_succ, List.getElem_cons_zero]
            refine wpAnyH_ready (rs := [13]) (by kernel_rfl) (by simp) ?_
            refine AllReadyH.cons (o := _) rfl (fun K hK => ?_) AllReadyH.nil
            try simp only [List.getElem_toArray, List.getElem_cons_succ, List.getElem_cons_zero]
            go_simp
            have hH2 := hHeld
            have bx := hH2
            refine ((T7.out.putP hlen s t he ht rfl rfl)).mono ?_
            rintro e w1013 ⟨rfl, hT, hg⟩
            have T13 := hid hT
            clear hT
            clear T7
            have L13 := hid (show (w1013.heap[x]? = some (.cells #[.int .i64 s.who, .int .i64 s.met, .int .i64 s.ep, .int .i64 s.val] 29)) from (hg.at bx HNB.out))
            clear hHeld hg bx
            go_wp2_with fail
            refine hK.out _ _ ?_ (fun hHeld => ?_)
            · exact L13.out
            clear hK K
            try dsimp only at hHeld
            try simp only [Act.put, List.setIfInBounds_toArray, List.set_cons_zero, List.set_cons_succ, List.getElem_toArray, List.getElem_cons_succ, List.getElem_cons_zero]
            refine wpAnyH_ready (rs := [17]) (by kernel_rfl) (by simp) ?_
            refine AllReadyH.cons (o := _) rfl (fun K hK => ?_) AllReadyH.nil
            try simp only [List.getElem_toArray, List.getElem_cons_succ, List.getElem_cons_zero]
            go_simp
            have hH2 := hHeld
            have bx := hH2
            refine ((T13.out.putR hlen s t he ht rfl rfl)).mono ?_
            rintro e w1017 ⟨rfl, hT, hg⟩
            have T17 := hid hT
            clear hT
            clear T13
            have L17 := hid (show (w1017.heap[x]? = some (.cells #[.int .i64 s.who, .int .i64 s.met, .int .i64 s.ep, .int .i64 s.val] 29)) from (hg.at bx HNB.out))
            clear hHeld hg bx
            go_wp2_with fail
            refine hK.out _ _ ?_ (fun hHeld => ?_)
            · exact L17.out
            clear hK K
            try dsimp only at hHeld
            try simp only [Act.put, List.setIfInBounds_toArray, List.set_cons_zero, List.set_cons_succ, List.getElem_toArray, List.getElem_cons_succ, List.getElem_cons_zero]
            refine' wpAnyH_take (i := 18) (v := _) rfl (by kernel_rfl) (by kernel_rfl) (by kernel_rfl) (fun _ _ _ h => h) (Or.inl ⟨by rfl, ?_⟩) hHeld ?_
            rotate_left
            · (intro w hSw; (try dsimp only at hSw); go_simp; try with_reducible rfl)
            try simp only [Act.put, List.setIfInBounds_toArray, List.set_cons_zero, List.set_cons_succ, List.getElem_toArray, List.getElem_cons_succ, List.getElem_cons_zero]
            refine' wpAnyH_take (i := 19) (v := _) rfl (by kernel_rfl) (by kernel_rfl) (by kernel_rfl) (fun _ _ _ h => h) (Or.inl ⟨by rfl, ?_⟩) hHeld ?_
            rotate_left
            · (intro w hSw; (try dsimp only at hSw); go_simp; try with_reducible rfl)
            try simp only [Act.put, List.setIfInBounds_toArray, List.set_cons_zero, List.set_cons_succ, List.getElem_toArray, List.getElem_cons_succ, List.getElem_cons_zero]
            refine wpAnyH_done (by kernel_rfl) ?_ _
            have bx := hHeld
            have BX := hid bx
            clear bx
            have T5 := hid T17.out
            clear hlen he ht
            go_wp2_with fail
            go_meet
            exact ⟨t, s, _, rfl, ⟨NOW.out.1, by have := NOW.out.2.1; omega, NOW.out.2.2⟩, FE.out, putT_le LK.out, ⟨T5.out, BX.out, HX.out⟩⟩
        · have hy2 : ¬ y < 6 := hy
          by_cases hy3 : y = 6
          · subst hy3
            clear hy hy2
            have z1 : IntKind.i64.wrap (t + 1) = t + 1 := IntWalk.i64_in _ (by have := NOW.out.1; have := NOW.out.2.1; have := K60.out; omega)
            go_wp2_with fail
            refine (P4.out.tp.dropP LEN5.out t).mono ?_
            rintro e w6 ⟨rfl, hT, hg⟩
            have T6 := hid hT
            have BX6 := hid (hg.at P4.out.bx HNB.out)
            clear hT hg
            go_wp2_with fail
            refine (T6.out.dropR LEN5.out t).mono ?_
            rintro e w7 ⟨rfl, hT, hg⟩
            have T7 := hid hT
            have BX7 := hid (hg.at BX6.out HNB.out)
            clear hT hg T6 BX6
            go_wp2_with fail
            go_meet
            exact ⟨t + 1, s, _, rfl, ⟨by have := NOW.out.1; omega, by have := NOW.out.2.1; omega, by unfold wf64; have := NOW.out.1; have := NOW.out.2.1; have := K60.out; omega⟩, FE0.out, Nat.le_trans (List.length_filter_le _ _) (by have := LK.out; omega), ⟨T7.out, BX7.out, HX.out⟩⟩
          · clear hy
            have T0 := hid P4.out.tp
            have hlen := LEN5.out; have he := FE0.out.1; have ht := NOW.out.2.2
            have bx := P4.out.bx
            go_upto_region 14 with fail
            refine wp_region_held_drew (S := (fun w' => (w'.heap[x]? = some (.cells #[.int .i64 s.who, .int .i64 s.met, .int .i64 s.ep, .int .i64 s.val] 29)))) (by kernel_rfl) bx (fun hHeld => ?_)
            try dsimp only at hHeld
            refine' wpAnyH_take (i := 0) (v := _) rfl (by kernel_rfl) (by kernel_rfl) (by kernel_rfl) (fun _ _ _ h => h) (Or.inl ⟨by rfl, ?_⟩) hHeld ?_
            rotate_left
            · (intro w hSw; (try dsimp only at hSw); go_simp; try with_reducible rfl)
            try simp only [Act.put, List.setIfInBounds_toArray, List.set_cons_zero, List.set_cons_succ, List.getElem_toArray, List.getElem_cons_succ, List.getElem_cons_zero]
            refine' wpAnyH_take (i := 1) (v := _) rfl (by kernel_rfl) (by kernel_rfl) (by kernel_rfl) (fun _ _ _ h => h) (Or.inl ⟨by rfl, ?_⟩) hHeld ?_
            rotate_left
            · (intro w hSw; (try dsimp only at hSw); have bx := hSw; have e0 := at_cell bx 0; have e1 := at_cell bx 1; have e2 := at_cell bx 2; have e3 := at_cell bx 3; go_simp; try with_reducible rfl)
            try simp only [Act.put, List.setIfInBounds_toArray, List.set_cons_zero, List.set_cons_succ, List.getElem_toArray, List.getElem_cons_succ, List.getElem_cons_zero]
            refine' wpAnyH_take (i := 2) (v := _) rfl (by kernel_rfl) (by kernel_rfl) (by kernel_rfl) (fun _ _ _ h => h) (Or.inl ⟨by rfl, ?_⟩) hHeld ?_
            rotate_left
            · (intro w hSw; (try dsimp only at hSw); go_simp; try with_reducible rfl)
            try simp only [Act.put, List.setIfInBounds_toArray, List.set_cons_zero, List.set_cons_succ, List.getElem_toArray, List.getElem_cons_succ, List.getElem_cons_zero]
            refine' wpAnyH_take (i := 3) (v := _) rfl (by kernel_rfl) (by kernel_rfl) (by kernel_rfl) (fun _ _ _ h => h) (Or.inl ⟨by rfl, ?_⟩) hHeld ?_
            rotate_left
            · (intro w hSw; (try dsimp only at hSw); have bx := hSw; have e0 := at_cell bx 0; have e1 := at_cell bx 1; have e2 := at_cell bx 2; have e3 := at_cell bx 3; go_simp; try with_reducible rfl)
            try simp only [Act.put, List.setIfInBounds_toArray, List.set_cons_zero, List.set_cons_succ, List.getElem_toArray, List.getElem_cons_succ, List.getElem_cons_zero]
            refine' wpAnyH_take (i := 5) (v := _) rfl (by kernel_rfl) (by kernel_rfl) (by kernel_rfl) (fun _ _ _ h => h) (Or.inl ⟨by rfl, ?_⟩) hHeld ?_
            rotate_left
            · (intro w hSw; (try dsimp only at hSw); go_simp; try with_reducible rfl)
            try simp only [Act.put, List.setIfInBounds_toArray, List.set_cons_zero, List.set_cons_succ, List.getElem_toArray, List.getElem_cons_succ, List.getElem_cons_zero]
            refine' wpAnyH_take (i := 6) (v := _) rfl (by kernel_rfl) (by kernel_rfl) (by kernel_rfl) (fun _ _ _ h => h) (Or.inl ⟨by rfl, ?_⟩) hHeld ?_
            rotate_left
            · (intro w hSw; (try dsimp only at hSw); have bx := hSw; have e0 := at_cell bx 0; have e1 := at_cell bx 1; have e2 := at_cell bx 2; have e3 := at_cell bx 3; go_simp; try with_reducible rfl)
            try simp only [Act.put, List.setIfInBounds_toArray, List.set_cons_zero, List.set_cons_succ, List.getElem_toArray, List.getElem_cons_succ, List.getElem_cons_zero]
            refine' wpAnyH_take (i := 7) (v := _) rfl (by kernel_rfl) (by kernel_rfl) (by kernel_rfl) (fun _ _ _ h => h) (Or.inl ⟨by rfl, ?_⟩) hHeld ?_
            rotate_left
            · (intro w hSw; (try dsimp only at hSw); go_simp; try with_reducible rfl)
            try simp only [Act.put, List.setIfInBounds_toArray, List.set_cons_zero, List.set_cons_succ, List.getElem_toArray, List.getElem_cons_succ, List.getElem_cons_zero]
            refine' wpAnyH_take (i := 8) (v := _) rfl (by kernel_rfl) (by kernel_rfl) (by kernel_rfl) (fun _ _ _ h => h) (Or.inl ⟨by rfl, ?_⟩) hHeld ?_
            rotate_left
            · (intro w hSw; (try dsimp only at hSw); have bx := hSw; have e0 := at_cell bx 0; have e1 := at_cell bx 1; have e2 := at_cell bx 2; have e3 := at_cell bx 3; go_simp; try with_reducible rfl)
            try simp only [Act.put, List.setIfInBounds_toArray, List.set_cons_zero, List.set_cons_succ, List.getElem_toArray, List.getElem_cons_succ, List.getElem_cons_zero]
            refine wpAnyH_ready (rs := [4]) (by kernel_rfl) (by simp) ?_
            refine AllReadyH.cons (o := _) rfl (fun K hK => ?_) AllReadyH.nil
            try simp only [List.getElem_toArray, List.getElem_cons_succ, List.getElem_cons_zero]
            go_simp
            have hH2 := hHeld
            have bx := hH2
            refine ((T0.out.drew.mayP hlen s s.ep he he rfl)).mono ?_
            rintro e w1004 ⟨rfl, hT, hg⟩
            have T4 := hid hT
            clear hT
            have L4 := hid (show (w1004.heap[x]? = some (.cells #[.int .i64 s.who, .int .i64 s.met, .int .i64 s.ep, .int .i64 s.val] 29)) from (hg.at bx HNB.out))
            clear hHeld hg bx
            go_wp2_with fail
            refine hK.out _ _ ?_ (fun hHeld => ?_)
            · exact L4.out
            clear hK K
            try dsimp only at hHeld
            try simp only [Act.put, List.setIfInBounds_toArray, List.set_cons_zero, List.set_cons_succ, List.getElem_toArray, List.getElem_cons_succ, List.getElem_cons_zero]
            refine wpAnyH_ready (rs := [9]) (by kernel_rfl) (by simp) ?_
            refine AllReadyH.cons (o := _) rfl (fun K hK => ?_) AllReadyH.nil
            try simp only [List.getElem_toArray, List.getElem_cons_succ, List.getElem_cons_zero]
            go_simp
            have hH2 := hHeld
            have bx := hH2
            refine ((T4.out.mayR hlen s s.ep he he rfl)).mono ?_
            rintro e w1009 ⟨rfl, hT, hg⟩
            have T9 := hid hT
            clear hT
            clear T4
            have L9 := hid (show (w1009.heap[x]? = some (.cells #[.int .i64 s.who, .int .i64 s.met, .int .i64 s.ep, .int .i64 s.val] 29)) from (hg.at bx HNB.out))
            clear hHeld hg bx
            go_wp2_with fail
            refine hK.out _ _ ?_ (fun hHeld => ?_)
            · exact L9.out
            clear hK K
            try dsimp only at hHeld
            try simp only [Act.put, List.setIfInBounds_toArray, List.set_cons_zero, List.set_cons_succ, List.getElem_toArray, List.getElem_cons_succ, List.getElem_cons_zero]
            refine' wpAnyH_take (i := 10) (v := _) rfl (by kernel_rfl) (by kernel_rfl) (by kernel_rfl) (fun _ _ _ h => h) (Or.inl ⟨by rfl, ?_⟩) hHeld ?_
            rotate_left
            · (intro w hSw; (try dsimp only at hSw); go_simp; try with_reducible rfl)
            try simp only [Act.put, List.setIfInBounds_toArray, List.set_cons_zero, List.set_cons_succ, List.getElem_toArray, List.getElem_cons_succ, List.getElem_cons_zero]
            refine' wpAnyH_take (i := 11) (v := _) rfl (by kernel_rfl) (by kernel_rfl) (by kernel_rfl) (fun _ _ _ h => h) (Or.inl ⟨by rfl, ?_⟩) hHeld ?_
            rotate_left
            · (intro w hSw; (try dsimp only at hSw); go_simp; try with_reducible rfl)
            try simp only [Act.put, List.setIfInBounds_toArray, List.set_cons_zero, List.set_cons_succ, List.getElem_toArray, List.getElem_cons_succ, List.getElem_cons_zero]
            refine' wpAnyH_take (i := 12) (v := _) rfl (by kernel_rfl) (by kernel_rfl) (by kernel_rfl) (fun _ _ _ h => h) (Or.inl ⟨by rfl, ?_⟩) hHeld ?_
            rotate_left
            · (intro w hSw; (try dsimp only at hSw); go_simp; try with_reducible rfl)
            try simp only [Act.put, List.setIfInBounds_toArray, List.set_cons_zero, List.set_cons_succ, List.getElem_toArray, List.getElem_cons_succ, List.getElem_cons_zero]
            refine' wpAnyH_take (i := 13) (v := _) rfl (by kernel_rfl) (by kernel_rfl) (by kernel_rfl) (fun _ _ _ h => h) (Or.inl ⟨by rfl, ?_⟩) hHeld ?_
            rotate_left
            · (intro w hSw; (try dsimp only at hSw); have bx := hSw; have e0 := at_cell bx 0; have e1 := at_cell bx 1; have e2 := at_cell bx 2; have e3 := at_cell bx 3; go_simp; try with_reducible rfl)
            try simp only [Act.put, List.setIfInBounds_toArray, List.set_cons_zero, List.set_cons_succ, List.getElem_toArray, List.getElem_cons_succ, List.getElem_cons_zero]
            refine' wpAnyH_take (i := 14) (v := _) rfl (by kernel_rfl) (by kernel_rfl) (by kernel_rfl) (fun _ _ _ h => h) (Or.inl ⟨by rfl, ?_⟩) hHeld ?_
            rotate_left
            · (intro w hSw; (try dsimp only at hSw); go_simp; try with_reducible rfl)
            try simp only [Act.put, List.setIfInBounds_toArray, List.set_cons_zero, List.set_cons_succ, List.getElem_toArray, List.getElem_cons_succ, List.getElem_cons_zero]
            refine' wpAnyH_take (i := 16) (v := _) rfl (by kernel_rfl) (by kernel_rfl) (by kernel_rfl) (fun _ _ _ h => h) (Or.inl ⟨by rfl, ?_⟩) hHeld ?_
            rotate_left
            · (intro w hSw; (try dsimp only at hSw); go_simp; try with_reducible rfl)
            try simp only [Act.put, List.setIfInBounds_toArray, List.set_cons_zero, List.set_cons_succ, List.getElem_toArray, List.getElem_cons_succ, List.getElem_cons_zero]
            refine' wpAnyH_take (i := 17) (v := _) rfl (by kernel_rfl) (by kernel_rfl) (by kernel_rfl) (fun _ _ _ h => h) (Or.inl ⟨by rfl, ?_⟩) hHeld ?_
            rotate_left
            · (intro w hSw; (try dsimp only at hSw); have bx := hSw; have e0 := at_cell bx 0; have e1 := at_cell bx 1; have e2 := at_cell bx 2; have e3 := at_cell bx 3; go_simp; try with_reducible rfl)
            try simp only [Act.put, List.setIfInBounds_toArray, List.set_cons_zero, List.set_cons_succ, List.getElem_toArray, List.getElem_cons_succ, List.getElem_cons_zero]
            refine' wpAnyH_take (i := 18) (v := _) rfl (by kernel_rfl) (by kernel_rfl) (by kernel_rfl) (fun _ _ _ h => h) (Or.inl ⟨by rfl, ?_⟩) hHeld ?_
            rotate_left
            · (intro w hSw; (try dsimp only at hSw); go_simp; try with_reducible rfl)
            try simp only [Act.put, List.setIfInBounds_toArray, List.set_cons_zero, List.set_cons_succ, List.getElem_toArray, List.getElem_cons_succ, List.getElem_cons_zero]
            refine wpAnyH_ready (rs := [15]) (by kernel_rfl) (by simp) ?_
            refine AllReadyH.cons (o := _) rfl (fun K hK => ?_) AllReadyH.nil
            try simp only [List.getElem_toArray, List.getElem_cons_succ, List.getElem_cons_zero]
            go_simp
            have hH2 := hHeld
            have bx := hH2
            refine ((T9.out.mayP hlen s t he ht rfl)).mono ?_
            rintro e w1015 ⟨rfl, hT, hg⟩
            have T15 := hid hT
            clear hT
            clear T9
            have L15 := hid (show (w1015.heap[x]? = some (.cells #[.int .i64 s.who, .int .i64 s.met, .int .i64 s.ep, .int .i64 s.val] 29)) from (hg.at bx HNB.out))
            clear hHeld hg bx
            go_wp2_with fail
            refine hK.out _ _ ?_ (fun hHeld => ?_)
            · exact L15.out
            clear hK K
            try dsimp only at hHeld
            try simp only [Act.put, List.setIfInBounds_toArray, List.set_cons_zero, List.set_cons_succ, List.getElem_toArray, List.getElem_cons_succ, List.getElem_cons_zero]
            refine wpAnyH_ready (rs := [19]) (by kernel_rfl) (by simp) ?_
            refine AllReadyH.cons (o := _) rfl (fun K hK => ?_) AllReadyH.nil
            try simp only [List.getElem_toArray, List.getElem_cons_succ, List.getElem_cons_zero]
            go_simp
            have hH2 := hHeld
            have bx := hH2
            refine ((T15.out.mayR hlen s t he ht rfl)).mono ?_
            rintro e w1019 ⟨rfl, hT, hg⟩
            have T19 := hid hT
            clear hT
            clear T15
            have L19 := hid (show (w1019.heap[x]? = some (.cells #[.int .i64 s.who, .int .i64 s.met, .int .i64 s.ep, .int .i64 s.val] 29)) from (hg.at bx HNB.out))
            clear hHeld hg bx
            go_wp2_with fail
            refine hK.out _ _ ?_ (fun hHeld => ?_)
            · exact L19.out
            clear hK K
            try dsimp only at hHeld
            try simp only [Act.put, List.setIfInBounds_toArray, List.set_cons_zero, List.set_cons_succ, List.getElem_toArray, List.getElem_cons_succ, List.getElem_cons_zero]
            refine' wpAnyH_take (i := 20) (v := _) rfl (by kernel_rfl) (by kernel_rfl) (by kernel_rfl) (fun _ _ _ h => h) (Or.inl ⟨by rfl, ?_⟩) hHeld ?_
            rotate_left
            · (intro w hSw; (try dsimp only at hSw); go_simp; try with_reducible rfl)
            try simp only [Act.put, List.setIfInBounds_toArray, List.set_cons_zero, List.set_cons_succ, List.getElem_toArray, List.getElem_cons_succ, List.getElem_cons_zero]
            refine' wpAnyH_take (i := 21) (v := _) rfl (by kernel_rfl) (by kernel_rfl) (by kernel_rfl) (fun _ _ _ h => h) (Or.inl ⟨by rfl, ?_⟩) hHeld ?_
            rotate_left
            · (intro w hSw; (try dsimp only at hSw); go_simp; try with_reducible rfl)
            try simp only [Act.put, List.setIfInBounds_toArray, List.set_cons_zero, List.set_cons_succ, List.getElem_toArray, List.getElem_cons_succ, List.getElem_cons_zero]
            refine wpAnyH_done (by kernel_rfl) ?_ _
            have bx := hHeld
            have BX := hid bx
            clear bx
            have T5 := hid T19.out
            clear hlen he ht
            go_wp2_with fail
            go_meet
            exact ⟨t, s, L, rfl, ⟨NOW.out.1, by have := NOW.out.2.1; omega, NOW.out.2.2⟩, FE0.out, by have := LK.out; omega, ⟨T5.out, BX.out, HX.out⟩⟩
      case rest =>
        obtain ⟨t, s, L, rfl, hnow, hfe, hlk, hp⟩ := hcut
        have P5 := hid hp; have FE := hid hfe; have NOW := hid hnow; have LK := hid hlk
        clear hp hfe hnow hlk P4 OFF FE0 LEN5
        have T0 := hid P5.out.tp
        have bx := P5.out.bx
        obtain ⟨pr, cr, -, -, -, -, ho, ob⟩ := P5.out.tp.tr.cells
        have RD0 := hid ho.reads
        clear ho
        have HLEN := hid (show L.length ≤ 100000 by have := LK.out; have := K60.out; omega)
        have HL6 := hid (show L.length ≤ 1000000 by have := HLEN.out; omega)
        have HL7 := hid (show (ofT L s.ep s.met).length ≤ 1000000 from Nat.le_trans (ofT_len _ _ _) HL6.out)
        go_upto_region 25 with fail
        refine wp_region_held_drew (S := (fun w' => (w'.heap[rb]? = some (.cells #[.int .i64 n, .int .i64 m, .int .i64 f, .slice pr L.length cr] 40)) ∧ (w'.heap[x]? = some (.cells #[.int .i64 s.who, .int .i64 s.met, .int .i64 s.ep, .int .i64 s.val] 29)))) (by kernel_rfl) ⟨ob, bx⟩ (fun hHeld => ?_)
        try dsimp only at hHeld
        refine' wpAnyH_take (i := 0) (v := _) rfl (by kernel_rfl) (by kernel_rfl) (by kernel_rfl) (fun _ _ _ h => h) (Or.inl ⟨by rfl, ?_⟩) hHeld ?_
        rotate_left
        · (intro w hSw; (try dsimp only at hSw); go_simp; try with_reducible rfl)
        try simp only [Act.put, List.setIfInBounds_toArray, List.set_cons_zero, List.set_cons_succ, List.getElem_toArray, List.getElem_cons_succ, List.getElem_cons_zero]
        refine' wpAnyH_take (i := 2) (v := _) rfl (by kernel_rfl) (by kernel_rfl) (by kernel_rfl) (fun _ _ _ h => h) (Or.inl ⟨by rfl, ?_⟩) hHeld ?_
        rotate_left
        · (intro w hSw; (try dsimp only at hSw); go_simp; try with_reducible rfl)
        try simp only [Act.put, List.setIfInBounds_toArray, List.set_cons_zero, List.set_cons_succ, List.getElem_toArray, List.getElem_cons_succ, List.getElem_cons_zero]
        refine' wpAnyH_take (i := 3) (v := _) rfl (by kernel_rfl) (by kernel_rfl) (by kernel_rfl) (fun _ _ _ h => h) (Or.inl ⟨by rfl, ?_⟩) hHeld ?_
        rotate_left
        · (intro w hSw; (try dsimp only at hSw); go_simp; try with_reducible rfl)
        try simp only [Act.put, List.setIfInBounds_toArray, List.set_cons_zero, List.set_cons_succ, List.getElem_toArray, List.getElem_cons_succ, List.getElem_cons_zero]
        refine' wpAnyH_take (i := 4) (v := _) rfl (by kernel_rfl) (by kernel_rfl) (by kernel_rfl) (fun _ _ _ h => h) (Or.inl ⟨by rfl, ?_⟩) hHeld ?_
        rotate_left
        · (intro w hSw; (try dsimp only at hSw); go_simp; try with_reducible rfl)
        try simp only [Act.put, List.setIfInBounds_toArray, List.set_cons_zero, List.set_cons_succ, List.getElem_toArray, List.getElem_cons_succ, List.getElem_cons_zero]
        refine' wpAnyH_take (i := 5) (v := _) rfl (by kernel_rfl) (by kernel_rfl) (by kernel_rfl) (fun _ _ _ h => h) (Or.inl ⟨by rfl, ?_⟩) hHeld ?_
        rotate_left
        · (intro w hSw; (try dsimp only at hSw); obtain ⟨ob, bx⟩ := hSw; have q9 := at_cell ob 3; go_simp; try with_reducible rfl)
        try simp only [Act.put, List.setIfInBounds_toArray, List.set_cons_zero, List.set_cons_succ, List.getElem_toArray, List.getElem_cons_succ, List.getElem_cons_zero]
        refine wpAnyH_ready (rs := [1]) (by kernel_rfl) (by simp) ?_
        refine AllReadyH.cons (o := _) rfl (fun K hK => ?_) AllReadyH.nil
        try simp only [List.getElem_toArray, List.getElem_cons_succ, List.getElem_cons_zero]
        go_simp
        have hH2 := hHeld
        obtain ⟨ob, bx⟩ := hH2
        refine (all_any T0.out.drew.ta HLEN.out).mono ?_
        rintro e w1001 ⟨v1, rfl, hown, hg⟩
        have T1 := hid (T0.out.drew.grown hg)
        have V1 := hid hown.reads
        obtain ⟨pp1, cc1, rfl⟩ := hown.form
        have R1 := hid ((RD0.out.drew).grown hg)
        clear hown
        have L1 := hid (show (w1001.heap[rb]? = some (.cells #[.int .i64 n, .int .i64 m, .int .i64 f, .slice pr L.length cr] 40)) ∧ (w1001.heap[x]? = some (.cells #[.int .i64 s.who, .int .i64 s.met, .int .i64 s.ep, .int .i64 s.val] 29)) from ⟨at_grown ob hg (by simp), at_grown bx hg (by simp)⟩)
        clear hHeld hg ob bx
        go_wp2_with fail
        refine hK.out _ _ ?_ (fun hHeld => ?_)
        · exact L1.out
        clear hK K
        try dsimp only at hHeld
        try simp only [Act.put, List.setIfInBounds_toArray, List.set_cons_zero, List.set_cons_succ, List.getElem_toArray, List.getElem_cons_succ, List.getElem_cons_zero]
        refine wpAnyH_ready (rs := [6]) (by kernel_rfl) (by simp) ?_
        refine AllReadyH.cons (o := _) rfl (fun K hK => ?_) AllReadyH.nil
        try simp only [List.getElem_toArray, List.getElem_cons_succ, List.getElem_cons_zero]
        go_simp
        have hH2 := hHeld
        obtain ⟨ob, bx⟩ := hH2
        refine (sameS_any _ _ L L _ V1.out R1.out HL6.out HL6.out true (decide_eq_true rfl)).mono ?_
        rintro e w1006 ⟨rfl, hg⟩
        have T2 := hid (T1.out.grown hg)
        have L6 := hid (show (w1006.heap[rb]? = some (.cells #[.int .i64 n, .int .i64 m, .int .i64 f, .slice pr L.length cr] 40)) ∧ (w1006.heap[x]? = some (.cells #[.int .i64 s.who, .int .i64 s.met, .int .i64 s.ep, .int .i64 s.val] 29)) from ⟨at_grown ob hg (by simp), at_grown bx hg (by simp)⟩)
        clear hHeld hg ob bx
        go_wp2_with fail
        refine hK.out _ _ ?_ (fun hHeld => ?_)
        · exact L6.out
        clear hK K
        try dsimp only at hHeld
        try simp only [Act.put, List.setIfInBounds_toArray, List.set_cons_zero, List.set_cons_succ, List.getElem_toArray, List.getElem_cons_succ, List.getElem_cons_zero]
        refine' wpAnyH_take (i := 7) (v := _) rfl (by kernel_rfl) (by kernel_rfl) (by kernel_rfl) (fun _ _ _ h => h) (Or.inl ⟨by rfl, ?_⟩) hHeld ?_
        rotate_left
        · (intro w hSw; (try dsimp only at hSw); go_simp; try with_reducible rfl)
        try simp only [Act.put, List.setIfInBounds_toArray, List.set_cons_zero, List.set_cons_succ, List.getElem_toArray, List.getElem_cons_succ, List.getElem_cons_zero]
        refine' wpAnyH_take (i := 8) (v := _) rfl (by kernel_rfl) (by kernel_rfl) (by kernel_rfl) (fun _ _ _ h => h) (Or.inl ⟨by rfl, ?_⟩) hHeld ?_
        rotate_left
        · (intro w hSw; (try dsimp only at hSw); go_simp; try with_reducible rfl)
        try simp only [Act.put, List.setIfInBounds_toArray, List.set_cons_zero, List.set_cons_succ, List.getElem_toArray, List.getElem_cons_succ, List.getElem_cons_zero]
        refine' wpAnyH_take (i := 9) (v := _) rfl (by kernel_rfl) (by kernel_rfl) (by kernel_rfl) (fun _ _ _ h => h) (Or.inl ⟨by rfl, ?_⟩) hHeld ?_
        rotate_left
        · (intro w hSw; (try dsimp only at hSw); go_simp; try with_reducible rfl)
        try simp only [Act.put, List.setIfInBounds_toArray, List.set_cons_zero, List.set_cons_succ, List.getElem_toArray, List.getElem_cons_succ, List.getElem_cons_zero]
        refine' wpAnyH_take (i := 10) (v := _) rfl (by kernel_rfl) (by kernel_rfl) (by kernel_rfl) (fun _ _ _ h => h) (Or.inl ⟨by rfl, ?_⟩) hHeld ?_
        rotate_left
        · (intro w hSw; (try dsimp only at hSw); go_simp; try with_reducible rfl)
        try simp only [Act.put, List.setIfInBounds_toArray, List.set_cons_zero, List.set_cons_succ, List.getElem_toArray, List.getElem_cons_succ, List.getElem_cons_zero]
        refine' wpAnyH_take (i := 11) (v := _) rfl (by kernel_rfl) (by kernel_rfl) (by kernel_rfl) (fun _ _ _ h => h) (Or.inl ⟨by rfl, ?_⟩) hHeld ?_
        rotate_left
        · (intro w hSw; (try dsimp only at hSw); obtain ⟨ob, bx⟩ := hSw; have e0 := at_cell bx 0; have e1 := at_cell bx 1; have e2 := at_cell bx 2; have e3 := at_cell bx 3; go_simp; try with_reducible rfl)
        try simp only [Act.put, List.setIfInBounds_toArray, List.set_cons_zero, List.set_cons_succ, List.getElem_toArray, List.getElem_cons_succ, List.getElem_cons_zero]
        refine' wpAnyH_take (i := 12) (v := _) rfl (by kernel_rfl) (by kernel_rfl) (by kernel_rfl) (fun _ _ _ h => h) (Or.inl ⟨by rfl, ?_⟩) hHeld ?_
        rotate_left
        · (intro w hSw; (try dsimp only at hSw); go_simp; try with_reducible rfl)
        try simp only [Act.put, List.setIfInBounds_toArray, List.set_cons_zero, List.set_cons_succ, List.getElem_toArray, List.getElem_cons_succ, List.getElem_cons_zero]
        refine' wpAnyH_take (i := 13) (v := _) rfl (by kernel_rfl) (by kernel_rfl) (by kernel_rfl) (fun _ _ _ h => h) (Or.inl ⟨by rfl, ?_⟩) hHeld ?_
        rotate_left
        · (intro w hSw; (try dsimp only at hSw); obtain ⟨ob, bx⟩ := hSw; have e0 := at_cell bx 0; have e1 := at_cell bx 1; have e2 := at_cell bx 2; have e3 := at_cell bx 3; go_simp; try with_reducible rfl)
        try simp only [Act.put, List.setIfInBounds_toArray, List.set_cons_zero, List.set_cons_succ, List.getElem_toArray, List.getElem_cons_succ, List.getElem_cons_zero]
        refine' wpAnyH_take (i := 15) (v := _) rfl (by kernel_rfl) (by kernel_rfl) (by kernel_rfl) (fun _ _ _ h => h) (Or.inl ⟨by rfl, ?_⟩) hHeld ?_
        rotate_left
        · (intro w hSw; (try dsimp only at hSw); go_simp; try with_reducible rfl)
        try simp only [Act.put, List.setIfInBounds_toArray, List.set_cons_zero, List.set_cons_succ, List.getElem_toArray, List.getElem_cons_succ, List.getElem_cons_zero]
        refine' wpAnyH_take (i := 16) (v := _) rfl (by kernel_rfl) (by kernel_rfl) (by kernel_rfl) (fun _ _ _ h => h) (Or.inl ⟨by rfl, ?_⟩) hHeld ?_
        rotate_left
        · (intro w hSw; (try dsimp only at hSw); go_simp; try with_reducible rfl)
        try simp only [Act.put, List.setIfInBounds_toArray, List.set_cons_zero, List.set_cons_succ, List.getElem_toArray, List.getElem_cons_succ, List.getElem_cons_zero]
        refine' wpAnyH_take (i := 17) (v := _) rfl (by kernel_rfl) (by kernel_rfl) (by kernel_rfl) (fun _ _ _ h => h) (Or.inl ⟨by rfl, ?_⟩) hHeld ?_
        rotate_left
        · (intro w hSw; (try dsimp only at hSw); obtain ⟨ob, bx⟩ := hSw; have e0 := at_cell bx 0; have e1 := at_cell bx 1; have e2 := at_cell bx 2; have e3 := at_cell bx 3; go_simp; try with_reducible rfl)
        try simp only [Act.put, List.setIfInBounds_toArray, List.set_cons_zero, List.set_cons_succ, List.getElem_toArray, List.getElem_cons_succ, List.getElem_cons_zero]
        refine' wpAnyH_take (i := 18) (v := _) rfl (by kernel_rfl) (by kernel_rfl) (by kernel_rfl) (fun _ _ _ h => h) (Or.inl ⟨by rfl, ?_⟩) hHeld ?_
        rotate_left
        · (intro w hSw; (try dsimp only at hSw); go_simp; try with_reducible rfl)
        try simp only [Act.put, List.setIfInBounds_toArray, List.set_cons_zero, List.set_cons_succ, List.getElem_toArray, List.getElem_cons_succ, List.getElem_cons_zero]
        refine' wpAnyH_take (i := 19) (v := _) rfl (by kernel_rfl) (by kernel_rfl) (by kernel_rfl) (fun _ _ _ h => h) (Or.inl ⟨by rfl, ?_⟩) hHeld ?_
        rotate_left
        · (intro w hSw; (try dsimp only at hSw); obtain ⟨ob, bx⟩ := hSw; have e0 := at_cell bx 0; have e1 := at_cell bx 1; have e2 := at_cell bx 2; have e3 := at_cell bx 3; go_simp; try with_reducible rfl)
        try simp only [Act.put, List.setIfInBounds_toArray, List.set_cons_zero, List.set_cons_succ, List.getElem_toArray, List.getElem_cons_succ, List.getElem_cons_zero]
        refine wpAnyH_ready (rs := [14]) (by kernel_rfl) (by simp) ?_
        refine AllReadyH.cons (o := _) rfl (fun K hK => ?_) AllReadyH.nil
        try simp only [List.getElem_toArray, List.getElem_cons_succ, List.getElem_cons_zero]
        go_simp
        have hH2 := hHeld
        obtain ⟨ob, bx⟩ := hH2
        refine (of_any T2.out.ta HLEN.out s.ep s.met FE.out.1 FE.out.2).mono ?_
        rintro e w1014 ⟨v3, rfl, hown, hg⟩
        have T3 := hid (T2.out.grown hg)
        have V3 := hid hown.reads
        obtain ⟨pp3, cc3, rfl⟩ := hown.form
        clear hown
        have L14 := hid (show (w1014.heap[rb]? = some (.cells #[.int .i64 n, .int .i64 m, .int .i64 f, .slice pr L.length cr] 40)) ∧ (w1014.heap[x]? = some (.cells #[.int .i64 s.who, .int .i64 s.met, .int .i64 s.ep, .int .i64 s.val] 29)) from ⟨at_grown ob hg (by simp), at_grown bx hg (by simp)⟩)
        clear hHeld hg ob bx
        go_wp2_with fail
        refine hK.out _ _ ?_ (fun hHeld => ?_)
        · exact L14.out
        clear hK K
        try dsimp only at hHeld
        try simp only [Act.put, List.setIfInBounds_toArray, List.set_cons_zero, List.set_cons_succ, List.getElem_toArray, List.getElem_cons_succ, List.getElem_cons_zero]
        refine wpAnyH_ready (rs := [20]) (by kernel_rfl) (by simp) ?_
        refine AllReadyH.cons (o := _) rfl (fun K hK => ?_) AllReadyH.nil
        try simp only [List.getElem_toArray, List.getElem_cons_succ, List.getElem_cons_zero]
        go_simp
        have hH2 := hHeld
        obtain ⟨ob, bx⟩ := hH2
        refine (rof_any T3.out.tr HLEN.out s.ep s.met).mono ?_
        rintro e w1020 ⟨v4, rfl, hown, hg⟩
        have T4 := hid (T3.out.grown hg)
        have V4 := hid hown.reads
        have V3b := hid (V3.out.grown hg)
        obtain ⟨pp4, cc4, rfl⟩ := hown.form
        clear hown
        have L20 := hid (show (w1020.heap[rb]? = some (.cells #[.int .i64 n, .int .i64 m, .int .i64 f, .slice pr L.length cr] 40)) ∧ (w1020.heap[x]? = some (.cells #[.int .i64 s.who, .int .i64 s.met, .int .i64 s.ep, .int .i64 s.val] 29)) from ⟨at_grown ob hg (by simp), at_grown bx hg (by simp)⟩)
        clear hHeld hg ob bx
        go_wp2_with fail
        refine hK.out _ _ ?_ (fun hHeld => ?_)
        · exact L20.out
        clear hK K
        try dsimp only at hHeld
        try simp only [Act.put, List.setIfInBounds_toArray, List.set_cons_zero, List.set_cons_succ, List.getElem_toArray, List.getElem_cons_succ, List.getElem_cons_zero]
        refine wpAnyH_ready (rs := [21]) (by kernel_rfl) (by simp) ?_
        refine AllReadyH.cons (o := _) rfl (fun K hK => ?_) AllReadyH.nil
        try simp only [List.getElem_toArray, List.getElem_cons_succ, List.getElem_cons_zero]
        go_simp
        have hH2 := hHeld
        obtain ⟨ob, bx⟩ := hH2
        refine (sameS_any _ _ (ofT L s.ep s.met) (ofT L s.ep s.met) _ V3b.out V4.out HL7.out HL7.out true (decide_eq_true rfl)).mono ?_
        rintro e w1021 ⟨rfl, hg⟩
        have T5 := hid (T4.out.grown hg)
        have L21 := hid (show (w1021.heap[rb]? = some (.cells #[.int .i64 n, .int .i64 m, .int .i64 f, .slice pr L.length cr] 40)) ∧ (w1021.heap[x]? = some (.cells #[.int .i64 s.who, .int .i64 s.met, .int .i64 s.ep, .int .i64 s.val] 29)) from ⟨at_grown ob hg (by simp), at_grown bx hg (by simp)⟩)
        clear hHeld hg ob bx
        go_wp2_with fail
        refine hK.out _ _ ?_ (fun hHeld => ?_)
        · exact L21.out
        clear hK K
        try dsimp only at hHeld
        try simp only [Act.put, List.setIfInBounds_toArray, List.set_cons_zero, List.set_cons_succ, List.getElem_toArray, List.getElem_cons_succ, List.getElem_cons_zero]
        refine' wpAnyH_take (i := 22) (v := _) rfl (by kernel_rfl) (by kernel_rfl) (by kernel_rfl) (fun _ _ _ h => h) (Or.inl ⟨by rfl, ?_⟩) hHeld ?_
        rotate_left
        · (intro w hSw; (try dsimp only at hSw); go_simp; try with_reducible rfl)
        try simp only [Act.put, List.setIfInBounds_toArray, List.set_cons_zero, List.set_cons_succ, List.getElem_toArray, List.getElem_cons_succ, List.getElem_cons_zero]
        refine' wpAnyH_take (i := 23) (v := _) rfl (by kernel_rfl) (by kernel_rfl) (by kernel_rfl) (fun _ _ _ h => h) (Or.inl ⟨by rfl, ?_⟩) hHeld ?_
        rotate_left
        · (intro w hSw; (try dsimp only at hSw); go_simp; try with_reducible rfl)
        try simp only [Act.put, List.setIfInBounds_toArray, List.set_cons_zero, List.set_cons_succ, List.getElem_toArray, List.getElem_cons_succ, List.getElem_cons_zero]
        refine wpAnyH_done (by kernel_rfl) ?_ _
        obtain ⟨ob, bx⟩ := hHeld
        clear ob bx
        go_wp2_with fail
        go_roundw
        case rel => exact ⟨k + 1, t, L, by omega, by go_num, rfl, ⟨NOW.out.1, by have := NOW.out.2.1; omega, NOW.out.2.2⟩, LK.out, T5.out⟩
        case measure => simp [intOf]; omega
    · have hkl : k = len := by omega
      subst hkl
      clear hlt hk
      go_wp2_with fail
      refine (tbtold_any _).mono ?_
      rintro e w9 ⟨rfl, hg⟩
      have T9 := hid (T3.out.grown hg)
      clear hg T3
      go_wp2_with fail
      go_ret
      exact ⟨rfl, T9.out.gr⟩

theorem walk (n m f : Int) (len : Nat) (g : Nat → Nat → Int) (p : Option Addr) (c : Nat) {w : World} (hG : GridAt w (.slice p len c) 5 len g) (hwf : ∀ i, i < len → ∀ j, j < 5 → (Lit.int .i64 (g i j)).wf = true) :
    Calls Try.prog 3 #[.int .i64 n, .int .i64 m, .int .i64 f, .slice p len c] w fun e w' => e = .returned (.bool true) ∧ w.grownBy w' none := by
  by_cases hb : MayNew n m f
  · by_cases hl : len ≤ 60
    · exact walk_good n m f hb p c len hl g hG hwf
    · exact walk_long n m f hb p c len (by omega)
  · exact walk_bad n m f hb _
end Go.Proofs.Ytjjcnojckbeekaa.tbplays
