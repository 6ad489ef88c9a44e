/-
  Contracts for package ring's Key: the old key, what is no key. The condition of a call: the ring lies there; or it is nil. And 2 texts more that this one stands on. No condition.
-/
import Derived.Test.YtgpdcapnnejdeaaGreatY7
import Derived.Deep.RegionHeld3
section
set_option linter.unusedSimpArgs false
set_option linter.unusedVariables false
namespace Go.Proofs.YtgpdcapnnejdeaaGreat
set_option maxRecDepth 100000
open Go.RowKit

set_option maxHeartbeats 1600000 in
theorem rkey_old {b h : Nat} {r : Rg} (i : Nat) (now : Int) (w : World) (H : RgAt w b h r) (hi : i < r.n) (hg1 : 1 ≤ r.gen i) (hnow : now < r.since i + (r.grace : Int)) :
  Calls Tryz.prog 96 #[.pointer (some ⟨b, 0, none⟩), .int .i64 (i : Int), .int .i64 (r.gen i - 1), .int .i64 now] w fun e w' => e = .returned (.tuple #[.agg #[.int .u64 (q (ofOf r.seed i (r.gen i - 1)).a), .int .u64 (q (ofOf r.seed i (r.gen i - 1)).b)], .int .i64 0]) ∧ w.grownBy w' none := by
 have hok := H.ok
 have A0 := hid (AnsR.new H)
 clear H
 have hC := fun w' (A : AnsR w b h r w') => find_in i w' A.r hi
 have hH := fun w' (A : AnsR w b h r w') => A.r.cells hi
 have hT := fun w' (A : AnsR w b h r w') => A.r.tops
 have HO := hid (fun w => of_any r.seed (i : Int) (r.gen i - 1) w)
 generalize ofOf r.seed i (r.gen i - 1) = k at HO ⊢
 have q0 := hok.e0 i; have q1 := hok.e1 i; have q2 := hok.s0 i; have q3 := hok.s1 i; have q4 := hok.g1; have q5 := hok.g2
 clear hok
 generalize r.gen i = g at *
 generalize r.since i = s at *
 generalize r.grace = gr at *
 generalize r.seed = sd at *
 have HC := hid hC; have HH := hid hH; have HT := hid hT; clear hC hH hT
 have hne : (g - 1 == g) = false := by simp; omega
 go_enter Tryz.func96, Tryz.ntmps96
 go_wp2_with fail
 refine (HC.out _ A0.out).mono ?_
 rintro e w1 ⟨rfl, hw⟩
 have A1 := hid (show AnsR w b h r w1 from hw ▸ A0.out); clear hw A0
 obtain ⟨c0, c1, f0, f1⟩ := HH.out _ A1.out
 go_wp2_with fail
 refine (has_at _ rfl g _ c0).mono ?_
 rintro e w2 ⟨rfl, hw⟩
 have A2 := hid (show AnsR w b h r w2 from hw ▸ A1.out); clear hw A1 c0 c1 f0 f1
 obtain ⟨c0, c1, f0, f1⟩ := HH.out _ A2.out
 obtain ⟨t0, t1, t2⟩ := HT.out _ A2.out
 go_wp2_with fail
 refine (spares_yes h (i * 2) g s gr now _ c0 c1 hg1 q1 q2 q3 (by omega) (by omega) hnow).mono ?_
 rintro e w4 ⟨rfl, hw⟩
 have A4 := hid (show AnsR w b h r w4 from hw ▸ A2.out); clear hw A2 c0 c1 f0 f1 t0 t1 t2
 obtain ⟨t0, t1, t2⟩ := HT.out _ A4.out
 go_wp2_with fail
 refine (HO.out _).mono ?_
 rintro e w3 ⟨rfl, hg⟩
 have A3 := hid (A4.out.grown hg); clear hg t0 t1 t2 A4
 obtain ⟨x, y, c0, c1, f0, f1⟩ := A3.out.a.cells
 go_wp2_with fail
 clear c0 c1 f0 f1
 have hst := A3.out.a.store (.int .u64 (q k.a)) (.int .u64 (q k.b))
 generalize (w3.setCell ⟨w.heap.size, 0, none⟩ (.int .u64 (q k.a))).setCell ⟨w.heap.size, 1, none⟩ (.int .u64 (q k.b)) = wx at hst ⊢
 have r0 : wx.cell? ⟨w.heap.size, 0, none⟩ = some (.int .u64 (q k.a)) := at_cell hst.1 0
 have r1 : wx.cell? ⟨w.heap.size, 1, none⟩ = some (.int .u64 (q k.b)) := at_cell hst.1 1
 exact bodyPost_ret (v := .tuple #[.agg #[.int .u64 (q k.a), .int .u64 (q k.b)], .int .i64 0]) (by simp [results, Tryz.results96, go_sem, r0, r1]) rfl ⟨rfl, hst.2⟩

set_option maxHeartbeats 1600000 in
theorem rkey_gen {b h : Nat} {r : Rg} (i : Nat) (gen now : Int) (w : World) (H : RgAt w b h r) (hi : i < r.n) (hk : ¬ r.keyIs i gen now) :
  Calls Tryz.prog 96 #[.pointer (some ⟨b, 0, none⟩), .int .i64 (i : Int), .int .i64 gen, .int .i64 now] w fun e w' => e = .returned (.tuple #[.agg #[.int .u64 0, .int .u64 0], .int .i64 4]) ∧ w.grownBy w' none := by
 have hok := H.ok
 have A0 := hid (AnsR.new H)
 clear H
 have hC := fun w' (A : AnsR w b h r w') => find_in i w' A.r hi
 have hH := fun w' (A : AnsR w b h r w') => A.r.cells hi
 have hT := fun w' (A : AnsR w b h r w') => A.r.tops
 have q0 := hok.e0 i; have q1 := hok.e1 i; have q2 := hok.s0 i; have q3 := hok.s1 i; have q4 := hok.g1; have q5 := hok.g2
 clear hok
 unfold Rg.keyIs at hk
 generalize r.gen i = g at *
 generalize r.since i = s at *
 generalize r.grace = gr at *
 generalize r.seed = sd at *
 have HC := hid hC; have HH := hid hH; have HT := hid hT; clear hC hH hT
 have hne : (gen != g) = true := by simp; omega
 have hno : gen < 0 ∨ gen ≠ g - 1 ∨ s + (gr : Int) ≤ now := by omega
 have HK := hid hk; clear hk
 go_enter Tryz.func96, Tryz.ntmps96
 go_wp2_with fail
 refine (HC.out _ A0.out).mono ?_
 rintro e w1 ⟨rfl, hw⟩
 have A1 := hid (show AnsR w b h r w1 from hw ▸ A0.out); clear hw A0
 obtain ⟨c0, c1, f0, f1⟩ := HH.out _ A1.out
 go_wp2_with fail
 refine (has_at _ rfl g _ c0).mono ?_
 rintro e w2 ⟨rfl, hw⟩
 have A2 := hid (show AnsR w b h r w2 from hw ▸ A1.out); clear hw A1 c0 c1 f0 f1
 obtain ⟨c0, c1, f0, f1⟩ := HH.out _ A2.out
 obtain ⟨t0, t1, t2⟩ := HT.out _ A2.out
 go_wp2_with fail
 refine (spares_no h (i * 2) g s gr gen now _ c0 c1 q0 q1 q2 q3 (by omega) (by omega) hno).mono ?_
 rintro e w3 ⟨rfl, hw⟩
 have A3 := hid (show AnsR w b h r w3 from hw ▸ A2.out); clear hw A2 c0 c1 f0 f1 t0 t1 t2 hno
 obtain ⟨x, y, c0, c1, f0, f1⟩ := A3.out.a.cells
 go_wp2_with fail
 clear c0 c1 f0 f1
 have hst := A3.out.a.store (.int .u64 0) (.int .u64 0)
 generalize (w3.setCell ⟨w.heap.size, 0, none⟩ (.int .u64 0)).setCell ⟨w.heap.size, 1, none⟩ (.int .u64 0) = wx at hst ⊢
 have r0 : wx.cell? ⟨w.heap.size, 0, none⟩ = some (.int .u64 0) := at_cell hst.1 0
 have r1 : wx.cell? ⟨w.heap.size, 1, none⟩ = some (.int .u64 0) := at_cell hst.1 1
 exact bodyPost_ret (v := .tuple #[.agg #[.int .u64 0, .int .u64 0], .int .i64 4]) (by simp [results, Tryz.results96, go_sem, r0, r1]) rfl ⟨rfl, hst.2⟩

set_option maxHeartbeats 1600000 in
theorem rkey_who {b h : Nat} {r : Rg} (x gen now : Int) (w : World) (H : RgAt w b h r) (hx : x < 0 ∨ (r.n : Int) ≤ x) :
  Calls Tryz.prog 96 #[.pointer (some ⟨b, 0, none⟩), .int .i64 x, .int .i64 gen, .int .i64 now] w fun e w' => e = .returned (.tuple #[.agg #[.int .u64 0, .int .u64 0], .int .i64 3]) ∧ w.grownBy w' none := by
 have A0 := hid (AnsR.new H)
 have HC := hid (fun w' (A : AnsR w b h r w') => find_out x w' A.r hx)
 clear H
 go_enter Tryz.func96, Tryz.ntmps96
 go_wp2_with fail
 refine (HC.out _ A0.out).mono ?_
 rintro e w3 ⟨rfl, hw⟩
 have A3 := hid (show AnsR w b h r w3 from hw ▸ A0.out); clear hw A0
 obtain ⟨x, y, c0, c1, f0, f1⟩ := A3.out.a.cells
 go_wp2_with fail
 clear c0 c1 f0 f1
 have hst := A3.out.a.store (.int .u64 0) (.int .u64 0)
 generalize (w3.setCell ⟨w.heap.size, 0, none⟩ (.int .u64 0)).setCell ⟨w.heap.size, 1, none⟩ (.int .u64 0) = wx at hst ⊢
 have r0 : wx.cell? ⟨w.heap.size, 0, none⟩ = some (.int .u64 0) := at_cell hst.1 0
 have r1 : wx.cell? ⟨w.heap.size, 1, none⟩ = some (.int .u64 0) := at_cell hst.1 1
 exact bodyPost_ret (v := .tuple #[.agg #[.int .u64 0, .int .u64 0], .int .i64 3]) (by simp [results, Tryz.results96, go_sem, r0, r1]) rfl ⟨rfl, hst.2⟩

def Rg.key (r : Rg) (who gen now : Int) : Two64 × Int :=
 if 0 ≤ who ∧ who < (r.n : Int) then if r.keyIs who.toNat gen now then (ofOf r.seed who gen, 0) else (⟨0, 0⟩, 4) else (⟨0, 0⟩, 3)
def keyVal (k : Two64 × Int) : Value := .tuple #[.agg #[.int .u64 (q k.1.a), .int .u64 (q k.1.b)], .int .i64 k.2]
theorem rkey_any {b h : Nat} {r : Rg} (who gen now : Int) (w : World) (H : RgAt w b h r) :
  Calls Tryz.prog 96 #[.pointer (some ⟨b, 0, none⟩), .int .i64 who, .int .i64 gen, .int .i64 now] w fun e w' => e = .returned (keyVal (r.key who gen now)) ∧ w.grownBy w' none := by
 by_cases h0 : 0 ≤ who ∧ who < (r.n : Int)
 ·obtain ⟨i, rfl⟩ := Int.eq_ofNat_of_zero_le h0.1
  have hi : i < r.n := by have := h0.2; omega
  by_cases hk : r.keyIs i gen now
  ·rw [show r.key (i : Int) gen now = (ofOf r.seed i gen, 0) by unfold Rg.key; rw [if_pos h0, Int.toNat_natCast, if_pos hk]]
   obtain ⟨k0, rfl | ⟨rfl, hn⟩⟩ := hk
   ·exact rkey_now i now w H hi
   ·exact rkey_old i now w H hi (by omega) hn
  ·rw [show r.key (i : Int) gen now = (⟨0, 0⟩, 4) by unfold Rg.key; rw [if_pos h0, Int.toNat_natCast, if_neg hk]]
   exact rkey_gen i gen now w H hi hk
 ·rw [show r.key who gen now = (⟨0, 0⟩, 3) by unfold Rg.key; rw [if_neg h0]]
  exact rkey_who who gen now w H (by omega)
end Go.Proofs.YtgpdcapnnejdeaaGreat
end
section
set_option linter.unusedSimpArgs false
set_option linter.unusedVariables false
namespace Go.Proofs.YtgpdcapnnejdeaaGreat
set_option maxRecDepth 100000
open Go.RowKit

theorem rgen_in {b h : Nat} {r : Rg} (i : Nat) (w : World) (H0 : RgAt w b h r) (hi : i < r.n) :
  Calls Tryz.prog 25 #[.pointer (some ⟨b, 0, none⟩), .int .i64 (i : Int)] w fun e w' => e = .returned (.int .i64 (r.gen i)) ∧ w = w' := by
 obtain ⟨c0, c1, f0, f1⟩ := H0.cells hi
 have H := hid H0; clear H0
 go_enter Tryz.func25, Tryz.ntmps25
 go_wp2_with fail
 refine (find_in i _ H.out hi).mono ?_
 rintro e w1 ⟨rfl, rfl⟩
 go_wp2_with fail
 refine (has_at _ rfl _ _ c0).mono ?_
 rintro e w1 ⟨rfl, rfl⟩
 go_wp2_with fail
 go_ret
 exact ⟨rfl, rfl⟩
theorem rsince_in {b h : Nat} {r : Rg} (i : Nat) (w : World) (H0 : RgAt w b h r) (hi : i < r.n) :
  Calls Tryz.prog 26 #[.pointer (some ⟨b, 0, none⟩), .int .i64 (i : Int)] w fun e w' => e = .returned (.int .i64 (r.since i)) ∧ w = w' := by
 obtain ⟨c0, c1, f0, f1⟩ := H0.cells hi
 have H := hid H0; clear H0
 go_enter Tryz.func26, Tryz.ntmps26
 go_wp2_with fail
 refine (find_in i _ H.out hi).mono ?_
 rintro e w1 ⟨rfl, rfl⟩
 go_wp2_with fail
 go_ret
 exact ⟨rfl, rfl⟩
def Rg.set (r : Rg) (who gen since : Int) : Int × Rg :=
 if 0 ≤ who ∧ who < (r.n : Int) then if 0 ≤ gen ∧ gen ≤ 60000 ∧ 0 ≤ since ∧ since ≤ 1099511627776 then (0, r.put who.toNat gen since) else (1, r) else (3, r)
def Leaves (w : World) (b h : Nat) (k : Int × Rg) (e : Ending) (w' : World) : Prop := e = .returned (.int .i64 k.1) ∧ RgAt w' b h k.2 ∧ Chg [h] w w'
theorem leaves_put {w : World} {b h : Nat} {r : Rg} {i : Nat} {g s : Int} (H : RgAt w b h r) (hi : i < r.n) (g0 : 0 ≤ g) (g1 : g ≤ 60000) (s0 : 0 ≤ s) (s1 : s ≤ 1099511627776) :
  Leaves w b h (0, r.put i g s) (.returned (.int .i64 0)) ((w.setCell ⟨h, i * 2, none⟩ (.int .i64 g)).setCell ⟨h, i * 2 + 1, none⟩ (.int .i64 s)) :=
 ⟨rfl, H.put hi g0 g1 s0 s1, ((chg_refl w [h]).set (.inl (by simp)) _).set (.inl (by simp)) _⟩

set_option maxHeartbeats 1600000 in
theorem rrot_ok {b h : Nat} {r : Rg} (i : Nat) (now : Int) (w : World) (H0 : RgAt w b h r) (hi : i < r.n) (hg : r.gen i < 60000) (n0 : 0 ≤ now) (n1 : now ≤ 1099511627776) :
  Calls Tryz.prog 64 #[.pointer (some ⟨b, 0, none⟩), .int .i64 (i : Int), .int .i64 (r.gen i + 1), .int .i64 now] w (Leaves w b h (0, r.put i (r.gen i + 1) now)) := by
 obtain ⟨c0, c1, f0, f1⟩ := H0.cells hi
 have q0 := H0.ok.e0 i; have q1 := H0.ok.e1 i; have q2 := H0.ok.s0 i; have q3 := H0.ok.s1 i
 have L := hid (leaves_put (g := r.gen i + 1) (s := now) H0 hi (by omega) (by omega) n0 n1)
 have H := hid H0; clear H0
 generalize r.put i (r.gen i + 1) now = r' at L ⊢
 generalize r.gen i = g at *
 have d0 : decide (60000 < g + 1) = false := by simp; omega
 go_enter Tryz.func64, Tryz.ntmps64
 go_wp2_with fail
 refine (find_in i _ H.out hi).mono ?_
 rintro e w1 ⟨rfl, rfl⟩
 go_wp2_with fail
 refine (has_at _ rfl _ _ c0).mono ?_
 rintro e w1 ⟨rfl, rfl⟩
 go_wp2_with fail
 refine (within64_in now 0 1099511627776 n0 n1 _).mono ?_
 rintro e w1 ⟨rfl, rfl⟩
 go_wp2_with fail
 refine (add_i64 _ g _ c0 f0 q0 (by omega)).mono ?_
 rintro e w1 ⟨rfl, rfl⟩
 go_wp2_with fail
 go_ret
 exact L.out

end Go.Proofs.YtgpdcapnnejdeaaGreat
end
section
set_option linter.unusedSimpArgs false
set_option linter.unusedVariables false
namespace Go.Proofs.YtgpdcapnnejdeaaGreat
set_option maxRecDepth 100000
open Go.RowKit

structure RfAt (w : World) (b g s : Nat) (r : Rg) : Prop where
 top : w.heap[b]? = some (.cells #[.int .u64 (q r.seed), .int .i64 (r.grace : Int), .slice (some ⟨g, 0, none⟩) r.n r.n, .slice (some ⟨s, 0, none⟩) r.n r.n] 62)
 gens : ∃ cs : Array Value, w.heap[g]? = some (.cells cs 3) ∧ ∀ i, i < r.n → cs[i]? = some (.int .i64 (r.gen i))
 sinces : ∃ cs : Array Value, w.heap[s]? = some (.cells cs 2) ∧ ∀ i, i < r.n → cs[i]? = some (.int .i64 (r.since i))
 bg : b ≠ g
 bs : b ≠ s
 gs : g ≠ s
 ok : r.Ok
section
variable {w w' : World} {b g s : Nat} {r : Rg} {F : List Nat}
theorem RfAt.chg (H : RfAt w b g s r) (hc : Chg F w w') (hb : b ∉ F) (hg : g ∉ F) (hs : s ∉ F) : RfAt w' b g s r :=
 ⟨hc.at H.top hb, by obtain ⟨cs, h1, h2⟩ := H.gens; exact ⟨cs, hc.at h1 hg, h2⟩, by obtain ⟨cs, h1, h2⟩ := H.sinces; exact ⟨cs, hc.at h1 hs, h2⟩, H.bg, H.bs, H.gs, H.ok⟩
theorem RfAt.grown (H : RfAt w b g s r) (hg : w.grownBy w' none) : RfAt w' b g s r := H.chg (chg_grown hg []) (by simp) (by simp) (by simp)
theorem RfAt.drew (H : RfAt w b g s r) : RfAt w.drew b g s r := ⟨H.top, H.gens, H.sinces, H.bg, H.bs, H.gs, H.ok⟩
theorem RfAt.tops (H : RfAt w b g s r) : w.cell? ⟨b, 0, none⟩ = some (.int .u64 (q r.seed)) ∧ w.cell? ⟨b, 1, none⟩ = some (.int .i64 (r.grace : Int)) ∧ w.cell? ⟨b, 2, none⟩ = some (.slice (some ⟨g, 0, none⟩) r.n r.n) ∧ w.cell? ⟨b, 3, none⟩ = some (.slice (some ⟨s, 0, none⟩) r.n r.n) :=
 ⟨at_cell H.top 0, at_cell H.top 1, at_cell H.top 2, at_cell H.top 3⟩
theorem RfAt.cells (H : RfAt w b g s r) {i : Nat} (hi : i < r.n) : w.cell? ⟨g, i, none⟩ = some (.int .i64 (r.gen i)) ∧ w.cell? ⟨s, i, none⟩ = some (.int .i64 (r.since i)) ∧ w.frozen? ⟨g, i, none⟩ = false ∧ w.frozen? ⟨s, i, none⟩ = false := by
 obtain ⟨cs, h1, h2⟩ := H.gens
 obtain ⟨ds, h3, h4⟩ := H.sinces
 exact ⟨(at_cell h1 _).trans (h2 i hi), (at_cell h3 _).trans (h4 i hi), at_free h1 _, at_free h3 _⟩
theorem RfAt.lt (H : RfAt w b g s r) : b < w.heap.size ∧ g < w.heap.size ∧ s < w.heap.size := ⟨at_lt H.top, by obtain ⟨_, h1, _⟩ := H.gens; exact at_lt h1, by obtain ⟨_, h1, _⟩ := H.sinces; exact at_lt h1⟩
theorem RfAt.put (H : RfAt w b g s r) {i : Nat} (hi : i < r.n) {x y : Int} (g0 : 0 ≤ x) (g1 : x ≤ 60000) (s0 : 0 ≤ y) (s1 : y ≤ 1099511627776) :
  RfAt ((w.setCell ⟨g, i, none⟩ (.int .i64 x)).setCell ⟨s, i, none⟩ (.int .i64 y)) b g s (r.put i x y) := by
 obtain ⟨cs, h1, h2⟩ := H.gens
 obtain ⟨ds, h3, h4⟩ := H.sinces
 have sz1 : i < cs.size := (Array.getElem?_eq_some_iff.1 (h2 i hi)).1
 have sz2 : i < ds.size := (Array.getElem?_eq_some_iff.1 (h4 i hi)).1
 refine ⟨at_set_other (at_set_other H.top H.bg _) H.bs _, ⟨_, at_set_other (at_set h1 _ _) H.gs _, fun j hj => ?_⟩, ⟨_, at_set (at_set_other h3 (fun e => H.gs e.symm) _) _ _, fun j hj => ?_⟩, H.bg, H.bs, H.gs, H.ok.put i g0 g1 s0 s1⟩
 ·simp only [Rg.put]
  by_cases e : j = i
  ·subst e; rw [if_pos rfl, Array.getElem?_setIfInBounds, if_pos rfl, if_pos sz1]
  ·rw [if_neg e, Array.getElem?_setIfInBounds, if_neg (Ne.symm e)]; exact h2 j hj
 ·simp only [Rg.put]
  by_cases e : j = i
  ·subst e; rw [if_pos rfl, Array.getElem?_setIfInBounds, if_pos rfl, if_pos sz2]
  ·rw [if_neg e, Array.getElem?_setIfInBounds, if_neg (Ne.symm e)]; exact h4 j hj
end
def LeavesF (w : World) (b g s : Nat) (k : Int × Rg) (e : Ending) (w' : World) : Prop := e = .returned (.int .i64 k.1) ∧ RfAt w' b g s k.2 ∧ Chg [g, s] w w'
theorem leavesF_put {w : World} {b g s : Nat} {r : Rg} {i : Nat} {x y : Int} (H : RfAt w b g s r) (hi : i < r.n) (g0 : 0 ≤ x) (g1 : x ≤ 60000) (s0 : 0 ≤ y) (s1 : y ≤ 1099511627776) :
  LeavesF w b g s (0, r.put i x y) (.returned (.int .i64 0)) ((w.drew.setCell ⟨g, i, none⟩ (.int .i64 x)).setCell ⟨s, i, none⟩ (.int .i64 y)) :=
 ⟨rfl, H.drew.put hi g0 g1 s0 s1, (((chg_refl w [g, s]).drew).set (.inl (by simp)) _).set (.inl (by simp)) _⟩

set_option maxHeartbeats 1600000 in
theorem frot_ok {b g s : Nat} {r : Rg} (i : Nat) (now : Int) (w : World) (H0 : RfAt w b g s r) (hi : i < r.n) (hg : r.gen i < 60000) (n0 : 0 ≤ now) (n1 : now ≤ 1099511627776) :
  Calls Tryz.prog 68 #[.pointer (some ⟨b, 0, none⟩), .int .i64 (i : Int), .int .i64 (r.gen i + 1), .int .i64 now] w (LeavesF w b g s (0, r.put i (r.gen i + 1) now)) := by
 obtain ⟨c0, c1, f0, f1⟩ := H0.cells hi
 obtain ⟨t0, t1, t2, t3⟩ := H0.tops
 have q0 := H0.ok.e0 i; have q1 := H0.ok.e1 i; have n2 := H0.ok.n2
 have hgs := H0.gs; have hbg := H0.bg; have hbs := H0.bs
 have L := hid (leavesF_put (x := r.gen i + 1) (y := now) H0 hi (by omega) (by omega) n0 n1)
 clear H0
 generalize r.put i (r.gen i + 1) now = r' at L ⊢
 generalize r.gen i = x at *
 generalize r.since i = y at *
 generalize r.n = n at *
 have i0 : (0 : Int) ≤ (i : Int) := by omega
 have i1 : (i : Int) < (n : Int) := by omega
 have e1 : decide ((i : Int) < 0) = false := by simp
 have e2 : decide (n ≤ i) = false := by simp; omega
 have e3 : decide (x + 1 < 1) = false := by simp; omega
 have e4 : decide (60000 < x + 1) = false := by simp; omega
 have e5 : decide (now < 0) = false := by simp; omega
 have e6 : decide (1099511627776 < now) = false := by simp; omega
 go_enter Tryz.func68, Tryz.ntmps68
 go_wp2_with fail
 go_region_held3 (fun w' => w'.cell? ⟨b, 2, none⟩ = some (.slice (some ⟨g, 0, none⟩) n n) ∧ w'.cell? ⟨b, 3, none⟩ = some (.slice (some ⟨s, 0, none⟩) n n)) ((refine ⟨?_, ?_⟩ <;> go_simp)) (fail)
 all_goals (
  go_wp2_with fail
  go_ret
  exact L.out)

end Go.Proofs.YtgpdcapnnejdeaaGreat
end
