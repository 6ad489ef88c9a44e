/-
  Contract: what a gate's Take answers and leaves. The condition: the gate lies there.
  Contracts: what a gate's Check tells, and what its Take answers and leaves, whatever comes: the model's answers. The conditions: the gate lies there; the bytes read as bytes; what tells who is out answers.
  A configuration as the walks see it: 26 numbers, which are its cells. Whether a number lies within bounds. No condition.
  Contracts for the answer of package conf, which is made once: a part that may not be makes it, if no part ahead of it did. The condition: the answer's block is as the program makes it, its lock free.
  Contracts: whether just the metrics that there are have targets: by the program, and by the document. No condition.
  Contract: the first part that may not be, as the program finds it. No condition.
  Contract: whether a configuration may be. No condition.
  Contracts for making a ring: the program's and the document's. No condition.
-/
import Derived.Test.YtfhifnhnkgdnlaaGreatY7
import Derived.StillTailTactics
import Derived.Test.YtfhifnhnkgdnlaaGreatRows
import Derived.Test.YtfhifnhnkgdnlaaGreatY1
import Derived.WalkKit
import Derived.WalkSpells
import Derived.WalkLawsBesides
import Derived.Laws.Rows
import Derived.Great.Walk
import Derived.LoopTactic
import Derived.Deep.MidRow
import Derived.Test.YtfhifnhnkgdnlaaGreatY5
import Derived.Test.YtfhifnhnkgdnlaaGreatY3
section
set_option linter.unusedSimpArgs false
set_option linter.unusedVariables false
namespace Go.Proofs.YtfhifnhnkgdnlaaGreat
set_option maxRecDepth 100000
open Go.RowKit

/-- a gate of other windows: who's new one, who's old one, how often turned -/
def GBl.turn (B : GBl) (i nb : Nat) : GBl := { B with A := fun j => if j = i then nb else B.A j, O := fun j => if j = i then B.A i else B.O j, t := fun j => if j = i then succT (B.t i) else B.t j }
theorem side_even {t : Int} {a b : Nat} (h : t % 2 = 0) : side t a b = a := if_pos h
theorem side_odd {t : Int} {a b : Nat} (h : t % 2 = 1) : side t a b = b := if_neg (by omega)
/-- what a call of Take leaves -/
def LeavesG (w : World) (F : List Nat) (B : GBl) (k : Int × Gt) (e : Ending) (w' : World) : Prop :=
  e = .returned (.int .i64 k.1) ∧ ∃ F' B', GtAt w' F' B' k.2 ∧ B'.g = B.g ∧ B'.rb = B.rb ∧ Chg F w w' ∧ ∀ x ∈ F', x ∈ F ∨ w.heap.size ≤ x
/-- behind a turn the gate lies there as it was, but for one collector -/
theorem GtAt.turned {w w1 w' : World} {F : List Nat} {B : GBl} {G : Gt} {i : Nat} (K : GtAt w F B G) (hi : i < G.r.n) {cs : Array Value} {j nb : Nat} (hcs : w.heap[B.hb]? = some (.cells cs 104))
    (hj : (B.t i + 1) % 2 = (j : Int)) (hj2 : j < 2) (hc : Chg [B.hb] w w') (hr : w'.heap[B.hb]? = some (.cells ((cs.setIfInBounds (i * 3) (.int .u32 (succT (B.t i)))).setIfInBounds (i * 3 + 1 + j) (.pointer (some ⟨nb, 0, none⟩))) 104)) (hp : RpAt w' nb (.new G.win)) (hn : w.heap.size ≤ nb) :
    GtAt w' (nb :: F) (B.turn i nb) { G with now := fun k => if k = i then Rp.new G.win else G.now k, old := fun k => if k = i then G.now i else G.old k } := by
  obtain ⟨ds, k1, k2⟩ := K.row
  rw [hcs] at k1
  cases k1
  obtain ⟨rs, r1, r2⟩ := K.ring.row
  have e1 : B.g ≠ B.hb := obj_ne K.top hcs (by decide)
  have e2 : B.rb ≠ B.hb := obj_ne K.ring.top hcs (by decide)
  have e3 : B.rh ≠ B.hb := obj_ne r1 hcs (by decide)
  have eA : ∀ k, k < G.r.n → B.A k ≠ B.hb := fun k hk => obj_ne (K.now k hk).top hcs (by decide)
  have eO : ∀ k, k < G.r.n → B.O k ≠ B.hb := fun k hk => obj_ne (K.old k hk).top hcs (by decide)
  have lA : ∀ k, k < G.r.n → B.A k < w.heap.size := fun k hk => K.lt _ (K.ma k hk)
  have lO : ∀ k, k < G.r.n → B.O k < w.heap.size := fun k hk => K.lt _ (K.mo k hk)
  refine ⟨hc.at (show w.heap[(B.turn i nb).g]? = _ from K.top) (show B.g ∉ [B.hb] by simpa using e1), K.ring.chg hc (by simpa using e2) (by simpa using e3), ⟨_, hr, fun k hk => ?_⟩, fun k => ?_, fun k hk => ?_, fun k hk => ?_, fun a b ha hb h => ?_, fun a b ha hb h => ?_, fun a b ha hb h => ?_,
    List.mem_cons_of_mem _ K.mg, List.mem_cons_of_mem _ K.mrb, List.mem_cons_of_mem _ K.mrh, List.mem_cons_of_mem _ K.mhb, fun k hk => ?_, fun k hk => ?_, fun x hx => ?_, ⟨K.ok.w1, K.ok.w2, K.ok.m1, K.ok.m2, K.ok.f1, K.ok.f2, fun k => ?_, fun k => ?_⟩⟩
  · obtain ⟨q1, q2, q3⟩ := k2 k hk
    obtain ⟨p1, p2, p3⟩ := k2 i hi
    have z1 := (Array.getElem?_eq_some_iff.1 p1).1
    have z2 := (Array.getElem?_eq_some_iff.1 p2).1
    have z3 := (Array.getElem?_eq_some_iff.1 p3).1
    simp only [GBl.turn, Array.getElem?_setIfInBounds, Array.size_setIfInBounds]
    by_cases e : k = i
    · subst e
      simp only [if_true]
      have hm := succT_mod (B.t k)
      rcases (by omega : j = 0 ∨ j = 1) with rfl | rfl
      · have hs : succT (B.t k) % 2 = 0 := by rw [hm]; exact_mod_cast hj
        have ht : B.t k % 2 = 1 := by omega
        rw [side_even hs, side_even hs]
        rw [side_odd ht] at q3
        rw [Array.getElem?_eq_getElem z3] at q3
        simp [z1, z2, z3, Option.some.inj q3, show ¬ k * 3 = k * 3 + 1 by omega]
      · have hs : succT (B.t k) % 2 = 1 := by rw [hm]; exact_mod_cast hj
        have ht : B.t k % 2 = 0 := by omega
        rw [side_odd hs, side_odd hs]
        rw [side_even ht] at q2
        rw [Array.getElem?_eq_getElem z2] at q2
        simp [z1, z2, z3, Option.some.inj q2, show ¬ k * 3 + 1 + 1 = k * 3 by omega, show ¬ k * 3 = k * 3 + 1 by omega, show ¬ k * 3 = k * 3 + 1 + 1 by omega]
    · simp only [if_neg e]
      rw [if_neg (by omega), if_neg (by omega), if_neg (by omega), if_neg (by omega), if_neg (by omega), if_neg (by omega)]
      exact ⟨q1, q2, q3⟩
  · simp only [GBl.turn]
    split
    · exact ⟨succT_0 _, succT_lt _⟩
    · exact K.t0 k
  · simp only [GBl.turn]
    by_cases e : k = i
    · rw [if_pos e, if_pos e]; exact hp
    · rw [if_neg e, if_neg e]; exact (K.now k hk).chg hc (by simpa using eA k hk)
  · simp only [GBl.turn]
    by_cases e : k = i
    · rw [if_pos e, if_pos e]; exact (K.now i hi).chg hc (by simpa using eA i hi)
    · rw [if_neg e, if_neg e]; exact (K.old k hk).chg hc (by simpa using eO k hk)
  · simp only [GBl.turn] at h
    have := lA a ha; have := lA b hb
    by_cases e : a = i <;> by_cases e' : b = i
    · omega
    · rw [if_pos e, if_neg e'] at h; omega
    · rw [if_neg e, if_pos e'] at h; omega
    · rw [if_neg e, if_neg e'] at h; exact K.aa a b ha hb h
  · simp only [GBl.turn] at h
    by_cases e : a = i <;> by_cases e' : b = i
    · omega
    · rw [if_pos e, if_neg e'] at h; exact absurd h (K.ao i b hi hb)
    · rw [if_neg e, if_pos e'] at h; exact absurd h.symm (K.ao i a hi ha)
    · rw [if_neg e, if_neg e'] at h; exact K.oo a b ha hb h
  · simp only [GBl.turn] at h
    have := lA i hi; have := lO b hb; have := lA a ha
    by_cases e : a = i <;> by_cases e' : b = i
    · rw [if_pos e, if_pos e'] at h; omega
    · rw [if_pos e, if_neg e'] at h; omega
    · rw [if_neg e, if_pos e'] at h; exact e (K.aa a i ha hi h)
    · rw [if_neg e, if_neg e'] at h; exact K.ao a b ha hb h
  · simp only [GBl.turn]
    split
    · exact List.mem_cons_self
    · exact List.mem_cons_of_mem _ (K.ma k hk)
  · simp only [GBl.turn]
    split
    · exact List.mem_cons_of_mem _ (K.ma i hi)
    · exact List.mem_cons_of_mem _ (K.mo k hk)
  · rcases List.mem_cons.1 hx with rfl | hx
    · exact hp.lt
    · exact Nat.lt_of_lt_of_le (K.lt x hx) hc.size
  · dsimp only
    split
    · rfl
    · exact K.ok.nw k
  · dsimp only
    split
    · exact K.ok.nw i
    · exact K.ok.ow k
theorem gturn_any {F : List Nat} {B : GBl} {G : Gt} (i : Nat) (w : World) (K : GtAt w F B G) (hi : i < G.r.n) :
    Calls Tryz.prog 65 #[.pointer (some ⟨B.hb, i * 3, none⟩), .int .i64 (G.win : Int)] w fun e w' => e = .returned (.tuple #[]) ∧ ∃ nb, GtAt w' (nb :: F) (B.turn i nb) { G with now := fun k => if k = i then Rp.new G.win else G.now k, old := fun k => if k = i then G.now i else G.old k } ∧ Chg [B.hb] w w' ∧ w.heap.size ≤ nb := by
  obtain ⟨cs, k1, k2⟩ := K.row
  obtain ⟨q1, q2, q3⟩ := k2 i hi
  have t0 := K.t0 i
  by_cases h : (B.t i + 1) % 2 = 0
  · exact (turn_0 B.hb (i * 3) G.win (B.t i) cs w K.ok.w1 K.ok.w2 k1 q1 _ q2 h).mono fun e w' ⟨he, nb, hc, hr, hp, hn⟩ => ⟨he, nb, K.turned (j := 0) (w1 := w) hi k1 h (by omega) hc hr hp hn, hc, hn⟩
  · exact (turn_1 B.hb (i * 3) G.win (B.t i) cs w K.ok.w1 K.ok.w2 k1 q1 _ q3 (by omega)).mono fun e w' ⟨he, nb, hc, hr, hp, hn⟩ => ⟨he, nb, K.turned (j := 1) (w1 := w) hi k1 (by show (B.t i + 1) % 2 = ((1 : Nat) : Int); omega) (by omega) hc hr hp hn, hc, hn⟩

/-- a gate that changes, and the message in a block of the call's own -/
structure Kq (w0 : World) (F : List Nat) (B : GBl) (G : Gt) (bm : Nat) (m : Mg) (w : World) : Prop where
  gt : GtAt w F B G
  hm : w.heap[bm]? = some (msgObj m)
  ch : Chg F w0 w
  nb : bm ∉ F
theorem Kq.drew {w0 w : World} {F : List Nat} {B : GBl} {G : Gt} {bm : Nat} {m : Mg} (h : Kq w0 F B G bm m w) : Kq w0 F B G bm m w.drew := ⟨h.gt.drew, h.hm, h.ch.drew, h.nb⟩
theorem Kq.leave {w0 w w1 : World} {F H : List Nat} {B : GBl} {G G1 : Gt} {bm : Nat} {m : Mg} (h : Kq w0 F B G bm m w) (hg : GtAt w1 F B G1) (hc : Chg H w w1) (hH : ∀ x ∈ H, x ∈ F) : Kq w0 F B G1 bm m w1 :=
  ⟨hg, hc.at h.hm (fun e => h.nb (hH _ e)), h.ch.then (hc.more hH), h.nb⟩
theorem kq_of {w0 w : World} {F : List Nat} {B : GBl} {G : Gt} {bm : Nat} {m : Mg} {bs : List (Nat × Obj)} {ys : List (Value × List UInt8)} (h : Kg w0 F B G bs ys w) (hm : w.heap[bm]? = some (msgObj m)) (hb : w0.heap.size ≤ bm) : Kq w0 F B G bm m w :=
  ⟨h.gt, hm, chg_grown h.kp.g F, fun e => by have := h.lo _ e; omega⟩
set_option maxHeartbeats 6400000 in
theorem gtake_may {F : List Nat} {B : GBl} {G : Gt} (m : Mg) (now : Int) (w : World) (K : GtAt w F B G) (CM : ∀ u, Calls Tryz.prog 62 #[mg m] u fun e w' => e = .returned (.bool false) ∧ u.grownBy w' none) :
    Calls Tryz.prog 20 #[.pointer (some ⟨B.g, 0, none⟩), mg m, .int .i64 now] w fun e w' => e = .returned (.int .i64 1) ∧ w.grownBy w' none := by
  replace CM := hid CM
  have K0 := hid ((kg_start K).alloc (msgObj m))
  clear K
  have lb := Nat.le_refl w.heap.size
  go_enter Tryz.func20, Tryz.ntmps20
  go_upto_region 1 with fail
  refine wp_gen (fun wx => Kg w F B G [(w.heap.size, msgObj m)] [] wx) K0.out ?_
  clear K0
  generalize hbm : w.heap.size = bm at lb ⊢
  have LB := hid (show w.heap.size ≤ bm from Nat.le_of_eq hbm)
  clear lb hbm
  intro w0 h0
  have K0 := hid h0; clear h0
  have M0 := hid K0.out.kp.b0
  go_wp2_with (refine wpList_row_w M0.out Tryz.underlying39 rfl (by kernel_rfl) rfl rfl rfl rfl ?_)
  refine (CM.out _).mono ?_
  rintro e w1 ⟨rfl, hg⟩
  have K1 := hid (K0.out.grown hg); clear hg K0 CM M0
  go_wp2_with fail
  go_ret
  exact ⟨rfl, K1.out.kp.g⟩
set_option maxHeartbeats 6400000 in
theorem gtake_low {F : List Nat} {B : GBl} {G : Gt} (m : Mg) (now : Int) (w : World) (K : GtAt w F B G) (CM : ∀ u, Calls Tryz.prog 62 #[mg m] u fun e w' => e = .returned (.bool true) ∧ u.grownBy w' none) (h0 : now < 0) :
    Calls Tryz.prog 20 #[.pointer (some ⟨B.g, 0, none⟩), mg m, .int .i64 now] w fun e w' => e = .returned (.int .i64 1) ∧ w.grownBy w' none := by
  replace CM := hid CM
  have d0 : decide (now < 0) = true := by simp; omega
  clear h0
  have K0 := hid ((kg_start K).alloc (msgObj m))
  clear K
  have lb := Nat.le_refl w.heap.size
  go_enter Tryz.func20, Tryz.ntmps20
  go_upto_region 1 with fail
  refine wp_gen (fun wx => Kg w F B G [(w.heap.size, msgObj m)] [] wx) K0.out ?_
  clear K0
  generalize hbm : w.heap.size = bm at lb ⊢
  have LB := hid (show w.heap.size ≤ bm from Nat.le_of_eq hbm)
  clear lb hbm
  intro w0 h0
  have K0 := hid h0; clear h0
  have M0 := hid K0.out.kp.b0
  go_wp2_with (refine wpList_row_w M0.out Tryz.underlying39 rfl (by kernel_rfl) rfl rfl rfl rfl ?_)
  refine (CM.out _).mono ?_
  rintro e w1 ⟨rfl, hg⟩
  have K1 := hid (K0.out.grown hg); clear hg K0 CM M0
  go_wp2_with fail
  go_ret
  exact ⟨rfl, K1.out.kp.g⟩
set_option maxHeartbeats 6400000 in
theorem gtake_high {F : List Nat} {B : GBl} {G : Gt} (m : Mg) (now : Int) (w : World) (K : GtAt w F B G) (CM : ∀ u, Calls Tryz.prog 62 #[mg m] u fun e w' => e = .returned (.bool true) ∧ u.grownBy w' none) (h0 : 0 ≤ now) (h1 : 1099511627776 < now) :
    Calls Tryz.prog 20 #[.pointer (some ⟨B.g, 0, none⟩), mg m, .int .i64 now] w fun e w' => e = .returned (.int .i64 1) ∧ w.grownBy w' none := by
  replace CM := hid CM
  have d0 : decide (now < 0) = false := by simp; omega
  have d9 : decide (1099511627776 < now) = true := by simp; omega
  clear h0 h1
  have K0 := hid ((kg_start K).alloc (msgObj m))
  clear K
  have lb := Nat.le_refl w.heap.size
  go_enter Tryz.func20, Tryz.ntmps20
  go_upto_region 1 with fail
  refine wp_gen (fun wx => Kg w F B G [(w.heap.size, msgObj m)] [] wx) K0.out ?_
  clear K0
  generalize hbm : w.heap.size = bm at lb ⊢
  have LB := hid (show w.heap.size ≤ bm from Nat.le_of_eq hbm)
  clear lb hbm
  intro w0 h0
  have K0 := hid h0; clear h0
  have M0 := hid K0.out.kp.b0
  go_wp2_with (refine wpList_row_w M0.out Tryz.underlying39 rfl (by kernel_rfl) rfl rfl rfl rfl ?_)
  refine (CM.out _).mono ?_
  rintro e w1 ⟨rfl, hg⟩
  have K1 := hid (K0.out.grown hg); clear hg K0 CM M0
  go_wp2_with fail
  go_ret
  exact ⟨rfl, K1.out.kp.g⟩
set_option maxHeartbeats 6400000 in
theorem gtake_who {F : List Nat} {B : GBl} {G : Gt} (m : Mg) (now : Int) (w : World) (K : GtAt w F B G) (CM : ∀ u, Calls Tryz.prog 62 #[mg m] u fun e w' => e = .returned (.bool true) ∧ u.grownBy w' none) (h0 : 0 ≤ now) (h1 : now ≤ 1099511627776) (CF : ∀ u, GtAt u F B G → Calls Tryz.prog 54 #[.pointer (some ⟨B.g, 0, none⟩), .int .i64 m.who] u fun e w' => e = .returned (.pointer none) ∧ u = w') :
    Calls Tryz.prog 20 #[.pointer (some ⟨B.g, 0, none⟩), mg m, .int .i64 now] w fun e w' => e = .returned (.int .i64 3) ∧ w.grownBy w' none := by
  replace CM := hid CM
  replace CF := hid CF
  have d0 : decide (now < 0) = false := by simp; omega
  have d9 : decide (1099511627776 < now) = false := by simp; omega
  clear h0 h1
  have K0 := hid ((kg_start K).alloc (msgObj m))
  clear K
  have lb := Nat.le_refl w.heap.size
  go_enter Tryz.func20, Tryz.ntmps20
  go_upto_region 1 with fail
  refine wp_gen (fun wx => Kg w F B G [(w.heap.size, msgObj m)] [] wx) K0.out ?_
  clear K0
  generalize hbm : w.heap.size = bm at lb ⊢
  have LB := hid (show w.heap.size ≤ bm from Nat.le_of_eq hbm)
  clear lb hbm
  intro w0 h0
  have K0 := hid h0; clear h0
  have M0 := hid K0.out.kp.b0
  go_wp2_with (refine wpList_row_w M0.out Tryz.underlying39 rfl (by kernel_rfl) rfl rfl rfl rfl ?_)
  refine (CM.out _).mono ?_
  rintro e w1 ⟨rfl, hg⟩
  have K1 := hid (K0.out.grown hg); clear hg K0 CM M0
  obtain ⟨e0, e1, e2, e3, e4, e5, e6⟩ := msg_cells K1.out.kp.b0
  go_wp2_with fail
  refine (CF.out _ K1.out.gt).mono ?_
  rintro e w2 ⟨rfl, hw⟩
  subst hw
  clear CF e0 e1 e2 e3 e4 e5 e6
  go_wp2_with fail
  go_ret
  exact ⟨rfl, K1.out.kp.g⟩
set_option maxHeartbeats 6400000 in
theorem gtake_gen {F : List Nat} {B : GBl} {G : Gt} (m : Mg) (now : Int) (w : World) (K : GtAt w F B G) (CM : ∀ u, Calls Tryz.prog 62 #[mg m] u fun e w' => e = .returned (.bool true) ∧ u.grownBy w' none) (h0 : 0 ≤ now) (h1 : now ≤ 1099511627776) (pf : Addr) (CF : ∀ u, GtAt u F B G → Calls Tryz.prog 54 #[.pointer (some ⟨B.g, 0, none⟩), .int .i64 m.who] u fun e w' => e = .returned (.pointer (some pf)) ∧ u = w') (CK : ∀ u, GtAt u F B G → Calls Tryz.prog 56 #[.pointer (some ⟨B.g, 0, none⟩), mg m, .int .i64 now] u fun e w' => e = .returned (.tuple #[pair 0 0, .pointer none, .int .i64 4]) ∧ u.grownBy w' none) :
    Calls Tryz.prog 20 #[.pointer (some ⟨B.g, 0, none⟩), mg m, .int .i64 now] w fun e w' => e = .returned (.int .i64 4) ∧ w.grownBy w' none := by
  replace CM := hid CM
  replace CF := hid CF
  replace CK := hid CK
  have d0 : decide (now < 0) = false := by simp; omega
  have d9 : decide (1099511627776 < now) = false := by simp; omega
  clear h0 h1
  have K0 := hid ((kg_start K).alloc (msgObj m))
  clear K
  have lb := Nat.le_refl w.heap.size
  go_enter Tryz.func20, Tryz.ntmps20
  go_upto_region 1 with fail
  refine wp_gen (fun wx => Kg w F B G [(w.heap.size, msgObj m)] [] wx) K0.out ?_
  clear K0
  generalize hbm : w.heap.size = bm at lb ⊢
  have LB := hid (show w.heap.size ≤ bm from Nat.le_of_eq hbm)
  clear lb hbm
  intro w0 h0
  have K0 := hid h0; clear h0
  have M0 := hid K0.out.kp.b0
  go_wp2_with (refine wpList_row_w M0.out Tryz.underlying39 rfl (by kernel_rfl) rfl rfl rfl rfl ?_)
  refine (CM.out _).mono ?_
  rintro e w1 ⟨rfl, hg⟩
  have K1 := hid (K0.out.grown hg); clear hg K0 CM M0
  obtain ⟨e0, e1, e2, e3, e4, e5, e6⟩ := msg_cells K1.out.kp.b0
  go_wp2_with fail
  refine (CF.out _ K1.out.gt).mono ?_
  rintro e w2 ⟨rfl, hw⟩
  subst hw
  clear CF e0 e1 e2 e3 e4 e5 e6
  have M1 := hid K1.out.kp.b0
  go_wp2_with (refine wpList_row M1.out Tryz.underlying39 rfl (by kernel_rfl) rfl rfl rfl rfl ?_)
  clear M1
  refine (CK.out _ K1.out.gt).mono ?_
  rintro e w4 ⟨rfl, hg⟩
  have K4 := hid ((K1.out.grown hg).alloc (keyObj 0#64 0#64)); clear hg K1 CK
  go_upto_region 7 with fail
  refine wp_gen (fun wx => Kg w F B G [(w4.heap.size, keyObj 0#64 0#64), (bm, msgObj m)] [] wx) K4.out ?_
  clear K4
  generalize w4.heap.size = kb2
  intro w5 h5
  have K5 := hid h5; clear h5
  go_wp2_with fail
  go_ret
  exact ⟨rfl, K5.out.kp.g⟩
set_option maxHeartbeats 6400000 in
theorem gtake_replay {F : List Nat} {B : GBl} {G : Gt} (m : Mg) (now : Int) (w : World) (K : GtAt w F B G) (CM : ∀ u, Calls Tryz.prog 62 #[mg m] u fun e w' => e = .returned (.bool true) ∧ u.grownBy w' none) (h0 : 0 ≤ now) (h1 : now ≤ 1099511627776) (pf : Addr) (CF : ∀ u, GtAt u F B G → Calls Tryz.prog 54 #[.pointer (some ⟨B.g, 0, none⟩), .int .i64 m.who] u fun e w' => e = .returned (.pointer (some pf)) ∧ u = w') (ka kb : BitVec 64) (rp : Nat) (hrp : rp ∈ F) (CK : ∀ u, GtAt u F B G → Calls Tryz.prog 56 #[.pointer (some ⟨B.g, 0, none⟩), mg m, .int .i64 now] u fun e w' => e = .returned (.tuple #[pair ka kb, .pointer (some ⟨rp, 0, none⟩), .int .i64 0]) ∧ u.grownBy w' none) (CR : ∀ u, GtAt u F B G → Calls Tryz.prog 63 #[.pointer (some ⟨rp, 0, none⟩), .int .i64 m.seq] u fun e w' => e = .returned (.int .i64 6) ∧ GtAt w' F B G ∧ Chg [rp] u w') :
    Calls Tryz.prog 20 #[.pointer (some ⟨B.g, 0, none⟩), mg m, .int .i64 now] w fun e w' => e = .returned (.int .i64 6) ∧ GtAt w' F B G ∧ Chg F w w' := by
  replace CM := hid CM
  replace CF := hid CF
  replace CK := hid CK
  replace CR := hid CR
  have d0 : decide (now < 0) = false := by simp; omega
  have d9 : decide (1099511627776 < now) = false := by simp; omega
  clear h0 h1
  have K0 := hid ((kg_start K).alloc (msgObj m))
  clear K
  have lb := Nat.le_refl w.heap.size
  go_enter Tryz.func20, Tryz.ntmps20
  go_upto_region 1 with fail
  refine wp_gen (fun wx => Kg w F B G [(w.heap.size, msgObj m)] [] wx) K0.out ?_
  clear K0
  generalize hbm : w.heap.size = bm at lb ⊢
  have LB := hid (show w.heap.size ≤ bm from Nat.le_of_eq hbm)
  clear lb hbm
  intro w0 h0
  have K0 := hid h0; clear h0
  have M0 := hid K0.out.kp.b0
  go_wp2_with (refine wpList_row_w M0.out Tryz.underlying39 rfl (by kernel_rfl) rfl rfl rfl rfl ?_)
  refine (CM.out _).mono ?_
  rintro e w1 ⟨rfl, hg⟩
  have K1 := hid (K0.out.grown hg); clear hg K0 CM M0
  obtain ⟨e0, e1, e2, e3, e4, e5, e6⟩ := msg_cells K1.out.kp.b0
  go_wp2_with fail
  refine (CF.out _ K1.out.gt).mono ?_
  rintro e w2 ⟨rfl, hw⟩
  subst hw
  clear CF e0 e1 e2 e3 e4 e5 e6
  have M1 := hid K1.out.kp.b0
  go_wp2_with (refine wpList_row M1.out Tryz.underlying39 rfl (by kernel_rfl) rfl rfl rfl rfl ?_)
  clear M1
  refine (CK.out _ K1.out.gt).mono ?_
  rintro e w4 ⟨rfl, hg⟩
  have K4 := hid ((K1.out.grown hg).alloc (keyObj ka kb)); clear hg K1 CK
  go_upto_region 7 with fail
  refine wp_gen (fun wx => Kg w F B G [(w4.heap.size, keyObj ka kb), (bm, msgObj m)] [] wx) K4.out ?_
  clear K4
  generalize w4.heap.size = kb2
  intro w5 h5
  have K5 := hid h5; clear h5
  have Q5 := hid (kq_of K5.out K5.out.kp.b1 LB.out); clear K5
  obtain ⟨e0, e1, e2, e3, e4, e5, e6⟩ := msg_cells Q5.out.hm
  go_wp2_with fail
  refine (CR.out _ Q5.out.gt).mono ?_
  rintro e w6 ⟨rfl, hg, hc⟩
  have Q6 := hid (Q5.out.leave hg hc (by simpa using hrp)); clear hg hc Q5 CR e0 e1 e2 e3 e4 e5 e6
  go_wp2_with fail
  go_ret
  exact ⟨rfl, Q6.out.gt, Q6.out.ch⟩
set_option maxHeartbeats 6400000 in
theorem gtake_ok {F : List Nat} {B : GBl} {G : Gt} (m : Mg) (now : Int) (w : World) (K : GtAt w F B G) (CM : ∀ u, Calls Tryz.prog 62 #[mg m] u fun e w' => e = .returned (.bool true) ∧ u.grownBy w' none) (h0 : 0 ≤ now) (h1 : now ≤ 1099511627776) (pf : Addr) (CF : ∀ u, GtAt u F B G → Calls Tryz.prog 54 #[.pointer (some ⟨B.g, 0, none⟩), .int .i64 m.who] u fun e w' => e = .returned (.pointer (some pf)) ∧ u = w') (ka kb : BitVec 64) (rp : Nat) (hrp : rp ∈ F) (CK : ∀ u, GtAt u F B G → Calls Tryz.prog 56 #[.pointer (some ⟨B.g, 0, none⟩), mg m, .int .i64 now] u fun e w' => e = .returned (.tuple #[pair ka kb, .pointer (some ⟨rp, 0, none⟩), .int .i64 0]) ∧ u.grownBy w' none) (G1 : Gt) (CR : ∀ u, GtAt u F B G → Calls Tryz.prog 63 #[.pointer (some ⟨rp, 0, none⟩), .int .i64 m.seq] u fun e w' => e = .returned (.int .i64 0) ∧ GtAt w' F B G1 ∧ Chg [rp] u w') (hk : m.kind ≠ 2) :
    Calls Tryz.prog 20 #[.pointer (some ⟨B.g, 0, none⟩), mg m, .int .i64 now] w fun e w' => e = .returned (.int .i64 0) ∧ GtAt w' F B G1 ∧ Chg F w w' := by
  replace CM := hid CM
  replace CF := hid CF
  replace CK := hid CK
  replace CR := hid CR
  have d0 : decide (now < 0) = false := by simp; omega
  have d9 : decide (1099511627776 < now) = false := by simp; omega
  clear h0 h1
  have dk : (m.kind == 2) = false := by simpa using hk
  replace hk := hid hk
  have K0 := hid ((kg_start K).alloc (msgObj m))
  clear K
  have lb := Nat.le_refl w.heap.size
  go_enter Tryz.func20, Tryz.ntmps20
  go_upto_region 1 with fail
  refine wp_gen (fun wx => Kg w F B G [(w.heap.size, msgObj m)] [] wx) K0.out ?_
  clear K0
  generalize hbm : w.heap.size = bm at lb ⊢
  have LB := hid (show w.heap.size ≤ bm from Nat.le_of_eq hbm)
  clear lb hbm
  intro w0 h0
  have K0 := hid h0; clear h0
  have M0 := hid K0.out.kp.b0
  go_wp2_with (refine wpList_row_w M0.out Tryz.underlying39 rfl (by kernel_rfl) rfl rfl rfl rfl ?_)
  refine (CM.out _).mono ?_
  rintro e w1 ⟨rfl, hg⟩
  have K1 := hid (K0.out.grown hg); clear hg K0 CM M0
  obtain ⟨e0, e1, e2, e3, e4, e5, e6⟩ := msg_cells K1.out.kp.b0
  go_wp2_with fail
  refine (CF.out _ K1.out.gt).mono ?_
  rintro e w2 ⟨rfl, hw⟩
  subst hw
  clear CF e0 e1 e2 e3 e4 e5 e6
  have M1 := hid K1.out.kp.b0
  go_wp2_with (refine wpList_row M1.out Tryz.underlying39 rfl (by kernel_rfl) rfl rfl rfl rfl ?_)
  clear M1
  refine (CK.out _ K1.out.gt).mono ?_
  rintro e w4 ⟨rfl, hg⟩
  have K4 := hid ((K1.out.grown hg).alloc (keyObj ka kb)); clear hg K1 CK
  go_upto_region 7 with fail
  refine wp_gen (fun wx => Kg w F B G [(w4.heap.size, keyObj ka kb), (bm, msgObj m)] [] wx) K4.out ?_
  clear K4
  generalize w4.heap.size = kb2
  intro w5 h5
  have K5 := hid h5; clear h5
  have Q5 := hid (kq_of K5.out K5.out.kp.b1 LB.out); clear K5
  obtain ⟨e0, e1, e2, e3, e4, e5, e6⟩ := msg_cells Q5.out.hm
  go_wp2_with fail
  refine (CR.out _ Q5.out.gt).mono ?_
  rintro e w6 ⟨rfl, hg, hc⟩
  have Q6 := hid (Q5.out.leave hg hc (by simpa using hrp)); clear hg hc Q5 CR e0 e1 e2 e3 e4 e5 e6
  obtain ⟨e0, e1, e2, e3, e4, e5, e6⟩ := msg_cells Q6.out.hm
  go_wp2_with fail
  go_ret
  exact ⟨rfl, Q6.out.gt, Q6.out.ch⟩
set_option maxHeartbeats 6400000 in
theorem gtake_rot {F : List Nat} {B : GBl} {G : Gt} (m : Mg) (now : Int) (w : World) (K : GtAt w F B G) (CM : ∀ u, Calls Tryz.prog 62 #[mg m] u fun e w' => e = .returned (.bool true) ∧ u.grownBy w' none) (h0 : 0 ≤ now) (h1 : now ≤ 1099511627776) (pf : Addr) (CF : ∀ u, GtAt u F B G → Calls Tryz.prog 54 #[.pointer (some ⟨B.g, 0, none⟩), .int .i64 m.who] u fun e w' => e = .returned (.pointer (some pf)) ∧ u = w') (ka kb : BitVec 64) (rp : Nat) (hrp : rp ∈ F) (CK : ∀ u, GtAt u F B G → Calls Tryz.prog 56 #[.pointer (some ⟨B.g, 0, none⟩), mg m, .int .i64 now] u fun e w' => e = .returned (.tuple #[pair ka kb, .pointer (some ⟨rp, 0, none⟩), .int .i64 0]) ∧ u.grownBy w' none) (G1 : Gt) (CR : ∀ u, GtAt u F B G → Calls Tryz.prog 63 #[.pointer (some ⟨rp, 0, none⟩), .int .i64 m.seq] u fun e w' => e = .returned (.int .i64 0) ∧ GtAt w' F B G1 ∧ Chg [rp] u w') (hk : m.kind = 2) (G2 G3 : Gt) (i : Nat) (CX : ∀ u, GtAt u F B G1 → Calls Tryz.prog 64 #[.pointer (some ⟨B.rb, 0, none⟩), .int .i64 m.who, .int .i64 m.gen, .int .i64 now] u fun e w' => e = .returned (.int .i64 0) ∧ GtAt w' F B G2 ∧ Chg [B.rh] u w') (hw2 : G2.win = G.win) (CT : ∀ u, GtAt u F B G2 → Calls Tryz.prog 65 #[.pointer (some pf), .int .i64 (G.win : Int)] u fun e w' => e = .returned (.tuple #[]) ∧ ∃ nb, GtAt w' (nb :: F) (B.turn i nb) G3 ∧ Chg [B.hb] u w' ∧ u.heap.size ≤ nb) :
    Calls Tryz.prog 20 #[.pointer (some ⟨B.g, 0, none⟩), mg m, .int .i64 now] w fun e w' => e = .returned (.int .i64 0) ∧ ∃ nb, GtAt w' (nb :: F) (B.turn i nb) G3 ∧ Chg F w w' ∧ w.heap.size ≤ nb := by
  replace CM := hid CM
  replace CF := hid CF
  replace CK := hid CK
  replace CR := hid CR
  replace CX := hid CX
  replace CT := hid CT
  have d0 : decide (now < 0) = false := by simp; omega
  have d9 : decide (1099511627776 < now) = false := by simp; omega
  clear h0 h1
  have dk : (m.kind == 2) = true := by simpa using hk
  replace hw2 := hid hw2
  replace hk := hid hk
  have K0 := hid ((kg_start K).alloc (msgObj m))
  clear K
  have lb := Nat.le_refl w.heap.size
  go_enter Tryz.func20, Tryz.ntmps20
  go_upto_region 1 with fail
  refine wp_gen (fun wx => Kg w F B G [(w.heap.size, msgObj m)] [] wx) K0.out ?_
  clear K0
  generalize hbm : w.heap.size = bm at lb ⊢
  have LB := hid (show w.heap.size ≤ bm from Nat.le_of_eq hbm)
  clear lb hbm
  intro w0 h0
  have K0 := hid h0; clear h0
  have M0 := hid K0.out.kp.b0
  go_wp2_with (refine wpList_row_w M0.out Tryz.underlying39 rfl (by kernel_rfl) rfl rfl rfl rfl ?_)
  refine (CM.out _).mono ?_
  rintro e w1 ⟨rfl, hg⟩
  have K1 := hid (K0.out.grown hg); clear hg K0 CM M0
  obtain ⟨e0, e1, e2, e3, e4, e5, e6⟩ := msg_cells K1.out.kp.b0
  go_wp2_with fail
  refine (CF.out _ K1.out.gt).mono ?_
  rintro e w2 ⟨rfl, hw⟩
  subst hw
  clear CF e0 e1 e2 e3 e4 e5 e6
  have M1 := hid K1.out.kp.b0
  go_wp2_with (refine wpList_row M1.out Tryz.underlying39 rfl (by kernel_rfl) rfl rfl rfl rfl ?_)
  clear M1
  refine (CK.out _ K1.out.gt).mono ?_
  rintro e w4 ⟨rfl, hg⟩
  have K4 := hid ((K1.out.grown hg).alloc (keyObj ka kb)); clear hg K1 CK
  go_upto_region 7 with fail
  refine wp_gen (fun wx => Kg w F B G [(w4.heap.size, keyObj ka kb), (bm, msgObj m)] [] wx) K4.out ?_
  clear K4
  generalize w4.heap.size = kb2
  intro w5 h5
  have K5 := hid h5; clear h5
  have Q5 := hid (kq_of K5.out K5.out.kp.b1 LB.out); clear K5
  obtain ⟨e0, e1, e2, e3, e4, e5, e6⟩ := msg_cells Q5.out.hm
  go_wp2_with fail
  refine (CR.out _ Q5.out.gt).mono ?_
  rintro e w6 ⟨rfl, hg, hc⟩
  have Q6 := hid (Q5.out.leave hg hc (by simpa using hrp)); clear hg hc Q5 CR e0 e1 e2 e3 e4 e5 e6
  obtain ⟨e0, e1, e2, e3, e4, e5, e6⟩ := msg_cells Q6.out.hm
  obtain ⟨c0, c1, c2, c3, c4⟩ := Q6.out.gt.tops
  go_upto_region 13 with fail
  refine wp_region_still_tail 9 (by kernel_rfl) (by kernel_rfl) ?_
  simp only [List.take_succ_cons, List.take_zero, List.drop_succ_cons, List.drop_zero]
  change wpStill _ _ w6.drew _ _ _
  repeat still_step
  refine wpStill_nil ?_
  change wpList _ _ _ _ _ w6.drew
  go_wp2_with fail
  refine (CX.out _ Q6.out.gt.drew).mono ?_
  rintro e w7 ⟨rfl, hg, hc⟩
  have Q7 := hid (Q6.out.drew.leave hg hc (by simpa using Q6.out.gt.mrh)); clear hg hc Q6 CX e0 e1 e2 e3 e4 e5 e6 c0 c1 c2 c3 c4
  obtain ⟨c0, c1, c2, c3, c4⟩ := Q7.out.gt.tops
  rw [hw2.out] at c2
  go_wp2_with fail
  refine (CT.out _ Q7.out.gt).mono ?_
  rintro e w8 ⟨rfl, nb, hg, hc, hn⟩
  have FIN := hid (show GtAt w8 (nb :: F) (B.turn i nb) G3 ∧ Chg F w w8 ∧ w.heap.size ≤ nb from ⟨hg, Q7.out.ch.then (hc.more (by simpa using Q7.out.gt.mhb)), Nat.le_trans Q7.out.ch.size hn⟩)
  clear hg hc hn Q7 c0 c1 c2 c3 c4 CT
  go_wp2_with fail
  go_ret
  exact ⟨rfl, nb, FIN.out⟩
end Go.Proofs.YtfhifnhnkgdnlaaGreat
end
section
set_option linter.unusedSimpArgs false
set_option linter.unusedVariables false
namespace Go.Proofs.YtfhifnhnkgdnlaaGreat
set_option maxRecDepth 100000
open Go.RowKit

theorem cut_may {l : List UInt8} {m : Mg} (h : cutOf l = some m) : mayOf m = true := by
  unfold cutOf at h
  split at h
  · unfold getOf at h
    split at h
    · next hh => cases h; exact decide_eq_true hh.2.2
    · cases h
  · cases h
theorem rp_at {w : World} {F : List Nat} {B : GBl} {G : Gt} {m : Mg} (K : GtAt w F B G) (hin : G.in m.who = true) : RpAt w (B.rp G m) (G.rep m) ∧ B.rp G m ∈ F := by
  have h0 := of_decide_eq_true hin
  have hi : m.who.toNat < G.r.n := by omega
  unfold GBl.rp Gt.rep
  split
  · exact ⟨K.now _ hi, K.ma _ hi⟩
  · exact ⟨K.old _ hi, K.mo _ hi⟩
theorem gfind_any {w : World} {F : List Nat} {B : GBl} {G : Gt} (who : Int) (K : GtAt w F B G) (hin : G.in who = true) :
    Calls Tryz.prog 54 #[.pointer (some ⟨B.g, 0, none⟩), .int .i64 who] w fun e w' => e = .returned (.pointer (some ⟨B.hb, who.toNat * 3, none⟩)) ∧ w = w' := by
  have h0 := of_decide_eq_true hin
  have h := gfind_in who.toNat w K (by omega)
  rwa [Int.toNat_of_nonneg h0.1] at h
theorem gfind_no {w : World} {F : List Nat} {B : GBl} {G : Gt} (who : Int) (K : GtAt w F B G) (hin : G.in who = false) :
    Calls Tryz.prog 54 #[.pointer (some ⟨B.g, 0, none⟩), .int .i64 who] w fun e w' => e = .returned (.pointer none) ∧ w = w' :=
  gfind_out who w K (by have := of_decide_eq_false hin; omega)

/-- the check -/
theorem gcheck_any {F : List Nat} {B : GBl} {G : Gt} (v O : Value) (l : List UInt8) (o : Int → Bool) (now : Int) (w : World) (K : GtAt w F B G) (hl : BytesAt w v l) (hnow : -9223372036854775808 ≤ now)
    (hO : ∀ x u, Calls Tryz.prog 55 #[O, .int .i64 x] u fun e w' => e = .returned (.bool (o x)) ∧ u.grownBy w' none) :
    Calls Tryz.prog 18 #[.pointer (some ⟨B.g, 0, none⟩), v, .int .i64 now, O] w fun e w' => e = .returned (.tuple #[mg (G.check l now o).1, .int .i64 (G.check l now o).2]) ∧ w.grownBy w' none := by
  have S := fun u (h : BytesAt u v l) => split_all v l u h
  unfold Gt.check Gt.checkC
  cases hc : cutOf l with
  | none =>
    have e1 : spC l = 2 := by simp [spC, hc]
    rw [e1] at S ⊢
    rw [if_neg (by decide : ¬ (2 : Int) = 0), if_neg (by decide : ¬ (2 : Int) = 0)]
    exact gcheck_bytes v O l _ _ _ _ o now w K hl S
  | some m =>
    have e1 : spC l = 0 := by simp [spC, hc]
    have e2 : spM l = m := by simp [spM, hc]
    have hM := cut_may hc
    obtain ⟨_, hw, _, hq, he, _⟩ := may_of hM
    rw [e1, e2] at S
    rw [e1, e2, if_pos rfl]
    by_cases h1 : G.in m.who = true
    · have C1 := fun u (k : GtAt u F B G) => gfind_any m.who k h1
      by_cases h2 : o m.who = true
      · rw [show G.checkM l now o m = 3 by simp [Gt.checkM, h1, h2], if_neg (by decide : ¬ (3 : Int) = 0)]
        exact gcheck_out v O l _ m _ _ o now w K hl S _ C1 (fun u => h2 ▸ hO m.who u)
      · have h2' : o m.who = false := by simpa using h2
        have C2 := fun u => h2' ▸ hO m.who u
        by_cases h3 : G.may m now = true
        · have C3 := fun u (k : GtAt u F B G) => gsealer_yes m now u k h1 hM h3
          have C4 := fun u s (h : BytesAt u s (spX l)) => tag_any (G.key m).a (G.key m).b s (spX l) u h
          have C5 := fun u => same_any (spA l) (spB l) (sumOf (G.key m).a (G.key m).b (spX l)) (sumOf (G.key m).b (inv (G.key m).a) (spX l)) u
          by_cases h4 : spA l = sumOf (G.key m).a (G.key m).b (spX l) ∧ spB l = sumOf (G.key m).b (inv (G.key m).a) (spX l)
          · have h4' : (spA l == sumOf (G.key m).a (G.key m).b (spX l) && spB l == sumOf (G.key m).b (inv (G.key m).a) (spX l)) = true := by simp [h4.1.symm, h4.2.symm]
            rw [h4'] at C5
            have C6 := fun u (k : GtAt u F B G) => pmay_any m.seq u (rp_at (m := m) k h1).1
            by_cases h5 : (G.rep m).may m.seq = true
            · rw [h5] at C6
              have C7 := fun u (k : GtAt u F B G) => intime_any m.epoch now u k he.2 hnow
              by_cases h6 : G.time m.epoch now = true
              · rw [h6] at C7
                by_cases h7 : (G.met : Int) ≤ m.metric
                · rw [show G.checkM l now o m = 1 by simp [Gt.checkM, h1, h2', h3, h4, h5, h6, h7], if_neg (by decide : ¬ (1 : Int) = 0)]
                  exact gcheck_metric v O l _ m _ _ o now w K hl S _ C1 C2 _ _ _ C3 _ _ C4 C5 C6 C7 h7
                · rw [show G.checkM l now o m = 0 by simp [Gt.checkM, h1, h2', h3, h4, h5, h6, h7], if_pos rfl]
                  exact gcheck_ok v O l _ m _ _ o now w K hl S _ C1 C2 _ _ _ C3 _ _ C4 C5 C6 C7 h7
              · have h6' : G.time m.epoch now = false := by simpa using h6
                rw [show G.checkM l now o m = 7 by simp [Gt.checkM, h1, h2', h3, h4, h5, h6'], if_neg (by decide : ¬ (7 : Int) = 0)]
                rw [h6'] at C7
                exact gcheck_stale v O l _ m _ _ o now w K hl S _ C1 C2 _ _ _ C3 _ _ C4 C5 C6 C7
            · have h5' : (G.rep m).may m.seq = false := by simpa using h5
              rw [show G.checkM l now o m = 6 by simp [Gt.checkM, h1, h2', h3, h4, h5'], if_neg (by decide : ¬ (6 : Int) = 0)]
              rw [h5'] at C6
              exact gcheck_replay v O l _ m _ _ o now w K hl S _ C1 C2 _ _ _ C3 _ _ C4 C5 C6
          · rw [show G.checkM l now o m = 5 by simp only [Gt.checkM]; rw [if_neg (by rw [h1, h2']; simp), if_neg (by rw [h3]; simp), if_pos h4], if_neg (by decide : ¬ (5 : Int) = 0)]
            have h4' : (spA l == sumOf (G.key m).a (G.key m).b (spX l) && spB l == sumOf (G.key m).b (inv (G.key m).a) (spX l)) = false := by simpa using h4
            rw [h4'] at C5
            exact gcheck_auth v O l _ m _ _ o now w K hl S _ C1 C2 _ _ _ C3 _ _ C4 C5
        · have h3' : G.may m now = false := by simpa using h3
          rw [show G.checkM l now o m = 4 by simp [Gt.checkM, h1, h2', h3'], if_neg (by decide : ¬ (4 : Int) = 0)]
          exact gcheck_gen v O l _ m _ _ o now w K hl S _ C1 C2 (fun u k => gsealer_none m now u k h1 hM h3')
    · have h1' : G.in m.who = false := by simpa using h1
      rw [show G.checkM l now o m = 3 by simp [Gt.checkM, h1'], if_neg (by decide : ¬ (3 : Int) = 0)]
      exact gcheck_who v O l _ m _ _ o now w K hl S (fun u k => gfind_no m.who k h1')

theorem setRep_r (G : Gt) (m : Mg) (p : Rp) : (G.setRep m p).r = G.r := by unfold Gt.setRep; split <;> rfl
theorem setRep_win (G : Gt) (m : Mg) (p : Rp) : (G.setRep m p).win = G.win := by unfold Gt.setRep; split <;> rfl
theorem setRep_self (G : Gt) (m : Mg) : G.setRep m (G.rep m) = G := by
  unfold Gt.setRep Gt.rep
  split
  · cases G; simp only [Gt.mk.injEq, true_and, and_true]; funext i; split <;> simp_all
  · cases G; simp only [Gt.mk.injEq, true_and, and_true]; funext i; split <;> simp_all
/-- a number taken of the window at hand -/
theorem took_any {w : World} {F : List Nat} {B : GBl} {G : Gt} (m : Mg) (K : GtAt w F B G) (hin : G.in m.who = true) (n : Int) :
    Calls Tryz.prog 63 #[.pointer (some ⟨B.rp G m, 0, none⟩), .int .i64 n] w fun e w' => e = .returned (.int .i64 ((G.rep m).take n).1) ∧ GtAt w' F B (G.setRep m ((G.rep m).take n).2) ∧ Chg [B.rp G m] w w' := by
  have h0 := of_decide_eq_true hin
  have hi : m.who.toNat < G.r.n := by omega
  refine (ptake_any n w (rp_at K hin).1).mono fun e w' ⟨he, hp, hc⟩ => ⟨he, ?_, hc⟩
  have hw : ((G.rep m).take n).2.win = G.win := by
    rw [take_win]; unfold Gt.rep; split
    · exact K.ok.nw _
    · exact K.ok.ow _
  revert hp hc hw
  generalize ((G.rep m).take n).2 = p
  unfold Gt.setRep GBl.rp
  split
  · intro hp hc hw; exact K.tookNow hi hp hw hc
  · intro hp hc hw; exact K.tookOld hi hp hw hc
/-- what Take answers and leaves -/
theorem gtake_any {F : List Nat} {B : GBl} {G : Gt} (m : Mg) (now : Int) (w : World) (K : GtAt w F B G) :
    Calls Tryz.prog 20 #[.pointer (some ⟨B.g, 0, none⟩), mg m, .int .i64 now] w (LeavesG w F B (G.take m now)) := by
  have same : ∀ {c : Int} {e : Ending} {w' : World}, (e = .returned (.int .i64 c) ∧ w.grownBy w' none) → LeavesG w F B (c, G) e w' := fun ⟨h, hg⟩ => ⟨h, F, B, K.grown hg, rfl, rfl, chg_grown hg F, fun x hx => .inl hx⟩
  have CM := fun u => may_any m u
  unfold Gt.take
  by_cases hM : mayOf m = true
  · rw [hM] at CM
    by_cases h0 : now < 0
    · rw [if_pos (Or.inr (Or.inl h0))]; exact (gtake_low m now w K CM h0).mono fun _ _ h => same h
    · by_cases h1 : 1099511627776 < now
      · rw [if_pos (Or.inr (Or.inr h1))]; exact (gtake_high m now w K CM (by omega) h1).mono fun _ _ h => same h
      · rw [if_neg (by rw [hM]; simp; omega)]
        by_cases h2 : G.in m.who = true
        · rw [if_neg (by rw [h2]; simp)]
          have C1 := fun u (k : GtAt u F B G) => gfind_any m.who k h2
          by_cases h3 : G.may m now = true
          · rw [if_neg (by rw [h3]; simp)]
            have C2 := fun u (k : GtAt u F B G) => gsealer_yes m now u k h2 hM h3
            have C3 := fun u (k : GtAt u F B G) => took_any m k h2 m.seq
            unfold Rp.take at C3
            by_cases h4 : (G.rep m).may m.seq = true
            · rw [if_neg (by rw [h4]; simp)]
              rw [if_pos h4] at C3
              by_cases h5 : m.kind = 2
              · rw [if_pos h5]
                have hh := of_decide_eq_true h2
                have hi : m.who.toNat < G.r.n := by omega
                obtain ⟨g1, g2⟩ := of_decide_eq_true h3
                have hg := g1 h5
                obtain ⟨_, _, hgen, _⟩ := may_of hM
                have hr := setRep_r G m ((G.rep m).put m.seq)
                refine (gtake_rot m now w K CM (by omega) (by omega) _ C1 _ _ _ (rp_at K h2).2 C2 (G.setRep m ((G.rep m).put m.seq)) C3 h5
                  { G.setRep m ((G.rep m).put m.seq) with r := (G.setRep m ((G.rep m).put m.seq)).r.put m.who.toNat m.gen now }
                  ((G.setRep m ((G.rep m).put m.seq)).turn m.who.toNat m.gen now) m.who.toNat (fun u k => ?_) (setRep_win _ _ _) (fun u k => ?_)).mono fun e w' ⟨he, nb, hg', hc, hn⟩ =>
                    ⟨he, _, _, hg', rfl, rfl, hc, fun x hx => by rcases List.mem_cons.1 hx with rfl | hx; exact .inr hn; exact .inl hx⟩
                · have hrot := rrot_ok m.who.toNat now u k.ring (by rw [hr]; exact hi) (by rw [hr]; omega) (by omega) (by omega)
                  rw [Int.toNat_of_nonneg hh.1, show (G.setRep m ((G.rep m).put m.seq)).r.gen m.who.toNat + 1 = m.gen by rw [hr]; omega] at hrot
                  exact hrot.mono fun e w' ⟨he, hR, hc⟩ => ⟨he, k.rung hR hc, hc⟩
                · have ht := gturn_any m.who.toNat u k (show m.who.toNat < (G.setRep m ((G.rep m).put m.seq)).r.n by rw [hr]; exact hi)
                  rw [show ({ G.setRep m ((G.rep m).put m.seq) with r := (G.setRep m ((G.rep m).put m.seq)).r.put m.who.toNat m.gen now } : Gt).win = G.win from setRep_win _ _ _] at ht
                  exact ht.mono fun e w' ⟨he, nb, hg', hc, hn⟩ => ⟨he, nb, by
                    have e9 := setRep_win G m ((G.rep m).put m.seq)
                    unfold Gt.turn
                    rw [e9]
                    exact hg', hc, hn⟩
              · rw [if_neg h5]
                exact (gtake_ok m now w K CM (by omega) (by omega) _ C1 _ _ _ (rp_at K h2).2 C2 (G.setRep m ((G.rep m).put m.seq)) C3 h5).mono fun e w' ⟨he, hg', hc⟩ => ⟨he, F, B, hg', rfl, rfl, hc, fun x hx => .inl hx⟩
            · have h4' : (G.rep m).may m.seq = false := by simpa using h4
              rw [if_pos h4']
              rw [if_neg h4, setRep_self] at C3
              exact (gtake_replay m now w K CM (by omega) (by omega) _ C1 _ _ _ (rp_at K h2).2 C2 C3).mono fun e w' ⟨he, hg', hc⟩ => ⟨he, F, B, hg', rfl, rfl, hc, fun x hx => .inl hx⟩
          · have h3' : G.may m now = false := by simpa using h3
            rw [if_pos h3']
            exact (gtake_gen m now w K CM (by omega) (by omega) _ C1 (fun u k => gsealer_none m now u k h2 hM h3')).mono fun _ _ h => same h
        · have h2' : G.in m.who = false := by simpa using h2
          rw [if_pos h2']
          exact (gtake_who m now w K CM (by omega) (by omega) (fun u k => gfind_no m.who k h2')).mono fun _ _ h => same h
  · have hM' : mayOf m = false := by simpa using hM
    rw [if_pos (Or.inl hM')]
    rw [hM'] at CM
    exact (gtake_may m now w K CM).mono fun _ _ h => same h
end Go.Proofs.YtfhifnhnkgdnlaaGreat
end
section
set_option linter.unusedSimpArgs false
namespace Go.Proofs.YtfhifnhnkgdnlaaGreat
set_option maxRecDepth 100000
open Go.RowKit

structure Conf where
  (n f m quorum fresh grace window t0 t1 t2 t3 tol min max calmup calmdown podsup pctup podsdown pctdown period far strikes probe sectors seed : Int)
@[reducible] def Conf.cells (c : Conf) : Array Value := #[.int .i64 c.n, .int .i64 c.f, .int .i64 c.m, .int .i64 c.quorum, .int .i64 c.fresh, .int .i64 c.grace, .int .i64 c.window, .int .i64 c.t0, .int .i64 c.t1, .int .i64 c.t2, .int .i64 c.t3, .int .i64 c.tol, .int .i64 c.min, .int .i64 c.max, .int .i64 c.calmup, .int .i64 c.calmdown, .int .i64 c.podsup, .int .i64 c.pctup, .int .i64 c.podsdown, .int .i64 c.pctdown, .int .i64 c.period, .int .i64 c.far, .int .i64 c.strikes, .int .i64 c.probe, .int .i64 c.sectors, .int .u64 c.seed]
@[reducible] def cf (c : Conf) : Value := .agg c.cells

def cwithin (n lo hi : Int) : Bool := decide (lo ≤ n) && decide (n ≤ hi)

theorem cwithin_any (n lo hi : Int) (w : World) :
    Calls Tryz.prog 119 #[.int .i64 n, .int .i64 lo, .int .i64 hi] w fun e w' => e = .returned (.bool (cwithin n lo hi)) ∧ w' = w := by
  unfold cwithin
  by_cases h1 : lo ≤ n <;> by_cases h2 : n ≤ hi <;> (
  go_enter Tryz.func119, Tryz.ntmps119
  go_wp2_with fail
  go_ret
  simp [h1, h2])
theorem cwithin64_any (n lo hi : Int) (w : World) :
    Calls Tryz.prog 121 #[.int .i64 n, .int .i64 lo, .int .i64 hi] w fun e w' => e = .returned (.bool (cwithin n lo hi)) ∧ w' = w := by
  unfold cwithin
  by_cases h1 : lo ≤ n <;> by_cases h2 : n ≤ hi <;> (
  go_enter Tryz.func121, Tryz.ntmps121
  go_wp2_with fail
  go_ret
  simp [h1, h2])
theorem cin_any (n lo hi : Int) (w : World) :
    Calls Tryz.prog 107 #[.int .i64 n, .int .i64 lo, .int .i64 hi] w fun e w' => e = .returned (.bool (cwithin n lo hi)) ∧ w' = w := by
  unfold cwithin
  by_cases h1 : lo ≤ n <;> by_cases h2 : n ≤ hi <;> (
  go_enter Tryz.func107, Tryz.ntmps107
  go_wp2_with fail
  go_ret
  simp [h1, h2])

/-- the function's own block: the configuration that came in; all else as it was, or new -/
structure BoxC (w : World) (c : Conf) (w' : World) : Prop where
  box : w'.heap[w.heap.size]? = some (.cells c.cells 27)
  g : w.grownBy w' none
theorem BoxC.grown {w : World} {c : Conf} {w1 w2 : World} (h : BoxC w c w1) (hg : w1.grownBy w2 none) : BoxC w c w2 := ⟨at_grown h.box hg (by simp), gb_trans h.g hg (.inl rfl)⟩
theorem BoxC.drew {w : World} {c : Conf} {w1 : World} (h : BoxC w c w1) : BoxC w c w1.drew := ⟨h.box, gb_drew h.g⟩
theorem boxc_new (w : World) (c : Conf) : BoxC w c (w.alloc (.cells c.cells 27)) := ⟨at_new w _, gb_alloc (.refl w none) _⟩

/-- a whole configuration, read from its block -/
theorem load_conf {w : World} {b : Nat} {c : Conf} {t : TypeId} {fr : Nat × Nat} (h : w.heap[b]? = some (.cells c.cells t fr)) :
    (loadVar 27 ⟨b, 0, none⟩).run Tryz.prog w = .ok (cf c) w :=
  run_loadVar_row w b t 27 c.cells fr _ h Tryz.underlying27 rfl (by kernel_rfl)

theorem loadAt_conf {w : World} {b : Nat} {c : Conf} {t : TypeId} {fr : Nat × Nat} (h : w.heap[b]? = some (.cells c.cells t fr)) :
    (Instr.loadAt 27 (.pointer (some ⟨b, 0, none⟩))).run Tryz.prog w = .ok (cf c) w := by
  simp only [Instr.loadAt, Instr.sureAddr, Sem.run_bind, Sem.run_pure, Result.andThen_ok, load_conf h]

/-- one operation of a walk: a whole configuration is read from its block -/
theorem wpList_conf {ops : Array Oper} {rest : List Oper} {o : Oper} {a : Act} {w : World} {Q : Exit → Act → World → Prop} {b : Nat} {c : Conf} {t : TypeId} {fr : Nat × Nat} {x : Operand} {dst : Option Tmp}
    (h : w.heap[b]? = some (.cells c.cells t fr)) (hg : o.guard = none) (ho : o.op = .load 27 x) (hdst : o.dst = dst) (hx : a.eval x = .pointer (some ⟨b, 0, none⟩))
    (k : wpList Tryz.prog ops Q rest (a.put dst (cf c)) w) : wpList Tryz.prog ops Q (o :: rest) a w := by
  refine Great.wpList_readTo hg dst hdst (cf c) ?_ k
  simp only [execOp, ho, hx, Sem.run_bind, loadAt_conf h, Result.andThen]
  rfl

end Go.Proofs.YtfhifnhnkgdnlaaGreat
end
section
set_option linter.unusedSimpArgs false
namespace Go.Proofs.YtfhifnhnkgdnlaaGreat
set_option maxRecDepth 100000
open Go.RowKit

/-- a block that is an answer: not made, or made with a name -/
@[reducible] def ansObj (done : Int) (s : ByteArray) : Obj := .cells #[.int .u32 done, .int .i32 0, .int .u32 0, .string s] 196
/-- which name, if one -/
@[reducible] def told1 : Option ByteArray → Obj
  | none => ansObj 0 ⟨#[]⟩
  | some s => ansObj 1 s
def ask1 (st : Option ByteArray) (s : ByteArray) (may : Bool) : Option ByteArray :=
  match st with
  | some r => some r
  | none => if may then none else some s

set_option maxHeartbeats 1600000 in
theorem cslow_any (b nb pb : Nat) (hk : b ≠ nb) (hp : b ≠ pb) (s : ByteArray) (w : World)
    (hb : w.heap[b]? = some (ansObj 0 ⟨#[]⟩))
    (hnb : w.heap[nb]? = some (.cells #[.string s] 9))
    (hpb : w.heap[pb]? = some (.cells #[.pointer (some ⟨b, 0, none⟩)] 219)) :
    Calls Tryz.prog 139 #[.pointer (some ⟨b, 0, none⟩), .func (.func 134) #[] #[.pointer (some ⟨nb, 0, none⟩), .pointer (some ⟨pb, 0, none⟩)]] w fun e w' => e = .returned (.tuple #[]) ∧
      w'.heap[b]? = some (ansObj 1 s) ∧ w.grownBy w' (some b) := by
  -- the world in which the lock is held
  have hb1 := at_set hb 1 (.int .i32 1)
  have hnb1 := at_set_other (p := ⟨b, 1, none⟩) hnb (fun h => hk h.symm) (.int .i32 1)
  have hpb1 := at_set_other (p := ⟨b, 1, none⟩) hpb (fun h => hp h.symm) (.int .i32 1)
  have c1 : w.cell? ⟨b, 1, none⟩ = some (.int .i32 0) := at_cell hb 1
  have f1 : w.frozen? ⟨b, 1, none⟩ = false := at_free hb 1
  have hl := run_call_load (P := Tryz.prog) Tryz.func128 (by kernel_rfl) (by kernel_rfl) (by kernel_rfl) .u32 (by kernel_rfl) (w := w.setCell ⟨b, 1, none⟩ (.int .i32 1)) (a := ⟨b, 0, none⟩) (x := 0) (at_cell hb1 0)
  have hnot : ∀ (x : Bool) (w : World), (Op.unary .not (.bool x)).run Tryz.prog w = .ok (.bool (!x)) w := fun _ _ => rfl
  have p0 : (w.setCell ⟨b, 1, none⟩ (.int .i32 1)).cell? ⟨pb, 0, none⟩ = some (.pointer (some ⟨b, 0, none⟩)) := at_cell hpb1 0
  have q0 : (w.setCell ⟨b, 1, none⟩ (.int .i32 1)).cell? ⟨nb, 0, none⟩ = some (.string s) := at_cell hnb1 0
  have x3 : (w.setCell ⟨b, 1, none⟩ (.int .i32 1)).cell? ⟨b, 3, none⟩ = some (.string ⟨#[]⟩) := at_cell hb1 3
  have fz : ∀ i, w.frozen? ⟨b, i, none⟩ = false := fun i => at_free hb i
  have HB := hid hb; have HB1 := hid hb1
  clear hb hnb hpb hb1 hnb1 hpb1
  go_enter_defers Tryz.func139, Tryz.ntmps139
  go_wp2_with (go_at_call 141; refine (lock_free ⟨b, 1, none⟩ _ (by go_simp) (by go_simp)).mono ?_; rintro e w' ⟨rfl, rfl⟩)
  go_wp2
  go_end0
  go_wp2
  have hb3 := at_set HB1.out 3 (.string s)
  have hb4 := at_set (at_drew hb3) 0 (.int .u32 1)
  have hb5 := at_set hb4 1 (.int .i32 0)
  have hg3 := gb_row (gb_row (.refl w (some b)) (p := ⟨b, 1, none⟩) rfl (.int .i32 1)) (p := ⟨b, 3, none⟩) rfl (.string s)
  have hg5 := gb_row (gb_row (gb_drew hg3) (p := ⟨b, 0, none⟩) rfl (.int .u32 1)) (p := ⟨b, 1, none⟩) rfl (.int .i32 0)
  -- the door: two deferred calls, the last laid first
  refine leaves_cons (f := 143) (args := #[.pointer (some ⟨b, 0, none⟩), .bool true]) (by simp) (by simp [go_sem]) ?_
  refine (store_deferred ⟨b, 0, none⟩ (.int .u32 0) .returning _ (at_cell hb3 0) (at_free hb3 0)).mono ?_
  rintro e u' w'' ⟨rfl, rfl, rfl⟩
  refine leaves_cons (f := 142) (args := #[.pointer (some ⟨b, 1, none⟩)]) (by simp [settle]) (by simp [go_sem]) ?_
  refine (unlock_deferred ⟨b, 1, none⟩ _ _ (at_cell hb4 1) (at_free hb4 1)).mono ?_
  rintro e u' w'' ⟨rfl, rfl, rfl⟩
  clear hb3 hb4 hg3 x3 p0 q0 hl HB HB1 fz c1 f1 hnot
  have H5 := hid hb5; have G5 := hid hg5; clear hb5 hg5
  simp [Go.Leaves, settle, results, Tryz.results139]
  exact ⟨H5.out, G5.out⟩

set_option maxHeartbeats 800000 in
theorem cdo_first (b nb pb : Nat) (hk : b ≠ nb) (hp : b ≠ pb) (s : ByteArray) (w : World)
    (hb : w.heap[b]? = some (ansObj 0 ⟨#[]⟩))
    (hnb : w.heap[nb]? = some (.cells #[.string s] 9))
    (hpb : w.heap[pb]? = some (.cells #[.pointer (some ⟨b, 0, none⟩)] 219)) :
    Calls Tryz.prog 133 #[.pointer (some ⟨b, 0, none⟩), .func (.func 134) #[] #[.pointer (some ⟨nb, 0, none⟩), .pointer (some ⟨pb, 0, none⟩)]] w fun e w' => e = .returned (.tuple #[]) ∧
      w'.heap[b]? = some (ansObj 1 s) ∧ w.grownBy w' (some b) := by
  have hl := run_call_load (P := Tryz.prog) Tryz.func128 (by kernel_rfl) (by kernel_rfl) (by kernel_rfl) .u32 (by kernel_rfl) (w := w) (a := ⟨b, 0, none⟩) (x := 0) (at_cell hb 0)
  have hnot : ∀ (x : Bool) (w : World), (Op.unary .not (.bool x)).run Tryz.prog w = .ok (.bool (!x)) w := fun _ _ => rfl
  have HB := hid hb; have HK := hid hnb; have HP := hid hpb
  clear hb hnb hpb
  go_enter Tryz.func133, Tryz.ntmps133
  go_wp2_with (go_at_call 138; go_in)
  refine (cslow_any b nb pb hk hp s _ HB.out HK.out HP.out).mono ?_
  rintro e w' ⟨rfl, h1, h2⟩
  have H1 := hid h1; clear h1
  go_wp2
  go_end0
  exact ⟨rfl, H1.out, h2⟩

set_option maxHeartbeats 800000 in
/-- a part that may be -/
theorem ask_may (b : Nat) (s : ByteArray) (w : World) :
    Calls Tryz.prog 118 #[.pointer (some ⟨b, 0, none⟩), .string s, .bool true] w fun e w' => e = .returned (.tuple #[]) ∧ w.grownBy w' none := by
  have hnot : ∀ (x : Bool) (w : World), (Op.unary .not (.bool x)).run Tryz.prog w = .ok (.bool (!x)) w := fun _ _ => rfl
  go_enter Tryz.func118, Tryz.ntmps118
  go_wp2_with fail
  go_end0
  exact ⟨rfl, gb_alloc (gb_alloc (.refl _ _) _) _⟩

set_option maxHeartbeats 800000 in
/-- the first part that may not be -/
theorem ask_first (b : Nat) (s : ByteArray) (w : World) (hb : w.heap[b]? = some (ansObj 0 ⟨#[]⟩)) :
    Calls Tryz.prog 118 #[.pointer (some ⟨b, 0, none⟩), .string s, .bool false] w fun e w' => e = .returned (.tuple #[]) ∧
      w'.heap[b]? = some (ansObj 1 s) ∧ w.grownBy w' (some b) := by
  have hmf : ∀ (fn : Fn) (first cap : Array Value) (w : World), (Instr.makeFunc fn first cap).run Tryz.prog w = .ok (.func fn first cap) w := fun _ _ _ _ => rfl
  have hnot : ∀ (x : Bool) (w : World), (Op.unary .not (.bool x)).run Tryz.prog w = .ok (.bool (!x)) w := fun _ _ => rfl
  have hlt := at_lt hb
  have HB := hid hb
  clear hb
  go_enter Tryz.func118, Tryz.ntmps118
  go_wp2_with fail
  refine (cdo_first b (w.heap.size + 1) w.heap.size (by omega) (by omega) s _ (at_alloc (at_alloc HB.out _) _) (by simpa using at_new (w.alloc _) _) (at_alloc (at_new w _) _)).mono ?_
  rintro e w' ⟨rfl, h1, h2⟩
  have H1 := hid h1; clear h1
  go_wp2
  go_end0
  exact ⟨rfl, H1.out, gb_trans (gb_alloc (gb_alloc (.refl _ _) _) _) h2 (.inr (.inl rfl))⟩

set_option maxHeartbeats 800000 in
/-- a later part that may not be -/
theorem ask_later (b : Nat) (s r : ByteArray) (w : World) (hb : w.heap[b]? = some (ansObj 1 r)) :
    Calls Tryz.prog 118 #[.pointer (some ⟨b, 0, none⟩), .string s, .bool false] w fun e w' => e = .returned (.tuple #[]) ∧ w.grownBy w' none := by
  have hmf : ∀ (fn : Fn) (first cap : Array Value) (w : World), (Instr.makeFunc fn first cap).run Tryz.prog w = .ok (.func fn first cap) w := fun _ _ _ _ => rfl
  have hnot : ∀ (x : Bool) (w : World), (Op.unary .not (.bool x)).run Tryz.prog w = .ok (.bool (!x)) w := fun _ _ => rfl
  have HB := hid hb
  clear hb
  go_enter Tryz.func118, Tryz.ntmps118
  go_wp2_with fail
  refine (do_done ⟨b, 0, none⟩ 1 (by decide) _ _ (at_cell (at_alloc (at_alloc HB.out _) _) 0)).mono ?_
  rintro e w' ⟨rfl, rfl⟩
  go_wp2
  go_end0
  exact ⟨rfl, gb_alloc (gb_alloc (.refl _ _) _) _⟩

/-- a part is asked -/
theorem ask_any (b : Nat) (s : ByteArray) (may : Bool) (st : Option ByteArray) (w : World) (hb : w.heap[b]? = some (told1 st)) :
    Calls Tryz.prog 118 #[.pointer (some ⟨b, 0, none⟩), .string s, .bool may] w fun e w' => e = .returned (.tuple #[]) ∧
      w'.heap[b]? = some (told1 (ask1 st s may)) ∧ w.grownBy w' (some b) := by
  have weak : ∀ {a c : World}, a.grownBy c none → a.grownBy c (some b) := fun h => ⟨h.os, h.tape, h.output, h.size, fun i hi _ => h.block i hi (by simp)⟩
  cases may with
  | true =>
    refine (ask_may b s w).mono ?_
    rintro e w' ⟨rfl, hg⟩
    refine ⟨rfl, ?_, weak hg⟩
    rw [at_grown hb hg (by simp)]
    cases st <;> rfl
  | false =>
    cases st with
    | none => exact ask_first b s w hb
    | some r =>
      refine (ask_later b s r w hb).mono ?_
      rintro e w' ⟨rfl, hg⟩
      exact ⟨rfl, at_grown hb hg (by simp), weak hg⟩
end Go.Proofs.YtfhifnhnkgdnlaaGreat
end
section
set_option linter.unusedSimpArgs false
namespace Go.Proofs.YtfhifnhnkgdnlaaGreat
set_option maxRecDepth 100000
open Go.RowKit

/-- may the i-th of m metrics have this target? -/
def tgt (m i t : Int) : Bool := if i < m then cwithin t 1 1099511627776 else t == 0
def tgts (m t0 t1 t2 t3 : Int) : Bool := tgt m 0 t0 && tgt m 1 t1 && tgt m 2 t2 && tgt m 3 t3
/-- those ahead of the k-th -/
def tgtsTo (m t0 t1 t2 t3 : Int) : Nat → Prop
  | 0 => True
  | 1 => tgt m 0 t0 = true
  | 2 => tgt m 0 t0 = true ∧ tgt m 1 t1 = true
  | 3 => tgt m 0 t0 = true ∧ tgt m 1 t1 = true ∧ tgt m 2 t2 = true
  | _ => tgt m 0 t0 = true ∧ tgt m 1 t1 = true ∧ tgt m 2 t2 = true ∧ tgt m 3 t3 = true
theorem tgts_all {m t0 t1 t2 t3 : Int} (h : tgtsTo m t0 t1 t2 t3 4) : tgts m t0 t1 t2 t3 = true := by
  simp only [tgtsTo] at h
  simp [tgts, h]

section
variable (t0 t1 t2 t3 : Int) (w : World)
theorem ix0 : (Instr.index 24 (.agg #[.int .i64 t0, .int .i64 t1, .int .i64 t2, .int .i64 t3]) (.int .i64 0)).run Tryz.prog w = .ok (.int .i64 t0) w := by
  simp [Instr.index, run_underlying Tryz.underlying24, asIntOf, go_sem]
theorem ix1 : (Instr.index 24 (.agg #[.int .i64 t0, .int .i64 t1, .int .i64 t2, .int .i64 t3]) (.int .i64 1)).run Tryz.prog w = .ok (.int .i64 t1) w := by
  simp [Instr.index, run_underlying Tryz.underlying24, asIntOf, go_sem]
theorem ix2 : (Instr.index 24 (.agg #[.int .i64 t0, .int .i64 t1, .int .i64 t2, .int .i64 t3]) (.int .i64 2)).run Tryz.prog w = .ok (.int .i64 t2) w := by
  simp [Instr.index, run_underlying Tryz.underlying24, asIntOf, go_sem]
theorem ix3 : (Instr.index 24 (.agg #[.int .i64 t0, .int .i64 t1, .int .i64 t2, .int .i64 t3]) (.int .i64 3)).run Tryz.prog w = .ok (.int .i64 t3) w := by
  simp [Instr.index, run_underlying Tryz.underlying24, asIntOf, go_sem]
end

set_option maxHeartbeats 3200000 in
theorem targets_any (t0 t1 t2 t3 m : Int) (w : World) :
    Calls Tryz.prog 120 #[.agg #[.int .i64 t0, .int .i64 t1, .int .i64 t2, .int .i64 t3], .int .i64 m] w fun e w' => e = .returned (.bool (tgts m t0 t1 t2 t3)) ∧ w.grownBy w' none := by
  go_enter Tryz.func120, Tryz.ntmps120
  go_wp2_with fail
  go_loopw [8] (fun i wr => ∃ k : Nat, k ≤ 4 ∧ i = .int .i64 (k : Int) ∧ tgtsTo m t0 t1 t2 t3 k ∧ w.grownBy wr none) (fun i _ => 4 - (intOf i).toNat)
  case atStart => exact ⟨0, by omega, rfl, trivial, gb_alloc (.refl w none) _⟩
  case round =>
    obtain ⟨k, hk, rfl, hd, hg⟩ := hrel
    have HD := hid hd; have HG := hid hg; clear hd hg
    have i0 := fun w => ix0 t0 t1 t2 t3 w
    have i1 := fun w => ix1 t0 t1 t2 t3 w
    have i2 := fun w => ix2 t0 t1 t2 t3 w
    have i3 := fun w => ix3 t0 t1 t2 t3 w
    have h5 : k = 0 ∨ k = 1 ∨ k = 2 ∨ k = 3 ∨ k = 4 := by omega
    rcases h5 with rfl | rfl | rfl | rfl | rfl
    · clear hk
      by_cases h : (0 : Int) < m
      · have h' : ¬ m ≤ (0 : Int) := by omega
        have hc := fun w => cwithin64_any t0 1 1099511627776 w
        cases hb : cwithin t0 1 1099511627776 with
        | true =>
          rw [hb] at hc
          go_wp2_with fail
          refine (hc _).mono ?_
          rintro e w1 ⟨rfl, rfl⟩
          go_wp2_with fail
          go_roundw
          case rel => exact ⟨1, by omega, rfl, by have h1 : tgt m 0 t0 = true := (by simp [tgt, h, hb]); have h2 := HD.out; simp_all [tgtsTo], HG.out⟩
          case measure => simp [intOf]
        | false =>
          rw [hb] at hc
          go_wp2_with fail
          refine (hc _).mono ?_
          rintro e w1 ⟨rfl, rfl⟩
          go_wp2_with fail
          go_ret
          exact ⟨by have h1 : tgt m 0 t0 = false := (by simp [tgt, h, hb]); simp [tgts, h1], HG.out⟩
      · have h' : m ≤ (0 : Int) := by omega
        by_cases hz : t0 = 0
        · subst hz
          go_wp2_with fail
          go_roundw
          case rel => exact ⟨1, by omega, rfl, by have h1 : tgt m 0 0 = true := (by unfold tgt; rw [if_neg (by omega)]; rfl); have h2 := HD.out; simp_all [tgtsTo], HG.out⟩
          case measure => simp [intOf]
        · have hzb : (t0 != 0) = true := by simp [hz]
          have HZ := hid hz; clear hz
          go_wp2_with fail
          go_ret
          have hz := HZ.out
          exact ⟨by have h1 : tgt m 0 t0 = false := (by unfold tgt; rw [if_neg (by omega)]; simp [hz]); simp [tgts, h1], HG.out⟩
    · clear hk
      by_cases h : (1 : Int) < m
      · have h' : ¬ m ≤ (1 : Int) := by omega
        have hc := fun w => cwithin64_any t1 1 1099511627776 w
        cases hb : cwithin t1 1 1099511627776 with
        | true =>
          rw [hb] at hc
          go_wp2_with fail
          refine (hc _).mono ?_
          rintro e w1 ⟨rfl, rfl⟩
          go_wp2_with fail
          go_roundw
          case rel => exact ⟨2, by omega, rfl, by have h1 : tgt m 1 t1 = true := (by simp [tgt, h, hb]); have h2 := HD.out; simp_all [tgtsTo], HG.out⟩
          case measure => simp [intOf]
        | false =>
          rw [hb] at hc
          go_wp2_with fail
          refine (hc _).mono ?_
          rintro e w1 ⟨rfl, rfl⟩
          go_wp2_with fail
          go_ret
          exact ⟨by have h1 : tgt m 1 t1 = false := (by simp [tgt, h, hb]); simp [tgts, h1], HG.out⟩
      · have h' : m ≤ (1 : Int) := by omega
        by_cases hz : t1 = 0
        · subst hz
          go_wp2_with fail
          go_roundw
          case rel => exact ⟨2, by omega, rfl, by have h1 : tgt m 1 0 = true := (by unfold tgt; rw [if_neg (by omega)]; rfl); have h2 := HD.out; simp_all [tgtsTo], HG.out⟩
          case measure => simp [intOf]
        · have hzb : (t1 != 0) = true := by simp [hz]
          have HZ := hid hz; clear hz
          go_wp2_with fail
          go_ret
          have hz := HZ.out
          exact ⟨by have h1 : tgt m 1 t1 = false := (by unfold tgt; rw [if_neg (by omega)]; simp [hz]); simp [tgts, h1], HG.out⟩
    · clear hk
      by_cases h : (2 : Int) < m
      · have h' : ¬ m ≤ (2 : Int) := by omega
        have hc := fun w => cwithin64_any t2 1 1099511627776 w
        cases hb : cwithin t2 1 1099511627776 with
        | true =>
          rw [hb] at hc
          go_wp2_with fail
          refine (hc _).mono ?_
          rintro e w1 ⟨rfl, rfl⟩
          go_wp2_with fail
          go_roundw
          case rel => exact ⟨3, by omega, rfl, by have h1 : tgt m 2 t2 = true := (by simp [tgt, h, hb]); have h2 := HD.out; simp_all [tgtsTo], HG.out⟩
          case measure => simp [intOf]
        | false =>
          rw [hb] at hc
          go_wp2_with fail
          refine (hc _).mono ?_
          rintro e w1 ⟨rfl, rfl⟩
          go_wp2_with fail
          go_ret
          exact ⟨by have h1 : tgt m 2 t2 = false := (by simp [tgt, h, hb]); simp [tgts, h1], HG.out⟩
      · have h' : m ≤ (2 : Int) := by omega
        by_cases hz : t2 = 0
        · subst hz
          go_wp2_with fail
          go_roundw
          case rel => exact ⟨3, by omega, rfl, by have h1 : tgt m 2 0 = true := (by unfold tgt; rw [if_neg (by omega)]; rfl); have h2 := HD.out; simp_all [tgtsTo], HG.out⟩
          case measure => simp [intOf]
        · have hzb : (t2 != 0) = true := by simp [hz]
          have HZ := hid hz; clear hz
          go_wp2_with fail
          go_ret
          have hz := HZ.out
          exact ⟨by have h1 : tgt m 2 t2 = false := (by unfold tgt; rw [if_neg (by omega)]; simp [hz]); simp [tgts, h1], HG.out⟩
    · clear hk
      by_cases h : (3 : Int) < m
      · have h' : ¬ m ≤ (3 : Int) := by omega
        have hc := fun w => cwithin64_any t3 1 1099511627776 w
        cases hb : cwithin t3 1 1099511627776 with
        | true =>
          rw [hb] at hc
          go_wp2_with fail
          refine (hc _).mono ?_
          rintro e w1 ⟨rfl, rfl⟩
          go_wp2_with fail
          go_roundw
          case rel => exact ⟨4, by omega, rfl, by have h1 : tgt m 3 t3 = true := (by simp [tgt, h, hb]); have h2 := HD.out; simp_all [tgtsTo], HG.out⟩
          case measure => simp [intOf]
        | false =>
          rw [hb] at hc
          go_wp2_with fail
          refine (hc _).mono ?_
          rintro e w1 ⟨rfl, rfl⟩
          go_wp2_with fail
          go_ret
          exact ⟨by have h1 : tgt m 3 t3 = false := (by simp [tgt, h, hb]); simp [tgts, h1], HG.out⟩
      · have h' : m ≤ (3 : Int) := by omega
        by_cases hz : t3 = 0
        · subst hz
          go_wp2_with fail
          go_roundw
          case rel => exact ⟨4, by omega, rfl, by have h1 : tgt m 3 0 = true := (by unfold tgt; rw [if_neg (by omega)]; rfl); have h2 := HD.out; simp_all [tgtsTo], HG.out⟩
          case measure => simp [intOf]
        · have hzb : (t3 != 0) = true := by simp [hz]
          have HZ := hid hz; clear hz
          go_wp2_with fail
          go_ret
          have hz := HZ.out
          exact ⟨by have h1 : tgt m 3 t3 = false := (by unfold tgt; rw [if_neg (by omega)]; simp [hz]); simp [tgts, h1], HG.out⟩
    · clear hk
      go_wp2_with fail
      go_ret
      exact ⟨by rw [tgts_all HD.out]; rfl, HG.out⟩

set_option maxHeartbeats 3200000 in
theorem reftargets_any (c : Conf) (w : World) :
    Calls Tryz.prog 122 #[cf c] w fun e w' => e = .returned (.bool (tgts c.m c.t0 c.t1 c.t2 c.t3)) ∧ w.grownBy w' none := by
  go_enter Tryz.func122, Tryz.ntmps122
  go_wp2_with fail
  go_loopw [3] (fun i wr => ∃ k : Nat, k ≤ 4 ∧ i = .int .i64 (k : Int) ∧ tgtsTo c.m c.t0 c.t1 c.t2 c.t3 k ∧ BoxC w c wr) (fun i _ => 4 - (intOf i).toNat)
  case atStart => exact ⟨0, by omega, rfl, trivial, boxc_new w c⟩
  case round =>
    obtain ⟨k, hk, rfl, hd, hg⟩ := hrel
    have cm : wr.cell? ⟨w.heap.size, 2, none⟩ = some (.int .i64 c.m) := at_cell hg.box 2
    have c0 : wr.cell? ⟨w.heap.size, 7, none⟩ = some (.int .i64 c.t0) := at_cell hg.box 7
    have c1 : wr.cell? ⟨w.heap.size, 8, none⟩ = some (.int .i64 c.t1) := at_cell hg.box 8
    have c2 : wr.cell? ⟨w.heap.size, 9, none⟩ = some (.int .i64 c.t2) := at_cell hg.box 9
    have c3 : wr.cell? ⟨w.heap.size, 10, none⟩ = some (.int .i64 c.t3) := at_cell hg.box 10
    have HD := hid hd; have HG := hid hg; clear hd hg
    have h5 : k = 0 ∨ k = 1 ∨ k = 2 ∨ k = 3 ∨ k = 4 := by omega
    rcases h5 with rfl | rfl | rfl | rfl | rfl
    · clear hk
      obtain ⟨t, ht⟩ : ∃ t, t = c.t0 := ⟨_, rfl⟩
      rw [← ht] at c0
      obtain ⟨m, hm⟩ : ∃ m, m = c.m := ⟨_, rfl⟩
      rw [← hm] at cm
      by_cases h : (0 : Int) < m
      · have h' : ¬ m ≤ (0 : Int) := by omega
        by_cases h1 : t < 1
        · have hn : tgt m 0 t = false := by unfold tgt cwithin; rw [if_pos h, decide_eq_false (by omega : ¬ 1 ≤ t)]; rfl
          have HN := hid hn; clear hn
          go_wp2_with fail
          go_ret
          have hn := HN.out
          exact ⟨by subst ht hm; simp [tgts, hn], HG.out.g⟩
        · by_cases h2 : 1099511627776 < t
          · have hn : tgt m 0 t = false := by unfold tgt cwithin; rw [if_pos h, decide_eq_false (by omega : ¬ t ≤ 1099511627776)]; simp
            have HN := hid hn; clear hn
            go_wp2_with fail
            go_ret
            have hn := HN.out
            exact ⟨by subst ht hm; simp [tgts, hn], HG.out.g⟩
          · have hn : tgt m 0 t = true := by unfold tgt cwithin; rw [if_pos h, decide_eq_true (by omega : 1 ≤ t), decide_eq_true (by omega : t ≤ 1099511627776)]; rfl
            have HN := hid hn; clear hn
            go_wp2_with fail
            go_roundw
            case rel => exact ⟨1, by omega, rfl, by have h1 := HN.out; have h2 := HD.out; subst ht hm; simp_all [tgtsTo], HG.out⟩
            case measure => simp [intOf]
      · have h' : m ≤ (0 : Int) := by omega
        by_cases hz : t = 0
        · have hn : tgt m 0 t = true := by unfold tgt; rw [if_neg h, hz]; rfl
          have hzb : (t != 0) = false := by simp [hz]
          have HN := hid hn; clear hn hz
          go_wp2_with fail
          go_roundw
          case rel => exact ⟨1, by omega, rfl, by have h1 := HN.out; have h2 := HD.out; subst ht hm; simp_all [tgtsTo], HG.out⟩
          case measure => simp [intOf]
        · have hn : tgt m 0 t = false := by unfold tgt; rw [if_neg h]; simp [hz]
          have hzb : (t != 0) = true := by simp [hz]
          have HN := hid hn; clear hn hz
          go_wp2_with fail
          go_ret
          have hn := HN.out
          exact ⟨by subst ht hm; simp [tgts, hn], HG.out.g⟩
    · clear hk
      obtain ⟨t, ht⟩ : ∃ t, t = c.t1 := ⟨_, rfl⟩
      rw [← ht] at c1
      obtain ⟨m, hm⟩ : ∃ m, m = c.m := ⟨_, rfl⟩
      rw [← hm] at cm
      by_cases h : (1 : Int) < m
      · have h' : ¬ m ≤ (1 : Int) := by omega
        by_cases h1 : t < 1
        · have hn : tgt m 1 t = false := by unfold tgt cwithin; rw [if_pos h, decide_eq_false (by omega : ¬ 1 ≤ t)]; rfl
          have HN := hid hn; clear hn
          go_wp2_with fail
          go_ret
          have hn := HN.out
          exact ⟨by subst ht hm; simp [tgts, hn], HG.out.g⟩
        · by_cases h2 : 1099511627776 < t
          · have hn : tgt m 1 t = false := by unfold tgt cwithin; rw [if_pos h, decide_eq_false (by omega : ¬ t ≤ 1099511627776)]; simp
            have HN := hid hn; clear hn
            go_wp2_with fail
            go_ret
            have hn := HN.out
            exact ⟨by subst ht hm; simp [tgts, hn], HG.out.g⟩
          · have hn : tgt m 1 t = true := by unfold tgt cwithin; rw [if_pos h, decide_eq_true (by omega : 1 ≤ t), decide_eq_true (by omega : t ≤ 1099511627776)]; rfl
            have HN := hid hn; clear hn
            go_wp2_with fail
            go_roundw
            case rel => exact ⟨2, by omega, rfl, by have h1 := HN.out; have h2 := HD.out; subst ht hm; simp_all [tgtsTo], HG.out⟩
            case measure => simp [intOf]
      · have h' : m ≤ (1 : Int) := by omega
        by_cases hz : t = 0
        · have hn : tgt m 1 t = true := by unfold tgt; rw [if_neg h, hz]; rfl
          have hzb : (t != 0) = false := by simp [hz]
          have HN := hid hn; clear hn hz
          go_wp2_with fail
          go_roundw
          case rel => exact ⟨2, by omega, rfl, by have h1 := HN.out; have h2 := HD.out; subst ht hm; simp_all [tgtsTo], HG.out⟩
          case measure => simp [intOf]
        · have hn : tgt m 1 t = false := by unfold tgt; rw [if_neg h]; simp [hz]
          have hzb : (t != 0) = true := by simp [hz]
          have HN := hid hn; clear hn hz
          go_wp2_with fail
          go_ret
          have hn := HN.out
          exact ⟨by subst ht hm; simp [tgts, hn], HG.out.g⟩
    · clear hk
      obtain ⟨t, ht⟩ : ∃ t, t = c.t2 := ⟨_, rfl⟩
      rw [← ht] at c2
      obtain ⟨m, hm⟩ : ∃ m, m = c.m := ⟨_, rfl⟩
      rw [← hm] at cm
      by_cases h : (2 : Int) < m
      · have h' : ¬ m ≤ (2 : Int) := by omega
        by_cases h1 : t < 1
        · have hn : tgt m 2 t = false := by unfold tgt cwithin; rw [if_pos h, decide_eq_false (by omega : ¬ 1 ≤ t)]; rfl
          have HN := hid hn; clear hn
          go_wp2_with fail
          go_ret
          have hn := HN.out
          exact ⟨by subst ht hm; simp [tgts, hn], HG.out.g⟩
        · by_cases h2 : 1099511627776 < t
          · have hn : tgt m 2 t = false := by unfold tgt cwithin; rw [if_pos h, decide_eq_false (by omega : ¬ t ≤ 1099511627776)]; simp
            have HN := hid hn; clear hn
            go_wp2_with fail
            go_ret
            have hn := HN.out
            exact ⟨by subst ht hm; simp [tgts, hn], HG.out.g⟩
          · have hn : tgt m 2 t = true := by unfold tgt cwithin; rw [if_pos h, decide_eq_true (by omega : 1 ≤ t), decide_eq_true (by omega : t ≤ 1099511627776)]; rfl
            have HN := hid hn; clear hn
            go_wp2_with fail
            go_roundw
            case rel => exact ⟨3, by omega, rfl, by have h1 := HN.out; have h2 := HD.out; subst ht hm; simp_all [tgtsTo], HG.out⟩
            case measure => simp [intOf]
      · have h' : m ≤ (2 : Int) := by omega
        by_cases hz : t = 0
        · have hn : tgt m 2 t = true := by unfold tgt; rw [if_neg h, hz]; rfl
          have hzb : (t != 0) = false := by simp [hz]
          have HN := hid hn; clear hn hz
          go_wp2_with fail
          go_roundw
          case rel => exact ⟨3, by omega, rfl, by have h1 := HN.out; have h2 := HD.out; subst ht hm; simp_all [tgtsTo], HG.out⟩
          case measure => simp [intOf]
        · have hn : tgt m 2 t = false := by unfold tgt; rw [if_neg h]; simp [hz]
          have hzb : (t != 0) = true := by simp [hz]
          have HN := hid hn; clear hn hz
          go_wp2_with fail
          go_ret
          have hn := HN.out
          exact ⟨by subst ht hm; simp [tgts, hn], HG.out.g⟩
    · clear hk
      obtain ⟨t, ht⟩ : ∃ t, t = c.t3 := ⟨_, rfl⟩
      rw [← ht] at c3
      obtain ⟨m, hm⟩ : ∃ m, m = c.m := ⟨_, rfl⟩
      rw [← hm] at cm
      by_cases h : (3 : Int) < m
      · have h' : ¬ m ≤ (3 : Int) := by omega
        by_cases h1 : t < 1
        · have hn : tgt m 3 t = false := by unfold tgt cwithin; rw [if_pos h, decide_eq_false (by omega : ¬ 1 ≤ t)]; rfl
          have HN := hid hn; clear hn
          go_wp2_with fail
          go_ret
          have hn := HN.out
          exact ⟨by subst ht hm; simp [tgts, hn], HG.out.g⟩
        · by_cases h2 : 1099511627776 < t
          · have hn : tgt m 3 t = false := by unfold tgt cwithin; rw [if_pos h, decide_eq_false (by omega : ¬ t ≤ 1099511627776)]; simp
            have HN := hid hn; clear hn
            go_wp2_with fail
            go_ret
            have hn := HN.out
            exact ⟨by subst ht hm; simp [tgts, hn], HG.out.g⟩
          · have hn : tgt m 3 t = true := by unfold tgt cwithin; rw [if_pos h, decide_eq_true (by omega : 1 ≤ t), decide_eq_true (by omega : t ≤ 1099511627776)]; rfl
            have HN := hid hn; clear hn
            go_wp2_with fail
            go_roundw
            case rel => exact ⟨4, by omega, rfl, by have h1 := HN.out; have h2 := HD.out; subst ht hm; simp_all [tgtsTo], HG.out⟩
            case measure => simp [intOf]
      · have h' : m ≤ (3 : Int) := by omega
        by_cases hz : t = 0
        · have hn : tgt m 3 t = true := by unfold tgt; rw [if_neg h, hz]; rfl
          have hzb : (t != 0) = false := by simp [hz]
          have HN := hid hn; clear hn hz
          go_wp2_with fail
          go_roundw
          case rel => exact ⟨4, by omega, rfl, by have h1 := HN.out; have h2 := HD.out; subst ht hm; simp_all [tgtsTo], HG.out⟩
          case measure => simp [intOf]
        · have hn : tgt m 3 t = false := by unfold tgt; rw [if_neg h]; simp [hz]
          have hzb : (t != 0) = true := by simp [hz]
          have HN := hid hn; clear hn hz
          go_wp2_with fail
          go_ret
          have hn := HN.out
          exact ⟨by subst ht hm; simp [tgts, hn], HG.out.g⟩
    · go_wp2_with fail
      go_ret
      exact ⟨by rw [tgts_all HD.out]; rfl, HG.out.g⟩
end Go.Proofs.YtfhifnhnkgdnlaaGreat
end
section
set_option linter.unusedSimpArgs false
namespace Go.Proofs.YtfhifnhnkgdnlaaGreat
set_option maxRecDepth 100000
open Go.RowKit

theorem told1_eq (st : Option ByteArray) : told1 st = ansObj (if st.isSome then 1 else 0) (st.getD ⟨#[]⟩) := by cases st <;> rfl

/-- the names, and whether each part may be, as the program reckons it -/
def st1 (c : Conf) : Option ByteArray := ask1 none ⟨#[110]⟩ (cwithin c.n 1 16)
def st2 (c : Conf) : Option ByteArray := ask1 (st1 c) ⟨#[102]⟩ (cwithin c.f 0 (wrap64 ((wrap64 (c.n - 1)).tdiv 3)))
def st3 (c : Conf) : Option ByteArray := ask1 (st2 c) ⟨#[109]⟩ (cwithin c.m 1 4)
def st4 (c : Conf) : Option ByteArray := ask1 (st3 c) ⟨#[113, 117, 111, 114, 117, 109]⟩ (cwithin c.quorum (wrap64 (wrap64 (2 * c.f) + 1)) c.n)
def st5 (c : Conf) : Option ByteArray := ask1 (st4 c) ⟨#[102, 114, 101, 115, 104]⟩ (cwithin c.fresh 1 8)
def st6 (c : Conf) : Option ByteArray := ask1 (st5 c) ⟨#[103, 114, 97, 99, 101]⟩ (cwithin c.grace 1 100)
def st7 (c : Conf) : Option ByteArray := ask1 (st6 c) ⟨#[119, 105, 110, 100, 111, 119]⟩ (cwithin c.window 1 64)
def st8 (c : Conf) : Option ByteArray := ask1 (st7 c) ⟨#[116, 97, 114, 103, 101, 116]⟩ (tgts c.m c.t0 c.t1 c.t2 c.t3)
def st9 (c : Conf) : Option ByteArray := ask1 (st8 c) ⟨#[116, 111, 108]⟩ (cwithin c.tol 0 1000)
def st10 (c : Conf) : Option ByteArray := ask1 (st9 c) ⟨#[109, 105, 110]⟩ (cwithin c.min 1 10000)
def st11 (c : Conf) : Option ByteArray := ask1 (st10 c) ⟨#[109, 97, 120]⟩ (cwithin c.max c.min 10000)
def st12 (c : Conf) : Option ByteArray := ask1 (st11 c) ⟨#[99, 97, 108, 109, 117, 112]⟩ (cwithin c.calmup 0 60)
def st13 (c : Conf) : Option ByteArray := ask1 (st12 c) ⟨#[99, 97, 108, 109, 100, 111, 119, 110]⟩ (cwithin c.calmdown 0 60)
def st14 (c : Conf) : Option ByteArray := ask1 (st13 c) ⟨#[112, 111, 100, 115, 117, 112]⟩ (cwithin c.podsup 1 1000)
def st15 (c : Conf) : Option ByteArray := ask1 (st14 c) ⟨#[112, 99, 116, 117, 112]⟩ (cwithin c.pctup 1 1000)
def st16 (c : Conf) : Option ByteArray := ask1 (st15 c) ⟨#[112, 111, 100, 115, 100, 111, 119, 110]⟩ (cwithin c.podsdown 1 1000)
def st17 (c : Conf) : Option ByteArray := ask1 (st16 c) ⟨#[112, 99, 116, 100, 111, 119, 110]⟩ (cwithin c.pctdown 1 100)
def st18 (c : Conf) : Option ByteArray := ask1 (st17 c) ⟨#[112, 101, 114, 105, 111, 100]⟩ (cwithin c.period 1 60)
def st19 (c : Conf) : Option ByteArray := ask1 (st18 c) ⟨#[102, 97, 114]⟩ (cwithin c.far 0 1099511627776)
def st20 (c : Conf) : Option ByteArray := ask1 (st19 c) ⟨#[115, 116, 114, 105, 107, 101, 115]⟩ (cwithin c.strikes 1 100)
def st21 (c : Conf) : Option ByteArray := ask1 (st20 c) ⟨#[112, 114, 111, 98, 101]⟩ (cwithin c.probe 1 100)
def st22 (c : Conf) : Option ByteArray := ask1 (st21 c) ⟨#[115, 101, 99, 116, 111, 114, 115]⟩ (cwithin c.sectors 64 4096)

/-- the function's own blocks: the configuration that came in, and the answer -/
structure WK (w : World) (c : Conf) (st : Option ByteArray) (w' : World) : Prop where
  box : BoxC w c w'
  ans : w'.heap[w.heap.size + 1]? = some (told1 st)
theorem WK.grown {w : World} {c : Conf} {st : Option ByteArray} {w1 w2 : World} (h : WK w c st w1) (hg : w1.grownBy w2 none) : WK w c st w2 := ⟨h.box.grown hg, at_grown h.ans hg (by simp)⟩
theorem WK.step {w : World} {c : Conf} {st st' : Option ByteArray} {w1 w2 : World} (h : WK w c st w1) (hb : w2.heap[w.heap.size + 1]? = some (told1 st')) (hg : w1.grownBy w2 (some (w.heap.size + 1))) : WK w c st' w2 :=
  ⟨⟨at_grown h.box.box hg (by simp), gb_trans h.box.g hg (.inr (.inr ⟨_, rfl, by omega⟩))⟩, hb⟩

theorem size_new (w : World) (o : Obj) : (w.alloc o).heap.size = w.heap.size + 1 := by
  show (w.heap.push o).size = _
  simp
set_option maxHeartbeats 6400000 in
theorem wrong_any (c : Conf) (w : World) :
    Calls Tryz.prog 87 #[cf c] w fun e w' => e = .returned (.string ((st22 c).getD ⟨#[]⟩)) ∧ w.grownBy w' none := by
  have hs0 : (w.alloc (.cells c.cells 27)).heap.size = w.heap.size + 1 := size_new _ _
  have h0 : WK w c none ((w.alloc (.cells c.cells 27)).alloc (ansObj 0 ⟨#[]⟩)) := ⟨(boxc_new w c).grown (World.grownBy_alloc _ _ _), by rw [← hs0]; exact at_new _ _⟩
  have H0 := hid h0; clear h0
  go_enter Tryz.func87, Tryz.ntmps87
  have z0 : ((w.alloc (.cells c.cells 27)).alloc (ansObj 0 ⟨#[]⟩)).cell? ⟨w.heap.size, 0, none⟩ = some (.int .i64 c.n) := at_cell H0.out.box.box 0
  go_wp2_with fail
  refine (cwithin_any _ _ _ _).mono ?_
  rintro e v1 ⟨rfl, rfl⟩
  clear z0
  go_wp2_with fail
  refine (ask_any (w.heap.size + 1) ⟨#[110]⟩ (cwithin c.n 1 16) none _ H0.out.ans).mono ?_
  rintro e w1 ⟨rfl, ha, hg⟩
  have H1 : Hid (WK w c (st1 c) w1) := hid (H0.out.step ha hg); clear ha hg H0
  have z1 : w1.cell? ⟨w.heap.size, 1, none⟩ = some (.int .i64 c.f) := at_cell H1.out.box.box 1
  have z0 : w1.cell? ⟨w.heap.size, 0, none⟩ = some (.int .i64 c.n) := at_cell H1.out.box.box 0
  go_wp2_with fail
  refine (cwithin_any _ _ _ _).mono ?_
  rintro e v2 ⟨rfl, rfl⟩
  clear z1 z0
  go_wp2_with fail
  refine (ask_any (w.heap.size + 1) ⟨#[102]⟩ (cwithin c.f 0 (wrap64 ((wrap64 (c.n - 1)).tdiv 3))) (st1 c) _ H1.out.ans).mono ?_
  rintro e w2 ⟨rfl, ha, hg⟩
  have H2 : Hid (WK w c (st2 c) w2) := hid (H1.out.step ha hg); clear ha hg H1
  have z2 : w2.cell? ⟨w.heap.size, 2, none⟩ = some (.int .i64 c.m) := at_cell H2.out.box.box 2
  go_wp2_with fail
  refine (cwithin_any _ _ _ _).mono ?_
  rintro e v3 ⟨rfl, rfl⟩
  clear z2
  go_wp2_with fail
  refine (ask_any (w.heap.size + 1) ⟨#[109]⟩ (cwithin c.m 1 4) (st2 c) _ H2.out.ans).mono ?_
  rintro e w3 ⟨rfl, ha, hg⟩
  have H3 : Hid (WK w c (st3 c) w3) := hid (H2.out.step ha hg); clear ha hg H2
  have z3 : w3.cell? ⟨w.heap.size, 3, none⟩ = some (.int .i64 c.quorum) := at_cell H3.out.box.box 3
  have z1 : w3.cell? ⟨w.heap.size, 1, none⟩ = some (.int .i64 c.f) := at_cell H3.out.box.box 1
  have z0 : w3.cell? ⟨w.heap.size, 0, none⟩ = some (.int .i64 c.n) := at_cell H3.out.box.box 0
  go_wp2_with fail
  refine (cwithin_any _ _ _ _).mono ?_
  rintro e v4 ⟨rfl, rfl⟩
  clear z3 z1 z0
  go_wp2_with fail
  refine (ask_any (w.heap.size + 1) ⟨#[113, 117, 111, 114, 117, 109]⟩ (cwithin c.quorum (wrap64 (wrap64 (2 * c.f) + 1)) c.n) (st3 c) _ H3.out.ans).mono ?_
  rintro e w4 ⟨rfl, ha, hg⟩
  have H4 : Hid (WK w c (st4 c) w4) := hid (H3.out.step ha hg); clear ha hg H3
  have z4 : w4.cell? ⟨w.heap.size, 4, none⟩ = some (.int .i64 c.fresh) := at_cell H4.out.box.box 4
  go_wp2_with fail
  refine (cwithin_any _ _ _ _).mono ?_
  rintro e v5 ⟨rfl, rfl⟩
  clear z4
  go_wp2_with fail
  refine (ask_any (w.heap.size + 1) ⟨#[102, 114, 101, 115, 104]⟩ (cwithin c.fresh 1 8) (st4 c) _ H4.out.ans).mono ?_
  rintro e w5 ⟨rfl, ha, hg⟩
  have H5 : Hid (WK w c (st5 c) w5) := hid (H4.out.step ha hg); clear ha hg H4
  have z5 : w5.cell? ⟨w.heap.size, 5, none⟩ = some (.int .i64 c.grace) := at_cell H5.out.box.box 5
  go_wp2_with fail
  refine (cwithin_any _ _ _ _).mono ?_
  rintro e v6 ⟨rfl, rfl⟩
  clear z5
  go_wp2_with fail
  refine (ask_any (w.heap.size + 1) ⟨#[103, 114, 97, 99, 101]⟩ (cwithin c.grace 1 100) (st5 c) _ H5.out.ans).mono ?_
  rintro e w6 ⟨rfl, ha, hg⟩
  have H6 : Hid (WK w c (st6 c) w6) := hid (H5.out.step ha hg); clear ha hg H5
  have z6 : w6.cell? ⟨w.heap.size, 6, none⟩ = some (.int .i64 c.window) := at_cell H6.out.box.box 6
  go_wp2_with fail
  refine (cwithin_any _ _ _ _).mono ?_
  rintro e v7 ⟨rfl, rfl⟩
  clear z6
  go_wp2_with fail
  refine (ask_any (w.heap.size + 1) ⟨#[119, 105, 110, 100, 111, 119]⟩ (cwithin c.window 1 64) (st6 c) _ H6.out.ans).mono ?_
  rintro e w7 ⟨rfl, ha, hg⟩
  have H7 : Hid (WK w c (st7 c) w7) := hid (H6.out.step ha hg); clear ha hg H6
  have z7 : w7.cell? ⟨w.heap.size, 7, none⟩ = some (.int .i64 c.t0) := at_cell H7.out.box.box 7
  have z8 : w7.cell? ⟨w.heap.size, 8, none⟩ = some (.int .i64 c.t1) := at_cell H7.out.box.box 8
  have z9 : w7.cell? ⟨w.heap.size, 9, none⟩ = some (.int .i64 c.t2) := at_cell H7.out.box.box 9
  have z10 : w7.cell? ⟨w.heap.size, 10, none⟩ = some (.int .i64 c.t3) := at_cell H7.out.box.box 10
  have z2 : w7.cell? ⟨w.heap.size, 2, none⟩ = some (.int .i64 c.m) := at_cell H7.out.box.box 2
  go_wp2_with fail
  refine (targets_any c.t0 c.t1 c.t2 c.t3 c.m _).mono ?_
  rintro e v8 ⟨rfl, hg⟩
  have K8 := hid (H7.out.grown hg); clear hg z7 z8 z9 z10 z2 H7
  go_wp2_with fail
  refine (ask_any (w.heap.size + 1) ⟨#[116, 97, 114, 103, 101, 116]⟩ (tgts c.m c.t0 c.t1 c.t2 c.t3) (st7 c) _ K8.out.ans).mono ?_
  rintro e w8 ⟨rfl, ha, hg⟩
  have H8 : Hid (WK w c (st8 c) w8) := hid (K8.out.step ha hg); clear ha hg K8
  have z11 : w8.cell? ⟨w.heap.size, 11, none⟩ = some (.int .i64 c.tol) := at_cell H8.out.box.box 11
  go_wp2_with fail
  refine (cwithin_any _ _ _ _).mono ?_
  rintro e v9 ⟨rfl, rfl⟩
  clear z11
  go_wp2_with fail
  refine (ask_any (w.heap.size + 1) ⟨#[116, 111, 108]⟩ (cwithin c.tol 0 1000) (st8 c) _ H8.out.ans).mono ?_
  rintro e w9 ⟨rfl, ha, hg⟩
  have H9 : Hid (WK w c (st9 c) w9) := hid (H8.out.step ha hg); clear ha hg H8
  have z12 : w9.cell? ⟨w.heap.size, 12, none⟩ = some (.int .i64 c.min) := at_cell H9.out.box.box 12
  go_wp2_with fail
  refine (cwithin_any _ _ _ _).mono ?_
  rintro e v10 ⟨rfl, rfl⟩
  clear z12
  go_wp2_with fail
  refine (ask_any (w.heap.size + 1) ⟨#[109, 105, 110]⟩ (cwithin c.min 1 10000) (st9 c) _ H9.out.ans).mono ?_
  rintro e w10 ⟨rfl, ha, hg⟩
  have H10 : Hid (WK w c (st10 c) w10) := hid (H9.out.step ha hg); clear ha hg H9
  have z13 : w10.cell? ⟨w.heap.size, 13, none⟩ = some (.int .i64 c.max) := at_cell H10.out.box.box 13
  have z12 : w10.cell? ⟨w.heap.size, 12, none⟩ = some (.int .i64 c.min) := at_cell H10.out.box.box 12
  go_wp2_with fail
  refine (cwithin_any _ _ _ _).mono ?_
  rintro e v11 ⟨rfl, rfl⟩
  clear z13 z12
  go_wp2_with fail
  refine (ask_any (w.heap.size + 1) ⟨#[109, 97, 120]⟩ (cwithin c.max c.min 10000) (st10 c) _ H10.out.ans).mono ?_
  rintro e w11 ⟨rfl, ha, hg⟩
  have H11 : Hid (WK w c (st11 c) w11) := hid (H10.out.step ha hg); clear ha hg H10
  have z14 : w11.cell? ⟨w.heap.size, 14, none⟩ = some (.int .i64 c.calmup) := at_cell H11.out.box.box 14
  go_wp2_with fail
  refine (cwithin_any _ _ _ _).mono ?_
  rintro e v12 ⟨rfl, rfl⟩
  clear z14
  go_wp2_with fail
  refine (ask_any (w.heap.size + 1) ⟨#[99, 97, 108, 109, 117, 112]⟩ (cwithin c.calmup 0 60) (st11 c) _ H11.out.ans).mono ?_
  rintro e w12 ⟨rfl, ha, hg⟩
  have H12 : Hid (WK w c (st12 c) w12) := hid (H11.out.step ha hg); clear ha hg H11
  have z15 : w12.cell? ⟨w.heap.size, 15, none⟩ = some (.int .i64 c.calmdown) := at_cell H12.out.box.box 15
  go_wp2_with fail
  refine (cwithin_any _ _ _ _).mono ?_
  rintro e v13 ⟨rfl, rfl⟩
  clear z15
  go_wp2_with fail
  refine (ask_any (w.heap.size + 1) ⟨#[99, 97, 108, 109, 100, 111, 119, 110]⟩ (cwithin c.calmdown 0 60) (st12 c) _ H12.out.ans).mono ?_
  rintro e w13 ⟨rfl, ha, hg⟩
  have H13 : Hid (WK w c (st13 c) w13) := hid (H12.out.step ha hg); clear ha hg H12
  have z16 : w13.cell? ⟨w.heap.size, 16, none⟩ = some (.int .i64 c.podsup) := at_cell H13.out.box.box 16
  go_wp2_with fail
  refine (cwithin_any _ _ _ _).mono ?_
  rintro e v14 ⟨rfl, rfl⟩
  clear z16
  go_wp2_with fail
  refine (ask_any (w.heap.size + 1) ⟨#[112, 111, 100, 115, 117, 112]⟩ (cwithin c.podsup 1 1000) (st13 c) _ H13.out.ans).mono ?_
  rintro e w14 ⟨rfl, ha, hg⟩
  have H14 : Hid (WK w c (st14 c) w14) := hid (H13.out.step ha hg); clear ha hg H13
  have z17 : w14.cell? ⟨w.heap.size, 17, none⟩ = some (.int .i64 c.pctup) := at_cell H14.out.box.box 17
  go_wp2_with fail
  refine (cwithin_any _ _ _ _).mono ?_
  rintro e v15 ⟨rfl, rfl⟩
  clear z17
  go_wp2_with fail
  refine (ask_any (w.heap.size + 1) ⟨#[112, 99, 116, 117, 112]⟩ (cwithin c.pctup 1 1000) (st14 c) _ H14.out.ans).mono ?_
  rintro e w15 ⟨rfl, ha, hg⟩
  have H15 : Hid (WK w c (st15 c) w15) := hid (H14.out.step ha hg); clear ha hg H14
  have z18 : w15.cell? ⟨w.heap.size, 18, none⟩ = some (.int .i64 c.podsdown) := at_cell H15.out.box.box 18
  go_wp2_with fail
  refine (cwithin_any _ _ _ _).mono ?_
  rintro e v16 ⟨rfl, rfl⟩
  clear z18
  go_wp2_with fail
  refine (ask_any (w.heap.size + 1) ⟨#[112, 111, 100, 115, 100, 111, 119, 110]⟩ (cwithin c.podsdown 1 1000) (st15 c) _ H15.out.ans).mono ?_
  rintro e w16 ⟨rfl, ha, hg⟩
  have H16 : Hid (WK w c (st16 c) w16) := hid (H15.out.step ha hg); clear ha hg H15
  have z19 : w16.cell? ⟨w.heap.size, 19, none⟩ = some (.int .i64 c.pctdown) := at_cell H16.out.box.box 19
  go_wp2_with fail
  refine (cwithin_any _ _ _ _).mono ?_
  rintro e v17 ⟨rfl, rfl⟩
  clear z19
  go_wp2_with fail
  refine (ask_any (w.heap.size + 1) ⟨#[112, 99, 116, 100, 111, 119, 110]⟩ (cwithin c.pctdown 1 100) (st16 c) _ H16.out.ans).mono ?_
  rintro e w17 ⟨rfl, ha, hg⟩
  have H17 : Hid (WK w c (st17 c) w17) := hid (H16.out.step ha hg); clear ha hg H16
  have z20 : w17.cell? ⟨w.heap.size, 20, none⟩ = some (.int .i64 c.period) := at_cell H17.out.box.box 20
  go_wp2_with fail
  refine (cwithin_any _ _ _ _).mono ?_
  rintro e v18 ⟨rfl, rfl⟩
  clear z20
  go_wp2_with fail
  refine (ask_any (w.heap.size + 1) ⟨#[112, 101, 114, 105, 111, 100]⟩ (cwithin c.period 1 60) (st17 c) _ H17.out.ans).mono ?_
  rintro e w18 ⟨rfl, ha, hg⟩
  have H18 : Hid (WK w c (st18 c) w18) := hid (H17.out.step ha hg); clear ha hg H17
  have z21 : w18.cell? ⟨w.heap.size, 21, none⟩ = some (.int .i64 c.far) := at_cell H18.out.box.box 21
  go_wp2_with fail
  refine (cwithin64_any _ _ _ _).mono ?_
  rintro e v19 ⟨rfl, rfl⟩
  clear z21
  go_wp2_with fail
  refine (ask_any (w.heap.size + 1) ⟨#[102, 97, 114]⟩ (cwithin c.far 0 1099511627776) (st18 c) _ H18.out.ans).mono ?_
  rintro e w19 ⟨rfl, ha, hg⟩
  have H19 : Hid (WK w c (st19 c) w19) := hid (H18.out.step ha hg); clear ha hg H18
  have z22 : w19.cell? ⟨w.heap.size, 22, none⟩ = some (.int .i64 c.strikes) := at_cell H19.out.box.box 22
  go_wp2_with fail
  refine (cwithin_any _ _ _ _).mono ?_
  rintro e v20 ⟨rfl, rfl⟩
  clear z22
  go_wp2_with fail
  refine (ask_any (w.heap.size + 1) ⟨#[115, 116, 114, 105, 107, 101, 115]⟩ (cwithin c.strikes 1 100) (st19 c) _ H19.out.ans).mono ?_
  rintro e w20 ⟨rfl, ha, hg⟩
  have H20 : Hid (WK w c (st20 c) w20) := hid (H19.out.step ha hg); clear ha hg H19
  have z23 : w20.cell? ⟨w.heap.size, 23, none⟩ = some (.int .i64 c.probe) := at_cell H20.out.box.box 23
  go_wp2_with fail
  refine (cwithin_any _ _ _ _).mono ?_
  rintro e v21 ⟨rfl, rfl⟩
  clear z23
  go_wp2_with fail
  refine (ask_any (w.heap.size + 1) ⟨#[112, 114, 111, 98, 101]⟩ (cwithin c.probe 1 100) (st20 c) _ H20.out.ans).mono ?_
  rintro e w21 ⟨rfl, ha, hg⟩
  have H21 : Hid (WK w c (st21 c) w21) := hid (H20.out.step ha hg); clear ha hg H20
  have z24 : w21.cell? ⟨w.heap.size, 24, none⟩ = some (.int .i64 c.sectors) := at_cell H21.out.box.box 24
  go_wp2_with fail
  refine (cwithin_any _ _ _ _).mono ?_
  rintro e v22 ⟨rfl, rfl⟩
  clear z24
  go_wp2_with fail
  refine (ask_any (w.heap.size + 1) ⟨#[115, 101, 99, 116, 111, 114, 115]⟩ (cwithin c.sectors 64 4096) (st21 c) _ H21.out.ans).mono ?_
  rintro e w22 ⟨rfl, ha, hg⟩
  have H22 : Hid (WK w c (st22 c) w22) := hid (H21.out.step ha hg); clear ha hg H21
  have z : w22.cell? ⟨w.heap.size + 1, 3, none⟩ = some (.string ((st22 c).getD ⟨#[]⟩)) := at_cell (H22.out.ans.trans (congrArg some (told1_eq _))) 3
  go_wp2_with fail
  go_ret
  exact ⟨rfl, H22.out.box.g⟩
end Go.Proofs.YtfhifnhnkgdnlaaGreat
end
section
set_option linter.unusedSimpArgs false
namespace Go.Proofs.YtfhifnhnkgdnlaaGreat
set_option maxRecDepth 100000
open Go.RowKit

theorem cmay_any (c : Conf) (w : World) :
    Calls Tryz.prog 40 #[cf c] w fun e w' => e = .returned (.bool ((st22 c).getD ⟨#[]⟩).toList.isEmpty) ∧ w.grownBy w' none := by
  have h0 := boxc_new w c
  have H0 := hid h0; clear h0
  have hw := wrong_any c
  obtain ⟨s, hs⟩ : ∃ s, s = (st22 c).getD ⟨#[]⟩ := ⟨_, rfl⟩
  rw [← hs] at hw ⊢
  clear hs
  go_enter Tryz.func40, Tryz.ntmps40
  go_wp2_with (refine wpList_conf H0.out.box rfl rfl rfl rfl ?_)
  refine (hw _).mono ?_
  rintro e w1 ⟨rfl, hg⟩
  have G1 := hid hg; clear hg
  go_wp2_with fail
  go_ret
  exact ⟨rfl, gb_trans (gb_alloc (.refl w none) _) G1.out (.inl rfl)⟩
end Go.Proofs.YtfhifnhnkgdnlaaGreat
end
section
set_option linter.unusedSimpArgs false
set_option linter.unusedVariables false
namespace Go.Proofs.YtfhifnhnkgdnlaaGreat
set_option maxRecDepth 100000
open Go.RowKit

theorem made_all (a : Value) (m j : Nat) (h : j < m) : (madeCells #[a, a] m)[j]? = some a := by
  have : j % 2 = 0 ∨ j % 2 = 1 := by omega
  rcases this with e | e <;> simp [madeCells, h, e]
theorem made_one (a : Value) (m j : Nat) (h : j < m) : (madeCells #[a] m)[j]? = some a := by
  rw [← Array.getElem?_toList, toList_madeCells_one, List.getElem?_replicate, if_pos h]
theorem info_holder : (Tryz.prog.info? 141).map (fun i => (i.zero, i.size, i.bytes)) = some (some (.agg #[.int .i64 0, .int .i64 0]), 2, 16) := by kernel_rfl
theorem info_int : (Tryz.prog.info? 3).map (fun i => (i.zero, i.size, i.bytes)) = some (some (.int .i64 0), 1, 8) := by kernel_rfl
theorem info_int64 : (Tryz.prog.info? 2).map (fun i => (i.zero, i.size, i.bytes)) = some (some (.int .i64 0), 1, 8) := by kernel_rfl
def hCells (n : Nat) : Array Value := madeCells #[.int .i64 0, .int .i64 0] (n * 2)
def iCells (n : Nat) : Array Value := madeCells #[.int .i64 0] n
theorem mk_holders (n : Nat) (hn : n ≤ 16) (u : World) : (Instr.makeSlice 156 (.int .i64 (n : Int)) (.int .i64 (n : Int))).run Tryz.prog u = .ok (.slice (some ⟨u.heap.size, 0, none⟩) n n) (u.alloc (.cells (hCells n) 141)) := by
  obtain ⟨i, hi, hz0, hz1, hz2⟩ := info_parts info_holder
  have := run_makeSlice (P := Tryz.prog) u 156 141 i _ Tryz.underlying156 hi hz0 .i64 .i64 (n : Int) (n : Int) (by omega) (Int.le_refl _) (by rw [hz1]; omega) (by rw [hz2]; omega) (by omega)
  rw [this, hz1]
  simp [hCells, Value.cells]
theorem mk_ints (n : Nat) (hn : n ≤ 16) (u : World) : (Instr.makeSlice 22 (.int .i64 (n : Int)) (.int .i64 (n : Int))).run Tryz.prog u = .ok (.slice (some ⟨u.heap.size, 0, none⟩) n n) (u.alloc (.cells (iCells n) 3)) := by
  obtain ⟨i, hi, hz0, hz1, hz2⟩ := info_parts info_int
  have := run_makeSlice (P := Tryz.prog) u 22 3 i _ Tryz.underlying22 hi hz0 .i64 .i64 (n : Int) (n : Int) (by omega) (Int.le_refl _) (by rw [hz1]; omega) (by rw [hz2]; omega) (by omega)
  rw [this, hz1]
  simp [iCells, Value.cells]
theorem mk_int64s (n : Nat) (hn : n ≤ 16) (u : World) : (Instr.makeSlice 60 (.int .i64 (n : Int)) (.int .i64 (n : Int))).run Tryz.prog u = .ok (.slice (some ⟨u.heap.size, 0, none⟩) n n) (u.alloc (.cells (iCells n) 2)) := by
  obtain ⟨i, hi, hz0, hz1, hz2⟩ := info_parts info_int64
  have := run_makeSlice (P := Tryz.prog) u 60 2 i _ Tryz.underlying60 hi hz0 .i64 .i64 (n : Int) (n : Int) (by omega) (Int.le_refl _) (by rw [hz1]; omega) (by rw [hz2]; omega) (by omega)
  rw [this, hz1]
  simp [iCells, Value.cells]

/-- what New makes -/
def MadeR (w : World) (r : Rg) (e : Ending) (w' : World) : Prop := ∃ b h, e = .returned (.pointer (some ⟨b, 0, none⟩)) ∧ RgAt w' b h r ∧ w.grownBy w' none ∧ w.heap.size ≤ b ∧ w.heap.size ≤ h
def MadeF (w : World) (r : Rg) (e : Ending) (w' : World) : Prop := ∃ b g s, e = .returned (.pointer (some ⟨b, 0, none⟩)) ∧ RfAt w' b g s r ∧ w.grownBy w' none ∧ w.heap.size ≤ b ∧ w.heap.size ≤ g ∧ w.heap.size ≤ s

theorem made_rg (seed : BitVec 64) (n grace : Nat) (h1 : 1 ≤ n) (h2 : n ≤ 16) (h3 : 1 ≤ grace) (h4 : grace ≤ 100) (w : World) :
    RgAt ((w.alloc (.cells (hCells n) 141)).alloc (.cells #[.int .u64 (q seed), .int .i64 (grace : Int), .slice (some ⟨w.heap.size, 0, none⟩) n n] 158)) (w.heap.size + 1) w.heap.size (.new seed n grace) :=
  ⟨at_new2 w _ _, ⟨_, at_alloc (at_new w _) _, fun i hi => ⟨made_all _ _ _ (by have : i < n := hi; omega), made_all _ _ _ (by have : i < n := hi; omega)⟩⟩, by omega, rg_new_ok seed h1 h2 h3 h4⟩

set_option maxHeartbeats 1600000 in
theorem rnew_ok (seed : BitVec 64) (n grace : Nat) (h1 : 1 ≤ n) (h2 : n ≤ 16) (h3 : 1 ≤ grace) (h4 : grace ≤ 100) (w : World) :
    Calls Tryz.prog 41 #[.int .u64 (q seed), .int .i64 (n : Int), .int .i64 (grace : Int)] w (MadeR w (.new seed n grace)) := by
  have L := hid (made_rg seed n grace h1 h2 h3 h4 w)
  have hm := mk_holders n h2 w
  go_enter Tryz.func41, Tryz.ntmps41
  go_wp2_with fail
  refine (within_in (n : Int) 1 16 (by omega) (by omega) _).mono ?_
  rintro e w1 ⟨rfl, rfl⟩
  go_wp2_with fail
  refine (within_in (grace : Int) 1 100 (by omega) (by omega) _).mono ?_
  rintro e w1 ⟨rfl, rfl⟩
  go_wp2_with fail
  go_ret
  exact ⟨_, _, rfl, L.out, gb_alloc (gb_alloc (.refl w none) _) _, by omega, Nat.le_refl _⟩

theorem made_rf1 (seed : BitVec 64) (n grace : Nat) (h1 : 1 ≤ n) (h2 : n ≤ 16) (h3 : 1 ≤ grace) (h4 : grace ≤ 100) (w : World) :
    RfAt (((w.alloc (.cells (iCells n) 3)).alloc (.cells (iCells n) 2)).alloc (.cells #[.int .u64 (q seed), .int .i64 (grace : Int), .slice (some ⟨w.heap.size, 0, none⟩) n n, .slice (some ⟨w.heap.size + 1, 0, none⟩) n n] 62)) (w.heap.size + 1 + 1) w.heap.size (w.heap.size + 1) (.new seed n grace) :=
  ⟨by have := at_new2 (w.alloc (.cells (iCells n) 3)) (.cells (iCells n) 2) (.cells #[.int .u64 (q seed), .int .i64 (grace : Int), .slice (some ⟨w.heap.size, 0, none⟩) n n, .slice (some ⟨w.heap.size + 1, 0, none⟩) n n] 62); rwa [size_alloc] at this,
    ⟨_, at_alloc (at_alloc (at_new w _) _) _, fun i hi => made_one _ _ _ hi⟩, ⟨_, at_alloc (at_new2 w _ _) _, fun i hi => made_one _ _ _ hi⟩, by omega, by omega, by omega, rg_new_ok seed h1 h2 h3 h4⟩
theorem made_rf2 (seed : BitVec 64) (n grace : Nat) (h1 : 1 ≤ n) (h2 : n ≤ 16) (h3 : 1 ≤ grace) (h4 : grace ≤ 100) (w : World) :
    RfAt (((w.alloc (.cells (iCells n) 2)).alloc (.cells (iCells n) 3)).alloc (.cells #[.int .u64 (q seed), .int .i64 (grace : Int), .slice (some ⟨w.heap.size + 1, 0, none⟩) n n, .slice (some ⟨w.heap.size, 0, none⟩) n n] 62)) (w.heap.size + 1 + 1) (w.heap.size + 1) w.heap.size (.new seed n grace) :=
  ⟨by have := at_new2 (w.alloc (.cells (iCells n) 2)) (.cells (iCells n) 3) (.cells #[.int .u64 (q seed), .int .i64 (grace : Int), .slice (some ⟨w.heap.size + 1, 0, none⟩) n n, .slice (some ⟨w.heap.size, 0, none⟩) n n] 62); rwa [size_alloc] at this,
    ⟨_, at_alloc (at_new2 w _ _) _, fun i hi => made_one _ _ _ hi⟩, ⟨_, at_alloc (at_alloc (at_new w _) _) _, fun i hi => made_one _ _ _ hi⟩, by omega, by omega, by omega, rg_new_ok seed h1 h2 h3 h4⟩

set_option maxHeartbeats 1600000 in
theorem fnew_ok (seed : BitVec 64) (n grace : Nat) (h1 : 1 ≤ n) (h2 : n ≤ 16) (h3 : 1 ≤ grace) (h4 : grace ≤ 100) (w : World) :
    Calls Tryz.prog 44 #[.int .u64 (q seed), .int .i64 (n : Int), .int .i64 (grace : Int)] w (MadeF w (.new seed n grace)) := by
  have L1 := hid (made_rf1 seed n grace h1 h2 h3 h4 w)
  have L2 := hid (made_rf2 seed n grace h1 h2 h3 h4 w)
  have d1 : decide ((n : Int) < 1) = false := by simp; omega
  have d2 : decide ((16 : Int) < (n : Int)) = false := by simp; omega
  have d3 : decide ((grace : Int) < 1) = false := by simp; omega
  have d4 : decide ((100 : Int) < (grace : Int)) = false := by simp; omega
  have hm1 := mk_ints n h2
  have hm2 := mk_int64s n h2
  go_enter Tryz.func44, Tryz.ntmps44
  go_wp2_with fail
  go_region
  all_goals
    go_wp2_with fail
    go_ret
    first
    | exact ⟨_, _, _, rfl, ⟨L1.out.top, L1.out.gens, L1.out.sinces, L1.out.bg, L1.out.bs, L1.out.gs, L1.out.ok⟩, gb_drew (gb_alloc (gb_alloc (gb_alloc (.refl w none) _) _) _), by omega, by omega, by omega⟩
    | exact ⟨_, _, _, rfl, ⟨L2.out.top, L2.out.gens, L2.out.sinces, L2.out.bg, L2.out.bs, L2.out.gs, L2.out.ok⟩, gb_drew (gb_alloc (gb_alloc (gb_alloc (.refl w none) _) _) _), by omega, by omega, by omega⟩
end Go.Proofs.YtfhifnhnkgdnlaaGreat
end
