/-
  What the laws of package log have in common: Put and Get of cells that may be; the law's own fit; a byte of a slice of the call's own is another one now. No condition.
-/
import Derived.Test.YtjebmlmjbnaghaaLgK
import Derived.Test.YtjebmlmjbnaghaaKeep
import Derived.Test.YtjebmlmjbnaghaaUmod
import Derived.Test.YtjebmlmjbnaghaaU8
set_option linter.unusedSimpArgs false
set_option linter.unusedVariables false
namespace Go.Proofs.Ytjebmlmjbnaghaa
set_option maxRecDepth 100000
open Go.RowKit

theorem OwnB.setb {base : Nat} {w : World} {g n c : Nat} {l : List UInt8} (h : OwnB base w (.slice (some ⟨g, 0, none⟩) n c) l) {i : Nat} (hi : i < l.length) (x : UInt8) :
    OwnB base (w.setCell ⟨g, i, none⟩ (bv x)) (.slice (some ⟨g, 0, none⟩) n c) (l.set i x) ∧ w.grownBy (w.setCell ⟨g, i, none⟩ (bv x)) (some g) := by
  obtain ⟨h0, h | ⟨g', cap, cur, e, hb, hh, h1, h2, h3, h4⟩⟩ := h
  · cases h.1
  · cases e
    refine ⟨⟨by simp, .inr ⟨g, c, cur.setIfInBounds i (bv x), ?_, hb, at_set hh i (bv x), ?_, h2, by simpa using h3, ?_⟩⟩, gb_row (.refl w (some g)) rfl _⟩
    · rw [List.length_set]
    · rw [List.length_set]; exact h1
    · rw [List.length_set, Array.toList_setIfInBounds, List.map_set, ← h4, List.take_set]
theorem OwnB.freeb {base : Nat} {w : World} {g n c : Nat} {l : List UInt8} (h : OwnB base w (.slice (some ⟨g, 0, none⟩) n c) l) (hl : 0 < l.length) (i : Nat) : w.frozen? ⟨g, i, none⟩ = false := by
  obtain ⟨_, h | ⟨g', cap, cur, e, hb, hh, h1, h2, _⟩⟩ := h
  · cases h.1
  · cases e; exact at_free hh i

theorem OwnB.fulln {base : Nat} {w : World} {v : Value} {l : List UInt8} (h : OwnB base w v l) {n : Nat} (hn : l.length = n) (hl : 0 < n) : ∃ g c, v = .slice (some ⟨g, 0, none⟩) n c ∧ n ≤ c ∧ c ≤ maxLen ∧ base ≤ g ∧ g < w.heap.size := by
  subst hn; exact h.full hl
theorem got_put {c : Cl} (h : c.May) : gotL (putL c) = c ∧ gotW (putL c) = true ∧ gotC (putL c) = 0 := by
  have hl := putL_len h.d
  have hw : gotW (putL c) = true := by unfold gotW; rw [whole_put h]; simp [hl]
  refine ⟨?_, hw, ?_⟩
  · unfold gotL; rw [hw, good_put h, read_put h]; rfl
  · unfold gotC; rw [if_pos hl, hw, good_put h]; rfl
theorem lput_as (c : Cl) (hm : c.May) {P Q K : Int} (hP : (c.pass : Int) = P) (hQ : (c.place : Int) = Q) (hK : (c.kind : Int) = K) {v : Value} {w : World} (hv : BytesAt w v c.data) {l : List UInt8} (hl : putL c = l) :
    Calls Try.prog 10 #[.agg #[.int .u32 P, .int .i64 Q, .int .i64 K, v]] w fun e w' => ∃ u, e = .returned (.tuple #[u, .int .i64 0]) ∧ OwnB w.heap.size w' u l ∧ w.grownBy w' none := by
  subst hP; subst hQ; subst hK; subst hl
  exact lput_good c hm v w hv
theorem lget_as (l : List UInt8) {c : Cl} {b : Bool} {z P Q K : Int} (hc : gotL l = c) (hb : gotW l = b) (hz : gotC l = z) (hP : (c.pass : Int) = P) (hQ : (c.place : Int) = Q) (hK : (c.kind : Int) = K) {d : List UInt8} (hd : c.data = d) {n : Nat} (hn : d.length = n) {v : Value} {w : World} (hv : BytesAt w v l) :
    Calls Try.prog 12 #[v] w fun e w' => ∃ p k, e = .returned (.tuple #[.agg #[.int .u32 P, .int .i64 Q, .int .i64 K, .slice p n k], .bool b, .int .i64 z]) ∧ OwnB w.heap.size w' (.slice p n k) d ∧ w.grownBy w' none := by
  subst hn; subst hP; subst hQ; subst hK; subst hb; subst hz; subst hd; subst hc
  refine (lget_any v l w hv).mono ?_
  rintro e w' ⟨u, rfl, ho, hg⟩
  obtain ⟨p, k, rfl⟩ := ho.form
  exact ⟨p, k, rfl, ho, hg⟩

theorem BytesAt.upto {w : World} {a : Addr} {n c : Nat} {l : List UInt8} (h : BytesAt w (.slice (some a) n c) l) {k : Nat} (hk : k ≤ l.length) : BytesAt w (.slice (some a) k c) (l.take k) := by
  rcases h with ⟨h, _⟩ | ⟨a, c, e, h1, h2, h3⟩
  · cases h
  · cases e
    refine .inr ⟨_, _, by rw [List.length_take, Nat.min_eq_left hk], by rw [List.length_take]; omega, h2, fun i hi => ?_⟩
    rw [List.length_take] at hi
    rw [h3 i (by omega), List.getElem_take]
/-- a cell of the law that came in -/
@[reducible] def lcV (p : Nat) (Q K : Int) (v : Value) : Value := .agg #[.int .u32 (p : Int), .int .i64 Q, .int .i64 K, v]
set_option maxHeartbeats 3200000 in
theorem fit_walk_some (p : Nat) (Q K : Int) (a : Addr) (n c E p1 q1 k1 : Nat) (hp : (p : Int) % 250 = (p1 : Int)) (hp1 : p1 < 250) (hQ : (IntKind.u64.wrap Q).tmod 4097 = (q1 : Int)) (hq1 : q1 < 4097) (hK : (IntKind.u64.wrap K).tmod 3 = (k1 : Int)) (hk1 : k1 < 3)
    (hE : min (n : Int) 48 = (E : Int)) (hEc : E ≤ c)  (w : World) :
    Calls Try.prog 21 #[.agg #[.int .u32 (p : Int), .int .i64 Q, .int .i64 K, .slice (some a) n c]] w fun e w' => e = .returned (.agg #[.int .u32 ((1 + p1 : Nat) : Int), .int .i64 (q1 : Int), .int .i64 ((1 + k1 : Nat) : Int), .slice (some a) E c]) ∧ w.grownBy w' none := by
  have B0 := hid (at_new w (.cells #[.int .u32 (p : Int), .int .i64 Q, .int .i64 K, .slice (some a) n c] 25))
  have e1 : ((1 + p1 : Nat) : Int) = 1 + (p1 : Int) := by omega
  have e2 : ((1 + k1 : Nat) : Int) = 1 + (k1 : Int) := by omega
  rw [e1, e2]
  have f1 : (p1 : Int) < 250 := by omega
  have f2 : (q1 : Int) < 4097 := by omega
  have f3 : (k1 : Int) < 3 := by omega
  have f4 : (E : Int) ≤ (c : Int) := by omega
  obtain ⟨OB, hOB⟩ : ∃ OB, OB = (.cells #[.int .u32 (p : Int), .int .i64 Q, .int .i64 K, .slice (some a) n c] 25 : Obj) := ⟨_, rfl⟩
  obtain ⟨OZ, hOZ⟩ : ∃ OZ, OZ = (.cells #[.int .u32 0, .int .i64 0, .int .i64 0, .slice none 0 0] 25 : Obj) := ⟨_, rfl⟩
  have hs : ((w.alloc OB).alloc OZ).heap[w.heap.size]? = some OB := at_alloc (at_new w OB) OZ
  have hs2 : ((w.alloc OB).alloc OZ).heap[w.heap.size + 1]? = some OZ := by
    have h := at_new (w.alloc OB) OZ
    rwa [alloc_size] at h
  have g0 : w.grownBy ((w.alloc OB).alloc OZ) none := gb_alloc (gb_alloc (.refl w none) OB) OZ
  subst hOB; subst hOZ
  have H1 := hid hs; have H2 := hid hs2; have G0 := hid g0
  clear e1 e2 hp1 hq1 hk1 hEc hs hs2 g0
  go_enter Try.func21, Try.ntmps21
  go_wp2_with fail
  generalize (w.alloc (.cells #[.int .u32 (p : Int), .int .i64 Q, .int .i64 K, .slice (some a) n c] 25)).alloc (.cells #[.int .u32 0, .int .i64 0, .int .i64 0, .slice none 0 0] 25) = w1 at *
  have d0 : w1.drew.cell? ⟨w.heap.size, 0, none⟩ = some (.int .u32 (p : Int)) := at_cell H1.out 0
  have d1 : w1.drew.cell? ⟨w.heap.size, 1, none⟩ = some (.int .i64 Q) := at_cell H1.out 1
  have d2 : w1.drew.cell? ⟨w.heap.size, 2, none⟩ = some (.int .i64 K) := at_cell H1.out 2
  have d3 : w1.drew.cell? ⟨w.heap.size, 3, none⟩ = some (.slice (some a) n c) := at_cell H1.out 3
  have z0 : w1.cell? ⟨w.heap.size + 1, 0, none⟩ = some (.int .u32 0) := at_cell H2.out 0
  have z1 : w1.cell? ⟨w.heap.size + 1, 1, none⟩ = some (.int .i64 0) := at_cell H2.out 1
  have z2 : w1.cell? ⟨w.heap.size + 1, 2, none⟩ = some (.int .i64 0) := at_cell H2.out 2
  have z3 : w1.cell? ⟨w.heap.size + 1, 3, none⟩ = some (.slice none 0 0) := at_cell H2.out 3
  have y := fun i => (show w1.frozen? ⟨w.heap.size + 1, i, none⟩ = false from at_free H2.out i)
  have y0 := y 0; have y1 := y 1; have y2 := y 2; have y3 := y 3
  skip
  go_region
  have hf := at_set (at_set (at_set (at_set H2.out 0 (.int .u32 (1 + (p1 : Int)))) 1 (.int .i64 (q1 : Int))) 2 (.int .i64 (1 + (k1 : Int)))) 3 (.slice (some a) E c)
  refine exit_gen (fun wx => w.grownBy wx none ∧ wx.heap[w.heap.size + 1]? = some (.cells #[.int .u32 (1 + (p1 : Int)), .int .i64 (q1 : Int), .int .i64 (1 + (k1 : Int)), .slice (some a) E c] 25)) ⟨gb_drew (gb_new (gb_new (gb_new (gb_new G0.out (Nat.le_succ _) _) (Nat.le_succ _) _) (Nat.le_succ _) _) (Nat.le_succ _) _), hf⟩ (fun wx hx => ?_)
  clear hf d0 d1 d2 d3 z0 z1 z2 z3 y y0 y1 y2 y3
  have G5 := hid hx.1
  have e0 := at_cell hx.2 0; have e1 := at_cell hx.2 1; have e2 := at_cell hx.2 2; have e3 := at_cell hx.2 3
  clear hx
  go_wp2_with fail
  exact bodyPost_ret (v := .agg #[.int .u32 (1 + (p1 : Int)), .int .i64 (q1 : Int), .int .i64 (1 + (k1 : Int)), .slice (some a) E c]) (by simp [results, Try.results21, go_sem, e0, e1, e2, e3]) rfl ⟨rfl, G5.out⟩
set_option maxHeartbeats 3200000 in
theorem fit_walk_nil (p : Nat) (Q K : Int)  (p1 q1 k1 : Nat) (hp : (p : Int) % 250 = (p1 : Int)) (hp1 : p1 < 250) (hQ : (IntKind.u64.wrap Q).tmod 4097 = (q1 : Int)) (hq1 : q1 < 4097) (hK : (IntKind.u64.wrap K).tmod 3 = (k1 : Int)) (hk1 : k1 < 3)
     (w : World) :
    Calls Try.prog 21 #[.agg #[.int .u32 (p : Int), .int .i64 Q, .int .i64 K, .slice none 0 0]] w fun e w' => e = .returned (.agg #[.int .u32 ((1 + p1 : Nat) : Int), .int .i64 (q1 : Int), .int .i64 ((1 + k1 : Nat) : Int), .slice none 0 0]) ∧ w.grownBy w' none := by
  have B0 := hid (at_new w (.cells #[.int .u32 (p : Int), .int .i64 Q, .int .i64 K, .slice none 0 0] 25))
  have e1 : ((1 + p1 : Nat) : Int) = 1 + (p1 : Int) := by omega
  have e2 : ((1 + k1 : Nat) : Int) = 1 + (k1 : Int) := by omega
  rw [e1, e2]
  have f1 : (p1 : Int) < 250 := by omega
  have f2 : (q1 : Int) < 4097 := by omega
  have f3 : (k1 : Int) < 3 := by omega
  obtain ⟨OB, hOB⟩ : ∃ OB, OB = (.cells #[.int .u32 (p : Int), .int .i64 Q, .int .i64 K, .slice none 0 0] 25 : Obj) := ⟨_, rfl⟩
  obtain ⟨OZ, hOZ⟩ : ∃ OZ, OZ = (.cells #[.int .u32 0, .int .i64 0, .int .i64 0, .slice none 0 0] 25 : Obj) := ⟨_, rfl⟩
  have hs : ((w.alloc OB).alloc OZ).heap[w.heap.size]? = some OB := at_alloc (at_new w OB) OZ
  have hs2 : ((w.alloc OB).alloc OZ).heap[w.heap.size + 1]? = some OZ := by
    have h := at_new (w.alloc OB) OZ
    rwa [alloc_size] at h
  have g0 : w.grownBy ((w.alloc OB).alloc OZ) none := gb_alloc (gb_alloc (.refl w none) OB) OZ
  subst hOB; subst hOZ
  have H1 := hid hs; have H2 := hid hs2; have G0 := hid g0
  clear e1 e2 hp1 hq1 hk1 hs hs2 g0
  go_enter Try.func21, Try.ntmps21
  go_wp2_with fail
  generalize (w.alloc (.cells #[.int .u32 (p : Int), .int .i64 Q, .int .i64 K, .slice none 0 0] 25)).alloc (.cells #[.int .u32 0, .int .i64 0, .int .i64 0, .slice none 0 0] 25) = w1 at *
  have d0 : w1.drew.cell? ⟨w.heap.size, 0, none⟩ = some (.int .u32 (p : Int)) := at_cell H1.out 0
  have d1 : w1.drew.cell? ⟨w.heap.size, 1, none⟩ = some (.int .i64 Q) := at_cell H1.out 1
  have d2 : w1.drew.cell? ⟨w.heap.size, 2, none⟩ = some (.int .i64 K) := at_cell H1.out 2
  have d3 : w1.drew.cell? ⟨w.heap.size, 3, none⟩ = some (.slice none 0 0) := at_cell H1.out 3
  have z0 : w1.cell? ⟨w.heap.size + 1, 0, none⟩ = some (.int .u32 0) := at_cell H2.out 0
  have z1 : w1.cell? ⟨w.heap.size + 1, 1, none⟩ = some (.int .i64 0) := at_cell H2.out 1
  have z2 : w1.cell? ⟨w.heap.size + 1, 2, none⟩ = some (.int .i64 0) := at_cell H2.out 2
  have z3 : w1.cell? ⟨w.heap.size + 1, 3, none⟩ = some (.slice none 0 0) := at_cell H2.out 3
  have y := fun i => (show w1.frozen? ⟨w.heap.size + 1, i, none⟩ = false from at_free H2.out i)
  have y0 := y 0; have y1 := y 1; have y2 := y 2; have y3 := y 3
  skip
  go_region
  have hf := at_set (at_set (at_set (at_set H2.out 0 (.int .u32 (1 + (p1 : Int)))) 1 (.int .i64 (q1 : Int))) 2 (.int .i64 (1 + (k1 : Int)))) 3 (.slice none 0 0)
  refine exit_gen (fun wx => w.grownBy wx none ∧ wx.heap[w.heap.size + 1]? = some (.cells #[.int .u32 (1 + (p1 : Int)), .int .i64 (q1 : Int), .int .i64 (1 + (k1 : Int)), .slice none 0 0] 25)) ⟨gb_drew (gb_new (gb_new (gb_new (gb_new G0.out (Nat.le_succ _) _) (Nat.le_succ _) _) (Nat.le_succ _) _) (Nat.le_succ _) _), hf⟩ (fun wx hx => ?_)
  clear hf d0 d1 d2 d3 z0 z1 z2 z3 y y0 y1 y2 y3
  have G5 := hid hx.1
  have e0 := at_cell hx.2 0; have e1 := at_cell hx.2 1; have e2 := at_cell hx.2 2; have e3 := at_cell hx.2 3
  clear hx
  go_wp2_with fail
  exact bodyPost_ret (v := .agg #[.int .u32 (1 + (p1 : Int)), .int .i64 (q1 : Int), .int .i64 (1 + (k1 : Int)), .slice none 0 0]) (by simp [results, Try.results21, go_sem, e0, e1, e2, e3]) rfl ⟨rfl, G5.out⟩
/-- the law's fit: a cell that may be -/
theorem fit_any (p : Nat) (Q K : Int) (v : Value) (l : List UInt8) (w : World) (hv : BytesAt w v l) :
    Calls Try.prog 21 #[lcV p Q K v] w fun e w' => ∃ (c : Cl) (u : Value), c.May ∧ e = .returned (lcV c.pass c.place c.kind u) ∧ BytesAt w' u c.data ∧ w.grownBy w' none := by
  obtain ⟨q1, hq1, hQ⟩ := umod_small Q 4097 (by omega)
  obtain ⟨k1, hk1, hK⟩ := umod_small K 3 (by omega)
  rw [show ((4097 : Nat) : Int) = 4097 from rfl] at hQ
  rw [show ((3 : Nat) : Int) = 3 from rfl] at hK
  obtain ⟨p1, hp1, hp⟩ : ∃ p1, p1 < 250 ∧ (p : Int) % 250 = ((p1 : Nat) : Int) := ⟨p % 250, by omega, by omega⟩
  have may : ∀ d : List UInt8, d.length ≤ 48 → (⟨1 + p1, q1, 1 + k1, d⟩ : Cl).May := fun d hd => ⟨by show 1 ≤ 1 + p1; omega, by show 1 + p1 ≤ 250; omega, by show q1 ≤ 4096; omega, by show 1 ≤ 1 + k1; omega, by show 1 + k1 ≤ 3; omega, hd⟩
  rcases hv with ⟨rfl, rfl⟩ | ⟨a, c, rfl, h1, h2, h3⟩
  · refine (fit_walk_nil p Q K p1 q1 k1 hp hp1 hQ hq1 hK hk1 w).mono ?_
    rintro e w' ⟨rfl, hg⟩
    exact ⟨⟨1 + p1, q1, 1 + k1, []⟩, _, may [] (by decide), rfl, .inl ⟨rfl, rfl⟩, hg⟩
  · have hb : BytesAt w (.slice (some a) l.length c) l := .inr ⟨_, c, rfl, h1, h2, h3⟩
    refine (fit_walk_some p Q K a l.length c (min l.length 48) p1 q1 k1 hp hp1 hQ hq1 hK hk1 (by omega) (by omega) w).mono ?_
    rintro e w' ⟨rfl, hg⟩
    exact ⟨⟨1 + p1, q1, 1 + k1, l.take (min l.length 48)⟩, _, may _ (by rw [List.length_take]; omega), rfl, (hb.upto (Nat.min_le_left _ _)).grown hg (by simp), hg⟩
end Go.Proofs.Ytjebmlmjbnaghaa
