/-
  Contracts for package mac: the second key, tags. The condition of a tag: the bytes read as bytes. And 3 texts more that this one stands on. No condition.
-/
import Derived.Test.YtgpdcapnnejdeaaGreatY4
import Derived.Test.YtgpdcapnnejdeaaGreatY8
import Derived.Deep.RegionHeld3
import Derived.Test.YtgpdcapnnejdeaaGreatY2
section
set_option linter.unusedSimpArgs false
namespace Go.Proofs.YtgpdcapnnejdeaaGreat
set_option maxRecDepth 100000
open Go.RowKit

abbrev pair (a b : BitVec 64) : Value := .agg #[.int .u64 (q a), .int .u64 (q b)]
def inv (x : BitVec 64) : BitVec 64 := x ^^^ BitVec.allOnes 64
theorem q_inv (x : BitVec 64) : bits .xor .u64 IntKind.u64.max (q x) = q (inv x) := by
 rw [show IntKind.u64.max = q (BitVec.allOnes 64) by decide +kernel, q_xor, BitVec.xor_comm]; rfl

set_option maxHeartbeats 800000 in
theorem second_any (k0 k1 : BitVec 64) (w : World) :
  Calls Tryz.prog 86 #[pair k0 k1] w fun e w' => e = .returned (pair k1 (inv k0)) ∧ w.grownBy w' none := by
 rw [pair, inv]
 go_enter Tryz.func86, Tryz.ntmps86
 go_wp2_with fail
 exact bodyPost_ret (v := pair k1 (inv k0)) (by rw [q_inv]; simp [results, Tryz.results86, go_sem]) rfl ⟨rfl, gb_alloc (gb_alloc (.refl w none) _) _⟩

theorem pair_cells {w : World} {b : Nat} {t : TypeId} {x y : BitVec 64} (h : w.heap[b]? = some (.cells #[.int .u64 (q x), .int .u64 (q y)] t)) :
  w.cell? ⟨b, 0, none⟩ = some (.int .u64 (q x)) ∧ w.cell? ⟨b, 1, none⟩ = some (.int .u64 (q y)) := ⟨at_cell h 0, at_cell h 1⟩

structure Box (w : World) (k0 k1 : BitVec 64) (t t' : TypeId) (w' : World) : Prop where
 box : w'.heap[w.heap.size]? = some (.cells #[.int .u64 (q k0), .int .u64 (q k1)] t)
 ans : ∃ x y, w'.heap[w.heap.size + 1]? = some (.cells #[x, y] t')
 g : w.grownBy w' none
theorem Box.grown {w : World} {k0 k1 : BitVec 64} {t t' : TypeId} {w1 w2 : World} (h : Box w k0 k1 t t' w1) (hg : w1.grownBy w2 none) : Box w k0 k1 t t' w2 :=
 ⟨at_grown h.box hg (by simp), by obtain ⟨x, y, h⟩ := h.ans; exact ⟨x, y, at_grown h hg (by simp)⟩, gb_trans h.g hg (.inl rfl)⟩
theorem Box.drew {w : World} {k0 k1 : BitVec 64} {t t' : TypeId} {w1 : World} (h : Box w k0 k1 t t' w1) : Box w k0 k1 t t' w1.drew := ⟨h.box, h.ans, gb_drew h.g⟩
theorem Box.alloc {w : World} {k0 k1 : BitVec 64} {t t' : TypeId} {w1 : World} (h : Box w k0 k1 t t' w1) (o : Obj) : Box w k0 k1 t t' (w1.alloc o) := h.grown (World.grownBy_alloc w1 o none)
theorem Box.set0 {w : World} {k0 k1 : BitVec 64} {t t' : TypeId} {w1 : World} (h : Box w k0 k1 t t' w1) (v : Value) : Box w k0 k1 t t' (w1.setCell ⟨w.heap.size + 1, 0, none⟩ v) :=
 ⟨at_set_other h.box (by simp) v, by obtain ⟨x, y, hxy⟩ := h.ans; exact ⟨v, y, at_set hxy 0 v⟩, gb_new h.g (by simp) v⟩
theorem Box.set1 {w : World} {k0 k1 : BitVec 64} {t t' : TypeId} {w1 : World} (h : Box w k0 k1 t t' w1) (v : Value) : Box w k0 k1 t t' (w1.setCell ⟨w.heap.size + 1, 1, none⟩ v) :=
 ⟨at_set_other h.box (by simp) v, by obtain ⟨x, y, hxy⟩ := h.ans; exact ⟨x, v, at_set hxy 1 v⟩, gb_new h.g (by simp) v⟩
theorem Box.store {w : World} {k0 k1 : BitVec 64} {t t' : TypeId} {w1 : World} (h : Box w k0 k1 t t' w1) (a b : Value) :
  ((w1.setCell ⟨w.heap.size + 1, 0, none⟩ a).setCell ⟨w.heap.size + 1, 1, none⟩ b).heap[w.heap.size + 1]? = some (.cells #[a, b] t') ∧ w.grownBy ((w1.setCell ⟨w.heap.size + 1, 0, none⟩ a).setCell ⟨w.heap.size + 1, 1, none⟩ b) none := by
 obtain ⟨x, y, hxy⟩ := h.ans
 exact ⟨at_set (at_set hxy 0 a) 1 b, ((h.set0 a).set1 b).g⟩
theorem Box.keep {w : World} {k0 k1 : BitVec 64} {t t' : TypeId} {w' : World} (h : Box w k0 k1 t t' w') :
  w'.cell? ⟨w.heap.size, 0, none⟩ = some (.int .u64 (q k0)) ∧ w'.cell? ⟨w.heap.size, 1, none⟩ = some (.int .u64 (q k1)) ∧ Box w k0 k1 t t' w' := ⟨at_cell h.box 0, at_cell h.box 1, h⟩
section
variable {P Q : Prop} {w wc : World} {k0 k1 : BitVec 64} {t t' : TypeId} {v : Value} {l : List UInt8}
theorem box_bytes (h : P ∧ Q ∧ Box w k0 k1 t t' wc) (hx : BytesAt w v l) : BytesAt wc v l := hx.grown h.2.2.g (by simp)
theorem box_box (h : P ∧ Q ∧ Box w k0 k1 t t' wc) : Box w k0 k1 t t' wc := h.2.2
theorem box_ans {w2 : World} (h : P ∧ Q ∧ Box w k0 k1 t t' wc) (hg : wc.grownBy w2 none) : ∃ x y, w2.cell? ⟨w.heap.size + 1, 0, none⟩ = some x ∧ w2.cell? ⟨w.heap.size + 1, 1, none⟩ = some y ∧ w2.frozen? ⟨w.heap.size + 1, 0, none⟩ = false ∧ w2.frozen? ⟨w.heap.size + 1, 1, none⟩ = false := by
 obtain ⟨x, y, hxy⟩ := (h.2.2.grown hg).ans
 exact ⟨x, y, at_cell hxy 0, at_cell hxy 1, at_free hxy 0, at_free hxy 1⟩
end

set_option maxHeartbeats 1600000 in
theorem tag_any (k0 k1 : BitVec 64) (v : Value) (l : List UInt8) (w : World) (hl : BytesAt w v l) :
  Calls Tryz.prog 37 #[pair k0 k1, v] w fun e w' => e = .returned (pair (sumOf k0 k1 l) (sumOf k1 (inv k0) l)) ∧ w.grownBy w' none := by
 have HL := hid hl; clear hl
 go_enter Tryz.func37, Tryz.ntmps37
 go_wp2_with fail
 have hb : Box w k0 k1 49 83 ((w.alloc (.cells #[.int .u64 (q k0), .int .u64 (q k1)] 49)).alloc (.cells #[.int .u64 0, .int .u64 0] 83)) :=
  ⟨at_alloc (at_new w _) _, ⟨_, _, at_new2 w _ _⟩, gb_alloc (gb_alloc (.refl w none) _) _⟩
 have HB := hid hb; clear hb
 have hh := HB.out.keep
 go_region_held3 (fun w' => w'.cell? ⟨w.heap.size, 0, none⟩ = some (.int .u64 (q k0)) ∧ w'.cell? ⟨w.heap.size, 1, none⟩ = some (.int .u64 (q k1)) ∧ Box w k0 k1 49 83 w')
  ((refine Box.keep (t := 49) (t' := 83) ?_; (repeat (first | assumption | with_reducible exact HB.out | with_reducible refine Box.drew ?_ | with_reducible refine Box.set1 ?_ _ | with_reducible refine Box.set0 ?_ _ | exact box_box (by assumption) | with_reducible refine Box.grown ?_ (by assumption)))))
  (first
   | (go_at_call 86; (with_reducible refine (second_any k0 k1 _).mono ?_); rintro e w1 ⟨rfl, hg1⟩)
   | (go_at_call 85; (with_reducible refine (sum_any k0 k1 l v _ (box_bytes (by assumption) HL.out)).mono ?_); rintro e wa ⟨rfl, hga⟩)
   | (go_at_call 85; (with_reducible refine (sum_any k1 (inv k0) l v _ (box_bytes (by assumption) HL.out)).mono ?_); rintro e wb ⟨rfl, hgb⟩; obtain ⟨x, y, c0, c1, f0, f1⟩ := box_ans (by assumption) hgb; have hB := Box.grown (box_box (by assumption)) hgb))
 refine exit_gen (fun wx => wx.heap[w.heap.size + 1]? = some (.cells #[.int .u64 (q (sumOf k0 k1 l)), .int .u64 (q (sumOf k1 (inv k0) l))] 83) ∧ w.grownBy wx none) (hB.store _ _) ?_
 clear hB c0 c1 f0 f1 hga hg1 hgb hh
 intro wx ⟨hA, hG⟩
 have HA := hid hA; have HG := hid hG; clear hA hG
 obtain ⟨d0, d1⟩ := pair_cells HA.out
 go_wp2_with fail
 exact bodyPost_ret (v := pair (sumOf k0 k1 l) (sumOf k1 (inv k0) l)) (by simp [results, Tryz.results37, go_sem, d0, d1]) rfl ⟨rfl, HG.out⟩
end Go.Proofs.YtgpdcapnnejdeaaGreat
end
section
namespace Go.Proofs.YtgpdcapnnejdeaaGreat
set_option maxRecDepth 100000
open Go.RowKit

theorem run_append_bytes {w : World} {ty : TypeId} (base : Nat) (v : Value) (l : List UInt8) (hown : OwnB base w v l) (u : Value) (r : List UInt8) (hr : BytesAt w u r) (hlen : l.length + r.length ≤ 1000000) (hbase : base ≤ w.heap.size) :
  ∃ v' w', (Builtin.append_ #[40, 40] ty #[v, u]).run Tryz.prog w = .ok v' w' ∧ OwnB base w' v' (l ++ r) ∧ w.grownBy w' v.ownBlock ∧ (v'.ownBlock = v.ownBlock ∨ v'.ownBlock = some w.heap.size) := by
 obtain ⟨i, hi, hz0, hz1, hz2⟩ := info_parts info_u8
 rcases hr with ⟨rfl, rfl⟩ | ⟨ad, c, rfl, _, _, hc⟩
 ·exact ⟨v, w, run_append_owned_none (P := Tryz.prog) (w := w) base 40 ty 5 i 1 Tryz.underlying40 hi v l.length (l.map bv) hown, by simpa using hown, .refl _ _, .inl rfl⟩
 ·obtain ⟨v', w', h0, h1, h2, _, h3⟩ := run_append_own_at (P := Tryz.prog) w base 40 ty 5 i (.int .u8 0) 1 1 Tryz.underlying40 hi hz0 hz1 hz2 rfl (by omega) v l.length (l.map bv) hown ad r.length c (r.map bv) (by simp)
   (fun j y hj => by
    rw [List.getElem?_map] at hj
    by_cases hlt : j < r.length
    ·rw [List.getElem?_eq_getElem hlt] at hj
     cases hj
     exact hc j hlt
    ·rw [List.getElem?_eq_none (by omega)] at hj; cases hj)
   (fun y hy => by
    obtain ⟨c, _, rfl⟩ := List.mem_map.1 hy
    rfl)
   (by unfold maxLen; omega) (by omega) hbase
  exact ⟨v', w', h0, by unfold OwnB; rw [List.length_append, List.map_append]; exact h1, h2, h3⟩

theorem wp_append_bytes {w : World} {o : Oper} {a : Act} {K : Act → World → Prop} {Q : Exit → Act → World → Prop} (s x : Operand)
  (ho : o.op = .call { callee := .builtin .append, args := #[s, x], argTypes := #[40, 40] })
  (base : Nat) (v : Value) (l : List UInt8) (hs : a.eval s = v) (hown : OwnB base w v l) (u : Value) (r : List UInt8) (hx : a.eval x = u) (hr : BytesAt w u r)
  (hlen : l.length + r.length ≤ 1000000) (hbase : base ≤ w.heap.size)
  (h : ∀ v' w', OwnB base w' v' (l ++ r) → w.grownBy w' v.ownBlock → (v'.ownBlock = v.ownBlock ∨ v'.ownBlock = some w.heap.size) → K (a.put o.dst v') w') : o.wp Tryz.prog a w K Q := by
 obtain ⟨v', w', hrun, h1, h2, h3⟩ := run_append_bytes (ty := o.type) base v l hown u r hr hlen hbase
 unfold Oper.wp execOp
 simp only [ho, resolve, invoke, builtin, Sem.run_bind, Sem.run_pure, Result.andThen_ok, List.map_toArray, List.map_cons, List.map_nil, hs, hx, hrun]
 exact h v' w' h1 h2 h3

theorem step_append_bytes {w : World} {ops : Array Oper} {o : Oper} {a : Act} {K : Act → World → Prop} {Q : Exit → Act → World → Prop} {E : Prop} (hw : Region.wanted o (yielded ops a.tmps) = true) (s x : Operand)
  (ho : o.op = .call { callee := .builtin .append, args := #[s, x], argTypes := #[40, 40] })
  (base : Nat) (v : Value) (l : List UInt8) (hs : a.eval s = v) (hown : OwnB base w v l) (u : Value) (r : List UInt8) (hx : a.eval x = u) (hr : BytesAt w u r)
  (hlen : l.length + r.length ≤ 1000000) (hbase : base ≤ w.heap.size)
  (h : ∀ v' w', OwnB base w' v' (l ++ r) → w.grownBy w' v.ownBlock → (v'.ownBlock = v.ownBlock ∨ v'.ownBlock = some w.heap.size) → K (a.put o.dst v') w') :
  if Region.wanted o (yielded ops a.tmps) = true then Oper.wp Tryz.prog o a w K Q else E := by
 rw [if_pos hw]
 exact wp_append_bytes s x ho base v l hs hown u r hx hr hlen hbase h
end Go.Proofs.YtgpdcapnnejdeaaGreat
end
section
set_option linter.unusedSimpArgs false
namespace Go.Proofs.YtgpdcapnnejdeaaGreat
set_option maxRecDepth 100000
open Go.RowKit

theorem own_put {w : World} {b base : Nat} (n : BitVec 64) (h : w.heap[b]? = some (.cells (putArr n 8) 5)) (hb : base ≤ b) : OwnB base w (.slice (some ⟨b, 0, none⟩) 8 8) (put8 n) :=
 own_block (put8 n) (by rw [h, putArr_full]; rfl) (by rw [put8_length]; unfold maxLen; decide) hb
structure Boxb (w : World) (x y : BitVec 64) (t : TypeId) (w' : World) : Prop where
 box : w'.heap[w.heap.size]? = some (.cells #[.int .u64 (q x), .int .u64 (q y)] t)
 g : w.grownBy w' none
theorem Boxb.grown {w : World} {x y : BitVec 64} {t : TypeId} {w1 w2 : World} (h : Boxb w x y t w1) (hg : w1.grownBy w2 none) : Boxb w x y t w2 := ⟨at_grown h.box hg (by simp), gb_trans h.g hg (.inl rfl)⟩
theorem Boxb.drew {w : World} {x y : BitVec 64} {t : TypeId} {w1 : World} (h : Boxb w x y t w1) : Boxb w x y t w1.drew := ⟨h.box, gb_drew h.g⟩
theorem Boxb.size {w : World} {x y : BitVec 64} {t : TypeId} {w1 : World} (h : Boxb w x y t w1) : w.heap.size + 1 ≤ w1.heap.size := at_lt h.box
theorem Boxb.own {w : World} {x y : BitVec 64} {t : TypeId} {w1 w2 : World} {v : Value} {l : List UInt8} (h : Boxb w x y t w1) (ho : OwnB (w.heap.size + 1) w1 v l) (hg : w1.grownBy w2 v.ownBlock) : Boxb w x y t w2 :=
 ⟨at_own h.box ho (by omega) hg, gb_own h.g ho (by omega) hg⟩
theorem Boxb.keep {w : World} {x y : BitVec 64} {t : TypeId} {w' : World} (h : Boxb w x y t w') :
  w'.cell? ⟨w.heap.size, 0, none⟩ = some (.int .u64 (q x)) ∧ w'.cell? ⟨w.heap.size, 1, none⟩ = some (.int .u64 (q y)) ∧ Boxb w x y t w' := ⟨at_cell h.box 0, at_cell h.box 1, h⟩
section
variable {P Q : Prop} {w wc : World} {x y : BitVec 64} {t : TypeId}
theorem boxb_box (h : P ∧ Q ∧ Boxb w x y t wc) : Boxb w x y t wc := h.2.2
end

set_option maxHeartbeats 1600000 in
theorem bytes_any (t0 t1 : BitVec 64) (w : World) :
  Calls Tryz.prog 79 #[pair t0 t1] w fun e w' => ∃ v, e = .returned v ∧ OwnB w.heap.size w' v (put8 t0 ++ put8 t1) ∧ w.grownBy w' none := by
 go_enter Tryz.func79, Tryz.ntmps79
 go_wp2_with fail
 have hb : Boxb w t0 t1 83 (w.alloc (.cells #[.int .u64 (q t0), .int .u64 (q t1)] 83)) := ⟨at_new w _, gb_alloc (.refl w none) _⟩
 have HB := hid hb
 obtain ⟨k0, k1, _⟩ := hb.keep
 clear hb
 have hs : (w.alloc (.cells #[.int .u64 (q t0), .int .u64 (q t1)] 83)).drew.heap.size = w.heap.size + 1 := size_alloc _ _
 go_region_held3 (fun w' => w'.cell? ⟨w.heap.size, 0, none⟩ = some (.int .u64 (q t0)) ∧ w'.cell? ⟨w.heap.size, 1, none⟩ = some (.int .u64 (q t1)) ∧ Boxb w t0 t1 83 w')
  ((refine Boxb.keep (t := 83) ?_; (repeat (first | assumption | with_reducible exact HB.out | with_reducible refine Boxb.drew ?_ | exact boxb_box (by assumption) | with_reducible refine Boxb.grown ?_ (by assumption)))))
  (first
   | (go_at_call 83; (with_reducible refine (put_any t0 _).mono ?_); rintro e wa ⟨rfl, ha, hga⟩; rw [hs] at ha; have oa := own_put t0 ha (Nat.le_refl _))
   | (go_at_call 83; (with_reducible refine (put_any t1 _).mono ?_); rintro e wb ⟨rfl, hb, hgb⟩; have ob := own_put t1 hb (Boxb.size (boxb_box (by assumption))))
   | (refine step_append_bytes (by rfl) _ _ (by rfl) (w.heap.size + 1) _ (put8 t0) (by rfl) (by first | assumption | exact OwnB.grown (by assumption) (by assumption) (by simp)) _ (put8 t1) (by rfl) (OwnB.bytes (by assumption)) (by simp [put8_length]) (Boxb.size (boxb_box (by assumption))) ?_; intro v1 w6 hown1 hgrow1 hat1; have g6 := Boxb.own (boxb_box (by assumption)) (by first | assumption | exact OwnB.grown (by assumption) (by assumption) (by simp)) hgrow1))
 clear hs k0 k1 HB
 go_wp2_with fail
 go_ret
 exact ⟨v1, rfl, hown1.le (by omega), g6.g⟩

theorem same_bits (t0 t1 u0 u1 : BitVec 64) : (q (t0 ^^^ u0 ||| t1 ^^^ u1) == 0) = (t0 == u0 && t1 == u1) := by
 rw [show (0 : Int) = q 0#64 by decide +kernel, q_beq]
 by_cases h0 : t0 = u0
 ·by_cases h1 : t1 = u1
  ·subst h0; subst h1; simp
  ·subst h0
   have : ¬ (t1 ^^^ u1 = 0#64) := fun e => h1 (BitVec.xor_eq_zero_iff.1 e)
   rw [BitVec.xor_self, BitVec.zero_or, beq_eq_false_iff_ne.2 this, beq_eq_false_iff_ne.2 h1]; simp
 ·have : ¬ (t0 ^^^ u0 = 0#64) := fun e => h0 (BitVec.xor_eq_zero_iff.1 e)
  have h2 : ¬ ((t0 ^^^ u0) ||| (t1 ^^^ u1) = 0#64) := fun e => this (BitVec.or_eq_zero_iff.1 e).1
  rw [beq_eq_false_iff_ne.2 h2]; simp [h0]

set_option maxHeartbeats 1600000 in
theorem same_any (t0 t1 u0 u1 : BitVec 64) (w : World) :
  Calls Tryz.prog 36 #[pair t0 t1, pair u0 u1] w fun e w' => e = .returned (.bool (t0 == u0 && t1 == u1)) ∧ w.grownBy w' none := by
 rw [← same_bits]
 go_enter Tryz.func36, Tryz.ntmps36
 go_wp2_with fail
 go_ret
 exact ⟨rfl, gb_alloc (gb_alloc (.refl w none) _) _⟩
end Go.Proofs.YtgpdcapnnejdeaaGreat
end
section
namespace Go.Proofs.YtgpdcapnnejdeaaGreat
set_option maxRecDepth 100000
open Go.RowKit

structure Kp (w0 : World) (bs : List (Nat × Obj)) (ys : List (Value × List UInt8)) (w : World) : Prop where
 g : w0.grownBy w none
 bl : ∀ x ∈ bs, w.heap[x.1]? = some x.2
 yl : ∀ x ∈ ys, BytesAt w x.1 x.2
section
variable {w0 w w1 : World} {bs : List (Nat × Obj)} {ys : List (Value × List UInt8)} {b : Nat} {o : Obj} {v : Value} {l : List UInt8} {x0 x1 x2 x3 x4 x5 x6 : Nat × Obj} {z0 z1 z2 z3 z4 z5 : Value × List UInt8}
theorem kp_start (w : World) : Kp w [] [] w := ⟨.refl w none, (fun _ h => by cases h), (fun _ h => by cases h)⟩
theorem Kp.grown (h : Kp w0 bs ys w) (hg : w.grownBy w1 none) : Kp w0 bs ys w1 :=
 ⟨gb_trans h.g hg (.inl rfl), fun x hx => at_grown (h.bl x hx) hg (by simp), fun x hx => (h.yl x hx).grown hg (by simp)⟩
theorem Kp.drew (h : Kp w0 bs ys w) : Kp w0 bs ys w.drew := ⟨gb_drew h.g, fun x hx => h.bl x hx, fun x hx => (h.yl x hx).drew⟩
theorem Kp.add (h : Kp w0 bs ys w) (k : w.heap[b]? = some o) : Kp w0 ((b, o) :: bs) ys w :=
 ⟨h.g, (fun x hx => (List.mem_cons.1 hx).elim (fun e => by rw [e]; exact k) (h.bl x)), h.yl⟩
theorem Kp.addY (h : Kp w0 bs ys w) (k : BytesAt w v l) : Kp w0 bs ((v, l) :: ys) w :=
 ⟨h.g, h.bl, (fun x hx => (List.mem_cons.1 hx).elim (fun e => by rw [e]; exact k) (h.yl x))⟩
theorem Kp.alloc (h : Kp w0 bs ys w) (o : Obj) : Kp w0 ((w.heap.size, o) :: bs) ys (w.alloc o) := (h.grown (World.grownBy_alloc w o none)).add (at_new w o)
theorem Kp.size (h : Kp w0 bs ys w) : w0.heap.size ≤ w.heap.size := gb_size h.g
theorem Kp.tail (h : Kp w0 (x0 :: bs) ys w) : Kp w0 bs ys w := ⟨h.g, fun x hx => h.bl x (List.mem_cons_of_mem _ hx), h.yl⟩
theorem Kp.tailY (h : Kp w0 bs (z0 :: ys) w) : Kp w0 bs ys w := ⟨h.g, h.bl, fun x hx => h.yl x (List.mem_cons_of_mem _ hx)⟩
theorem Kp.b0 (h : Kp w0 ((b, o) :: bs) ys w) : w.heap[b]? = some o := h.bl (b, o) (by simp)
theorem Kp.b1 (h : Kp w0 (x0 :: (b, o) :: bs) ys w) : w.heap[b]? = some o := h.tail.b0
theorem Kp.b2 (h : Kp w0 (x0 :: x1 :: (b, o) :: bs) ys w) : w.heap[b]? = some o := h.tail.b1
theorem Kp.b3 (h : Kp w0 (x0 :: x1 :: x2 :: (b, o) :: bs) ys w) : w.heap[b]? = some o := h.tail.b2
theorem Kp.b4 (h : Kp w0 (x0 :: x1 :: x2 :: x3 :: (b, o) :: bs) ys w) : w.heap[b]? = some o := h.tail.b3
theorem Kp.b5 (h : Kp w0 (x0 :: x1 :: x2 :: x3 :: x4 :: (b, o) :: bs) ys w) : w.heap[b]? = some o := h.tail.b4
theorem Kp.b6 (h : Kp w0 (x0 :: x1 :: x2 :: x3 :: x4 :: x5 :: (b, o) :: bs) ys w) : w.heap[b]? = some o := h.tail.b5
theorem Kp.b7 (h : Kp w0 (x0 :: x1 :: x2 :: x3 :: x4 :: x5 :: x6 :: (b, o) :: bs) ys w) : w.heap[b]? = some o := h.tail.b6
theorem Kp.y0 (h : Kp w0 bs ((v, l) :: ys) w) : BytesAt w v l := h.yl (v, l) (by simp)
theorem Kp.y1 (h : Kp w0 bs (z0 :: (v, l) :: ys) w) : BytesAt w v l := h.tailY.y0
theorem Kp.y2 (h : Kp w0 bs (z0 :: z1 :: (v, l) :: ys) w) : BytesAt w v l := h.tailY.y1
theorem Kp.y3 (h : Kp w0 bs (z0 :: z1 :: z2 :: (v, l) :: ys) w) : BytesAt w v l := h.tailY.y2
theorem Kp.y4 (h : Kp w0 bs (z0 :: z1 :: z2 :: z3 :: (v, l) :: ys) w) : BytesAt w v l := h.tailY.y3
theorem Kp.y5 (h : Kp w0 bs (z0 :: z1 :: z2 :: z3 :: z4 :: (v, l) :: ys) w) : BytesAt w v l := h.tailY.y4
theorem Kp.set {cs old : Array Value} {t : TypeId} (h : Kp w0 ((b, .cells old t) :: bs) ys w) (hb : w0.heap.size ≤ b) (hne : ∀ x ∈ bs, x.1 ≠ b) (hy : ∀ x ∈ ys, x.2 = [] ∨ ∀ a n c, x.1 = .slice (some a) n c → a.block ≠ b) :
  Kp w0 ((b, .cells cs t) :: bs) ys (w.setRow b cs) := by
 have hgr : w.grownBy (w.setRow b cs) (some b) := ⟨rfl, rfl, rfl, by simp [World.setRow], fun k hk hr => by simp [World.setRow, Array.getElem?_modify, show b ≠ k by intro e; exact hr (by rw [e])]⟩
 refine ⟨gb_trans h.g hgr (.inr (.inr ⟨b, rfl, hb⟩)), fun x hx => ?_, fun x hx => (h.yl x hx).grown hgr (fun k e => by cases e; exact .inr (hy x hx))⟩
 rcases List.mem_cons.1 hx with rfl | hx
 ·exact at_setRow h.b0
 ·exact at_setRow_other (h.bl x (List.mem_cons_of_mem _ hx)) (hne x hx)
end

theorem Kp.own {w0 w w1 : World} {bs : List (Nat × Obj)} {ys : List (Value × List UInt8)} {base : Nat} {v : Value} {l : List UInt8} (h : Kp w0 bs ys w) (ho : OwnB base w v l) (hg : w.grownBy w1 v.ownBlock) (h0 : w0.heap.size ≤ base)
  (hb : ∀ x ∈ bs, x.1 < base) (hy : ∀ x ∈ ys, x.2 = [] ∨ ∀ a n c, x.1 = .slice (some a) n c → a.block < base) : Kp w0 bs ys w1 := by
 refine ⟨gb_own h.g ho h0 hg, fun x hx => at_own (h.bl x hx) ho (hb x hx) hg, fun x hx => (h.yl x hx).grown hg (fun k e => .inr ((hy x hx).elim .inl fun q => .inr fun a n c ea => ?_))⟩
 obtain ⟨p, c', rfl⟩ := ho.form
 cases p with
 | none => cases e
 | some g => have h1 := (ho.at g _ _ rfl).1; cases e; have := q a n c ea; omega
theorem Kp.low {w0 w : World} {bs : List (Nat × Obj)} {ys : List (Value × List UInt8)} (h : Kp w0 bs ys w) : (∀ x ∈ bs, x.1 < w.heap.size) ∧ (∀ x ∈ ys, x.2 = [] ∨ ∀ a n c, x.1 = .slice (some a) n c → a.block < w.heap.size) :=
 ⟨fun x hx => at_lt (h.bl x hx), fun x hx => (h.yl x hx).lt⟩

theorem OwnB.full {base : Nat} {w : World} {v : Value} {l : List UInt8} (h : OwnB base w v l) (hl : 0 < l.length) : ∃ g c, v = .slice (some ⟨g, 0, none⟩) l.length c ∧ l.length ≤ c ∧ c ≤ maxLen ∧ base ≤ g ∧ g < w.heap.size := by
 obtain ⟨_, h | ⟨g, cap, cur, rfl, hb, hh, h1, h2, _⟩⟩ := h
 ·omega
 ·exact ⟨g, cap, rfl, h1, h2, hb, at_lt hh⟩
theorem byte_cell {w : World} {g n c : Nat} {l : List UInt8} (h : BytesAt w (.slice (some ⟨g, 0, none⟩) n c) l) (i : Nat) (hi : i < l.length) (x : UInt8) (hx : byteAt l i = x) : w.cell? ⟨g, i, none⟩ = some (.int .u8 (x.toNat : Int)) := by
 rcases h with ⟨h, _⟩ | ⟨a, cap, e, _, _, h3⟩
 ·cases h
 ·cases e
  have := h3 i hi
  have e : (⟨g, 0, none⟩ : Addr).add i = ⟨g, i, none⟩ := by unfold Addr.add; split <;> simp_all
  rw [e] at this
  rw [this, ← hx, byteAt_eq hi]
end Go.Proofs.YtgpdcapnnejdeaaGreat
end
