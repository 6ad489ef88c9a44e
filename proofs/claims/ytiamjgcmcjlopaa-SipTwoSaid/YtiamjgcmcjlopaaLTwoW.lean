/-
  The walk of the statement SipTwo: two hashes of one key go their own ways; asked twice, a sum is the same. The condition: the bytes read as bytes.
-/
import Derived.Test.YtiamjgcmcjlopaaTold
import Derived.Test.YtiamjgcmcjlopaaStep
namespace Go.Proofs.Ytiamjgcmcjlopaa.two
open Go.RowKit

theorem box_cells {w : World} {bx : Nat} {k0 k1 : BitVec 64} (h : w.heap[bx]? = some (.cells #[.int .u64 (q k0), .int .u64 (q k1)] 23)) :
    w.cell? ⟨bx, 0, none⟩ = some (.int .u64 (q k0)) ∧ w.cell? ⟨bx, 1, none⟩ = some (.int .u64 (q k1)) := ⟨at_cell h 0, at_cell h 1⟩

/-- what stands behind the making of the two hashes -/
def Made (k0 k1 : BitVec 64) (w0 : World) (x y : Nat) (w : World) : Prop :=
  w0.heap.size < x ∧ x < y ∧ w.heap[x]? = some (St.new k0 k1).obj ∧ w.heap[y]? = some (St.new k0 k1).obj ∧ w.heap[w0.heap.size]? = some (.cells #[.int .u64 (q k0), .int .u64 (q k1)] 23) ∧ w0.grownBy w none

theorem made_of {k0 k1 : BitVec 64} {w w1 w2 : World}
    (hx : w1.heap[(w.alloc (.cells #[.int .u64 (q k0), .int .u64 (q k1)] 23)).drew.heap.size + 1]? = some (St.new k0 k1).obj)
    (hg1 : (w.alloc (.cells #[.int .u64 (q k0), .int .u64 (q k1)] 23)).drew.grownBy w1 none)
    (hy : w2.heap[w1.heap.size + 1]? = some (St.new k0 k1).obj) (hg2 : w1.grownBy w2 none) : Made k0 k1 w (w.heap.size + 1 + 1) (w1.heap.size + 1) w2 := by
  have e : (w.alloc (.cells #[.int .u64 (q k0), .int .u64 (q k1)] 23)).drew.heap.size = w.heap.size + 1 := size_alloc _ _
  rw [e] at hx
  have hlt := at_lt hx
  exact ⟨by omega, by omega, at_grown hx hg2 (by simp), hy, at_grown (at_grown (at_drew (at_new w _)) hg1 (by simp)) hg2 (by simp), gb_trans (gb_trans (gb_drew (gb_alloc (.refl w none) _)) hg1 (.inl rfl)) hg2 (.inl rfl)⟩

/-- two hashes under way, the key's box, two slices of bytes that came in, in one world -/
structure Two (k0 k1 : BitVec 64) (w0 : World) (x y : Nat) (sx sy : St) (va : Value) (a : List UInt8) (vb : Value) (b : List UInt8) (w : World) : Prop where
  bx : w0.heap.size < x
  xy : x < y
  hx : w.heap[x]? = some sx.obj
  hy : w.heap[y]? = some sy.obj
  box : w.heap[w0.heap.size]? = some (.cells #[.int .u64 (q k0), .int .u64 (q k1)] 23)
  la : a = [] ∨ ∀ p n c, va = .slice (some p) n c → p.block < w0.heap.size
  lb : b = [] ∨ ∀ p n c, vb = .slice (some p) n c → p.block < w0.heap.size
  ba : BytesAt w va a
  bb : BytesAt w vb b
  g : w0.grownBy w none
theorem Two.of {k0 k1 : BitVec 64} {w0 : World} {x y : Nat} {va : Value} {a : List UInt8} {vb : Value} {b : List UInt8} {w : World} (h : Made k0 k1 w0 x y w) (ha : BytesAt w0 va a) (hb : BytesAt w0 vb b) : Two k0 k1 w0 x y (St.new k0 k1) (St.new k0 k1) va a vb b w :=
  ⟨h.1, h.2.1, h.2.2.1, h.2.2.2.1, h.2.2.2.2.1, ha.lt, hb.lt, ha.grown h.2.2.2.2.2 (by simp), hb.grown h.2.2.2.2.2 (by simp), h.2.2.2.2.2⟩
theorem Two.next {k0 k1 : BitVec 64} {w0 : World} {x y : Nat} {sx sy : St} {va : Value} {a : List UInt8} {vb : Value} {b : List UInt8} {w w1 : World} (h : Two k0 k1 w0 x y sx sy va a vb b w) (hg : w.grownBy w1 none) : Two k0 k1 w0 x y sx sy va a vb b w1 :=
  ⟨h.bx, h.xy, at_grown h.hx hg (by simp), at_grown h.hy hg (by simp), at_grown h.box hg (by simp), h.la, h.lb, h.ba.grown hg (by simp), h.bb.grown hg (by simp), gb_trans h.g hg (.inl rfl)⟩
theorem Two.apart {va : Value} {a : List UInt8} {n k : Nat} (h : a = [] ∨ ∀ p n' c, va = .slice (some p) n' c → p.block < n) (hk : n < k) : a = [] ∨ ∀ p n' c, va = .slice (some p) n' c → p.block ≠ k :=
  h.elim .inl fun h => .inr fun p n' c e => by have := h p n' c e; omega
theorem Two.row {k0 k1 : BitVec 64} {w0 : World} {x y : Nat} {sx sy sx' sy' : St} {va : Value} {a : List UInt8} {vb : Value} {b : List UInt8} {w w1 : World} (h : Two k0 k1 w0 x y sx sy va a vb b w) (r : Nat) (hr : w0.heap.size < r)
    (hx : w1.heap[x]? = some sx'.obj) (hy : w1.heap[y]? = some sy'.obj) (hg : w.grownBy w1 (some r)) : Two k0 k1 w0 x y sx' sy' va a vb b w1 :=
  ⟨h.bx, h.xy, hx, hy, at_grown h.box hg (by simp; omega), h.la, h.lb, h.ba.grown hg (fun k e => by cases e; exact .inr (Two.apart h.la hr)), h.bb.grown hg (fun k e => by cases e; exact .inr (Two.apart h.lb hr)),
    gb_trans h.g hg (.inr (.inr ⟨r, rfl, by omega⟩))⟩
theorem Two.write_x {k0 k1 : BitVec 64} {w0 : World} {x y : Nat} {sx sy sx' : St} {va : Value} {a : List UInt8} {vb : Value} {b : List UInt8} {w w1 : World} (h : Two k0 k1 w0 x y sx sy va a vb b w) (hx : w1.heap[x]? = some sx'.obj) (hg : w.grownBy w1 (some x)) : Two k0 k1 w0 x y sx' sy va a vb b w1 :=
  h.row x h.bx hx (at_grown h.hy hg (by have := h.xy; simp; omega)) hg
theorem Two.write_y {k0 k1 : BitVec 64} {w0 : World} {x y : Nat} {sx sy sy' : St} {va : Value} {a : List UInt8} {vb : Value} {b : List UInt8} {w w1 : World} (h : Two k0 k1 w0 x y sx sy va a vb b w) (hy : w1.heap[y]? = some sy'.obj) (hg : w.grownBy w1 (some y)) : Two k0 k1 w0 x y sx sy' va a vb b w1 :=
  h.row y (by have := h.bx; have := h.xy; omega) (at_grown h.hx hg (by have := h.xy; simp; omega)) hy hg

section
variable {P Q : Prop} {w5 wc w6 : World} {b : Nat} {o : Obj} {v : Value} {l : List UInt8}
theorem held_g (h : P ∧ Q ∧ w5.grownBy wc none) : w5.grownBy wc none := h.2.2
theorem held_at (h : P ∧ Q ∧ w5.grownBy wc none) (hx : w5.heap[b]? = some o) : wc.heap[b]? = some o := at_grown hx h.2.2 (by simp)
theorem held_bytes (h : P ∧ Q ∧ w5.grownBy wc none) (hx : BytesAt w5 v l) : BytesAt wc v l := hx.grown h.2.2 (by simp)
theorem held_size (h : P ∧ Q ∧ w5.grownBy wc none) : w5.heap.size ≤ wc.heap.size := gb_size h.2.2
theorem held_empty (h : w5.grownBy wc none) : OwnB w5.heap.size (wc.alloc (.cells #[] 5)) (.slice (some ⟨wc.heap.size, 0, none⟩) 0 0) [] := (OwnB.empty wc).le (gb_size h)
theorem held_own (h : P ∧ Q ∧ w5.grownBy wc none) (ho : OwnB w5.heap.size wc v l) (hg : wc.grownBy w6 v.ownBlock) : w5.grownBy w6 none :=
  gb_trans h.2.2 hg (by
    cases hb : v.ownBlock with
    | none => exact .inl rfl
    | some g =>
      obtain ⟨p, c, rfl⟩ := ho.form
      cases p with
      | none => cases hb
      | some a => exact .inr (.inr ⟨g, rfl, by have := (ho.at a _ _ rfl).1; cases hb; exact this⟩))
end
theorem keep8 {k0 k1 : BitVec 64} {w0 : World} {x y : Nat} {sx sy : St} {va : Value} {a : List UInt8} {vb : Value} {b : List UInt8} {w5 w : World} (h : Two k0 k1 w0 x y sx sy va a vb b w5) (hg : w5.grownBy w none) :
    w.cell? ⟨w0.heap.size, 0, none⟩ = some (.int .u64 (q k0)) ∧ w.cell? ⟨w0.heap.size, 1, none⟩ = some (.int .u64 (q k1)) ∧ w5.grownBy w none :=
  ⟨at_cell (at_grown h.box hg (by simp)) 0, at_cell (at_grown h.box hg (by simp)) 1, hg⟩

set_option maxRecDepth 100000 in
set_option maxHeartbeats 1600000 in
theorem walk_long (k0 k1 : BitVec 64) (p1 : Option Addr) (n1 c1 : Nat) (p2 : Option Addr) (n2 c2 : Nat) (hn : 100 < n1 ∨ n1 ≤ 100 ∧ 100 < n2) (w : World) :
    Calls Try.prog 8 #[.agg #[.int .u64 (q k0), .int .u64 (q k1)], .slice p1 n1 c1, .slice p2 n2 c2] w fun e w' => e = .returned (.bool true) ∧ w.grownBy w' none := by
  rcases hn with hn | ⟨hn1, hn⟩
  all_goals
    go_enter Try.func8, Try.ntmps8
    go_wp2_with fail
    have hb0 := at_new w (.cells #[.int .u64 (q k0), .int .u64 (q k1)] 23)
    have HB0 := hid hb0
    obtain ⟨ks1, ks2⟩ := box_cells hb0
    clear hb0
    go_region_held3 (fun w' => w'.cell? ⟨w.heap.size, 0, none⟩ = some (.int .u64 (q k0)) ∧ w'.cell? ⟨w.heap.size, 1, none⟩ = some (.int .u64 (q k1)))
      ((refine box_cells (k0 := k0) (k1 := k1) ?_; (repeat (first | with_reducible exact HB0.out | with_reducible refine at_drew ?_ | with_reducible refine at_grown ?_ hg2 (by simp) | with_reducible refine at_grown ?_ hg1 (by simp)))))
      (first
        | (go_at_call 18; (with_reducible refine (new_any k0 k1 (w.alloc (.cells #[.int .u64 (q k0), .int .u64 (q k1)] 23)).drew).mono ?_); rintro e w1 ⟨rfl, hx, hg1⟩)
        | (go_at_call 18; (with_reducible refine (new_any k0 k1 w1).mono ?_); rintro e w2 ⟨rfl, hy, hg2⟩))
    have hm := made_of hx hg1 hy hg2
    refine exit_gen (Made k0 k1 w (w.heap.size + 1 + 1) (w1.heap.size + 1)) hm ?_
    generalize w.heap.size + 1 + 1 = x at *
    generalize w1.heap.size + 1 = y at *
    clear hx hg1 hy hg2 hm HB0 ks1 ks2
    intro wm hm
    have HM := hid hm; clear hm
    go_wp2_with fail
    refine (told_any _).mono ?_
    rintro e w3 ⟨rfl, hg⟩
    have HT := hid hg; clear hg
    go_wp2_with fail
    go_ret
    exact ⟨rfl, gb_trans HM.out.2.2.2.2.2 HT.out (.inl rfl)⟩

set_option maxRecDepth 100000 in
set_option maxHeartbeats 3200000 in
theorem walk_short (k0 k1 : BitVec 64) (a b : List UInt8) (p1 : Option Addr) (c1 : Nat) (p2 : Option Addr) (c2 : Nat) (w : World) (ha : BytesAt w (.slice p1 a.length c1) a) (hb : BytesAt w (.slice p2 b.length c2) b) (hna : a.length ≤ 100) (hnb : b.length ≤ 100) :
    Calls Try.prog 8 #[.agg #[.int .u64 (q k0), .int .u64 (q k1)], .slice p1 a.length c1, .slice p2 b.length c2] w fun e w' => e = .returned (.bool true) ∧ w.grownBy w' none := by
    have HA := hid ha; have HB := hid hb
    clear ha hb
    go_enter Try.func8, Try.ntmps8
    go_wp2_with fail
    have hb0 := at_new w (.cells #[.int .u64 (q k0), .int .u64 (q k1)] 23)
    have HB0 := hid hb0
    obtain ⟨ks1, ks2⟩ := box_cells hb0
    clear hb0
    go_region_held3 (fun w' => w'.cell? ⟨w.heap.size, 0, none⟩ = some (.int .u64 (q k0)) ∧ w'.cell? ⟨w.heap.size, 1, none⟩ = some (.int .u64 (q k1)))
      ((refine box_cells (k0 := k0) (k1 := k1) ?_; (repeat (first | with_reducible exact HB0.out | with_reducible refine at_drew ?_ | with_reducible refine at_grown ?_ hg2 (by simp) | with_reducible refine at_grown ?_ hg1 (by simp)))))
      (first
        | (go_at_call 18; (with_reducible refine (new_any k0 k1 (w.alloc (.cells #[.int .u64 (q k0), .int .u64 (q k1)] 23)).drew).mono ?_); rintro e w1 ⟨rfl, hx, hg1⟩)
        | (go_at_call 18; (with_reducible refine (new_any k0 k1 w1).mono ?_); rintro e w2 ⟨rfl, hy, hg2⟩))
    have hm := made_of hx hg1 hy hg2
    refine exit_gen (Made k0 k1 w (w.heap.size + 1 + 1) (w1.heap.size + 1)) hm ?_
    generalize w.heap.size + 1 + 1 = x at *
    generalize w1.heap.size + 1 = y at *
    clear hx hg1 hy hg2 hm HB0 ks1 ks2
    intro wm hm
    have HM := hid hm; clear hm
    go_wp2_with fail
    have T0 := hid (Two.of HM.out HA.out HB.out)
    clear HM HA HB
    have hna' : (a.length : Int) ≤ 100 := by omega
    have hnb' : (b.length : Int) ≤ 100 := by omega
    refine (write_any x _ a _ _ T0.out.hx T0.out.ba (Two.apart T0.out.la T0.out.bx)).mono ?_
    rintro e w1 ⟨rfl, h1, h2⟩
    have T1 := hid (T0.out.write_x h1 h2); clear h1 h2
    go_wp2_with fail
    refine (write_any y _ b _ _ T1.out.hy T1.out.bb (Two.apart T1.out.lb (Nat.lt_trans T1.out.bx T1.out.xy))).mono ?_
    rintro e w2 ⟨rfl, h1, h2⟩
    have T2 := hid (T1.out.write_y h1 h2); clear h1 h2
    go_wp2_with fail
    refine (hsum_any x _ _ T2.out.hx).mono ?_
    rintro e w3 ⟨rfl, h2⟩
    have T3 := hid (T2.out.next h2); clear h2
    go_wp2_with fail
    refine (hsum_any y _ _ T3.out.hy).mono ?_
    rintro e w4 ⟨rfl, h2⟩
    have T4 := hid (T3.out.next h2); clear h2
    go_wp2_with fail
    refine (write_any x _ b _ _ T4.out.hx T4.out.bb (Two.apart T4.out.lb T4.out.bx)).mono ?_
    rintro e w5 ⟨rfl, h1, h2⟩
    have T5 := hid (T4.out.write_x h1 h2); clear h1 h2
    go_wp2_with fail
    have s1 : (q (List.foldl St.add (St.new k0 k1) a).sum == q (sumOf k0 k1 a)) = true := by simp [sumOf]
    have s2 : (q (List.foldl St.add (St.new k0 k1) b).sum == q (sumOf k0 k1 b)) = true := by simp [sumOf]
    have s3 : (q (List.foldl St.add (List.foldl St.add (St.new k0 k1) a) b).sum == q (sumOf k0 k1 (a ++ b))) = true := by simp [sumOf]
    clear T0 T1 T2 T3 T4
    have hh := keep8 T5.out (.refl w5 none)
    go_region_held3 (fun w' => w'.cell? ⟨w.heap.size, 0, none⟩ = some (.int .u64 (q k0)) ∧ w'.cell? ⟨w.heap.size, 1, none⟩ = some (.int .u64 (q k1)) ∧ w5.grownBy w' none)
      ((refine keep8 T5.out ?_; (repeat (first | assumption | exact World.grownBy.refl _ _ | exact held_g (by assumption) | with_reducible refine gb_drew ?_ | with_reducible refine gb_alloc ?_ _ | with_reducible refine gb_trans ?_ (by assumption) (.inl rfl)))))
      (first
        | (refine step_append_bytes (by rfl) _ _ (by rfl) w5.heap.size _ [] (by rfl) (by first | exact held_empty (by assumption) | exact OwnB.grown (held_empty (by assumption)) (by assumption) (by simp)) _ a (by rfl) (held_bytes (by assumption) T5.out.ba) (by simp; omega) (held_size (by assumption)) ?_; intro v1 w6 hown1 hgrow1 hat1; have g6 := held_own (by assumption) (by first | exact held_empty (by assumption) | exact OwnB.grown (held_empty (by assumption)) (by assumption) (by simp)) hgrow1)
        | (refine step_append_bytes (by rfl) _ _ (by rfl) w5.heap.size _ ([] ++ a) (by rfl) (by first | assumption | exact OwnB.grown (by assumption) (by assumption) (by simp)) _ b (by rfl) (held_bytes (by assumption) T5.out.bb) (by simp; omega) (held_size (by assumption)) ?_; intro v2 w7 hown2 hgrow2 hat2; have g7 := held_own (by assumption) (by first | assumption | exact OwnB.grown (by assumption) (by assumption) (by simp)) hgrow2)
        | (go_at_call 9; (with_reducible refine (told_any _).mono ?_); rintro e wt ⟨rfl, hg⟩; have gwt := gb_trans (held_g (by assumption)) hg (.inl rfl))
        | (go_at_call 14; (with_reducible refine (sum_any k0 k1 a (.slice p1 a.length c1) _ (held_bytes (by assumption) T5.out.ba)).mono ?_); rintro e wa ⟨rfl, hg⟩; have gwa := gb_trans (held_g (by assumption)) hg (.inl rfl))
        | (go_at_call 14; (with_reducible refine (sum_any k0 k1 b (.slice p2 b.length c2) _ (held_bytes (by assumption) T5.out.bb)).mono ?_); rintro e wb ⟨rfl, hg⟩; have gwb := gb_trans (held_g (by assumption)) hg (.inl rfl))
        | (go_at_call 14; (with_reducible refine (sum_any k0 k1 (([] ++ a) ++ b) v2 _ (OwnB.bytes (by first | assumption | exact OwnB.grown (by assumption) (by assumption) (by simp)))).mono ?_); rintro e ws ⟨rfl, hg⟩; have gws := gb_trans (held_g (by assumption)) hg (.inl rfl))
        | (go_at_call 20; (with_reducible refine (hsum_any x _ _ (held_at (by assumption) T5.out.hx)).mono ?_); rintro e wx ⟨rfl, hg⟩; have gwx := gb_trans (held_g (by assumption)) hg (.inl rfl))
        | (go_at_call 20; (with_reducible refine (hsum_any y _ _ (held_at (by assumption) T5.out.hy)).mono ?_); rintro e wy ⟨rfl, hg⟩; have gwy := gb_trans (held_g (by assumption)) hg (.inl rfl)))
    all_goals
      go_wp2_with fail
      go_ret
      exact ⟨rfl, gb_trans T5.out.g gwy (.inl rfl)⟩

theorem walk (k0 k1 : BitVec 64) (a : List UInt8) {p1 : Option Addr} {c1 : Nat} {w : World} (ha : BytesAt w (.slice p1 a.length c1) a) (b : List UInt8) {p2 : Option Addr} {c2 : Nat} (hb : BytesAt w (.slice p2 b.length c2) b) :
    Calls Try.prog 8 #[.agg #[.int .u64 (q k0), .int .u64 (q k1)], .slice p1 a.length c1, .slice p2 b.length c2] w fun e w' => e = .returned (.bool true) ∧ w.grownBy w' none := by
  by_cases h1 : 100 < a.length
  · exact walk_long k0 k1 p1 _ c1 p2 _ c2 (.inl h1) w
  · by_cases h2 : 100 < b.length
    · exact walk_long k0 k1 p1 _ c1 p2 _ c2 (.inr ⟨by omega, h2⟩) w
    · exact walk_short k0 k1 a b p1 c1 p2 c2 w ha hb (by omega) (by omega)
end Go.Proofs.Ytiamjgcmcjlopaa.two
