/-
  A log's cell, told plainly: the sum of bytes, the sixty-four bytes of a cell, what is in bytes; a cell comes back; one byte spoilt is told; a beginning over another is not whole. No condition. Nothing of the program's functions is named here.
-/
import Derived.Test.YtjebmlmjbnaghaaByt
set_option linter.unusedSimpArgs false
set_option linter.unusedVariables false
namespace Go.Proofs.Ytjebmlmjbnaghaa
set_option maxRecDepth 100000
open Go.RowKit

/-- the sum of the first k bytes, each by its place -/
def sumF (l : List UInt8) : Nat → Nat
  | 0 => 0
  | k + 1 => sumF l k + (k + 1) * ((l.getD k 0).toNat + 1)
def sumN (l : List UInt8) : Nat := sumF l l.length
theorem sumF_le (l : List UInt8) (n : Nat) : sumF l n ≤ n * n * 256 := by
  induction n with
  | zero => simp [sumF]
  | succ n ih =>
    have h : (l.getD n 0).toNat + 1 ≤ 256 := by have := (l.getD n 0).toNat_lt; omega
    have h2 := Nat.mul_le_mul (Nat.le_refl (n + 1)) h
    have e : (n + 1) * (n + 1) * 256 = n * n * 256 + (2 * n + 1) * 256 := by
      rw [Nat.add_mul n 1 (n + 1), Nat.mul_add n n 1, Nat.add_mul, Nat.add_mul, Nat.add_mul]; omega
    show sumF l n + _ ≤ _
    rw [e]
    have : (n + 1) * 256 ≤ (2 * n + 1) * 256 := Nat.mul_le_mul (by omega) (Nat.le_refl _)
    omega
theorem sumN_small {l : List UInt8} (h : l.length ≤ 100) : sumN l < 4294967296 := by
  have h1 := sumF_le l l.length
  have h2 : l.length * l.length ≤ 100 * 100 := Nat.mul_le_mul h h
  unfold sumN; omega
theorem sumF_set {l : List UInt8} {k : Nat} (hk : k < l.length) (c : UInt8) : ∀ n, sumF (l.set k c) n + (if k < n then (k + 1) * ((l.getD k 0).toNat + 1) else 0) = sumF l n + (if k < n then (k + 1) * (c.toNat + 1) else 0)
  | 0 => by simp [sumF]
  | n + 1 => by
    have ih := sumF_set hk c n
    show sumF (l.set k c) n + (n + 1) * (((l.set k c).getD n 0).toNat + 1) + _ = sumF l n + (n + 1) * ((l.getD n 0).toNat + 1) + _
    by_cases e : k = n
    · subst e
      rw [if_neg (Nat.lt_irrefl _), if_neg (Nat.lt_irrefl _)] at ih
      rw [if_pos (Nat.lt_succ_self _), if_pos (Nat.lt_succ_self _)]
      have : (l.set k c).getD k 0 = c := by rw [List.getD_eq_getElem?_getD, List.getElem?_set_self hk]; rfl
      rw [this]; omega
    · have : (l.set k c).getD n 0 = l.getD n 0 := by rw [List.getD_eq_getElem?_getD, List.getElem?_set_ne e, ← List.getD_eq_getElem?_getD]
      rw [this]
      by_cases h : k < n
      · rw [if_pos h, if_pos h] at ih
        rw [if_pos (by omega), if_pos (by omega)]; omega
      · rw [if_neg h, if_neg h] at ih
        rw [if_neg (by omega), if_neg (by omega)]; omega
/-- unlike in one byte alone: unlike sums -/
theorem sumN_set {l : List UInt8} {k : Nat} (hk : k < l.length) (c : UInt8) : sumN (l.set k c) = sumN l ↔ c = l.getD k 0 := by
  have h := sumF_set hk c l.length
  rw [if_pos hk, if_pos hk] at h
  have e : sumN (l.set k c) = sumF (l.set k c) l.length := by unfold sumN; rw [List.length_set]
  have e2 : sumN l = sumF l l.length := rfl
  rw [← e, ← e2] at h
  constructor
  · intro hs
    rw [hs] at h
    have h2 : (k + 1) * ((l.getD k 0).toNat + 1) = (k + 1) * (c.toNat + 1) := by omega
    have := Nat.eq_of_mul_eq_mul_left (by omega) h2
    exact UInt8.toNat_inj.1 (by omega)
  · rintro rfl; omega

/-- a cell -/
structure Cl where
  pass : Nat
  place : Nat
  kind : Nat
  data : List UInt8
structure Cl.May (c : Cl) : Prop where
  p1 : 1 ≤ c.pass
  p2 : c.pass ≤ 250
  q : c.place ≤ 4096
  k1 : 1 ≤ c.kind
  k2 : c.kind ≤ 3
  d : c.data.length ≤ 48
@[reducible] def u8 (n : Nat) : UInt8 := UInt8.ofNat n
theorem u8_nat (n : Nat) : (u8 n).toNat = n % 256 := by rw [UInt8.toNat_ofNat']
theorem u8_small {n : Nat} (h : n < 256) : (u8 n).toNat = n := by rw [u8_nat]; omega
def b4 (n : Nat) : List UInt8 := [u8 n, u8 (n / 256), u8 (n / 65536), u8 (n / 16777216)]
def n4 (l : List UInt8) (i : Nat) : Nat := (l.getD i 0).toNat + 256 * (l.getD (i + 1) 0).toNat + 65536 * (l.getD (i + 2) 0).toNat + 16777216 * (l.getD (i + 3) 0).toNat
def head8 (c : Cl) : List UInt8 := b4 c.pass ++ [u8 c.place, u8 (c.place / 256), u8 c.kind, u8 c.data.length]
def pad48 (c : Cl) : List UInt8 := c.data ++ List.replicate (48 - c.data.length) 0
def body56 (c : Cl) : List UInt8 := head8 c ++ pad48 c
def tail8 (s m : Nat) : List UInt8 := b4 s ++ [0, 0, 0, u8 m]
def putL (c : Cl) : List UInt8 := body56 c ++ tail8 (sumN (body56 c)) c.pass
def passOf (b : List UInt8) : Nat := n4 b 0
def wholeL (b : List UInt8) : Bool := decide (1 ≤ passOf b) && decide (passOf b ≤ 250) && decide ((b.getD 63 0).toNat = passOf b)
def cellOf (b : List UInt8) : Cl := ⟨passOf b, (b.getD 4 0).toNat + 256 * (b.getD 5 0).toNat, (b.getD 6 0).toNat, (b.drop 8).take (min (b.getD 7 0).toNat 48)⟩
section
variable {c d : Cl} {b : List UInt8} {i k : Nat}
theorem n4_b4 {n : Nat} (h : n < 4294967296) (x : List UInt8) : n4 (b4 n ++ x) 0 = n := by
  show (u8 n).toNat + 256 * (u8 (n / 256)).toNat + 65536 * (u8 (n / 65536)).toNat + 16777216 * (u8 (n / 16777216)).toNat = n
  rw [u8_nat, u8_nat, u8_nat, u8_nat]; omega
theorem head8_len (c : Cl) : (head8 c).length = 8 := rfl
theorem pad48_len (h : c.data.length ≤ 48) : (pad48 c).length = 48 := by unfold pad48; rw [List.length_append, List.length_replicate]; omega
theorem body56_len (h : c.data.length ≤ 48) : (body56 c).length = 56 := by unfold body56; rw [List.length_append, head8_len, pad48_len h]
theorem putL_len (h : c.data.length ≤ 48) : (putL c).length = 64 := by unfold putL; rw [List.length_append, body56_len h]; rfl
theorem getD_left {x y : List UInt8} (h : i < x.length) : (x ++ y).getD i 0 = x.getD i 0 := by
  rw [List.getD_eq_getElem?_getD, List.getElem?_append_left h, ← List.getD_eq_getElem?_getD]
theorem getD_right {x y : List UInt8} (h : x.length ≤ i) : (x ++ y).getD i 0 = y.getD (i - x.length) 0 := by
  rw [List.getD_eq_getElem?_getD, List.getElem?_append_right h, ← List.getD_eq_getElem?_getD]
theorem putL_head (c : Cl) (h : i < 8) : (putL c).getD i 0 = (head8 c).getD i 0 := by
  unfold putL body56
  rw [List.append_assoc, getD_left (by rw [head8_len]; exact h)]
theorem putL_tail (hd : c.data.length ≤ 48) (i : Nat) : (putL c).getD (56 + i) 0 = (tail8 (sumN (body56 c)) c.pass).getD i 0 := by
  unfold putL
  rw [getD_right (by rw [body56_len hd]; omega), body56_len hd]
  congr 1; omega
theorem putL_take (hd : c.data.length ≤ 48) : (putL c).take 56 = body56 c := by unfold putL; rw [List.take_left' (body56_len hd)]
theorem pass_put (h : c.May) : passOf (putL c) = c.pass := by
  unfold passOf n4
  rw [putL_head c (by decide), putL_head c (by decide), putL_head c (by decide), putL_head c (by decide)]
  have := n4_b4 (n := c.pass) (by have := h.p2; omega) [u8 c.place, u8 (c.place / 256), u8 c.kind, u8 c.data.length]
  exact this
theorem mark_put (h : c.May) : ((putL c).getD 63 0).toNat = c.pass := by
  have := putL_tail h.d 7
  rw [show 56 + 7 = 63 from rfl] at this
  rw [this]
  show (u8 c.pass).toNat = _
  exact u8_small (by have := h.p2; omega)
theorem whole_put (h : c.May) : wholeL (putL c) = true := by
  unfold wholeL
  rw [pass_put h, mark_put h]
  have := h.p1; have := h.p2
  simp; omega
theorem cell_put (h : c.May) : cellOf (putL c) = c := by
  have e4 : ((putL c).getD 4 0).toNat + 256 * ((putL c).getD 5 0).toNat = c.place := by
    rw [putL_head c (by decide), putL_head c (by decide)]
    show (u8 c.place).toNat + 256 * (u8 (c.place / 256)).toNat = _
    rw [u8_nat, u8_nat]; have := h.q; omega
  have e6 : ((putL c).getD 6 0).toNat = c.kind := by
    rw [putL_head c (by decide)]
    exact u8_small (by have := h.k2; omega)
  have e7 : ((putL c).getD 7 0).toNat = c.data.length := by
    rw [putL_head c (by decide)]
    exact u8_small (by have := h.d; omega)
  have ed : ((putL c).drop 8).take c.data.length = c.data := by
    unfold putL body56 pad48
    rw [List.append_assoc, List.drop_left' (head8_len c), List.append_assoc, List.take_left' rfl]
  unfold cellOf
  rw [pass_put h, e4, e6, e7, Nat.min_eq_left h.d, ed]
/-- what holds of a cell's bytes -/
structure Chk (b : List UInt8) : Prop where
  sum : n4 b 56 = sumN (b.take 56)
  z0 : b.getD 60 0 = 0
  z1 : b.getD 61 0 = 0
  z2 : b.getD 62 0 = 0
  mark : (b.getD 63 0).toNat = passOf b
theorem chk_put (h : c.May) : Chk (putL c) := by
  have ht := fun i => putL_tail h.d i
  refine ⟨?_, ht 4, ht 5, ht 6, ?_⟩
  · rw [putL_take h.d]
    have hs : sumN (body56 c) < 4294967296 := sumN_small (by rw [body56_len h.d]; decide)
    have := n4_b4 hs [0, 0, 0, u8 c.pass]
    unfold n4
    rw [show (56 : Nat) = 56 + 0 from rfl, ht 0, show 56 + 0 + 1 = 56 + 1 from rfl, ht 1, show 56 + 0 + 2 = 56 + 2 from rfl, ht 2, show 56 + 0 + 3 = 56 + 3 from rfl, ht 3]
    exact this
  · rw [mark_put h, pass_put h]
theorem getD_set (b : List UInt8) (k i : Nat) (x : UInt8) (hk : k < b.length) : (b.set k x).getD i 0 = if k = i then x else b.getD i 0 := by
  by_cases e : k = i
  · subst e; rw [if_pos rfl, List.getD_eq_getElem?_getD, List.getElem?_set_self hk]; rfl
  · rw [if_neg e, List.getD_eq_getElem?_getD, List.getElem?_set_ne e, ← List.getD_eq_getElem?_getD]
/-- one byte spoilt: it is no cell's bytes -/
theorem chk_spoilt (h : Chk b) (hb : b.length = 64) (hk : k < 64) {x : UInt8} (hx : x ≠ b.getD k 0) : ¬ Chk (b.set k x) := by
  intro g
  have gd := fun i => getD_set b k i x (by omega)
  have hl : (b.take 56).length = 56 := by rw [List.length_take]; omega
  by_cases h56 : k < 56
  · have e : (b.set k x).take 56 = (b.take 56).set k x := by rw [List.take_set]
    have s := g.sum
    have n : n4 (b.set k x) 56 = n4 b 56 := by
      unfold n4; rw [gd, gd, gd, gd, if_neg (by omega), if_neg (by omega), if_neg (by omega), if_neg (by omega)]
    rw [n, h.sum, e] at s
    have := (sumN_set (l := b.take 56) (k := k) (by omega) x).1 s.symm
    rw [List.getD_eq_getElem?_getD, List.getElem?_take, if_pos h56, ← List.getD_eq_getElem?_getD] at this
    exact hx this
  have e : (b.set k x).take 56 = b.take 56 := by rw [List.take_set_of_le (by omega)]
  have s := g.sum
  rw [e, ← h.sum] at s
  have gx := x.toNat_lt
  have hne : x.toNat ≠ (b.getD k 0).toNat := fun q => hx (UInt8.toNat_inj.1 q)
  have : k = 56 ∨ k = 57 ∨ k = 58 ∨ k = 59 ∨ k = 60 ∨ k = 61 ∨ k = 62 ∨ k = 63 := by omega
  rcases this with rfl | rfl | rfl | rfl | rfl | rfl | rfl | rfl
  · unfold n4 at s; rw [gd, gd, gd, gd] at s; simp at s; simp at hne; omega
  · unfold n4 at s; rw [gd, gd, gd, gd] at s; simp at s; simp at hne; omega
  · unfold n4 at s; rw [gd, gd, gd, gd] at s; simp at s; simp at hne; omega
  · unfold n4 at s; rw [gd, gd, gd, gd] at s; simp at s; simp at hne; omega
  · have q := g.z0; rw [gd, if_pos rfl] at q; exact hx (q.trans h.z0.symm)
  · have q := g.z1; rw [gd, if_pos rfl] at q; exact hx (q.trans h.z1.symm)
  · have q := g.z2; rw [gd, if_pos rfl] at q; exact hx (q.trans h.z2.symm)
  · have q := g.mark
    have n : passOf (b.set 63 x) = passOf b := by
      unfold passOf n4; rw [gd, gd, gd, gd, if_neg (by omega), if_neg (by omega), if_neg (by omega), if_neg (by omega)]
    rw [gd, if_pos rfl, n, ← h.mark] at q
    exact hne q
theorem put_spoilt (h : c.May) (hk : k < 64) {x : UInt8} (hx : x ≠ (putL c).getD k 0) (hm : d.May) : putL d ≠ (putL c).set k x := fun e => chk_spoilt (chk_put h) (putL_len h.d) hk hx (e ▸ chk_put hm)
theorem put_inj (h : c.May) (g : d.May) (e : putL c = putL d) : c = d := by rw [← cell_put h, ← cell_put g, e]
/-- the first bytes of a cell, in front of others' -/
theorem torn_pass (h : c.May) {y : List UInt8} (hy : y.length = 64) (hz : ∀ i, 1 ≤ i → i < 4 → y.getD i 0 = 0) (hk : 1 ≤ k) (hk2 : k ≤ 64) : passOf ((putL c).take k ++ y.drop k) = c.pass := by
  have hl : ((putL c).take k).length = k := by rw [List.length_take, putL_len h.d]; omega
  have g0 : ((putL c).take k ++ y.drop k).getD 0 0 = (putL c).getD 0 0 := by
    rw [getD_left (by omega), List.getD_eq_getElem?_getD, List.getElem?_take, if_pos (by omega), ← List.getD_eq_getElem?_getD]
  have hp := h.p2
  have z : ∀ i, 1 ≤ i → i < 4 → (putL c).getD i 0 = 0 := fun i h1 h2 => by
    rw [putL_head c (by omega)]
    have : i = 1 ∨ i = 2 ∨ i = 3 := by omega
    rcases this with rfl | rfl | rfl
    · show u8 (c.pass / 256) = 0; rw [Nat.div_eq_of_lt (by omega)]; rfl
    · show u8 (c.pass / 65536) = 0; rw [Nat.div_eq_of_lt (by omega)]; rfl
    · show u8 (c.pass / 16777216) = 0; rw [Nat.div_eq_of_lt (by omega)]; rfl
  have g : ∀ i, 1 ≤ i → i < 4 → ((putL c).take k ++ y.drop k).getD i 0 = 0 := fun i h1 h2 => by
    by_cases e : i < k
    · rw [getD_left (by omega), List.getD_eq_getElem?_getD, List.getElem?_take, if_pos e, ← List.getD_eq_getElem?_getD]; exact z i h1 h2
    · rw [getD_right (by omega), hl, List.getD_eq_getElem?_getD, List.getElem?_drop, show k + (i - k) = i by omega, ← List.getD_eq_getElem?_getD]; exact hz i h1 h2
  unfold passOf n4
  rw [g0, g 1 (by omega) (by omega), g 2 (by omega) (by omega), g 3 (by omega) (by omega), putL_head c (by decide)]
  show (u8 c.pass).toNat + 256 * 0 + 65536 * 0 + 16777216 * 0 = c.pass
  rw [u8_small (by omega)]; omega
theorem put_high (h : c.May) (i : Nat) (h1 : 1 ≤ i) (h2 : i < 4) : (putL c).getD i 0 = 0 := by
  have hp := h.p2
  rw [putL_head c (by omega)]
  have : i = 1 ∨ i = 2 ∨ i = 3 := by omega
  rcases this with rfl | rfl | rfl
  · show u8 (c.pass / 256) = 0; rw [Nat.div_eq_of_lt (by omega)]; rfl
  · show u8 (c.pass / 65536) = 0; rw [Nat.div_eq_of_lt (by omega)]; rfl
  · show u8 (c.pass / 16777216) = 0; rw [Nat.div_eq_of_lt (by omega)]; rfl
theorem torn_last {x y : List UInt8} (hx : x.length = 64) (hk : k < 64) : (x.take k ++ y.drop k).getD 63 0 = y.getD 63 0 := by
  have hl : (x.take k).length = k := by rw [List.length_take]; omega
  rw [getD_right (by omega), hl, List.getD_eq_getElem?_getD, List.getElem?_drop, show k + (63 - k) = 63 by omega, ← List.getD_eq_getElem?_getD]
/-- a beginning over a cell of another pass, or over noughts, is not whole -/
theorem torn_not (h : c.May) {y : List UInt8} (hy : y.length = 64) (hz : ∀ i, 1 ≤ i → i < 4 → y.getD i 0 = 0) (hne : (y.getD 63 0).toNat ≠ c.pass) (hk : 1 ≤ k) (hk2 : k < 64) : wholeL ((putL c).take k ++ y.drop k) = false := by
  unfold wholeL
  rw [torn_pass h hy hz hk (by omega), torn_last (putL_len h.d) hk2, show decide ((y.getD 63 0).toNat = c.pass) = false from decide_eq_false hne, Bool.and_false]
end
end Go.Proofs.Ytjebmlmjbnaghaa
