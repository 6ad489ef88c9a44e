/-
  A disk, told plainly: its sectors, whether a write will be torn and what of it stays, whether it is down, how many writes did anything. No condition. Nothing of the program's functions is named here.
-/
import Derived.Test.YtjjlakekjihnoaaByt
set_option linter.unusedSimpArgs false
set_option linter.unusedVariables false
namespace Go.Proofs.Ytjjlakekjihnoaa
set_option maxRecDepth 100000
open Go.RowKit

structure Dk where
  l : List (List UInt8)
  wait : Bool
  stays : Nat
  down : Bool
  n : Nat
/-- how much of a write a Tear lets stay -/
def clampS (n : Int) : Nat := (min (max n 0) 64).toNat
theorem clampS_le (n : Int) : clampS n ≤ 64 := by unfold clampS; omega
theorem clampS_eq (n : Int) : (clampS n : Int) = min (max n 0) 64 := by unfold clampS; omega
theorem clampS_small {n : Nat} (h : n ≤ 64) : clampS (n : Int) = n := by unfold clampS; omega
structure Dk.Ok (d : Dk) : Prop where
  each : ∀ s ∈ d.l, s.length = 64
  lo : 1 ≤ d.l.length
  hi : d.l.length ≤ 4096
  st : d.stays ≤ 64
@[reducible] def Dk.new (n : Nat) : Dk := ⟨List.replicate n (List.replicate 64 0), false, 0, false, 0⟩
def Dk.has (d : Dk) (a : Int) : Bool := decide (0 ≤ a) && decide (a < (d.l.length : Int))
@[reducible] def Dk.at (d : Dk) (k : Nat) : List UInt8 := d.l.getD k []
@[reducible] def Dk.put (d : Dk) (k : Nat) (s : List UInt8) : Dk := { d with l := d.l.set k s }
@[reducible] def Dk.torn (d : Dk) (k : Nat) (b : List UInt8) : Dk := ⟨d.l.set k (b.take d.stays ++ (d.at k).drop d.stays), false, d.stays, true, d.n + 1⟩
@[reducible] def Dk.wrote (d : Dk) (k : Nat) (b : List UInt8) : Dk := ⟨d.l.set k b, d.wait, d.stays, d.down, d.n + 1⟩
@[reducible] def Dk.tear (d : Dk) (n : Int) : Dk := { d with wait := true, stays := clampS n }
@[reducible] def Dk.up (d : Dk) : Dk := { d with wait := false, down := false }
def turned (s : List UInt8) (p : Nat) (t : UInt8) : List UInt8 := s.set p (s.getD p 0 ^^^ t)
@[reducible] def Dk.spoilt (d : Dk) (k p : Nat) (t : UInt8) : Dk := d.put k (turned (d.at k) p t)
/-- may a write be? -/
def Dk.may (d : Dk) (a : Int) (b : List UInt8) : Bool := d.has a && decide (b.length = 64)
def Dk.write (d : Dk) (a : Int) (b : List UInt8) : Dk := if d.down then d else if d.may a b then (if d.wait then d.torn a.toNat b else d.wrote a.toNat b) else d
def Dk.code (d : Dk) (a : Int) (b : List UInt8) : Int := if d.down then 10 else if d.may a b then (if d.wait then 10 else 0) else 1
def Dk.mays (d : Dk) (a p : Int) : Bool := d.has a && (decide (0 ≤ p) && decide (p < 64))
def Dk.spoil (d : Dk) (a p : Int) (t : UInt8) : Dk := if d.mays a p then d.spoilt a.toNat p.toNat t else d
def Dk.scode (d : Dk) (a p : Int) : Int := if d.mays a p then 0 else 1

section
variable {d : Dk} {k p : Nat} {b s : List UInt8} {a : Int} {t : UInt8}
theorem Dk.at_eq (h : k < d.l.length) : d.at k = d.l[k] := by simp [Dk.at, List.getD_eq_getElem?_getD, h]
theorem Dk.Ok.at_len (h : d.Ok) (hk : k < d.l.length) : (d.at k).length = 64 := by rw [Dk.at_eq hk]; exact h.each _ (List.getElem_mem hk)
theorem turned_len : (turned s p t).length = s.length := by unfold turned; rw [List.length_set]
theorem Dk.new_ok {n : Nat} (h1 : 1 ≤ n) (h2 : n ≤ 4096) : (Dk.new n).Ok :=
  ⟨fun s hs => by rw [(List.mem_replicate.1 hs).2]; simp, by simpa using h1, by simpa using h2, Nat.zero_le _⟩
theorem set_each {l : List (List UInt8)} (h : ∀ s ∈ l, s.length = 64) (hs : s.length = 64) : ∀ x ∈ l.set k s, x.length = 64 := fun x hx => by
  rcases List.mem_or_eq_of_mem_set hx with hx | rfl
  · exact h x hx
  · exact hs
theorem torn_len (h : d.Ok) (hk : k < d.l.length) (hb : b.length = 64) : (b.take d.stays ++ (d.at k).drop d.stays).length = 64 := by
  have := h.st; rw [List.length_append, List.length_take, List.length_drop, h.at_len hk]; omega
theorem Dk.Ok.torn (h : d.Ok) (hk : k < d.l.length) (hb : b.length = 64) : (d.torn k b).Ok :=
  ⟨set_each h.each (torn_len h hk hb), by simpa using h.lo, by simpa using h.hi, h.st⟩
theorem Dk.Ok.wrote (h : d.Ok) (hb : b.length = 64) : (d.wrote k b).Ok := ⟨set_each h.each hb, by simpa using h.lo, by simpa using h.hi, h.st⟩
theorem Dk.Ok.tear (h : d.Ok) (n : Int) : (d.tear n).Ok := ⟨h.each, h.lo, h.hi, clampS_le n⟩
theorem Dk.Ok.up (h : d.Ok) : d.up.Ok := ⟨h.each, h.lo, h.hi, h.st⟩
theorem Dk.Ok.spoilt (h : d.Ok) (hk : k < d.l.length) : (d.spoilt k p t).Ok := ⟨set_each h.each (by rw [turned_len]; exact h.at_len hk), by simpa using h.lo, by simpa using h.hi, h.st⟩
theorem Dk.has_at (h : d.has a = true) : ∃ k : Nat, a = (k : Int) ∧ k < d.l.length := by
  unfold Dk.has at h; simp at h
  exact ⟨a.toNat, by omega, by omega⟩
theorem Dk.has_of (h : k < d.l.length) : d.has (k : Int) = true := by unfold Dk.has; simp [h]
theorem Dk.Ok.write (h : d.Ok) (a : Int) (b : List UInt8) : (d.write a b).Ok := by
  unfold Dk.write
  split
  · exact h
  · split
    · next hm =>
      unfold Dk.may at hm; simp at hm
      obtain ⟨k, rfl, hk⟩ := Dk.has_at hm.1
      split
      · exact h.torn (by simpa using hk) hm.2
      · exact h.wrote hm.2
    · exact h
theorem Dk.write_n (a : Int) (b : List UInt8) : (d.write a b).n ≤ d.n + 1 := by
  unfold Dk.write
  split
  · omega
  · split
    · split
      · exact Nat.le_refl _
      · exact Nat.le_refl _
    · omega
theorem Dk.spoil_n (a p : Int) (t : UInt8) : (d.spoil a p t).n = d.n := by unfold Dk.spoil; split <;> rfl
theorem Dk.write_len (a : Int) (b : List UInt8) : (d.write a b).l.length = d.l.length := by
  unfold Dk.write
  split
  · rfl
  · split
    · split
      · exact List.length_set
      · exact List.length_set
    · rfl
theorem Dk.spoil_len (a p : Int) (t : UInt8) : (d.spoil a p t).l.length = d.l.length := by
  unfold Dk.spoil
  split
  · exact List.length_set
  · rfl
theorem Dk.Ok.spoil (h : d.Ok) (a p : Int) (t : UInt8) : (d.spoil a p t).Ok := by
  unfold Dk.spoil
  split
  · next hm =>
    unfold Dk.mays at hm; simp at hm
    obtain ⟨k, rfl, hk⟩ := Dk.has_at hm.1
    exact h.spoilt (by simpa using hk)
  · exact h
end

/-- sectors side by side -/
theorem flat_len : ∀ (l : List (List UInt8)), (∀ s ∈ l, s.length = 64) → l.flatten.length = l.length * 64
  | [], _ => rfl
  | s :: l, h => by rw [List.flatten_cons, List.length_append, flat_len l (fun x hx => h x (List.mem_cons_of_mem _ hx)), h s (List.mem_cons_self ..), List.length_cons]; omega
theorem flat_split (l : List (List UInt8)) (k : Nat) (hk : k < l.length) : l.flatten = (l.take k).flatten ++ l[k] ++ (l.drop (k + 1)).flatten := by
  conv => lhs; rw [← List.take_append_drop k l, List.drop_eq_getElem_cons hk]
  rw [List.flatten_append, List.flatten_cons, List.append_assoc]
theorem flat_get (l : List (List UInt8)) (h : ∀ s ∈ l, s.length = 64) (k : Nat) (hk : k < l.length) (j : Nat) (hj : j < 64) : l.flatten[k * 64 + j]? = (l[k])[j]? := by
  have h1 : (l.take k).flatten.length = k * 64 := by rw [flat_len _ (fun s hs => h s (List.mem_of_mem_take hs)), List.length_take, Nat.min_eq_left (Nat.le_of_lt hk)]
  have h2 := h l[k] (List.getElem_mem hk)
  rw [flat_split l k hk, List.append_assoc, List.getElem?_append_right (by omega), h1, List.getElem?_append_left (by omega)]
  congr 1; omega
/-- bytes laid over a sector, from its first one on -/
theorem flat_over (l : List (List UInt8)) (h : ∀ s ∈ l, s.length = 64) (k : Nat) (hk : k < l.length) (b : List UInt8) (hb : b.length ≤ 64) :
    l.flatten.take (k * 64) ++ b ++ l.flatten.drop (k * 64 + b.length) = (l.set k (b ++ (l[k]).drop b.length)).flatten := by
  have h1 : (l.take k).flatten.length = k * 64 := by rw [flat_len _ (fun s hs => h s (List.mem_of_mem_take hs)), List.length_take, Nat.min_eq_left (Nat.le_of_lt hk)]
  have h2 := h l[k] (List.getElem_mem hk)
  have e := flat_split l k hk
  have e2 : (l.set k (b ++ (l[k]).drop b.length)).flatten = (l.take k).flatten ++ (b ++ (l[k]).drop b.length) ++ (l.drop (k + 1)).flatten := by
    rw [flat_split _ k (by rw [List.length_set]; exact hk), List.getElem_set_self]
    rw [List.take_set_of_le (Nat.le_refl k), List.drop_set_of_lt (Nat.lt_succ_self k)]
  rw [e2, e, List.append_assoc ((l.take k).flatten), List.take_left' h1, ← h1, List.drop_append, List.drop_append_of_le_length (by omega), h1]
  have h3 : List.drop (k * 64 + b.length) (l.take k).flatten = [] := by rw [List.drop_eq_nil_iff]; omega
  rw [h3]
  simp [List.append_assoc]
theorem flat_set (l : List (List UInt8)) (h : ∀ s ∈ l, s.length = 64) (k : Nat) (hk : k < l.length) (p : Nat) (hp : p < 64) (x : UInt8) :
    l.flatten.set (k * 64 + p) x = (l.set k ((l[k]).set p x)).flatten := by
  have h1 : (l.take k).flatten.length = k * 64 := by rw [flat_len _ (fun s hs => h s (List.mem_of_mem_take hs)), List.length_take, Nat.min_eq_left (Nat.le_of_lt hk)]
  have h2 := h l[k] (List.getElem_mem hk)
  rw [flat_split (l.set k _) k (by rw [List.length_set]; exact hk), List.getElem_set_self, List.take_set_of_le (Nat.le_refl k), List.drop_set_of_lt (Nat.lt_succ_self k)]
  conv => lhs; rw [flat_split l k hk]
  rw [List.append_assoc, List.set_append_right _ _ (by omega), h1, List.set_append_left _ _ (by omega), List.append_assoc]
  congr 3; omega
theorem flat_zero (n : Nat) : (List.replicate n (List.replicate 64 (0 : UInt8))).flatten = List.replicate (n * 64) 0 := by
  rw [List.flatten_replicate_replicate]
end Go.Proofs.Ytjjlakekjihnoaa
