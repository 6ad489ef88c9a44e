/-
  The greatest of several is that of one of them; the law's own rows of numbers. No condition. Nothing of the program is named here.
-/
import Derived.Test.YtfobddicokogpaaRaP
import Derived.Test.YtfobddicokogpaaUmi
set_option linter.unusedSimpArgs false
set_option linter.unusedVariables false
namespace Go.Proofs.Ytfobddicokogpaa
set_option maxRecDepth 100000
open Go.RowKit

theorem raTop_ge (c l : Int) : ∀ (vs ts : List Int) (j : Nat) (x y : Int), vs[j]? = some x → ts[j]? = some y → raWant c x y l ≤ raTop c l vs ts
  | [], _, j, x, y, h, _ => by simp at h
  | _ :: _, [], j, x, y, _, h => by simp at h
  | v :: vs, t :: ts, 0, x, y, h, h2 => by
    simp at h h2; subst h; subst h2
    simp only [raTop]; omega
  | v :: vs, t :: ts, j + 1, x, y, h, h2 => by
    simp at h h2
    have := raTop_ge c l vs ts j x y h h2
    simp only [raTop]; omega
theorem raTop_is (c l : Int) : ∀ (vs ts : List Int), vs.length = ts.length → vs ≠ [] → ∃ (j : Nat) (x y : Int), vs[j]? = some x ∧ ts[j]? = some y ∧ raWant c x y l = raTop c l vs ts
  | [], _, _, h => absurd rfl h
  | v :: vs, [], h, _ => by simp at h
  | v :: vs, t :: ts, h, _ => by
    simp only [List.length_cons, Nat.add_right_cancel_iff] at h
    by_cases h0 : raTop c l vs ts ≤ raWant c v t l
    · exact ⟨0, v, t, rfl, rfl, by simp only [raTop]; omega⟩
    · by_cases hv : vs = []
      · subst hv
        have := raWant_bound c v t l
        have e : raTop c l [] ts = 0 := by simp [raTop]
        omega
      · obtain ⟨j, x, y, h1, h2, h3⟩ := raTop_is c l vs ts h hv
        exact ⟨j + 1, x, y, by simpa using h1, by simpa using h2, by simp only [raTop]; omega⟩
theorem raAll_of (c l : Int) (hc : 0 ≤ c ∧ c ≤ 10000) (hl : 0 ≤ l ∧ l ≤ 1000) : ∀ (vs ts : List Int), (∀ x ∈ vs, 0 ≤ x ∧ x ≤ 1099511627776) → (∀ y ∈ ts, 1 ≤ y ∧ y ≤ 1099511627776) → raAll c l vs ts = true
  | [], _, _, _ => by simp [raAll]
  | _ :: _, [], _, _ => by simp [raAll]
  | v :: vs, t :: ts, h, h2 => by
    simp only [raAll]
    rw [raOk_iff.2 ⟨hc, h v (List.mem_cons_self ..), h2 t (List.mem_cons_self ..), hl⟩, raAll_of c l hc hl vs ts (fun x hx => h x (List.mem_cons_of_mem _ hx)) (fun y hy => h2 y (List.mem_cons_of_mem _ hy))]
    rfl
/-- a value, a target, of a number that came in -/
def mv (x : Int) : Int := (IntKind.u64.wrap x).tmod 5000
def mt (x : Int) : Int := 1 + (IntKind.u64.wrap x).tmod 2000
theorem mv_in (x : Int) : 0 ≤ mv x ∧ mv x ≤ 4999 := by
  obtain ⟨k, h0, h1, h2⟩ := umod_int x 5000 (by decide)
  have e : mv x = k := h2
  rw [e]; omega
theorem mt_in (x : Int) : 1 ≤ mt x ∧ mt x ≤ 2000 := by
  obtain ⟨k, h0, h1, h2⟩ := umod_int x 2000 (by decide)
  have e : mt x = 1 + k := by unfold mt; rw [show (IntKind.u64.wrap x).tmod 2000 = k from h2]
  rw [e]; omega
def mvL (l : List Int) (k : Nat) : List Int := (l.take k).map mv
def mtL (l : List Int) (k : Nat) : List Int := (l.take k).map mt
theorem mvL_len {l : List Int} {k : Nat} (h : k ≤ l.length) : (mvL l k).length = k := by unfold mvL; rw [List.length_map, List.length_take, Nat.min_eq_left h]
theorem mtL_len {l : List Int} {k : Nat} (h : k ≤ l.length) : (mtL l k).length = k := by unfold mtL; rw [List.length_map, List.length_take, Nat.min_eq_left h]
theorem mvL_next {l : List Int} {k : Nat} {x : Int} (h : l[k]? = some x) : mvL l (k + 1) = mvL l k ++ [mv x] := by unfold mvL; rw [take_snoc h, List.map_append]; rfl
theorem mtL_next {l : List Int} {k : Nat} {x : Int} (h : l[k]? = some x) : mtL l (k + 1) = mtL l k ++ [mt x] := by unfold mtL; rw [take_snoc h, List.map_append]; rfl
theorem mvL_ok (l : List Int) (k : Nat) : ∀ x ∈ mvL l k, 0 ≤ x ∧ x ≤ 1099511627776 := by
  intro x hx
  obtain ⟨y, _, rfl⟩ := List.mem_map.1 hx
  have := mv_in y; omega
theorem mtL_ok (l : List Int) (k : Nat) : ∀ x ∈ mtL l k, 1 ≤ x ∧ x ≤ 1099511627776 := by
  intro x hx
  obtain ⟨y, _, rfl⟩ := List.mem_map.1 hx
  have := mt_in y; omega
end Go.Proofs.Ytfobddicokogpaa
