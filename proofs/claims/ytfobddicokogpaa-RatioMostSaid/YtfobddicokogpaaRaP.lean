/-
  What one number wants: bands, wants, the greatest of several, as functions of integers. No condition. Nothing of the program is named here.
-/
import Derived.WalkKit
set_option linter.unusedSimpArgs false
set_option linter.unusedVariables false
namespace Go.Proofs.Ytfobddicokogpaa
set_option maxRecDepth 100000
open Go.RowKit

/-- may value, target and tolerance be? -/
def raMay (v t l : Int) : Bool := decide (0 ≤ v) && decide (v ≤ 1099511627776) && decide (1 ≤ t) && decide (t ≤ 1099511627776) && decide (0 ≤ l) && decide (l ≤ 1000)
def raNear (v t l : Int) : Bool := decide (t * (1000 - l) ≤ v * 1000) && decide (v * 1000 ≤ t * (1000 + l))
def raIn (v t l : Int) : Bool := raMay v t l && raNear v t l
def raCnt (c : Int) : Bool := decide (0 ≤ c) && decide (c ≤ 10000)
def raOk (c v t l : Int) : Bool := raCnt c && raMay v t l
def raShares (x t : Int) : Int := (x + t - 1) / t
def raWant (c v t l : Int) : Int := if raOk c v t l then (if raNear v t l then c else min 1000000 (raShares (c * v) t)) else 0

theorem raMay_iff {v t l : Int} : raMay v t l = true ↔ (0 ≤ v ∧ v ≤ 1099511627776) ∧ (1 ≤ t ∧ t ≤ 1099511627776) ∧ (0 ≤ l ∧ l ≤ 1000) := by
  unfold raMay; simp only [Bool.and_eq_true, decide_eq_true_eq]; omega
theorem raCnt_iff {c : Int} : raCnt c = true ↔ 0 ≤ c ∧ c ≤ 10000 := by
  unfold raCnt; simp only [Bool.and_eq_true, decide_eq_true_eq]
theorem raOk_iff {c v t l : Int} : raOk c v t l = true ↔ (0 ≤ c ∧ c ≤ 10000) ∧ (0 ≤ v ∧ v ≤ 1099511627776) ∧ (1 ≤ t ∧ t ≤ 1099511627776) ∧ (0 ≤ l ∧ l ≤ 1000) := by
  unfold raOk; rw [Bool.and_eq_true, raCnt_iff, raMay_iff]
theorem raNear_iff {v t l : Int} : raNear v t l = true ↔ t * (1000 - l) ≤ v * 1000 ∧ v * 1000 ≤ t * (1000 + l) := by
  unfold raNear; simp only [Bool.and_eq_true, decide_eq_true_eq]

theorem mul_le' {a b x y : Int} (ha : 0 ≤ a) (hax : a ≤ x) (hb : 0 ≤ b) (hby : b ≤ y) : 0 ≤ a * b ∧ a * b ≤ x * y :=
  ⟨Int.mul_nonneg ha hb, Int.mul_le_mul hax hby hb (Int.le_trans ha hax)⟩
/-- all products stay small -/
theorem ra_low {t l : Int} (ht : 1 ≤ t ∧ t ≤ 1099511627776) (hl : 0 ≤ l ∧ l ≤ 1000) : 0 ≤ t * (1000 - l) ∧ t * (1000 - l) ≤ 1099511627776000 := by
  have := mul_le' (a := t) (b := 1000 - l) (x := 1099511627776) (y := 1000) (by omega) ht.2 (by omega) (by omega); omega
theorem ra_high {t l : Int} (ht : 1 ≤ t ∧ t ≤ 1099511627776) (hl : 0 ≤ l ∧ l ≤ 1000) : 0 ≤ t * (1000 + l) ∧ t * (1000 + l) ≤ 2199023255552000 := by
  have := mul_le' (a := t) (b := 1000 + l) (x := 1099511627776) (y := 2000) (by omega) ht.2 (by omega) (by omega); omega
theorem ra_load {c v : Int} (hc : 0 ≤ c ∧ c ≤ 10000) (hv : 0 ≤ v ∧ v ≤ 1099511627776) : 0 ≤ c * v ∧ c * v ≤ 10995116277760000 := by
  have := mul_le' (a := c) (b := v) (x := 10000) (y := 1099511627776) hc.1 hc.2 hv.1 hv.2; omega
/-- shares: the least number whose multiple is not below the load -/
theorem raShares_spec {x t : Int} (hx : 0 ≤ x) (ht : 1 ≤ t) : 0 ≤ raShares x t ∧ x ≤ raShares x t * t ∧ (0 < raShares x t → (raShares x t - 1) * t < x) := by
  unfold raShares
  have h1 := Int.emod_add_mul_ediv (x + t - 1) t
  have h2 := Int.emod_nonneg (x + t - 1) (show t ≠ 0 by omega)
  have h3 := Int.emod_lt_of_pos (x + t - 1) (show 0 < t by omega)
  have h4 : 0 ≤ (x + t - 1) / t := Int.ediv_nonneg (by omega) (by omega)
  generalize (x + t - 1) / t = q at *
  generalize (x + t - 1) % t = r at *
  rw [Int.mul_comm t q] at h1
  refine ⟨h4, by omega, fun _ => ?_⟩
  rw [Int.sub_mul]; omega
theorem raShares_least {x t k : Int} (ht : 1 ≤ t) (hk : x ≤ k * t) : raShares x t ≤ k := by
  unfold raShares
  have : (x + t - 1) / t < k + 1 := Int.ediv_lt_of_lt_mul (by omega) (by rw [Int.add_mul]; omega)
  omega
theorem raShares_tdiv {x t : Int} (hx : 0 ≤ x) (ht : 1 ≤ t) : (x + t - 1).tdiv t = raShares x t := Int.tdiv_eq_ediv_of_nonneg (by omega)
theorem raShares_mono {x y t : Int} (ht : 1 ≤ t) (h : x ≤ y) : raShares x t ≤ raShares y t := Int.ediv_le_ediv (by omega) (by omega)
theorem raWant_bound (c v t l : Int) : 0 ≤ raWant c v t l ∧ raWant c v t l ≤ 1000000 := by
  unfold raWant
  split
  · next h =>
    obtain ⟨hc, hv, ht, hl⟩ := raOk_iff.1 h
    split
    · omega
    · have := (raShares_spec (x := c * v) (t := t) (ra_load hc hv).1 ht.1).1
      omega
  · omega
theorem raIn_near {c v t l : Int} (h : raOk c v t l = true) : raIn v t l = raNear v t l := by
  unfold raOk at h; unfold raIn
  rw [Bool.and_eq_true] at h
  rw [h.2]; rfl
theorem raWant_in {c v t l : Int} (hc : 0 ≤ c ∧ c ≤ 10000) (h : raIn v t l = true) : raWant c v t l = c := by
  unfold raIn at h
  rw [Bool.and_eq_true] at h
  unfold raWant
  rw [if_pos (by unfold raOk; rw [raCnt_iff.2 hc, h.1]; rfl), if_pos h.2]
theorem raWant_out {c v t l : Int} (h : raOk c v t l = true) (hn : raIn v t l = false) : raWant c v t l = min 1000000 (raShares (c * v) t) := by
  rw [raIn_near h] at hn
  unfold raWant
  rw [if_pos h, if_neg (by rw [hn]; decide)]
theorem raWant_not {c v t l : Int} (h : raOk c v t l = false) : raWant c v t l = 0 := by
  unfold raWant; rw [if_neg (by rw [h]; decide)]
/-- above the target at least the count, below at most that -/
theorem ra_above {c v t : Int} (hc : 0 ≤ c) (ht : 1 ≤ t) (hv : t ≤ v) : c ≤ raShares (c * v) t := by
  have h1 : c * t ≤ c * v := Int.mul_le_mul_of_nonneg_left hv hc
  have h2 : (c * t + t - 1) / t ≤ (c * v + t - 1) / t := Int.ediv_le_ediv (by omega) (by omega)
  have h3 : c ≤ (c * t + t - 1) / t := Int.le_ediv_of_mul_le (by omega) (by omega)
  unfold raShares; omega
theorem ra_below {c v t : Int} (hc : 0 ≤ c) (ht : 1 ≤ t) (hv : v ≤ t) : raShares (c * v) t ≤ c :=
  raShares_least ht (Int.mul_le_mul_of_nonneg_left hv hc)
theorem raShares_pos {x t : Int} (hx : 0 ≤ x) (ht : 1 ≤ t) : 0 < raShares x t ↔ 0 < x := by
  have h := raShares_spec hx ht
  constructor
  · intro hs
    rcases Int.lt_or_le 0 x with h0 | h0
    · exact h0
    · have hz : x = 0 := by omega
      have := raShares_least (x := x) (t := t) (k := 0) ht (by omega)
      omega
  · intro h0
    rcases Int.lt_or_le 0 (raShares x t) with h1 | h1
    · exact h1
    · have hz : raShares x t = 0 := by omega
      rw [hz] at h; omega
theorem raNear_self {t l : Int} (ht : 1 ≤ t) (hl : 0 ≤ l) : raNear t t l = true := by
  refine raNear_iff.2 ⟨?_, ?_⟩
  · exact Int.mul_le_mul_of_nonneg_left (by omega) (by omega)
  · exact Int.mul_le_mul_of_nonneg_left (by omega) (by omega)
/-- out of the band: on which side -/
theorem ra_side {v t l : Int} (h : raNear v t l = false) : v * 1000 < t * (1000 - l) ∨ t * (1000 + l) < v * 1000 := by
  unfold raNear at h
  rcases Int.lt_or_le (v * 1000) (t * (1000 - l)) with h1 | h1
  · exact .inl h1
  · rcases Int.lt_or_le (t * (1000 + l)) (v * 1000) with h2 | h2
    · exact .inr h2
    · rw [decide_eq_true h1, decide_eq_true h2] at h; cases h
theorem ra_low_le {v t l : Int} (ht : 1 ≤ t) (hl : 0 ≤ l) (h : v * 1000 < t * (1000 - l)) : v < t := by
  have : t * (1000 - l) ≤ t * 1000 := Int.mul_le_mul_of_nonneg_left (by omega) (by omega)
  omega
theorem ra_high_ge {v t l : Int} (ht : 1 ≤ t) (hl : 0 ≤ l) (h : t * (1000 + l) < v * 1000) : t < v := by
  have : t * 1000 ≤ t * (1000 + l) := Int.mul_le_mul_of_nonneg_left (by omega) (by omega)
  omega
/-- more load, or more of what is there, never wants fewer -/
theorem raWant_rises {x y p q t l : Int} (hx : 0 ≤ x) (hxy : x ≤ y) (hy : y ≤ 10000) (hp : 0 ≤ p) (hpq : p ≤ q) (hq : q ≤ 1099511627776) (ht : 1 ≤ t ∧ t ≤ 1099511627776) (hl : 0 ≤ l ∧ l ≤ 1000) :
    raWant x p t l ≤ raWant y q t l := by
  have o1 : raOk x p t l = true := raOk_iff.2 ⟨by omega, by omega, ht, hl⟩
  have o2 : raOk y q t l = true := raOk_iff.2 ⟨by omega, by omega, ht, hl⟩
  have hm : x * p ≤ y * q := Int.mul_le_mul hxy hpq hp (by omega)
  have hs := raShares_mono (t := t) ht.1 hm
  unfold raWant
  rw [if_pos o1, if_pos o2]
  cases h1 : raNear p t l with
  | true =>
    rw [if_pos rfl]
    cases h2 : raNear q t l with
    | true => rw [if_pos rfl]; exact hxy
    | false =>
      rw [if_neg (by decide)]
      rcases ra_side h2 with h3 | h3
      · have := raNear_iff.1 h1
        have : p * 1000 ≤ q * 1000 := by omega
        omega
      · have h4 := ra_high_ge ht.1 hl.1 h3
        have h5 := ra_above (c := y) (v := q) (t := t) (by omega) ht.1 (by omega)
        omega
  | false =>
    rw [if_neg (by decide)]
    cases h2 : raNear q t l with
    | true =>
      rw [if_pos rfl]
      rcases ra_side h1 with h3 | h3
      · have h4 := ra_low_le ht.1 hl.1 h3
        have h5 := ra_below (c := x) (v := p) (t := t) hx ht.1 (by omega)
        omega
      · have := raNear_iff.1 h2
        omega
    | false => rw [if_neg (by decide)]; omega

/-- the greatest of several: of which are so many first ones -/
def raTop (c l : Int) : List Int → List Int → Int
  | v :: vs, t :: ts => max (raWant c v t l) (raTop c l vs ts)
  | _, _ => 0
def raAll (c l : Int) : List Int → List Int → Bool
  | v :: vs, t :: ts => raOk c v t l && raAll c l vs ts
  | _, _ => true
def raMost (c : Int) (vs ts : List Int) (l : Int) : Int × Bool :=
  if (vs.length = 0 ∨ vs.length ≠ ts.length) ∨ raAll c l vs ts = false then (0, false) else (raTop c l vs ts, true)

theorem raTop_bound (c l : Int) : ∀ vs ts : List Int, 0 ≤ raTop c l vs ts ∧ raTop c l vs ts ≤ 1000000
  | [], _ => by simp [raTop]
  | _ :: _, [] => by simp [raTop]
  | v :: vs, t :: ts => by
    have := raTop_bound c l vs ts
    have := raWant_bound c v t l
    simp only [raTop]; omega
theorem raTop_snoc (c l : Int) : ∀ (vs ts : List Int) (v t : Int), vs.length = ts.length → raTop c l (vs ++ [v]) (ts ++ [t]) = max (raTop c l vs ts) (raWant c v t l)
  | [], [], v, t, _ => by have := raWant_bound c v t l; simp only [raTop, List.nil_append]; omega
  | [], _ :: _, _, _, h => by simp at h
  | _ :: _, [], _, _, h => by simp at h
  | a :: vs, b :: ts, v, t, h => by
    simp only [List.length_cons, Nat.add_right_cancel_iff] at h
    simp only [List.cons_append, raTop, raTop_snoc c l vs ts v t h]; omega
theorem raAll_snoc (c l : Int) : ∀ (vs ts : List Int) (v t : Int), vs.length = ts.length → raAll c l (vs ++ [v]) (ts ++ [t]) = (raAll c l vs ts && raOk c v t l)
  | [], [], v, t, _ => by simp [raAll]
  | [], _ :: _, _, _, h => by simp at h
  | _ :: _, [], _, _, h => by simp at h
  | a :: vs, b :: ts, v, t, h => by
    simp only [List.length_cons, Nat.add_right_cancel_iff] at h
    simp only [List.cons_append, raAll, raAll_snoc c l vs ts v t h, Bool.and_assoc]
theorem take_snoc {l : List Int} {k : Nat} {x : Int} (h : l[k]? = some x) : l.take (k + 1) = l.take k ++ [x] := by
  obtain ⟨hk, rfl⟩ := List.getElem?_eq_some_iff.1 h
  exact List.take_succ_eq_append_getElem hk
/-- of the first k of both -/
def topK (c l : Int) (vs ts : List Int) (k : Nat) : Int := raTop c l (vs.take k) (ts.take k)
def allK (c l : Int) (vs ts : List Int) (k : Nat) : Bool := raAll c l (vs.take k) (ts.take k)
theorem topK_zero (c l : Int) (vs ts : List Int) : topK c l vs ts 0 = 0 := by unfold topK; simp [raTop]
theorem allK_zero (c l : Int) (vs ts : List Int) : allK c l vs ts 0 = true := by unfold allK; simp [raAll]
theorem topK_bound (c l : Int) (vs ts : List Int) (k : Nat) : 0 ≤ topK c l vs ts k ∧ topK c l vs ts k ≤ 1000000 := raTop_bound ..
theorem topK_next {c l v t : Int} {vs ts : List Int} {k : Nat} (hv : vs[k]? = some v) (ht : ts[k]? = some t) : topK c l vs ts (k + 1) = max (topK c l vs ts k) (raWant c v t l) := by
  have h1 := (List.getElem?_eq_some_iff.1 hv).1; have h2 := (List.getElem?_eq_some_iff.1 ht).1
  unfold topK; rw [take_snoc hv, take_snoc ht, raTop_snoc _ _ _ _ _ _ (by rw [List.length_take, List.length_take]; omega)]
theorem allK_next {c l v t : Int} {vs ts : List Int} {k : Nat} (hv : vs[k]? = some v) (ht : ts[k]? = some t) : allK c l vs ts (k + 1) = (allK c l vs ts k && raOk c v t l) := by
  have h1 := (List.getElem?_eq_some_iff.1 hv).1; have h2 := (List.getElem?_eq_some_iff.1 ht).1
  unfold allK; rw [take_snoc hv, take_snoc ht, raAll_snoc _ _ _ _ _ _ (by rw [List.length_take, List.length_take]; omega)]
theorem allK_full {c l : Int} {vs ts : List Int} {n : Nat} (h1 : vs.length = n) (h2 : ts.length = n) : allK c l vs ts n = raAll c l vs ts := by
  unfold allK; rw [List.take_of_length_le (by omega), List.take_of_length_le (by omega)]
theorem topK_full {c l : Int} {vs ts : List Int} {n : Nat} (h1 : vs.length = n) (h2 : ts.length = n) : topK c l vs ts n = raTop c l vs ts := by
  unfold topK; rw [List.take_of_length_le (by omega), List.take_of_length_le (by omega)]
theorem raAll_cut (c l : Int) : ∀ (vs ts : List Int) (k : Nat), vs.length = ts.length → allK c l vs ts k = false → raAll c l vs ts = false
  | [], [], k, _, h => by simp [allK, raAll] at h
  | [], _ :: _, _, h, _ => by simp at h
  | _ :: _, [], _, h, _ => by simp at h
  | v :: vs, t :: ts, 0, _, h => by simp [allK, raAll] at h
  | v :: vs, t :: ts, k + 1, hl, h => by
    simp only [List.length_cons, Nat.add_right_cancel_iff] at hl
    simp only [allK, List.take_succ_cons, raAll] at h ⊢
    cases ho : raOk c v t l with
    | false => rfl
    | true => rw [ho] at h; simp only [Bool.true_and] at h ⊢; exact raAll_cut c l vs ts k hl h
theorem raMost_len {c l : Int} {vs ts : List Int} (h : vs.length = 0 ∨ vs.length ≠ ts.length) : raMost c vs ts l = (0, false) := if_pos (.inl h)
theorem raMost_bad {c l : Int} {vs ts : List Int} (h : raAll c l vs ts = false) : raMost c vs ts l = (0, false) := if_pos (.inr h)
theorem raMost_ok {c l : Int} {vs ts : List Int} (h : vs.length ≠ 0) (h2 : vs.length = ts.length) (ha : raAll c l vs ts = true) : raMost c vs ts l = (raTop c l vs ts, true) :=
  if_neg (by rintro ((h' | h') | h'); exact h h'; exact h' h2; rw [ha] at h'; cases h')
theorem raAll_cnt {c l : Int} {vs ts : List Int} (h : vs.length ≠ 0) (h2 : vs.length = ts.length) (hc : raCnt c = false) : raAll c l vs ts = false := by
  match vs, ts, h, h2 with
  | v :: vs, t :: ts, _, _ => unfold raAll raOk; rw [hc]; rfl
  | v :: vs, [], _, h2 => simp at h2
  | [], _, h, _ => simp at h
theorem raWant_cnt {c v t l : Int} (hc : raCnt c = true) (h : raMay v t l = true) : raOk c v t l = true := by unfold raOk; rw [hc, h]; rfl
end Go.Proofs.Ytfobddicokogpaa
