/-
  Whom to believe: the plain part. A collector's part is a pair: is it out; its count. No condition. Nothing of the program is named here.
-/
import Derived.Test.YtogmibmkkmbgoaaTm
import Derived.Test.YtogmibmkkmbgoaaTbP
set_option linter.unusedSimpArgs false
set_option linter.unusedVariables false
namespace Go.Proofs.Ytogmibmkkmbgoaa
set_option maxRecDepth 100000

abbrev Hd := Bool × Int
structure Sc where
  H : List Hd
  st : Int
  pr : Int
  far : Int
def Sc.put (s : Sc) (k : Nat) (h : Hd) : Sc := ⟨s.H.set k h, s.st, s.pr, s.far⟩
/-- the numbers may be -/
structure Sc.ok (s : Sc) : Prop where
  n1 : 1 ≤ s.H.length
  n16 : s.H.length ≤ 16
  st : 1 ≤ s.st ∧ s.st ≤ 100
  pr : 1 ≤ s.pr ∧ s.pr ≤ 100
  far : 0 ≤ s.far ∧ s.far ≤ 1099511627776
  cnt : ∀ h ∈ s.H, 0 ≤ h.2 ∧ h.2 < 1000
/-- the same, a count may be one more -/
structure Sc.wk (s : Sc) : Prop where
  n1 : 1 ≤ s.H.length
  n16 : s.H.length ≤ 16
  st : 1 ≤ s.st ∧ s.st ≤ 100
  pr : 1 ≤ s.pr ∧ s.pr ≤ 100
  far : 0 ≤ s.far ∧ s.far ≤ 1099511627776
  cnt : ∀ h ∈ s.H, 0 ≤ h.2 ∧ h.2 ≤ 1000
theorem Sc.ok.wk {s : Sc} (h : s.ok) : s.wk := ⟨h.n1, h.n16, h.st, h.pr, h.far, fun x hx => by have := h.cnt x hx; omega⟩
/-- is who out, or no collector -/
def outL (H : List Hd) (who : Int) : Bool := if 0 ≤ who ∧ who < (H.length : Int) then (H.getD who.toNat (true, 0)).1 else true
theorem outL_in {H : List Hd} {i : Nat} {h : Hd} (hi : H[i]? = some h) : outL H (i : Int) = h.1 := by
  obtain ⟨hk, rfl⟩ := List.getElem?_eq_some_iff.1 hi
  unfold outL
  rw [if_pos (by omega), Int.toNat_natCast, List.getD_eq_getElem?_getD, hi]; rfl
theorem outL_out {H : List Hd} {who : Int} (h : ¬ (0 ≤ who ∧ who < (H.length : Int))) : outL H who = true := by
  unfold outL; rw [if_neg h]
theorem outL_false {H : List Hd} {who : Int} (h : outL H who = false) : ∃ i : Nat, who = (i : Int) ∧ i < H.length := by
  by_cases hw : 0 ≤ who ∧ who < (H.length : Int)
  · exact ⟨who.toNat, by omega, by omega⟩
  · rw [outL_out hw] at h; cases h
/-- those that are heard -/
def heardL (H : List Hd) (r : List Sm) : List Sm := r.filter fun x => !(outL H x.who)
theorem heardL_len (H : List Hd) (r : List Sm) : (heardL H r).length ≤ r.length := List.length_filter_le _ _
theorem heardL_in {H : List Hd} {r : List Sm} {x : Sm} (h : x ∈ heardL H r) : ∃ i : Nat, x.who = (i : Int) ∧ i < H.length := by
  have := (List.mem_filter.1 h).2
  exact outL_false (by simpa using this)
theorem heardL_succ {H : List Hd} {r : List Sm} {k : Nat} {x : Sm} (h : r[k]? = some x) : heardL H (r.take (k + 1)) = if outL H x.who = true then heardL H (r.take k) else heardL H (r.take k) ++ [x] := by
  obtain ⟨hk, rfl⟩ := List.getElem?_eq_some_iff.1 h
  unfold heardL
  rw [List.take_succ_eq_append_getElem hk, List.filter_append]
  cases hb : outL H r[k].who <;> simp [hb]
/-- the middle of a row that is heard -/
noncomputable def midS (r : List Sm) (q : Int) : Int × Bool := if q ≤ (r.length : Int) ∧ 0 < (r.length : Int) then medOf (r.map Sm.val) else (0, false)
/-- what a value says -/
def weighL (far v m : Int) : Int := if far < v - m ∨ far < m - v then 2 else 1
theorem weighL_le (far v m : Int) : 1 ≤ weighL far v m ∧ weighL far v m ≤ 2 := by unfold weighL; split <;> omega
/-- one more sample -/
def mark1 (far m : Int) (mk : List Int) (x : Sm) : List Int := mk.set x.who.toNat (max (mk.getD x.who.toNat 0) (weighL far x.val m))
def markR (far m : Int) (mk : List Int) (r : List Sm) : List Int := r.foldl (mark1 far m) mk
theorem mark1_len (far m : Int) (mk : List Int) (x : Sm) : (mark1 far m mk x).length = mk.length := by unfold mark1; simp
theorem markR_len (far m : Int) (mk : List Int) (r : List Sm) : (markR far m mk r).length = mk.length := by
  unfold markR
  induction r generalizing mk with
  | nil => rfl
  | cons x r ih => rw [List.foldl_cons, ih, mark1_len]
theorem markR_succ {far m : Int} {mk : List Int} {r : List Sm} {k : Nat} {x : Sm} (h : r[k]? = some x) : markR far m mk (r.take (k + 1)) = mark1 far m (markR far m mk (r.take k)) x := by
  obtain ⟨hk, rfl⟩ := List.getElem?_eq_some_iff.1 h
  unfold markR
  rw [List.take_succ_eq_append_getElem hk, List.foldl_append]; rfl
noncomputable def markM (s : Sc) (q : Int) (mk : List Int) (row : List Sm) : List Int :=
  if (midS (heardL s.H row) q).2 = true then markR s.far (midS (heardL s.H row) q).1 mk (heardL s.H row) else mk
theorem markM_len (s : Sc) (q : Int) (mk : List Int) (row : List Sm) : (markM s q mk row).length = mk.length := by
  unfold markM; split
  · rw [markR_len]
  · rfl
noncomputable def marksF (s : Sc) (q : Int) (L : List (List Sm)) (mk : List Int) : List Int := L.foldl (markM s q) mk
theorem marksF_len (s : Sc) (q : Int) (L : List (List Sm)) (mk : List Int) : (marksF s q L mk).length = mk.length := by
  unfold marksF
  induction L generalizing mk with
  | nil => rfl
  | cons x r ih => rw [List.foldl_cons, ih, markM_len]
theorem marksF_succ {s : Sc} {q : Int} {mk : List Int} {L : List (List Sm)} {k : Nat} {x : List Sm} (h : L[k]? = some x) : marksF s q (L.take (k + 1)) mk = markM s q (marksF s q (L.take k) mk) x := by
  obtain ⟨hk, rfl⟩ := List.getElem?_eq_some_iff.1 h
  unfold marksF
  rw [List.take_succ_eq_append_getElem hk, List.foldl_append]; rfl
/-- each collector's mark -/
noncomputable def marksL (s : Sc) (q : Int) (L : List (List Sm)) : List Int := marksF s q L (List.replicate s.H.length 0)
theorem marksL_len (s : Sc) (q : Int) (L : List (List Sm)) : (marksL s q L).length = s.H.length := by
  unfold marksL; rw [marksF_len, List.length_replicate]
/-- one more is counted -/
def moreH (lim : Int) (h : Hd) : Hd × Bool := if h.2 + 1 < lim then ((h.1, h.2 + 1), false) else ((!h.1, 0), true)
/-- an epoch's end for one -/
def endH (st pr : Int) (h : Hd) (m : Int) : Hd × Bool :=
  if h.1 = true then ((moreH pr h).1, false)
  else if m = 2 then moreH st h
  else if m = 1 ∧ 0 < h.2 then ((h.1, h.2 - 1), false) else (h, false)
theorem endH_cnt {st pr : Int} {h : Hd} {m : Int} (h0 : 0 ≤ h.2 ∧ h.2 < 1000) (hs : st ≤ 1000) (hp : pr ≤ 1000) : 0 ≤ (endH st pr h m).1.2 ∧ (endH st pr h m).1.2 < 1000 := by
  unfold endH moreH
  split
  · split <;> (dsimp only; omega)
  · split
    · split <;> (dsimp only; omega)
    · split <;> (dsimp only; omega)
/-- the epoch's end for the first k, by number; who is put out -/
def runTo (st pr : Int) (mk : List Int) (H : List Hd) : Nat → List Hd × List Int
  | 0 => (H, [])
  | k + 1 =>
    let p := runTo st pr mk H k
    let r := endH st pr (p.1.getD k (true, 0)) (mk.getD k 0)
    (p.1.set k r.1, if r.2 = true then p.2 ++ [(k : Int)] else p.2)
theorem runTo_len (st pr : Int) (mk : List Int) (H : List Hd) (k : Nat) : (runTo st pr mk H k).1.length = H.length := by
  induction k with
  | zero => rfl
  | succ k ih => unfold runTo; simp [ih]
theorem runTo_gone (st pr : Int) (mk : List Int) (H : List Hd) (k : Nat) : (runTo st pr mk H k).2.length ≤ k := by
  induction k with
  | zero => exact Nat.le_refl _
  | succ k ih =>
    unfold runTo; dsimp only; split
    · rw [List.length_append, List.length_singleton]; omega
    · omega
theorem runTo_cnt {st pr : Int} {mk : List Int} {H : List Hd} (h : ∀ x ∈ H, 0 ≤ x.2 ∧ x.2 < 1000) (hs : st ≤ 1000) (hp : pr ≤ 1000) (k : Nat) : k ≤ H.length → ∀ x ∈ (runTo st pr mk H k).1, 0 ≤ x.2 ∧ x.2 < 1000 := by
  induction k with
  | zero => exact fun _ => h
  | succ k ih =>
    intro hk x hx
    have ih := ih (by omega)
    have hl := runTo_len st pr mk H k
    unfold runTo at hx
    dsimp only at hx
    rcases List.mem_or_eq_of_mem_set hx with hx | rfl
    · exact ih x hx
    · refine endH_cnt (ih _ ?_) hs hp
      rw [List.getD_eq_getElem?_getD, List.getElem?_eq_getElem (by omega)]
      exact List.getElem_mem _
/-- an epoch's end: how they stand then, who is put out -/
noncomputable def Sc.close (s : Sc) (L : List (List Sm)) (q : Int) : Sc := ⟨(runTo s.st s.pr (marksL s q L) s.H s.H.length).1, s.st, s.pr, s.far⟩
noncomputable def Sc.gone (s : Sc) (L : List (List Sm)) (q : Int) : List Int := (runTo s.st s.pr (marksL s q L) s.H s.H.length).2
theorem Sc.close_ok {s : Sc} (h : s.ok) (L : List (List Sm)) (q : Int) : (s.close L q).ok := by
  have hl : (s.close L q).H.length = s.H.length := runTo_len ..
  have h1 := h.st
  have h2 := h.pr
  exact ⟨by rw [hl]; exact h.n1, by rw [hl]; exact h.n16, h.st, h.pr, h.far, fun x hx => runTo_cnt h.cnt (by omega) (by omega) _ (Nat.le_refl _) x hx⟩
/-- how one stands: strikes, clean, out -/
def standH (h : Hd) : Int × Int × Bool := if h.1 = true then (0, h.2, true) else (h.2, 0, false)
end Go.Proofs.Ytogmibmkkmbgoaa
