/-
  slices.SortFunc by table.compare, slices.SortedFunc of maps.Keys: the places of the map's samples in their order. No condition.
-/
import Derived.Test.YtjjcnojckbeekaaTbA
import Derived.Test.YtjjcnojckbeekaaTbC
import Derived.Test.YtjjcnojckbeekaaChg
import Derived.Test.YtjjcnojckbeekaaSrf
import Derived.Shelf.SlSortCmp.NoneTotal
set_option linter.unusedSimpArgs false
set_option linter.unusedVariables false
namespace Go.Proofs.Ytjjcnojckbeekaa
set_option maxRecDepth 100000
open Go.RowKit Go.Sort Go.Shelf

/-- a slice that reads as places -/
def RdP (W : World) (v : Value) (l : List Pc) : Prop :=
  (v = .slice none 0 0 ∧ l = []) ∨ ∃ g cap, v = .slice (some ⟨g, 0, none⟩) l.length cap ∧ l.length ≤ cap ∧ cap ≤ maxLen ∧
    ∀ i, (h : i < l.length) → W.cell? ⟨g, i * 3, none⟩ = some (.int .i64 l[i].1) ∧ W.cell? ⟨g, i * 3 + 1, none⟩ = some (.int .i64 l[i].2.1) ∧ W.cell? ⟨g, i * 3 + 2, none⟩ = some (.int .i64 l[i].2.2)
theorem flatP_len (l : List Pc) : (flatP l).length = l.length * 3 := by
  induction l with
  | nil => rfl
  | cons p r ih =>
    have e : flatP (p :: r) = cellsP p ++ flatP r := rfl
    rw [e, List.length_append, ih]
    simp [cellsP]; omega
theorem flatP_at : ∀ (l : List Pc) (j : Nat), j < l.length * 3 → (flatP l)[j]? = some ((cellsP l.toArray[j / 3]!)[j % 3]!)
  | [], j, h => by simp at h
  | p :: r, j, h => by
    have e : flatP (p :: r) = cellsP p ++ flatP r := rfl
    rw [e]
    by_cases hj : j < 3
    · rw [List.getElem?_append_left (by simpa [cellsP] using hj)]
      have h0 : j / 3 = 0 := by omega
      have h1 : j % 3 = j := by omega
      rw [h0, h1]
      have : j = 0 ∨ j = 1 ∨ j = 2 := by omega
      rcases this with rfl | rfl | rfl <;> simp [cellsP]
    · rw [List.getElem?_append_right (by simp [cellsP]; omega)]
      have hl : (cellsP p).length = 3 := rfl
      rw [hl, flatP_at r (j - 3) (by simp at h; omega)]
      have h0 : j / 3 = (j - 3) / 3 + 1 := by omega
      have h1 : j % 3 = (j - 3) % 3 := by omega
      rw [h0, h1]
      simp
theorem holdsP {w : World} {base n : Nat} {v : Value} {l : List Pc} (h : w.ownsRow base 53 3 v l.length (flatP l)) (hv : v ≠ .slice none 0 0) :
    ∃ g cap, v = .slice (some ⟨g, 0, none⟩) l.length cap ∧ base ≤ g ∧ g < w.heap.size ∧ l.length ≤ cap ∧ cap ≤ maxLen ∧ HoldsK cellsP 3 w g 0 l.toArray := by
  rcases h.2 with ⟨e0, _⟩ | ⟨g, cap, cur, rfl, hb, hg, hn, hm, hs, ht⟩
  · exact absurd e0 hv
  · refine ⟨g, cap, rfl, hb, at_lt hg, hn, hm, fun j hj => ⟨?_, at_free hg _⟩⟩
    have hj' : j < l.length * 3 := by rw [size_flatK] at hj; simpa using hj
    rw [Nat.zero_add, at_cell hg j, get_flatK _ _ _ _ (by simpa using hj')]
    have e1 : (cur.toList.take (l.length * 3))[j]? = (flatP l)[j]? := by rw [ht]
    rw [List.getElem?_take, if_pos hj', Array.getElem?_toList, flatP_at l j hj'] at e1
    exact e1
theorem holdsP_rd {W : World} {g cap : Nat} {l : List Pc} (h : HoldsK cellsP 3 W g 0 l.toArray) (h1 : l.length ≤ cap) (h2 : cap ≤ maxLen) : RdP W (.slice (some ⟨g, 0, none⟩) l.length cap) l := by
  refine .inr ⟨g, cap, rfl, h1, h2, fun i hi => ?_⟩
  have hi' : i < l.toArray.size := by simpa using hi
  have c0 := (h.cell hi' (show 0 < 3 by omega)).1
  have c1 := (h.cell hi' (show 1 < 3 by omega)).1
  have c2 := (h.cell hi' (show 2 < 3 by omega)).1
  have e : l.toArray[i]! = l[i] := by simp [getElem!_pos, hi]
  rw [e] at c0 c1 c2
  simp only [Nat.zero_add, Nat.add_zero] at c0 c1 c2
  exact ⟨c0, c1, c2⟩
theorem cmpLays (blk off size : Nat) (w : World) : CmpLays Try.prog 30 #[] cellsP 3 cmpP blk off size w :=
  fun _ _ _ _ x y => cmpP_any x y _
theorem gb_sortK {w : World} {g n : Nat} {os : Array Obj} (d : Array Pc) : w.grownBy (sortWorldK cellsP 3 w g 0 n d os) (some g) := by
  refine ⟨rfl, rfl, rfl, by simp [sortWorldK, putRowK, putRow, mapBlock, Sort.ahead, grow], fun k hk hne => ?_⟩
  unfold sortWorldK putRowK
  rw [heap_grow_old _ _ (by simpa [putRow, mapBlock, Sort.ahead] using hk)]
  have : g ≠ k := fun e => hne (by rw [e])
  simp [putRow, mapBlock, Sort.ahead, Array.getElem?_modify, this]
/-- slices.SortFunc over a slice of the call's own -/
theorem sortP_any {L : List Sm} (hS : Srt L) (base : Nat) (v : Value) (ps : List Pc) (hp : ps.Perm (L.map Sm.pl)) (w : World) (hown : w.ownsRow base 53 3 v ps.length (flatP ps)) (hnil : v = .slice none 0 0 ↔ ps = []) (hlen : ps.length ≤ 100000) :
    Calls Try.prog 35 #[v, .func (.func 30) #[] #[]] w fun e w' => e = .returned (.tuple #[]) ∧ RdP w' v (L.map Sm.pl) ∧ Chg v.ownBlock.toList w w' := by
  by_cases h0 : ps = []
  · obtain rfl := hnil.2 h0
    subst h0
    have hL : L.map Sm.pl = [] := hp.nil_eq.symm
    have hc := AnyF.slices_SortFunc_none srfLaid none 0 (.func (.func 30) #[] #[]) w
    change Calls Try.prog 35 _ _ _ at hc
    refine hc.mono ?_
    rintro e w' ⟨rfl, rfl⟩
    exact ⟨rfl, .inl ⟨rfl, hL⟩, chg_refl _ _⟩
  · have hv : v ≠ .slice none 0 0 := fun e => h0 (hnil.1 e)
    obtain ⟨g, cap, rfl, hb, hg, h1, h2, hH⟩ := holdsP (n := 0) hown hv
    have eg : ∀ args w, (callFunc 30 args).run Try.prog w = .ok (.enter 30 args) w := enters_of Try.func30 (by kernel_rfl) rfl
    have hc := AnyQ.slices_SortFunc_total srfLaid 3 Try.isAgg53 Try.sizeOf53 cellsP (fun _ => rfl) (fun x v hv => by simp [cellsP] at hv; rcases hv with rfl | rfl | rfl <;> rfl) cmpP cmpP_swo 30 #[] g 0 cap ps.toArray w eg (cmpLays g 0 _ w) hH hg (by simp; omega) cmpP_apart
    change Calls Try.prog 35 _ _ _ at hc
    simp only [List.size_toArray] at hc
    refine hc.mono ?_
    rintro e w' ⟨rfl, n, os, rfl⟩
    rw [sort_places hS hp]
    have hl : (L.map Sm.pl).length = ps.length := hp.length_eq.symm
    refine ⟨rfl, ?_, (chg_row (gb_sortK _)).more (by simp [Value.ownBlock])⟩
    rw [← hl]
    refine holdsP_rd ?_ (by omega) h2
    unfold sortWorldK
    refine holdsK_grow _ _ _ _ _ _ _ (by simpa [putRowK, putRow, mapBlock, Sort.ahead] using hg) ?_
    exact holdsK_putRowK _ _ _ _ _ _ _ (holdsK_ahead _ _ _ _ _ _ _ hH) (by simp [← hl])
end Go.Proofs.Ytjjcnojckbeekaa
