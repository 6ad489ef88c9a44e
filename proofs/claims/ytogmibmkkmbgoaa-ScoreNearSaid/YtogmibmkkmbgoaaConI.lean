/-
  Contracts for slices.Grow, slices.Concat and slices.Sort at []int64: the numbers of all, in a slice of the call's own; sorted. The condition: slices that read as numbers, of a modest length together.
-/
import Derived.Test.YtogmibmkkmbgoaaIntL
import Derived.Test.YtogmibmkkmbgoaaMs
import Derived.Test.YtogmibmkkmbgoaaGen
import Derived.Test.YtogmibmkkmbgoaaSrt
import Derived.Lib.AppendZerosOnto
import Derived.Lib.AppendZeros
import Derived.Lib.OwnBridge
import Derived.Sort.Grow
import Derived.Shelf.SortM.SortNone
import Derived.Shelf.SortM.Plain
set_option linter.unusedSimpArgs false
set_option linter.unusedVariables false
namespace Go.Proofs.Ytogmibmkkmbgoaa
set_option maxRecDepth 100000
open Go.RowKit

/-- all the numbers, one list behind the other -/
def flatI (ls : List (Value × List Int)) : List Int := ls.flatMap (·.2)
theorem flatI_take (ls : List (Value × List Int)) (k : Nat) (h : k < ls.length) : flatI (ls.take (k + 1)) = flatI (ls.take k) ++ ls[k].2 := by
  unfold flatI; rw [List.take_succ_eq_append_getElem h, List.flatMap_append]; simp only [List.flatMap_cons, List.flatMap_nil, List.append_nil]
theorem flatI_le (ls : List (Value × List Int)) (k : Nat) : (flatI (ls.take k)).length ≤ (flatI ls).length := by
  have e : flatI ls = flatI (ls.take k) ++ flatI (ls.drop k) := by
    unfold flatI; rw [← List.flatMap_append, List.take_append_drop]
  rw [e, List.length_append]; omega

set_option maxHeartbeats 1600000 in
/-- room for n numbers behind nothing -/
theorem growI_nil (n : Nat) (h1 : n ≤ 1000000) (w : World) :
    Calls Try.prog 54 #[.slice none 0 0, .int .i64 (n : Int)] w fun e w' => ∃ v, e = .returned v ∧ OwnI w.heap.size w' v [] ∧ w.grownBy w' none := by
  rcases Nat.eq_zero_or_pos n with h0 | h0
  · subst h0
    have HN := hid (OwnI.nil w.heap.size w)
    go_enter Try.func54, Try.ntmps54
    go_wp2_with fail
    go_ret
    exact ⟨_, rfl, HN.out, .refl w none⟩
  obtain ⟨i, hi, hz0, hz1, hz2⟩ := info_parts info_i64
  have hr : ∀ ty, (Builtin.append_ #[22, 3] ty #[.slice none 0 0, .int .i64 (n : Int)]).run Try.prog w = .ok (.slice (some ⟨w.heap.size, 0, none⟩) n (grownCap w n 0 2)) (w.drew.alloc (.cells (#[] ++ Builtin.zeroCells (Value.int .i64 0).cells n ++ Builtin.zeroCells (Value.int .i64 0).cells (grownCap w n 0 2 - n)) 2)) := fun ty => by
    have h := Lib.run_append_grow_zeros w 22 3 ty 2 i (.int .i64 0) .i64 .i64 Try.underlying22 Try.underlying3 hi hz0 none 0 0 []
      (by rw [hz1]; exact run_firstCells_none w.drew 1 0 0 0) n h0 (by omega) (by omega) (by omega) (by rw [hz2]; omega) (by rw [hz2]; exact growslice_fits (by omega) (by omega))
    rw [Nat.zero_add] at h
    exact h
  have hG := grownCap_ge w n 0 2
  have hM := grownCap_le_maxLen w n 0 2 (by unfold maxLen; omega)
  have hc : (#[] ++ Builtin.zeroCells (Value.int .i64 0).cells n ++ Builtin.zeroCells (Value.int .i64 0).cells (grownCap w n 0 2 - n)).size = grownCap w n 0 2 := by
    simp [Builtin.zeroCells, Value.cells]; omega
  generalize #[] ++ Builtin.zeroCells (Value.int .i64 0).cells n ++ Builtin.zeroCells (Value.int .i64 0).cells (grownCap w n 0 2 - n) = cs at hr hc
  obtain ⟨G, hGe⟩ : ∃ G, G = grownCap w n 0 2 := ⟨_, rfl⟩
  rw [← hGe] at hr hG hM hc
  clear hGe
  have HM := hid hM; have HC := hid hc; clear hM hc
  have hb : (G : Int) ≤ 9223372036854775807 := by have := HM.out; unfold maxLen at this; omega
  go_enter Try.func54, Try.ntmps54
  go_wp2_with (at_builtin; refine Lib.wpList_append_run _ rfl _ _ _ _ rfl _ _ rfl rfl _ _ (hr _) ?_)
  go_ret
  exact ⟨_, rfl, ⟨rfl, .inr ⟨w.heap.size, G, cs, rfl, Nat.le_refl _, at_new w.drew _, Nat.zero_le _, HM.out, by rw [HC.out, Nat.mul_one], rfl⟩⟩, gb_alloc (gb_drew (.refl w none)) _⟩

/-- the length of the first k -/
def lenI (ls : List (Value × List Int)) (k : Nat) : Nat := (flatI (ls.take k)).length
theorem lenI_succ (ls : List (Value × List Int)) (k : Nat) (h : k < ls.length) : lenI ls (k + 1) = lenI ls k + ls[k].2.length := by
  unfold lenI; rw [flatI_take ls k h, List.length_append]
theorem lenI_le (ls : List (Value × List Int)) (k : Nat) : lenI ls k ≤ (flatI ls).length := flatI_le ls k

set_option maxHeartbeats 3200000 in
theorem concatI_any (ls : List (Value × List Int)) (v : Value) (w : World) (h : RowsI w v ls) (hp : 0 < ls.length) (h1 : (flatI ls).length ≤ 1000000) :
    Calls Try.prog 45 #[v] w fun e w' => ∃ u, e = .returned u ∧ OwnI w.heap.size w' u (flatI ls) ∧ w.grownBy w' none := by
  have hn : (ls.length : Int) ≤ 9223372036854775807 := by
    obtain ⟨_, c, _, k1, k2, _⟩ := h
    unfold maxLen at k2; omega
  obtain ⟨ab, ao, cap, rfl, hc⟩ := h.cells hp
  have HR := hid h; have HC := hid hc; have H1 := hid h1; clear h hc h1
  obtain ⟨N, hN⟩ : ∃ N, N = ls.length := ⟨_, rfl⟩
  rw [← hN] at hp hn ⊢
  have HN := hid hN; clear hN
  have hfull : lenI ls N = (flatI ls).length := by unfold lenI; rw [HN.out, List.take_length]
  have HF := hid hfull; clear hfull
  go_enter Try.func45, Try.ntmps45
  go_wp2_with fail
  go_loop [3, 5, 11] (fun s _ i => ∃ k : Nat, k ≤ N ∧ i = .int .i64 (k : Int) ∧ s = .int .i64 (lenI ls k : Int)) (fun _ _ i => N - (intOf i).toNat)
  case atStart => exact ⟨0, Nat.zero_le _, rfl, rfl⟩
  case round =>
    obtain ⟨k, hk, rfl, rfl⟩ := hrel
    by_cases hlt : k < N
    · obtain ⟨cell, hby⟩ := HC.out k (by rw [← HN.out]; exact hlt)
      have hs := lenI_succ ls k (by rw [← HN.out]; exact hlt)
      have hl := lenI_le ls (k + 1)
      have H1' := H1.out
      generalize ls[k]'(by rw [← HN.out]; exact hlt) = vk at cell hby hs
      obtain ⟨vv, bk⟩ := vk
      obtain ⟨p, c, hf⟩ := hby.form
      dsimp only at hf cell hs
      rw [hf] at cell
      have hb1 : (0 : Int) ≤ (lenI ls k : Int) := by omega
      have hb2 : (lenI ls k : Int) + (bk.length : Int) ≤ 1000000 := by omega
      have hb3 : (0 : Int) ≤ (bk.length : Int) := by omega
      have HS := hid hs; clear hs hf hl H1' hby
      go_wp2_with fail
      go_round
      case rel => exact ⟨k + 1, by omega, by go_num, by rw [HS.out]; push_cast; rfl⟩
      case measure => simp [intOf]; omega
    · obtain rfl : k = N := by omega
      rw [HF.out]
      go_wp2_with fail
      refine (growI_nil _ H1.out _).mono ?_
      rintro e w1 ⟨v0, rfl, ho, hg⟩
      have HO := hid ho; have HG := hid hg; clear ho hg
      go_wp2_with fail
      go_loopw [6, 8, 27] (fun u _ i wr => ∃ j : Nat, j ≤ k ∧ i = .int .i64 (j : Int) ∧ OwnI w.heap.size wr u (flatI (ls.take j)) ∧ w.grownBy wr none) (fun _ _ i _ => k - (intOf i).toNat)
      case atStart => exact ⟨0, Nat.zero_le _, rfl, by simpa [flatI] using HO.out, HG.out⟩
      case round =>
        obtain ⟨j, hj, rfl, hown, hgr⟩ := hrel
        have HOW := hid hown; have HGR := hid hgr; clear hown hgr
        by_cases hjl : j < k
        · have hjl' : j < ls.length := by rw [← HN.out]; exact hjl
          obtain ⟨cell, hby⟩ := HC.out j hjl'
          have hs := flatI_take ls j hjl'
          have hl := flatI_le ls (j + 1)
          rw [hs, List.length_append] at hl
          have cell' := HGR.out.cell cell (by simp)
          have hby' := hby.grown HGR.out
          generalize ls[j] = vk at cell' hby' hs hl
          clear cell hby
          obtain ⟨vv, bk⟩ := vk
          have HB := hid hby'; have HS := hid hs; have HL := hid hl; clear hby' hs hl
          dsimp only at cell'
          have hsz := gb_size HGR.out
          go_wp2_with (refine append_ints rfl _ _ rfl w.heap.size _ _ rfl HOW.out _ _ rfl HB.out (by have := H1.out; have := HL.out; dsimp only at this ⊢; omega) hsz ?_; intro u1 w2 o1 g1 a1)
          go_roundw
          case rel => exact ⟨j + 1, by omega, by go_num, by rw [HS.out]; exact o1, gb_ownI HGR.out HOW.out (Nat.le_refl _) g1⟩
          case measure => simp [intOf]; omega
        · obtain rfl : j = k := by omega
          go_wp2_with fail
          go_ret
          refine ⟨_, rfl, ?_, HGR.out⟩
          have := HOW.out
          rwa [HN.out, List.take_length] at this

/-- the library's Sort, at a slice of the call's own -/
theorem sort_own {base : Nat} {w : World} {v : Value} {l : List Int} (h : OwnI base w v l) (hl : l.length ≤ 1000000) :
    Calls Try.prog 46 #[v] w fun e w' => e = .returned (.tuple #[]) ∧ OwnI base w' v (ms l) ∧ w.grownBy w' v.ownBlock := by
  by_cases hz : l = []
  · subst hz
    obtain ⟨p, c, rfl⟩ := h.form
    refine (AnyM.slices_Sort_int_none sortLaid p c w).mono fun e w' ⟨he, hw⟩ => ?_
    subst hw
    exact ⟨he, by rw [ms_nil]; exact h, .refl _ _⟩
  · have hv : v ≠ .slice none 0 0 := by
      rintro rfl
      rcases h.2 with ⟨_, h2⟩ | ⟨g, cap, cur, e, _⟩
      · exact hz (by simpa using h2)
      · cases e
    have h' : w.ownsRow base 2 1 v l.length (l.map (Value.int .i64)) := h
    obtain ⟨g, cap, rfl, hb, hg, hn, hm, _, hH⟩ := Lib.holds_of_ownsRow h' hv
    refine (AnyM.slices_Sort_int sortLaid g 0 cap l w hH hg (by omega)).mono fun e w' ⟨he, n, os, hw⟩ => ?_
    refine ⟨he, ?_, ?_⟩
    · have ho := Lib.ownsRow_putRow (q := n) h' (ms_len l) (Nat.le_refl _)
      have ho2 : OwnI base (Go.Sort.putRow (Value.int .i64) (Sort.ahead w n) g 0 (ms l).toArray) (.slice (some ⟨g, 0, none⟩) l.length cap) (ms l) := by
        unfold OwnI
        rw [ms_len l]
        have e1 : (ms l).take l.length = ms l := List.take_of_length_le (by rw [ms_len]; exact Nat.le_refl _)
        rw [e1] at ho
        exact ho
      subst hw
      refine ho2.grown (r := none) ⟨rfl, rfl, rfl, by simp [Go.Sort.grow], fun k hk _ => Go.Sort.heap_grow_old _ _ hk⟩ (by simp)
    · subst hw
      refine ⟨rfl, rfl, rfl, by simp [Go.Sort.grow], fun k hk hne => ?_⟩
      rw [Go.Sort.heap_grow_old _ _ (by simpa using hk)]
      have : g ≠ k := fun e => hne (by rw [← e]; rfl)
      simp [Go.Sort.putRow, Go.Sort.mapBlock, Sort.ahead, Array.getElem?_modify, this]
end Go.Proofs.Ytogmibmkkmbgoaa
