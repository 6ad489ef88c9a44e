/-
  Contracts for slices.Concat and bytes.Clone at bytes: the bytes of all, in a slice of the call's own. The condition: slices that read as bytes, of a modest length together.
-/
import Derived.Test.YtjmcjkmfpcphnaaRowsAt
import Derived.Test.YtjmcjkmfpcphnaaStep
import Derived.Test.YtjmcjkmfpcphnaaGen
import Derived.Lib.AppendZerosOnto
import Derived.Lib.AppendZeros
set_option linter.unusedSimpArgs false
namespace Go.Proofs.Ytjmcjkmfpcphnaa
set_option maxRecDepth 100000
open Go.RowKit

/-- all the bytes, one behind the other -/
def flatB (ls : List (Value × List UInt8)) : List UInt8 := ls.flatMap (·.2)
theorem flatB_take (ls : List (Value × List UInt8)) (k : Nat) (h : k < ls.length) : flatB (ls.take (k + 1)) = flatB (ls.take k) ++ ls[k].2 := by
  unfold flatB; rw [List.take_succ_eq_append_getElem h, List.flatMap_append]; simp only [List.flatMap_cons, List.flatMap_nil, List.append_nil]
theorem flatB_le (ls : List (Value × List UInt8)) (k : Nat) : (flatB (ls.take k)).length ≤ (flatB ls).length := by
  have e : flatB ls = flatB (ls.take k) ++ flatB (ls.drop k) := by
    unfold flatB; rw [← List.flatMap_append, List.take_append_drop]
  rw [e, List.length_append]; omega

set_option maxHeartbeats 1600000 in
/-- room for n bytes behind nothing -/
theorem grow_nil (n : Nat) (h0 : 0 < n) (h1 : n ≤ 1000000) (w : World) :
    Calls Try.prog 38 #[.slice none 0 0, .int .i64 (n : Int)] w fun e w' => ∃ v, e = .returned v ∧ OwnB w.heap.size w' v [] ∧ w.grownBy w' none := by
  obtain ⟨i, hi, hz0, hz1, hz2⟩ := info_parts info_u8
  have hr : ∀ ty, (Builtin.append_ #[26, 3] ty #[.slice none 0 0, .int .i64 (n : Int)]).run Try.prog w = .ok (.slice (some ⟨w.heap.size, 0, none⟩) n (grownCap w n 0 5)) (w.drew.alloc (.cells (#[] ++ Builtin.zeroCells (Value.int .u8 0).cells n ++ Builtin.zeroCells (Value.int .u8 0).cells (grownCap w n 0 5 - n)) 5)) := fun ty => by
    have h := Lib.run_append_grow_zeros w 26 3 ty 5 i (.int .u8 0) .i64 .i64 Try.underlying26 Try.underlying3 hi hz0 none 0 0 []
      (by rw [hz1]; exact run_firstCells_none w.drew 1 0 0 0) n h0 (by omega) (by omega) (by omega) (by rw [hz2]; omega) (by rw [hz2]; exact growslice_fits (by omega) (by omega))
    rw [Nat.zero_add] at h
    exact h
  have hG := grownCap_ge w n 0 5
  have hM := grownCap_le_maxLen w n 0 5 (by unfold maxLen; omega)
  have hc : (#[] ++ Builtin.zeroCells (Value.int .u8 0).cells n ++ Builtin.zeroCells (Value.int .u8 0).cells (grownCap w n 0 5 - n)).size = grownCap w n 0 5 := by
    simp [Builtin.zeroCells, Value.cells]; omega
  generalize #[] ++ Builtin.zeroCells (Value.int .u8 0).cells n ++ Builtin.zeroCells (Value.int .u8 0).cells (grownCap w n 0 5 - n) = cs at hr hc
  obtain ⟨G, hGe⟩ : ∃ G, G = grownCap w n 0 5 := ⟨_, rfl⟩
  rw [← hGe] at hr hG hM hc
  clear hGe
  have HM := hid hM; have HC := hid hc; clear hM hc
  have hb : (G : Int) ≤ 9223372036854775807 := by have := HM.out; unfold maxLen at this; omega
  go_enter Try.func38, Try.ntmps38
  go_wp2_with (at_builtin; refine Lib.wpList_append_run _ rfl _ _ _ _ rfl _ _ rfl rfl _ _ (hr _) ?_)
  go_ret
  exact ⟨_, rfl, ⟨rfl, .inr ⟨w.heap.size, G, cs, rfl, Nat.le_refl _, at_new w.drew _, Nat.zero_le _, HM.out, by rw [HC.out, Nat.mul_one], rfl⟩⟩, gb_alloc (gb_drew (.refl w none)) _⟩

/-- the length of the first k -/
def lenK (ls : List (Value × List UInt8)) (k : Nat) : Nat := (flatB (ls.take k)).length
theorem lenK_succ (ls : List (Value × List UInt8)) (k : Nat) (h : k < ls.length) : lenK ls (k + 1) = lenK ls k + ls[k].2.length := by
  unfold lenK; rw [flatB_take ls k h, List.length_append]
theorem lenK_le (ls : List (Value × List UInt8)) (k : Nat) : lenK ls k ≤ (flatB ls).length := flatB_le ls k

set_option maxHeartbeats 3200000 in
theorem concat_any (ls : List (Value × List UInt8)) (v : Value) (w : World) (h : RowsAt w v ls) (h0 : 0 < (flatB ls).length) (h1 : (flatB ls).length ≤ 1000000) :
    Calls Try.prog 22 #[v] w fun e w' => ∃ u, e = .returned u ∧ OwnB w.heap.size w' u (flatB ls) ∧ w.grownBy w' none := by
  have hp : 0 < ls.length := by
    rcases Nat.eq_zero_or_pos ls.length with e | e
    · rw [List.length_eq_zero_iff.1 e] at h0; simp [flatB] at h0
    · exact e
  have hn : (ls.length : Int) ≤ 9223372036854775807 := by
    rcases h with ⟨_, e⟩ | ⟨_, c, _, k1, k2, _⟩
    · rw [e]; simp
    · unfold maxLen at k2; omega
  obtain ⟨ab, ao, cap, rfl, hc⟩ := h.cells hp
  have HR := hid h; have HC := hid hc; have H0 := hid h0; have H1 := hid h1; clear h hc h0 h1
  obtain ⟨N, hN⟩ : ∃ N, N = ls.length := ⟨_, rfl⟩
  rw [← hN] at hp hn ⊢
  have HN := hid hN; clear hN
  have hfull : lenK ls N = (flatB ls).length := by unfold lenK; rw [HN.out, List.take_length]
  have HF := hid hfull; clear hfull
  go_enter Try.func22, Try.ntmps22
  go_wp2_with fail
  go_loop [3, 5, 11] (fun s _ i => ∃ k : Nat, k ≤ N ∧ i = .int .i64 (k : Int) ∧ s = .int .i64 (lenK ls k : Int)) (fun _ _ i => N - (intOf i).toNat)
  case atStart => exact ⟨0, Nat.zero_le _, rfl, rfl⟩
  case round =>
    obtain ⟨k, hk, rfl, rfl⟩ := hrel
    by_cases hlt : k < N
    · obtain ⟨cell, hby⟩ := HC.out k (by rw [← HN.out]; exact hlt)
      have hs := lenK_succ ls k (by rw [← HN.out]; exact hlt)
      have hl := lenK_le ls (k + 1)
      have H1' := H1.out
      generalize ls[k]'(by rw [← HN.out]; exact hlt) = vk at cell hby hs
      obtain ⟨vv, bk⟩ := vk
      obtain ⟨p, c, hf⟩ := hby.form
      dsimp only at hf cell hs
      rw [hf] at cell
      have hb1 : (0 : Int) ≤ (lenK ls k : Int) := by omega
      have hb2 : (lenK ls k : Int) + (bk.length : Int) ≤ 1000000 := by omega
      have hb3 : (0 : Int) ≤ (bk.length : Int) := by omega
      have HS := hid hs; clear hs hf hl H1' hby
      go_wp2_with fail
      go_round
      case rel => exact ⟨k + 1, by omega, by go_num, by rw [HS.out]; push_cast; rfl⟩
      case measure => simp [intOf]; omega
    · obtain rfl : k = N := by omega
      have HFk := hid (show (lenK ls k : Int) = ((flatB ls).length : Int) by rw [HF.out])
      rw [HF.out]
      go_wp2_with fail
      refine (grow_nil _ H0.out H1.out _).mono ?_
      rintro e w1 ⟨v0, rfl, ho, hg⟩
      have HO := hid ho; have HG := hid hg; clear ho hg
      go_wp2_with fail
      go_loopw [6, 8, 27] (fun u _ i wr => ∃ j : Nat, j ≤ k ∧ i = .int .i64 (j : Int) ∧ OwnB w.heap.size wr u (flatB (ls.take j)) ∧ w.grownBy wr none) (fun _ _ i _ => k - (intOf i).toNat)
      case atStart => exact ⟨0, Nat.zero_le _, rfl, by simpa [flatB] using HO.out, HG.out⟩
      case round =>
        obtain ⟨j, hj, rfl, hown, hgr⟩ := hrel
        have HOW := hid hown; have HGR := hid hgr; clear hown hgr
        by_cases hjl : j < k
        · have hjl' : j < ls.length := by rw [← HN.out]; exact hjl
          obtain ⟨cell, hby⟩ := HC.out j hjl'
          have hs := flatB_take ls j hjl'
          have hl := flatB_le ls (j + 1)
          rw [hs, List.length_append] at hl
          have cell' := HGR.out.cell cell (by simp)
          have hby' := hby.grown HGR.out (by simp)
          generalize ls[j] = vk at cell' hby' hs hl
          clear cell hby
          obtain ⟨vv, bk⟩ := vk
          have HB := hid hby'; have HS := hid hs; have HL := hid hl; clear hby' hs hl
          dsimp only at cell'
          have hsz := gb_size HGR.out
          go_wp2_with (refine append_bytes rfl _ _ rfl w.heap.size _ _ rfl HOW.out _ _ rfl HB.out (by have := H1.out; have := HL.out; dsimp only at this ⊢; omega) hsz ?_; intro u1 w2 o1 g1 a1)
          go_roundw
          case rel => exact ⟨j + 1, by omega, by go_num, by rw [HS.out]; exact o1, gb_own HGR.out HOW.out (Nat.le_refl _) g1⟩
          case measure => simp [intOf]; omega
        · obtain rfl : j = k := by omega
          go_wp2_with fail
          go_ret
          refine ⟨_, rfl, ?_, HGR.out⟩
          have := HOW.out
          rwa [HN.out, List.take_length] at this
end Go.Proofs.Ytjmcjkmfpcphnaa
