/-
  Slices of slices of bytes that came in. No condition. Nothing of the program's functions is named here.
  Contracts for slices.Concat and bytes.Clone at bytes: the bytes of all, in a slice of the call's own. The condition: slices that read as bytes, of a modest length together.
  Contract for wire.Put: a message's 32 bytes, in a slice of the call's own; an error of one that may not be. No condition.
  Contracts for wire.Seal and bytes.Clone: a message's bytes and behind them their tag, in a slice of the call's own; an error of one that may not be; bytes copied. No condition.
  Contract for the reader of a message's numbers: the next number, of eight bytes. The condition: the reader's block is as the program makes it, so many bytes are there, elsewhere.
  Contract for wire.Get: the message that bytes are of, or an error. The condition: the bytes read as bytes.
  Contract for wire.Split: the message, its bytes, the tag of an envelope's bytes, or an error. The condition: the bytes read as bytes.
  A contract of the document's own answer for the sum of bytes: it is the sum of the padded bytes, eight at a time. The condition: the string has at most a hundred thousand bytes.
  Plain mathematics: the sum of the padded bytes, eight at a time, is the sum of the bytes one by one. No condition.
  Contracts for the document's own tags. The condition: strings of a modest length.
-/
import Derived.Test.YtfhifnhnkgdnlaaGreatJ0
import Derived.Test.YtfhifnhnkgdnlaaGreatY1
import Derived.Lib.AppendZerosOnto
import Derived.Lib.AppendZeros
import Derived.Test.YtfhifnhnkgdnlaaGreatY2
import Derived.Lib.SliceRun
import Derived.RegionTactic
import Derived.BigRegion
import Derived.Deep.DeepCutAuto
section
namespace Go.Proofs.YtfhifnhnkgdnlaaGreat
set_option maxRecDepth 100000
open Go.RowKit
/-- a slice that reads as these slices of bytes -/
def RowsAt (w : World) (v : Value) (ls : List (Value × List UInt8)) : Prop :=
  (v = .slice none 0 0 ∧ ls = []) ∨
  ∃ a cap, v = .slice (some a) ls.length cap ∧ ls.length ≤ cap ∧ cap ≤ maxLen ∧ ∀ i, (h : i < ls.length) → w.cell? (a.add i) = some ls[i].1 ∧ BytesAt w ls[i].1 ls[i].2
theorem RowsAt.grown {w w1 : World} {v : Value} {l : List (Value × List UInt8)} (h : RowsAt w v l) (hg : w.grownBy w1 none) : RowsAt w1 v l := by
  rcases h with h | ⟨a, cap, rfl, h1, h2, h3⟩
  · exact .inl h
  · exact .inr ⟨a, cap, rfl, h1, h2, fun i hi => ⟨hg.cell (h3 i hi).1 (by simp), (h3 i hi).2.grown hg (by simp)⟩⟩
theorem RowsAt.cells {w : World} {v : Value} {l : List (Value × List UInt8)} (h : RowsAt w v l) (hp : 0 < l.length) :
    ∃ ab ao cap, v = .slice (some ⟨ab, ao, none⟩) l.length cap ∧ ∀ i, (h : i < l.length) → w.cell? ⟨ab, ao + i, none⟩ = some l[i].1 ∧ BytesAt w l[i].1 l[i].2 := by
  rcases h with ⟨_, rfl⟩ | ⟨⟨ab, ao, asp⟩, cap, rfl, _, _, h3⟩
  · cases hp
  · have h0 := (h3 0 hp).1
    have hsp : asp = none := by simpa [Addr.add] using World.cell?_spot h0
    subst hsp
    refine ⟨ab, ao, cap, rfl, fun i hi => ?_⟩
    have := h3 i hi
    unfold Addr.add at this
    split at this
    · next h => subst h; simpa using this
    · simpa using this
theorem BytesAt.form {w : World} {v : Value} {l : List UInt8} (h : BytesAt w v l) : ∃ p c, v = .slice p l.length c := by
  rcases h with ⟨rfl, rfl⟩ | ⟨a, cap, rfl, _, _, _⟩
  · exact ⟨none, 0, rfl⟩
  · exact ⟨some a, cap, rfl⟩
end Go.Proofs.YtfhifnhnkgdnlaaGreat
end
section
set_option linter.unusedSimpArgs false
namespace Go.Proofs.YtfhifnhnkgdnlaaGreat
set_option maxRecDepth 100000
open Go.RowKit

/-- all the bytes, one behind the other -/
def flatB (ls : List (Value × List UInt8)) : List UInt8 := ls.flatMap (·.2)
theorem flatB_take (ls : List (Value × List UInt8)) (k : Nat) (h : k < ls.length) : flatB (ls.take (k + 1)) = flatB (ls.take k) ++ ls[k].2 := by
  unfold flatB; rw [List.take_succ_eq_append_getElem h, List.flatMap_append]; simp only [List.flatMap_cons, List.flatMap_nil, List.append_nil]
theorem flatB_le (ls : List (Value × List UInt8)) (k : Nat) : (flatB (ls.take k)).length ≤ (flatB ls).length := by
  have e : flatB ls = flatB (ls.take k) ++ flatB (ls.drop k) := by
    unfold flatB; rw [← List.flatMap_append, List.take_append_drop]
  rw [e, List.length_append]; omega

set_option maxHeartbeats 1600000 in
/-- room for n bytes behind nothing -/
theorem grow_nil (n : Nat) (h0 : 0 < n) (h1 : n ≤ 1000000) (w : World) :
    Calls Tryz.prog 114 #[.slice none 0 0, .int .i64 (n : Int)] w fun e w' => ∃ v, e = .returned v ∧ OwnB w.heap.size w' v [] ∧ w.grownBy w' none := by
  obtain ⟨i, hi, hz0, hz1, hz2⟩ := info_parts info_u8
  have hr : ∀ ty, (Builtin.append_ #[40, 3] ty #[.slice none 0 0, .int .i64 (n : Int)]).run Tryz.prog w = .ok (.slice (some ⟨w.heap.size, 0, none⟩) n (grownCap w n 0 5)) (w.drew.alloc (.cells (#[] ++ Builtin.zeroCells (Value.int .u8 0).cells n ++ Builtin.zeroCells (Value.int .u8 0).cells (grownCap w n 0 5 - n)) 5)) := fun ty => by
    have h := Lib.run_append_grow_zeros w 40 3 ty 5 i (.int .u8 0) .i64 .i64 Tryz.underlying40 Tryz.underlying3 hi hz0 none 0 0 []
      (by rw [hz1]; exact run_firstCells_none w.drew 1 0 0 0) n h0 (by omega) (by omega) (by omega) (by rw [hz2]; omega) (by rw [hz2]; exact growslice_fits (by omega) (by omega))
    rw [Nat.zero_add] at h
    exact h
  have hG := grownCap_ge w n 0 5
  have hM := grownCap_le_maxLen w n 0 5 (by unfold maxLen; omega)
  have hc : (#[] ++ Builtin.zeroCells (Value.int .u8 0).cells n ++ Builtin.zeroCells (Value.int .u8 0).cells (grownCap w n 0 5 - n)).size = grownCap w n 0 5 := by
    simp [Builtin.zeroCells, Value.cells]; omega
  generalize #[] ++ Builtin.zeroCells (Value.int .u8 0).cells n ++ Builtin.zeroCells (Value.int .u8 0).cells (grownCap w n 0 5 - n) = cs at hr hc
  obtain ⟨G, hGe⟩ : ∃ G, G = grownCap w n 0 5 := ⟨_, rfl⟩
  rw [← hGe] at hr hG hM hc
  clear hGe
  have HM := hid hM; have HC := hid hc; clear hM hc
  have hb : (G : Int) ≤ 9223372036854775807 := by have := HM.out; unfold maxLen at this; omega
  go_enter Tryz.func114, Tryz.ntmps114
  go_wp2_with (at_builtin; refine Lib.wpList_append_run _ rfl _ _ _ _ rfl _ _ rfl rfl _ _ (hr _) ?_)
  go_ret
  exact ⟨_, rfl, ⟨rfl, .inr ⟨w.heap.size, G, cs, rfl, Nat.le_refl _, at_new w.drew _, Nat.zero_le _, HM.out, by rw [HC.out, Nat.mul_one], rfl⟩⟩, gb_alloc (gb_drew (.refl w none)) _⟩

/-- the length of the first k -/
def lenK (ls : List (Value × List UInt8)) (k : Nat) : Nat := (flatB (ls.take k)).length
theorem lenK_succ (ls : List (Value × List UInt8)) (k : Nat) (h : k < ls.length) : lenK ls (k + 1) = lenK ls k + ls[k].2.length := by
  unfold lenK; rw [flatB_take ls k h, List.length_append]
theorem lenK_le (ls : List (Value × List UInt8)) (k : Nat) : lenK ls k ≤ (flatB ls).length := flatB_le ls k

set_option maxHeartbeats 3200000 in
theorem concat_any (ls : List (Value × List UInt8)) (v : Value) (w : World) (h : RowsAt w v ls) (h0 : 0 < (flatB ls).length) (h1 : (flatB ls).length ≤ 1000000) :
    Calls Tryz.prog 82 #[v] w fun e w' => ∃ u, e = .returned u ∧ OwnB w.heap.size w' u (flatB ls) ∧ w.grownBy w' none := by
  have hp : 0 < ls.length := by
    rcases Nat.eq_zero_or_pos ls.length with e | e
    · rw [List.length_eq_zero_iff.1 e] at h0; simp [flatB] at h0
    · exact e
  have hn : (ls.length : Int) ≤ 9223372036854775807 := by
    rcases h with ⟨_, e⟩ | ⟨_, c, _, k1, k2, _⟩
    · rw [e]; simp
    · unfold maxLen at k2; omega
  obtain ⟨ab, ao, cap, rfl, hc⟩ := h.cells hp
  have HR := hid h; have HC := hid hc; have H0 := hid h0; have H1 := hid h1; clear h hc h0 h1
  obtain ⟨N, hN⟩ : ∃ N, N = ls.length := ⟨_, rfl⟩
  rw [← hN] at hp hn ⊢
  have HN := hid hN; clear hN
  have hfull : lenK ls N = (flatB ls).length := by unfold lenK; rw [HN.out, List.take_length]
  have HF := hid hfull; clear hfull
  go_enter Tryz.func82, Tryz.ntmps82
  go_wp2_with fail
  go_loop [3, 5, 11] (fun s _ i => ∃ k : Nat, k ≤ N ∧ i = .int .i64 (k : Int) ∧ s = .int .i64 (lenK ls k : Int)) (fun _ _ i => N - (intOf i).toNat)
  case atStart => exact ⟨0, Nat.zero_le _, rfl, rfl⟩
  case round =>
    obtain ⟨k, hk, rfl, rfl⟩ := hrel
    by_cases hlt : k < N
    · obtain ⟨cell, hby⟩ := HC.out k (by rw [← HN.out]; exact hlt)
      have hs := lenK_succ ls k (by rw [← HN.out]; exact hlt)
      have hl := lenK_le ls (k + 1)
      have H1' := H1.out
      generalize ls[k]'(by rw [← HN.out]; exact hlt) = vk at cell hby hs
      obtain ⟨vv, bk⟩ := vk
      obtain ⟨p, c, hf⟩ := hby.form
      dsimp only at hf cell hs
      rw [hf] at cell
      have hb1 : (0 : Int) ≤ (lenK ls k : Int) := by omega
      have hb2 : (lenK ls k : Int) + (bk.length : Int) ≤ 1000000 := by omega
      have hb3 : (0 : Int) ≤ (bk.length : Int) := by omega
      have HS := hid hs; clear hs hf hl H1' hby
      go_wp2_with fail
      go_round
      case rel => exact ⟨k + 1, by omega, by go_num, by rw [HS.out]; push_cast; rfl⟩
      case measure => simp [intOf]; omega
    · obtain rfl : k = N := by omega
      have HFk := hid (show (lenK ls k : Int) = ((flatB ls).length : Int) by rw [HF.out])
      rw [HF.out]
      go_wp2_with fail
      refine (grow_nil _ H0.out H1.out _).mono ?_
      rintro e w1 ⟨v0, rfl, ho, hg⟩
      have HO := hid ho; have HG := hid hg; clear ho hg
      go_wp2_with fail
      go_loopw [6, 8, 27] (fun u _ i wr => ∃ j : Nat, j ≤ k ∧ i = .int .i64 (j : Int) ∧ OwnB w.heap.size wr u (flatB (ls.take j)) ∧ w.grownBy wr none) (fun _ _ i _ => k - (intOf i).toNat)
      case atStart => exact ⟨0, Nat.zero_le _, rfl, by simpa [flatB] using HO.out, HG.out⟩
      case round =>
        obtain ⟨j, hj, rfl, hown, hgr⟩ := hrel
        have HOW := hid hown; have HGR := hid hgr; clear hown hgr
        by_cases hjl : j < k
        · have hjl' : j < ls.length := by rw [← HN.out]; exact hjl
          obtain ⟨cell, hby⟩ := HC.out j hjl'
          have hs := flatB_take ls j hjl'
          have hl := flatB_le ls (j + 1)
          rw [hs, List.length_append] at hl
          have cell' := HGR.out.cell cell (by simp)
          have hby' := hby.grown HGR.out (by simp)
          generalize ls[j] = vk at cell' hby' hs hl
          clear cell hby
          obtain ⟨vv, bk⟩ := vk
          have HB := hid hby'; have HS := hid hs; have HL := hid hl; clear hby' hs hl
          dsimp only at cell'
          have hsz := gb_size HGR.out
          go_wp2_with (refine append_bytes rfl _ _ rfl w.heap.size _ _ rfl HOW.out _ _ rfl HB.out (by have := H1.out; have := HL.out; dsimp only at this ⊢; omega) hsz ?_; intro u1 w2 o1 g1 a1)
          go_roundw
          case rel => exact ⟨j + 1, by omega, by go_num, by rw [HS.out]; exact o1, gb_own HGR.out HOW.out (Nat.le_refl _) g1⟩
          case measure => simp [intOf]; omega
        · obtain rfl : j = k := by omega
          go_wp2_with fail
          go_ret
          refine ⟨_, rfl, ?_, HGR.out⟩
          have := HOW.out
          rwa [HN.out, List.take_length] at this
end Go.Proofs.YtfhifnhnkgdnlaaGreat
end
section
set_option linter.unusedSimpArgs false
set_option linter.unusedVariables false
namespace Go.Proofs.YtfhifnhnkgdnlaaGreat
set_option maxRecDepth 100000
open Go.RowKit

def rowsOf (m : Mg) (a b c d : Nat) : List (Value × List UInt8) := [(.slice (some ⟨a, 0, none⟩) 8 8, put8 (headOf m)), (.slice (some ⟨b, 0, none⟩) 8 8, put8 (w64 m.seq)), (.slice (some ⟨c, 0, none⟩) 8 8, put8 (w64 m.epoch)), (.slice (some ⟨d, 0, none⟩) 8 8, put8 (w64 m.value))]
theorem rowsOf_flat (m : Mg) (a b c d : Nat) : flatB (rowsOf m a b c d) = putOf m := by simp [flatB, rowsOf, putOf]
theorem rows_four {w : World} {g : Nat} {t : TypeId} {v0 v1 v2 v3 : Value} {l0 l1 l2 l3 : List UInt8} (h : w.heap[g]? = some (.cells #[v0, v1, v2, v3] t)) (h0 : BytesAt w v0 l0) (h1 : BytesAt w v1 l1) (h2 : BytesAt w v2 l2) (h3 : BytesAt w v3 l3) :
    RowsAt w (.slice (some ⟨g, 0, none⟩) 4 4) [(v0, l0), (v1, l1), (v2, l2), (v3, l3)] := by
  refine .inr ⟨_, 4, rfl, Nat.le_refl _, by unfold maxLen; decide, fun i hi => ?_⟩
  have e : (⟨g, 0, none⟩ : Addr).add i = ⟨g, i, none⟩ := by unfold Addr.add; split <;> simp_all
  rw [e, at_cell h i]
  rcases (by simp at hi; omega : i = 0 ∨ i = 1 ∨ i = 2 ∨ i = 3) with rfl | rfl | rfl | rfl
  · exact ⟨rfl, h0⟩
  · exact ⟨rfl, h1⟩
  · exact ⟨rfl, h2⟩
  · exact ⟨rfl, h3⟩

set_option maxHeartbeats 1600000 in
theorem wput_bad (m : Mg) (hm : mayOf m = false) (w : World) :
    Calls Tryz.prog 35 #[mg m] w fun e w' => e = .returned (.tuple #[.slice none 0 0, .int .i64 1]) ∧ w.grownBy w' none := by
  have hc := may_any m
  rw [hm] at hc
  have C := hid hc; clear hc hm
  have B := hid (boxm_new w m)
  go_enter Tryz.func35, Tryz.ntmps35
  go_wp2_with (refine wpList_row B.out.box Tryz.underlying39 rfl (by kernel_rfl) rfl rfl rfl rfl ?_)
  refine (C.out _).mono ?_
  rintro e w1 ⟨rfl, hg⟩
  have G := hid hg; clear hg
  go_wp2_with fail
  go_ret2
  exact ⟨rfl, gb_trans (gb_alloc (.refl w none) _) G.out (.inl rfl)⟩

set_option maxHeartbeats 3200000 in
theorem wput_good (m : Mg) (hm : mayOf m = true) (w : World) :
    Calls Tryz.prog 35 #[mg m] w fun e w' => ∃ v, e = .returned (.tuple #[v, .int .i64 0]) ∧ OwnB w.heap.size w' v (putOf m) ∧ w.grownBy w' none := by
  have hc := may_any m
  rw [hm] at hc
  have C := hid hc; clear hc hm
  have B0 := hid (boxm_new w m)
  go_enter Tryz.func35, Tryz.ntmps35
  go_wp2_with (refine wpList_row B0.out.box Tryz.underlying39 rfl (by kernel_rfl) rfl rfl rfl rfl ?_)
  refine (C.out _).mono ?_
  rintro e w1 ⟨rfl, hg⟩
  have B := hid (B0.out.grown hg); clear hg B0 C
  have hs : IntKind.u64.wrap m.seq = q (w64 m.seq) := q_lit m.seq
  have he : IntKind.u64.wrap m.epoch = q (w64 m.epoch) := q_lit m.epoch
  have hv : IntKind.u64.wrap m.value = q (w64 m.value) := q_lit m.value
  go_wp2_with fail
  refine wp_region_held_drew (S := (fun w' => (BoxM w m w'))) (by kernel_rfl) B.out.drew (fun hHeld => ?_)
  try dsimp only at hHeld
  refine' jT 0 rfl (by rfl) ?_ hHeld ?_
  rotate_left
  · (intro w hSw; (try dsimp only at hSw); (try simp only [jD, jE, jF]); refine exec_row (x := .tmp 1) hSw.box Tryz.underlying39 rfl (by kernel_rfl) ?_ ?_ <;> rfl)
  try simp only [Act.put, jA, jB, jC, jD, jE, jF]
  refine' jT 3 rfl (by rfl) ?_ hHeld ?_
  rotate_left
  · (intro w hSw; (try dsimp only at hSw); go_simp; try with_reducible rfl)
  try simp only [Act.put, jA, jB, jC, jD, jE, jF]
  refine' jT 4 rfl (by rfl) ?_ hHeld ?_
  rotate_left
  · (intro w hSw; (try dsimp only at hSw); have bx := hSw; obtain ⟨d0, d1, d2, d3, d4, d5, d6⟩ := msg_cells bx.box; go_simp; try with_reducible rfl)
  try simp only [Act.put, jA, jB, jC, jD, jE, jF]
  refine' jT 5 rfl (by rfl) ?_ hHeld ?_
  rotate_left
  · (intro w hSw; (try dsimp only at hSw); go_simp; try with_reducible rfl)
  try simp only [Act.put, jA, jB, jC, jD, jE, jF]
  refine' jT 7 rfl (by rfl) ?_ hHeld ?_
  rotate_left
  · (intro w hSw; (try dsimp only at hSw); go_simp; try with_reducible rfl)
  try simp only [Act.put, jA, jB, jC, jD, jE, jF]
  refine' jT 8 rfl (by rfl) ?_ hHeld ?_
  rotate_left
  · (intro w hSw; (try dsimp only at hSw); have bx := hSw; obtain ⟨d0, d1, d2, d3, d4, d5, d6⟩ := msg_cells bx.box; go_simp; try with_reducible rfl)
  try simp only [Act.put, jA, jB, jC, jD, jE, jF]
  refine' jT 9 rfl (by rfl) ?_ hHeld ?_
  rotate_left
  · (intro w hSw; (try dsimp only at hSw); go_simp; try with_reducible rfl)
  try simp only [Act.put, jA, jB, jC, jD, jE, jF]
  refine' jT 11 rfl (by rfl) ?_ hHeld ?_
  rotate_left
  · (intro w hSw; (try dsimp only at hSw); go_simp; try with_reducible rfl)
  try simp only [Act.put, jA, jB, jC, jD, jE, jF]
  refine' jT 12 rfl (by rfl) ?_ hHeld ?_
  rotate_left
  · (intro w hSw; (try dsimp only at hSw); have bx := hSw; obtain ⟨d0, d1, d2, d3, d4, d5, d6⟩ := msg_cells bx.box; go_simp; try with_reducible rfl)
  try simp only [Act.put, jA, jB, jC, jD, jE, jF]
  refine' jT 13 rfl (by rfl) ?_ hHeld ?_
  rotate_left
  · (intro w hSw; (try dsimp only at hSw); go_simp; try with_reducible rfl)
  try simp only [Act.put, jA, jB, jC, jD, jE, jF]
  refine jR [1] ?_
  refine jG rfl (fun K hK => ?_) AllReadyH.nil
  try simp only [jD, jE, jF]
  go_simp
  have hH2 := hHeld
  have bx := hH2
  refine (head_any m _).mono ?_
  rintro e w1001 ⟨rfl, hg⟩
  have L1 := hid (show (BoxM w m w1001) from bx.grown hg)
  clear hHeld hg bx
  go_wp2_with fail
  refine hK.out _ _ ?_ (fun hHeld => ?_)
  · exact L1.out
  clear hK K
  try dsimp only at hHeld
  try simp only [Act.put, jA, jB, jC, jD, jE, jF]
  refine jR [2] ?_
  refine jG rfl (fun K hK => ?_) AllReadyH.nil
  try simp only [jD, jE, jF]
  go_simp
  have hH2 := hHeld
  have bx := hH2
  refine (put_any (headOf m) _).mono ?_
  rintro e w1002 ⟨rfl, ha, hg⟩
  have L2 := hid (show (BoxM w m w1002) from bx.grown hg)
  have Np0 := hid (own_put (headOf m) ha (Nat.le_refl _)).bytes
  clear hHeld hg bx
  go_wp2_with fail
  refine hK.out _ _ ?_ (fun hHeld => ?_)
  · exact L2.out
  clear hK K
  try dsimp only at hHeld
  try simp only [Act.put, jA, jB, jC, jD, jE, jF]
  refine held_stronger (S' := fun w' => (fun w' => BytesAt w' (.slice (some ⟨w1001.heap.size, 0, none⟩) 8 8) (put8 (headOf m))) w' ∧ ((fun w' => (BoxM w m w'))) w') (fun _ h => h.2) _ _ _ _ ?_
  replace hHeld := And.intro Np0.out hHeld
  try dsimp only at hHeld
  refine jR [6] ?_
  refine jG rfl (fun K hK => ?_) AllReadyH.nil
  try simp only [jD, jE, jF]
  go_simp
  have hH2 := hHeld
  obtain ⟨p0, bx⟩ := hH2
  refine (put_any (w64 m.seq) _).mono ?_
  rintro e w1006 ⟨rfl, ha, hg⟩
  have L6 := hid (show (BytesAt w1006 (.slice (some ⟨w1001.heap.size, 0, none⟩) 8 8) (put8 (headOf m))) ∧ (BoxM w m w1006) from ⟨p0.grown hg (by simp), bx.grown hg⟩)
  have Np1 := hid (own_put (w64 m.seq) ha (Nat.le_refl _)).bytes
  clear hHeld hg p0 bx
  go_wp2_with fail
  refine hK.out _ _ ?_ (fun hHeld => ?_)
  · exact L6.out
  clear hK K
  try dsimp only at hHeld
  try simp only [Act.put, jA, jB, jC, jD, jE, jF]
  refine held_stronger (S' := fun w' => (fun w' => BytesAt w' (.slice (some ⟨w1002.heap.size, 0, none⟩) 8 8) (put8 (w64 m.seq))) w' ∧ ((fun w' => (BytesAt w' (.slice (some ⟨w1001.heap.size, 0, none⟩) 8 8) (put8 (headOf m))) ∧ (BoxM w m w'))) w') (fun _ h => h.2) _ _ _ _ ?_
  replace hHeld := And.intro Np1.out hHeld
  try dsimp only at hHeld
  refine jR [10] ?_
  refine jG rfl (fun K hK => ?_) AllReadyH.nil
  try simp only [jD, jE, jF]
  go_simp
  have hH2 := hHeld
  obtain ⟨p1, p0, bx⟩ := hH2
  refine (put_any (w64 m.epoch) _).mono ?_
  rintro e w1010 ⟨rfl, ha, hg⟩
  have L10 := hid (show (BytesAt w1010 (.slice (some ⟨w1002.heap.size, 0, none⟩) 8 8) (put8 (w64 m.seq))) ∧ (BytesAt w1010 (.slice (some ⟨w1001.heap.size, 0, none⟩) 8 8) (put8 (headOf m))) ∧ (BoxM w m w1010) from ⟨p1.grown hg (by simp), p0.grown hg (by simp), bx.grown hg⟩)
  have Np2 := hid (own_put (w64 m.epoch) ha (Nat.le_refl _)).bytes
  clear hHeld hg p1 p0 bx
  go_wp2_with fail
  refine hK.out _ _ ?_ (fun hHeld => ?_)
  · exact L10.out
  clear hK K
  try dsimp only at hHeld
  try simp only [Act.put, jA, jB, jC, jD, jE, jF]
  refine held_stronger (S' := fun w' => (fun w' => BytesAt w' (.slice (some ⟨w1006.heap.size, 0, none⟩) 8 8) (put8 (w64 m.epoch))) w' ∧ ((fun w' => (BytesAt w' (.slice (some ⟨w1002.heap.size, 0, none⟩) 8 8) (put8 (w64 m.seq))) ∧ (BytesAt w' (.slice (some ⟨w1001.heap.size, 0, none⟩) 8 8) (put8 (headOf m))) ∧ (BoxM w m w'))) w') (fun _ h => h.2) _ _ _ _ ?_
  replace hHeld := And.intro Np2.out hHeld
  try dsimp only at hHeld
  refine jR [14] ?_
  refine jG rfl (fun K hK => ?_) AllReadyH.nil
  try simp only [jD, jE, jF]
  go_simp
  have hH2 := hHeld
  obtain ⟨p2, p1, p0, bx⟩ := hH2
  refine (put_any (w64 m.value) _).mono ?_
  rintro e w1014 ⟨rfl, ha, hg⟩
  have L14 := hid (show (BytesAt w1014 (.slice (some ⟨w1006.heap.size, 0, none⟩) 8 8) (put8 (w64 m.epoch))) ∧ (BytesAt w1014 (.slice (some ⟨w1002.heap.size, 0, none⟩) 8 8) (put8 (w64 m.seq))) ∧ (BytesAt w1014 (.slice (some ⟨w1001.heap.size, 0, none⟩) 8 8) (put8 (headOf m))) ∧ (BoxM w m w1014) from ⟨p2.grown hg (by simp), p1.grown hg (by simp), p0.grown hg (by simp), bx.grown hg⟩)
  have Np3 := hid (own_put (w64 m.value) ha (Nat.le_refl _)).bytes
  clear hHeld hg p2 p1 p0 bx
  go_wp2_with fail
  refine hK.out _ _ ?_ (fun hHeld => ?_)
  · exact L14.out
  clear hK K
  try dsimp only at hHeld
  try simp only [Act.put, jA, jB, jC, jD, jE, jF]
  refine held_stronger (S' := fun w' => (fun w' => BytesAt w' (.slice (some ⟨w1010.heap.size, 0, none⟩) 8 8) (put8 (w64 m.value))) w' ∧ ((fun w' => (BytesAt w' (.slice (some ⟨w1006.heap.size, 0, none⟩) 8 8) (put8 (w64 m.epoch))) ∧ (BytesAt w' (.slice (some ⟨w1002.heap.size, 0, none⟩) 8 8) (put8 (w64 m.seq))) ∧ (BytesAt w' (.slice (some ⟨w1001.heap.size, 0, none⟩) 8 8) (put8 (headOf m))) ∧ (BoxM w m w'))) w') (fun _ h => h.2) _ _ _ _ ?_
  replace hHeld := And.intro Np3.out hHeld
  try dsimp only at hHeld
  refine jR [15] ?_
  refine jG rfl (fun K hK => ?_) AllReadyH.nil
  have hH2 := hHeld
  obtain ⟨p3, p2, p1, p0, bx⟩ := hH2
  have hg : w1014.grownBy (w1014.alloc (.cells #[.slice (some ⟨w1001.heap.size, 0, none⟩) 8 8, .slice (some ⟨w1002.heap.size, 0, none⟩) 8 8, .slice (some ⟨w1006.heap.size, 0, none⟩) 8 8, .slice (some ⟨w1010.heap.size, 0, none⟩) 8 8] 40)) none := World.grownBy_alloc _ _ _
  have L15 := hid (show (BytesAt ((w1014.alloc (.cells #[.slice (some ⟨w1001.heap.size, 0, none⟩) 8 8, .slice (some ⟨w1002.heap.size, 0, none⟩) 8 8, .slice (some ⟨w1006.heap.size, 0, none⟩) 8 8, .slice (some ⟨w1010.heap.size, 0, none⟩) 8 8] 40))) (.slice (some ⟨w1010.heap.size, 0, none⟩) 8 8) (put8 (w64 m.value))) ∧ (BytesAt ((w1014.alloc (.cells #[.slice (some ⟨w1001.heap.size, 0, none⟩) 8 8, .slice (some ⟨w1002.heap.size, 0, none⟩) 8 8, .slice (some ⟨w1006.heap.size, 0, none⟩) 8 8, .slice (some ⟨w1010.heap.size, 0, none⟩) 8 8] 40))) (.slice (some ⟨w1006.heap.size, 0, none⟩) 8 8) (put8 (w64 m.epoch))) ∧ (BytesAt ((w1014.alloc (.cells #[.slice (some ⟨w1001.heap.size, 0, none⟩) 8 8, .slice (some ⟨w1002.heap.size, 0, none⟩) 8 8, .slice (some ⟨w1006.heap.size, 0, none⟩) 8 8, .slice (some ⟨w1010.heap.size, 0, none⟩) 8 8] 40))) (.slice (some ⟨w1002.heap.size, 0, none⟩) 8 8) (put8 (w64 m.seq))) ∧ (BytesAt ((w1014.alloc (.cells #[.slice (some ⟨w1001.heap.size, 0, none⟩) 8 8, .slice (some ⟨w1002.heap.size, 0, none⟩) 8 8, .slice (some ⟨w1006.heap.size, 0, none⟩) 8 8, .slice (some ⟨w1010.heap.size, 0, none⟩) 8 8] 40))) (.slice (some ⟨w1001.heap.size, 0, none⟩) 8 8) (put8 (headOf m))) ∧ (BoxM w m ((w1014.alloc (.cells #[.slice (some ⟨w1001.heap.size, 0, none⟩) 8 8, .slice (some ⟨w1002.heap.size, 0, none⟩) 8 8, .slice (some ⟨w1006.heap.size, 0, none⟩) 8 8, .slice (some ⟨w1010.heap.size, 0, none⟩) 8 8] 40)))) from ⟨p3.grown hg (by simp), p2.grown hg (by simp), p1.grown hg (by simp), p0.grown hg (by simp), bx.grown hg⟩)
  have Nrw := hid (rows_four (at_new w1014 _) (p0.grown hg (by simp)) (p1.grown hg (by simp)) (p2.grown hg (by simp)) (p3.grown hg (by simp)))
  clear hHeld hg p3 p2 p1 p0 bx
  try simp only [jD, jE, jF]
  go_simp
  refine hK.out _ _ ?_ (fun hHeld => ?_)
  · exact L15.out
  clear hK K
  try dsimp only at hHeld
  try simp only [Act.put, jA, jB, jC, jD, jE, jF]
  refine held_stronger (S' := fun w' => (fun w' => RowsAt w' (.slice (some ⟨w1014.heap.size, 0, none⟩) 4 4) (rowsOf m w1001.heap.size w1002.heap.size w1006.heap.size w1010.heap.size)) w' ∧ ((fun w' => (BytesAt w' (.slice (some ⟨w1010.heap.size, 0, none⟩) 8 8) (put8 (w64 m.value))) ∧ (BytesAt w' (.slice (some ⟨w1006.heap.size, 0, none⟩) 8 8) (put8 (w64 m.epoch))) ∧ (BytesAt w' (.slice (some ⟨w1002.heap.size, 0, none⟩) 8 8) (put8 (w64 m.seq))) ∧ (BytesAt w' (.slice (some ⟨w1001.heap.size, 0, none⟩) 8 8) (put8 (headOf m))) ∧ (BoxM w m w'))) w') (fun _ h => h.2) _ _ _ _ ?_
  replace hHeld := And.intro Nrw.out hHeld
  try dsimp only at hHeld
  refine jR [16] ?_
  refine jG rfl (fun K hK => ?_) AllReadyH.nil
  try simp only [jD, jE, jF]
  go_simp
  have hH2 := hHeld
  obtain ⟨rw, p3, p2, p1, p0, bx⟩ := hH2
  refine (concat_any (rowsOf m w1001.heap.size w1002.heap.size w1006.heap.size w1010.heap.size) _ _ rw (by rw [rowsOf_flat, putOf_length]; decide) (by rw [rowsOf_flat, putOf_length]; decide)).mono ?_
  rintro e w1016 ⟨u, rfl, ho, hg⟩
  have L16 := hid (show (RowsAt w1016 (.slice (some ⟨w1014.heap.size, 0, none⟩) 4 4) (rowsOf m w1001.heap.size w1002.heap.size w1006.heap.size w1010.heap.size)) ∧ (BytesAt w1016 (.slice (some ⟨w1010.heap.size, 0, none⟩) 8 8) (put8 (w64 m.value))) ∧ (BytesAt w1016 (.slice (some ⟨w1006.heap.size, 0, none⟩) 8 8) (put8 (w64 m.epoch))) ∧ (BytesAt w1016 (.slice (some ⟨w1002.heap.size, 0, none⟩) 8 8) (put8 (w64 m.seq))) ∧ (BytesAt w1016 (.slice (some ⟨w1001.heap.size, 0, none⟩) 8 8) (put8 (headOf m))) ∧ (BoxM w m w1016) from ⟨rw.grown hg, p3.grown hg (by simp), p2.grown hg (by simp), p1.grown hg (by simp), p0.grown hg (by simp), bx.grown hg⟩)
  have Nou := hid ((rowsOf_flat m _ _ _ _ ▸ ho : OwnB _ _ u (putOf m)).le (by have := gb_size (World.grownBy_alloc w1014 (.cells #[.slice (some ⟨w1001.heap.size, 0, none⟩) 8 8, .slice (some ⟨w1002.heap.size, 0, none⟩) 8 8, .slice (some ⟨w1006.heap.size, 0, none⟩) 8 8, .slice (some ⟨w1010.heap.size, 0, none⟩) 8 8] 40) none); exact this))
  clear hHeld hg rw p3 p2 p1 p0 bx
  go_wp2_with fail
  refine hK.out _ _ ?_ (fun hHeld => ?_)
  · exact L16.out
  clear hK K
  try dsimp only at hHeld
  try simp only [Act.put, jA, jB, jC, jD, jE, jF]
  refine held_stronger (S' := fun w' => (fun w' => OwnB w1014.heap.size w' u (putOf m)) w' ∧ ((fun w' => (RowsAt w' (.slice (some ⟨w1014.heap.size, 0, none⟩) 4 4) (rowsOf m w1001.heap.size w1002.heap.size w1006.heap.size w1010.heap.size)) ∧ (BytesAt w' (.slice (some ⟨w1010.heap.size, 0, none⟩) 8 8) (put8 (w64 m.value))) ∧ (BytesAt w' (.slice (some ⟨w1006.heap.size, 0, none⟩) 8 8) (put8 (w64 m.epoch))) ∧ (BytesAt w' (.slice (some ⟨w1002.heap.size, 0, none⟩) 8 8) (put8 (w64 m.seq))) ∧ (BytesAt w' (.slice (some ⟨w1001.heap.size, 0, none⟩) 8 8) (put8 (headOf m))) ∧ (BoxM w m w'))) w') (fun _ h => h.2) _ _ _ _ ?_
  replace hHeld := And.intro Nou.out hHeld
  try dsimp only at hHeld
  refine' jT 17 rfl (by rfl) ?_ hHeld ?_
  rotate_left
  · (intro w hSw; (try dsimp only at hSw); go_simp; try with_reducible rfl)
  try simp only [Act.put, jA, jB, jC, jD, jE, jF]
  refine' jT 18 rfl (by rfl) ?_ hHeld ?_
  rotate_left
  · (intro w hSw; (try dsimp only at hSw); go_simp; try with_reducible rfl)
  try simp only [Act.put, jA, jB, jC, jD, jE, jF]
  refine wpAnyH_done (by kernel_rfl) ?_ _
  obtain ⟨ou, rw, p3, p2, p1, p0, bx⟩ := hHeld
  have BX := hid bx; have OU := hid ou; have SZ := hid (gb_size L14.out.2.2.2.g); clear ou rw p3 p2 p1 p0 bx
  go_wp2_with fail
  go_ret2
  exact ⟨_, rfl, OU.out.le SZ.out, BX.out.g⟩
end Go.Proofs.YtfhifnhnkgdnlaaGreat
end
section
set_option linter.unusedSimpArgs false
set_option linter.unusedVariables false
namespace Go.Proofs.YtfhifnhnkgdnlaaGreat
set_option maxRecDepth 100000
open Go.RowKit

/-- a tag's bytes -/
def tagB (k0 k1 : BitVec 64) (l : List UInt8) : List UInt8 := put8 (sumOf k0 k1 l) ++ put8 (sumOf k1 (inv k0) l)
def sealOf (k0 k1 : BitVec 64) (m : Mg) : List UInt8 := putOf m ++ tagB k0 k1 (putOf m)
theorem sealOf_length (k0 k1 : BitVec 64) (m : Mg) : (sealOf k0 k1 m).length = 48 := rfl

/-- the function's own blocks: the key and the message that came in; all else as it was, or new -/
structure KM (w : World) (k0 k1 : BitVec 64) (m : Mg) (w' : World) : Prop where
  key : w'.heap[w.heap.size]? = some (.cells #[.int .u64 (q k0), .int .u64 (q k1)] 49)
  msg : w'.heap[w.heap.size + 1]? = some (.cells m.cells 39)
  g : w.grownBy w' none
theorem KM.grown {w : World} {k0 k1 : BitVec 64} {m : Mg} {w1 w2 : World} (h : KM w k0 k1 m w1) (hg : w1.grownBy w2 none) : KM w k0 k1 m w2 := ⟨at_grown h.key hg (by simp), at_grown h.msg hg (by simp), gb_trans h.g hg (.inl rfl)⟩
theorem km_new (w : World) (k0 k1 : BitVec 64) (m : Mg) : KM w k0 k1 m ((w.alloc (.cells #[.int .u64 (q k0), .int .u64 (q k1)] 49)).alloc (.cells m.cells 39)) :=
  ⟨at_alloc (at_new w _) _, by rw [← size_alloc w (.cells #[.int .u64 (q k0), .int .u64 (q k1)] 49)]; exact at_new _ _, gb_alloc (gb_alloc (.refl w none) _) _⟩

set_option maxHeartbeats 1600000 in
theorem seal_bad (k0 k1 : BitVec 64) (m : Mg) (hm : mayOf m = false) (w : World) :
    Calls Tryz.prog 33 #[pair k0 k1, mg m] w fun e w' => e = .returned (.tuple #[.slice none 0 0, .int .i64 1]) ∧ w.grownBy w' none := by
  have C := hid (fun w => wput_bad m hm w)
  have K := hid (km_new w k0 k1 m)
  clear hm
  go_enter Tryz.func33, Tryz.ntmps33
  go_wp2_with (refine wpList_row K.out.msg Tryz.underlying39 rfl (by kernel_rfl) rfl rfl rfl rfl ?_)
  refine (C.out _).mono ?_
  rintro e w1 ⟨rfl, hg⟩
  have G := hid (gb_trans K.out.g hg (.inl rfl)); clear hg
  go_wp2_with fail
  go_ret2
  exact ⟨rfl, G.out⟩

set_option maxHeartbeats 3200000 in
theorem seal_good (k0 k1 : BitVec 64) (m : Mg) (hm : mayOf m = true) (w : World) :
    Calls Tryz.prog 33 #[pair k0 k1, mg m] w fun e w' => ∃ v, e = .returned (.tuple #[v, .int .i64 0]) ∧ OwnB w.heap.size w' v (sealOf k0 k1 m) ∧ w.grownBy w' none := by
  have C := hid (fun w => wput_good m hm w)
  have K := hid (km_new w k0 k1 m)
  clear hm
  obtain ⟨l, hl⟩ : ∃ l, putOf m = l := ⟨_, rfl⟩
  have hll : l.length = 32 := by rw [← hl]; rfl
  unfold sealOf tagB
  rw [hl] at C ⊢
  have LL := hid hll; clear hl hll
  obtain ⟨a, ha⟩ : ∃ a, sumOf k0 k1 l = a := ⟨_, rfl⟩
  obtain ⟨b, hb⟩ : ∃ b, sumOf k1 (inv k0) l = b := ⟨_, rfl⟩
  have T := hid (fun v w h => tag_any k0 k1 v l w h)
  rw [ha, hb] at T ⊢
  clear ha hb
  go_enter Tryz.func33, Tryz.ntmps33
  go_wp2_with (refine wpList_row K.out.msg Tryz.underlying39 rfl (by kernel_rfl) rfl rfl rfl rfl ?_)
  refine (C.out _).mono ?_
  rintro e w1 ⟨v, rfl, ho, hg⟩
  have ho' := ho.le (gb_size K.out.g)
  have K1 := hid (K.out.grown hg); have O1 := hid ho'; clear ho ho' hg K
  obtain ⟨c0, c1⟩ := pair_cells K1.out.key
  go_wp2_with fail
  clear c0 c1
  refine (T.out _ _ O1.out.bytes).mono ?_
  rintro e w2 ⟨rfl, hg⟩
  have K2 := hid (K1.out.grown hg); have O2 := hid (O1.out.grown hg (by simp)); clear hg K1 O1
  go_wp2_with fail
  refine (bytes_any a b _).mono ?_
  rintro e w3 ⟨u, rfl, hu, hg⟩
  have K3 := hid (K2.out.grown hg); have O3 := hid (O2.out.grown hg (by simp)); have U3 := hid hu.bytes; clear hg K2 O2 hu
  have hs : w.heap.size ≤ w3.heap.size := gb_size K3.out.g
  go_wp2_with (refine append_bytes rfl _ _ rfl w.heap.size _ _ rfl O3.out _ _ rfl U3.out (by rw [LL.out]; simp [put8_length]) hs ?_; intro u1 w4 o4 g4 a4)
  go_ret2
  exact ⟨_, rfl, o4, gb_own K3.out.g O3.out (Nat.le_refl _) g4⟩

set_option maxHeartbeats 1600000 in
/-- bytes in a slice that is not nil, copied -/
theorem clone_some (a : Addr) (n c : Nat) (l : List UInt8) (hn : l.length = n) (h1 : n ≤ 100000) (w : World) (hl : BytesAt w (.slice (some a) n c) l) :
    Calls Tryz.prog 94 #[.slice (some a) n c] w fun e w' => ∃ v, e = .returned v ∧ OwnB w.heap.size w' v l ∧ w.grownBy w' none := by
  have HL := hid hl; have HN := hid hn; clear hl hn
  have hnil := Lib.run_eql_slice_nil w 40 5 (some a) n c 0 0 Tryz.underlying40
  have he := OwnB.empty w
  have HE := hid he; clear he
  have BA := hid (HL.out.alloc (.cells #[] 5))
  go_enter Tryz.func94, Tryz.ntmps94
  go_wp2_with (refine append_bytes rfl _ _ rfl w.heap.size _ [] rfl HE.out _ l rfl BA.out (by rw [HN.out]; simp; omega) (gb_size (gb_alloc (.refl w none) _)) ?_; intro u1 w4 o4 g4 a4)
  go_ret
  exact ⟨_, rfl, by simpa using o4, gb_own (gb_alloc (.refl w none) _) HE.out (Nat.le_refl _) g4⟩
end Go.Proofs.YtfhifnhnkgdnlaaGreat
end
section
set_option linter.unusedSimpArgs false
set_option linter.unusedVariables false
namespace Go.Proofs.YtfhifnhnkgdnlaaGreat
set_option maxRecDepth 100000
open Go.RowKit

theorem nadd_i64 (a : Addr) (x x1 : Int) (he : x + 1 = x1) (w : World) (hc : w.cell? a = some (.int .i64 x)) (hz : w.frozen? a = false) (h0 : 0 ≤ x) (h1 : x < 100) :
    Calls Tryz.prog 77 #[.pointer (some a), .int .i64 1] w fun e w' => e = .returned (.int .i64 x1) ∧ w' = w.setCell a (.int .i64 x1) := by
  subst he
  have hadd := run_call_add (P := Tryz.prog) Tryz.func111 (by kernel_rfl) (by kernel_rfl) (by kernel_rfl) .i64 (by kernel_rfl) (y := 1) (s := x + 1) hc hz (by simp [go_sem, IntKind.wrap_i64]; omega)
  go_enter Tryz.func77, Tryz.ntmps77
  go_wp2
  go_ret
  exact ⟨rfl, rfl⟩
theorem get_at (l : List UInt8) (v : Value) (m : Nat) (w : World) (hl : BytesAt w v l) (hm : m + 8 ≤ l.length) :
    Calls Tryz.prog 125 #[v, .int .i64 (m : Int)] w fun e w' => e = .returned (.tuple #[.int .u64 (q (wordAt l m 8)), .int .i64 0]) ∧ w = w' := get_in l v m w hl hm

@[reducible] def rdObj (v : Value) (k : Int) : Obj := .cells #[v, .int .i64 k] 203
set_option maxHeartbeats 1600000 in
theorem next_0 (b : Nat) (v : Value) (l : List UInt8) (hk : 8 ≤ l.length) (w : World) (hb : w.heap[b]? = some (rdObj v 0)) (hl : BytesAt w v l) (hne : ∀ a n c, v = .slice (some a) n c → a.block ≠ b) :
    Calls Tryz.prog 124 #[.pointer (some ⟨b, 0, none⟩)] w fun e w' => e = .returned (.int .u64 (q (wordAt l 0 8))) ∧ w'.heap[b]? = some (rdObj v 1) ∧ w.grownBy w' (some b) ∧ BytesAt w' v l := by
  have HK := hid hk; clear hk
  have hg := gb_row (gb_drew (.refl w (some b))) (p := ⟨b, 1, none⟩) rfl (.int .i64 1)
  have hl1 := hl.grown hg (fun k e => by cases e; exact .inr (.inr hne))
  have hb1 := at_set (at_drew hb) 1 (.int .i64 1)
  have B1 := hid hl1; have HB1 := hid hb1; have G1 := hid hg; clear hl1 hg hl hne
  have C0 := hid (show w.drew.cell? ⟨b, 0, none⟩ = some v from at_cell hb 0)
  have C1 := hid (show w.drew.cell? ⟨b, 1, none⟩ = some (.int .i64 0) from at_cell hb 1)
  have F1 := hid (show w.drew.frozen? ⟨b, 1, none⟩ = false from at_free hb 1)
  have CS := hid (show (w.drew.setCell ⟨b, 1, none⟩ (.int .i64 1)).cell? ⟨b, 0, none⟩ = some v from at_cell hb1 0)
  clear hb hb1
  go_enter Tryz.func124, Tryz.ntmps124
  go_wp2_with fail
  refine wp_region_held_drew (S := (fun w' => (w'.cell? ⟨b, 0, none⟩ = some v))) (by kernel_rfl) C0.out (fun hHeld => ?_)
  try dsimp only at hHeld
  refine' jT 0 rfl (by rfl) ?_ hHeld ?_
  rotate_left
  · (intro w hSw; (try dsimp only at hSw); go_simp; try with_reducible rfl)
  try simp only [Act.put, jA, jB, jC, jD, jE, jF]
  refine' jT 1 rfl (by rfl) ?_ hHeld ?_
  rotate_left
  · (intro w hSw; (try dsimp only at hSw); go_simp; try with_reducible rfl)
  try simp only [Act.put, jA, jB, jC, jD, jE, jF]
  refine' jT 2 rfl (by rfl) ?_ hHeld ?_
  rotate_left
  · (intro w hSw; (try dsimp only at hSw); go_simp; try with_reducible rfl)
  try simp only [Act.put, jA, jB, jC, jD, jE, jF]
  refine' jT 3 rfl (by rfl) ?_ hHeld ?_
  rotate_left
  · (intro w hSw; (try dsimp only at hSw); go_simp; try with_reducible rfl)
  try simp only [Act.put, jA, jB, jC, jD, jE, jF]
  refine' jT 4 rfl (by rfl) ?_ hHeld ?_
  rotate_left
  · (intro w hSw; (try dsimp only at hSw); go_simp; try with_reducible rfl)
  try simp only [Act.put, jA, jB, jC, jD, jE, jF]
  refine' jT 5 rfl (by rfl) ?_ hHeld ?_
  rotate_left
  · (intro w hSw; (try dsimp only at hSw); go_simp; try with_reducible rfl)
  try simp only [Act.put, jA, jB, jC, jD, jE, jF]
  refine' jT 6 rfl (by rfl) ?_ hHeld ?_
  rotate_left
  · (intro w hSw; (try dsimp only at hSw); go_simp; try with_reducible rfl)
  try simp only [Act.put, jA, jB, jC, jD, jE, jF]
  refine jR [7] ?_
  refine jG rfl (fun K hK => ?_) AllReadyH.nil
  try simp only [jD, jE, jF]
  go_simp
  refine (nadd_i64 _ 0 1 (by decide) _ C1.out F1.out (by decide) (by decide)).mono ?_
  rintro e wa ⟨rfl, rfl⟩
  clear hHeld
  go_wp2_with fail
  refine hK.out _ _ ?_ (fun hHeld => ?_)
  · exact (CS.out)
  clear hK K
  try dsimp only at hHeld
  try simp only [Act.put, jA, jB, jC, jD, jE, jF]
  refine' jT 8 rfl (by rfl) ?_ hHeld ?_
  rotate_left
  · (intro w hSw; (try dsimp only at hSw); go_simp; try with_reducible rfl)
  try simp only [Act.put, jA, jB, jC, jD, jE, jF]
  refine' jT 9 rfl (by rfl) ?_ hHeld ?_
  rotate_left
  · (intro w hSw; (try dsimp only at hSw); go_simp; try with_reducible rfl)
  try simp only [Act.put, jA, jB, jC, jD, jE, jF]
  refine jR [10] ?_
  refine jG rfl (fun K hK => ?_) AllReadyH.nil
  try simp only [jD, jE, jF]
  go_simp
  clear hHeld
  refine (get_at l v 0 _ B1.out (by have := HK.out; omega)).mono ?_
  rintro e wa ⟨rfl, rfl⟩
  go_wp2_with fail
  refine hK.out _ _ ?_ (fun hHeld => ?_)
  · exact (CS.out)
  clear hK K
  try dsimp only at hHeld
  try simp only [Act.put, jA, jB, jC, jD, jE, jF]
  refine' jT 11 rfl (by rfl) ?_ hHeld ?_
  rotate_left
  · (intro w hSw; (try dsimp only at hSw); go_simp; try with_reducible rfl)
  try simp only [Act.put, jA, jB, jC, jD, jE, jF]
  refine' jT 12 rfl (by rfl) ?_ hHeld ?_
  rotate_left
  · (intro w hSw; (try dsimp only at hSw); go_simp; try with_reducible rfl)
  try simp only [Act.put, jA, jB, jC, jD, jE, jF]
  refine' jT 13 rfl (by rfl) ?_ hHeld ?_
  rotate_left
  · (intro w hSw; (try dsimp only at hSw); go_simp; try with_reducible rfl)
  try simp only [Act.put, jA, jB, jC, jD, jE, jF]
  refine' jT 14 rfl (by rfl) ?_ hHeld ?_
  rotate_left
  · (intro w hSw; (try dsimp only at hSw); go_simp; try with_reducible rfl)
  try simp only [Act.put, jA, jB, jC, jD, jE, jF]
  refine' jT 15 rfl (by rfl) ?_ hHeld ?_
  rotate_left
  · (intro w hSw; (try dsimp only at hSw); go_simp; try with_reducible rfl)
  try simp only [Act.put, jA, jB, jC, jD, jE, jF]
  refine wpAnyH_done (by kernel_rfl) ?_ _
  clear hHeld
  go_wp2_with fail
  go_ret
  exact ⟨rfl, HB1.out, G1.out, B1.out⟩
set_option maxHeartbeats 1600000 in
theorem next_1 (b : Nat) (v : Value) (l : List UInt8) (hk : 16 ≤ l.length) (w : World) (hb : w.heap[b]? = some (rdObj v 1)) (hl : BytesAt w v l) (hne : ∀ a n c, v = .slice (some a) n c → a.block ≠ b) :
    Calls Tryz.prog 124 #[.pointer (some ⟨b, 0, none⟩)] w fun e w' => e = .returned (.int .u64 (q (wordAt l 8 8))) ∧ w'.heap[b]? = some (rdObj v 2) ∧ w.grownBy w' (some b) ∧ BytesAt w' v l := by
  have HK := hid hk; clear hk
  have hg := gb_row (gb_drew (.refl w (some b))) (p := ⟨b, 1, none⟩) rfl (.int .i64 2)
  have hl1 := hl.grown hg (fun k e => by cases e; exact .inr (.inr hne))
  have hb1 := at_set (at_drew hb) 1 (.int .i64 2)
  have B1 := hid hl1; have HB1 := hid hb1; have G1 := hid hg; clear hl1 hg hl hne
  have C0 := hid (show w.drew.cell? ⟨b, 0, none⟩ = some v from at_cell hb 0)
  have C1 := hid (show w.drew.cell? ⟨b, 1, none⟩ = some (.int .i64 1) from at_cell hb 1)
  have F1 := hid (show w.drew.frozen? ⟨b, 1, none⟩ = false from at_free hb 1)
  have CS := hid (show (w.drew.setCell ⟨b, 1, none⟩ (.int .i64 2)).cell? ⟨b, 0, none⟩ = some v from at_cell hb1 0)
  clear hb hb1
  go_enter Tryz.func124, Tryz.ntmps124
  go_wp2_with fail
  refine wp_region_held_drew (S := (fun w' => (w'.cell? ⟨b, 0, none⟩ = some v))) (by kernel_rfl) C0.out (fun hHeld => ?_)
  try dsimp only at hHeld
  refine' jT 0 rfl (by rfl) ?_ hHeld ?_
  rotate_left
  · (intro w hSw; (try dsimp only at hSw); go_simp; try with_reducible rfl)
  try simp only [Act.put, jA, jB, jC, jD, jE, jF]
  refine' jT 1 rfl (by rfl) ?_ hHeld ?_
  rotate_left
  · (intro w hSw; (try dsimp only at hSw); go_simp; try with_reducible rfl)
  try simp only [Act.put, jA, jB, jC, jD, jE, jF]
  refine' jT 2 rfl (by rfl) ?_ hHeld ?_
  rotate_left
  · (intro w hSw; (try dsimp only at hSw); go_simp; try with_reducible rfl)
  try simp only [Act.put, jA, jB, jC, jD, jE, jF]
  refine' jT 3 rfl (by rfl) ?_ hHeld ?_
  rotate_left
  · (intro w hSw; (try dsimp only at hSw); go_simp; try with_reducible rfl)
  try simp only [Act.put, jA, jB, jC, jD, jE, jF]
  refine' jT 4 rfl (by rfl) ?_ hHeld ?_
  rotate_left
  · (intro w hSw; (try dsimp only at hSw); go_simp; try with_reducible rfl)
  try simp only [Act.put, jA, jB, jC, jD, jE, jF]
  refine' jT 5 rfl (by rfl) ?_ hHeld ?_
  rotate_left
  · (intro w hSw; (try dsimp only at hSw); go_simp; try with_reducible rfl)
  try simp only [Act.put, jA, jB, jC, jD, jE, jF]
  refine' jT 6 rfl (by rfl) ?_ hHeld ?_
  rotate_left
  · (intro w hSw; (try dsimp only at hSw); go_simp; try with_reducible rfl)
  try simp only [Act.put, jA, jB, jC, jD, jE, jF]
  refine jR [7] ?_
  refine jG rfl (fun K hK => ?_) AllReadyH.nil
  try simp only [jD, jE, jF]
  go_simp
  refine (nadd_i64 _ 1 2 (by decide) _ C1.out F1.out (by decide) (by decide)).mono ?_
  rintro e wa ⟨rfl, rfl⟩
  clear hHeld
  go_wp2_with fail
  refine hK.out _ _ ?_ (fun hHeld => ?_)
  · exact (CS.out)
  clear hK K
  try dsimp only at hHeld
  try simp only [Act.put, jA, jB, jC, jD, jE, jF]
  refine' jT 8 rfl (by rfl) ?_ hHeld ?_
  rotate_left
  · (intro w hSw; (try dsimp only at hSw); go_simp; try with_reducible rfl)
  try simp only [Act.put, jA, jB, jC, jD, jE, jF]
  refine' jT 9 rfl (by rfl) ?_ hHeld ?_
  rotate_left
  · (intro w hSw; (try dsimp only at hSw); go_simp; try with_reducible rfl)
  try simp only [Act.put, jA, jB, jC, jD, jE, jF]
  refine jR [10] ?_
  refine jG rfl (fun K hK => ?_) AllReadyH.nil
  try simp only [jD, jE, jF]
  go_simp
  clear hHeld
  refine (get_at l v 8 _ B1.out (by have := HK.out; omega)).mono ?_
  rintro e wa ⟨rfl, rfl⟩
  go_wp2_with fail
  refine hK.out _ _ ?_ (fun hHeld => ?_)
  · exact (CS.out)
  clear hK K
  try dsimp only at hHeld
  try simp only [Act.put, jA, jB, jC, jD, jE, jF]
  refine' jT 11 rfl (by rfl) ?_ hHeld ?_
  rotate_left
  · (intro w hSw; (try dsimp only at hSw); go_simp; try with_reducible rfl)
  try simp only [Act.put, jA, jB, jC, jD, jE, jF]
  refine' jT 12 rfl (by rfl) ?_ hHeld ?_
  rotate_left
  · (intro w hSw; (try dsimp only at hSw); go_simp; try with_reducible rfl)
  try simp only [Act.put, jA, jB, jC, jD, jE, jF]
  refine' jT 13 rfl (by rfl) ?_ hHeld ?_
  rotate_left
  · (intro w hSw; (try dsimp only at hSw); go_simp; try with_reducible rfl)
  try simp only [Act.put, jA, jB, jC, jD, jE, jF]
  refine' jT 14 rfl (by rfl) ?_ hHeld ?_
  rotate_left
  · (intro w hSw; (try dsimp only at hSw); go_simp; try with_reducible rfl)
  try simp only [Act.put, jA, jB, jC, jD, jE, jF]
  refine' jT 15 rfl (by rfl) ?_ hHeld ?_
  rotate_left
  · (intro w hSw; (try dsimp only at hSw); go_simp; try with_reducible rfl)
  try simp only [Act.put, jA, jB, jC, jD, jE, jF]
  refine wpAnyH_done (by kernel_rfl) ?_ _
  clear hHeld
  go_wp2_with fail
  go_ret
  exact ⟨rfl, HB1.out, G1.out, B1.out⟩
set_option maxHeartbeats 1600000 in
theorem next_2 (b : Nat) (v : Value) (l : List UInt8) (hk : 24 ≤ l.length) (w : World) (hb : w.heap[b]? = some (rdObj v 2)) (hl : BytesAt w v l) (hne : ∀ a n c, v = .slice (some a) n c → a.block ≠ b) :
    Calls Tryz.prog 124 #[.pointer (some ⟨b, 0, none⟩)] w fun e w' => e = .returned (.int .u64 (q (wordAt l 16 8))) ∧ w'.heap[b]? = some (rdObj v 3) ∧ w.grownBy w' (some b) ∧ BytesAt w' v l := by
  have HK := hid hk; clear hk
  have hg := gb_row (gb_drew (.refl w (some b))) (p := ⟨b, 1, none⟩) rfl (.int .i64 3)
  have hl1 := hl.grown hg (fun k e => by cases e; exact .inr (.inr hne))
  have hb1 := at_set (at_drew hb) 1 (.int .i64 3)
  have B1 := hid hl1; have HB1 := hid hb1; have G1 := hid hg; clear hl1 hg hl hne
  have C0 := hid (show w.drew.cell? ⟨b, 0, none⟩ = some v from at_cell hb 0)
  have C1 := hid (show w.drew.cell? ⟨b, 1, none⟩ = some (.int .i64 2) from at_cell hb 1)
  have F1 := hid (show w.drew.frozen? ⟨b, 1, none⟩ = false from at_free hb 1)
  have CS := hid (show (w.drew.setCell ⟨b, 1, none⟩ (.int .i64 3)).cell? ⟨b, 0, none⟩ = some v from at_cell hb1 0)
  clear hb hb1
  go_enter Tryz.func124, Tryz.ntmps124
  go_wp2_with fail
  refine wp_region_held_drew (S := (fun w' => (w'.cell? ⟨b, 0, none⟩ = some v))) (by kernel_rfl) C0.out (fun hHeld => ?_)
  try dsimp only at hHeld
  refine' jT 0 rfl (by rfl) ?_ hHeld ?_
  rotate_left
  · (intro w hSw; (try dsimp only at hSw); go_simp; try with_reducible rfl)
  try simp only [Act.put, jA, jB, jC, jD, jE, jF]
  refine' jT 1 rfl (by rfl) ?_ hHeld ?_
  rotate_left
  · (intro w hSw; (try dsimp only at hSw); go_simp; try with_reducible rfl)
  try simp only [Act.put, jA, jB, jC, jD, jE, jF]
  refine' jT 2 rfl (by rfl) ?_ hHeld ?_
  rotate_left
  · (intro w hSw; (try dsimp only at hSw); go_simp; try with_reducible rfl)
  try simp only [Act.put, jA, jB, jC, jD, jE, jF]
  refine' jT 3 rfl (by rfl) ?_ hHeld ?_
  rotate_left
  · (intro w hSw; (try dsimp only at hSw); go_simp; try with_reducible rfl)
  try simp only [Act.put, jA, jB, jC, jD, jE, jF]
  refine' jT 4 rfl (by rfl) ?_ hHeld ?_
  rotate_left
  · (intro w hSw; (try dsimp only at hSw); go_simp; try with_reducible rfl)
  try simp only [Act.put, jA, jB, jC, jD, jE, jF]
  refine' jT 5 rfl (by rfl) ?_ hHeld ?_
  rotate_left
  · (intro w hSw; (try dsimp only at hSw); go_simp; try with_reducible rfl)
  try simp only [Act.put, jA, jB, jC, jD, jE, jF]
  refine' jT 6 rfl (by rfl) ?_ hHeld ?_
  rotate_left
  · (intro w hSw; (try dsimp only at hSw); go_simp; try with_reducible rfl)
  try simp only [Act.put, jA, jB, jC, jD, jE, jF]
  refine jR [7] ?_
  refine jG rfl (fun K hK => ?_) AllReadyH.nil
  try simp only [jD, jE, jF]
  go_simp
  refine (nadd_i64 _ 2 3 (by decide) _ C1.out F1.out (by decide) (by decide)).mono ?_
  rintro e wa ⟨rfl, rfl⟩
  clear hHeld
  go_wp2_with fail
  refine hK.out _ _ ?_ (fun hHeld => ?_)
  · exact (CS.out)
  clear hK K
  try dsimp only at hHeld
  try simp only [Act.put, jA, jB, jC, jD, jE, jF]
  refine' jT 8 rfl (by rfl) ?_ hHeld ?_
  rotate_left
  · (intro w hSw; (try dsimp only at hSw); go_simp; try with_reducible rfl)
  try simp only [Act.put, jA, jB, jC, jD, jE, jF]
  refine' jT 9 rfl (by rfl) ?_ hHeld ?_
  rotate_left
  · (intro w hSw; (try dsimp only at hSw); go_simp; try with_reducible rfl)
  try simp only [Act.put, jA, jB, jC, jD, jE, jF]
  refine jR [10] ?_
  refine jG rfl (fun K hK => ?_) AllReadyH.nil
  try simp only [jD, jE, jF]
  go_simp
  clear hHeld
  refine (get_at l v 16 _ B1.out (by have := HK.out; omega)).mono ?_
  rintro e wa ⟨rfl, rfl⟩
  go_wp2_with fail
  refine hK.out _ _ ?_ (fun hHeld => ?_)
  · exact (CS.out)
  clear hK K
  try dsimp only at hHeld
  try simp only [Act.put, jA, jB, jC, jD, jE, jF]
  refine' jT 11 rfl (by rfl) ?_ hHeld ?_
  rotate_left
  · (intro w hSw; (try dsimp only at hSw); go_simp; try with_reducible rfl)
  try simp only [Act.put, jA, jB, jC, jD, jE, jF]
  refine' jT 12 rfl (by rfl) ?_ hHeld ?_
  rotate_left
  · (intro w hSw; (try dsimp only at hSw); go_simp; try with_reducible rfl)
  try simp only [Act.put, jA, jB, jC, jD, jE, jF]
  refine' jT 13 rfl (by rfl) ?_ hHeld ?_
  rotate_left
  · (intro w hSw; (try dsimp only at hSw); go_simp; try with_reducible rfl)
  try simp only [Act.put, jA, jB, jC, jD, jE, jF]
  refine' jT 14 rfl (by rfl) ?_ hHeld ?_
  rotate_left
  · (intro w hSw; (try dsimp only at hSw); go_simp; try with_reducible rfl)
  try simp only [Act.put, jA, jB, jC, jD, jE, jF]
  refine' jT 15 rfl (by rfl) ?_ hHeld ?_
  rotate_left
  · (intro w hSw; (try dsimp only at hSw); go_simp; try with_reducible rfl)
  try simp only [Act.put, jA, jB, jC, jD, jE, jF]
  refine wpAnyH_done (by kernel_rfl) ?_ _
  clear hHeld
  go_wp2_with fail
  go_ret
  exact ⟨rfl, HB1.out, G1.out, B1.out⟩
set_option maxHeartbeats 1600000 in
theorem next_3 (b : Nat) (v : Value) (l : List UInt8) (hk : 32 ≤ l.length) (w : World) (hb : w.heap[b]? = some (rdObj v 3)) (hl : BytesAt w v l) (hne : ∀ a n c, v = .slice (some a) n c → a.block ≠ b) :
    Calls Tryz.prog 124 #[.pointer (some ⟨b, 0, none⟩)] w fun e w' => e = .returned (.int .u64 (q (wordAt l 24 8))) ∧ w'.heap[b]? = some (rdObj v 4) ∧ w.grownBy w' (some b) ∧ BytesAt w' v l := by
  have HK := hid hk; clear hk
  have hg := gb_row (gb_drew (.refl w (some b))) (p := ⟨b, 1, none⟩) rfl (.int .i64 4)
  have hl1 := hl.grown hg (fun k e => by cases e; exact .inr (.inr hne))
  have hb1 := at_set (at_drew hb) 1 (.int .i64 4)
  have B1 := hid hl1; have HB1 := hid hb1; have G1 := hid hg; clear hl1 hg hl hne
  have C0 := hid (show w.drew.cell? ⟨b, 0, none⟩ = some v from at_cell hb 0)
  have C1 := hid (show w.drew.cell? ⟨b, 1, none⟩ = some (.int .i64 3) from at_cell hb 1)
  have F1 := hid (show w.drew.frozen? ⟨b, 1, none⟩ = false from at_free hb 1)
  have CS := hid (show (w.drew.setCell ⟨b, 1, none⟩ (.int .i64 4)).cell? ⟨b, 0, none⟩ = some v from at_cell hb1 0)
  clear hb hb1
  go_enter Tryz.func124, Tryz.ntmps124
  go_wp2_with fail
  refine wp_region_held_drew (S := (fun w' => (w'.cell? ⟨b, 0, none⟩ = some v))) (by kernel_rfl) C0.out (fun hHeld => ?_)
  try dsimp only at hHeld
  refine' jT 0 rfl (by rfl) ?_ hHeld ?_
  rotate_left
  · (intro w hSw; (try dsimp only at hSw); go_simp; try with_reducible rfl)
  try simp only [Act.put, jA, jB, jC, jD, jE, jF]
  refine' jT 1 rfl (by rfl) ?_ hHeld ?_
  rotate_left
  · (intro w hSw; (try dsimp only at hSw); go_simp; try with_reducible rfl)
  try simp only [Act.put, jA, jB, jC, jD, jE, jF]
  refine' jT 2 rfl (by rfl) ?_ hHeld ?_
  rotate_left
  · (intro w hSw; (try dsimp only at hSw); go_simp; try with_reducible rfl)
  try simp only [Act.put, jA, jB, jC, jD, jE, jF]
  refine' jT 3 rfl (by rfl) ?_ hHeld ?_
  rotate_left
  · (intro w hSw; (try dsimp only at hSw); go_simp; try with_reducible rfl)
  try simp only [Act.put, jA, jB, jC, jD, jE, jF]
  refine' jT 4 rfl (by rfl) ?_ hHeld ?_
  rotate_left
  · (intro w hSw; (try dsimp only at hSw); go_simp; try with_reducible rfl)
  try simp only [Act.put, jA, jB, jC, jD, jE, jF]
  refine' jT 5 rfl (by rfl) ?_ hHeld ?_
  rotate_left
  · (intro w hSw; (try dsimp only at hSw); go_simp; try with_reducible rfl)
  try simp only [Act.put, jA, jB, jC, jD, jE, jF]
  refine' jT 6 rfl (by rfl) ?_ hHeld ?_
  rotate_left
  · (intro w hSw; (try dsimp only at hSw); go_simp; try with_reducible rfl)
  try simp only [Act.put, jA, jB, jC, jD, jE, jF]
  refine jR [7] ?_
  refine jG rfl (fun K hK => ?_) AllReadyH.nil
  try simp only [jD, jE, jF]
  go_simp
  refine (nadd_i64 _ 3 4 (by decide) _ C1.out F1.out (by decide) (by decide)).mono ?_
  rintro e wa ⟨rfl, rfl⟩
  clear hHeld
  go_wp2_with fail
  refine hK.out _ _ ?_ (fun hHeld => ?_)
  · exact (CS.out)
  clear hK K
  try dsimp only at hHeld
  try simp only [Act.put, jA, jB, jC, jD, jE, jF]
  refine' jT 8 rfl (by rfl) ?_ hHeld ?_
  rotate_left
  · (intro w hSw; (try dsimp only at hSw); go_simp; try with_reducible rfl)
  try simp only [Act.put, jA, jB, jC, jD, jE, jF]
  refine' jT 9 rfl (by rfl) ?_ hHeld ?_
  rotate_left
  · (intro w hSw; (try dsimp only at hSw); go_simp; try with_reducible rfl)
  try simp only [Act.put, jA, jB, jC, jD, jE, jF]
  refine jR [10] ?_
  refine jG rfl (fun K hK => ?_) AllReadyH.nil
  try simp only [jD, jE, jF]
  go_simp
  clear hHeld
  refine (get_at l v 24 _ B1.out (by have := HK.out; omega)).mono ?_
  rintro e wa ⟨rfl, rfl⟩
  go_wp2_with fail
  refine hK.out _ _ ?_ (fun hHeld => ?_)
  · exact (CS.out)
  clear hK K
  try dsimp only at hHeld
  try simp only [Act.put, jA, jB, jC, jD, jE, jF]
  refine' jT 11 rfl (by rfl) ?_ hHeld ?_
  rotate_left
  · (intro w hSw; (try dsimp only at hSw); go_simp; try with_reducible rfl)
  try simp only [Act.put, jA, jB, jC, jD, jE, jF]
  refine' jT 12 rfl (by rfl) ?_ hHeld ?_
  rotate_left
  · (intro w hSw; (try dsimp only at hSw); go_simp; try with_reducible rfl)
  try simp only [Act.put, jA, jB, jC, jD, jE, jF]
  refine' jT 13 rfl (by rfl) ?_ hHeld ?_
  rotate_left
  · (intro w hSw; (try dsimp only at hSw); go_simp; try with_reducible rfl)
  try simp only [Act.put, jA, jB, jC, jD, jE, jF]
  refine' jT 14 rfl (by rfl) ?_ hHeld ?_
  rotate_left
  · (intro w hSw; (try dsimp only at hSw); go_simp; try with_reducible rfl)
  try simp only [Act.put, jA, jB, jC, jD, jE, jF]
  refine' jT 15 rfl (by rfl) ?_ hHeld ?_
  rotate_left
  · (intro w hSw; (try dsimp only at hSw); go_simp; try with_reducible rfl)
  try simp only [Act.put, jA, jB, jC, jD, jE, jF]
  refine wpAnyH_done (by kernel_rfl) ?_ _
  clear hHeld
  go_wp2_with fail
  go_ret
  exact ⟨rfl, HB1.out, G1.out, B1.out⟩
end Go.Proofs.YtfhifnhnkgdnlaaGreat
end
section
set_option linter.unusedSimpArgs false
set_option linter.unusedVariables false
namespace Go.Proofs.YtfhifnhnkgdnlaaGreat
set_option maxRecDepth 100000
open Go.RowKit

def zeroM : Mg := ⟨0, 0, 0, 0, 0, 0, 0⟩
def gotM (l : List UInt8) : Mg := (getOf l).getD zeroM
def gotC (l : List UInt8) : Int := if (getOf l).isSome then 0 else 2

/-- the function's own blocks: what goes out, the reader; all else as it was, or new -/
structure GA (w : World) (v : Value) (l : List UInt8) (k : Int) (wc : World) : Prop where
  ans : wc.heap[w.heap.size]? = some (.cells zeroM.cells 39)
  rd : wc.heap[w.heap.size + 1]? = some (rdObj v k)
  ba : BytesAt wc v l
  g : w.grownBy wc none
theorem GA.next {w : World} {v : Value} {l : List UInt8} {k k1 : Int} {wc w1 : World} (h : GA w v l k wc) (hr : w1.heap[w.heap.size + 1]? = some (rdObj v k1)) (hg : wc.grownBy w1 (some (w.heap.size + 1))) (hb : BytesAt w1 v l) : GA w v l k1 w1 :=
  ⟨at_grown h.ans hg (by simp), hr, hb, gb_trans h.g hg (.inr (.inr ⟨_, rfl, by omega⟩))⟩
theorem GA.grown {w : World} {v : Value} {l : List UInt8} {k : Int} {wc w1 : World} (h : GA w v l k wc) (hg : wc.grownBy w1 none) : GA w v l k w1 :=
  ⟨at_grown h.ans hg (by simp), at_grown h.rd hg (by simp), h.ba.grown hg (by simp), gb_trans h.g hg (.inl rfl)⟩
/-- the message that is being read -/
structure GB (w : World) (v : Value) (l : List UInt8) (k : Int) (mb : Nat) (m : Mg) (wc : World) : Prop where
  a : GA w v l k wc
  hm : w.heap.size + 1 < mb
  vb : ∀ a n c, v = .slice (some a) n c → a.block < w.heap.size
  box : wc.heap[mb]? = some (.cells m.cells 39)
theorem GB.next {w : World} {v : Value} {l : List UInt8} {k k1 : Int} {mb : Nat} {m : Mg} {wc w1 : World} (h : GB w v l k mb m wc) (hr : w1.heap[w.heap.size + 1]? = some (rdObj v k1)) (hg : wc.grownBy w1 (some (w.heap.size + 1))) (hb : BytesAt w1 v l) : GB w v l k1 mb m w1 :=
  ⟨h.a.next hr hg hb, h.hm, h.vb, at_grown h.box hg (by have := h.hm; simp; omega)⟩
theorem GB.set {w : World} {v : Value} {l : List UInt8} {k : Int} {mb : Nat} {m m' : Mg} {wc : World} (h : GB w v l k mb m wc) (i : Nat) (x : Value) (hm : m.cells.setIfInBounds i x = m'.cells) : GB w v l k mb m' (wc.setCell ⟨mb, i, none⟩ x) := by
  have hlt := h.hm
  have hgm : wc.grownBy (wc.setCell ⟨mb, i, none⟩ x) (some mb) := gb_row (.refl wc (some mb)) rfl x
  refine ⟨⟨at_set_other h.a.ans (by simp; omega) _, at_set_other h.a.rd (by simp; omega) _, ?_, gb_new h.a.g (by simp; omega) _⟩, hlt, h.vb, by rw [← hm]; exact at_set h.box i x⟩
  exact h.a.ba.grown hgm (fun k e => by cases e; exact .inr (.inr fun a n c e => by have := h.vb a n c e; omega))
theorem gb_setRow {w w1 : World} {r : Option Nat} (h : w.grownBy w1 r) {b : Nat} (hb : w.heap.size ≤ b) {cs : Array Value} : w.grownBy (w1.setRow b cs) r :=
  ⟨h.os, h.tape, h.output, by simpa [World.setRow] using h.size, fun k hk hr => by
    have e : (w1.setRow b cs).heap[k]? = w1.heap[k]? := by simp [World.setRow, Array.getElem?_modify, show b ≠ k by omega]
    rw [e]; exact h.block k hk hr⟩
theorem wrap_q (y : BitVec 64) : wrap64 (q y) = y.toInt := by
  unfold wrap64 q; rw [BitVec.toInt_eq_toNat_cond]; have := y.isLt; split <;> omega
theorem wrap_shr (y : BitVec 64) : wrap64 (q (y >>> 32)) = ((y.toNat / 4294967296 : Nat) : Int) := by
  have e : (y >>> 32).toNat = y.toNat / 4294967296 := by rw [BitVec.toNat_ushiftRight, Nat.shiftRight_eq_div_pow]
  unfold wrap64 q; rw [e]; have := y.isLt; omega
theorem byte_shr (y : BitVec 64) (i n : Nat) (h : 2 ^ i = n) : q (y >>> i) % 256 = ((y.toNat / n % 256 : Nat) : Int) := by
  subst h; unfold q; rw [BitVec.toNat_ushiftRight, Nat.shiftRight_eq_div_pow]; omega
theorem got_yes {l : List UInt8} (h0 : l.length = 32) (h1 : q (wordAt l 0 8) % 256 = 1) (h2 : mayOf (readOf l) = true) : gotM l = readOf l ∧ gotC l = 0 := by
  unfold gotM gotC getOf
  rw [if_pos ⟨h0, by unfold q at h1; omega, may_of h2⟩]; exact ⟨rfl, rfl⟩
theorem got_no {l : List UInt8} (h : ¬ q (wordAt l 0 8) % 256 = 1 ∨ mayOf (readOf l) = false) : gotM l = zeroM ∧ gotC l = 2 := by
  unfold gotM gotC getOf
  rw [if_neg (by
    rintro ⟨_, h1, h2⟩
    rcases h with h | h
    · exact h (by unfold q; omega)
    · exact absurd (decide_eq_true h2) (by unfold mayOf at h; rw [h]; decide))]
  exact ⟨rfl, rfl⟩
theorem ret_msg {a b : Mg} {x y : Int} (h : b = a ∧ y = x) : Ending.returned (.tuple #[mg a, .int .i64 x]) = Ending.returned (.tuple #[mg b, .int .i64 y]) := by rw [h.1, h.2]
set_option maxHeartbeats 3200000 in
theorem wget_walk (p : Option Addr) (c : Nat) (l : List UInt8) (hn : l.length = 32) (w : World) (hl : BytesAt w (.slice p 32 c) l) :
    Calls Tryz.prog 92 #[.slice p 32 c] w fun e w' => e = .returned (.tuple #[mg (gotM l), .int .i64 (gotC l)]) ∧ w.grownBy w' none := by
  have hlt : ∀ a n c', Value.slice p 32 c = .slice (some a) n c' → a.block < w.heap.size := by
    rcases hl.lt with e | e
    · rw [e] at hn; cases hn
    · exact e
  have HN := hid hn; have HT := hid hlt
  have ga : GA w (.slice p 32 c) l 0 ((w.alloc (.cells zeroM.cells 39)).alloc (rdObj (.slice p 32 c) 0)) :=
    ⟨at_alloc (at_new w _) _, by rw [← size_alloc w (.cells zeroM.cells 39)]; exact at_new _ _, (hl.alloc _).alloc _, gb_alloc (gb_alloc (.refl w none) _) _⟩
  have G0 := hid ga; clear ga hn hl hlt
  obtain ⟨r, hr0⟩ : ∃ r, readOf l = r := ⟨_, rfl⟩
  have e0 : q (wordAt l 0 8 >>> 8) % 256 = r.kind := by rw [← hr0]; exact byte_shr _ 8 256 rfl
  have e1 : q (wordAt l 0 8 >>> 16) % 256 = r.who := by rw [← hr0]; exact byte_shr _ 16 65536 rfl
  have e2 : wrap64 (q (wordAt l 0 8 >>> 32)) = r.gen := by rw [← hr0]; exact wrap_shr _
  have e3 : q (wordAt l 0 8 >>> 24) % 256 = r.metric := by rw [← hr0]; exact byte_shr _ 24 16777216 rfl
  have e4 : wrap64 (q (wordAt l 8 8)) = r.seq := by rw [← hr0]; exact wrap_q _
  have e5 : wrap64 (q (wordAt l 16 8)) = r.epoch := by rw [← hr0]; exact wrap_q _
  have e6 : wrap64 (q (wordAt l 24 8)) = r.value := by rw [← hr0]; exact wrap_q _
  have HR := hid hr0; clear hr0
  go_enter Tryz.func92, Tryz.ntmps92
  go_wp2_with fail
  refine (next_0 (w.heap.size + 1) (.slice p 32 c) l (by rw [HN.out]; decide) _ G0.out.rd G0.out.ba (fun a n c' e => by have := HT.out a n c' e; omega)).mono ?_
  rintro e w1 ⟨rfl, hr, hg, hb⟩
  have G1 := hid (G0.out.next hr hg hb); clear hr hg hb G0
  go_wp2_with fail
  have gb1 : GB w (.slice p 32 c) l 1 w1.heap.size ⟨r.kind, r.who, r.gen, 0, 0, 0, r.metric⟩ (w1.alloc (.cells (Mg.cells ⟨r.kind, r.who, r.gen, 0, 0, 0, r.metric⟩) 39)) :=
    ⟨G1.out.grown (World.grownBy_alloc _ _ _), at_lt G1.out.rd, HT.out, at_new _ _⟩
  have B1 := hid gb1; clear gb1 G1
  generalize w1.heap.size = mb at B1
  refine (next_1 (w.heap.size + 1) (.slice p 32 c) l (by rw [HN.out]; decide) _ B1.out.a.rd B1.out.a.ba (fun a n c' e => by have := HT.out a n c' e; omega)).mono ?_
  rintro e w2 ⟨rfl, hr, hg, hb⟩
  have B2 := hid (B1.out.next hr hg hb); clear hr hg hb B1
  obtain ⟨c2, f2⟩ : w2.cell? ⟨mb, 3, none⟩ = some (.int .i64 0) ∧ w2.frozen? ⟨mb, 3, none⟩ = false := ⟨at_cell B2.out.box 3, at_free B2.out.box 3⟩
  go_wp2_with fail
  clear c2 f2
  have B3 := hid (B2.out.set (m' := ⟨r.kind, r.who, r.gen, r.seq, 0, 0, r.metric⟩) 3 (.int .i64 r.seq) rfl)
  generalize w2.setCell ⟨mb, 3, none⟩ (.int .i64 r.seq) = w3 at B3
  refine (next_2 (w.heap.size + 1) (.slice p 32 c) l (by rw [HN.out]; decide) _ B3.out.a.rd B3.out.a.ba (fun a n c' e => by have := HT.out a n c' e; omega)).mono ?_
  rintro e w4 ⟨rfl, hr, hg, hb⟩
  have B4 := hid (B3.out.next hr hg hb); clear hr hg hb B3 B2
  obtain ⟨c2, f2⟩ : w4.cell? ⟨mb, 4, none⟩ = some (.int .i64 0) ∧ w4.frozen? ⟨mb, 4, none⟩ = false := ⟨at_cell B4.out.box 4, at_free B4.out.box 4⟩
  go_wp2_with fail
  clear c2 f2
  have B5 := hid (B4.out.set (m' := ⟨r.kind, r.who, r.gen, r.seq, r.epoch, 0, r.metric⟩) 4 (.int .i64 r.epoch) rfl)
  generalize w4.setCell ⟨mb, 4, none⟩ (.int .i64 r.epoch) = w5 at B5
  refine (next_3 (w.heap.size + 1) (.slice p 32 c) l (by rw [HN.out]; decide) _ B5.out.a.rd B5.out.a.ba (fun a n c' e => by have := HT.out a n c' e; omega)).mono ?_
  rintro e w6 ⟨rfl, hr, hg, hb⟩
  have B6 := hid (B5.out.next hr hg hb); clear hr hg hb B5 B4
  obtain ⟨c2, f2⟩ : w6.cell? ⟨mb, 5, none⟩ = some (.int .i64 0) ∧ w6.frozen? ⟨mb, 5, none⟩ = false := ⟨at_cell B6.out.box 5, at_free B6.out.box 5⟩
  by_cases hv : q (wordAt l 0 8) % 256 = 1
  · have HV := hid hv
    have hc := may_any r
    obtain ⟨b, hb⟩ : ∃ b, mayOf r = b := ⟨_, rfl⟩
    rw [hb] at hc
    have C := hid hc; have HB := hid hb; clear hc hb
    have b7 := B6.out.set (m' := r) 5 (.int .i64 r.value) rfl
    have B7 := hid b7; clear b7
    go_wp2_with (refine wpList_row_w B7.out.box Tryz.underlying39 rfl (by kernel_rfl) rfl rfl rfl rfl ?_)
    refine (C.out _).mono ?_
    rintro e w8 ⟨rfl, hg⟩
    have BX := hid (at_grown B7.out.box hg (by simp)); have AN := hid (at_grown B7.out.a.ans hg (by simp)); have G8 := hid (gb_trans B7.out.a.g hg (.inl rfl)); clear hg c2 f2
    cases b
    · have z := msg_cells (at_setRow (cs := zeroM.cells) AN.out)
      have GR := hid (got_no (l := l) (.inr (by rw [HR.out]; exact HB.out)))
      obtain ⟨d0, d1, d2, d3, d4, d5, d6⟩ := z
      go_wp2_with (first | refine wpList_buildTo (cs := zeroM.cells) rfl rfl rfl (by kernel_rfl) ?_ | refine wpList_store_row (old := zeroM.cells) (cs := zeroM.cells) AN.out (by kernel_rfl) (by kernel_rfl) (by kernel_rfl) rfl rfl rfl rfl rfl ?_)
      exact bodyPost_ret (v := .tuple #[mg zeroM, .int .i64 2]) (by simp [results, Tryz.results92, go_sem, d0, d1, d2, d3, d4, d5, d6]) rfl ⟨ret_msg GR.out, gb_setRow G8.out (Nat.le_refl _)⟩
    · have z := msg_cells (at_setRow (cs := r.cells) AN.out)
      have GR := hid (got_yes (l := l) HN.out HV.out (by rw [HR.out]; exact HB.out))
      rw [HR.out] at GR
      obtain ⟨d0, d1, d2, d3, d4, d5, d6⟩ := z
      go_wp2_with (first | refine wpList_row BX.out Tryz.underlying39 rfl (by kernel_rfl) rfl rfl rfl rfl ?_ | refine wpList_store_row (old := zeroM.cells) (cs := r.cells) AN.out (by kernel_rfl) (by kernel_rfl) (by kernel_rfl) rfl rfl rfl rfl rfl ?_)
      exact bodyPost_ret (v := .tuple #[mg r, .int .i64 0]) (by simp [results, Tryz.results92, go_sem, d0, d1, d2, d3, d4, d5, d6]) rfl ⟨ret_msg GR.out, gb_setRow G8.out (Nat.le_refl _)⟩
  · have b7 := B6.out.set (m' := r) 5 (.int .i64 r.value) rfl
    have AN := hid b7.a.ans; have G8 := hid b7.a.g; clear b7
    have z := msg_cells (at_setRow (cs := zeroM.cells) AN.out)
    have GR := hid (got_no (l := l) (.inl hv))
    obtain ⟨d0, d1, d2, d3, d4, d5, d6⟩ := z
    go_wp2_with (first | refine wpList_buildTo (cs := zeroM.cells) rfl rfl rfl (by kernel_rfl) ?_ | refine wpList_store_row (old := zeroM.cells) (cs := zeroM.cells) AN.out (by kernel_rfl) (by kernel_rfl) (by kernel_rfl) rfl rfl rfl rfl rfl ?_)
    exact bodyPost_ret (v := .tuple #[mg zeroM, .int .i64 2]) (by simp [results, Tryz.results92, go_sem, d0, d1, d2, d3, d4, d5, d6]) rfl ⟨ret_msg GR.out, gb_setRow G8.out (Nat.le_refl _)⟩
end Go.Proofs.YtfhifnhnkgdnlaaGreat
end
section
set_option linter.unusedSimpArgs false
set_option linter.unusedVariables false
namespace Go.Proofs.YtfhifnhnkgdnlaaGreat
set_option maxRecDepth 100000
open Go.RowKit

theorem add_at (b o i : Nat) : (⟨b, o, none⟩ : Addr).add i = ⟨b, o + i, none⟩ := by unfold Addr.add; split <;> simp_all
theorem bytes_slice0 {w : World} {ab ao n c j : Nat} {l : List UInt8} (h : BytesAt w (.slice (some ⟨ab, ao, none⟩) n c) l) (hj : j ≤ n) : BytesAt w (.slice (some ⟨ab, ao, none⟩) j c) (l.take j) := by
  rcases h with ⟨h, _⟩ | ⟨a, cap, e, h1, h2, h3⟩
  · cases h
  · cases e
    have hl : (l.take j).length = j := by rw [List.length_take]; omega
    refine .inr ⟨_, c, by rw [hl], by omega, h2, fun i hi => ?_⟩
    have := h3 i (by omega)
    rw [this]; simp
theorem bytes_slice1 {w : World} {ab ao n c i : Nat} {l : List UInt8} (h : BytesAt w (.slice (some ⟨ab, ao, none⟩) n c) l) (hi : i ≤ n) : BytesAt w (.slice (some ⟨ab, ao + i, none⟩) (n - i) (c - i)) (l.drop i) := by
  rcases h with ⟨h, _⟩ | ⟨a, cap, e, h1, h2, h3⟩
  · cases h
  · cases e
    have hl : (l.drop i).length = l.length - i := by rw [List.length_drop]
    refine .inr ⟨_, c - i, by rw [hl], by omega, by omega, fun k hk => ?_⟩
    have := h3 (i + k) (by omega)
    rw [add_at] at this ⊢
    rw [Nat.add_assoc, this]; simp
theorem gb_rowset (w : World) (b : Nat) (cs : Array Value) : w.grownBy (w.setRow b cs) (some b) :=
  ⟨rfl, rfl, rfl, by simp [World.setRow], fun k hk hr => by simp [World.setRow, Array.getElem?_modify, show b ≠ k by intro e; exact hr (by rw [e])]⟩
section
variable {P : Program} {o : Oper} {a : Act} {w : World} {K : Act → World → Prop} {Q : Exit → Act → World → Prop} {b : Nat} {t ty : TypeId} {x y : Operand} {cs old : Array Value}
theorem wp_store_row (h : w.heap[b]? = some (.cells old t (0, 0))) (hi : (P.info? ty).map (·.size) = some cs.size) (hsz : old.size = cs.size) (h1 : cs.all (·.oneCell') = true)
    (ho : o.op = .store ty x y) (hdst : o.dst = none) (hx : a.eval x = .pointer (some ⟨b, 0, none⟩)) (hy : a.eval y = .agg cs)
    (k : K a (w.setRow b cs)) : Oper.wp P o a w K Q := by
  unfold Oper.wp
  have e : (execOp a.eval o).run P w = .ok .skip (w.setRow b cs) := by
    simp only [execOp, ho, hx, hy, Sem.run_bind, Instr.storeAt, Instr.sureAddr, Sem.run_pure, Result.andThen_ok, run_storeVar_row w b t ty old cs h hi hsz h1]
  rw [e, Oper.upon_skip, hdst]
  exact k
end

/-- the function's own blocks: what goes out (message, tag), what was read; all else as it was, or new -/
structure SP (w : World) (x y : Nat) (m : Mg) (a b : BitVec 64) (v : Value) (l : List UInt8) (wc : World) : Prop where
  am : ∃ c : Mg, wc.heap[w.heap.size]? = some (.cells c.cells 39)
  ta : ∃ p r, wc.heap[w.heap.size + 1]? = some (.cells #[p, r] 83)
  hm : wc.heap[x]? = some (.cells m.cells 39)
  ht : wc.heap[y]? = some (.cells #[.int .u64 (q a), .int .u64 (q b)] 83)
  ba : BytesAt wc v l
  vb : ∀ ad n c, v = .slice (some ad) n c → ad.block < w.heap.size
  hx : w.heap.size + 1 < x
  hy : w.heap.size + 1 < y
  g : w.grownBy wc none
section
variable {w : World} {x y : Nat} {m : Mg} {a b : BitVec 64} {v : Value} {l : List UInt8} {wc w1 : World}
theorem SP.grown (h : SP w x y m a b v l wc) (hg : wc.grownBy w1 none) : SP w x y m a b v l w1 :=
  ⟨by obtain ⟨c, k⟩ := h.am; exact ⟨c, at_grown k hg (by simp)⟩, by obtain ⟨p, r, k⟩ := h.ta; exact ⟨p, r, at_grown k hg (by simp)⟩, at_grown h.hm hg (by simp), at_grown h.ht hg (by simp), h.ba.grown hg (by simp), h.vb, h.hx, h.hy, gb_trans h.g hg (.inl rfl)⟩
theorem SP.drew (h : SP w x y m a b v l wc) : SP w x y m a b v l wc.drew := ⟨h.am, h.ta, h.hm, h.ht, h.ba.drew, h.vb, h.hx, h.hy, gb_drew h.g⟩
theorem SP.size (h : SP w x y m a b v l wc) : w.heap.size + 2 ≤ wc.heap.size := by obtain ⟨p, r, k⟩ := h.ta; exact at_lt k
theorem SP.setA (h : SP w x y m a b v l wc) (c : Mg) : SP w x y m a b v l (wc.setRow w.heap.size c.cells) :=
  ⟨by obtain ⟨c', k⟩ := h.am; exact ⟨c, at_setRow k⟩, by obtain ⟨p, r, k⟩ := h.ta; exact ⟨p, r, at_setRow_other k (by omega)⟩, at_setRow_other h.hm (by have := h.hx; omega), at_setRow_other h.ht (by have := h.hy; omega),
    h.ba.grown (gb_rowset _ _ _) (fun k e => by cases e; exact .inr (.inr fun ad n c e => by have := h.vb ad n c e; omega)), h.vb, h.hx, h.hy, gb_setRow h.g (Nat.le_refl _)⟩
theorem SP.setT (h : SP w x y m a b v l wc) (p r : Value) : SP w x y m a b v l (wc.setRow (w.heap.size + 1) #[p, r]) :=
  ⟨by obtain ⟨c', k⟩ := h.am; exact ⟨c', at_setRow_other k (by omega)⟩, by obtain ⟨p', r', k⟩ := h.ta; exact ⟨p, r, at_setRow k⟩, at_setRow_other h.hm (by have := h.hx; omega), at_setRow_other h.ht (by have := h.hy; omega),
    h.ba.grown (gb_rowset _ _ _) (fun k e => by cases e; exact .inr (.inr fun ad n c e => by have := h.vb ad n c e; omega)), h.vb, h.hx, h.hy, gb_setRow h.g (by omega)⟩
end

def noSplit : Value := .tuple #[mg zeroM, .slice none 0 0, pair 0 0, .int .i64 2]
set_option maxHeartbeats 1600000 in
theorem split_bad (p : Option Addr) (n c : Nat) (hn : n ≠ 48) (w : World) :
    Calls Tryz.prog 53 #[.slice p n c] w fun e w' => e = .returned noSplit ∧ w.grownBy w' none := by
  have h1 : (n : Int) ≠ 48 := by omega
  go_enter Tryz.func53, Tryz.ntmps53
  go_wp2_with fail
  exact bodyPost_ret (v := .tuple #[mg zeroM, .slice none 0 0, pair 0 0, .int .i64 2]) (by simp [results, Tryz.results53, go_sem, zeroM]; decide) rfl ⟨rfl, gb_alloc (gb_alloc (.refl w none) _) _⟩

theorem gotM_none {l : List UInt8} (h : getOf l = none) : gotM l = zeroM ∧ gotC l = 2 := by unfold gotM gotC; rw [h]; exact ⟨rfl, rfl⟩
theorem gotM_some {l : List UInt8} {m : Mg} (h : getOf l = some m) : gotM l = m ∧ gotC l = 0 := by unfold gotM gotC; rw [h]; exact ⟨rfl, rfl⟩
theorem get_as (l : List UInt8) (m : Mg) (k : Int) (h : gotM l = m ∧ gotC l = k) (p : Option Addr) (c : Nat) (hn : l.length = 32) (w : World) (hl : BytesAt w (.slice p 32 c) l) :
    Calls Tryz.prog 92 #[.slice p 32 c] w fun e w' => e = .returned (.tuple #[mg m, .int .i64 k]) ∧ w.grownBy w' none := by
  obtain ⟨rfl, rfl⟩ := h; exact wget_walk p c l hn w hl
theorem sp_new (w : World) : ((w.alloc (.cells zeroM.cells 39)).alloc (.cells #[.int .u64 0, .int .u64 0] 83)).heap[w.heap.size]? = some (.cells zeroM.cells 39) ∧ ((w.alloc (.cells zeroM.cells 39)).alloc (.cells #[.int .u64 0, .int .u64 0] 83)).heap[w.heap.size + 1]? = some (.cells #[.int .u64 0, .int .u64 0] 83) :=
  ⟨at_alloc (at_new w _) _, by rw [← size_alloc w (.cells zeroM.cells 39)]; exact at_new _ _⟩

set_option maxHeartbeats 1600000 in
theorem split_no (ab ao c : Nat) (hc : 48 ≤ c) (hcm : c ≤ maxLen) (l : List UInt8) (hn : l.length = 48) (hno : getOf (l.take 32) = none) (w : World) (hl : BytesAt w (.slice (some ⟨ab, ao, none⟩) 48 c) l) :
    Calls Tryz.prog 53 #[.slice (some ⟨ab, ao, none⟩) 48 c] w fun e w' => e = .returned noSplit ∧ w.grownBy w' none := by
  have hb0 := (hl.alloc (.cells zeroM.cells 39)).alloc (.cells #[.int .u64 0, .int .u64 0] 83)
  have HL := hid (bytes_slice0 (j := 32) hb0 (by decide)); have HG := hid (gotM_none hno); have HN := hid (show (l.take 32).length = 32 by rw [List.length_take]; omega); clear hl hno hn hb0
  have hg0 : w.grownBy ((w.alloc (.cells zeroM.cells 39)).alloc (.cells #[.int .u64 0, .int .u64 0] 83)) none := gb_alloc (gb_alloc (.refl w none) _) _
  have H0 := hid (sp_new w); have G0 := hid hg0; clear hg0
  have hI : (32 : Int) ≤ (c : Int) := by omega
  unfold maxLen at hcm
  go_enter Tryz.func53, Tryz.ntmps53
  go_wp2_with fail
  refine (get_as (l.take 32) zeroM 2 HG.out _ c HN.out _ HL.out).mono ?_
  rintro e w1 ⟨rfl, hg⟩
  have A := hid (at_grown H0.out.1 hg (by simp)); have B := hid (at_grown H0.out.2 hg (by simp)); have G1 := hid (gb_trans G0.out hg (.inl rfl)); clear hg H0 G0
  go_wp2_with (first | refine wpList_store_new (w := w1) (cs := zeroM.cells) rfl (by kernel_rfl) (by kernel_rfl) (by kernel_rfl) rfl rfl rfl rfl rfl ?_ | refine wpList_buildTo (ty := 39) (cs := zeroM.cells) rfl rfl rfl (by kernel_rfl) ?_ | refine wpList_store_row (old := zeroM.cells) (cs := zeroM.cells) (at_alloc A.out _) (by kernel_rfl) (by kernel_rfl) (by kernel_rfl) rfl rfl rfl rfl rfl ?_ | refine wpList_store_row (old := #[.int .u64 0, .int .u64 0]) (cs := #[.int .u64 0, .int .u64 0]) (at_setRow_other (b := w.heap.size) (at_alloc B.out _) (by omega)) (by kernel_rfl) (by kernel_rfl) (by kernel_rfl) rfl rfl rfl rfl rfl ?_)
  obtain ⟨d0, d1, d2, d3, d4, d5, d6⟩ := msg_cells (at_setRow_other (cs := #[.int .u64 0, .int .u64 0]) (at_setRow (cs := zeroM.cells) (at_alloc A.out (.cells zeroM.cells 39))) (show w.heap.size ≠ w.heap.size + 1 by omega))
  have ht := at_setRow (cs := #[.int .u64 0, .int .u64 0]) (at_setRow_other (cs := zeroM.cells) (at_alloc B.out (.cells zeroM.cells 39)) (show w.heap.size + 1 ≠ w.heap.size by omega))
  have t0 := at_cell ht 0
  have t1 := at_cell ht 1
  exact bodyPost_ret (v := noSplit) (by simp [results, Tryz.results53, go_sem, d0, d1, d2, d3, d4, d5, d6, t0, t1]; rfl) rfl ⟨rfl, gb_setRow (gb_setRow (gb_alloc G1.out _) (Nat.le_refl _)) (by omega)⟩

set_option maxHeartbeats 3200000 in
theorem split_yes (ab ao c : Nat) (hc : 48 ≤ c) (hcm : c ≤ maxLen) (l : List UInt8) (hn : l.length = 48) (m : Mg) (hno : getOf (l.take 32) = some m) (a b : BitVec 64) (ha : wordAt (l.drop 32) 0 8 = a) (hb : wordAt (l.drop 32) 8 8 = b) (w : World) (hl : BytesAt w (.slice (some ⟨ab, ao, none⟩) 48 c) l) :
    Calls Tryz.prog 53 #[.slice (some ⟨ab, ao, none⟩) 48 c] w fun e w' => ∃ u, e = .returned (.tuple #[mg m, u, pair a b, .int .i64 0]) ∧ OwnB w.heap.size w' u (l.take 32) ∧ w.grownBy w' none := by
  have hab : ab < w.heap.size := by
    rcases hl.lt with e | e
    · rw [e] at hn; cases hn
    · exact e ⟨ab, ao, none⟩ _ _ rfl
  have hb0 := (hl.alloc (.cells zeroM.cells 39)).alloc (.cells #[.int .u64 0, .int .u64 0] 83)
  have HB0 := hid hb0; have HAB := hid hab
  have HL := hid (bytes_slice0 (j := 32) hb0 (by decide)); have HG := hid (gotM_some hno); have HT32 := hid (show (l.take 32).length = 32 by rw [List.length_take]; omega)
  have HD32 := hid (show (l.drop 32).length = 16 by rw [List.length_drop]; omega)
  have HWA := hid ha; have HWB := hid hb
  clear hl hno hn hb0 hab ha hb
  have hg0 : w.grownBy ((w.alloc (.cells zeroM.cells 39)).alloc (.cells #[.int .u64 0, .int .u64 0] 83)) none := gb_alloc (gb_alloc (.refl w none) _) _
  have H0 := hid (sp_new w); have G0 := hid hg0; clear hg0
  have hI : (32 : Int) ≤ (c : Int) := by omega
  unfold maxLen at hcm
  go_enter Tryz.func53, Tryz.ntmps53
  go_wp2_with fail
  refine (get_as (l.take 32) m 0 HG.out _ c HT32.out _ HL.out).mono ?_
  rintro e w1 ⟨rfl, hg⟩
  have A := hid (at_grown H0.out.1 hg (by simp)); have B := hid (at_grown H0.out.2 hg (by simp)); have G1 := hid (gb_trans G0.out hg (.inl rfl)); have BA := hid (HB0.out.grown hg (by simp)); clear hg H0 G0 HB0 HL
  go_wp2_with (first | refine wpList_store_new (w := w1) (cs := m.cells) rfl (by kernel_rfl) (by kernel_rfl) (by kernel_rfl) rfl rfl rfl rfl rfl ?_)
  have BA2 := hid (bytes_slice1 (i := 32) (BA.out.alloc (.cells m.cells 39)) (by decide))
  refine (from_words (l.drop 32) a b HWA.out HWB.out _ _ HD32.out _ BA2.out).mono ?_
  rintro e w2 ⟨rfl, hg⟩
  have hsz : w.heap.size + 1 < w1.heap.size := at_lt B.out
  have HM := hid (at_grown (at_new w1 (.cells m.cells 39)) hg (by simp))
  have A2 := hid (at_grown (at_alloc A.out _) hg (by simp)); have B2 := hid (at_grown (at_alloc B.out _) hg (by simp)); have BA3 := hid ((BA.out.alloc _).grown hg (by simp))
  have G2 := hid (gb_trans (gb_alloc G1.out _) hg (.inl rfl))
  have hlt := at_lt HM.out
  clear hg A B BA BA2 G1
  generalize w1.heap.size = x at HM hsz hlt ⊢
  go_wp2_with (first | refine wpList_store_new (w := w2) (cs := #[.int .u64 (q a), .int .u64 (q b)]) rfl (by kernel_rfl) (by kernel_rfl) (by kernel_rfl) rfl rfl rfl rfl rfl ?_)
  have P4 : SP w x w2.heap.size m a b (.slice (some ⟨ab, ao, none⟩) 48 c) l (w2.alloc (.cells #[.int .u64 (q a), .int .u64 (q b)] 83)) :=
    ⟨⟨_, at_alloc A2.out _⟩, ⟨_, _, at_alloc B2.out _⟩, at_alloc HM.out _, at_new w2 _, BA3.out.alloc _, fun ad n c e => by cases e; exact HAB.out, hsz, by omega, gb_alloc G2.out _⟩
  have P5 := hid P4
  clear P4 A2 B2 HM BA3 G2
  generalize w2.heap.size = y at P5 ⊢
  refine wp_region_held_drew (S := (fun w' => SP w x y m a b (.slice (some ⟨ab, ao, none⟩) 48 c) l w')) (by kernel_rfl) P5.out.drew (fun hHeld => ?_)
  try dsimp only at hHeld
  refine' jT 0 rfl (by rfl) ?_ hHeld ?_
  rotate_left
  · (intro w hSw; (try dsimp only at hSw); (try simp only [jD, jE, jF]); refine exec_row (x := .tmp 6) hSw.hm Tryz.underlying39 rfl (by kernel_rfl) ?_ ?_ <;> rfl)
  try simp only [Act.put, jA, jB, jC, jD, jE, jF]
  refine' jT 1 rfl (by rfl) ?_ hHeld ?_
  rotate_left
  · (intro w hSw; (try dsimp only at hSw); go_simp; try with_reducible rfl)
  try simp only [Act.put, jA, jB, jC, jD, jE, jF]
  refine' jT 2 rfl (by rfl) ?_ hHeld ?_
  rotate_left
  · (intro w hSw; (try dsimp only at hSw); go_simp; try with_reducible rfl)
  try simp only [Act.put, jA, jB, jC, jD, jE, jF]
  refine' jT 4 rfl (by rfl) ?_ hHeld ?_
  rotate_left
  · (intro w hSw; (try dsimp only at hSw); (try simp only [jD, jE, jF]); refine exec_row (x := .tmp 8) hSw.ht Tryz.underlying83 rfl (by kernel_rfl) ?_ ?_ <;> rfl)
  try simp only [Act.put, jA, jB, jC, jD, jE, jF]
  refine jR [3] ?_
  refine jG rfl (fun K hK => ?_) AllReadyH.nil
  try simp only [jD, jE, jF]
  go_simp
  refine (clone_some _ _ _ (l.take 32) HT32.out (by decide) _ (bytes_slice0 hHeld.ba (by decide))).mono ?_
  rintro e w1 ⟨u, rfl, hu, hg⟩
  have L3 := hid (hHeld.grown hg)
  have U3 := hid (hu.le (hHeld.size)); clear hHeld hg hu
  go_wp2_with fail
  refine hK.out _ _ ?_ (fun hHeld => ?_)
  · exact L3.out
  clear hK K
  try dsimp only at hHeld
  try simp only [Act.put, jA, jB, jC, jD, jE, jF]
  obtain ⟨cm, hcm⟩ := L3.out.am
  obtain ⟨tp, tq, hct⟩ := L3.out.ta
  have A1 := hid hcm; have A2 := hid hct; clear hcm hct
  refine jR [5] ?_
  refine jG rfl (fun K hK => ?_) AllReadyH.nil
  try simp only [jD, jE, jF]
  rw [if_pos (by rfl)]
  refine wp_store_row (cs := m.cells) A1.out (by kernel_rfl) (by kernel_rfl) (by kernel_rfl) rfl rfl rfl rfl ?_
  refine hK.out _ _ ?_ (fun hHeld => ?_)
  · exact L3.out.setA m
  clear hK K
  try dsimp only at hHeld
  try simp only [Act.put, jA, jB, jC, jD, jE, jF]
  refine' jT 6 rfl (by rfl) ?_ hHeld ?_
  rotate_left
  · (intro w hSw; (try dsimp only at hSw); go_simp; try with_reducible rfl)
  try simp only [Act.put, jA, jB, jC, jD, jE, jF]
  refine jR [7] ?_
  refine jG rfl (fun K hK => ?_) AllReadyH.nil
  try simp only [jD, jE, jF]
  rw [if_pos (by rfl)]
  refine wp_store_row (cs := #[.int .u64 (q a), .int .u64 (q b)]) (at_setRow_other (cs := m.cells) A2.out (by omega)) (by kernel_rfl) (by kernel_rfl) (by kernel_rfl) rfl rfl rfl rfl ?_
  refine hK.out _ _ ?_ (fun hHeld => ?_)
  · exact (L3.out.setA m).setT _ _
  clear hK K
  try dsimp only at hHeld
  try simp only [Act.put, jA, jB, jC, jD, jE, jF]
  refine' jT 8 rfl (by rfl) ?_ hHeld ?_
  rotate_left
  · (intro w hSw; (try dsimp only at hSw); go_simp; try with_reducible rfl)
  try simp only [Act.put, jA, jB, jC, jD, jE, jF]
  refine wpAnyH_done (by kernel_rfl) ?_ _
  clear hHeld
  have hd := at_setRow_other (cs := #[.int .u64 (q a), .int .u64 (q b)]) (at_setRow (cs := m.cells) A1.out) (show w.heap.size ≠ w.heap.size + 1 by omega)
  obtain ⟨d0, d1, d2, d3, d4, d5, d6⟩ := msg_cells hd
  have ht := at_setRow (cs := #[.int .u64 (q a), .int .u64 (q b)]) (at_setRow_other (cs := m.cells) A2.out (show w.heap.size + 1 ≠ w.heap.size by omega))
  have t0 := at_cell ht 0
  have t1 := at_cell ht 1
  have hg := ((L3.out.setA m).setT (.int .u64 (q a)) (.int .u64 (q b))).g
  have hu := (U3.out.grown (gb_rowset _ w.heap.size m.cells) (fun g e => by obtain ⟨p, c, rfl⟩ := U3.out.form; cases p with | none => cases e | some ad => have := (U3.out.at ad _ _ rfl).1; cases e; simp; omega)).grown (gb_rowset _ (w.heap.size + 1) #[.int .u64 (q a), .int .u64 (q b)]) (fun g e => by obtain ⟨p, c, rfl⟩ := U3.out.form; cases p with | none => cases e | some ad => have := (U3.out.at ad _ _ rfl).1; cases e; simp; omega)
  have HU := hid hu; have HGG := hid hg
  clear hd ht hu hg
  go_wp2_with fail
  exact bodyPost_ret (v := .tuple #[mg m, u, pair a b, .int .i64 0]) (by simp [results, Tryz.results53, go_sem, d0, d1, d2, d3, d4, d5, d6, t0, t1]) rfl ⟨u, rfl, HU.out.le (by omega), HGG.out⟩
end Go.Proofs.YtfhifnhnkgdnlaaGreat
end
section
namespace Go.Proofs.YtfhifnhnkgdnlaaGreat
open Go.RowKit

/-- the padded bytes -/
def padded (s : ByteArray) : ByteArray := s ++ ⟨(List.replicate (7 - s.size % 8) (0 : UInt8)).toArray⟩ ++ ⟨[UInt8.ofNat s.size].toArray⟩
/-- the words behind i numbers of the padded bytes -/
def blocks (l : List UInt8) (v : W4) : Nat → W4
  | 0 => v
  | i + 1 => stirred (blocks l v i) (wordAt l (8 * i) 8)
/-- the document's sum -/
def refSumOf (k0 k1 : BitVec 64) (s : ByteArray) : BitVec 64 :=
  let v := blocks (padded s).data.toList (keyed k0 k1) (s.size / 8 + 1)
  let r := rnds 4 ⟨v.a, v.b, v.c ^^^ 255#64, v.d⟩
  r.a ^^^ r.b ^^^ r.c ^^^ r.d

theorem padded_size (s : ByteArray) : (padded s).size = 8 * (s.size / 8 + 1) := by
  unfold padded
  rw [ByteArray.size_append, ByteArray.size_append]
  have e1 : (⟨(List.replicate (7 - s.size % 8) (0 : UInt8)).toArray⟩ : ByteArray).size = 7 - s.size % 8 := by show (List.replicate (7 - s.size % 8) (0 : UInt8)).toArray.size = _; simp
  have e2 : (⟨[UInt8.ofNat s.size].toArray⟩ : ByteArray).size = 1 := rfl
  rw [e1, e2]
  omega

/-- a block that is an array of four words -/
@[reducible] def arrObj (v : W4) : Obj := .cells #[.int .u64 (q v.a), .int .u64 (q v.b), .int .u64 (q v.c), .int .u64 (q v.d)] 199
theorem arr_cells {w : World} {b : Nat} {v : W4} (hb : w.heap[b]? = some (arrObj v)) :
    w.cell? ⟨b, 0, none⟩ = some (.int .u64 (q v.a)) ∧ w.cell? ⟨b, 1, none⟩ = some (.int .u64 (q v.b)) ∧ w.cell? ⟨b, 2, none⟩ = some (.int .u64 (q v.c)) ∧ w.cell? ⟨b, 3, none⟩ = some (.int .u64 (q v.d)) ∧
      w.frozen? ⟨b, 0, none⟩ = false ∧ w.frozen? ⟨b, 1, none⟩ = false ∧ w.frozen? ⟨b, 2, none⟩ = false ∧ w.frozen? ⟨b, 3, none⟩ = false :=
  ⟨at_cell hb 0, at_cell hb 1, at_cell hb 2, at_cell hb 3, at_free hb 0, at_free hb 1, at_free hb 2, at_free hb 3⟩

/-- as many noughts as are wanted behind the bytes; the last byte -/
def zeros (s : ByteArray) : Array Value := madeCells #[.int .u8 0] (7 - s.size % 8)
@[reducible] def lastOne (s : ByteArray) : Array Value := #[.int .u8 ((s.size : Int) % 256)]
theorem info5 : (Tryz.prog.info? 5).map (fun i => (i.zero, i.size, i.bytes)) = some (some (.int .u8 0), 1, 1) := by kernel_rfl
theorem mkz (s : ByteArray) (u : World) : (Instr.makeSlice 40 (.int .i64 (7 - (s.size : Int) % 8)) (.int .i64 (7 - (s.size : Int) % 8))).run Tryz.prog u =
    .ok (.slice (some ⟨u.heap.size, 0, none⟩) (7 - s.size % 8) (7 - s.size % 8)) (u.alloc (.cells (zeros s) 5)) := by
  obtain ⟨i, hi, hz0, hz1, hz2⟩ := info_parts info5
  have e : (7 - (s.size : Int) % 8) = ((7 - s.size % 8 : Nat) : Int) := by omega
  have := run_makeSlice (P := Tryz.prog) u 40 5 i (.int .u8 0) Tryz.underlying40 hi hz0 .i64 .i64 (7 - (s.size : Int) % 8) (7 - (s.size : Int) % 8) (by omega) (Int.le_refl _) (by rw [hz1]; omega) (by rw [hz2]; omega) (by omega)
  rw [this, hz1, e]
  simp [zeros, Value.cells]
theorem made_get (n j : Nat) (h : j < n) : (madeCells #[.int .u8 0] n)[j]? = some (.int .u8 0) := by
  rw [← Array.getElem?_toList, toList_madeCells_one, List.getElem?_replicate, if_pos h]
theorem conv_z (s : ByteArray) (u : World) (g : Nat) (h : u.heap[g]? = some (.cells (zeros s) 5)) : (convert 40 9 (.slice (some ⟨g, 0, none⟩) (7 - s.size % 8) (7 - s.size % 8))).run Tryz.prog u = .ok (.string ⟨(List.replicate (7 - s.size % 8) (0 : UInt8)).toArray⟩) u := by
  have := run_convert_bytes_back u 40 9 5 ⟨g, 0, none⟩ (7 - s.size % 8) (List.replicate (7 - s.size % 8) (0 : UInt8)) Tryz.underlying40 Tryz.underlying5 Tryz.underlying9 (fun j hj => by
    have e : (⟨g, 0, none⟩ : Addr).add j = ⟨g, j, none⟩ := by unfold Addr.add; split <;> simp_all
    rw [e, at_cell h j, zeros, made_get _ _ (by simpa using hj)]
    simp)
  simpa using this
theorem conv_b (s : ByteArray) (u : World) (g : Nat) (h : u.heap[g]? = some (.cells (lastOne s) 5)) : (convert 40 9 (.slice (some ⟨g, 0, none⟩) 1 1)).run Tryz.prog u = .ok (.string ⟨[UInt8.ofNat s.size].toArray⟩) u :=
  run_convert_bytes_back u 40 9 5 ⟨g, 0, none⟩ 1 [UInt8.ofNat s.size] Tryz.underlying40 Tryz.underlying5 Tryz.underlying9 (fun j hj => by
    obtain rfl : j = 0 := by simpa using hj
    have e : (⟨g, 0, none⟩ : Addr).add 0 = ⟨g, 0, none⟩ := rfl
    rw [e, at_cell h 0]
    simp [lastOne])

set_option maxRecDepth 100000 in
set_option maxHeartbeats 3200000 in
theorem refsum_any (k0 k1 : BitVec 64) (s : ByteArray) (hs : s.size ≤ 100000) (w : World) :
    Calls Tryz.prog 91 #[.agg #[.int .u64 (q k0), .int .u64 (q k1)], .string s] w fun e w' => e = .returned (.int .u64 (q (refSumOf k0 k1 s))) ∧ w.grownBy w' none := by
  go_enter Tryz.func91, Tryz.ntmps91
  go_upto_region 2 with fail
  refine wp_gen (fun wx => wx.heap[w.heap.size + 1]? = some (arrObj (keyed k0 k1)) ∧ w.grownBy wx none) ⟨at_new2 w _ _, gb_alloc (gb_alloc (.refl w none) _) _⟩ ?_
  intro w1 hx
  obtain ⟨h1, g1⟩ := hx
  have H1 := hid h1; have G1 := hid g1
  clear h1 g1
  go_cut [6] (fun s6 wx => s6 = .string (padded s) ∧ wx.heap[w.heap.size + 1]? = some (arrObj (keyed k0 k1)) ∧ w.grownBy wx none)
  case first =>
    have hmk := mkz s
    have z1 := conv_z s (w1.alloc (.cells (zeros s) 5)).drew w1.heap.size (at_drew (at_new w1 _))
    have z2 := conv_z s ((w1.alloc (.cells (zeros s) 5)).alloc (.cells (lastOne s) 5)).drew w1.heap.size (at_drew (at_alloc (at_new w1 _) _))
    have z3 := conv_z s ((w1.alloc (.cells (lastOne s) 5)).alloc (.cells (zeros s) 5)).drew (w1.heap.size + 1) (at_drew (at_new2 w1 _ _))
    have b1 := conv_b s (w1.alloc (.cells (lastOne s) 5)).drew w1.heap.size (at_drew (at_new w1 _))
    have b2 := conv_b s ((w1.alloc (.cells (lastOne s) 5)).alloc (.cells (zeros s) 5)).drew w1.heap.size (at_drew (at_alloc (at_new w1 _) _))
    have b3 := conv_b s ((w1.alloc (.cells (zeros s) 5)).alloc (.cells (lastOne s) 5)).drew (w1.heap.size + 1) (at_drew (at_new2 w1 _ _))
    go_region
    all_goals
      go_wp2_with fail
      go_meet
      exact ⟨by simp [padded], at_drew (at_alloc (at_alloc H1.out _) _), gb_drew (gb_alloc (gb_alloc G1.out _) _)⟩
  case rest =>
    obtain ⟨rfl, h2, g2⟩ := hcut
    have H2 := hid h2; have G2 := hid g2; clear h2 g2 H1 G1
    have hp := padded_size s
    have hple : (padded s).size ≤ maxLen := by unfold maxLen; omega
    have HPL := hid hple
    have HP := hid hp
    clear hple hp
    generalize hS : padded s = S at *
    have hS0 : S.size ≤ 200000 := by have := HP.out; omega
    go_wp2_with fail

    go_loopw [7] (fun at_ wr => ∃ m : Nat, m ≤ S.size ∧ m % 8 = 0 ∧ at_ = .int .i64 (m : Int) ∧ wr.heap[w.heap.size + 1]? = some (arrObj (blocks S.data.toList (keyed k0 k1) (m / 8))) ∧ w.grownBy wr none) (fun at_ _ => S.size - (intOf at_).toNat)
    case atStart => exact ⟨0, Nat.zero_le _, rfl, rfl, H2.out, G2.out⟩
    case round =>
      obtain ⟨m, hm, hm8, rfl, hb, hg⟩ := hrel
      have HB := hid hb; have HG := hid hg; have HM := hid hm8; clear hb hg hm8 H2 G2
      by_cases hlt : m < S.size
      · have hm9 : m + 8 ≤ S.size := by have := HP.out; have := HM.out; omega
        go_wp2_with fail
        refine (refget_in S m _ HPL.out hm9).mono ?_
        rintro e w2 ⟨rfl, rfl⟩
        obtain ⟨c0, c1, c2, c3, f0, f1, f2, f3⟩ := arr_cells HB.out
        go_wp2_with fail
        have hb3 := at_set HB.out 3 (.int .u64 (q ((blocks S.data.toList (keyed k0 k1) (m / 8)).d ^^^ wordAt S.data.toList m 8)))
        have hg3 := gb_new HG.out (p := ⟨w.heap.size + 1, 3, none⟩) (by simp) (.int .u64 (q ((blocks S.data.toList (keyed k0 k1) (m / 8)).d ^^^ wordAt S.data.toList m 8)))
        generalize hV : blocks S.data.toList (keyed k0 k1) (m / 8) = V at *
        generalize hX : wordAt S.data.toList m 8 = X at *
        have HV := hid hV; have HX := hid hX; have HB3 := hid hb3; have HG3 := hid hg3
        clear hV hX hb3 hg3 c0 c1 c2 c3 f0 f1 f2 f3
        go_loopw [10] (fun i wi => ∃ j : Nat, j ≤ 2 ∧ i = .int .i64 (j : Int) ∧ wi.heap[w.heap.size + 1]? = some (arrObj (rnds j ⟨V.a, V.b, V.c, V.d ^^^ X⟩)) ∧ w.grownBy wi none) (fun i _ => 2 - (intOf i).toNat)
        case atStart => exact ⟨0, by omega, rfl, HB3.out, HG3.out⟩
        case round =>
          obtain ⟨j, hj, rfl, hbi, hgi⟩ := hrel
          have HBI := hid hbi; have HGI := hid hgi; clear hbi hgi
          obtain ⟨c0, c1, c2, c3, f0, f1, f2, f3⟩ := arr_cells HBI.out
          by_cases hjl : j < 2
          · go_wp2_with (go_at_call 123; (with_reducible refine (refround_any _ _ _ _ _).mono ?_); rintro e w' ⟨rfl, rfl⟩)
            go_roundw
            case rel => exact ⟨j + 1, by omega, by go_num, at_set (at_set (at_set (at_set HBI.out 0 _) 1 _) 2 _) 3 _, gb_new (gb_new (gb_new (gb_new HGI.out (by simp) _) (by simp) _) (by simp) _) (by simp) _⟩
            case measure => simp [intOf]; omega
          · have hj2 : j = 2 := by omega
            subst hj2
            go_wp2_with fail
            go_roundw
            case rel => exact ⟨m + 8, by omega, by have := HM.out; omega, by go_num, by
              have h8 : (m + 8) / 8 = m / 8 + 1 := by omega
              have h9 : 8 * (m / 8) = m := by have := HM.out; omega
              rw [h8, blocks, h9, HV.out, HX.out]
              exact at_set HBI.out 0 _, gb_new HGI.out (by simp) _⟩
            case measure => simp [intOf]; omega
      · have hme : m = S.size := by omega
        obtain ⟨c0, c1, c2, c3, f0, f1, f2, f3⟩ := arr_cells HB.out
        have hfin : refSumOf k0 k1 s = ((rnds 4 ⟨(blocks S.data.toList (keyed k0 k1) (m / 8)).a, (blocks S.data.toList (keyed k0 k1) (m / 8)).b, (blocks S.data.toList (keyed k0 k1) (m / 8)).c ^^^ 255#64, (blocks S.data.toList (keyed k0 k1) (m / 8)).d⟩).a ^^^ (rnds 4 ⟨(blocks S.data.toList (keyed k0 k1) (m / 8)).a, (blocks S.data.toList (keyed k0 k1) (m / 8)).b, (blocks S.data.toList (keyed k0 k1) (m / 8)).c ^^^ 255#64, (blocks S.data.toList (keyed k0 k1) (m / 8)).d⟩).b ^^^ (rnds 4 ⟨(blocks S.data.toList (keyed k0 k1) (m / 8)).a, (blocks S.data.toList (keyed k0 k1) (m / 8)).b, (blocks S.data.toList (keyed k0 k1) (m / 8)).c ^^^ 255#64, (blocks S.data.toList (keyed k0 k1) (m / 8)).d⟩).c ^^^ (rnds 4 ⟨(blocks S.data.toList (keyed k0 k1) (m / 8)).a, (blocks S.data.toList (keyed k0 k1) (m / 8)).b, (blocks S.data.toList (keyed k0 k1) (m / 8)).c ^^^ 255#64, (blocks S.data.toList (keyed k0 k1) (m / 8)).d⟩).d) := by
          have h8 : m / 8 = s.size / 8 + 1 := by have := HP.out; omega
          unfold refSumOf
          rw [hS, h8]
        have HF := hid hfin
        clear hfin hme
        have hb3 := at_set HB.out 2 (.int .u64 (q ((blocks S.data.toList (keyed k0 k1) (m / 8)).c ^^^ 255#64)))
        have hg3 := gb_new HG.out (p := ⟨w.heap.size + 1, 2, none⟩) (by simp) (.int .u64 (q ((blocks S.data.toList (keyed k0 k1) (m / 8)).c ^^^ 255#64)))
        go_wp2_with fail
        generalize hV : blocks S.data.toList (keyed k0 k1) (m / 8) = V at *
        have HB3 := hid hb3; have HG3 := hid hg3
        clear hV hb3 hg3 c0 c1 c2 c3 f0 f1 f2 f3 hlt
        go_loopw [11] (fun i wi => ∃ j : Nat, j ≤ 4 ∧ i = .int .i64 (j : Int) ∧ wi.heap[w.heap.size + 1]? = some (arrObj (rnds j ⟨V.a, V.b, V.c ^^^ 255#64, V.d⟩)) ∧ w.grownBy wi none) (fun i _ => 4 - (intOf i).toNat)
        case atStart => exact ⟨0, by omega, rfl, HB3.out, HG3.out⟩
        case round =>
          obtain ⟨j, hj, rfl, hbi, hgi⟩ := hrel
          have HBI := hid hbi; have HGI := hid hgi; clear hbi hgi
          obtain ⟨c0, c1, c2, c3, f0, f1, f2, f3⟩ := arr_cells HBI.out
          by_cases hjl : j < 4
          · go_wp2_with (go_at_call 123; (with_reducible refine (refround_any _ _ _ _ _).mono ?_); rintro e w' ⟨rfl, rfl⟩)
            go_roundw
            case rel => exact ⟨j + 1, by omega, by go_num, at_set (at_set (at_set (at_set HBI.out 0 _) 1 _) 2 _) 3 _, gb_new (gb_new (gb_new (gb_new HGI.out (by simp) _) (by simp) _) (by simp) _) (by simp) _⟩
            case measure => simp [intOf]; omega
          · have hj2 : j = 4 := by omega
            subst hj2
            go_wp2_with fail
            go_ret
            exact ⟨by rw [HF.out]; rfl, HGI.out⟩
end Go.Proofs.YtfhifnhnkgdnlaaGreat
end
section
namespace Go.Proofs.YtfhifnhnkgdnlaaGreat
set_option maxRecDepth 100000

/-- what a hash holds behind so many bytes -/
def stAt (k0 k1 : BitVec 64) (l : List UInt8) (i : Nat) : St := ⟨blocks l (keyed k0 k1) (i / 8), wordAt l (8 * (i / 8)) (i % 8), i⟩
theorem stAt_step (k0 k1 : BitVec 64) (l : List UInt8) (i : Nat) (h : i < l.length) : (stAt k0 k1 l i).add l[i] = stAt k0 k1 l (i + 1) := by
  have hb : byteAt l (8 * (i / 8) + i % 8) = l[i] := by
    rw [show 8 * (i / 8) + i % 8 = i by omega]; exact byteAt_eq h
  have hw : wordAt l (8 * (i / 8)) (i % 8 + 1) = wordAt l (8 * (i / 8)) (i % 8) ||| (BitVec.ofNat 64 (l[i]).toNat <<< (i % 8 * 8)) := by
    rw [wordAt, hb, Nat.mul_comm 8 (i % 8)]
  by_cases h7 : i % 8 = 7
  · rw [St.add_end _ _ (by simpa [stAt] using h7)]
    have e1 : (i + 1) / 8 = i / 8 + 1 := by omega
    have e2 : (i + 1) % 8 = 0 := by omega
    have hw8 : wordAt l (8 * (i / 8)) 8 = wordAt l (8 * (i / 8)) (i % 8) ||| (BitVec.ofNat 64 (l[i]).toNat <<< (i % 8 * 8)) := by
      rw [← hw, h7]
    simp only [stAt, e1, e2, blocks, hw8]
    rfl
  · rw [St.add_mid _ _ (by simpa [stAt] using h7)]
    have e1 : (i + 1) / 8 = i / 8 := by omega
    have e2 : (i + 1) % 8 = i % 8 + 1 := by omega
    simp only [stAt, e1, e2, hw]
theorem stAt_take (k0 k1 : BitVec 64) (l : List UInt8) (i : Nat) (h : i ≤ l.length) : (l.take i).foldl St.add (St.new k0 k1) = stAt k0 k1 l i := by
  induction i with
  | zero => rfl
  | succ i ih =>
    rw [List.take_succ_eq_append_getElem (by omega), List.foldl_append, ih (by omega)]
    exact stAt_step k0 k1 l i (by omega)
theorem stAt_all (k0 k1 : BitVec 64) (l : List UInt8) : l.foldl St.add (St.new k0 k1) = stAt k0 k1 l l.length := by
  have := stAt_take k0 k1 l l.length (Nat.le_refl _)
  rwa [List.take_of_length_le (Nat.le_refl _)] at this

theorem byteAt_left (l r : List UInt8) (i : Nat) (h : i < l.length) : byteAt (l ++ r) i = byteAt l i := by
  rw [byteAt_eq h, byteAt_eq (by simp; omega), List.getElem_append_left h]
theorem wordAt_left (l r : List UInt8) (m k : Nat) (h : m + k ≤ l.length) : wordAt (l ++ r) m k = wordAt l m k := by
  induction k with
  | zero => rfl
  | succ k ih => rw [wordAt, wordAt, ih (by omega), byteAt_left l r _ (by omega)]
theorem blocks_left (l r : List UInt8) (v : W4) (j : Nat) (h : 8 * j ≤ l.length) : blocks (l ++ r) v j = blocks l v j := by
  induction j with
  | zero => rfl
  | succ j ih => rw [blocks, blocks, ih (by omega), wordAt_left l r _ _ (by omega)]
theorem wordAt_zeros (l : List UInt8) (m k j : Nat) (h : ∀ i, k ≤ i → i < k + j → byteAt l (m + i) = 0) : wordAt l m (k + j) = wordAt l m k := by
  induction j with
  | zero => rfl
  | succ j ih =>
    rw [← Nat.add_assoc, wordAt, ih (fun i h1 h2 => h i h1 (by omega)), h (k + j) (by omega) (by omega)]
    simp
theorem padded_list (s : ByteArray) : (padded s).data.toList = s.data.toList ++ (List.replicate (7 - s.size % 8) (0 : UInt8) ++ [UInt8.ofNat s.size]) := by
  unfold padded
  rw [ByteArray.data_append, ByteArray.data_append]
  simp

theorem refSum_eq (k0 k1 : BitVec 64) (s : ByteArray) : refSumOf k0 k1 s = sumOf k0 k1 s.data.toList := by
  have hlen : s.data.toList.length = s.size := by rw [Array.length_toList]; rfl
  unfold refSumOf sumOf
  rw [stAt_all, padded_list]
  generalize hl : s.data.toList = l at *
  have hb : blocks (l ++ (List.replicate (7 - s.size % 8) (0 : UInt8) ++ [UInt8.ofNat s.size])) (keyed k0 k1) (s.size / 8 + 1)
      = stirred (blocks l (keyed k0 k1) (l.length / 8)) (wordAt l (8 * (l.length / 8)) (l.length % 8) ||| (BitVec.ofNat 64 (l.length % 256) <<< 56)) := by
    rw [blocks, blocks_left _ _ _ _ (by omega), ← hlen]
    congr 1
    have hlast : byteAt (l ++ (List.replicate (7 - l.length % 8) (0 : UInt8) ++ [UInt8.ofNat l.length])) (8 * (l.length / 8) + 7) = UInt8.ofNat l.length := by
      rw [byteAt_eq (by simp; omega), List.getElem_append_right (by omega), List.getElem_append_right (by simp; omega)]
      simp
    have hz : ∀ i, l.length % 8 ≤ i → i < l.length % 8 + (7 - l.length % 8) → byteAt (l ++ (List.replicate (7 - l.length % 8) (0 : UInt8) ++ [UInt8.ofNat l.length])) (8 * (l.length / 8) + i) = 0 := by
      intro i h1 h2
      rw [byteAt_eq (by simp; omega), List.getElem_append_right (by omega), List.getElem_append_left (by simp; omega)]
      simp
    have h7 := wordAt_zeros _ (8 * (l.length / 8)) (l.length % 8) (7 - l.length % 8) hz
    rw [show l.length % 8 + (7 - l.length % 8) = 7 by omega] at h7
    rw [wordAt, hlast, h7, wordAt_left _ _ _ _ (by omega)]
    have e : (UInt8.ofNat l.length).toNat = l.length % 256 := by simp
    rw [e]
  rw [hb]
  rfl
end Go.Proofs.YtfhifnhnkgdnlaaGreat
end
section
set_option linter.unusedSimpArgs false
namespace Go.Proofs.YtfhifnhnkgdnlaaGreat
set_option maxRecDepth 100000
open Go.RowKit

theorem refsum_str (k0 k1 : BitVec 64) (s : ByteArray) (hs : s.size ≤ 100000) (w : World) :
    Calls Tryz.prog 91 #[pair k0 k1, .string s] w fun e w' => e = .returned (.int .u64 (q (sumOf k0 k1 s.data.toList))) ∧ w.grownBy w' none := by
  rw [← refSum_eq]; exact refsum_any k0 k1 s hs w

set_option maxHeartbeats 1600000 in
theorem reftag_any (k0 k1 : BitVec 64) (s : ByteArray) (hs : s.size ≤ 100000) (w : World) :
    Calls Tryz.prog 50 #[pair k0 k1, .string s] w fun e w' => e = .returned (pair (sumOf k0 k1 s.data.toList) (sumOf k1 (inv k0) s.data.toList)) ∧ w.grownBy w' none := by
  have hi := q_inv k0
  obtain ⟨a, ha⟩ : ∃ a, sumOf k0 k1 s.data.toList = a := ⟨_, rfl⟩
  obtain ⟨b, hb⟩ : ∃ b, sumOf k1 (inv k0) s.data.toList = b := ⟨_, rfl⟩
  have hc0 := fun w => refsum_str k0 k1 s hs w
  have hc1 := fun w => refsum_str k1 (inv k0) s hs w
  rw [ha] at hc0 ⊢
  rw [hb] at hc1 ⊢
  have C0 := hid hc0; have C1 := hid hc1; clear ha hb hc0 hc1 hs
  go_enter Tryz.func50, Tryz.ntmps50
  go_wp2_with fail
  have hb : Box w k0 k1 49 83 ((w.alloc (.cells #[.int .u64 (q k0), .int .u64 (q k1)] 49)).alloc (.cells #[.int .u64 0, .int .u64 0] 83)) :=
    ⟨at_alloc (at_new w _) _, ⟨_, _, at_new2 w _ _⟩, gb_alloc (gb_alloc (.refl w none) _) _⟩
  have HB := hid hb; clear hb
  have hh := HB.out.keep
  have hsg : IntKind.u64.signed = false := rfl
  go_region_held3 (fun w' => w'.cell? ⟨w.heap.size, 0, none⟩ = some (.int .u64 (q k0)) ∧ w'.cell? ⟨w.heap.size, 1, none⟩ = some (.int .u64 (q k1)) ∧ Box w k0 k1 49 83 w')
    ((refine Box.keep (t := 49) (t' := 83) ?_; (repeat (first | assumption | with_reducible exact HB.out | with_reducible refine Box.drew ?_ | with_reducible refine Box.set1 ?_ _ | with_reducible refine Box.set0 ?_ _ | exact box_box (by assumption) | with_reducible refine Box.grown ?_ (by assumption)))))
    (first
      | (go_at_call 91; (with_reducible refine (C0.out _).mono ?_); rintro e wa ⟨rfl, hga⟩)
      | (go_at_call 91; (with_reducible refine (C1.out _).mono ?_); rintro e wb ⟨rfl, hgb⟩; obtain ⟨x, y, c0, c1, f0, f1⟩ := box_ans (by assumption) hgb; have hB := Box.grown (box_box (by assumption)) hgb))
  refine exit_gen (fun wx => wx.heap[w.heap.size + 1]? = some (.cells #[.int .u64 (q a), .int .u64 (q b)] 83) ∧ w.grownBy wx none) (hB.store _ _) ?_
  clear hB c0 c1 f0 f1 hga hgb hh
  intro wx ⟨hA, hG⟩
  have HA := hid hA; have HG := hid hG; clear hA hG
  obtain ⟨d0, d1⟩ := pair_cells HA.out
  go_wp2_with fail
  exact bodyPost_ret (v := pair a b) (by simp [results, Tryz.results50, go_sem, d0, d1]) rfl ⟨rfl, HG.out⟩

end Go.Proofs.YtfhifnhnkgdnlaaGreat
end
