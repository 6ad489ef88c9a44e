/-
  Contracts for the document's own reading of messages, its envelopes. The condition: strings of a modest length.
  Contract for the document's own envelopes: what is in bytes. The condition: strings of a modest length.
  Contracts for package wire and the document's own answer, each for whatever comes: put, seal, get, split. The conditions: bytes that read as bytes, of a modest length.
  What a walk keeps of the world: blocks known whole, slices that read as bytes; kept by whatever makes memory. No condition. Nothing of the program's functions is named here.
  Messages, keys, tags in blocks of their own; get and split of what was put and sealed. No condition.
  Contracts for what tells who is out: with nobody to ask, and with the one that names collector 2; and for the count of a holder's turns. No condition.
  What is taken, as a model: generations, of each collector the numbers of its generation and of the one ahead; and the program's object that holds it. No condition.
  Contracts for the document's own rings: what one is; Rotate and Set. The condition of a call: the ring lies there.
  What a derived key's words are sums of, in the document's own answer. The condition: strings of a modest length.
-/
import Derived.Test.YtfhifnhnkgdnlaaGreatJ0
import Derived.Test.YtfhifnhnkgdnlaaGreatY2
import Derived.Test.YtfhifnhnkgdnlaaGreatY3
import Derived.Test.YtfhifnhnkgdnlaaGreatY1
import Derived.Test.YtfhifnhnkgdnlaaGreatRows
import Derived.WalkKit
import Derived.WalkSpells
import Derived.WalkLawsBesides
import Derived.Defers
import Derived.Recover
import Derived.Laws.Pointers
import Derived.Laws.LoneSync
import Derived.Deep.RegionHeld3
section
set_option linter.unusedSimpArgs false
set_option linter.unusedVariables false
namespace Go.Proofs.YtfhifnhnkgdnlaaGreat
set_option maxRecDepth 100000
open Go.RowKit

theorem str_ne {a b : ByteArray} (h : ¬ a = b) : (a.toList == b.toList) = false := by
  rw [ByteArray.toList_eq, ByteArray.toList_eq]
  exact beq_eq_false_iff_ne.2 fun e => h (ByteArray.ext (Array.toList_inj.1 e))
theorem rput_as (m : Mg) (hm : mayOf m = true) (w : World) :
    Calls Tryz.prog 48 #[mg m] w fun e w' => e = .returned (.tuple #[.string ⟨(putOf m).toArray⟩, .int .i64 0]) ∧ w.grownBy w' none := by
  rw [← refPut_eq (may_of hm)]; exact rput_good m hm w

theorem drewZ {w wz : World} {o : Obj} (h : wz.heap[w.heap.size]? = some o ∧ w.grownBy wz none) : wz.drew.heap[w.heap.size]? = some o ∧ w.grownBy wz.drew none := ⟨h.1, gb_drew h.2⟩

set_option maxHeartbeats 3200000 in
theorem rget_walk (s : ByteArray) (hn : s.size = 32) (w : World) :
    Calls Tryz.prog 97 #[.string s] w fun e w' => e = .returned (.tuple #[mg (gotM s.data.toList), .int .i64 (gotC s.data.toList)]) ∧ w.grownBy w' none := by
  have hz4 : (s.extract 4 8).size = 4 := by rw [ByteArray.size_extract]; omega
  have hz8 : (s.extract 4 8 ++ ⟨#[0, 0, 0, 0]⟩).size = 8 := by rw [ByteArray.size_append, hz4]; rfl
  have hcat : (s.extract 4 8 ++ ⟨#[0, 0, 0, 0]⟩).data.toList = (s.data.toList.drop 4).take 4 ++ [0, 0, 0, 0] := by
    simp [List.extract_eq_take_drop]
  have g0 := fun w => refget_in (s.extract 4 8 ++ ⟨#[0, 0, 0, 0]⟩) 0 w (by rw [hz8]; unfold maxLen; decide) (by rw [hz8]; decide)
  rw [hcat] at g0
  have g1 := fun w => refget_in s 8 w (by rw [hn]; unfold maxLen; decide) (by rw [hn]; decide)
  have g2 := fun w => refget_in s 16 w (by rw [hn]; unfold maxLen; decide) (by rw [hn]; decide)
  have g3 := fun w => refget_in s 24 w (by rw [hn]; unfold maxLen; decide) (by rw [hn]; decide)
  have b1 := byteAt_bytes s 1 (by rw [hn]; decide)
  have b2 := byteAt_bytes s 2 (by rw [hn]; decide)
  have b3 := byteAt_bytes s 3 (by rw [hn]; decide)
  obtain ⟨r, hr⟩ : ∃ r, refReadOf s.data.toList = r := ⟨_, rfl⟩
  have e0 : ((byteAt s.data.toList 1).toNat : Int) = r.kind := by rw [← hr]; rfl
  have e1 : ((byteAt s.data.toList 2).toNat : Int) = r.who := by rw [← hr]; rfl
  have e3 : ((byteAt s.data.toList 3).toNat : Int) = r.metric := by rw [← hr]; rfl
  have e2 : wrap64 (q (wordAt ((s.data.toList.drop 4).take 4 ++ [0, 0, 0, 0]) 0 8)) = r.gen := by rw [← hr]; exact wrap_q _
  have e4 : wrap64 (q (wordAt s.data.toList 8 8)) = r.seq := by rw [← hr]; exact wrap_q _
  have e5 : wrap64 (q (wordAt s.data.toList 16 8)) = r.epoch := by rw [← hr]; exact wrap_q _
  have e6 : wrap64 (q (wordAt s.data.toList 24 8)) = r.value := by rw [← hr]; exact wrap_q _
  rw [b1] at e0; rw [b2] at e1; rw [b3] at e3
  clear b1 b2 b3
  have wb : ∀ (c : UInt8), IntKind.i64.wrap (c.toNat : Int) = (c.toNat : Int) := fun c => by rw [IntWalk.i64_left]; unfold wrap64; have := c.toNat_lt; omega
  have f0 : IntKind.i64.wrap r.kind = r.kind := by rw [← e0]; exact wb _
  have f1 : IntKind.i64.wrap r.who = r.who := by rw [← e1]; exact wb _
  have f3 : IntKind.i64.wrap r.metric = r.metric := by rw [← e3]; exact wb _
  clear wb
  generalize wordAt ((s.data.toList.drop 4).take 4 ++ [0, 0, 0, 0]) 0 8 = x0 at g0 e2
  generalize wordAt s.data.toList 8 8 = x1 at g1 e4
  generalize wordAt s.data.toList 16 8 = x2 at g2 e5
  generalize wordAt s.data.toList 24 8 = x3 at g3 e6
  have G0 := hid g0; have G1 := hid g1; have G2 := hid g2; have G3 := hid g3; have HR := hid hr; have HC := hid hcat
  clear g0 g1 g2 g3 hr hcat
  have f2 : IntKind.i64.wrap (q x0) = r.gen := by rw [IntWalk.i64_left]; exact e2
  have f4 : IntKind.i64.wrap (q x1) = r.seq := by rw [IntWalk.i64_left]; exact e4
  have f5 : IntKind.i64.wrap (q x2) = r.epoch := by rw [IntWalk.i64_left]; exact e5
  have f6 : IntKind.i64.wrap (q x3) = r.value := by rw [IntWalk.i64_left]; exact e6
  go_enter Tryz.func97, Tryz.ntmps97
  go_wp2_with fail
  refine (G0.out _).mono ?_
  rintro e w1 ⟨rfl, rfl⟩
  go_wp2_with fail
  refine (G1.out _).mono ?_
  rintro e w1 ⟨rfl, rfl⟩
  go_wp2_with fail
  refine (G2.out _).mono ?_
  rintro e w1 ⟨rfl, rfl⟩
  go_wp2_with fail
  refine (G3.out _).mono ?_
  rintro e w1 ⟨rfl, rfl⟩
  have z0 : (w.alloc (.cells zeroM.cells 39)).heap[w.heap.size]? = some (.cells zeroM.cells 39) ∧ w.grownBy (w.alloc (.cells zeroM.cells 39)) none := ⟨at_new w _, gb_alloc (.refl w none) _⟩
  go_wp2_with fail
  refine wp_gen (fun wz => wz.heap[w.heap.size]? = some (.cells zeroM.cells 39) ∧ w.grownBy wz none) z0 ?_
  clear z0
  intro wz hz
  have hsz := at_lt hz.1
  have Z := hid hz; clear hz
  have HZ1 := hid (Nat.ne_of_lt hsz); have HZ2 := hid (Nat.le_of_lt hsz); clear hsz
  refine wp_region_held_drew (S := (fun w' => (w'.heap[w.heap.size]? = some (.cells zeroM.cells 39)) ∧ (w.grownBy w' none))) (by kernel_rfl) (drewZ Z.out) (fun hHeld => ?_)
  try dsimp only at hHeld
  refine' jT 0 rfl (by rfl) ?_ hHeld ?_
  rotate_left
  · (intro w hSw; (try dsimp only at hSw); go_simp; try with_reducible rfl)
  try simp only [Act.put, jA, jB, jC, jD, jE, jF]
  refine' jT 1 rfl (by rfl) ?_ hHeld ?_
  rotate_left
  · (intro w hSw; (try dsimp only at hSw); go_simp; try with_reducible rfl)
  try simp only [Act.put, jA, jB, jC, jD, jE, jF]
  refine' jT 2 rfl (by rfl) ?_ hHeld ?_
  rotate_left
  · (intro w hSw; (try dsimp only at hSw); go_simp; try with_reducible rfl)
  try simp only [Act.put, jA, jB, jC, jD, jE, jF]
  refine' jT 3 rfl (by rfl) ?_ hHeld ?_
  rotate_left
  · (intro w hSw; (try dsimp only at hSw); go_simp; try with_reducible rfl)
  try simp only [Act.put, jA, jB, jC, jD, jE, jF]
  refine' jT 4 rfl (by rfl) ?_ hHeld ?_
  rotate_left
  · (intro w hSw; (try dsimp only at hSw); go_simp; try with_reducible rfl)
  try simp only [Act.put, jA, jB, jC, jD, jE, jF]
  refine' jT 5 rfl (by rfl) ?_ hHeld ?_
  rotate_left
  · (intro w hSw; (try dsimp only at hSw); go_simp; try with_reducible rfl)
  try simp only [Act.put, jA, jB, jC, jD, jE, jF]
  refine' jT 6 rfl (by rfl) ?_ hHeld ?_
  rotate_left
  · (intro w hSw; (try dsimp only at hSw); go_simp; try with_reducible rfl)
  try simp only [Act.put, jA, jB, jC, jD, jE, jF]
  refine' jT 7 rfl (by rfl) ?_ hHeld ?_
  rotate_left
  · (intro w hSw; (try dsimp only at hSw); go_simp; try with_reducible rfl)
  try simp only [Act.put, jA, jB, jC, jD, jE, jF]
  refine' jT 8 rfl (by rfl) ?_ hHeld ?_
  rotate_left
  · (intro w hSw; (try dsimp only at hSw); go_simp; try with_reducible rfl)
  try simp only [Act.put, jA, jB, jC, jD, jE, jF]
  refine' jT 9 rfl (by rfl) ?_ hHeld ?_
  rotate_left
  · (intro w hSw; (try dsimp only at hSw); go_simp; try with_reducible rfl)
  try simp only [Act.put, jA, jB, jC, jD, jE, jF]
  refine' jT 10 rfl (by rfl) ?_ hHeld ?_
  rotate_left
  · (intro w hSw; (try dsimp only at hSw); go_simp; try with_reducible rfl)
  try simp only [Act.put, jA, jB, jC, jD, jE, jF]
  refine' jT 11 rfl (by rfl) ?_ hHeld ?_
  rotate_left
  · (intro w hSw; (try dsimp only at hSw); go_simp; try with_reducible rfl)
  try simp only [Act.put, jA, jB, jC, jD, jE, jF]
  refine' jT 12 rfl (by rfl) ?_ hHeld ?_
  rotate_left
  · (intro w hSw; (try dsimp only at hSw); go_simp; try with_reducible rfl)
  try simp only [Act.put, jA, jB, jC, jD, jE, jF]
  refine' jT 13 rfl (by rfl) ?_ hHeld ?_
  rotate_left
  · (intro w hSw; (try dsimp only at hSw); go_simp; try with_reducible rfl)
  try simp only [Act.put, jA, jB, jC, jD, jE, jF]
  refine' jT 14 rfl (by rfl) ?_ hHeld ?_
  rotate_left
  · (intro w hSw; (try dsimp only at hSw); go_simp; try with_reducible rfl)
  try simp only [Act.put, jA, jB, jC, jD, jE, jF]
  refine' jT 15 rfl (by rfl) ?_ hHeld ?_
  rotate_left
  · (intro w hSw; (try dsimp only at hSw); go_simp; try with_reducible rfl)
  try simp only [Act.put, jA, jB, jC, jD, jE, jF]
  refine' jT 16 rfl (by rfl) ?_ hHeld ?_
  rotate_left
  · (intro w hSw; (try dsimp only at hSw); go_simp; try with_reducible rfl)
  try simp only [Act.put, jA, jB, jC, jD, jE, jF]
  refine' jT 17 rfl (by rfl) ?_ hHeld ?_
  rotate_left
  · (intro w hSw; (try dsimp only at hSw); go_simp; try with_reducible rfl)
  try simp only [Act.put, jA, jB, jC, jD, jE, jF]
  refine jR [18] ?_
  refine jG rfl (fun K hK => ?_) AllReadyH.nil
  have hH2 := hHeld
  obtain ⟨an, g⟩ := hH2
  have hg : wz.drew.grownBy (wz.drew.alloc (.cells zeroM.cells 39)) none := World.grownBy_alloc _ _ _
  have L18 := hid (show ((wz.drew.alloc (.cells zeroM.cells 39)).heap[w.heap.size]? = some (.cells zeroM.cells 39)) ∧ (w.grownBy (wz.drew.alloc (.cells zeroM.cells 39)) none) from ⟨at_grown an hg (by simp), gb_trans g hg (.inl rfl)⟩)
  clear hHeld hg an g
  try simp only [jD, jE, jF]
  go_simp
  refine hK.out _ _ ?_ (fun hHeld => ?_)
  · exact L18.out
  clear hK K
  try dsimp only at hHeld
  try simp only [Act.put, jA, jB, jC, jD, jE, jF]
  refine jR [19] ?_
  refine jG rfl (fun K hK => ?_) AllReadyH.nil
  have hH2 := hHeld
  obtain ⟨an, g⟩ := hH2
  have L19 := hid (show ((((wz.drew.alloc (.cells zeroM.cells 39))).setRow wz.heap.size r.cells).heap[w.heap.size]? = some (.cells zeroM.cells 39)) ∧ (w.grownBy (((wz.drew.alloc (.cells zeroM.cells 39))).setRow wz.heap.size r.cells) none) from ⟨at_setRow_other an HZ1.out, gb_setRow g HZ2.out⟩)
  have Nbx := hid (show (((wz.drew.alloc (.cells zeroM.cells 39))).setRow wz.heap.size r.cells).heap[wz.heap.size]? = some (.cells r.cells 39) from (at_setRow (at_new wz.drew _)))
  have A19 := hid (at_new wz.drew (.cells zeroM.cells 39))
  clear hHeld an g
  try simp only [jD, jE, jF]
  rw [if_pos (by rfl)]
  refine wp_store_row (cs := r.cells) A19.out (by kernel_rfl) (by kernel_rfl) (by kernel_rfl) rfl rfl rfl rfl ?_
  refine hK.out _ _ ?_ (fun hHeld => ?_)
  · exact L19.out
  clear hK K
  try dsimp only at hHeld
  try simp only [Act.put, jA, jB, jC, jD, jE, jF]
  refine held_stronger (S' := fun w' => (fun w' => w'.heap[wz.heap.size]? = some (.cells r.cells 39)) w' ∧ ((fun w' => (w'.heap[w.heap.size]? = some (.cells zeroM.cells 39)) ∧ (w.grownBy w' none))) w') (fun _ h => h.2) _ _ _ _ ?_
  replace hHeld := And.intro Nbx.out hHeld
  try dsimp only at hHeld
  refine wpAnyH_done (by kernel_rfl) ?_ _
  obtain ⟨bx, an, g⟩ := hHeld
  have BX := hid bx; have AN := hid an; have G := hid g; clear bx an g
  obtain ⟨b, hb⟩ : ∃ b, mayOf r = b := ⟨_, rfl⟩
  have HB := hid hb
  cases b
  · have GR := hid (show gotM s.data.toList = zeroM ∧ gotC s.data.toList = 2 by
      refine gotM_none ?_
      rw [← refGet_eq]; unfold refGetOf
      rw [if_neg (by rintro ⟨_, h, _⟩; rw [HR.out] at h; unfold mayOf at hb; exact absurd (decide_eq_true h) (by rw [hb]; decide))])
    have C := hid (fun w => rput_bad r hb w); clear hb
    go_wp2_with (refine wpList_row BX.out Tryz.underlying39 rfl (by kernel_rfl) rfl rfl rfl rfl ?_)
    refine (C.out _).mono ?_
    rintro e w8 ⟨rfl, hg⟩
    have AN8 := hid (at_grown AN.out hg (by simp)); have G8 := hid (gb_trans G.out hg (.inl rfl)); clear hg
    have z := msg_cells (at_setRow (cs := zeroM.cells) AN8.out)
    obtain ⟨d0, d1, d2, d3, d4, d5, d6⟩ := z
    go_wp2_with (first | refine wpList_buildTo (ty := 39) (cs := zeroM.cells) rfl rfl rfl (by kernel_rfl) ?_ | refine wpList_store_row (old := zeroM.cells) (cs := zeroM.cells) AN8.out (by kernel_rfl) (by kernel_rfl) (by kernel_rfl) rfl rfl rfl rfl rfl ?_)
    exact bodyPost_ret (v := .tuple #[mg zeroM, .int .i64 2]) (by simp [results, Tryz.results97, go_sem, d0, d1, d2, d3, d4, d5, d6]) rfl ⟨ret_msg GR.out, gb_setRow G8.out (Nat.le_refl _)⟩
  · have hp := refPut_eq (may_of hb)
    have hrd : refReadOf s.data.toList = r := HR.out
    obtain ⟨sp, hsp⟩ : ∃ sp : ByteArray, sp = ⟨(putOf r).toArray⟩ := ⟨_, rfl⟩
    have hc := fun w => rput_as r hb w
    rw [← hsp] at hc
    have hm := may_of hb
    clear hb HB
    by_cases heq : sp = s
    · have hl : putOf r = s.data.toList := by rw [← heq, hsp]
      have GR := hid (show gotM s.data.toList = r ∧ gotC s.data.toList = 0 from gotM_some (by rw [← hl]; exact get_put hm))
      subst heq
      have C := hid hc; clear hc hl hsp hp hm hrd
      go_wp2_with (refine wpList_row BX.out Tryz.underlying39 rfl (by kernel_rfl) rfl rfl rfl rfl ?_)
      refine (C.out _).mono ?_
      rintro e w8 ⟨rfl, hg⟩
      have AN8 := hid (at_grown AN.out hg (by simp)); have BX8 := hid (at_grown BX.out hg (by simp)); have G8 := hid (gb_trans G.out hg (.inl rfl)); clear hg
      have z := msg_cells (at_setRow (cs := r.cells) AN8.out)
      obtain ⟨d0, d1, d2, d3, d4, d5, d6⟩ := z
      go_wp2_with (first | refine wpList_row BX8.out Tryz.underlying39 rfl (by kernel_rfl) rfl rfl rfl rfl ?_ | refine wpList_store_row (old := zeroM.cells) (cs := r.cells) AN8.out (by kernel_rfl) (by kernel_rfl) (by kernel_rfl) rfl rfl rfl rfl rfl ?_)
      exact bodyPost_ret (v := .tuple #[mg r, .int .i64 0]) (by simp [results, Tryz.results97, go_sem, d0, d1, d2, d3, d4, d5, d6]) rfl ⟨ret_msg GR.out, gb_setRow G8.out (Nat.le_refl _)⟩
    · have GR := hid (show gotM s.data.toList = zeroM ∧ gotC s.data.toList = 2 by
        refine gotM_none ?_
        rw [← refGet_eq]; unfold refGetOf
        rw [if_neg (by
          rintro ⟨_, _, h⟩
          rw [hrd, hp] at h
          exact heq (by rw [hsp]; apply ByteArray.ext; simp [h]))])
      have hne : (sp.toList == s.toList) = false := str_ne heq
      have hne2 : (!(sp.toList == s.toList)) = true := by rw [hne]; rfl
      have hne3 : (sp.toList != s.toList) = true := by simp only [bne, hne]; rfl
      have C := hid hc; clear hc hsp hp hm hrd heq
      go_wp2_with (refine wpList_row BX.out Tryz.underlying39 rfl (by kernel_rfl) rfl rfl rfl rfl ?_)
      refine (C.out _).mono ?_
      rintro e w8 ⟨rfl, hg⟩
      have AN8 := hid (at_grown AN.out hg (by simp)); have G8 := hid (gb_trans G.out hg (.inl rfl)); clear hg
      have z := msg_cells (at_setRow (cs := zeroM.cells) AN8.out)
      obtain ⟨d0, d1, d2, d3, d4, d5, d6⟩ := z
      go_wp2_with (first | refine wpList_buildTo (ty := 39) (cs := zeroM.cells) rfl rfl rfl (by kernel_rfl) ?_ | refine wpList_store_row (old := zeroM.cells) (cs := zeroM.cells) AN8.out (by kernel_rfl) (by kernel_rfl) (by kernel_rfl) rfl rfl rfl rfl rfl ?_)
      exact bodyPost_ret (v := .tuple #[mg zeroM, .int .i64 2]) (by simp [results, Tryz.results97, go_sem, d0, d1, d2, d3, d4, d5, d6]) rfl ⟨ret_msg GR.out, gb_setRow G8.out (Nat.le_refl _)⟩
end Go.Proofs.YtfhifnhnkgdnlaaGreat
end
section
set_option linter.unusedSimpArgs false
set_option linter.unusedVariables false
namespace Go.Proofs.YtfhifnhnkgdnlaaGreat
set_option maxRecDepth 100000
open Go.RowKit

theorem word_drop (l : List UInt8) (i m : Nat) : ∀ k, wordAt (l.drop i) m k = wordAt l (i + m) k
  | 0 => rfl
  | k + 1 => by
    rw [← wordAt_succ, ← wordAt_succ, word_drop l i m k]
    have : byteAt (l.drop i) (m + k) = byteAt l (i + m + k) := by simp [byteAt, List.getElem?_drop, Nat.add_assoc]
    rw [this]
def noRSplit : Value := .tuple #[mg zeroM, .string ⟨#[]⟩, pair 0 0, .int .i64 2]
set_option maxHeartbeats 1600000 in
theorem rsplit_bad (s : ByteArray) (hn : s.size ≠ 48) (h1 : s.size ≤ 100000) (w : World) :
    Calls Tryz.prog 59 #[.string s] w fun e w' => e = .returned noRSplit ∧ w.grownBy w' none := by
  have h2 : (s.size : Int) ≠ 48 := by omega
  go_enter Tryz.func59, Tryz.ntmps59
  go_wp2_with fail
  exact bodyPost_ret (v := .tuple #[mg zeroM, .string ⟨#[]⟩, pair 0 0, .int .i64 2]) (by simp [results, Tryz.results59, go_sem, zeroM]; decide) rfl ⟨rfl, gb_alloc (gb_alloc (.refl w none) _) _⟩

theorem rget_as (l : List UInt8) (m : Mg) (k : Int) (h : gotM l = m ∧ gotC l = k) (s : ByteArray) (hs : s.data.toList = l) (hn : s.size = 32) (w : World) :
    Calls Tryz.prog 97 #[.string s] w fun e w' => e = .returned (.tuple #[mg m, .int .i64 k]) ∧ w.grownBy w' none := by
  obtain ⟨rfl, rfl⟩ := h; subst hs; exact rget_walk s hn w

set_option maxHeartbeats 1600000 in
theorem rsplit_no (s : ByteArray) (hn : s.size = 48) (hno : getOf (s.data.toList.take 32) = none) (w : World) :
    Calls Tryz.prog 59 #[.string s] w fun e w' => e = .returned noRSplit ∧ w.grownBy w' none := by
  have hz : (s.extract 0 32).size = 32 := by rw [ByteArray.size_extract]; omega
  have hl : (s.extract 0 32).data.toList = s.data.toList.take 32 := by simp [List.extract_eq_take_drop]
  have C := hid (rget_as _ zeroM 2 (gotM_none hno) (s.extract 0 32) hl hz)
  clear hno hl
  have hg0 : w.grownBy ((w.alloc (.cells zeroM.cells 39)).alloc (.cells #[.int .u64 0, .int .u64 0] 83)) none := gb_alloc (gb_alloc (.refl w none) _) _
  have H0 := hid (sp_new w); have G0 := hid hg0; clear hg0
  go_enter Tryz.func59, Tryz.ntmps59
  go_wp2_with fail
  refine (C.out _).mono ?_
  rintro e w1 ⟨rfl, hg⟩
  have A := hid (at_grown H0.out.1 hg (by simp)); have B := hid (at_grown H0.out.2 hg (by simp)); have G1 := hid (gb_trans G0.out hg (.inl rfl)); clear hg H0 G0
  go_wp2_with (first | refine wpList_store_new (w := w1) (cs := zeroM.cells) rfl (by kernel_rfl) (by kernel_rfl) (by kernel_rfl) rfl rfl rfl rfl rfl ?_ | refine wpList_buildTo (ty := 39) (cs := zeroM.cells) rfl rfl rfl (by kernel_rfl) ?_ | refine wpList_store_row (old := zeroM.cells) (cs := zeroM.cells) (at_alloc A.out _) (by kernel_rfl) (by kernel_rfl) (by kernel_rfl) rfl rfl rfl rfl rfl ?_ | refine wpList_store_row (old := #[.int .u64 0, .int .u64 0]) (cs := #[.int .u64 0, .int .u64 0]) (at_setRow_other (b := w.heap.size) (at_alloc B.out _) (by omega)) (by kernel_rfl) (by kernel_rfl) (by kernel_rfl) rfl rfl rfl rfl rfl ?_)
  obtain ⟨d0, d1, d2, d3, d4, d5, d6⟩ := msg_cells (at_setRow_other (cs := #[.int .u64 0, .int .u64 0]) (at_setRow (cs := zeroM.cells) (at_alloc A.out (.cells zeroM.cells 39))) (show w.heap.size ≠ w.heap.size + 1 by omega))
  have ht := at_setRow (cs := #[.int .u64 0, .int .u64 0]) (at_setRow_other (cs := zeroM.cells) (at_alloc B.out (.cells zeroM.cells 39)) (show w.heap.size + 1 ≠ w.heap.size by omega))
  have t0 := at_cell ht 0
  have t1 := at_cell ht 1
  exact bodyPost_ret (v := noRSplit) (by simp [results, Tryz.results59, go_sem, d0, d1, d2, d3, d4, d5, d6, t0, t1]; rfl) rfl ⟨rfl, gb_setRow (gb_setRow (gb_alloc G1.out _) (Nat.le_refl _)) (by omega)⟩

set_option maxHeartbeats 3200000 in
theorem rsplit_yes (s : ByteArray) (hn : s.size = 48) (m : Mg) (hno : getOf (s.data.toList.take 32) = some m) (a b : BitVec 64) (ha : wordAt (s.data.toList.drop 32) 0 8 = a) (hb : wordAt (s.data.toList.drop 32) 8 8 = b) (w : World) :
    Calls Tryz.prog 59 #[.string s] w fun e w' => e = .returned (.tuple #[mg m, .string (s.extract 0 32), pair a b, .int .i64 0]) ∧ w.grownBy w' none := by
  have hz : (s.extract 0 32).size = 32 := by rw [ByteArray.size_extract]; omega
  have hl : (s.extract 0 32).data.toList = s.data.toList.take 32 := by simp [List.extract_eq_take_drop]
  have C := hid (rget_as _ m 0 (gotM_some hno) (s.extract 0 32) hl hz)
  rw [word_drop] at ha hb
  have g1 := fun w => refget_in s 32 w (by rw [hn]; unfold maxLen; decide) (by rw [hn]; decide)
  have g2 := fun w => refget_in s 40 w (by rw [hn]; unfold maxLen; decide) (by rw [hn]; decide)
  rw [show wordAt s.data.toList 32 8 = a from ha] at g1
  rw [show wordAt s.data.toList 40 8 = b from hb] at g2
  have G1 := hid g1; have G2 := hid g2
  clear hno hl g1 g2 ha hb
  have hg0 : w.grownBy ((w.alloc (.cells zeroM.cells 39)).alloc (.cells #[.int .u64 0, .int .u64 0] 83)) none := gb_alloc (gb_alloc (.refl w none) _) _
  have H0 := hid (sp_new w); have G0 := hid hg0; clear hg0
  go_enter Tryz.func59, Tryz.ntmps59
  go_wp2_with fail
  refine (C.out _).mono ?_
  rintro e w1 ⟨rfl, hg⟩
  have A1 := hid (at_grown H0.out.1 hg (by simp)); have B1 := hid (at_grown H0.out.2 hg (by simp)); have G3 := hid (gb_trans G0.out hg (.inl rfl)); clear hg H0 G0
  go_wp2_with (first | refine wpList_store_new (w := w1) (cs := m.cells) rfl (by kernel_rfl) (by kernel_rfl) (by kernel_rfl) rfl rfl rfl rfl rfl ?_)
  refine (G1.out _).mono ?_
  rintro e w2 ⟨rfl, rfl⟩
  go_wp2_with fail
  refine (G2.out _).mono ?_
  rintro e w2 ⟨rfl, rfl⟩
  have hsz : w.heap.size + 1 < w1.heap.size := at_lt B1.out
  have z0 : (w1.alloc (.cells m.cells 39)).heap[w1.heap.size]? = some (.cells m.cells 39) := at_new w1 _
  have A2 := hid (at_alloc A1.out (.cells m.cells 39)); have B2 := hid (at_alloc B1.out (.cells m.cells 39)); have G4 := hid (gb_alloc G3.out (.cells m.cells 39))
  have HX2 := hid z0
  clear z0 A1 B1 G3
  go_wp2_with fail
  refine wp_gen (fun wz => wz.heap[w.heap.size]? = some (.cells zeroM.cells 39) ∧ wz.heap[w.heap.size + 1]? = some (.cells #[.int .u64 0, .int .u64 0] 83) ∧ wz.heap[w1.heap.size]? = some (.cells m.cells 39) ∧ w.grownBy wz none) ⟨A2.out, B2.out, HX2.out, G4.out⟩ ?_
  clear A2 B2 HX2 G4
  generalize w1.heap.size = x at hsz ⊢
  intro wz ⟨hA, hB, hX, hG⟩
  have A := hid hA; have B := hid (show wz.drew.heap[w.heap.size + 1]? = some (.cells #[.int .u64 0, .int .u64 0] 83) from hB); have HX := hid (show wz.drew.heap[x]? = some (.cells m.cells 39) from hX); have G := hid hG
  clear hA hB hX hG
  refine wp_region_held_drew (S := (fun w' => (w'.heap[x]? = some (.cells m.cells 39)))) (by kernel_rfl) HX.out (fun hHeld => ?_)
  try dsimp only at hHeld
  refine' jT 0 rfl (by rfl) ?_ hHeld ?_
  rotate_left
  · (intro w hSw; (try dsimp only at hSw); (try simp only [jD, jE, jF]); refine exec_row (x := .tmp 6) hSw Tryz.underlying39 rfl (by kernel_rfl) ?_ ?_ <;> rfl)
  try simp only [Act.put, jA, jB, jC, jD, jE, jF]
  refine' jT 1 rfl (by rfl) ?_ hHeld ?_
  rotate_left
  · (intro w hSw; (try dsimp only at hSw); go_simp; try with_reducible rfl)
  try simp only [Act.put, jA, jB, jC, jD, jE, jF]
  refine' jT 2 rfl (by rfl) ?_ hHeld ?_
  rotate_left
  · (intro w hSw; (try dsimp only at hSw); go_simp; try with_reducible rfl)
  try simp only [Act.put, jA, jB, jC, jD, jE, jF]
  refine' jT 3 rfl (by rfl) ?_ hHeld ?_
  rotate_left
  · (intro w hSw; (try dsimp only at hSw); go_simp; try with_reducible rfl)
  try simp only [Act.put, jA, jB, jC, jD, jE, jF]
  refine' jT 4 rfl (by rfl) ?_ hHeld ?_
  rotate_left
  · (intro w hSw; (try dsimp only at hSw); go_simp; try with_reducible rfl)
  try simp only [Act.put, jA, jB, jC, jD, jE, jF]
  refine' jT 5 rfl (by rfl) ?_ hHeld ?_
  rotate_left
  · (intro w hSw; (try dsimp only at hSw); go_simp; try with_reducible rfl)
  try simp only [Act.put, jA, jB, jC, jD, jE, jF]
  refine jR [6] ?_
  refine jG rfl (fun K hK => ?_) AllReadyH.nil
  have hH2 := hHeld
  have hx := hH2
  have L6 := hid (show (((wz.drew).setRow w.heap.size m.cells).heap[x]? = some (.cells m.cells 39)) from at_setRow_other hx (by omega))
  have A6 := hid (A.out)
  clear hHeld hx
  try simp only [jD, jE, jF]
  rw [if_pos (by rfl)]
  refine wp_store_row (cs := m.cells) A6.out (by kernel_rfl) (by kernel_rfl) (by kernel_rfl) rfl rfl rfl rfl ?_
  refine hK.out _ _ ?_ (fun hHeld => ?_)
  · exact L6.out
  clear hK K
  try dsimp only at hHeld
  try simp only [Act.put, jA, jB, jC, jD, jE, jF]
  refine' jT 7 rfl (by rfl) ?_ hHeld ?_
  rotate_left
  · (intro w hSw; (try dsimp only at hSw); go_simp; try with_reducible rfl)
  try simp only [Act.put, jA, jB, jC, jD, jE, jF]
  refine jR [8] ?_
  refine jG rfl (fun K hK => ?_) AllReadyH.nil
  have hH2 := hHeld
  have hx := hH2
  have L8 := hid (show ((((wz.drew).setRow w.heap.size m.cells).setRow (w.heap.size + 1) #[.int .u64 (q a), .int .u64 (q b)]).heap[x]? = some (.cells m.cells 39)) from at_setRow_other hx (by omega))
  have A8 := hid (at_setRow_other (cs := m.cells) (b := w.heap.size) B.out (by omega))
  clear hHeld hx
  try simp only [jD, jE, jF]
  rw [if_pos (by rfl)]
  refine wp_store_row (cs := #[.int .u64 (q a), .int .u64 (q b)]) A8.out (by kernel_rfl) (by kernel_rfl) (by kernel_rfl) rfl rfl rfl rfl ?_
  refine hK.out _ _ ?_ (fun hHeld => ?_)
  · exact L8.out
  clear hK K
  try dsimp only at hHeld
  try simp only [Act.put, jA, jB, jC, jD, jE, jF]
  refine' jT 9 rfl (by rfl) ?_ hHeld ?_
  rotate_left
  · (intro w hSw; (try dsimp only at hSw); go_simp; try with_reducible rfl)
  try simp only [Act.put, jA, jB, jC, jD, jE, jF]
  refine wpAnyH_done (by kernel_rfl) ?_ _
  have hx := hHeld
  clear hx
  have hd := at_setRow_other (cs := #[.int .u64 (q a), .int .u64 (q b)]) (at_setRow (cs := m.cells) (at_drew A.out)) (show w.heap.size ≠ w.heap.size + 1 by omega)
  obtain ⟨d0, d1, d2, d3, d4, d5, d6⟩ := msg_cells hd
  have ht := at_setRow (cs := #[.int .u64 (q a), .int .u64 (q b)]) (at_setRow_other (cs := m.cells) B.out (show w.heap.size + 1 ≠ w.heap.size by omega))
  have t0 := at_cell ht 0
  have t1 := at_cell ht 1
  have GG := hid (gb_setRow (cs := #[.int .u64 (q a), .int .u64 (q b)]) (gb_setRow (cs := m.cells) (gb_drew G.out) (Nat.le_refl _)) (show w.heap.size ≤ w.heap.size + 1 by omega))
  clear hd ht
  go_wp2_with fail
  exact bodyPost_ret (v := .tuple #[mg m, .string (s.extract 0 32), pair a b, .int .i64 0]) (by simp [results, Tryz.results59, go_sem, d0, d1, d2, d3, d4, d5, d6, t0, t1]) rfl ⟨rfl, GG.out⟩
end Go.Proofs.YtfhifnhnkgdnlaaGreat
end
section
set_option linter.unusedSimpArgs false
set_option linter.unusedVariables false
namespace Go.Proofs.YtfhifnhnkgdnlaaGreat
set_option maxRecDepth 100000
open Go.RowKit

def putC (m : Mg) : Int := if mayOf m = true then 0 else 1
def sealB (k0 k1 : BitVec 64) (m : Mg) : List UInt8 := if mayOf m = true then sealOf k0 k1 m else []
/-- what is in an envelope's bytes -/
def cutOf (l : List UInt8) : Option Mg := if l.length = 48 then getOf (l.take 32) else none
def spM (l : List UInt8) : Mg := (cutOf l).getD zeroM
def spX (l : List UInt8) : List UInt8 := if (cutOf l).isSome then l.take 32 else []
def spA (l : List UInt8) : BitVec 64 := if (cutOf l).isSome then wordAt (l.drop 32) 0 8 else 0
def spB (l : List UInt8) : BitVec 64 := if (cutOf l).isSome then wordAt (l.drop 32) 8 8 else 0
def spC (l : List UInt8) : Int := if (cutOf l).isSome then 0 else 2
theorem split_all (v : Value) (l : List UInt8) (w : World) (hl : BytesAt w v l) :
    Calls Tryz.prog 53 #[v] w fun e w' => ∃ u, e = .returned (.tuple #[mg (spM l), u, pair (spA l) (spB l), .int .i64 (spC l)]) ∧ OwnB w.heap.size w' u (spX l) ∧ w.grownBy w' none := by
  unfold spM spX spA spB spC
  by_cases h : l.length = 48
  · obtain ⟨ab, ao, c, rfl, hc⟩ := hl.cells (by omega)
    have hcap : 48 ≤ c ∧ c ≤ maxLen := by
      rcases hl with ⟨e, _⟩ | ⟨a, cap, e, h1, h2, _⟩
      · cases e
      · cases e; omega
    rw [h] at hl ⊢
    cases hg : cutOf l with
    | none =>
      have hg' : getOf (l.take 32) = none := by unfold cutOf at hg; rwa [if_pos h] at hg
      exact (split_no ab ao c hcap.1 hcap.2 l h hg' w hl).mono fun e w' ⟨he, hgr⟩ => ⟨_, he, OwnB.nil _ _, hgr⟩
    | some m =>
      have hg' : getOf (l.take 32) = some m := by unfold cutOf at hg; rwa [if_pos h] at hg
      exact (split_yes ab ao c hcap.1 hcap.2 l h m hg' _ _ rfl rfl w hl).mono fun e w' ⟨u, he, ho, hgr⟩ => ⟨u, he, ho, hgr⟩
  · obtain ⟨p, c, rfl⟩ := hl.form
    have hg : cutOf l = none := by unfold cutOf; rw [if_neg h]
    rw [hg]
    exact (split_bad p _ c h w).mono fun e w' ⟨he, hgr⟩ => ⟨_, he, OwnB.nil _ _, hgr⟩
theorem rsplit_all (s : ByteArray) (l : List UInt8) (hs : s.data.toList = l) (h1 : s.size ≤ 100000) (w : World) :
    Calls Tryz.prog 59 #[.string s] w fun e w' => e = .returned (.tuple #[mg (spM l), .string ⟨(spX l).toArray⟩, pair (spA l) (spB l), .int .i64 (spC l)]) ∧ w.grownBy w' none := by
  have hsz : l.length = s.size := by rw [← hs]; simp
  unfold spM spX spA spB spC
  by_cases h : s.size = 48
  · cases hg : cutOf l with
    | none =>
      have hg' : getOf (s.data.toList.take 32) = none := by unfold cutOf at hg; rw [if_pos (by omega)] at hg; rwa [hs]
      exact rsplit_no s h hg' w
    | some m =>
      have hg' : getOf (s.data.toList.take 32) = some m := by unfold cutOf at hg; rw [if_pos (by omega)] at hg; rwa [hs]
      have hx : s.extract 0 32 = ⟨(l.take 32).toArray⟩ := by apply ByteArray.ext; rw [← hs]; apply Array.toList_inj.1; simp [List.extract_eq_take_drop]
      have := rsplit_yes s h m hg' _ _ (by rw [hs]) (by rw [hs]) w
      rw [hx] at this
      exact this
  · have hg : cutOf l = none := by unfold cutOf; rw [if_neg (by omega)]
    rw [hg]
    exact rsplit_bad s h h1 w
/-- an envelope splits into what was sealed -/
theorem cut_seal {m : Mg} (h : mayOf m = true) (k0 k1 : BitVec 64) : cutOf (sealOf k0 k1 m) = some m := by
  unfold cutOf
  rw [if_pos (sealOf_length k0 k1 m)]
  have : (sealOf k0 k1 m).take 32 = putOf m := by unfold sealOf; rw [List.take_left' (putOf_length m)]
  rw [this]; exact get_put (may_of h)
theorem sp_seal {m : Mg} (h : mayOf m = true) (k0 k1 : BitVec 64) :
    spM (sealOf k0 k1 m) = m ∧ spX (sealOf k0 k1 m) = putOf m ∧ spA (sealOf k0 k1 m) = sumOf k0 k1 (putOf m) ∧ spB (sealOf k0 k1 m) = sumOf k1 (inv k0) (putOf m) ∧ spC (sealOf k0 k1 m) = 0 := by
  have hc := cut_seal h k0 k1
  have ht : (sealOf k0 k1 m).take 32 = putOf m := by unfold sealOf; rw [List.take_left' (putOf_length m)]
  have hd : (sealOf k0 k1 m).drop 32 = putAll [sumOf k0 k1 (putOf m), sumOf k1 (inv k0) (putOf m)] := by
    unfold sealOf; rw [List.drop_left' (putOf_length m)]; simp [tagB, putAll]
  unfold spM spX spA spB spC
  rw [hc, ht, hd]
  exact ⟨rfl, rfl, word_at _ 0 (by simp), word_at _ 1 (by simp), rfl⟩
end Go.Proofs.YtfhifnhnkgdnlaaGreat
end
section
namespace Go.Proofs.YtfhifnhnkgdnlaaGreat
set_option maxRecDepth 100000
open Go.RowKit

structure Kp (w0 : World) (bs : List (Nat × Obj)) (ys : List (Value × List UInt8)) (w : World) : Prop where
  g : w0.grownBy w none
  bl : ∀ x ∈ bs, w.heap[x.1]? = some x.2
  yl : ∀ x ∈ ys, BytesAt w x.1 x.2
section
variable {w0 w w1 : World} {bs : List (Nat × Obj)} {ys : List (Value × List UInt8)} {b : Nat} {o : Obj} {v : Value} {l : List UInt8} {x0 x1 x2 x3 x4 x5 x6 : Nat × Obj} {z0 z1 z2 z3 z4 z5 : Value × List UInt8}
theorem kp_start (w : World) : Kp w [] [] w := ⟨.refl w none, (fun _ h => by cases h), (fun _ h => by cases h)⟩
theorem Kp.grown (h : Kp w0 bs ys w) (hg : w.grownBy w1 none) : Kp w0 bs ys w1 :=
  ⟨gb_trans h.g hg (.inl rfl), fun x hx => at_grown (h.bl x hx) hg (by simp), fun x hx => (h.yl x hx).grown hg (by simp)⟩
theorem Kp.drew (h : Kp w0 bs ys w) : Kp w0 bs ys w.drew := ⟨gb_drew h.g, fun x hx => h.bl x hx, fun x hx => (h.yl x hx).drew⟩
theorem Kp.add (h : Kp w0 bs ys w) (k : w.heap[b]? = some o) : Kp w0 ((b, o) :: bs) ys w :=
  ⟨h.g, (fun x hx => (List.mem_cons.1 hx).elim (fun e => by rw [e]; exact k) (h.bl x)), h.yl⟩
theorem Kp.addY (h : Kp w0 bs ys w) (k : BytesAt w v l) : Kp w0 bs ((v, l) :: ys) w :=
  ⟨h.g, h.bl, (fun x hx => (List.mem_cons.1 hx).elim (fun e => by rw [e]; exact k) (h.yl x))⟩
theorem Kp.alloc (h : Kp w0 bs ys w) (o : Obj) : Kp w0 ((w.heap.size, o) :: bs) ys (w.alloc o) := (h.grown (World.grownBy_alloc w o none)).add (at_new w o)
theorem Kp.size (h : Kp w0 bs ys w) : w0.heap.size ≤ w.heap.size := gb_size h.g
theorem Kp.tail (h : Kp w0 (x0 :: bs) ys w) : Kp w0 bs ys w := ⟨h.g, fun x hx => h.bl x (List.mem_cons_of_mem _ hx), h.yl⟩
theorem Kp.tailY (h : Kp w0 bs (z0 :: ys) w) : Kp w0 bs ys w := ⟨h.g, h.bl, fun x hx => h.yl x (List.mem_cons_of_mem _ hx)⟩
theorem Kp.b0 (h : Kp w0 ((b, o) :: bs) ys w) : w.heap[b]? = some o := h.bl (b, o) (by simp)
theorem Kp.b1 (h : Kp w0 (x0 :: (b, o) :: bs) ys w) : w.heap[b]? = some o := h.tail.b0
theorem Kp.b2 (h : Kp w0 (x0 :: x1 :: (b, o) :: bs) ys w) : w.heap[b]? = some o := h.tail.b1
theorem Kp.b3 (h : Kp w0 (x0 :: x1 :: x2 :: (b, o) :: bs) ys w) : w.heap[b]? = some o := h.tail.b2
theorem Kp.b4 (h : Kp w0 (x0 :: x1 :: x2 :: x3 :: (b, o) :: bs) ys w) : w.heap[b]? = some o := h.tail.b3
theorem Kp.b5 (h : Kp w0 (x0 :: x1 :: x2 :: x3 :: x4 :: (b, o) :: bs) ys w) : w.heap[b]? = some o := h.tail.b4
theorem Kp.b6 (h : Kp w0 (x0 :: x1 :: x2 :: x3 :: x4 :: x5 :: (b, o) :: bs) ys w) : w.heap[b]? = some o := h.tail.b5
theorem Kp.b7 (h : Kp w0 (x0 :: x1 :: x2 :: x3 :: x4 :: x5 :: x6 :: (b, o) :: bs) ys w) : w.heap[b]? = some o := h.tail.b6
theorem Kp.y0 (h : Kp w0 bs ((v, l) :: ys) w) : BytesAt w v l := h.yl (v, l) (by simp)
theorem Kp.y1 (h : Kp w0 bs (z0 :: (v, l) :: ys) w) : BytesAt w v l := h.tailY.y0
theorem Kp.y2 (h : Kp w0 bs (z0 :: z1 :: (v, l) :: ys) w) : BytesAt w v l := h.tailY.y1
theorem Kp.y3 (h : Kp w0 bs (z0 :: z1 :: z2 :: (v, l) :: ys) w) : BytesAt w v l := h.tailY.y2
theorem Kp.y4 (h : Kp w0 bs (z0 :: z1 :: z2 :: z3 :: (v, l) :: ys) w) : BytesAt w v l := h.tailY.y3
theorem Kp.y5 (h : Kp w0 bs (z0 :: z1 :: z2 :: z3 :: z4 :: (v, l) :: ys) w) : BytesAt w v l := h.tailY.y4
/-- a store of a whole row into the block at hand, which is the call's own; the slices lie elsewhere -/
theorem Kp.set {cs old : Array Value} {t : TypeId} (h : Kp w0 ((b, .cells old t) :: bs) ys w) (hb : w0.heap.size ≤ b) (hne : ∀ x ∈ bs, x.1 ≠ b) (hy : ∀ x ∈ ys, x.2 = [] ∨ ∀ a n c, x.1 = .slice (some a) n c → a.block ≠ b) :
    Kp w0 ((b, .cells cs t) :: bs) ys (w.setRow b cs) := by
  have hgr : w.grownBy (w.setRow b cs) (some b) := ⟨rfl, rfl, rfl, by simp [World.setRow], fun k hk hr => by simp [World.setRow, Array.getElem?_modify, show b ≠ k by intro e; exact hr (by rw [e])]⟩
  refine ⟨gb_trans h.g hgr (.inr (.inr ⟨b, rfl, hb⟩)), fun x hx => ?_, fun x hx => (h.yl x hx).grown hgr (fun k e => by cases e; exact .inr (hy x hx))⟩
  rcases List.mem_cons.1 hx with rfl | hx
  · exact at_setRow h.b0
  · exact at_setRow_other (h.bl x (List.mem_cons_of_mem _ hx)) (hne x hx)
end

/-- a slice of the call's own was written to; all that is kept lies below -/
theorem Kp.own {w0 w w1 : World} {bs : List (Nat × Obj)} {ys : List (Value × List UInt8)} {base : Nat} {v : Value} {l : List UInt8} (h : Kp w0 bs ys w) (ho : OwnB base w v l) (hg : w.grownBy w1 v.ownBlock) (h0 : w0.heap.size ≤ base)
    (hb : ∀ x ∈ bs, x.1 < base) (hy : ∀ x ∈ ys, x.2 = [] ∨ ∀ a n c, x.1 = .slice (some a) n c → a.block < base) : Kp w0 bs ys w1 := by
  refine ⟨gb_own h.g ho h0 hg, fun x hx => at_own (h.bl x hx) ho (hb x hx) hg, fun x hx => (h.yl x hx).grown hg (fun k e => .inr ((hy x hx).elim .inl fun q => .inr fun a n c ea => ?_))⟩
  obtain ⟨p, c', rfl⟩ := ho.form
  cases p with
  | none => cases e
  | some g => have h1 := (ho.at g _ _ rfl).1; cases e; have := q a n c ea; omega
theorem Kp.low {w0 w : World} {bs : List (Nat × Obj)} {ys : List (Value × List UInt8)} (h : Kp w0 bs ys w) : (∀ x ∈ bs, x.1 < w.heap.size) ∧ (∀ x ∈ ys, x.2 = [] ∨ ∀ a n c, x.1 = .slice (some a) n c → a.block < w.heap.size) :=
  ⟨fun x hx => at_lt (h.bl x hx), fun x hx => (h.yl x hx).lt⟩

/-- a slice of the call's own that is not empty: its block, its bytes -/
theorem OwnB.full {base : Nat} {w : World} {v : Value} {l : List UInt8} (h : OwnB base w v l) (hl : 0 < l.length) : ∃ g c, v = .slice (some ⟨g, 0, none⟩) l.length c ∧ l.length ≤ c ∧ c ≤ maxLen ∧ base ≤ g ∧ g < w.heap.size := by
  obtain ⟨_, h | ⟨g, cap, cur, rfl, hb, hh, h1, h2, _⟩⟩ := h
  · omega
  · exact ⟨g, cap, rfl, h1, h2, hb, at_lt hh⟩
theorem byte_cell {w : World} {g n c : Nat} {l : List UInt8} (h : BytesAt w (.slice (some ⟨g, 0, none⟩) n c) l) (i : Nat) (hi : i < l.length) (x : UInt8) (hx : byteAt l i = x) : w.cell? ⟨g, i, none⟩ = some (.int .u8 (x.toNat : Int)) := by
  rcases h with ⟨h, _⟩ | ⟨a, cap, e, _, _, h3⟩
  · cases h
  · cases e
    have := h3 i hi
    have e : (⟨g, 0, none⟩ : Addr).add i = ⟨g, i, none⟩ := by unfold Addr.add; split <;> simp_all
    rw [e] at this
    rw [this, ← hx, byteAt_eq hi]
end Go.Proofs.YtfhifnhnkgdnlaaGreat
end
section
set_option linter.unusedSimpArgs false
set_option linter.unusedVariables false
namespace Go.Proofs.YtfhifnhnkgdnlaaGreat
set_option maxRecDepth 100000
open Go.RowKit

@[reducible] def msgObj (m : Mg) : Obj := .cells m.cells 39
@[reducible] def keyObj (a b : BitVec 64) : Obj := .cells #[.int .u64 (q a), .int .u64 (q b)] 49
@[reducible] def tagObj (a b : BitVec 64) : Obj := .cells #[.int .u64 (q a), .int .u64 (q b)] 83
end Go.Proofs.YtfhifnhnkgdnlaaGreat
end
section
set_option linter.unusedSimpArgs false
namespace Go.Proofs.YtfhifnhnkgdnlaaGreat
set_option maxRecDepth 100000
open Go.RowKit

/-- the deferred function, where nothing panics -/
theorem out_idle (p : Addr) (w : World) :
    CallsD Tryz.prog 95 #[.pointer (some p)] .returning w fun e u' w' => e = .returned (.tuple #[]) ∧ u' = .returning ∧ w' = w := by
  refine callsD_of_wpS Tryz.func95 rfl fun c₀ cs hu => ?_
  apply wpS_seq
  apply wpS_region
  simp [wpOpsS, go_sem, recoverD, hu, Tryz.ntmps95, Exit.thenS]
  refine wpS_cond (t := false) (by simp [Act.eval, Array.replicate]) ?_
  simp only [Bool.false_eq_true, if_false]
  refine wpS_of_wp (wp_skip ?_)
  cases c₀
  simp_all [bodyPostS, results, Tryz.results95]
/-- nobody is out -/
theorem isout_nil (x : Int) (w : World) :
    Calls Tryz.prog 55 #[.nilFunc, .int .i64 x] w fun e w' => e = .returned (.bool false) ∧ w.grownBy w' none := by
  have he : ∀ w, (binOp BinOp.eql 88 Value.nilFunc Value.nilFunc).run Tryz.prog w = .ok (.bool true) w := fun w => by rfl
  have G := hid (gb_alloc (World.grownBy.refl w none) (.cells #[.bool false] 4))
  go_enter_defers Tryz.func55, Tryz.ntmps55
  go_wp2
  simp [bodyPostD, Go.Leaves, results, Tryz.results55, go_sem]
  exact G.out
theorem nf_two (w : World) : (binOp BinOp.eql 88 (Value.func (Fn.func 38) #[] #[]) Value.nilFunc).run Tryz.prog w = .ok (.bool false) w := by rfl
theorem isout_two (x : Int) (w : World) :
    Calls Tryz.prog 55 #[.func (.func 38) #[] #[], .int .i64 x] w fun e w' => e = .returned (.bool (x == 2)) ∧ w.grownBy w' none := by
  have hmf : ∀ (fn : Fn) (first cap : Array Value) (w : World), (Instr.makeFunc fn first cap).run Tryz.prog w = .ok (.func fn first cap) w := fun _ _ _ _ => rfl
  have he := nf_two
  have G := hid (gb_alloc (World.grownBy.refl w none) (.cells #[.bool (x == 2)] 4))
  go_enter_defers Tryz.func55, Tryz.ntmps55
  go_wp2
  refine leaves_cons (f := 95) (args := #[.pointer (some ⟨w.heap.size, 0, none⟩)]) (by simp) (by simp [go_sem]) ?_
  refine (out_idle ⟨w.heap.size, 0, none⟩ _).mono ?_
  rintro e u' w'' ⟨rfl, rfl, rfl⟩
  simp [Go.Leaves, settle, results, Tryz.results55, go_sem]
  exact G.out

/-- sync/atomic's Uint32 -/
theorem load_u32 (a : Addr) (x : Int) (w : World) (hc : w.cell? a = some (.int .u32 x)) :
    Calls Tryz.prog 108 #[.pointer (some a)] w fun e w' => e = .returned (.int .u32 x) ∧ w = w' := by
  have hl := run_call_load (P := Tryz.prog) Tryz.func128 (by kernel_rfl) (by kernel_rfl) (by kernel_rfl) .u32 (by kernel_rfl) hc
  go_enter Tryz.func108, Tryz.ntmps108
  go_wp2
  go_ret
  exact ⟨rfl, rfl⟩
end Go.Proofs.YtfhifnhnkgdnlaaGreat
end
section
set_option linter.unusedSimpArgs false
set_option linter.unusedVariables false
namespace Go.Proofs.YtfhifnhnkgdnlaaGreat
set_option maxRecDepth 100000
open Go.RowKit

/-- a gate -/
structure Gt where
  r : Rg
  win : Nat
  met : Nat
  fresh : Nat
  now : Nat → Rp
  old : Nat → Rp
structure Gt.Ok (G : Gt) : Prop where
  w1 : 1 ≤ G.win
  w2 : G.win ≤ 64
  m1 : 1 ≤ G.met
  m2 : G.met ≤ 4
  f1 : 1 ≤ G.fresh
  f2 : G.fresh ≤ 8
  nw : ∀ i, (G.now i).win = G.win
  ow : ∀ i, (G.old i).win = G.win
/-- the generation that seals a message -/
def sealedOf (m : Mg) : Int := if m.kind = 2 then m.gen - 1 else m.gen
/-- is there a key that it may be sealed by? -/
def Gt.may (G : Gt) (m : Mg) (now : Int) : Bool := decide ((m.kind = 2 → m.gen - 1 = G.r.gen m.who.toNat) ∧ G.r.keyIs m.who.toNat (sealedOf m) now)
def Gt.key (G : Gt) (m : Mg) : Two64 := ofOf G.r.seed m.who.toNat (sealedOf m)
def Gt.rep (G : Gt) (m : Mg) : Rp := if sealedOf m = G.r.gen m.who.toNat then G.now m.who.toNat else G.old m.who.toNat
def Gt.in (G : Gt) (who : Int) : Bool := decide (0 ≤ who ∧ who < (G.r.n : Int))
def Gt.time (G : Gt) (epoch now : Int) : Bool := decide (now ≤ epoch ∧ epoch < now + (G.fresh : Int))
/-- what a check tells -/
def Gt.checkM (G : Gt) (l : List UInt8) (now : Int) (o : Int → Bool) (m : Mg) : Int :=
  if G.in m.who = false ∨ o m.who = true then 3
  else if G.may m now = false then 4
  else if ¬ (spA l = sumOf (G.key m).a (G.key m).b (spX l) ∧ spB l = sumOf (G.key m).b (inv (G.key m).a) (spX l)) then 5
  else if (G.rep m).may m.seq = false then 6
  else if G.time m.epoch now = false then 7
  else if (G.met : Int) ≤ m.metric then 1 else 0
def Gt.checkC (G : Gt) (l : List UInt8) (now : Int) (o : Int → Bool) : Int := if spC l = 0 then G.checkM l now o (spM l) else 2
def Gt.check (G : Gt) (l : List UInt8) (now : Int) (o : Int → Bool) : Mg × Int := if G.checkC l now o = 0 then (spM l, 0) else (zeroM, G.checkC l now o)
def Gt.setRep (G : Gt) (m : Mg) (p : Rp) : Gt :=
  if sealedOf m = G.r.gen m.who.toNat then { G with now := fun i => if i = m.who.toNat then p else G.now i } else { G with old := fun i => if i = m.who.toNat then p else G.old i }
def Gt.turn (G : Gt) (i : Nat) (gen now : Int) : Gt :=
  { G with r := G.r.put i gen now, now := fun j => if j = i then Rp.new G.win else G.now j, old := fun j => if j = i then G.now i else G.old j }
def Gt.take (G : Gt) (m : Mg) (now : Int) : Int × Gt :=
  if mayOf m = false ∨ now < 0 ∨ 1099511627776 < now then (1, G)
  else if G.in m.who = false then (3, G)
  else if G.may m now = false then (4, G)
  else if (G.rep m).may m.seq = false then (6, G)
  else if m.kind = 2 then (0, (G.setRep m ((G.rep m).put m.seq)).turn m.who.toNat m.gen now)
  else (0, G.setRep m ((G.rep m).put m.seq))
/-- a gate of whom nothing was taken -/
def Gt.new (seed : BitVec 64) (n grace win met fresh : Nat) : Gt := ⟨.new seed n grace, win, met, fresh, fun _ => .new win, fun _ => .new win⟩

/-- which blocks the program's gate has -/
structure GBl where
  g : Nat
  rb : Nat
  rh : Nat
  hb : Nat
  A : Nat → Nat
  O : Nat → Nat
  t : Nat → Int
@[reducible] def side (t : Int) (a b : Nat) : Nat := if t % 2 = 0 then a else b
structure GtAt (w : World) (F : List Nat) (B : GBl) (G : Gt) : Prop where
  top : w.heap[B.g]? = some (.cells #[.pointer (some ⟨B.rb, 0, none⟩), .slice (some ⟨B.hb, 0, none⟩) G.r.n G.r.n, .int .i64 (G.win : Int), .int .i64 (G.met : Int), .int .i64 (G.fresh : Int)] 96)
  ring : RgAt w B.rb B.rh G.r
  row : ∃ cs : Array Value, w.heap[B.hb]? = some (.cells cs 104) ∧ ∀ i, i < G.r.n → cs[i * 3]? = some (.int .u32 (B.t i)) ∧ cs[i * 3 + 1]? = some (.pointer (some ⟨side (B.t i) (B.A i) (B.O i), 0, none⟩)) ∧ cs[i * 3 + 2]? = some (.pointer (some ⟨side (B.t i) (B.O i) (B.A i), 0, none⟩))
  t0 : ∀ i, 0 ≤ B.t i ∧ B.t i < 4294967296
  now : ∀ i, i < G.r.n → RpAt w (B.A i) (G.now i)
  old : ∀ i, i < G.r.n → RpAt w (B.O i) (G.old i)
  aa : ∀ i j, i < G.r.n → j < G.r.n → B.A i = B.A j → i = j
  oo : ∀ i j, i < G.r.n → j < G.r.n → B.O i = B.O j → i = j
  ao : ∀ i j, i < G.r.n → j < G.r.n → B.A i ≠ B.O j
  mg : B.g ∈ F
  mrb : B.rb ∈ F
  mrh : B.rh ∈ F
  mhb : B.hb ∈ F
  ma : ∀ i, i < G.r.n → B.A i ∈ F
  mo : ∀ i, i < G.r.n → B.O i ∈ F
  lt : ∀ x ∈ F, x < w.heap.size
  ok : G.Ok
theorem obj_ne {w : World} {a b : Nat} {c d : Array Value} {s t : TypeId} (h : w.heap[a]? = some (.cells c s)) (k : w.heap[b]? = some (.cells d t)) (hst : s ≠ t) : a ≠ b := by
  rintro rfl
  rw [h] at k
  cases k
  exact hst rfl
section
variable {w w' : World} {F H : List Nat} {B : GBl} {G : Gt}
theorem GtAt.chg (K : GtAt w F B G) (hc : Chg H w w') (hd : ∀ x ∈ F, x ∉ H) : GtAt w' F B G :=
  ⟨hc.at K.top (hd _ K.mg), K.ring.chg hc (hd _ K.mrb) (hd _ K.mrh), by obtain ⟨cs, h1, h2⟩ := K.row; exact ⟨cs, hc.at h1 (hd _ K.mhb), h2⟩, K.t0,
    fun i hi => (K.now i hi).chg hc (hd _ (K.ma i hi)), fun i hi => (K.old i hi).chg hc (hd _ (K.mo i hi)), K.aa, K.oo, K.ao, K.mg, K.mrb, K.mrh, K.mhb, K.ma, K.mo, fun x hx => Nat.lt_of_lt_of_le (K.lt x hx) hc.size, K.ok⟩
theorem GtAt.grown (K : GtAt w F B G) (hg : w.grownBy w' none) : GtAt w' F B G := K.chg (chg_grown hg []) (by simp)
theorem GtAt.drew (K : GtAt w F B G) : GtAt w.drew F B G := K.chg ((chg_refl w []).drew) (by simp)
theorem GtAt.tops (K : GtAt w F B G) : w.cell? ⟨B.g, 0, none⟩ = some (.pointer (some ⟨B.rb, 0, none⟩)) ∧ w.cell? ⟨B.g, 1, none⟩ = some (.slice (some ⟨B.hb, 0, none⟩) G.r.n G.r.n) ∧ w.cell? ⟨B.g, 2, none⟩ = some (.int .i64 (G.win : Int)) ∧ w.cell? ⟨B.g, 3, none⟩ = some (.int .i64 (G.met : Int)) ∧ w.cell? ⟨B.g, 4, none⟩ = some (.int .i64 (G.fresh : Int)) :=
  ⟨at_cell K.top 0, at_cell K.top 1, at_cell K.top 2, at_cell K.top 3, at_cell K.top 4⟩
theorem GtAt.cells (K : GtAt w F B G) {i : Nat} (hi : i < G.r.n) : w.cell? ⟨B.hb, i * 3, none⟩ = some (.int .u32 (B.t i)) ∧ w.cell? ⟨B.hb, i * 3 + 1, none⟩ = some (.pointer (some ⟨side (B.t i) (B.A i) (B.O i), 0, none⟩)) ∧ w.cell? ⟨B.hb, i * 3 + 2, none⟩ = some (.pointer (some ⟨side (B.t i) (B.O i) (B.A i), 0, none⟩)) ∧ w.frozen? ⟨B.hb, i * 3, none⟩ = false ∧ w.frozen? ⟨B.hb, i * 3 + 1, none⟩ = false ∧ w.frozen? ⟨B.hb, i * 3 + 2, none⟩ = false := by
  obtain ⟨cs, h1, h2⟩ := K.row
  obtain ⟨a, b, c⟩ := h2 i hi
  exact ⟨(at_cell h1 _).trans a, (at_cell h1 _).trans b, (at_cell h1 _).trans c, at_free h1 _, at_free h1 _, at_free h1 _⟩
theorem GtAt.more (K : GtAt w F B G) {x : Nat} (hx : x < w.heap.size) : GtAt w (x :: F) B G :=
  ⟨K.top, K.ring, K.row, K.t0, K.now, K.old, K.aa, K.oo, K.ao, List.mem_cons_of_mem _ K.mg, List.mem_cons_of_mem _ K.mrb, List.mem_cons_of_mem _ K.mrh, List.mem_cons_of_mem _ K.mhb, fun i hi => List.mem_cons_of_mem _ (K.ma i hi), fun i hi => List.mem_cons_of_mem _ (K.mo i hi),
    fun y hy => by rcases List.mem_cons.1 hy with rfl | hy; exact hx; exact K.lt y hy, K.ok⟩
/-- the ring turned -/
theorem GtAt.rung (K : GtAt w F B G) {i : Nat} {g s : Int} (R : RgAt w' B.rb B.rh (G.r.put i g s)) (hc : Chg [B.rh] w w') : GtAt w' F B { G with r := G.r.put i g s } := by
  obtain ⟨cs, h1, h2⟩ := K.row
  have hr := K.ring.row
  obtain ⟨ds, k1, k2⟩ := hr
  have e1 : B.g ≠ B.rh := obj_ne K.top k1 (by decide)
  have e2 : B.hb ≠ B.rh := obj_ne h1 k1 (by decide)
  have e3 : ∀ j, j < G.r.n → B.A j ≠ B.rh := fun j hj => obj_ne (K.now j hj).top k1 (by decide)
  have e4 : ∀ j, j < G.r.n → B.O j ≠ B.rh := fun j hj => obj_ne (K.old j hj).top k1 (by decide)
  exact ⟨hc.at K.top (by simpa using e1), R, ⟨cs, hc.at h1 (by simpa using e2), h2⟩, K.t0, fun j hj => (K.now j hj).chg hc (by simpa using e3 j hj), fun j hj => (K.old j hj).chg hc (by simpa using e4 j hj), K.aa, K.oo, K.ao, K.mg, K.mrb, K.mrh, K.mhb, K.ma, K.mo,
    fun x hx => Nat.lt_of_lt_of_le (K.lt x hx) hc.size, ⟨K.ok.w1, K.ok.w2, K.ok.m1, K.ok.m2, K.ok.f1, K.ok.f2, K.ok.nw, K.ok.ow⟩⟩
/-- a number was taken of those now -/
theorem GtAt.tookNow (K : GtAt w F B G) {i : Nat} (hi : i < G.r.n) {p : Rp} (R : RpAt w' (B.A i) p) (hw : p.win = G.win) (hc : Chg [B.A i] w w') : GtAt w' F B { G with now := fun j => if j = i then p else G.now j } := by
  obtain ⟨cs, h1, h2⟩ := K.row
  obtain ⟨ds, k1, k2⟩ := K.ring.row
  have kA := (K.now i hi).top
  have e1 : B.g ≠ B.A i := obj_ne K.top kA (by decide)
  have e2 : B.hb ≠ B.A i := obj_ne h1 kA (by decide)
  have e3 : B.rb ≠ B.A i := obj_ne K.ring.top kA (by decide)
  have e4 : B.rh ≠ B.A i := obj_ne k1 kA (by decide)
  refine ⟨hc.at K.top (by simpa using e1), K.ring.chg hc (by simpa using e3) (by simpa using e4), ⟨cs, hc.at h1 (by simpa using e2), h2⟩, K.t0, fun j hj => ?_, fun j hj => (K.old j hj).chg hc (by simpa using fun e => K.ao i j hi hj e.symm), K.aa, K.oo, K.ao, K.mg, K.mrb, K.mrh, K.mhb, K.ma, K.mo,
    fun x hx => Nat.lt_of_lt_of_le (K.lt x hx) hc.size, ⟨K.ok.w1, K.ok.w2, K.ok.m1, K.ok.m2, K.ok.f1, K.ok.f2, fun j => ?_, K.ok.ow⟩⟩
  · dsimp only
    by_cases e : j = i
    · subst e; rw [if_pos rfl]; exact R
    · rw [if_neg e]; exact (K.now j hj).chg hc (by simpa using fun h => e (K.aa j i hj hi h))
  · dsimp only
    split
    · exact hw
    · exact K.ok.nw j
theorem GtAt.tookOld (K : GtAt w F B G) {i : Nat} (hi : i < G.r.n) {p : Rp} (R : RpAt w' (B.O i) p) (hw : p.win = G.win) (hc : Chg [B.O i] w w') : GtAt w' F B { G with old := fun j => if j = i then p else G.old j } := by
  obtain ⟨cs, h1, h2⟩ := K.row
  obtain ⟨ds, k1, k2⟩ := K.ring.row
  have kA := (K.old i hi).top
  have e1 : B.g ≠ B.O i := obj_ne K.top kA (by decide)
  have e2 : B.hb ≠ B.O i := obj_ne h1 kA (by decide)
  have e3 : B.rb ≠ B.O i := obj_ne K.ring.top kA (by decide)
  have e4 : B.rh ≠ B.O i := obj_ne k1 kA (by decide)
  refine ⟨hc.at K.top (by simpa using e1), K.ring.chg hc (by simpa using e3) (by simpa using e4), ⟨cs, hc.at h1 (by simpa using e2), h2⟩, K.t0, fun j hj => (K.now j hj).chg hc (by simpa using fun e => K.ao j i hj hi e), fun j hj => ?_, K.aa, K.oo, K.ao, K.mg, K.mrb, K.mrh, K.mhb, K.ma, K.mo,
    fun x hx => Nat.lt_of_lt_of_le (K.lt x hx) hc.size, ⟨K.ok.w1, K.ok.w2, K.ok.m1, K.ok.m2, K.ok.f1, K.ok.f2, K.ok.nw, fun j => ?_⟩⟩
  · dsimp only
    by_cases e : j = i
    · subst e; rw [if_pos rfl]; exact R
    · rw [if_neg e]; exact (K.old j hj).chg hc (by simpa using fun h => e (K.oo j i hj hi h))
  · dsimp only
    split
    · exact hw
    · exact K.ok.ow j
end

theorem gfind_out {F : List Nat} {B : GBl} {G : Gt} (x : Int) (w : World) (K : GtAt w F B G) (hx : x < 0 ∨ (G.r.n : Int) ≤ x) :
    Calls Tryz.prog 54 #[.pointer (some ⟨B.g, 0, none⟩), .int .i64 x] w fun e w' => e = .returned (.pointer none) ∧ w = w' := by
  obtain ⟨c0, c1, c2, c3, c4⟩ := K.tops
  have n1 := K.ring.ok.n1
  have n2 := K.ring.ok.n2
  clear K
  generalize G.r.n = n at *
  by_cases h : x < 0
  · have d1 : decide (x < 0) = true := by simpa using h
    clear hx
    go_enter Tryz.func54, Tryz.ntmps54
    go_wp2
    go_ret
    exact ⟨rfl, rfl⟩
  · have d1 : decide (x < 0) = false := by simpa using h
    have d2 : decide ((n : Int) ≤ x) = true := by simp; omega
    clear hx
    go_enter Tryz.func54, Tryz.ntmps54
    go_wp2
    go_ret
    exact ⟨rfl, rfl⟩
theorem gfind_in {F : List Nat} {B : GBl} {G : Gt} (i : Nat) (w : World) (K : GtAt w F B G) (hi : i < G.r.n) :
    Calls Tryz.prog 54 #[.pointer (some ⟨B.g, 0, none⟩), .int .i64 (i : Int)] w fun e w' => e = .returned (.pointer (some ⟨B.hb, i * 3, none⟩)) ∧ w = w' := by
  obtain ⟨c0, c1, c2, c3, c4⟩ := K.tops
  have n1 := K.ring.ok.n1
  have n2 := K.ring.ok.n2
  clear K
  generalize G.r.n = n at *
  have d1 : decide ((i : Int) < 0) = false := by simp
  have d2 : decide ((n : Int) ≤ (i : Int)) = false := by simp; omega
  go_enter Tryz.func54, Tryz.ntmps54
  go_wp2
  go_ret
  exact ⟨rfl, rfl⟩
end Go.Proofs.YtfhifnhnkgdnlaaGreat
end
section
set_option linter.unusedSimpArgs false
set_option linter.unusedVariables false
namespace Go.Proofs.YtfhifnhnkgdnlaaGreat
set_option maxRecDepth 100000
open Go.RowKit

/-- a ring of the document's -/
structure RfAt (w : World) (b g s : Nat) (r : Rg) : Prop where
  top : w.heap[b]? = some (.cells #[.int .u64 (q r.seed), .int .i64 (r.grace : Int), .slice (some ⟨g, 0, none⟩) r.n r.n, .slice (some ⟨s, 0, none⟩) r.n r.n] 62)
  gens : ∃ cs : Array Value, w.heap[g]? = some (.cells cs 3) ∧ ∀ i, i < r.n → cs[i]? = some (.int .i64 (r.gen i))
  sinces : ∃ cs : Array Value, w.heap[s]? = some (.cells cs 2) ∧ ∀ i, i < r.n → cs[i]? = some (.int .i64 (r.since i))
  bg : b ≠ g
  bs : b ≠ s
  gs : g ≠ s
  ok : r.Ok
section
variable {w w' : World} {b g s : Nat} {r : Rg} {F : List Nat}
theorem RfAt.chg (H : RfAt w b g s r) (hc : Chg F w w') (hb : b ∉ F) (hg : g ∉ F) (hs : s ∉ F) : RfAt w' b g s r :=
  ⟨hc.at H.top hb, by obtain ⟨cs, h1, h2⟩ := H.gens; exact ⟨cs, hc.at h1 hg, h2⟩, by obtain ⟨cs, h1, h2⟩ := H.sinces; exact ⟨cs, hc.at h1 hs, h2⟩, H.bg, H.bs, H.gs, H.ok⟩
theorem RfAt.grown (H : RfAt w b g s r) (hg : w.grownBy w' none) : RfAt w' b g s r := H.chg (chg_grown hg []) (by simp) (by simp) (by simp)
theorem RfAt.drew (H : RfAt w b g s r) : RfAt w.drew b g s r := ⟨H.top, H.gens, H.sinces, H.bg, H.bs, H.gs, H.ok⟩
theorem RfAt.tops (H : RfAt w b g s r) : w.cell? ⟨b, 0, none⟩ = some (.int .u64 (q r.seed)) ∧ w.cell? ⟨b, 1, none⟩ = some (.int .i64 (r.grace : Int)) ∧ w.cell? ⟨b, 2, none⟩ = some (.slice (some ⟨g, 0, none⟩) r.n r.n) ∧ w.cell? ⟨b, 3, none⟩ = some (.slice (some ⟨s, 0, none⟩) r.n r.n) :=
  ⟨at_cell H.top 0, at_cell H.top 1, at_cell H.top 2, at_cell H.top 3⟩
theorem RfAt.cells (H : RfAt w b g s r) {i : Nat} (hi : i < r.n) : w.cell? ⟨g, i, none⟩ = some (.int .i64 (r.gen i)) ∧ w.cell? ⟨s, i, none⟩ = some (.int .i64 (r.since i)) ∧ w.frozen? ⟨g, i, none⟩ = false ∧ w.frozen? ⟨s, i, none⟩ = false := by
  obtain ⟨cs, h1, h2⟩ := H.gens
  obtain ⟨ds, h3, h4⟩ := H.sinces
  exact ⟨(at_cell h1 _).trans (h2 i hi), (at_cell h3 _).trans (h4 i hi), at_free h1 _, at_free h3 _⟩
theorem RfAt.lt (H : RfAt w b g s r) : b < w.heap.size ∧ g < w.heap.size ∧ s < w.heap.size := ⟨at_lt H.top, by obtain ⟨_, h1, _⟩ := H.gens; exact at_lt h1, by obtain ⟨_, h1, _⟩ := H.sinces; exact at_lt h1⟩
theorem RfAt.put (H : RfAt w b g s r) {i : Nat} (hi : i < r.n) {x y : Int} (g0 : 0 ≤ x) (g1 : x ≤ 60000) (s0 : 0 ≤ y) (s1 : y ≤ 1099511627776) :
    RfAt ((w.setCell ⟨g, i, none⟩ (.int .i64 x)).setCell ⟨s, i, none⟩ (.int .i64 y)) b g s (r.put i x y) := by
  obtain ⟨cs, h1, h2⟩ := H.gens
  obtain ⟨ds, h3, h4⟩ := H.sinces
  have sz1 : i < cs.size := (Array.getElem?_eq_some_iff.1 (h2 i hi)).1
  have sz2 : i < ds.size := (Array.getElem?_eq_some_iff.1 (h4 i hi)).1
  refine ⟨at_set_other (at_set_other H.top H.bg _) H.bs _, ⟨_, at_set_other (at_set h1 _ _) H.gs _, fun j hj => ?_⟩, ⟨_, at_set (at_set_other h3 (fun e => H.gs e.symm) _) _ _, fun j hj => ?_⟩, H.bg, H.bs, H.gs, H.ok.put i g0 g1 s0 s1⟩
  · simp only [Rg.put]
    by_cases e : j = i
    · subst e; rw [if_pos rfl, Array.getElem?_setIfInBounds, if_pos rfl, if_pos sz1]
    · rw [if_neg e, Array.getElem?_setIfInBounds, if_neg (Ne.symm e)]; exact h2 j hj
  · simp only [Rg.put]
    by_cases e : j = i
    · subst e; rw [if_pos rfl, Array.getElem?_setIfInBounds, if_pos rfl, if_pos sz2]
    · rw [if_neg e, Array.getElem?_setIfInBounds, if_neg (Ne.symm e)]; exact h4 j hj
end
end Go.Proofs.YtfhifnhnkgdnlaaGreat
end
section
set_option linter.unusedSimpArgs false
namespace Go.Proofs.YtfhifnhnkgdnlaaGreat
set_option maxRecDepth 100000
open Go.RowKit

/-- what a word of a derived key is the sum of, as the document's own answer lays it -/
def labelled (s : ByteArray) (mb : UInt8) (n : BitVec 64) : ByteArray := s ++ ⟨[mb].toArray⟩ ++ ⟨(put8 n).toArray⟩
theorem labelled_size (s : ByteArray) (mb : UInt8) (n : BitVec 64) : (labelled s mb n).size = s.size + 9 := by
  simp [labelled, ByteArray.size_append]; rfl
theorem refsum_der (k0 k1 : BitVec 64) (s : ByteArray) (hs : s.size ≤ 1000) (mb : UInt8) (n : BitVec 64) (w : World) :
    Calls Tryz.prog 91 #[pair k0 k1, .string (s ++ ⟨[mb].toArray⟩ ++ ⟨(put8 n).toArray⟩)] w fun e w' => e = .returned (.int .u64 (q (derived k0 k1 s n mb))) ∧ w.grownBy w' none := by
  have h := refsum_str k0 k1 (labelled s mb n) (by rw [labelled_size]; omega) w
  have e : (labelled s mb n).data.toList = s.data.toList ++ [mb] ++ put8 n := by simp [labelled]
  rw [e] at h
  exact h
end Go.Proofs.YtfhifnhnkgdnlaaGreat
end
