/-
  A contract for the document's own derived keys: four calls and two blocks that may come in any order. The condition: a label of a modest length.
  Contracts for the document's own root and collectors' keys. No condition.
  Contracts for the document's own rings: which key is there. The condition of a call: the ring lies there.
  Contracts for package replay's Set. The condition of a call: the object lies there.
  Slices of numbers (int64) that the call itself makes and appends to: what they hold. No condition. Nothing of the program's functions is named here.
  The document's own Replay: what one is; has, New, May. The condition of a call: the object lies there.
  Contracts for a holder's two windows, which of them is now's and which the old one's; a gate's ring, windows; whether an epoch is in time. The condition: the gate lies there.
-/
import Derived.Test.YtfhifnhnkgdnlaaGreatJ0
import Derived.Test.YtfhifnhnkgdnlaaGreatY4
import Derived.Test.YtfhifnhnkgdnlaaGreatY1
import Derived.Deep.QuietTactic
import Derived.BigQuiet
import Derived.IntWalk
import Derived.Test.YtfhifnhnkgdnlaaGreatY2
import Derived.Test.YtfhifnhnkgdnlaaGreatRows
import Derived.Laws.AppendOwnNone
import Derived.Maps.AppendAt
section
set_option linter.unusedSimpArgs false
set_option linter.unusedVariables false
namespace Go.Proofs.YtfhifnhnkgdnlaaGreat
set_option maxRecDepth 100000
open Go.RowKit

/-- a block that the call made, and what lies in it -/
def Blk (w : World) (g : Nat) (o : Obj) (w' : World) : Prop := w.heap.size + 1 < g ∧ w'.heap[g]? = some o
theorem conv_1 {w : World} {g : Nat} (h : w.heap[g]? = some (.cells #[.int .u8 1] 5)) : (convert 40 9 (.slice (some ⟨g, 0, none⟩) 1 1)).run Tryz.prog w = .ok (.string ⟨#[1]⟩) w := conv_bytes (bytes_of_cells [1] h (by unfold maxLen; simp))
theorem conv_2 {w : World} {g : Nat} (h : w.heap[g]? = some (.cells #[.int .u8 2] 5)) : (convert 40 9 (.slice (some ⟨g, 0, none⟩) 1 1)).run Tryz.prog w = .ok (.string ⟨#[2]⟩) w := conv_bytes (bytes_of_cells [2] h (by unfold maxLen; simp))
theorem Blk.grown {w : World} {g : Nat} {o : Obj} {w1 w2 : World} (h : Blk w g o w1) (hg : w1.grownBy w2 none) : Blk w g o w2 := ⟨h.1, at_grown h.2 hg (by simp)⟩
theorem Blk.set0 {w : World} {g : Nat} {o : Obj} {w1 : World} (h : Blk w g o w1) (v : Value) : Blk w g o (w1.setCell ⟨w.heap.size + 1, 0, none⟩ v) := ⟨h.1, at_set_other h.2 (by have := h.1; simp; omega) v⟩
theorem Blk.set1 {w : World} {g : Nat} {o : Obj} {w1 : World} (h : Blk w g o w1) (v : Value) : Blk w g o (w1.setCell ⟨w.heap.size + 1, 1, none⟩ v) := ⟨h.1, at_set_other h.2 (by have := h.1; simp; omega) v⟩
theorem Box.size {w : World} {k0 k1 : BitVec 64} {t t' : TypeId} {w1 : World} (h : Box w k0 k1 t t' w1) : w.heap.size + 1 < w1.heap.size := by obtain ⟨x, y, h⟩ := h.ans; exact at_lt h

set_option maxHeartbeats 8000000 in
theorem refderive_any (k0 k1 : BitVec 64) (s : ByteArray) (hs : s.size ≤ 1000) (n : BitVec 64) (w : World) :
    Calls Tryz.prog 51 #[pair k0 k1, .string s, .int .u64 (q n)] w fun e w' => e = .returned (pair (derived k0 k1 s n 1) (derived k0 k1 s n 2)) ∧ w.grownBy w' none := by
  have hc0 := fun w => refsum_der k0 k1 s hs 1 n w
  have hc1 := fun w => refsum_der k0 k1 s hs 2 n w
  have hp := fun w => refput_any n w
  generalize derived k0 k1 s n 1 = a at hc0 ⊢
  generalize derived k0 k1 s n 2 = b at hc1 ⊢
  have zn : (⟨(put8 n).toArray⟩ : ByteArray).size = 8 := rfl
  generalize (⟨(put8 n).toArray⟩ : ByteArray) = sn at hc0 hc1 hp zn
  have C0 := hid hc0; have C1 := hid hc1; have HP := hid hp; clear hc0 hc1 hp
  go_enter Tryz.func51, Tryz.ntmps51
  go_wp2_with fail
  have hb : Box w k0 k1 49 49 ((w.alloc (.cells #[.int .u64 (q k0), .int .u64 (q k1)] 49)).alloc (.cells #[.int .u64 0, .int .u64 0] 49)) :=
    ⟨at_alloc (at_new w _) _, ⟨_, _, at_new2 w _ _⟩, gb_alloc (gb_alloc (.refl w none) _) _⟩
  have HB := hid hb; clear hb
  refine wp_gen (fun w5 => Box w k0 k1 49 49 w5) HB.out ?_
  intro w5 h5
  have hb5 := Box.drew h5
  clear HB h5
  refine wp_region_held_drew (S := (fun w' => w'.cell? ⟨w.heap.size, 0, none⟩ = some (.int .u64 (q k0)) ∧ w'.cell? ⟨w.heap.size, 1, none⟩ = some (.int .u64 (q k1)) ∧ Box w k0 k1 49 49 w')) (by kernel_rfl) (Box.keep hb5) (fun hHeld => ?_)
  try dsimp only at hHeld
  clear hb5
  generalize w5.drew = w5 at hHeld ⊢
  refine' jT 0 rfl (by rfl) ?_ hHeld ?_
  rotate_left
  · (intro w hSw; (try dsimp only at hSw); go_simp; (try rw [if_neg (by omega)]); try with_reducible rfl)
  try simp only [Act.put, jA, jB, jC, jD, jE, jF]
  refine' jT 1 rfl (by rfl) ?_ hHeld ?_
  rotate_left
  · (intro w hSw; (try dsimp only at hSw); go_simp; (try rw [if_neg (by omega)]); try with_reducible rfl)
  try simp only [Act.put, jA, jB, jC, jD, jE, jF]
  refine' jT 5 rfl (by rfl) ?_ hHeld ?_
  rotate_left
  · (intro w hSw; (try dsimp only at hSw); go_simp; (try rw [if_neg (by omega)]); try with_reducible rfl)
  try simp only [Act.put, jA, jB, jC, jD, jE, jF]
  refine' jT 9 rfl (by rfl) ?_ hHeld ?_
  rotate_left
  · (intro w hSw; (try dsimp only at hSw); go_simp; (try rw [if_neg (by omega)]); try with_reducible rfl)
  try simp only [Act.put, jA, jB, jC, jD, jE, jF]
  refine' jT 10 rfl (by rfl) ?_ hHeld ?_
  rotate_left
  · (intro w hSw; (try dsimp only at hSw); go_simp; (try rw [if_neg (by omega)]); try with_reducible rfl)
  try simp only [Act.put, jA, jB, jC, jD, jE, jF]
  refine' jT 14 rfl (by rfl) ?_ hHeld ?_
  rotate_left
  · (intro w hSw; (try dsimp only at hSw); go_simp; (try rw [if_neg (by omega)]); try with_reducible rfl)
  try simp only [Act.put, jA, jB, jC, jD, jE, jF]
  refine jR [2, 6, 11] ?_
  refine jG rfl (fun K hK => ?_) (jG rfl (fun K hK => ?_) (jG rfl (fun K hK => ?_) (AllReadyH.nil)))
  · try simp only [jD, jE, jF]
    have KP := hid ((Box.keep (Box.grown (box_box hHeld) (World.grownBy_alloc w5 (.cells #[.int .u8 1] 5) none))))
    have hnew := (⟨Box.size (box_box hHeld), at_new w5 _⟩ : (Blk w (w5.heap.size) (.cells #[.int .u8 1] 5)) (w5.alloc (.cells #[.int .u8 1] 5)))
    clear hHeld
    go_simp
    refine hK.out _ _ KP.out (fun hHeld => ?_)
    clear KP hK K
    try dsimp only at hHeld hnew
    generalize w5.alloc (.cells #[.int .u8 1] 5) = w101 at hHeld hnew ⊢
    try simp only [Act.put, jA, jB, jC, jD, jE, jF]
    refine held_stronger (S' := fun w' => (Blk w (w5.heap.size) (.cells #[.int .u8 1] 5)) w' ∧ (fun w' => w'.cell? ⟨w.heap.size, 0, none⟩ = some (.int .u64 (q k0)) ∧ w'.cell? ⟨w.heap.size, 1, none⟩ = some (.int .u64 (q k1)) ∧ Box w k0 k1 49 49 w') w') (fun _ h => h.2) _ _ _ _ ?_
    replace hHeld := And.intro hnew hHeld
    clear hnew
    try dsimp only at hHeld
    refine' jT 3 rfl (by rfl) ?_ hHeld ?_
    rotate_left
    · (intro w hSw; (try dsimp only at hSw); have cv := conv_1 hSw.1.2; go_simp; (try rw [if_neg (by omega)]); try with_reducible rfl)
    try simp only [Act.put, jA, jB, jC, jD, jE, jF]
    refine' jT 4 rfl (by rfl) ?_ hHeld ?_
    rotate_left
    · (intro w hSw; (try dsimp only at hSw); go_simp; (try rw [if_neg (by omega)]); try with_reducible rfl)
    try simp only [Act.put, jA, jB, jC, jD, jE, jF]
    refine jR [6, 11] ?_
    refine jG rfl (fun K hK => ?_) (jG rfl (fun K hK => ?_) (AllReadyH.nil))
    · try simp only [jD, jE, jF]
      go_simp
      refine (HP.out _).mono ?_
      rintro e w102 ⟨rfl, hg⟩
      have KP := hid (And.intro (Blk.grown hHeld.1 hg) ((Box.keep (Box.grown (box_box hHeld.2) hg))))
      clear hHeld hg
      go_wp2_with fail
      refine hK.out _ _ KP.out (fun hHeld => ?_)
      clear KP hK K
      try dsimp only at hHeld
      try simp only [Act.put, jA, jB, jC, jD, jE, jF]
      refine' jT 7 rfl (by rfl) ?_ hHeld ?_
      rotate_left
      · (intro w hSw; (try dsimp only at hSw); go_simp; (try rw [if_neg (by omega)]); try with_reducible rfl)
      try simp only [Act.put, jA, jB, jC, jD, jE, jF]
      refine jR [8, 11] ?_
      refine jG rfl (fun K hK => ?_) (jG rfl (fun K hK => ?_) (AllReadyH.nil))
      · try simp only [jD, jE, jF]
        go_simp
        refine (C0.out _).mono ?_
        rintro e w103 ⟨rfl, hg⟩
        have KP := hid (And.intro (Blk.grown hHeld.1 hg) ((Box.keep (Box.grown (box_box hHeld.2) hg))))
        clear hHeld hg
        go_wp2_with fail
        refine hK.out _ _ KP.out (fun hHeld => ?_)
        clear KP hK K
        try dsimp only at hHeld
        try simp only [Act.put, jA, jB, jC, jD, jE, jF]
        refine jR [11, 15] ?_
        refine jG rfl (fun K hK => ?_) (jG rfl (fun K hK => ?_) (AllReadyH.nil))
        · try simp only [jD, jE, jF]
          have KP := hid (And.intro (Blk.grown hHeld.1 (World.grownBy_alloc w103 (.cells #[.int .u8 2] 5) none)) ((Box.keep (Box.grown (box_box hHeld.2) (World.grownBy_alloc w103 (.cells #[.int .u8 2] 5) none)))))
          have hnew := (⟨Box.size (box_box hHeld.2), at_new w103 _⟩ : (Blk w (w103.heap.size) (.cells #[.int .u8 2] 5)) (w103.alloc (.cells #[.int .u8 2] 5)))
          clear hHeld
          go_simp
          refine hK.out _ _ KP.out (fun hHeld => ?_)
          clear KP hK K
          try dsimp only at hHeld hnew
          generalize w103.alloc (.cells #[.int .u8 2] 5) = w104 at hHeld hnew ⊢
          try simp only [Act.put, jA, jB, jC, jD, jE, jF]
          refine held_stronger (S' := fun w' => (Blk w (w103.heap.size) (.cells #[.int .u8 2] 5)) w' ∧ (fun w' => (Blk w (w5.heap.size) (.cells #[.int .u8 1] 5)) w' ∧ (fun w' => w'.cell? ⟨w.heap.size, 0, none⟩ = some (.int .u64 (q k0)) ∧ w'.cell? ⟨w.heap.size, 1, none⟩ = some (.int .u64 (q k1)) ∧ Box w k0 k1 49 49 w') w') w') (fun _ h => h.2) _ _ _ _ ?_
          replace hHeld := And.intro hnew hHeld
          clear hnew
          try dsimp only at hHeld
          refine' jT 12 rfl (by rfl) ?_ hHeld ?_
          rotate_left
          · (intro w hSw; (try dsimp only at hSw); have cv := conv_2 hSw.1.2; go_simp; (try rw [if_neg (by omega)]); try with_reducible rfl)
          try simp only [Act.put, jA, jB, jC, jD, jE, jF]
          refine' jT 13 rfl (by rfl) ?_ hHeld ?_
          rotate_left
          · (intro w hSw; (try dsimp only at hSw); go_simp; (try rw [if_neg (by omega)]); try with_reducible rfl)
          try simp only [Act.put, jA, jB, jC, jD, jE, jF]
          refine jR [15] ?_
          refine jG rfl (fun K hK => ?_) (AllReadyH.nil)
          try simp only [jD, jE, jF]
          go_simp
          refine (HP.out _).mono ?_
          rintro e w105 ⟨rfl, hg⟩
          have KP := hid (And.intro (Blk.grown hHeld.1 hg) (And.intro (Blk.grown hHeld.2.1 hg) ((Box.keep (Box.grown (box_box hHeld.2.2) hg)))))
          clear hHeld hg
          go_wp2_with fail
          refine hK.out _ _ KP.out (fun hHeld => ?_)
          clear KP hK K
          try dsimp only at hHeld
          try simp only [Act.put, jA, jB, jC, jD, jE, jF]
          refine' jT 16 rfl (by rfl) ?_ hHeld ?_
          rotate_left
          · (intro w hSw; (try dsimp only at hSw); go_simp; (try rw [if_neg (by omega)]); try with_reducible rfl)
          try simp only [Act.put, jA, jB, jC, jD, jE, jF]
          refine jR [17] ?_
          refine jG rfl (fun K hK => ?_) (AllReadyH.nil)
          try simp only [jD, jE, jF]
          go_simp
          refine (C1.out _).mono ?_
          rintro e w106 ⟨rfl, hg⟩
          have KP := hid (And.intro (Blk.grown hHeld.1 hg) (And.intro (Blk.grown hHeld.2.1 hg) ((Box.keep (Box.grown (box_box hHeld.2.2) hg)))))
          clear hHeld hg
          go_wp2_with fail
          refine hK.out _ _ KP.out (fun hHeld => ?_)
          clear KP hK K
          try dsimp only at hHeld
          try simp only [Act.put, jA, jB, jC, jD, jE, jF]
          refine' jT 18 rfl (by rfl) ?_ hHeld ?_
          rotate_left
          · (intro w hSw; (try dsimp only at hSw); go_simp; (try rw [if_neg (by omega)]); try with_reducible rfl)
          try simp only [Act.put, jA, jB, jC, jD, jE, jF]
          refine jR [19] ?_
          refine jG rfl (fun K hK => ?_) (AllReadyH.nil)
          try simp only [jD, jE, jF]
          have hB := box_box hHeld.2.2
          obtain ⟨x, y, c0, c1, f0, f1⟩ := box_ans hHeld.2.2 (.refl w106 none)
          have KP := hid (And.intro (Blk.set1 (Blk.set0 hHeld.1 (.int .u64 (q a))) (.int .u64 (q b))) (And.intro (Blk.set1 (Blk.set0 hHeld.2.1 (.int .u64 (q a))) (.int .u64 (q b))) ((Box.keep (Box.set1 (Box.set0 (box_box hHeld.2.2) (.int .u64 (q a))) (.int .u64 (q b)))))))
          clear hHeld
          go_simp
          refine hK.out _ _ KP.out (fun hHeld => ?_)
          clear KP hK K
          try simp only [Act.put, jA, jB, jC, jD, jE, jF]
          refine wpAnyH_done (by kernel_rfl) ?_ _
          have hst := hB.store (.int .u64 (q a)) (.int .u64 (q b))
          clear hB c0 c1 f0 f1 hHeld
          generalize (w106.setCell ⟨w.heap.size + 1, 0, none⟩ (.int .u64 (q a))).setCell ⟨w.heap.size + 1, 1, none⟩ (.int .u64 (q b)) = wx at hst ⊢
          obtain ⟨d0, d1⟩ := pair_cells hst.1
          go_wp2_with fail
          exact bodyPost_ret (v := pair a b) (by simp [results, Tryz.results51, go_sem, d0, d1]) rfl ⟨rfl, hst.2⟩
        · try simp only [jD, jE, jF]
          go_simp
          refine (HP.out _).mono ?_
          rintro e w108 ⟨rfl, hg⟩
          have KP := hid (And.intro (Blk.grown hHeld.1 hg) ((Box.keep (Box.grown (box_box hHeld.2) hg))))
          clear hHeld hg
          go_wp2_with fail
          refine hK.out _ _ KP.out (fun hHeld => ?_)
          clear KP hK K
          try dsimp only at hHeld
          try simp only [Act.put, jA, jB, jC, jD, jE, jF]
          refine jR [11] ?_
          refine jG rfl (fun K hK => ?_) (AllReadyH.nil)
          try simp only [jD, jE, jF]
          have KP := hid (And.intro (Blk.grown hHeld.1 (World.grownBy_alloc w108 (.cells #[.int .u8 2] 5) none)) ((Box.keep (Box.grown (box_box hHeld.2) (World.grownBy_alloc w108 (.cells #[.int .u8 2] 5) none)))))
          have hnew := (⟨Box.size (box_box hHeld.2), at_new w108 _⟩ : (Blk w (w108.heap.size) (.cells #[.int .u8 2] 5)) (w108.alloc (.cells #[.int .u8 2] 5)))
          clear hHeld
          go_simp
          refine hK.out _ _ KP.out (fun hHeld => ?_)
          clear KP hK K
          try dsimp only at hHeld hnew
          generalize w108.alloc (.cells #[.int .u8 2] 5) = w109 at hHeld hnew ⊢
          try simp only [Act.put, jA, jB, jC, jD, jE, jF]
          refine held_stronger (S' := fun w' => (Blk w (w108.heap.size) (.cells #[.int .u8 2] 5)) w' ∧ (fun w' => (Blk w (w5.heap.size) (.cells #[.int .u8 1] 5)) w' ∧ (fun w' => w'.cell? ⟨w.heap.size, 0, none⟩ = some (.int .u64 (q k0)) ∧ w'.cell? ⟨w.heap.size, 1, none⟩ = some (.int .u64 (q k1)) ∧ Box w k0 k1 49 49 w') w') w') (fun _ h => h.2) _ _ _ _ ?_
          replace hHeld := And.intro hnew hHeld
          clear hnew
          try dsimp only at hHeld
          refine' jT 12 rfl (by rfl) ?_ hHeld ?_
          rotate_left
          · (intro w hSw; (try dsimp only at hSw); have cv := conv_2 hSw.1.2; go_simp; (try rw [if_neg (by omega)]); try with_reducible rfl)
          try simp only [Act.put, jA, jB, jC, jD, jE, jF]
          refine' jT 13 rfl (by rfl) ?_ hHeld ?_
          rotate_left
          · (intro w hSw; (try dsimp only at hSw); go_simp; (try rw [if_neg (by omega)]); try with_reducible rfl)
          try simp only [Act.put, jA, jB, jC, jD, jE, jF]
          refine' jT 16 rfl (by rfl) ?_ hHeld ?_
          rotate_left
          · (intro w hSw; (try dsimp only at hSw); go_simp; (try rw [if_neg (by omega)]); try with_reducible rfl)
          try simp only [Act.put, jA, jB, jC, jD, jE, jF]
          refine jR [17] ?_
          refine jG rfl (fun K hK => ?_) (AllReadyH.nil)
          try simp only [jD, jE, jF]
          go_simp
          refine (C1.out _).mono ?_
          rintro e w110 ⟨rfl, hg⟩
          have KP := hid (And.intro (Blk.grown hHeld.1 hg) (And.intro (Blk.grown hHeld.2.1 hg) ((Box.keep (Box.grown (box_box hHeld.2.2) hg)))))
          clear hHeld hg
          go_wp2_with fail
          refine hK.out _ _ KP.out (fun hHeld => ?_)
          clear KP hK K
          try dsimp only at hHeld
          try simp only [Act.put, jA, jB, jC, jD, jE, jF]
          refine' jT 18 rfl (by rfl) ?_ hHeld ?_
          rotate_left
          · (intro w hSw; (try dsimp only at hSw); go_simp; (try rw [if_neg (by omega)]); try with_reducible rfl)
          try simp only [Act.put, jA, jB, jC, jD, jE, jF]
          refine jR [19] ?_
          refine jG rfl (fun K hK => ?_) (AllReadyH.nil)
          try simp only [jD, jE, jF]
          have hB := box_box hHeld.2.2
          obtain ⟨x, y, c0, c1, f0, f1⟩ := box_ans hHeld.2.2 (.refl w110 none)
          have KP := hid (And.intro (Blk.set1 (Blk.set0 hHeld.1 (.int .u64 (q a))) (.int .u64 (q b))) (And.intro (Blk.set1 (Blk.set0 hHeld.2.1 (.int .u64 (q a))) (.int .u64 (q b))) ((Box.keep (Box.set1 (Box.set0 (box_box hHeld.2.2) (.int .u64 (q a))) (.int .u64 (q b)))))))
          clear hHeld
          go_simp
          refine hK.out _ _ KP.out (fun hHeld => ?_)
          clear KP hK K
          try simp only [Act.put, jA, jB, jC, jD, jE, jF]
          refine wpAnyH_done (by kernel_rfl) ?_ _
          have hst := hB.store (.int .u64 (q a)) (.int .u64 (q b))
          clear hB c0 c1 f0 f1 hHeld
          generalize (w110.setCell ⟨w.heap.size + 1, 0, none⟩ (.int .u64 (q a))).setCell ⟨w.heap.size + 1, 1, none⟩ (.int .u64 (q b)) = wx at hst ⊢
          obtain ⟨d0, d1⟩ := pair_cells hst.1
          go_wp2_with fail
          exact bodyPost_ret (v := pair a b) (by simp [results, Tryz.results51, go_sem, d0, d1]) rfl ⟨rfl, hst.2⟩
      · try simp only [jD, jE, jF]
        have KP := hid (And.intro (Blk.grown hHeld.1 (World.grownBy_alloc w102 (.cells #[.int .u8 2] 5) none)) ((Box.keep (Box.grown (box_box hHeld.2) (World.grownBy_alloc w102 (.cells #[.int .u8 2] 5) none)))))
        have hnew := (⟨Box.size (box_box hHeld.2), at_new w102 _⟩ : (Blk w (w102.heap.size) (.cells #[.int .u8 2] 5)) (w102.alloc (.cells #[.int .u8 2] 5)))
        clear hHeld
        go_simp
        refine hK.out _ _ KP.out (fun hHeld => ?_)
        clear KP hK K
        try dsimp only at hHeld hnew
        generalize w102.alloc (.cells #[.int .u8 2] 5) = w112 at hHeld hnew ⊢
        try simp only [Act.put, jA, jB, jC, jD, jE, jF]
        refine held_stronger (S' := fun w' => (Blk w (w102.heap.size) (.cells #[.int .u8 2] 5)) w' ∧ (fun w' => (Blk w (w5.heap.size) (.cells #[.int .u8 1] 5)) w' ∧ (fun w' => w'.cell? ⟨w.heap.size, 0, none⟩ = some (.int .u64 (q k0)) ∧ w'.cell? ⟨w.heap.size, 1, none⟩ = some (.int .u64 (q k1)) ∧ Box w k0 k1 49 49 w') w') w') (fun _ h => h.2) _ _ _ _ ?_
        replace hHeld := And.intro hnew hHeld
        clear hnew
        try dsimp only at hHeld
        refine' jT 12 rfl (by rfl) ?_ hHeld ?_
        rotate_left
        · (intro w hSw; (try dsimp only at hSw); have cv := conv_2 hSw.1.2; go_simp; (try rw [if_neg (by omega)]); try with_reducible rfl)
        try simp only [Act.put, jA, jB, jC, jD, jE, jF]
        refine' jT 13 rfl (by rfl) ?_ hHeld ?_
        rotate_left
        · (intro w hSw; (try dsimp only at hSw); go_simp; (try rw [if_neg (by omega)]); try with_reducible rfl)
        try simp only [Act.put, jA, jB, jC, jD, jE, jF]
        refine jR [8] ?_
        refine jG rfl (fun K hK => ?_) (AllReadyH.nil)
        try simp only [jD, jE, jF]
        go_simp
        refine (C0.out _).mono ?_
        rintro e w113 ⟨rfl, hg⟩
        have KP := hid (And.intro (Blk.grown hHeld.1 hg) (And.intro (Blk.grown hHeld.2.1 hg) ((Box.keep (Box.grown (box_box hHeld.2.2) hg)))))
        clear hHeld hg
        go_wp2_with fail
        refine hK.out _ _ KP.out (fun hHeld => ?_)
        clear KP hK K
        try dsimp only at hHeld
        try simp only [Act.put, jA, jB, jC, jD, jE, jF]
        refine jR [15] ?_
        refine jG rfl (fun K hK => ?_) (AllReadyH.nil)
        try simp only [jD, jE, jF]
        go_simp
        refine (HP.out _).mono ?_
        rintro e w114 ⟨rfl, hg⟩
        have KP := hid (And.intro (Blk.grown hHeld.1 hg) (And.intro (Blk.grown hHeld.2.1 hg) ((Box.keep (Box.grown (box_box hHeld.2.2) hg)))))
        clear hHeld hg
        go_wp2_with fail
        refine hK.out _ _ KP.out (fun hHeld => ?_)
        clear KP hK K
        try dsimp only at hHeld
        try simp only [Act.put, jA, jB, jC, jD, jE, jF]
        refine' jT 16 rfl (by rfl) ?_ hHeld ?_
        rotate_left
        · (intro w hSw; (try dsimp only at hSw); go_simp; (try rw [if_neg (by omega)]); try with_reducible rfl)
        try simp only [Act.put, jA, jB, jC, jD, jE, jF]
        refine jR [17] ?_
        refine jG rfl (fun K hK => ?_) (AllReadyH.nil)
        try simp only [jD, jE, jF]
        go_simp
        refine (C1.out _).mono ?_
        rintro e w115 ⟨rfl, hg⟩
        have KP := hid (And.intro (Blk.grown hHeld.1 hg) (And.intro (Blk.grown hHeld.2.1 hg) ((Box.keep (Box.grown (box_box hHeld.2.2) hg)))))
        clear hHeld hg
        go_wp2_with fail
        refine hK.out _ _ KP.out (fun hHeld => ?_)
        clear KP hK K
        try dsimp only at hHeld
        try simp only [Act.put, jA, jB, jC, jD, jE, jF]
        refine' jT 18 rfl (by rfl) ?_ hHeld ?_
        rotate_left
        · (intro w hSw; (try dsimp only at hSw); go_simp; (try rw [if_neg (by omega)]); try with_reducible rfl)
        try simp only [Act.put, jA, jB, jC, jD, jE, jF]
        refine jR [19] ?_
        refine jG rfl (fun K hK => ?_) (AllReadyH.nil)
        try simp only [jD, jE, jF]
        have hB := box_box hHeld.2.2
        obtain ⟨x, y, c0, c1, f0, f1⟩ := box_ans hHeld.2.2 (.refl w115 none)
        have KP := hid (And.intro (Blk.set1 (Blk.set0 hHeld.1 (.int .u64 (q a))) (.int .u64 (q b))) (And.intro (Blk.set1 (Blk.set0 hHeld.2.1 (.int .u64 (q a))) (.int .u64 (q b))) ((Box.keep (Box.set1 (Box.set0 (box_box hHeld.2.2) (.int .u64 (q a))) (.int .u64 (q b)))))))
        clear hHeld
        go_simp
        refine hK.out _ _ KP.out (fun hHeld => ?_)
        clear KP hK K
        try simp only [Act.put, jA, jB, jC, jD, jE, jF]
        refine wpAnyH_done (by kernel_rfl) ?_ _
        have hst := hB.store (.int .u64 (q a)) (.int .u64 (q b))
        clear hB c0 c1 f0 f1 hHeld
        generalize (w115.setCell ⟨w.heap.size + 1, 0, none⟩ (.int .u64 (q a))).setCell ⟨w.heap.size + 1, 1, none⟩ (.int .u64 (q b)) = wx at hst ⊢
        obtain ⟨d0, d1⟩ := pair_cells hst.1
        go_wp2_with fail
        exact bodyPost_ret (v := pair a b) (by simp [results, Tryz.results51, go_sem, d0, d1]) rfl ⟨rfl, hst.2⟩
    · try simp only [jD, jE, jF]
      have KP := hid (And.intro (Blk.grown hHeld.1 (World.grownBy_alloc w101 (.cells #[.int .u8 2] 5) none)) ((Box.keep (Box.grown (box_box hHeld.2) (World.grownBy_alloc w101 (.cells #[.int .u8 2] 5) none)))))
      have hnew := (⟨Box.size (box_box hHeld.2), at_new w101 _⟩ : (Blk w (w101.heap.size) (.cells #[.int .u8 2] 5)) (w101.alloc (.cells #[.int .u8 2] 5)))
      clear hHeld
      go_simp
      refine hK.out _ _ KP.out (fun hHeld => ?_)
      clear KP hK K
      try dsimp only at hHeld hnew
      generalize w101.alloc (.cells #[.int .u8 2] 5) = w117 at hHeld hnew ⊢
      try simp only [Act.put, jA, jB, jC, jD, jE, jF]
      refine held_stronger (S' := fun w' => (Blk w (w101.heap.size) (.cells #[.int .u8 2] 5)) w' ∧ (fun w' => (Blk w (w5.heap.size) (.cells #[.int .u8 1] 5)) w' ∧ (fun w' => w'.cell? ⟨w.heap.size, 0, none⟩ = some (.int .u64 (q k0)) ∧ w'.cell? ⟨w.heap.size, 1, none⟩ = some (.int .u64 (q k1)) ∧ Box w k0 k1 49 49 w') w') w') (fun _ h => h.2) _ _ _ _ ?_
      replace hHeld := And.intro hnew hHeld
      clear hnew
      try dsimp only at hHeld
      refine' jT 12 rfl (by rfl) ?_ hHeld ?_
      rotate_left
      · (intro w hSw; (try dsimp only at hSw); have cv := conv_2 hSw.1.2; go_simp; (try rw [if_neg (by omega)]); try with_reducible rfl)
      try simp only [Act.put, jA, jB, jC, jD, jE, jF]
      refine' jT 13 rfl (by rfl) ?_ hHeld ?_
      rotate_left
      · (intro w hSw; (try dsimp only at hSw); go_simp; (try rw [if_neg (by omega)]); try with_reducible rfl)
      try simp only [Act.put, jA, jB, jC, jD, jE, jF]
      refine jR [6] ?_
      refine jG rfl (fun K hK => ?_) (AllReadyH.nil)
      try simp only [jD, jE, jF]
      go_simp
      refine (HP.out _).mono ?_
      rintro e w118 ⟨rfl, hg⟩
      have KP := hid (And.intro (Blk.grown hHeld.1 hg) (And.intro (Blk.grown hHeld.2.1 hg) ((Box.keep (Box.grown (box_box hHeld.2.2) hg)))))
      clear hHeld hg
      go_wp2_with fail
      refine hK.out _ _ KP.out (fun hHeld => ?_)
      clear KP hK K
      try dsimp only at hHeld
      try simp only [Act.put, jA, jB, jC, jD, jE, jF]
      refine' jT 7 rfl (by rfl) ?_ hHeld ?_
      rotate_left
      · (intro w hSw; (try dsimp only at hSw); go_simp; (try rw [if_neg (by omega)]); try with_reducible rfl)
      try simp only [Act.put, jA, jB, jC, jD, jE, jF]
      refine jR [8] ?_
      refine jG rfl (fun K hK => ?_) (AllReadyH.nil)
      try simp only [jD, jE, jF]
      go_simp
      refine (C0.out _).mono ?_
      rintro e w119 ⟨rfl, hg⟩
      have KP := hid (And.intro (Blk.grown hHeld.1 hg) (And.intro (Blk.grown hHeld.2.1 hg) ((Box.keep (Box.grown (box_box hHeld.2.2) hg)))))
      clear hHeld hg
      go_wp2_with fail
      refine hK.out _ _ KP.out (fun hHeld => ?_)
      clear KP hK K
      try dsimp only at hHeld
      try simp only [Act.put, jA, jB, jC, jD, jE, jF]
      refine jR [15] ?_
      refine jG rfl (fun K hK => ?_) (AllReadyH.nil)
      try simp only [jD, jE, jF]
      go_simp
      refine (HP.out _).mono ?_
      rintro e w120 ⟨rfl, hg⟩
      have KP := hid (And.intro (Blk.grown hHeld.1 hg) (And.intro (Blk.grown hHeld.2.1 hg) ((Box.keep (Box.grown (box_box hHeld.2.2) hg)))))
      clear hHeld hg
      go_wp2_with fail
      refine hK.out _ _ KP.out (fun hHeld => ?_)
      clear KP hK K
      try dsimp only at hHeld
      try simp only [Act.put, jA, jB, jC, jD, jE, jF]
      refine' jT 16 rfl (by rfl) ?_ hHeld ?_
      rotate_left
      · (intro w hSw; (try dsimp only at hSw); go_simp; (try rw [if_neg (by omega)]); try with_reducible rfl)
      try simp only [Act.put, jA, jB, jC, jD, jE, jF]
      refine jR [17] ?_
      refine jG rfl (fun K hK => ?_) (AllReadyH.nil)
      try simp only [jD, jE, jF]
      go_simp
      refine (C1.out _).mono ?_
      rintro e w121 ⟨rfl, hg⟩
      have KP := hid (And.intro (Blk.grown hHeld.1 hg) (And.intro (Blk.grown hHeld.2.1 hg) ((Box.keep (Box.grown (box_box hHeld.2.2) hg)))))
      clear hHeld hg
      go_wp2_with fail
      refine hK.out _ _ KP.out (fun hHeld => ?_)
      clear KP hK K
      try dsimp only at hHeld
      try simp only [Act.put, jA, jB, jC, jD, jE, jF]
      refine' jT 18 rfl (by rfl) ?_ hHeld ?_
      rotate_left
      · (intro w hSw; (try dsimp only at hSw); go_simp; (try rw [if_neg (by omega)]); try with_reducible rfl)
      try simp only [Act.put, jA, jB, jC, jD, jE, jF]
      refine jR [19] ?_
      refine jG rfl (fun K hK => ?_) (AllReadyH.nil)
      try simp only [jD, jE, jF]
      have hB := box_box hHeld.2.2
      obtain ⟨x, y, c0, c1, f0, f1⟩ := box_ans hHeld.2.2 (.refl w121 none)
      have KP := hid (And.intro (Blk.set1 (Blk.set0 hHeld.1 (.int .u64 (q a))) (.int .u64 (q b))) (And.intro (Blk.set1 (Blk.set0 hHeld.2.1 (.int .u64 (q a))) (.int .u64 (q b))) ((Box.keep (Box.set1 (Box.set0 (box_box hHeld.2.2) (.int .u64 (q a))) (.int .u64 (q b)))))))
      clear hHeld
      go_simp
      refine hK.out _ _ KP.out (fun hHeld => ?_)
      clear KP hK K
      try simp only [Act.put, jA, jB, jC, jD, jE, jF]
      refine wpAnyH_done (by kernel_rfl) ?_ _
      have hst := hB.store (.int .u64 (q a)) (.int .u64 (q b))
      clear hB c0 c1 f0 f1 hHeld
      generalize (w121.setCell ⟨w.heap.size + 1, 0, none⟩ (.int .u64 (q a))).setCell ⟨w.heap.size + 1, 1, none⟩ (.int .u64 (q b)) = wx at hst ⊢
      obtain ⟨d0, d1⟩ := pair_cells hst.1
      go_wp2_with fail
      exact bodyPost_ret (v := pair a b) (by simp [results, Tryz.results51, go_sem, d0, d1]) rfl ⟨rfl, hst.2⟩
  · try simp only [jD, jE, jF]
    go_simp
    refine (HP.out _).mono ?_
    rintro e w123 ⟨rfl, hg⟩
    have KP := hid ((Box.keep (Box.grown (box_box hHeld) hg)))
    clear hHeld hg
    go_wp2_with fail
    refine hK.out _ _ KP.out (fun hHeld => ?_)
    clear KP hK K
    try dsimp only at hHeld
    try simp only [Act.put, jA, jB, jC, jD, jE, jF]
    refine jR [2, 11] ?_
    refine jG rfl (fun K hK => ?_) (jG rfl (fun K hK => ?_) (AllReadyH.nil))
    · try simp only [jD, jE, jF]
      have KP := hid ((Box.keep (Box.grown (box_box hHeld) (World.grownBy_alloc w123 (.cells #[.int .u8 1] 5) none))))
      have hnew := (⟨Box.size (box_box hHeld), at_new w123 _⟩ : (Blk w (w123.heap.size) (.cells #[.int .u8 1] 5)) (w123.alloc (.cells #[.int .u8 1] 5)))
      clear hHeld
      go_simp
      refine hK.out _ _ KP.out (fun hHeld => ?_)
      clear KP hK K
      try dsimp only at hHeld hnew
      generalize w123.alloc (.cells #[.int .u8 1] 5) = w124 at hHeld hnew ⊢
      try simp only [Act.put, jA, jB, jC, jD, jE, jF]
      refine held_stronger (S' := fun w' => (Blk w (w123.heap.size) (.cells #[.int .u8 1] 5)) w' ∧ (fun w' => w'.cell? ⟨w.heap.size, 0, none⟩ = some (.int .u64 (q k0)) ∧ w'.cell? ⟨w.heap.size, 1, none⟩ = some (.int .u64 (q k1)) ∧ Box w k0 k1 49 49 w') w') (fun _ h => h.2) _ _ _ _ ?_
      replace hHeld := And.intro hnew hHeld
      clear hnew
      try dsimp only at hHeld
      refine' jT 3 rfl (by rfl) ?_ hHeld ?_
      rotate_left
      · (intro w hSw; (try dsimp only at hSw); have cv := conv_1 hSw.1.2; go_simp; (try rw [if_neg (by omega)]); try with_reducible rfl)
      try simp only [Act.put, jA, jB, jC, jD, jE, jF]
      refine' jT 4 rfl (by rfl) ?_ hHeld ?_
      rotate_left
      · (intro w hSw; (try dsimp only at hSw); go_simp; (try rw [if_neg (by omega)]); try with_reducible rfl)
      try simp only [Act.put, jA, jB, jC, jD, jE, jF]
      refine' jT 7 rfl (by rfl) ?_ hHeld ?_
      rotate_left
      · (intro w hSw; (try dsimp only at hSw); go_simp; (try rw [if_neg (by omega)]); try with_reducible rfl)
      try simp only [Act.put, jA, jB, jC, jD, jE, jF]
      refine jR [8, 11] ?_
      refine jG rfl (fun K hK => ?_) (jG rfl (fun K hK => ?_) (AllReadyH.nil))
      · try simp only [jD, jE, jF]
        go_simp
        refine (C0.out _).mono ?_
        rintro e w125 ⟨rfl, hg⟩
        have KP := hid (And.intro (Blk.grown hHeld.1 hg) ((Box.keep (Box.grown (box_box hHeld.2) hg))))
        clear hHeld hg
        go_wp2_with fail
        refine hK.out _ _ KP.out (fun hHeld => ?_)
        clear KP hK K
        try dsimp only at hHeld
        try simp only [Act.put, jA, jB, jC, jD, jE, jF]
        refine jR [11, 15] ?_
        refine jG rfl (fun K hK => ?_) (jG rfl (fun K hK => ?_) (AllReadyH.nil))
        · try simp only [jD, jE, jF]
          have KP := hid (And.intro (Blk.grown hHeld.1 (World.grownBy_alloc w125 (.cells #[.int .u8 2] 5) none)) ((Box.keep (Box.grown (box_box hHeld.2) (World.grownBy_alloc w125 (.cells #[.int .u8 2] 5) none)))))
          have hnew := (⟨Box.size (box_box hHeld.2), at_new w125 _⟩ : (Blk w (w125.heap.size) (.cells #[.int .u8 2] 5)) (w125.alloc (.cells #[.int .u8 2] 5)))
          clear hHeld
          go_simp
          refine hK.out _ _ KP.out (fun hHeld => ?_)
          clear KP hK K
          try dsimp only at hHeld hnew
          generalize w125.alloc (.cells #[.int .u8 2] 5) = w126 at hHeld hnew ⊢
          try simp only [Act.put, jA, jB, jC, jD, jE, jF]
          refine held_stronger (S' := fun w' => (Blk w (w125.heap.size) (.cells #[.int .u8 2] 5)) w' ∧ (fun w' => (Blk w (w123.heap.size) (.cells #[.int .u8 1] 5)) w' ∧ (fun w' => w'.cell? ⟨w.heap.size, 0, none⟩ = some (.int .u64 (q k0)) ∧ w'.cell? ⟨w.heap.size, 1, none⟩ = some (.int .u64 (q k1)) ∧ Box w k0 k1 49 49 w') w') w') (fun _ h => h.2) _ _ _ _ ?_
          replace hHeld := And.intro hnew hHeld
          clear hnew
          try dsimp only at hHeld
          refine' jT 12 rfl (by rfl) ?_ hHeld ?_
          rotate_left
          · (intro w hSw; (try dsimp only at hSw); have cv := conv_2 hSw.1.2; go_simp; (try rw [if_neg (by omega)]); try with_reducible rfl)
          try simp only [Act.put, jA, jB, jC, jD, jE, jF]
          refine' jT 13 rfl (by rfl) ?_ hHeld ?_
          rotate_left
          · (intro w hSw; (try dsimp only at hSw); go_simp; (try rw [if_neg (by omega)]); try with_reducible rfl)
          try simp only [Act.put, jA, jB, jC, jD, jE, jF]
          refine jR [15] ?_
          refine jG rfl (fun K hK => ?_) (AllReadyH.nil)
          try simp only [jD, jE, jF]
          go_simp
          refine (HP.out _).mono ?_
          rintro e w127 ⟨rfl, hg⟩
          have KP := hid (And.intro (Blk.grown hHeld.1 hg) (And.intro (Blk.grown hHeld.2.1 hg) ((Box.keep (Box.grown (box_box hHeld.2.2) hg)))))
          clear hHeld hg
          go_wp2_with fail
          refine hK.out _ _ KP.out (fun hHeld => ?_)
          clear KP hK K
          try dsimp only at hHeld
          try simp only [Act.put, jA, jB, jC, jD, jE, jF]
          refine' jT 16 rfl (by rfl) ?_ hHeld ?_
          rotate_left
          · (intro w hSw; (try dsimp only at hSw); go_simp; (try rw [if_neg (by omega)]); try with_reducible rfl)
          try simp only [Act.put, jA, jB, jC, jD, jE, jF]
          refine jR [17] ?_
          refine jG rfl (fun K hK => ?_) (AllReadyH.nil)
          try simp only [jD, jE, jF]
          go_simp
          refine (C1.out _).mono ?_
          rintro e w128 ⟨rfl, hg⟩
          have KP := hid (And.intro (Blk.grown hHeld.1 hg) (And.intro (Blk.grown hHeld.2.1 hg) ((Box.keep (Box.grown (box_box hHeld.2.2) hg)))))
          clear hHeld hg
          go_wp2_with fail
          refine hK.out _ _ KP.out (fun hHeld => ?_)
          clear KP hK K
          try dsimp only at hHeld
          try simp only [Act.put, jA, jB, jC, jD, jE, jF]
          refine' jT 18 rfl (by rfl) ?_ hHeld ?_
          rotate_left
          · (intro w hSw; (try dsimp only at hSw); go_simp; (try rw [if_neg (by omega)]); try with_reducible rfl)
          try simp only [Act.put, jA, jB, jC, jD, jE, jF]
          refine jR [19] ?_
          refine jG rfl (fun K hK => ?_) (AllReadyH.nil)
          try simp only [jD, jE, jF]
          have hB := box_box hHeld.2.2
          obtain ⟨x, y, c0, c1, f0, f1⟩ := box_ans hHeld.2.2 (.refl w128 none)
          have KP := hid (And.intro (Blk.set1 (Blk.set0 hHeld.1 (.int .u64 (q a))) (.int .u64 (q b))) (And.intro (Blk.set1 (Blk.set0 hHeld.2.1 (.int .u64 (q a))) (.int .u64 (q b))) ((Box.keep (Box.set1 (Box.set0 (box_box hHeld.2.2) (.int .u64 (q a))) (.int .u64 (q b)))))))
          clear hHeld
          go_simp
          refine hK.out _ _ KP.out (fun hHeld => ?_)
          clear KP hK K
          try simp only [Act.put, jA, jB, jC, jD, jE, jF]
          refine wpAnyH_done (by kernel_rfl) ?_ _
          have hst := hB.store (.int .u64 (q a)) (.int .u64 (q b))
          clear hB c0 c1 f0 f1 hHeld
          generalize (w128.setCell ⟨w.heap.size + 1, 0, none⟩ (.int .u64 (q a))).setCell ⟨w.heap.size + 1, 1, none⟩ (.int .u64 (q b)) = wx at hst ⊢
          obtain ⟨d0, d1⟩ := pair_cells hst.1
          go_wp2_with fail
          exact bodyPost_ret (v := pair a b) (by simp [results, Tryz.results51, go_sem, d0, d1]) rfl ⟨rfl, hst.2⟩
        · try simp only [jD, jE, jF]
          go_simp
          refine (HP.out _).mono ?_
          rintro e w130 ⟨rfl, hg⟩
          have KP := hid (And.intro (Blk.grown hHeld.1 hg) ((Box.keep (Box.grown (box_box hHeld.2) hg))))
          clear hHeld hg
          go_wp2_with fail
          refine hK.out _ _ KP.out (fun hHeld => ?_)
          clear KP hK K
          try dsimp only at hHeld
          try simp only [Act.put, jA, jB, jC, jD, jE, jF]
          refine jR [11] ?_
          refine jG rfl (fun K hK => ?_) (AllReadyH.nil)
          try simp only [jD, jE, jF]
          have KP := hid (And.intro (Blk.grown hHeld.1 (World.grownBy_alloc w130 (.cells #[.int .u8 2] 5) none)) ((Box.keep (Box.grown (box_box hHeld.2) (World.grownBy_alloc w130 (.cells #[.int .u8 2] 5) none)))))
          have hnew := (⟨Box.size (box_box hHeld.2), at_new w130 _⟩ : (Blk w (w130.heap.size) (.cells #[.int .u8 2] 5)) (w130.alloc (.cells #[.int .u8 2] 5)))
          clear hHeld
          go_simp
          refine hK.out _ _ KP.out (fun hHeld => ?_)
          clear KP hK K
          try dsimp only at hHeld hnew
          generalize w130.alloc (.cells #[.int .u8 2] 5) = w131 at hHeld hnew ⊢
          try simp only [Act.put, jA, jB, jC, jD, jE, jF]
          refine held_stronger (S' := fun w' => (Blk w (w130.heap.size) (.cells #[.int .u8 2] 5)) w' ∧ (fun w' => (Blk w (w123.heap.size) (.cells #[.int .u8 1] 5)) w' ∧ (fun w' => w'.cell? ⟨w.heap.size, 0, none⟩ = some (.int .u64 (q k0)) ∧ w'.cell? ⟨w.heap.size, 1, none⟩ = some (.int .u64 (q k1)) ∧ Box w k0 k1 49 49 w') w') w') (fun _ h => h.2) _ _ _ _ ?_
          replace hHeld := And.intro hnew hHeld
          clear hnew
          try dsimp only at hHeld
          refine' jT 12 rfl (by rfl) ?_ hHeld ?_
          rotate_left
          · (intro w hSw; (try dsimp only at hSw); have cv := conv_2 hSw.1.2; go_simp; (try rw [if_neg (by omega)]); try with_reducible rfl)
          try simp only [Act.put, jA, jB, jC, jD, jE, jF]
          refine' jT 13 rfl (by rfl) ?_ hHeld ?_
          rotate_left
          · (intro w hSw; (try dsimp only at hSw); go_simp; (try rw [if_neg (by omega)]); try with_reducible rfl)
          try simp only [Act.put, jA, jB, jC, jD, jE, jF]
          refine' jT 16 rfl (by rfl) ?_ hHeld ?_
          rotate_left
          · (intro w hSw; (try dsimp only at hSw); go_simp; (try rw [if_neg (by omega)]); try with_reducible rfl)
          try simp only [Act.put, jA, jB, jC, jD, jE, jF]
          refine jR [17] ?_
          refine jG rfl (fun K hK => ?_) (AllReadyH.nil)
          try simp only [jD, jE, jF]
          go_simp
          refine (C1.out _).mono ?_
          rintro e w132 ⟨rfl, hg⟩
          have KP := hid (And.intro (Blk.grown hHeld.1 hg) (And.intro (Blk.grown hHeld.2.1 hg) ((Box.keep (Box.grown (box_box hHeld.2.2) hg)))))
          clear hHeld hg
          go_wp2_with fail
          refine hK.out _ _ KP.out (fun hHeld => ?_)
          clear KP hK K
          try dsimp only at hHeld
          try simp only [Act.put, jA, jB, jC, jD, jE, jF]
          refine' jT 18 rfl (by rfl) ?_ hHeld ?_
          rotate_left
          · (intro w hSw; (try dsimp only at hSw); go_simp; (try rw [if_neg (by omega)]); try with_reducible rfl)
          try simp only [Act.put, jA, jB, jC, jD, jE, jF]
          refine jR [19] ?_
          refine jG rfl (fun K hK => ?_) (AllReadyH.nil)
          try simp only [jD, jE, jF]
          have hB := box_box hHeld.2.2
          obtain ⟨x, y, c0, c1, f0, f1⟩ := box_ans hHeld.2.2 (.refl w132 none)
          have KP := hid (And.intro (Blk.set1 (Blk.set0 hHeld.1 (.int .u64 (q a))) (.int .u64 (q b))) (And.intro (Blk.set1 (Blk.set0 hHeld.2.1 (.int .u64 (q a))) (.int .u64 (q b))) ((Box.keep (Box.set1 (Box.set0 (box_box hHeld.2.2) (.int .u64 (q a))) (.int .u64 (q b)))))))
          clear hHeld
          go_simp
          refine hK.out _ _ KP.out (fun hHeld => ?_)
          clear KP hK K
          try simp only [Act.put, jA, jB, jC, jD, jE, jF]
          refine wpAnyH_done (by kernel_rfl) ?_ _
          have hst := hB.store (.int .u64 (q a)) (.int .u64 (q b))
          clear hB c0 c1 f0 f1 hHeld
          generalize (w132.setCell ⟨w.heap.size + 1, 0, none⟩ (.int .u64 (q a))).setCell ⟨w.heap.size + 1, 1, none⟩ (.int .u64 (q b)) = wx at hst ⊢
          obtain ⟨d0, d1⟩ := pair_cells hst.1
          go_wp2_with fail
          exact bodyPost_ret (v := pair a b) (by simp [results, Tryz.results51, go_sem, d0, d1]) rfl ⟨rfl, hst.2⟩
      · try simp only [jD, jE, jF]
        have KP := hid (And.intro (Blk.grown hHeld.1 (World.grownBy_alloc w124 (.cells #[.int .u8 2] 5) none)) ((Box.keep (Box.grown (box_box hHeld.2) (World.grownBy_alloc w124 (.cells #[.int .u8 2] 5) none)))))
        have hnew := (⟨Box.size (box_box hHeld.2), at_new w124 _⟩ : (Blk w (w124.heap.size) (.cells #[.int .u8 2] 5)) (w124.alloc (.cells #[.int .u8 2] 5)))
        clear hHeld
        go_simp
        refine hK.out _ _ KP.out (fun hHeld => ?_)
        clear KP hK K
        try dsimp only at hHeld hnew
        generalize w124.alloc (.cells #[.int .u8 2] 5) = w134 at hHeld hnew ⊢
        try simp only [Act.put, jA, jB, jC, jD, jE, jF]
        refine held_stronger (S' := fun w' => (Blk w (w124.heap.size) (.cells #[.int .u8 2] 5)) w' ∧ (fun w' => (Blk w (w123.heap.size) (.cells #[.int .u8 1] 5)) w' ∧ (fun w' => w'.cell? ⟨w.heap.size, 0, none⟩ = some (.int .u64 (q k0)) ∧ w'.cell? ⟨w.heap.size, 1, none⟩ = some (.int .u64 (q k1)) ∧ Box w k0 k1 49 49 w') w') w') (fun _ h => h.2) _ _ _ _ ?_
        replace hHeld := And.intro hnew hHeld
        clear hnew
        try dsimp only at hHeld
        refine' jT 12 rfl (by rfl) ?_ hHeld ?_
        rotate_left
        · (intro w hSw; (try dsimp only at hSw); have cv := conv_2 hSw.1.2; go_simp; (try rw [if_neg (by omega)]); try with_reducible rfl)
        try simp only [Act.put, jA, jB, jC, jD, jE, jF]
        refine' jT 13 rfl (by rfl) ?_ hHeld ?_
        rotate_left
        · (intro w hSw; (try dsimp only at hSw); go_simp; (try rw [if_neg (by omega)]); try with_reducible rfl)
        try simp only [Act.put, jA, jB, jC, jD, jE, jF]
        refine jR [8] ?_
        refine jG rfl (fun K hK => ?_) (AllReadyH.nil)
        try simp only [jD, jE, jF]
        go_simp
        refine (C0.out _).mono ?_
        rintro e w135 ⟨rfl, hg⟩
        have KP := hid (And.intro (Blk.grown hHeld.1 hg) (And.intro (Blk.grown hHeld.2.1 hg) ((Box.keep (Box.grown (box_box hHeld.2.2) hg)))))
        clear hHeld hg
        go_wp2_with fail
        refine hK.out _ _ KP.out (fun hHeld => ?_)
        clear KP hK K
        try dsimp only at hHeld
        try simp only [Act.put, jA, jB, jC, jD, jE, jF]
        refine jR [15] ?_
        refine jG rfl (fun K hK => ?_) (AllReadyH.nil)
        try simp only [jD, jE, jF]
        go_simp
        refine (HP.out _).mono ?_
        rintro e w136 ⟨rfl, hg⟩
        have KP := hid (And.intro (Blk.grown hHeld.1 hg) (And.intro (Blk.grown hHeld.2.1 hg) ((Box.keep (Box.grown (box_box hHeld.2.2) hg)))))
        clear hHeld hg
        go_wp2_with fail
        refine hK.out _ _ KP.out (fun hHeld => ?_)
        clear KP hK K
        try dsimp only at hHeld
        try simp only [Act.put, jA, jB, jC, jD, jE, jF]
        refine' jT 16 rfl (by rfl) ?_ hHeld ?_
        rotate_left
        · (intro w hSw; (try dsimp only at hSw); go_simp; (try rw [if_neg (by omega)]); try with_reducible rfl)
        try simp only [Act.put, jA, jB, jC, jD, jE, jF]
        refine jR [17] ?_
        refine jG rfl (fun K hK => ?_) (AllReadyH.nil)
        try simp only [jD, jE, jF]
        go_simp
        refine (C1.out _).mono ?_
        rintro e w137 ⟨rfl, hg⟩
        have KP := hid (And.intro (Blk.grown hHeld.1 hg) (And.intro (Blk.grown hHeld.2.1 hg) ((Box.keep (Box.grown (box_box hHeld.2.2) hg)))))
        clear hHeld hg
        go_wp2_with fail
        refine hK.out _ _ KP.out (fun hHeld => ?_)
        clear KP hK K
        try dsimp only at hHeld
        try simp only [Act.put, jA, jB, jC, jD, jE, jF]
        refine' jT 18 rfl (by rfl) ?_ hHeld ?_
        rotate_left
        · (intro w hSw; (try dsimp only at hSw); go_simp; (try rw [if_neg (by omega)]); try with_reducible rfl)
        try simp only [Act.put, jA, jB, jC, jD, jE, jF]
        refine jR [19] ?_
        refine jG rfl (fun K hK => ?_) (AllReadyH.nil)
        try simp only [jD, jE, jF]
        have hB := box_box hHeld.2.2
        obtain ⟨x, y, c0, c1, f0, f1⟩ := box_ans hHeld.2.2 (.refl w137 none)
        have KP := hid (And.intro (Blk.set1 (Blk.set0 hHeld.1 (.int .u64 (q a))) (.int .u64 (q b))) (And.intro (Blk.set1 (Blk.set0 hHeld.2.1 (.int .u64 (q a))) (.int .u64 (q b))) ((Box.keep (Box.set1 (Box.set0 (box_box hHeld.2.2) (.int .u64 (q a))) (.int .u64 (q b)))))))
        clear hHeld
        go_simp
        refine hK.out _ _ KP.out (fun hHeld => ?_)
        clear KP hK K
        try simp only [Act.put, jA, jB, jC, jD, jE, jF]
        refine wpAnyH_done (by kernel_rfl) ?_ _
        have hst := hB.store (.int .u64 (q a)) (.int .u64 (q b))
        clear hB c0 c1 f0 f1 hHeld
        generalize (w137.setCell ⟨w.heap.size + 1, 0, none⟩ (.int .u64 (q a))).setCell ⟨w.heap.size + 1, 1, none⟩ (.int .u64 (q b)) = wx at hst ⊢
        obtain ⟨d0, d1⟩ := pair_cells hst.1
        go_wp2_with fail
        exact bodyPost_ret (v := pair a b) (by simp [results, Tryz.results51, go_sem, d0, d1]) rfl ⟨rfl, hst.2⟩
    · try simp only [jD, jE, jF]
      have KP := hid ((Box.keep (Box.grown (box_box hHeld) (World.grownBy_alloc w123 (.cells #[.int .u8 2] 5) none))))
      have hnew := (⟨Box.size (box_box hHeld), at_new w123 _⟩ : (Blk w (w123.heap.size) (.cells #[.int .u8 2] 5)) (w123.alloc (.cells #[.int .u8 2] 5)))
      clear hHeld
      go_simp
      refine hK.out _ _ KP.out (fun hHeld => ?_)
      clear KP hK K
      try dsimp only at hHeld hnew
      generalize w123.alloc (.cells #[.int .u8 2] 5) = w139 at hHeld hnew ⊢
      try simp only [Act.put, jA, jB, jC, jD, jE, jF]
      refine held_stronger (S' := fun w' => (Blk w (w123.heap.size) (.cells #[.int .u8 2] 5)) w' ∧ (fun w' => w'.cell? ⟨w.heap.size, 0, none⟩ = some (.int .u64 (q k0)) ∧ w'.cell? ⟨w.heap.size, 1, none⟩ = some (.int .u64 (q k1)) ∧ Box w k0 k1 49 49 w') w') (fun _ h => h.2) _ _ _ _ ?_
      replace hHeld := And.intro hnew hHeld
      clear hnew
      try dsimp only at hHeld
      refine' jT 12 rfl (by rfl) ?_ hHeld ?_
      rotate_left
      · (intro w hSw; (try dsimp only at hSw); have cv := conv_2 hSw.1.2; go_simp; (try rw [if_neg (by omega)]); try with_reducible rfl)
      try simp only [Act.put, jA, jB, jC, jD, jE, jF]
      refine' jT 13 rfl (by rfl) ?_ hHeld ?_
      rotate_left
      · (intro w hSw; (try dsimp only at hSw); go_simp; (try rw [if_neg (by omega)]); try with_reducible rfl)
      try simp only [Act.put, jA, jB, jC, jD, jE, jF]
      refine jR [2] ?_
      refine jG rfl (fun K hK => ?_) (AllReadyH.nil)
      try simp only [jD, jE, jF]
      have KP := hid (And.intro (Blk.grown hHeld.1 (World.grownBy_alloc w139 (.cells #[.int .u8 1] 5) none)) ((Box.keep (Box.grown (box_box hHeld.2) (World.grownBy_alloc w139 (.cells #[.int .u8 1] 5) none)))))
      have hnew := (⟨Box.size (box_box hHeld.2), at_new w139 _⟩ : (Blk w (w139.heap.size) (.cells #[.int .u8 1] 5)) (w139.alloc (.cells #[.int .u8 1] 5)))
      clear hHeld
      go_simp
      refine hK.out _ _ KP.out (fun hHeld => ?_)
      clear KP hK K
      try dsimp only at hHeld hnew
      generalize w139.alloc (.cells #[.int .u8 1] 5) = w140 at hHeld hnew ⊢
      try simp only [Act.put, jA, jB, jC, jD, jE, jF]
      refine held_stronger (S' := fun w' => (Blk w (w139.heap.size) (.cells #[.int .u8 1] 5)) w' ∧ (fun w' => (Blk w (w123.heap.size) (.cells #[.int .u8 2] 5)) w' ∧ (fun w' => w'.cell? ⟨w.heap.size, 0, none⟩ = some (.int .u64 (q k0)) ∧ w'.cell? ⟨w.heap.size, 1, none⟩ = some (.int .u64 (q k1)) ∧ Box w k0 k1 49 49 w') w') w') (fun _ h => h.2) _ _ _ _ ?_
      replace hHeld := And.intro hnew hHeld
      clear hnew
      try dsimp only at hHeld
      refine' jT 3 rfl (by rfl) ?_ hHeld ?_
      rotate_left
      · (intro w hSw; (try dsimp only at hSw); have cv := conv_1 hSw.1.2; go_simp; (try rw [if_neg (by omega)]); try with_reducible rfl)
      try simp only [Act.put, jA, jB, jC, jD, jE, jF]
      refine' jT 4 rfl (by rfl) ?_ hHeld ?_
      rotate_left
      · (intro w hSw; (try dsimp only at hSw); go_simp; (try rw [if_neg (by omega)]); try with_reducible rfl)
      try simp only [Act.put, jA, jB, jC, jD, jE, jF]
      refine' jT 7 rfl (by rfl) ?_ hHeld ?_
      rotate_left
      · (intro w hSw; (try dsimp only at hSw); go_simp; (try rw [if_neg (by omega)]); try with_reducible rfl)
      try simp only [Act.put, jA, jB, jC, jD, jE, jF]
      refine jR [8] ?_
      refine jG rfl (fun K hK => ?_) (AllReadyH.nil)
      try simp only [jD, jE, jF]
      go_simp
      refine (C0.out _).mono ?_
      rintro e w141 ⟨rfl, hg⟩
      have KP := hid (And.intro (Blk.grown hHeld.1 hg) (And.intro (Blk.grown hHeld.2.1 hg) ((Box.keep (Box.grown (box_box hHeld.2.2) hg)))))
      clear hHeld hg
      go_wp2_with fail
      refine hK.out _ _ KP.out (fun hHeld => ?_)
      clear KP hK K
      try dsimp only at hHeld
      try simp only [Act.put, jA, jB, jC, jD, jE, jF]
      refine jR [15] ?_
      refine jG rfl (fun K hK => ?_) (AllReadyH.nil)
      try simp only [jD, jE, jF]
      go_simp
      refine (HP.out _).mono ?_
      rintro e w142 ⟨rfl, hg⟩
      have KP := hid (And.intro (Blk.grown hHeld.1 hg) (And.intro (Blk.grown hHeld.2.1 hg) ((Box.keep (Box.grown (box_box hHeld.2.2) hg)))))
      clear hHeld hg
      go_wp2_with fail
      refine hK.out _ _ KP.out (fun hHeld => ?_)
      clear KP hK K
      try dsimp only at hHeld
      try simp only [Act.put, jA, jB, jC, jD, jE, jF]
      refine' jT 16 rfl (by rfl) ?_ hHeld ?_
      rotate_left
      · (intro w hSw; (try dsimp only at hSw); go_simp; (try rw [if_neg (by omega)]); try with_reducible rfl)
      try simp only [Act.put, jA, jB, jC, jD, jE, jF]
      refine jR [17] ?_
      refine jG rfl (fun K hK => ?_) (AllReadyH.nil)
      try simp only [jD, jE, jF]
      go_simp
      refine (C1.out _).mono ?_
      rintro e w143 ⟨rfl, hg⟩
      have KP := hid (And.intro (Blk.grown hHeld.1 hg) (And.intro (Blk.grown hHeld.2.1 hg) ((Box.keep (Box.grown (box_box hHeld.2.2) hg)))))
      clear hHeld hg
      go_wp2_with fail
      refine hK.out _ _ KP.out (fun hHeld => ?_)
      clear KP hK K
      try dsimp only at hHeld
      try simp only [Act.put, jA, jB, jC, jD, jE, jF]
      refine' jT 18 rfl (by rfl) ?_ hHeld ?_
      rotate_left
      · (intro w hSw; (try dsimp only at hSw); go_simp; (try rw [if_neg (by omega)]); try with_reducible rfl)
      try simp only [Act.put, jA, jB, jC, jD, jE, jF]
      refine jR [19] ?_
      refine jG rfl (fun K hK => ?_) (AllReadyH.nil)
      try simp only [jD, jE, jF]
      have hB := box_box hHeld.2.2
      obtain ⟨x, y, c0, c1, f0, f1⟩ := box_ans hHeld.2.2 (.refl w143 none)
      have KP := hid (And.intro (Blk.set1 (Blk.set0 hHeld.1 (.int .u64 (q a))) (.int .u64 (q b))) (And.intro (Blk.set1 (Blk.set0 hHeld.2.1 (.int .u64 (q a))) (.int .u64 (q b))) ((Box.keep (Box.set1 (Box.set0 (box_box hHeld.2.2) (.int .u64 (q a))) (.int .u64 (q b)))))))
      clear hHeld
      go_simp
      refine hK.out _ _ KP.out (fun hHeld => ?_)
      clear KP hK K
      try simp only [Act.put, jA, jB, jC, jD, jE, jF]
      refine wpAnyH_done (by kernel_rfl) ?_ _
      have hst := hB.store (.int .u64 (q a)) (.int .u64 (q b))
      clear hB c0 c1 f0 f1 hHeld
      generalize (w143.setCell ⟨w.heap.size + 1, 0, none⟩ (.int .u64 (q a))).setCell ⟨w.heap.size + 1, 1, none⟩ (.int .u64 (q b)) = wx at hst ⊢
      obtain ⟨d0, d1⟩ := pair_cells hst.1
      go_wp2_with fail
      exact bodyPost_ret (v := pair a b) (by simp [results, Tryz.results51, go_sem, d0, d1]) rfl ⟨rfl, hst.2⟩
  · try simp only [jD, jE, jF]
    have KP := hid ((Box.keep (Box.grown (box_box hHeld) (World.grownBy_alloc w5 (.cells #[.int .u8 2] 5) none))))
    have hnew := (⟨Box.size (box_box hHeld), at_new w5 _⟩ : (Blk w (w5.heap.size) (.cells #[.int .u8 2] 5)) (w5.alloc (.cells #[.int .u8 2] 5)))
    clear hHeld
    go_simp
    refine hK.out _ _ KP.out (fun hHeld => ?_)
    clear KP hK K
    try dsimp only at hHeld hnew
    generalize w5.alloc (.cells #[.int .u8 2] 5) = w145 at hHeld hnew ⊢
    try simp only [Act.put, jA, jB, jC, jD, jE, jF]
    refine held_stronger (S' := fun w' => (Blk w (w5.heap.size) (.cells #[.int .u8 2] 5)) w' ∧ (fun w' => w'.cell? ⟨w.heap.size, 0, none⟩ = some (.int .u64 (q k0)) ∧ w'.cell? ⟨w.heap.size, 1, none⟩ = some (.int .u64 (q k1)) ∧ Box w k0 k1 49 49 w') w') (fun _ h => h.2) _ _ _ _ ?_
    replace hHeld := And.intro hnew hHeld
    clear hnew
    try dsimp only at hHeld
    refine' jT 12 rfl (by rfl) ?_ hHeld ?_
    rotate_left
    · (intro w hSw; (try dsimp only at hSw); have cv := conv_2 hSw.1.2; go_simp; (try rw [if_neg (by omega)]); try with_reducible rfl)
    try simp only [Act.put, jA, jB, jC, jD, jE, jF]
    refine' jT 13 rfl (by rfl) ?_ hHeld ?_
    rotate_left
    · (intro w hSw; (try dsimp only at hSw); go_simp; (try rw [if_neg (by omega)]); try with_reducible rfl)
    try simp only [Act.put, jA, jB, jC, jD, jE, jF]
    refine jR [2, 6] ?_
    refine jG rfl (fun K hK => ?_) (jG rfl (fun K hK => ?_) (AllReadyH.nil))
    · try simp only [jD, jE, jF]
      have KP := hid (And.intro (Blk.grown hHeld.1 (World.grownBy_alloc w145 (.cells #[.int .u8 1] 5) none)) ((Box.keep (Box.grown (box_box hHeld.2) (World.grownBy_alloc w145 (.cells #[.int .u8 1] 5) none)))))
      have hnew := (⟨Box.size (box_box hHeld.2), at_new w145 _⟩ : (Blk w (w145.heap.size) (.cells #[.int .u8 1] 5)) (w145.alloc (.cells #[.int .u8 1] 5)))
      clear hHeld
      go_simp
      refine hK.out _ _ KP.out (fun hHeld => ?_)
      clear KP hK K
      try dsimp only at hHeld hnew
      generalize w145.alloc (.cells #[.int .u8 1] 5) = w146 at hHeld hnew ⊢
      try simp only [Act.put, jA, jB, jC, jD, jE, jF]
      refine held_stronger (S' := fun w' => (Blk w (w145.heap.size) (.cells #[.int .u8 1] 5)) w' ∧ (fun w' => (Blk w (w5.heap.size) (.cells #[.int .u8 2] 5)) w' ∧ (fun w' => w'.cell? ⟨w.heap.size, 0, none⟩ = some (.int .u64 (q k0)) ∧ w'.cell? ⟨w.heap.size, 1, none⟩ = some (.int .u64 (q k1)) ∧ Box w k0 k1 49 49 w') w') w') (fun _ h => h.2) _ _ _ _ ?_
      replace hHeld := And.intro hnew hHeld
      clear hnew
      try dsimp only at hHeld
      refine' jT 3 rfl (by rfl) ?_ hHeld ?_
      rotate_left
      · (intro w hSw; (try dsimp only at hSw); have cv := conv_1 hSw.1.2; go_simp; (try rw [if_neg (by omega)]); try with_reducible rfl)
      try simp only [Act.put, jA, jB, jC, jD, jE, jF]
      refine' jT 4 rfl (by rfl) ?_ hHeld ?_
      rotate_left
      · (intro w hSw; (try dsimp only at hSw); go_simp; (try rw [if_neg (by omega)]); try with_reducible rfl)
      try simp only [Act.put, jA, jB, jC, jD, jE, jF]
      refine jR [6] ?_
      refine jG rfl (fun K hK => ?_) (AllReadyH.nil)
      try simp only [jD, jE, jF]
      go_simp
      refine (HP.out _).mono ?_
      rintro e w147 ⟨rfl, hg⟩
      have KP := hid (And.intro (Blk.grown hHeld.1 hg) (And.intro (Blk.grown hHeld.2.1 hg) ((Box.keep (Box.grown (box_box hHeld.2.2) hg)))))
      clear hHeld hg
      go_wp2_with fail
      refine hK.out _ _ KP.out (fun hHeld => ?_)
      clear KP hK K
      try dsimp only at hHeld
      try simp only [Act.put, jA, jB, jC, jD, jE, jF]
      refine' jT 7 rfl (by rfl) ?_ hHeld ?_
      rotate_left
      · (intro w hSw; (try dsimp only at hSw); go_simp; (try rw [if_neg (by omega)]); try with_reducible rfl)
      try simp only [Act.put, jA, jB, jC, jD, jE, jF]
      refine jR [8] ?_
      refine jG rfl (fun K hK => ?_) (AllReadyH.nil)
      try simp only [jD, jE, jF]
      go_simp
      refine (C0.out _).mono ?_
      rintro e w148 ⟨rfl, hg⟩
      have KP := hid (And.intro (Blk.grown hHeld.1 hg) (And.intro (Blk.grown hHeld.2.1 hg) ((Box.keep (Box.grown (box_box hHeld.2.2) hg)))))
      clear hHeld hg
      go_wp2_with fail
      refine hK.out _ _ KP.out (fun hHeld => ?_)
      clear KP hK K
      try dsimp only at hHeld
      try simp only [Act.put, jA, jB, jC, jD, jE, jF]
      refine jR [15] ?_
      refine jG rfl (fun K hK => ?_) (AllReadyH.nil)
      try simp only [jD, jE, jF]
      go_simp
      refine (HP.out _).mono ?_
      rintro e w149 ⟨rfl, hg⟩
      have KP := hid (And.intro (Blk.grown hHeld.1 hg) (And.intro (Blk.grown hHeld.2.1 hg) ((Box.keep (Box.grown (box_box hHeld.2.2) hg)))))
      clear hHeld hg
      go_wp2_with fail
      refine hK.out _ _ KP.out (fun hHeld => ?_)
      clear KP hK K
      try dsimp only at hHeld
      try simp only [Act.put, jA, jB, jC, jD, jE, jF]
      refine' jT 16 rfl (by rfl) ?_ hHeld ?_
      rotate_left
      · (intro w hSw; (try dsimp only at hSw); go_simp; (try rw [if_neg (by omega)]); try with_reducible rfl)
      try simp only [Act.put, jA, jB, jC, jD, jE, jF]
      refine jR [17] ?_
      refine jG rfl (fun K hK => ?_) (AllReadyH.nil)
      try simp only [jD, jE, jF]
      go_simp
      refine (C1.out _).mono ?_
      rintro e w150 ⟨rfl, hg⟩
      have KP := hid (And.intro (Blk.grown hHeld.1 hg) (And.intro (Blk.grown hHeld.2.1 hg) ((Box.keep (Box.grown (box_box hHeld.2.2) hg)))))
      clear hHeld hg
      go_wp2_with fail
      refine hK.out _ _ KP.out (fun hHeld => ?_)
      clear KP hK K
      try dsimp only at hHeld
      try simp only [Act.put, jA, jB, jC, jD, jE, jF]
      refine' jT 18 rfl (by rfl) ?_ hHeld ?_
      rotate_left
      · (intro w hSw; (try dsimp only at hSw); go_simp; (try rw [if_neg (by omega)]); try with_reducible rfl)
      try simp only [Act.put, jA, jB, jC, jD, jE, jF]
      refine jR [19] ?_
      refine jG rfl (fun K hK => ?_) (AllReadyH.nil)
      try simp only [jD, jE, jF]
      have hB := box_box hHeld.2.2
      obtain ⟨x, y, c0, c1, f0, f1⟩ := box_ans hHeld.2.2 (.refl w150 none)
      have KP := hid (And.intro (Blk.set1 (Blk.set0 hHeld.1 (.int .u64 (q a))) (.int .u64 (q b))) (And.intro (Blk.set1 (Blk.set0 hHeld.2.1 (.int .u64 (q a))) (.int .u64 (q b))) ((Box.keep (Box.set1 (Box.set0 (box_box hHeld.2.2) (.int .u64 (q a))) (.int .u64 (q b)))))))
      clear hHeld
      go_simp
      refine hK.out _ _ KP.out (fun hHeld => ?_)
      clear KP hK K
      try simp only [Act.put, jA, jB, jC, jD, jE, jF]
      refine wpAnyH_done (by kernel_rfl) ?_ _
      have hst := hB.store (.int .u64 (q a)) (.int .u64 (q b))
      clear hB c0 c1 f0 f1 hHeld
      generalize (w150.setCell ⟨w.heap.size + 1, 0, none⟩ (.int .u64 (q a))).setCell ⟨w.heap.size + 1, 1, none⟩ (.int .u64 (q b)) = wx at hst ⊢
      obtain ⟨d0, d1⟩ := pair_cells hst.1
      go_wp2_with fail
      exact bodyPost_ret (v := pair a b) (by simp [results, Tryz.results51, go_sem, d0, d1]) rfl ⟨rfl, hst.2⟩
    · try simp only [jD, jE, jF]
      go_simp
      refine (HP.out _).mono ?_
      rintro e w152 ⟨rfl, hg⟩
      have KP := hid (And.intro (Blk.grown hHeld.1 hg) ((Box.keep (Box.grown (box_box hHeld.2) hg))))
      clear hHeld hg
      go_wp2_with fail
      refine hK.out _ _ KP.out (fun hHeld => ?_)
      clear KP hK K
      try dsimp only at hHeld
      try simp only [Act.put, jA, jB, jC, jD, jE, jF]
      refine jR [2] ?_
      refine jG rfl (fun K hK => ?_) (AllReadyH.nil)
      try simp only [jD, jE, jF]
      have KP := hid (And.intro (Blk.grown hHeld.1 (World.grownBy_alloc w152 (.cells #[.int .u8 1] 5) none)) ((Box.keep (Box.grown (box_box hHeld.2) (World.grownBy_alloc w152 (.cells #[.int .u8 1] 5) none)))))
      have hnew := (⟨Box.size (box_box hHeld.2), at_new w152 _⟩ : (Blk w (w152.heap.size) (.cells #[.int .u8 1] 5)) (w152.alloc (.cells #[.int .u8 1] 5)))
      clear hHeld
      go_simp
      refine hK.out _ _ KP.out (fun hHeld => ?_)
      clear KP hK K
      try dsimp only at hHeld hnew
      generalize w152.alloc (.cells #[.int .u8 1] 5) = w153 at hHeld hnew ⊢
      try simp only [Act.put, jA, jB, jC, jD, jE, jF]
      refine held_stronger (S' := fun w' => (Blk w (w152.heap.size) (.cells #[.int .u8 1] 5)) w' ∧ (fun w' => (Blk w (w5.heap.size) (.cells #[.int .u8 2] 5)) w' ∧ (fun w' => w'.cell? ⟨w.heap.size, 0, none⟩ = some (.int .u64 (q k0)) ∧ w'.cell? ⟨w.heap.size, 1, none⟩ = some (.int .u64 (q k1)) ∧ Box w k0 k1 49 49 w') w') w') (fun _ h => h.2) _ _ _ _ ?_
      replace hHeld := And.intro hnew hHeld
      clear hnew
      try dsimp only at hHeld
      refine' jT 3 rfl (by rfl) ?_ hHeld ?_
      rotate_left
      · (intro w hSw; (try dsimp only at hSw); have cv := conv_1 hSw.1.2; go_simp; (try rw [if_neg (by omega)]); try with_reducible rfl)
      try simp only [Act.put, jA, jB, jC, jD, jE, jF]
      refine' jT 4 rfl (by rfl) ?_ hHeld ?_
      rotate_left
      · (intro w hSw; (try dsimp only at hSw); go_simp; (try rw [if_neg (by omega)]); try with_reducible rfl)
      try simp only [Act.put, jA, jB, jC, jD, jE, jF]
      refine' jT 7 rfl (by rfl) ?_ hHeld ?_
      rotate_left
      · (intro w hSw; (try dsimp only at hSw); go_simp; (try rw [if_neg (by omega)]); try with_reducible rfl)
      try simp only [Act.put, jA, jB, jC, jD, jE, jF]
      refine jR [8] ?_
      refine jG rfl (fun K hK => ?_) (AllReadyH.nil)
      try simp only [jD, jE, jF]
      go_simp
      refine (C0.out _).mono ?_
      rintro e w154 ⟨rfl, hg⟩
      have KP := hid (And.intro (Blk.grown hHeld.1 hg) (And.intro (Blk.grown hHeld.2.1 hg) ((Box.keep (Box.grown (box_box hHeld.2.2) hg)))))
      clear hHeld hg
      go_wp2_with fail
      refine hK.out _ _ KP.out (fun hHeld => ?_)
      clear KP hK K
      try dsimp only at hHeld
      try simp only [Act.put, jA, jB, jC, jD, jE, jF]
      refine jR [15] ?_
      refine jG rfl (fun K hK => ?_) (AllReadyH.nil)
      try simp only [jD, jE, jF]
      go_simp
      refine (HP.out _).mono ?_
      rintro e w155 ⟨rfl, hg⟩
      have KP := hid (And.intro (Blk.grown hHeld.1 hg) (And.intro (Blk.grown hHeld.2.1 hg) ((Box.keep (Box.grown (box_box hHeld.2.2) hg)))))
      clear hHeld hg
      go_wp2_with fail
      refine hK.out _ _ KP.out (fun hHeld => ?_)
      clear KP hK K
      try dsimp only at hHeld
      try simp only [Act.put, jA, jB, jC, jD, jE, jF]
      refine' jT 16 rfl (by rfl) ?_ hHeld ?_
      rotate_left
      · (intro w hSw; (try dsimp only at hSw); go_simp; (try rw [if_neg (by omega)]); try with_reducible rfl)
      try simp only [Act.put, jA, jB, jC, jD, jE, jF]
      refine jR [17] ?_
      refine jG rfl (fun K hK => ?_) (AllReadyH.nil)
      try simp only [jD, jE, jF]
      go_simp
      refine (C1.out _).mono ?_
      rintro e w156 ⟨rfl, hg⟩
      have KP := hid (And.intro (Blk.grown hHeld.1 hg) (And.intro (Blk.grown hHeld.2.1 hg) ((Box.keep (Box.grown (box_box hHeld.2.2) hg)))))
      clear hHeld hg
      go_wp2_with fail
      refine hK.out _ _ KP.out (fun hHeld => ?_)
      clear KP hK K
      try dsimp only at hHeld
      try simp only [Act.put, jA, jB, jC, jD, jE, jF]
      refine' jT 18 rfl (by rfl) ?_ hHeld ?_
      rotate_left
      · (intro w hSw; (try dsimp only at hSw); go_simp; (try rw [if_neg (by omega)]); try with_reducible rfl)
      try simp only [Act.put, jA, jB, jC, jD, jE, jF]
      refine jR [19] ?_
      refine jG rfl (fun K hK => ?_) (AllReadyH.nil)
      try simp only [jD, jE, jF]
      have hB := box_box hHeld.2.2
      obtain ⟨x, y, c0, c1, f0, f1⟩ := box_ans hHeld.2.2 (.refl w156 none)
      have KP := hid (And.intro (Blk.set1 (Blk.set0 hHeld.1 (.int .u64 (q a))) (.int .u64 (q b))) (And.intro (Blk.set1 (Blk.set0 hHeld.2.1 (.int .u64 (q a))) (.int .u64 (q b))) ((Box.keep (Box.set1 (Box.set0 (box_box hHeld.2.2) (.int .u64 (q a))) (.int .u64 (q b)))))))
      clear hHeld
      go_simp
      refine hK.out _ _ KP.out (fun hHeld => ?_)
      clear KP hK K
      try simp only [Act.put, jA, jB, jC, jD, jE, jF]
      refine wpAnyH_done (by kernel_rfl) ?_ _
      have hst := hB.store (.int .u64 (q a)) (.int .u64 (q b))
      clear hB c0 c1 f0 f1 hHeld
      generalize (w156.setCell ⟨w.heap.size + 1, 0, none⟩ (.int .u64 (q a))).setCell ⟨w.heap.size + 1, 1, none⟩ (.int .u64 (q b)) = wx at hst ⊢
      obtain ⟨d0, d1⟩ := pair_cells hst.1
      go_wp2_with fail
      exact bodyPost_ret (v := pair a b) (by simp [results, Tryz.results51, go_sem, d0, d1]) rfl ⟨rfl, hst.2⟩
end Go.Proofs.YtfhifnhnkgdnlaaGreat
end
section
set_option linter.unusedSimpArgs false
namespace Go.Proofs.YtfhifnhnkgdnlaaGreat
set_option maxRecDepth 100000
open Go.RowKit

theorem refkey_derive (k : Two64) (s : ByteArray) (hs : s.size ≤ 1000) (n : BitVec 64) (w : World) :
    Calls Tryz.prog 51 #[.agg #[.int .u64 (q k.a), .int .u64 (q k.b)], .string s, .int .u64 (q n)] w fun e w' => e = .returned (.agg #[.int .u64 (q (keyOf k s n).a), .int .u64 (q (keyOf k s n).b)]) ∧ w.grownBy w' none := refderive_any k.a k.b s hs n w

set_option maxHeartbeats 1600000 in
theorem refroot_any (seed : BitVec 64) (w : World) :
    Calls Tryz.prog 52 #[.int .u64 (q seed)] w fun e w' => e = .returned (.agg #[.int .u64 (q (rootOf seed).a), .int .u64 (q (rootOf seed).b)]) ∧ w.grownBy w' none := by
  have hq := q_succ seed
  have hd := refkey_derive ⟨seed, seed + 1⟩ ⟨#[114, 111, 111, 116]⟩ (by decide) 0 (w.alloc (.cells #[.int .u64 0, .int .u64 0] 49))
  change Calls _ _ _ _ (fun e w' => e = .returned (.agg #[.int .u64 (q (rootOf seed).a), .int .u64 (q (rootOf seed).b)]) ∧ _) at hd
  generalize rootOf seed = r at hd ⊢
  have A0 := hid (Ans.new w 49 (.int .u64 0) (.int .u64 0))
  have HD := hid hd; clear hd
  go_enter Tryz.func52, Tryz.ntmps52
  go_wp2_with fail
  refine HD.out.mono ?_
  rintro e w1 ⟨rfl, hg⟩
  have A1 := hid (A0.out.grown hg); clear hg HD
  obtain ⟨x, y, c0, c1, f0, f1⟩ := A1.out.cells
  go_wp2_with fail
  clear c0 c1 f0 f1
  have hst := A1.out.store (.int .u64 (q r.a)) (.int .u64 (q r.b))
  generalize (w1.setCell ⟨w.heap.size, 0, none⟩ (.int .u64 (q r.a))).setCell ⟨w.heap.size, 1, none⟩ (.int .u64 (q r.b)) = wx at hst ⊢
  obtain ⟨r0, r1⟩ := pair_cells hst.1
  exact bodyPost_ret (v := .agg #[.int .u64 (q r.a), .int .u64 (q r.b)]) (by simp [results, Tryz.results52, go_sem, r0, r1]) rfl ⟨rfl, hst.2⟩

set_option maxHeartbeats 1600000 in
theorem refof_any (seed : BitVec 64) (who gen : Int) (w : World) :
    Calls Tryz.prog 17 #[.int .u64 (q seed), .int .i64 who, .int .i64 gen] w fun e w' => e = .returned (.agg #[.int .u64 (q (ofOf seed who gen).a), .int .u64 (q (ofOf seed who gen).b)]) ∧ w.grownBy w' none := by
  have hq1 := wrap_i64 who
  have hq2 := wrap_i64 gen
  have hd := fun w => refroot_any seed w
  unfold ofOf
  generalize rootOf seed = r at hd ⊢
  have hd1 := fun w => refkey_derive r ⟨#[119, 104, 111]⟩ (by decide) (BitVec.ofInt 64 who) w
  generalize keyOf r ⟨#[119, 104, 111]⟩ (BitVec.ofInt 64 who) = k1 at hd1 ⊢
  have hd2 := fun w => refkey_derive k1 ⟨#[103, 101, 110]⟩ (by decide) (BitVec.ofInt 64 gen) w
  generalize keyOf k1 ⟨#[103, 101, 110]⟩ (BitVec.ofInt 64 gen) = k2 at hd2 ⊢
  have HD := hid hd; have HD1 := hid hd1; have HD2 := hid hd2; clear hd hd1 hd2
  have A0 := hid (Ans.new w 49 (.int .u64 0) (.int .u64 0))
  go_enter Tryz.func17, Tryz.ntmps17
  go_wp2_with fail
  refine (HD.out _).mono ?_
  rintro e w1 ⟨rfl, hg⟩
  have A1 := hid (A0.out.grown hg); clear hg
  go_wp2_with fail
  refine (HD1.out _).mono ?_
  rintro e w2 ⟨rfl, hg⟩
  have A2 := hid (A1.out.grown hg); clear hg
  go_wp2_with fail
  refine (HD2.out _).mono ?_
  rintro e w3 ⟨rfl, hg⟩
  have A3 := hid (A2.out.grown hg); clear hg
  obtain ⟨x, y, c0, c1, f0, f1⟩ := A3.out.cells
  go_wp2_with fail
  clear c0 c1 f0 f1
  have hst := A3.out.store (.int .u64 (q k2.a)) (.int .u64 (q k2.b))
  generalize (w3.setCell ⟨w.heap.size, 0, none⟩ (.int .u64 (q k2.a))).setCell ⟨w.heap.size, 1, none⟩ (.int .u64 (q k2.b)) = wx at hst ⊢
  obtain ⟨r0, r1⟩ := pair_cells hst.1
  exact bodyPost_ret (v := .agg #[.int .u64 (q k2.a), .int .u64 (q k2.b)]) (by simp [results, Tryz.results17, go_sem, r0, r1]) rfl ⟨rfl, hst.2⟩
end Go.Proofs.YtfhifnhnkgdnlaaGreat
end
section
set_option linter.unusedSimpArgs false
set_option linter.unusedVariables false
namespace Go.Proofs.YtfhifnhnkgdnlaaGreat
set_option maxRecDepth 100000
open Go.RowKit

theorem gb_drewN {w w1 : World} {r : Option Nat} (h : w.grownBy w1 r) (n : Nat) : w.grownBy (w1.drewN n) r := ⟨h.os, h.tape, h.output, h.size, h.block⟩
structure AnsF (w : World) (b g s : Nat) (r : Rg) (w' : World) : Prop where
  a : Ans w 49 w'
  r : RfAt w' b g s r
theorem AnsF.new {w : World} {b g s : Nat} {r : Rg} (H : RfAt w b g s r) : AnsF w b g s r (w.alloc (.cells #[.int .u64 0, .int .u64 0] 49)) := ⟨.new w _ _ _, H.grown (World.grownBy_alloc w _ none)⟩
theorem AnsF.grown {w w1 w2 : World} {b g s : Nat} {r : Rg} (A : AnsF w b g s r w1) (hg : w1.grownBy w2 none) : AnsF w b g s r w2 := ⟨A.a.grown hg, A.r.grown hg⟩
theorem AnsF.drewN {w w1 : World} {b g s : Nat} {r : Rg} (A : AnsF w b g s r w1) (n : Nat) : AnsF w b g s r (w1.drewN n) := ⟨⟨A.a.ans, gb_drewN A.a.g n⟩, ⟨A.r.top, A.r.gens, A.r.sinces, A.r.bg, A.r.bs, A.r.gs, A.r.ok⟩⟩

set_option maxHeartbeats 3200000 in
theorem fkey_now {b g s : Nat} {r : Rg} (i : Nat) (now : Int) (w : World) (H : RfAt w b g s r) (hi : i < r.n) :
    Calls Tryz.prog 100 #[.pointer (some ⟨b, 0, none⟩), .int .i64 (i : Int), .int .i64 (r.gen i), .int .i64 now] w fun e w' => e = .returned (.tuple #[.agg #[.int .u64 (q (ofOf r.seed i (r.gen i)).a), .int .u64 (q (ofOf r.seed i (r.gen i)).b)], .int .i64 0]) ∧ w.grownBy w' none := by
  have A0 := hid (AnsF.new H)
  have hok := H.ok
  clear H
  have HO := hid (fun w => refof_any r.seed (i : Int) (r.gen i) w)
  generalize ofOf r.seed i (r.gen i) = k at HO ⊢
  have hC := fun w' (A : AnsF w b g s r w') => A.r.cells hi
  have hT := fun w' (A : AnsF w b g s r w') => A.r.tops
  have n2 := hok.n2
  have i0 : (0 : Int) ≤ (i : Int) := by omega
  have e1 : decide ((i : Int) < 0) = false := by simp
  have e2 : decide (r.n ≤ i) = false := by simp; omega
  have i1 : (i : Int) < (r.n : Int) := by omega
  have q0 := hok.e0 i; have q1 := hok.e1 i; have q2 := hok.s0 i; have q3 := hok.s1 i; have q4 := hok.g1; have q5 := hok.g2
  clear hok
  generalize r.gen i = x at *
  generalize r.since i = y at *
  generalize r.grace = gr at *
  generalize r.n = n at *
  generalize r.seed = sd at *
  have HC := hid hC; have HT := hid hT; clear hC hT
  have d0 : decide (0 ≤ x) = true := by simpa using q0
  go_enter Tryz.func100, Tryz.ntmps100
  go_upto_region 1 with fail
  refine wp_gen (fun wx => AnsF w b g s r wx) A0.out ?_
  clear A0
  intro w1 hA
  obtain ⟨t0, t1, t2, t3⟩ := HT.out _ hA
  obtain ⟨c0, c1, f0, f1⟩ := HC.out _ hA
  have A1 := hid hA; clear hA
  go_wp2_with fail
  go_quiet (fail)
  go_wp2_with fail
  refine (HO.out _).mono ?_
  rintro e w3 ⟨rfl, hg⟩
  have A3 := hid ((A1.out.drewN _).grown hg); clear hg A1 c0 c1 f0 f1 t0 t1 t2 t3
  obtain ⟨x9, y9, c0, c1, f0, f1⟩ := A3.out.a.cells
  go_wp2_with fail
  clear c0 c1 f0 f1
  have hst := A3.out.a.store (.int .u64 (q k.a)) (.int .u64 (q k.b))
  generalize (w3.setCell ⟨w.heap.size, 0, none⟩ (.int .u64 (q k.a))).setCell ⟨w.heap.size, 1, none⟩ (.int .u64 (q k.b)) = wx at hst ⊢
  have r0 : wx.cell? ⟨w.heap.size, 0, none⟩ = some (.int .u64 (q k.a)) := at_cell hst.1 0
  have r1 : wx.cell? ⟨w.heap.size, 1, none⟩ = some (.int .u64 (q k.b)) := at_cell hst.1 1
  exact bodyPost_ret (v := .tuple #[.agg #[.int .u64 (q k.a), .int .u64 (q k.b)], .int .i64 0]) (by simp [results, Tryz.results100, go_sem, r0, r1]) rfl ⟨rfl, hst.2⟩

set_option maxHeartbeats 3200000 in
theorem fkey_old {b g s : Nat} {r : Rg} (i : Nat) (now : Int) (w : World) (H : RfAt w b g s r) (hi : i < r.n) (hg1 : 1 ≤ r.gen i) (hnow : now < r.since i + (r.grace : Int)) :
    Calls Tryz.prog 100 #[.pointer (some ⟨b, 0, none⟩), .int .i64 (i : Int), .int .i64 (r.gen i - 1), .int .i64 now] w fun e w' => e = .returned (.tuple #[.agg #[.int .u64 (q (ofOf r.seed i (r.gen i - 1)).a), .int .u64 (q (ofOf r.seed i (r.gen i - 1)).b)], .int .i64 0]) ∧ w.grownBy w' none := by
  have A0 := hid (AnsF.new H)
  have hok := H.ok
  clear H
  have HO := hid (fun w => refof_any r.seed (i : Int) (r.gen i - 1) w)
  generalize ofOf r.seed i (r.gen i - 1) = k at HO ⊢
  have hC := fun w' (A : AnsF w b g s r w') => A.r.cells hi
  have hT := fun w' (A : AnsF w b g s r w') => A.r.tops
  have n2 := hok.n2
  have i0 : (0 : Int) ≤ (i : Int) := by omega
  have e1 : decide ((i : Int) < 0) = false := by simp
  have e2 : decide (r.n ≤ i) = false := by simp; omega
  have i1 : (i : Int) < (r.n : Int) := by omega
  have q0 := hok.e0 i; have q1 := hok.e1 i; have q2 := hok.s0 i; have q3 := hok.s1 i; have q4 := hok.g1; have q5 := hok.g2
  clear hok
  generalize r.gen i = x at *
  generalize r.since i = y at *
  generalize r.grace = gr at *
  generalize r.n = n at *
  generalize r.seed = sd at *
  have HC := hid hC; have HT := hid hT; clear hC hT
  have d0 : decide (0 ≤ x - 1) = true := by simp; omega
  have d1 : (x - 1 == x) = false := by simp; omega
  have d2 : decide (now < y + (gr : Int)) = true := by simpa using hnow
  go_enter Tryz.func100, Tryz.ntmps100
  go_upto_region 1 with fail
  refine wp_gen (fun wx => AnsF w b g s r wx) A0.out ?_
  clear A0
  intro w1 hA
  obtain ⟨t0, t1, t2, t3⟩ := HT.out _ hA
  obtain ⟨c0, c1, f0, f1⟩ := HC.out _ hA
  have A1 := hid hA; clear hA
  go_wp2_with fail
  go_quiet (fail)
  go_wp2_with fail
  refine (HO.out _).mono ?_
  rintro e w3 ⟨rfl, hg⟩
  have A3 := hid ((A1.out.drewN _).grown hg); clear hg A1 c0 c1 f0 f1 t0 t1 t2 t3
  obtain ⟨x9, y9, c0, c1, f0, f1⟩ := A3.out.a.cells
  go_wp2_with fail
  clear c0 c1 f0 f1
  have hst := A3.out.a.store (.int .u64 (q k.a)) (.int .u64 (q k.b))
  generalize (w3.setCell ⟨w.heap.size, 0, none⟩ (.int .u64 (q k.a))).setCell ⟨w.heap.size, 1, none⟩ (.int .u64 (q k.b)) = wx at hst ⊢
  have r0 : wx.cell? ⟨w.heap.size, 0, none⟩ = some (.int .u64 (q k.a)) := at_cell hst.1 0
  have r1 : wx.cell? ⟨w.heap.size, 1, none⟩ = some (.int .u64 (q k.b)) := at_cell hst.1 1
  exact bodyPost_ret (v := .tuple #[.agg #[.int .u64 (q k.a), .int .u64 (q k.b)], .int .i64 0]) (by simp [results, Tryz.results100, go_sem, r0, r1]) rfl ⟨rfl, hst.2⟩

set_option maxHeartbeats 3200000 in
theorem fkey_gen {b g s : Nat} {r : Rg} (i : Nat) (gen : Int) (now : Int) (w : World) (H : RfAt w b g s r) (hi : i < r.n) (hk : ¬ r.keyIs i gen now) :
    Calls Tryz.prog 100 #[.pointer (some ⟨b, 0, none⟩), .int .i64 (i : Int), .int .i64 gen, .int .i64 now] w fun e w' => e = .returned (.tuple #[.agg #[.int .u64 0, .int .u64 0], .int .i64 4]) ∧ w.grownBy w' none := by
  have A0 := hid (AnsF.new H)
  have hok := H.ok
  clear H
  unfold Rg.keyIs at hk
  have hC := fun w' (A : AnsF w b g s r w') => A.r.cells hi
  have hT := fun w' (A : AnsF w b g s r w') => A.r.tops
  have n2 := hok.n2
  have i0 : (0 : Int) ≤ (i : Int) := by omega
  have e1 : decide ((i : Int) < 0) = false := by simp
  have e2 : decide (r.n ≤ i) = false := by simp; omega
  have i1 : (i : Int) < (r.n : Int) := by omega
  have q0 := hok.e0 i; have q1 := hok.e1 i; have q2 := hok.s0 i; have q3 := hok.s1 i; have q4 := hok.g1; have q5 := hok.g2
  clear hok
  generalize r.gen i = x at *
  generalize r.since i = y at *
  generalize r.grace = gr at *
  generalize r.n = n at *
  generalize r.seed = sd at *
  have HC := hid hC; have HT := hid hT; clear hC hT
  by_cases h0 : gen < 0
  · have d0 : decide (0 ≤ gen) = false := by simp; omega
    clear hk
    go_enter Tryz.func100, Tryz.ntmps100
    go_upto_region 1 with fail
    refine wp_gen (fun wx => AnsF w b g s r wx) A0.out ?_
    clear A0
    intro w1 hA
    obtain ⟨t0, t1, t2, t3⟩ := HT.out _ hA
    obtain ⟨c0, c1, f0, f1⟩ := HC.out _ hA
    have A1 := hid hA; clear hA
    go_wp2_with fail
    go_quiet (fail)
    have A3 := hid (A1.out.drewN nq); clear A1 c0 c1 f0 f1 t0 t1 t2 t3
    generalize w1.drewN nq = w3 at *
    obtain ⟨x9, y9, c0, c1, f0, f1⟩ := A3.out.a.cells
    go_wp2_with fail
    clear c0 c1 f0 f1
    have hst := A3.out.a.store (.int .u64 0) (.int .u64 0)
    generalize (w3.setCell ⟨w.heap.size, 0, none⟩ (.int .u64 0)).setCell ⟨w.heap.size, 1, none⟩ (.int .u64 0) = wx at hst ⊢
    have r0 : wx.cell? ⟨w.heap.size, 0, none⟩ = some (.int .u64 0) := at_cell hst.1 0
    have r1 : wx.cell? ⟨w.heap.size, 1, none⟩ = some (.int .u64 0) := at_cell hst.1 1
    exact bodyPost_ret (v := .tuple #[.agg #[.int .u64 0, .int .u64 0], .int .i64 4]) (by simp [results, Tryz.results100, go_sem, r0, r1]) rfl ⟨rfl, hst.2⟩
  have d0 : decide (0 ≤ gen) = true := by simp; omega
  have d1 : (gen == x) = false := by simp; omega
  by_cases h1 : gen = x - 1
  · have d2 : decide (now < y + (gr : Int)) = false := by simp; omega
    have g1 : 1 ≤ x := by omega
    subst h1
    clear hk h0
    go_enter Tryz.func100, Tryz.ntmps100
    go_upto_region 1 with fail
    refine wp_gen (fun wx => AnsF w b g s r wx) A0.out ?_
    clear A0
    intro w1 hA
    obtain ⟨t0, t1, t2, t3⟩ := HT.out _ hA
    obtain ⟨c0, c1, f0, f1⟩ := HC.out _ hA
    have A1 := hid hA; clear hA
    go_wp2_with fail
    go_quiet (fail)
    have A3 := hid (A1.out.drewN nq); clear A1 c0 c1 f0 f1 t0 t1 t2 t3
    generalize w1.drewN nq = w3 at *
    obtain ⟨x9, y9, c0, c1, f0, f1⟩ := A3.out.a.cells
    go_wp2_with fail
    clear c0 c1 f0 f1
    have hst := A3.out.a.store (.int .u64 0) (.int .u64 0)
    generalize (w3.setCell ⟨w.heap.size, 0, none⟩ (.int .u64 0)).setCell ⟨w.heap.size, 1, none⟩ (.int .u64 0) = wx at hst ⊢
    have r0 : wx.cell? ⟨w.heap.size, 0, none⟩ = some (.int .u64 0) := at_cell hst.1 0
    have r1 : wx.cell? ⟨w.heap.size, 1, none⟩ = some (.int .u64 0) := at_cell hst.1 1
    exact bodyPost_ret (v := .tuple #[.agg #[.int .u64 0, .int .u64 0], .int .i64 4]) (by simp [results, Tryz.results100, go_sem, r0, r1]) rfl ⟨rfl, hst.2⟩
  · have d2 : (gen == x - 1) = false := by simp; omega
    clear hk
    go_enter Tryz.func100, Tryz.ntmps100
    go_upto_region 1 with fail
    refine wp_gen (fun wx => AnsF w b g s r wx) A0.out ?_
    clear A0
    intro w1 hA
    obtain ⟨t0, t1, t2, t3⟩ := HT.out _ hA
    obtain ⟨c0, c1, f0, f1⟩ := HC.out _ hA
    have A1 := hid hA; clear hA
    go_wp2_with fail
    go_quiet (fail)
    have A3 := hid (A1.out.drewN nq); clear A1 c0 c1 f0 f1 t0 t1 t2 t3
    generalize w1.drewN nq = w3 at *
    obtain ⟨x9, y9, c0, c1, f0, f1⟩ := A3.out.a.cells
    go_wp2_with fail
    clear c0 c1 f0 f1
    have hst := A3.out.a.store (.int .u64 0) (.int .u64 0)
    generalize (w3.setCell ⟨w.heap.size, 0, none⟩ (.int .u64 0)).setCell ⟨w.heap.size, 1, none⟩ (.int .u64 0) = wx at hst ⊢
    have r0 : wx.cell? ⟨w.heap.size, 0, none⟩ = some (.int .u64 0) := at_cell hst.1 0
    have r1 : wx.cell? ⟨w.heap.size, 1, none⟩ = some (.int .u64 0) := at_cell hst.1 1
    exact bodyPost_ret (v := .tuple #[.agg #[.int .u64 0, .int .u64 0], .int .i64 4]) (by simp [results, Tryz.results100, go_sem, r0, r1]) rfl ⟨rfl, hst.2⟩

set_option maxHeartbeats 1600000 in
theorem fkey_who {b g s : Nat} {r : Rg} (x gen now : Int) (w : World) (H : RfAt w b g s r) (hx : x < 0 ∨ (r.n : Int) ≤ x) :
    Calls Tryz.prog 100 #[.pointer (some ⟨b, 0, none⟩), .int .i64 x, .int .i64 gen, .int .i64 now] w fun e w' => e = .returned (.tuple #[.agg #[.int .u64 0, .int .u64 0], .int .i64 3]) ∧ w.grownBy w' none := by
  have A0 := hid (AnsF.new H)
  have hT := fun w' (A : AnsF w b g s r w') => A.r.tops
  clear H
  generalize r.n = n at *
  have HT := hid hT; clear hT
  by_cases h : x < 0
  · have e1 : decide (x < 0) = true := by simpa using h
    clear hx
    go_enter Tryz.func100, Tryz.ntmps100
    go_upto_region 1 with fail
    refine wp_gen (fun wx => AnsF w b g s r wx) A0.out ?_
    clear A0
    intro w1 hA
    obtain ⟨t0, t1, t2, t3⟩ := HT.out _ hA
    have A3 := hid hA; clear hA t0 t1 t2 t3
    generalize w1 = w3 at *
    obtain ⟨x9, y9, c0, c1, f0, f1⟩ := A3.out.a.cells
    go_wp2_with fail
    clear c0 c1 f0 f1
    have hst := A3.out.a.store (.int .u64 0) (.int .u64 0)
    generalize (w3.setCell ⟨w.heap.size, 0, none⟩ (.int .u64 0)).setCell ⟨w.heap.size, 1, none⟩ (.int .u64 0) = wx at hst ⊢
    have r0 : wx.cell? ⟨w.heap.size, 0, none⟩ = some (.int .u64 0) := at_cell hst.1 0
    have r1 : wx.cell? ⟨w.heap.size, 1, none⟩ = some (.int .u64 0) := at_cell hst.1 1
    exact bodyPost_ret (v := .tuple #[.agg #[.int .u64 0, .int .u64 0], .int .i64 3]) (by simp [results, Tryz.results100, go_sem, r0, r1]) rfl ⟨rfl, hst.2⟩
  · have e1 : decide (x < 0) = false := by simpa using h
    have e2 : decide ((n : Int) ≤ x) = true := by simp; omega
    clear hx
    go_enter Tryz.func100, Tryz.ntmps100
    go_upto_region 1 with fail
    refine wp_gen (fun wx => AnsF w b g s r wx) A0.out ?_
    clear A0
    intro w1 hA
    obtain ⟨t0, t1, t2, t3⟩ := HT.out _ hA
    have A3 := hid hA; clear hA
    obtain ⟨x9, y9, c0, c1, f0, f1⟩ := A3.out.a.cells
    go_wp2_with fail
    clear c0 c1 f0 f1 t0 t1 t2 t3
    have hst := A3.out.a.store (.int .u64 0) (.int .u64 0)
    generalize (w1.setCell ⟨w.heap.size, 0, none⟩ (.int .u64 0)).setCell ⟨w.heap.size, 1, none⟩ (.int .u64 0) = wx at hst ⊢
    have r0 : wx.cell? ⟨w.heap.size, 0, none⟩ = some (.int .u64 0) := at_cell hst.1 0
    have r1 : wx.cell? ⟨w.heap.size, 1, none⟩ = some (.int .u64 0) := at_cell hst.1 1
    exact bodyPost_ret (v := .tuple #[.agg #[.int .u64 0, .int .u64 0], .int .i64 3]) (by simp [results, Tryz.results100, go_sem, r0, r1]) rfl ⟨rfl, hst.2⟩

theorem fkey_any {b g s : Nat} {r : Rg} (who gen now : Int) (w : World) (H : RfAt w b g s r) :
    Calls Tryz.prog 100 #[.pointer (some ⟨b, 0, none⟩), .int .i64 who, .int .i64 gen, .int .i64 now] w fun e w' => e = .returned (keyVal (r.key who gen now)) ∧ w.grownBy w' none := by
  by_cases h0 : 0 ≤ who ∧ who < (r.n : Int)
  · obtain ⟨i, rfl⟩ := Int.eq_ofNat_of_zero_le h0.1
    have hi : i < r.n := by have := h0.2; omega
    by_cases hk : r.keyIs i gen now
    · rw [show r.key (i : Int) gen now = (ofOf r.seed i gen, 0) by unfold Rg.key; rw [if_pos h0, Int.toNat_natCast, if_pos hk]]
      obtain ⟨k0, rfl | ⟨rfl, hn⟩⟩ := hk
      · exact fkey_now i now w H hi
      · exact fkey_old i now w H hi (by omega) hn
    · rw [show r.key (i : Int) gen now = (⟨0, 0⟩, 4) by unfold Rg.key; rw [if_pos h0, Int.toNat_natCast, if_neg hk]]
      exact fkey_gen i gen now w H hi hk
  · rw [show r.key who gen now = (⟨0, 0⟩, 3) by unfold Rg.key; rw [if_neg h0]]
    exact fkey_who who gen now w H (by omega)
end Go.Proofs.YtfhifnhnkgdnlaaGreat
end
section
set_option linter.unusedSimpArgs false
set_option linter.unusedVariables false
namespace Go.Proofs.YtfhifnhnkgdnlaaGreat
set_option maxRecDepth 100000
open Go.RowKit

end Go.Proofs.YtfhifnhnkgdnlaaGreat
end
section
set_option linter.unusedSimpArgs false
namespace Go.Proofs.YtfhifnhnkgdnlaaGreat
set_option maxRecDepth 100000
open Go.RowKit

def iv (n : Int) : Value := .int .i64 n
def OwnI (base : Nat) (w : World) (v : Value) (l : List Int) : Prop := w.ownsRow base 2 1 v l.length (l.map iv)
/-- the block of a slice of the call's own -/
def ownL (v : Value) : List Nat := v.ownBlock.toList
theorem OwnI.form {base : Nat} {w : World} {v : Value} {l : List Int} (h : OwnI base w v l) : ∃ p c, v = .slice p l.length c := by
  obtain ⟨_, h | ⟨g, cap, cur, rfl, _⟩⟩ := h
  · exact ⟨none, 0, by rw [h.1, h.2]⟩
  · exact ⟨_, _, rfl⟩
theorem OwnI.at {base : Nat} {w : World} {v : Value} {l : List Int} (h : OwnI base w v l) : ∀ g, g ∈ ownL v → base ≤ g ∧ g < w.heap.size := by
  intro g hg
  obtain ⟨_, h | ⟨g', cap, cur, rfl, hb, hh, _⟩⟩ := h
  · rw [h.1] at hg; simp [ownL, Value.ownBlock] at hg
  · simp [ownL, Value.ownBlock] at hg
    subst hg
    exact ⟨hb, at_lt hh⟩
theorem OwnI.cells {base : Nat} {w : World} {v : Value} {l : List Int} (h : OwnI base w v l) {i : Nat} (hi : i < l.length) :
    ∃ g c, v = .slice (some ⟨g, 0, none⟩) l.length c ∧ l.length ≤ c ∧ ∀ j, (h : j < l.length) → w.cell? ⟨g, j, none⟩ = some (.int .i64 l[j]) := by
  obtain ⟨_, h | ⟨g, cap, cur, rfl, _, hh, h1, h2, h3, h4⟩⟩ := h
  · exact absurd hi (by rw [h.2]; simp)
  · refine ⟨g, cap, rfl, h1, fun j hj => ?_⟩
    rw [at_cell hh j]
    have hc : cur.toList[j]? = (l.map iv)[j]? := by
      rw [← h4, Nat.mul_one, List.getElem?_take]; simp [hj]
    rw [← Array.getElem?_toList, hc]
    simp [List.getElem?_map, List.getElem?_eq_getElem hj, iv]
theorem OwnI.chg {base : Nat} {w w1 : World} {F : List Nat} {v : Value} {l : List Int} (h : OwnI base w v l) (hg : Chg F w w1) (hr : ∀ g, g ∈ ownL v → g ∉ F) : OwnI base w1 v l := by
  obtain ⟨h0, h | ⟨g, cap, cur, rfl, hb, hh, h1⟩⟩ := h
  · exact ⟨h0, .inl h⟩
  · exact ⟨h0, .inr ⟨g, cap, cur, rfl, hb, hg.at hh (hr g (by simp [ownL, Value.ownBlock])), h1⟩⟩
theorem OwnI.nil (base : Nat) (w : World) : OwnI base w (.slice none 0 0) [] := ⟨rfl, .inl ⟨rfl, rfl⟩⟩
theorem OwnI.le {base base' : Nat} {w : World} {v : Value} {l : List Int} (h : OwnI base w v l) (hb : base' ≤ base) : OwnI base' w v l := by
  obtain ⟨h0, h | ⟨g, cap, cur, rfl, hb', h1⟩⟩ := h
  · exact ⟨h0, .inl h⟩
  · exact ⟨h0, .inr ⟨g, cap, cur, rfl, Nat.le_trans hb hb', h1⟩⟩
end Go.Proofs.YtfhifnhnkgdnlaaGreat
end
section
set_option linter.unusedSimpArgs false
set_option linter.unusedVariables false
namespace Go.Proofs.YtfhifnhnkgdnlaaGreat
set_option maxRecDepth 100000
open Go.RowKit

/-- the numbers that are kept, and the model -/
structure RqL (L : List Int) (r : Rp) : Prop where
  le : ∀ n, n ∈ L → n ≤ r.top
  win : ∀ n, r.top - r.win < n → n ≤ r.top → (n ∈ L ↔ r.bits.getLsbD (r.top - n).toNat = true)
theorem rql_new (n : Nat) : RqL [] (.new n) := ⟨fun _ h => (by cases h), fun m _ _ => (by simp [Rp.new])⟩
theorem rql_may {L : List Int} {r : Rp} (h : RqL L r) (n : Int) : r.may n = (decide (1 ≤ n) && decide (n ≤ 1099511627776) && decide (r.top - r.win < n) && !decide (n ∈ L)) := by
  unfold Rp.may
  by_cases h1 : 1 ≤ n <;> by_cases h2 : n ≤ 1099511627776
  · by_cases h3 : r.top < n
    · have h4 : n ∉ L := fun hm => by have := h.le n hm; omega
      have h5 : r.top - r.win < n := by omega
      simp [h1, h2, h3, h4, h5]
    · by_cases h4 : r.top - r.win < n
      · have := h.win n h4 (by omega)
        have h5 : r.top - n < r.win := by omega
        rw [Bool.eq_iff_iff]
        simp only [h1, h2, h3, h4, h5, decide_eq_true_eq, Bool.and_eq_true, Bool.not_eq_true', decide_eq_false_iff_not, this, true_and, false_or, Bool.not_eq_true]
      · have h5 : ¬ r.top - n < r.win := by omega
        rw [Bool.eq_iff_iff]
        simp only [h1, h2, h3, h4, h5, decide_eq_true_eq, Bool.and_eq_true, decide_false, decide_true]
        simp
  all_goals simp [h1, h2]
/-- a Replay of the document's -/
structure RqAt (w : World) (b : Nat) (v : Value) (K : Nat) (r : Rp) : Prop where
  top : w.heap[b]? = some (.cells #[.int .i64 (r.win : Int), .int .i64 r.top, v] 70)
  row : ∃ L, OwnI 0 w v L ∧ RqL L r ∧ L.length ≤ K
  nb : b ∉ ownL v
  ok : r.Ok
section
variable {w w' : World} {b K K' : Nat} {v : Value} {r : Rp} {F : List Nat}
theorem RqAt.chg (H : RqAt w b v K r) (hc : Chg F w w') (hb : b ∉ F) (hv : ∀ g, g ∈ ownL v → g ∉ F) : RqAt w' b v K r :=
  ⟨hc.at H.top hb, by obtain ⟨L, h1, h2⟩ := H.row; exact ⟨L, h1.chg hc hv, h2⟩, H.nb, H.ok⟩
theorem RqAt.grown (H : RqAt w b v K r) (hg : w.grownBy w' none) : RqAt w' b v K r := H.chg (chg_grown hg []) (by simp) (by simp)
theorem RqAt.drew (H : RqAt w b v K r) : RqAt w.drew b v K r := H.chg ((chg_refl w []).drew) (by simp) (by simp)
theorem RqAt.more (H : RqAt w b v K r) (h : K ≤ K') : RqAt w b v K' r := ⟨H.top, by obtain ⟨L, h1, h2, h3⟩ := H.row; exact ⟨L, h1, h2, by omega⟩, H.nb, H.ok⟩
theorem RqAt.lt (H : RqAt w b v K r) : b < w.heap.size ∧ ∀ g, g ∈ ownL v → g < w.heap.size := ⟨at_lt H.top, by obtain ⟨L, h1, _⟩ := H.row; exact fun g hg => (h1.at g hg).2⟩
theorem RqAt.tops (H : RqAt w b v K r) : w.cell? ⟨b, 0, none⟩ = some (.int .i64 (r.win : Int)) ∧ w.cell? ⟨b, 1, none⟩ = some (.int .i64 r.top) ∧ w.cell? ⟨b, 2, none⟩ = some v ∧ w.frozen? ⟨b, 1, none⟩ = false ∧ w.frozen? ⟨b, 2, none⟩ = false :=
  ⟨at_cell H.top 0, at_cell H.top 1, at_cell H.top 2, at_free H.top 1, at_free H.top 2⟩
end

set_option maxHeartbeats 1600000 in
theorem fhas_any {b : Nat} {v : Value} {L : List Int} (n : Int) (w : World) (hb : w.cell? ⟨b, 2, none⟩ = some v) (ho : OwnI 0 w v L) (hl : L.length ≤ 1000000) (res : Bool) (hr : decide (n ∈ L) = res) :
    Calls Tryz.prog 74 #[.pointer (some ⟨b, 0, none⟩), .int .i64 n] w fun e w' => e = .returned (.bool res) ∧ w = w' := by
  have HR := hid hr; clear hr
  obtain ⟨p, c, rfl⟩ := ho.form
  have HO := hid ho; clear ho
  generalize hlen : L.length = len at *
  have HL := hid hlen; clear hlen
  go_enter Tryz.func74, Tryz.ntmps74
  go_wp2_with fail
  go_loop [5] (fun i => ∃ k : Nat, k ≤ len ∧ i = .int .i64 (k : Int) ∧ ∀ j, j < k → L[j]? ≠ some n) (fun i => len - (intOf i).toNat)
  case atStart => exact ⟨0, Nat.zero_le _, rfl, fun j h => absurd h (Nat.not_lt_zero _)⟩
  case round =>
    obtain ⟨k, hk, rfl, hno⟩ := hrel
    have HN := hid hno; clear hno
    by_cases hlt : k < len
    · obtain ⟨z, hz⟩ : ∃ z, L[k]? = some z := ⟨_, List.getElem?_eq_getElem (by rw [HL.out]; exact hlt)⟩
      obtain ⟨g, rfl, hc, ck⟩ : ∃ g, p = some ⟨g, 0, none⟩ ∧ len ≤ c ∧ w.cell? ⟨g, k, none⟩ = some (.int .i64 z) := by
        obtain ⟨g, c', e, hc, hcell⟩ := HO.out.cells (i := k) (by rw [HL.out]; exact hlt)
        have hk' : k < L.length := by rw [HL.out]; exact hlt
        cases e
        refine ⟨g, rfl, by rw [← HL.out]; exact hc, ?_⟩
        rw [hcell k hk']
        rw [List.getElem?_eq_getElem hk'] at hz
        rw [Option.some.inj hz]
      by_cases he : z = n
      · have hd : decide (n ∈ L) = true := decide_eq_true (he ▸ List.mem_of_getElem? hz)
        have d1 : (z == n) = true := by simpa using he
        clear he hz
        have hr := HR.out
        rw [hd] at hr
        subst hr
        clear hd HR
        go_wp2_with fail
        go_ret
        exact ⟨rfl, rfl⟩
      · have hn2 : ∀ j, j < k + 1 → L[j]? ≠ some n := fun j hj => by
          by_cases e : j = k
          · subst e; rw [hz]; simpa using he
          · exact HN.out j (by omega)
        have HN2 := hid hn2; clear hn2
        have d1 : (z == n) = false := by simpa using he
        clear he hz
        go_wp2_with fail
        go_round
        case rel => exact ⟨k + 1, by omega, by go_num, HN2.out⟩
        case measure => simp [intOf]; omega
    · have hd : decide (n ∈ L) = false := decide_eq_false fun hm => by
        obtain ⟨j, hj, e⟩ := List.mem_iff_getElem.1 hm
        have := HL.out
        exact HN.out j (by omega) (by rw [List.getElem?_eq_getElem hj, e])
      have hr := HR.out
      rw [hd] at hr
      subst hr
      clear hd HR
      go_wp2_with fail
      go_ret
      exact ⟨rfl, rfl⟩

/-- New -/
def MadeQ (w : World) (r : Rp) (e : Ending) (w' : World) : Prop := ∃ b, e = .returned (.pointer (some ⟨b, 0, none⟩)) ∧ RqAt w' b (.slice none 0 0) 0 r ∧ w.grownBy w' none ∧ w.heap.size ≤ b
set_option maxHeartbeats 1600000 in
theorem qnew_ok (n : Nat) (h1 : 1 ≤ n) (h2 : n ≤ 64) (w : World) :
    Calls Tryz.prog 45 #[.int .i64 (n : Int)] w (MadeQ w (.new n)) := by
  have L : Hid (RqAt (w.alloc (.cells #[.int .i64 (n : Int), .int .i64 0, .slice none 0 0] 70)) w.heap.size (.slice none 0 0) 0 (.new n)) := hid ⟨at_new w _, ⟨[], OwnI.nil _ _, rql_new n, Nat.le_refl _⟩, by simp [ownL, Value.ownBlock], rp_new_ok h1 h2⟩
  have d1 : decide ((n : Int) < 1) = false := by simp; omega
  have d2 : decide ((64 : Int) < (n : Int)) = false := by simp; omega
  go_enter Tryz.func45, Tryz.ntmps45
  go_wp2_with fail
  go_ret
  exact ⟨_, rfl, L.out, gb_alloc (.refl w none) _, Nat.le_refl _⟩

/-- May -/
theorem gb_drewQ (w : World) (n : Nat) : w.grownBy (w.drewN n) none := ⟨rfl, rfl, rfl, Nat.le_refl _, fun _ _ _ => rfl⟩
theorem qmay_off {b K : Nat} {v : Value} {r : Rp} (n : Int) (w : World) (H : RqAt w b v K r) (h : ¬ (1 ≤ n ∧ n ≤ 1099511627776 ∧ r.top - r.win < n)) :
    Calls Tryz.prog 61 #[.pointer (some ⟨b, 0, none⟩), .int .i64 n] w fun e w' => e = .returned (.bool false) ∧ w.grownBy w' none := by
  obtain ⟨c0, c1, c2, f1, f2⟩ := H.tops
  have t0 := H.ok.t0; have t1 := H.ok.t1; have w2 := H.ok.w2
  clear H
  generalize r.top = t at *
  generalize r.win = m at *
  by_cases h1 : 1 ≤ n
  · have d1 : decide (1 ≤ n) = true := by simpa using h1
    by_cases h2 : n ≤ 1099511627776
    · have d2 : decide (n ≤ 1099511627776) = true := by simpa using h2
      have d3 : decide (t - m < n) = false := by simp; omega
      have s1 : IntKind.i64.wrap (t - m) = t - m := IntWalk.i64_in _ (by omega)
      clear h
      go_enter Tryz.func61, Tryz.ntmps61
      go_wp2_with fail
      go_quiet (fail)
      go_wp2_with fail
      go_ret
      exact ⟨rfl, gb_drewQ w _⟩
    · have d2 : decide (n ≤ 1099511627776) = false := by simpa using h2
      clear h
      go_enter Tryz.func61, Tryz.ntmps61
      go_wp2_with fail
      go_quiet (fail)
      go_wp2_with fail
      go_ret
      exact ⟨rfl, gb_drewQ w _⟩
  · have d1 : decide (1 ≤ n) = false := by simpa using h1
    clear h
    go_enter Tryz.func61, Tryz.ntmps61
    go_wp2_with fail
    go_quiet (fail)
    go_wp2_with fail
    go_ret
    exact ⟨rfl, gb_drewQ w _⟩
theorem qmay_on {b K : Nat} {v : Value} {r : Rp} (n : Int) (w : World) (H : RqAt w b v K r) (hK : K ≤ 1000000) (h1 : 1 ≤ n) (h2 : n ≤ 1099511627776) (h3 : r.top - r.win < n) :
    Calls Tryz.prog 61 #[.pointer (some ⟨b, 0, none⟩), .int .i64 n] w fun e w' => e = .returned (.bool (r.may n)) ∧ w.grownBy w' none := by
  obtain ⟨c0, c1, c2, f1, f2⟩ := H.tops
  have t0 := H.ok.t0; have t1 := H.ok.t1; have w2 := H.ok.w2
  obtain ⟨L, l1, l2, l3⟩ := H.row
  obtain ⟨z, hz⟩ : ∃ z, decide (n ∈ L) = z := ⟨_, rfl⟩
  have hm : r.may n = !z := by rw [rql_may l2 n, hz]; simp [h1, h2, h3]
  have C := fun w1 (hg : w.grownBy w1 none) => fhas_any n w1 (hg.cell c2 (by simp)) (l1.chg (chg_grown hg []) (by simp)) (by omega) z hz
  rw [hm]
  have HC := hid C
  clear C hm hz l1 l2 H
  generalize r.top = t at *
  generalize r.win = m at *
  have d1 : decide (1 ≤ n) = true := by simpa using h1
  have d2 : decide (n ≤ 1099511627776) = true := by simpa using h2
  have d3 : decide (t - m < n) = true := by simpa using h3
  have s1 : IntKind.i64.wrap (t - m) = t - m := IntWalk.i64_in _ (by omega)
  go_enter Tryz.func61, Tryz.ntmps61
  go_wp2_with fail
  go_quiet ((go_at_call 74; exact Calls.quiet_of_same (still_of (HC.out _ (gb_drewQ w _)))))
  go_wp2_with fail
  go_ret
  exact ⟨rfl, gb_drewQ w _⟩
theorem qmay_any {b K : Nat} {v : Value} {r : Rp} (n : Int) (w : World) (H : RqAt w b v K r) (hK : K ≤ 1000000) :
    Calls Tryz.prog 61 #[.pointer (some ⟨b, 0, none⟩), .int .i64 n] w fun e w' => e = .returned (.bool (r.may n)) ∧ w.grownBy w' none := by
  by_cases h : 1 ≤ n ∧ n ≤ 1099511627776 ∧ r.top - r.win < n
  · exact qmay_on n w H hK h.1 h.2.1 h.2.2
  · obtain ⟨L, l1, l2, l3⟩ := H.row
    have hm : r.may n = false := by
      rw [rql_may l2 n]
      by_cases h1 : 1 ≤ n <;> by_cases h2 : n ≤ 1099511627776 <;> by_cases h3 : r.top - r.win < n <;> simp [h1, h2, h3] <;> exact absurd ⟨h1, h2, h3⟩ h
    rw [hm]
    exact qmay_off n w H h
end Go.Proofs.YtfhifnhnkgdnlaaGreat
end
section
set_option linter.unusedSimpArgs false
set_option linter.unusedVariables false
namespace Go.Proofs.YtfhifnhnkgdnlaaGreat
set_option maxRecDepth 100000
open Go.RowKit

theorem hold_now (h k a b : Nat) (t : Int) (w : World) (t0 : 0 ≤ t) (c0 : w.cell? ⟨h, k, none⟩ = some (.int .u32 t)) (c1 : w.cell? ⟨h, k + 1, none⟩ = some (.pointer (some ⟨a, 0, none⟩))) (c2 : w.cell? ⟨h, k + 2, none⟩ = some (.pointer (some ⟨b, 0, none⟩))) :
    Calls Tryz.prog 69 #[.pointer (some ⟨h, k, none⟩)] w fun e w' => e = .returned (.pointer (some ⟨side t a b, 0, none⟩)) ∧ w.grownBy w' none := by
  have CL := hid (fun n => load_u32 ⟨h, k, none⟩ t (w.drewN n) c0)
  by_cases ht : t % 2 = 0
  · have e1 : Int.tmod t 2 = 0 := by rw [Int.tmod_eq_emod_of_nonneg t0]; exact ht
    rw [show side t a b = a from if_pos ht]
    clear ht
    go_enter Tryz.func69, Tryz.ntmps69
    go_wp2_with fail
    go_quiet ((go_at_call 108; exact Calls.quiet_of_same (still_of (CL.out _))))
    go_wp2_with fail
    go_ret
    exact ⟨rfl, gb_drewQ w _⟩
  · have e1 : Int.tmod t 2 = 1 := by rw [Int.tmod_eq_emod_of_nonneg t0]; omega
    rw [show side t a b = b from if_neg ht]
    clear ht
    go_enter Tryz.func69, Tryz.ntmps69
    go_wp2_with fail
    go_quiet ((go_at_call 108; exact Calls.quiet_of_same (still_of (CL.out _))))
    go_wp2_with fail
    go_ret
    exact ⟨rfl, gb_drewQ w _⟩
/-- one turn more -/
def succT (t : Int) : Int := (t + 1) % 4294967296
theorem wrap_succT (t : Int) : IntKind.u32.wrap (t + 1) = succT t := by simp [succT, IntKind.wrap, IntKind.bits, IntKind.signed]
theorem succT_0 (t : Int) : 0 ≤ succT t := Int.emod_nonneg _ (by decide)
theorem succT_lt (t : Int) : succT t < 4294967296 := Int.emod_lt_of_pos _ (by decide)
theorem succT_mod (t : Int) : succT t % 2 = (t + 1) % 2 := by unfold succT; omega
theorem hold_old (h k a b : Nat) (t : Int) (w : World) (t0 : 0 ≤ t) (c0 : w.cell? ⟨h, k, none⟩ = some (.int .u32 t)) (c1 : w.cell? ⟨h, k + 1, none⟩ = some (.pointer (some ⟨a, 0, none⟩))) (c2 : w.cell? ⟨h, k + 2, none⟩ = some (.pointer (some ⟨b, 0, none⟩))) :
    Calls Tryz.prog 70 #[.pointer (some ⟨h, k, none⟩)] w fun e w' => e = .returned (.pointer (some ⟨side t b a, 0, none⟩)) ∧ w.grownBy w' none := by
  have CL := hid (fun n => load_u32 ⟨h, k, none⟩ t (w.drewN n) c0)
  have e0 := wrap_succT t
  have e2 := Int.tmod_eq_emod_of_nonneg (b := 2) (succT_0 t)
  rw [succT_mod] at e2
  by_cases ht : t % 2 = 0
  · have e1 : Int.tmod (succT t) 2 = 1 := by rw [e2]; omega
    rw [show side t b a = b from if_pos ht]
    clear ht e2
    generalize succT t = t1 at *
    go_enter Tryz.func70, Tryz.ntmps70
    go_wp2_with fail
    go_quiet ((go_at_call 108; exact Calls.quiet_of_same (still_of (CL.out _))))
    go_wp2_with fail
    go_ret
    exact ⟨rfl, gb_drewQ w _⟩
  · have e1 : Int.tmod (succT t) 2 = 0 := by rw [e2]; omega
    rw [show side t b a = a from if_neg ht]
    clear ht e2
    generalize succT t = t1 at *
    go_enter Tryz.func70, Tryz.ntmps70
    go_wp2_with fail
    go_quiet ((go_at_call 108; exact Calls.quiet_of_same (still_of (CL.out _))))
    go_wp2_with fail
    go_ret
    exact ⟨rfl, gb_drewQ w _⟩
theorem side_self (t : Int) (a b : Nat) : side t (side t a b) (side t b a) = a := by unfold side; split <;> rfl

theorem gring_any {F : List Nat} {B : GBl} {G : Gt} (w : World) (K : GtAt w F B G) :
    Calls Tryz.prog 22 #[.pointer (some ⟨B.g, 0, none⟩)] w fun e w' => e = .returned (.pointer (some ⟨B.rb, 0, none⟩)) ∧ w = w' := by
  obtain ⟨c0, c1, c2, c3, c4⟩ := K.tops
  clear K
  go_enter Tryz.func22, Tryz.ntmps22
  go_wp2
  go_ret
  exact ⟨rfl, rfl⟩
theorem greplay_in {F : List Nat} {B : GBl} {G : Gt} (i : Nat) (w : World) (K : GtAt w F B G) (hi : i < G.r.n) :
    Calls Tryz.prog 23 #[.pointer (some ⟨B.g, 0, none⟩), .int .i64 (i : Int)] w fun e w' => e = .returned (.pointer (some ⟨B.A i, 0, none⟩)) ∧ w.grownBy w' none := by
  have F1 := hid (gfind_in i w K hi)
  obtain ⟨c0, c1, c2, f0, f1, f2⟩ := K.cells hi
  have C := hid (hold_now B.hb (i * 3) _ _ _ w (K.t0 i).1 c0 c1 c2)
  rw [side_self] at C
  clear K c0 c1 c2 f0 f1 f2
  go_enter Tryz.func23, Tryz.ntmps23
  go_wp2_with fail
  refine F1.out.mono ?_
  rintro e w1 ⟨rfl, rfl⟩
  go_wp2_with fail
  refine C.out.mono ?_
  rintro e w1 ⟨rfl, hg⟩
  have G1 := hid hg; clear hg
  go_wp2_with fail
  go_ret
  exact ⟨rfl, G1.out⟩
theorem greplay_out {F : List Nat} {B : GBl} {G : Gt} (x : Int) (w : World) (K : GtAt w F B G) (hx : x < 0 ∨ (G.r.n : Int) ≤ x) :
    Calls Tryz.prog 23 #[.pointer (some ⟨B.g, 0, none⟩), .int .i64 x] w fun e w' => e = .returned (.pointer none) ∧ w = w' := by
  have F1 := hid (gfind_out x w K hx)
  clear K hx
  go_enter Tryz.func23, Tryz.ntmps23
  go_wp2_with fail
  refine F1.out.mono ?_
  rintro e w1 ⟨rfl, rfl⟩
  go_wp2_with fail
  go_ret
  exact ⟨rfl, rfl⟩
theorem gold_in {F : List Nat} {B : GBl} {G : Gt} (i : Nat) (w : World) (K : GtAt w F B G) (hi : i < G.r.n) :
    Calls Tryz.prog 24 #[.pointer (some ⟨B.g, 0, none⟩), .int .i64 (i : Int)] w fun e w' => e = .returned (.pointer (some ⟨B.O i, 0, none⟩)) ∧ w.grownBy w' none := by
  have F1 := hid (gfind_in i w K hi)
  obtain ⟨c0, c1, c2, f0, f1, f2⟩ := K.cells hi
  have C := hid (hold_old B.hb (i * 3) _ _ _ w (K.t0 i).1 c0 c1 c2)
  rw [side_self] at C
  clear K c0 c1 c2 f0 f1 f2
  go_enter Tryz.func24, Tryz.ntmps24
  go_wp2_with fail
  refine F1.out.mono ?_
  rintro e w1 ⟨rfl, rfl⟩
  go_wp2_with fail
  refine C.out.mono ?_
  rintro e w1 ⟨rfl, hg⟩
  have G1 := hid hg; clear hg
  go_wp2_with fail
  go_ret
  exact ⟨rfl, G1.out⟩

/-- an epoch in time -/
theorem intime_any {F : List Nat} {B : GBl} {G : Gt} (epoch now : Int) (w : World) (K : GtAt w F B G) (h1 : epoch ≤ 1099511627776) (h2 : -9223372036854775808 ≤ now) :
    Calls Tryz.prog 58 #[.pointer (some ⟨B.g, 0, none⟩), .int .i64 epoch, .int .i64 now] w fun e w' => e = .returned (.bool (G.time epoch now)) ∧ w = w' := by
  obtain ⟨c0, c1, c2, c3, c4⟩ := K.tops
  have f1 := K.ok.f1
  have f2 := K.ok.f2
  unfold Gt.time
  clear K
  generalize G.fresh = f at *
  by_cases h : now ≤ epoch
  · have d1 : decide (now ≤ epoch) = true := by simpa using h
    have e : decide (now ≤ epoch ∧ epoch < now + (f : Int)) = decide (epoch < now + (f : Int)) := by simp [h]
    rw [e]
    have s1 : IntKind.i64.wrap (now + (f : Int)) = now + (f : Int) := IntWalk.i64_in _ (by omega)
    go_enter Tryz.func58, Tryz.ntmps58
    go_wp2
    go_ret
    exact ⟨rfl, rfl⟩
  · have d1 : decide (now ≤ epoch) = false := by simpa using h
    have e : decide (now ≤ epoch ∧ epoch < now + (f : Int)) = false := by simp [h]
    rw [e]
    go_enter Tryz.func58, Tryz.ntmps58
    go_wp2
    go_ret
    exact ⟨rfl, rfl⟩
end Go.Proofs.YtfhifnhnkgdnlaaGreat
end
