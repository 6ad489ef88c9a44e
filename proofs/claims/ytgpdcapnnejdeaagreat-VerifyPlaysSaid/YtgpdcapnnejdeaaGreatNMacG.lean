/-
  A contract for the document's own derived keys: four calls and two blocks that may come in any order. The condition: a label of a modest length.
-/
import Derived.Test.YtgpdcapnnejdeaaGreatJ0
import Derived.Test.YtgpdcapnnejdeaaGreatY7
import Derived.Test.YtgpdcapnnejdeaaGreatY8
set_option linter.unusedSimpArgs false
set_option linter.unusedVariables false
namespace Go.Proofs.YtgpdcapnnejdeaaGreat
set_option maxRecDepth 100000
open Go.RowKit

def Blk (w : World) (g : Nat) (o : Obj) (w' : World) : Prop := w.heap.size + 1 < g ∧ w'.heap[g]? = some o
theorem conv_1 {w : World} {g : Nat} (h : w.heap[g]? = some (.cells #[.int .u8 1] 5)) : (convert 40 9 (.slice (some ⟨g, 0, none⟩) 1 1)).run Tryz.prog w = .ok (.string ⟨#[1]⟩) w := conv_bytes (bytes_of_cells [1] h (by unfold maxLen; simp))
theorem conv_2 {w : World} {g : Nat} (h : w.heap[g]? = some (.cells #[.int .u8 2] 5)) : (convert 40 9 (.slice (some ⟨g, 0, none⟩) 1 1)).run Tryz.prog w = .ok (.string ⟨#[2]⟩) w := conv_bytes (bytes_of_cells [2] h (by unfold maxLen; simp))
theorem Blk.grown {w : World} {g : Nat} {o : Obj} {w1 w2 : World} (h : Blk w g o w1) (hg : w1.grownBy w2 none) : Blk w g o w2 := ⟨h.1, at_grown h.2 hg (by simp)⟩
theorem Blk.set0 {w : World} {g : Nat} {o : Obj} {w1 : World} (h : Blk w g o w1) (v : Value) : Blk w g o (w1.setCell ⟨w.heap.size + 1, 0, none⟩ v) := ⟨h.1, at_set_other h.2 (by have := h.1; simp; omega) v⟩
theorem Blk.set1 {w : World} {g : Nat} {o : Obj} {w1 : World} (h : Blk w g o w1) (v : Value) : Blk w g o (w1.setCell ⟨w.heap.size + 1, 1, none⟩ v) := ⟨h.1, at_set_other h.2 (by have := h.1; simp; omega) v⟩
theorem Box.size {w : World} {k0 k1 : BitVec 64} {t t' : TypeId} {w1 : World} (h : Box w k0 k1 t t' w1) : w.heap.size + 1 < w1.heap.size := by obtain ⟨x, y, h⟩ := h.ans; exact at_lt h

set_option maxHeartbeats 8000000 in
theorem refderive_any (k0 k1 : BitVec 64) (s : ByteArray) (hs : s.size ≤ 1000) (n : BitVec 64) (w : World) :
  Calls Tryz.prog 51 #[pair k0 k1, .string s, .int .u64 (q n)] w fun e w' => e = .returned (pair (derived k0 k1 s n 1) (derived k0 k1 s n 2)) ∧ w.grownBy w' none := by
 have hc0 := fun w => refsum_der k0 k1 s hs 1 n w
 have hc1 := fun w => refsum_der k0 k1 s hs 2 n w
 have hp := fun w => refput_any n w
 generalize derived k0 k1 s n 1 = a at hc0 ⊢
 generalize derived k0 k1 s n 2 = b at hc1 ⊢
 have zn : (⟨(put8 n).toArray⟩ : ByteArray).size = 8 := rfl
 generalize (⟨(put8 n).toArray⟩ : ByteArray) = sn at hc0 hc1 hp zn
 have C0 := hid hc0; have C1 := hid hc1; have HP := hid hp; clear hc0 hc1 hp
 go_enter Tryz.func51, Tryz.ntmps51
 go_wp2_with fail
 have hb : Box w k0 k1 49 49 ((w.alloc (.cells #[.int .u64 (q k0), .int .u64 (q k1)] 49)).alloc (.cells #[.int .u64 0, .int .u64 0] 49)) :=
  ⟨at_alloc (at_new w _) _, ⟨_, _, at_new2 w _ _⟩, gb_alloc (gb_alloc (.refl w none) _) _⟩
 have HB := hid hb; clear hb
 refine wp_gen (fun w5 => Box w k0 k1 49 49 w5) HB.out ?_
 intro w5 h5
 have hb5 := Box.drew h5
 clear HB h5
 refine wp_region_held_drew (S := (fun w' => w'.cell? ⟨w.heap.size, 0, none⟩ = some (.int .u64 (q k0)) ∧ w'.cell? ⟨w.heap.size, 1, none⟩ = some (.int .u64 (q k1)) ∧ Box w k0 k1 49 49 w')) (by kernel_rfl) (Box.keep hb5) (fun hHeld => ?_)
 try dsimp only at hHeld
 clear hb5
 generalize w5.drew = w5 at hHeld ⊢
 refine' jT 0 rfl (by rfl) ?_ hHeld ?_
 rotate_left
 ·(intro w hSw; (try dsimp only at hSw); go_simp; (try rw [if_neg (by omega)]); try with_reducible rfl)
 try simp only [jX, jD, jE, jF]
 refine' jT 1 rfl (by rfl) ?_ hHeld ?_
 rotate_left
 ·(intro w hSw; (try dsimp only at hSw); go_simp; (try rw [if_neg (by omega)]); try with_reducible rfl)
 try simp only [jX, jD, jE, jF]
 refine' jT 5 rfl (by rfl) ?_ hHeld ?_
 rotate_left
 ·(intro w hSw; (try dsimp only at hSw); go_simp; (try rw [if_neg (by omega)]); try with_reducible rfl)
 try simp only [jX, jD, jE, jF]
 refine' jT 9 rfl (by rfl) ?_ hHeld ?_
 rotate_left
 ·(intro w hSw; (try dsimp only at hSw); go_simp; (try rw [if_neg (by omega)]); try with_reducible rfl)
 try simp only [jX, jD, jE, jF]
 refine' jT 10 rfl (by rfl) ?_ hHeld ?_
 rotate_left
 ·(intro w hSw; (try dsimp only at hSw); go_simp; (try rw [if_neg (by omega)]); try with_reducible rfl)
 try simp only [jX, jD, jE, jF]
 refine' jT 14 rfl (by rfl) ?_ hHeld ?_
 rotate_left
 ·(intro w hSw; (try dsimp only at hSw); go_simp; (try rw [if_neg (by omega)]); try with_reducible rfl)
 try simp only [jX, jD, jE, jF]
 refine jR [2, 6, 11] ?_
 refine jG rfl (fun K hK => ?_) (jG rfl (fun K hK => ?_) (jG rfl (fun K hK => ?_) (AllReadyH.nil)))
 ·try simp only [jD, jE, jF]
  have KP := hid ((Box.keep (Box.grown (box_box hHeld) (World.grownBy_alloc w5 (.cells #[.int .u8 1] 5) none))))
  have hnew := (⟨Box.size (box_box hHeld), at_new w5 _⟩ : (Blk w (w5.heap.size) (.cells #[.int .u8 1] 5)) (w5.alloc (.cells #[.int .u8 1] 5)))
  clear hHeld
  go_simp
  refine hK.out _ _ KP.out (fun hHeld => ?_)
  clear KP hK K
  try dsimp only at hHeld hnew
  generalize w5.alloc (.cells #[.int .u8 1] 5) = w101 at hHeld hnew ⊢
  try simp only [jX, jD, jE, jF]
  refine held_stronger (S' := fun w' => (Blk w (w5.heap.size) (.cells #[.int .u8 1] 5)) w' ∧ (fun w' => w'.cell? ⟨w.heap.size, 0, none⟩ = some (.int .u64 (q k0)) ∧ w'.cell? ⟨w.heap.size, 1, none⟩ = some (.int .u64 (q k1)) ∧ Box w k0 k1 49 49 w') w') (fun _ h => h.2) _ _ _ _ ?_
  replace hHeld := And.intro hnew hHeld
  clear hnew
  try dsimp only at hHeld
  refine' jT 3 rfl (by rfl) ?_ hHeld ?_
  rotate_left
  ·(intro w hSw; (try dsimp only at hSw); have cv := conv_1 hSw.1.2; go_simp; (try rw [if_neg (by omega)]); try with_reducible rfl)
  try simp only [jX, jD, jE, jF]
  refine' jT 4 rfl (by rfl) ?_ hHeld ?_
  rotate_left
  ·(intro w hSw; (try dsimp only at hSw); go_simp; (try rw [if_neg (by omega)]); try with_reducible rfl)
  try simp only [jX, jD, jE, jF]
  refine jR [6, 11] ?_
  refine jG rfl (fun K hK => ?_) (jG rfl (fun K hK => ?_) (AllReadyH.nil))
  ·try simp only [jD, jE, jF]
   go_simp
   refine (HP.out _).mono ?_
   rintro e w102 ⟨rfl, hg⟩
   have KP := hid (And.intro (Blk.grown hHeld.1 hg) ((Box.keep (Box.grown (box_box hHeld.2) hg))))
   clear hHeld hg
   go_wp2_with fail
   refine hK.out _ _ KP.out (fun hHeld => ?_)
   clear KP hK K
   try dsimp only at hHeld
   try simp only [jX, jD, jE, jF]
   refine' jT 7 rfl (by rfl) ?_ hHeld ?_
   rotate_left
   ·(intro w hSw; (try dsimp only at hSw); go_simp; (try rw [if_neg (by omega)]); try with_reducible rfl)
   try simp only [jX, jD, jE, jF]
   refine jR [8, 11] ?_
   refine jG rfl (fun K hK => ?_) (jG rfl (fun K hK => ?_) (AllReadyH.nil))
   ·try simp only [jD, jE, jF]
    go_simp
    refine (C0.out _).mono ?_
    rintro e w103 ⟨rfl, hg⟩
    have KP := hid (And.intro (Blk.grown hHeld.1 hg) ((Box.keep (Box.grown (box_box hHeld.2) hg))))
    clear hHeld hg
    go_wp2_with fail
    refine hK.out _ _ KP.out (fun hHeld => ?_)
    clear KP hK K
    try dsimp only at hHeld
    try simp only [jX, jD, jE, jF]
    refine jR [11, 15] ?_
    refine jG rfl (fun K hK => ?_) (jG rfl (fun K hK => ?_) (AllReadyH.nil))
    ·try simp only [jD, jE, jF]
     have KP := hid (And.intro (Blk.grown hHeld.1 (World.grownBy_alloc w103 (.cells #[.int .u8 2] 5) none)) ((Box.keep (Box.grown (box_box hHeld.2) (World.grownBy_alloc w103 (.cells #[.int .u8 2] 5) none)))))
     have hnew := (⟨Box.size (box_box hHeld.2), at_new w103 _⟩ : (Blk w (w103.heap.size) (.cells #[.int .u8 2] 5)) (w103.alloc (.cells #[.int .u8 2] 5)))
     clear hHeld
     go_simp
     refine hK.out _ _ KP.out (fun hHeld => ?_)
     clear KP hK K
     try dsimp only at hHeld hnew
     generalize w103.alloc (.cells #[.int .u8 2] 5) = w104 at hHeld hnew ⊢
     try simp only [jX, jD, jE, jF]
     refine held_stronger (S' := fun w' => (Blk w (w103.heap.size) (.cells #[.int .u8 2] 5)) w' ∧ (fun w' => (Blk w (w5.heap.size) (.cells #[.int .u8 1] 5)) w' ∧ (fun w' => w'.cell? ⟨w.heap.size, 0, none⟩ = some (.int .u64 (q k0)) ∧ w'.cell? ⟨w.heap.size, 1, none⟩ = some (.int .u64 (q k1)) ∧ Box w k0 k1 49 49 w') w') w') (fun _ h => h.2) _ _ _ _ ?_
     replace hHeld := And.intro hnew hHeld
     clear hnew
     try dsimp only at hHeld
     refine' jT 12 rfl (by rfl) ?_ hHeld ?_
     rotate_left
     ·(intro w hSw; (try dsimp only at hSw); have cv := conv_2 hSw.1.2; go_simp; (try rw [if_neg (by omega)]); try with_reducible rfl)
     try simp only [jX, jD, jE, jF]
     refine' jT 13 rfl (by rfl) ?_ hHeld ?_
     rotate_left
     ·(intro w hSw; (try dsimp only at hSw); go_simp; (try rw [if_neg (by omega)]); try with_reducible rfl)
     try simp only [jX, jD, jE, jF]
     refine jR [15] ?_
     refine jG rfl (fun K hK => ?_) (AllReadyH.nil)
     try simp only [jD, jE, jF]
     go_simp
     refine (HP.out _).mono ?_
     rintro e w105 ⟨rfl, hg⟩
     have KP := hid (And.intro (Blk.grown hHeld.1 hg) (And.intro (Blk.grown hHeld.2.1 hg) ((Box.keep (Box.grown (box_box hHeld.2.2) hg)))))
     clear hHeld hg
     go_wp2_with fail
     refine hK.out _ _ KP.out (fun hHeld => ?_)
     clear KP hK K
     try dsimp only at hHeld
     try simp only [jX, jD, jE, jF]
     refine' jT 16 rfl (by rfl) ?_ hHeld ?_
     rotate_left
     ·(intro w hSw; (try dsimp only at hSw); go_simp; (try rw [if_neg (by omega)]); try with_reducible rfl)
     try simp only [jX, jD, jE, jF]
     refine jR [17] ?_
     refine jG rfl (fun K hK => ?_) (AllReadyH.nil)
     try simp only [jD, jE, jF]
     go_simp
     refine (C1.out _).mono ?_
     rintro e w106 ⟨rfl, hg⟩
     have KP := hid (And.intro (Blk.grown hHeld.1 hg) (And.intro (Blk.grown hHeld.2.1 hg) ((Box.keep (Box.grown (box_box hHeld.2.2) hg)))))
     clear hHeld hg
     go_wp2_with fail
     refine hK.out _ _ KP.out (fun hHeld => ?_)
     clear KP hK K
     try dsimp only at hHeld
     try simp only [jX, jD, jE, jF]
     refine' jT 18 rfl (by rfl) ?_ hHeld ?_
     rotate_left
     ·(intro w hSw; (try dsimp only at hSw); go_simp; (try rw [if_neg (by omega)]); try with_reducible rfl)
     try simp only [jX, jD, jE, jF]
     refine jR [19] ?_
     refine jG rfl (fun K hK => ?_) (AllReadyH.nil)
     try simp only [jD, jE, jF]
     have hB := box_box hHeld.2.2
     obtain ⟨x, y, c0, c1, f0, f1⟩ := box_ans hHeld.2.2 (.refl w106 none)
     have KP := hid (And.intro (Blk.set1 (Blk.set0 hHeld.1 (.int .u64 (q a))) (.int .u64 (q b))) (And.intro (Blk.set1 (Blk.set0 hHeld.2.1 (.int .u64 (q a))) (.int .u64 (q b))) ((Box.keep (Box.set1 (Box.set0 (box_box hHeld.2.2) (.int .u64 (q a))) (.int .u64 (q b)))))))
     clear hHeld
     go_simp
     refine hK.out _ _ KP.out (fun hHeld => ?_)
     clear KP hK K
     try simp only [jX, jD, jE, jF]
     refine wpAnyH_done (by kernel_rfl) ?_ _
     have hst := hB.store (.int .u64 (q a)) (.int .u64 (q b))
     clear hB c0 c1 f0 f1 hHeld
     generalize (w106.setCell ⟨w.heap.size + 1, 0, none⟩ (.int .u64 (q a))).setCell ⟨w.heap.size + 1, 1, none⟩ (.int .u64 (q b)) = wx at hst ⊢
     obtain ⟨d0, d1⟩ := pair_cells hst.1
     go_wp2_with fail
     exact bodyPost_ret (v := pair a b) (by simp [results, Tryz.results51, go_sem, d0, d1]) rfl ⟨rfl, hst.2⟩
    ·try simp only [jD, jE, jF]
     go_simp
     refine (HP.out _).mono ?_
     rintro e w108 ⟨rfl, hg⟩
     have KP := hid (And.intro (Blk.grown hHeld.1 hg) ((Box.keep (Box.grown (box_box hHeld.2) hg))))
     clear hHeld hg
     go_wp2_with fail
     refine hK.out _ _ KP.out (fun hHeld => ?_)
     clear KP hK K
     try dsimp only at hHeld
     try simp only [jX, jD, jE, jF]
     refine jR [11] ?_
     refine jG rfl (fun K hK => ?_) (AllReadyH.nil)
     try simp only [jD, jE, jF]
     have KP := hid (And.intro (Blk.grown hHeld.1 (World.grownBy_alloc w108 (.cells #[.int .u8 2] 5) none)) ((Box.keep (Box.grown (box_box hHeld.2) (World.grownBy_alloc w108 (.cells #[.int .u8 2] 5) none)))))
     have hnew := (⟨Box.size (box_box hHeld.2), at_new w108 _⟩ : (Blk w (w108.heap.size) (.cells #[.int .u8 2] 5)) (w108.alloc (.cells #[.int .u8 2] 5)))
     clear hHeld
     go_simp
     refine hK.out _ _ KP.out (fun hHeld => ?_)
     clear KP hK K
     try dsimp only at hHeld hnew
     generalize w108.alloc (.cells #[.int .u8 2] 5) = w109 at hHeld hnew ⊢
     try simp only [jX, jD, jE, jF]
     refine held_stronger (S' := fun w' => (Blk w (w108.heap.size) (.cells #[.int .u8 2] 5)) w' ∧ (fun w' => (Blk w (w5.heap.size) (.cells #[.int .u8 1] 5)) w' ∧ (fun w' => w'.cell? ⟨w.heap.size, 0, none⟩ = some (.int .u64 (q k0)) ∧ w'.cell? ⟨w.heap.size, 1, none⟩ = some (.int .u64 (q k1)) ∧ Box w k0 k1 49 49 w') w') w') (fun _ h => h.2) _ _ _ _ ?_
     replace hHeld := And.intro hnew hHeld
     clear hnew
     try dsimp only at hHeld
     refine' jT 12 rfl (by rfl) ?_ hHeld ?_
     rotate_left
     ·(intro w hSw; (try dsimp only at hSw); have cv := conv_2 hSw.1.2; go_simp; (try rw [if_neg (by omega)]); try with_reducible rfl)
     try simp only [jX, jD, jE, jF]
     refine' jT 13 rfl (by rfl) ?_ hHeld ?_
     rotate_left
     ·(intro w hSw; (try dsimp only at hSw); go_simp; (try rw [if_neg (by omega)]); try with_reducible rfl)
     try simp only [jX, jD, jE, jF]
     refine' jT 16 rfl (by rfl) ?_ hHeld ?_
     rotate_left
     ·(intro w hSw; (try dsimp only at hSw); go_simp; (try rw [if_neg (by omega)]); try with_reducible rfl)
     try simp only [jX, jD, jE, jF]
     refine jR [17] ?_
     refine jG rfl (fun K hK => ?_) (AllReadyH.nil)
     try simp only [jD, jE, jF]
     go_simp
     refine (C1.out _).mono ?_
     rintro e w110 ⟨rfl, hg⟩
     have KP := hid (And.intro (Blk.grown hHeld.1 hg) (And.intro (Blk.grown hHeld.2.1 hg) ((Box.keep (Box.grown (box_box hHeld.2.2) hg)))))
     clear hHeld hg
     go_wp2_with fail
     refine hK.out _ _ KP.out (fun hHeld => ?_)
     clear KP hK K
     try dsimp only at hHeld
     try simp only [jX, jD, jE, jF]
     refine' jT 18 rfl (by rfl) ?_ hHeld ?_
     rotate_left
     ·(intro w hSw; (try dsimp only at hSw); go_simp; (try rw [if_neg (by omega)]); try with_reducible rfl)
     try simp only [jX, jD, jE, jF]
     refine jR [19] ?_
     refine jG rfl (fun K hK => ?_) (AllReadyH.nil)
     try simp only [jD, jE, jF]
     have hB := box_box hHeld.2.2
     obtain ⟨x, y, c0, c1, f0, f1⟩ := box_ans hHeld.2.2 (.refl w110 none)
     have KP := hid (And.intro (Blk.set1 (Blk.set0 hHeld.1 (.int .u64 (q a))) (.int .u64 (q b))) (And.intro (Blk.set1 (Blk.set0 hHeld.2.1 (.int .u64 (q a))) (.int .u64 (q b))) ((Box.keep (Box.set1 (Box.set0 (box_box hHeld.2.2) (.int .u64 (q a))) (.int .u64 (q b)))))))
     clear hHeld
     go_simp
     refine hK.out _ _ KP.out (fun hHeld => ?_)
     clear KP hK K
     try simp only [jX, jD, jE, jF]
     refine wpAnyH_done (by kernel_rfl) ?_ _
     have hst := hB.store (.int .u64 (q a)) (.int .u64 (q b))
     clear hB c0 c1 f0 f1 hHeld
     generalize (w110.setCell ⟨w.heap.size + 1, 0, none⟩ (.int .u64 (q a))).setCell ⟨w.heap.size + 1, 1, none⟩ (.int .u64 (q b)) = wx at hst ⊢
     obtain ⟨d0, d1⟩ := pair_cells hst.1
     go_wp2_with fail
     exact bodyPost_ret (v := pair a b) (by simp [results, Tryz.results51, go_sem, d0, d1]) rfl ⟨rfl, hst.2⟩
   ·try simp only [jD, jE, jF]
    have KP := hid (And.intro (Blk.grown hHeld.1 (World.grownBy_alloc w102 (.cells #[.int .u8 2] 5) none)) ((Box.keep (Box.grown (box_box hHeld.2) (World.grownBy_alloc w102 (.cells #[.int .u8 2] 5) none)))))
    have hnew := (⟨Box.size (box_box hHeld.2), at_new w102 _⟩ : (Blk w (w102.heap.size) (.cells #[.int .u8 2] 5)) (w102.alloc (.cells #[.int .u8 2] 5)))
    clear hHeld
    go_simp
    refine hK.out _ _ KP.out (fun hHeld => ?_)
    clear KP hK K
    try dsimp only at hHeld hnew
    generalize w102.alloc (.cells #[.int .u8 2] 5) = w112 at hHeld hnew ⊢
    try simp only [jX, jD, jE, jF]
    refine held_stronger (S' := fun w' => (Blk w (w102.heap.size) (.cells #[.int .u8 2] 5)) w' ∧ (fun w' => (Blk w (w5.heap.size) (.cells #[.int .u8 1] 5)) w' ∧ (fun w' => w'.cell? ⟨w.heap.size, 0, none⟩ = some (.int .u64 (q k0)) ∧ w'.cell? ⟨w.heap.size, 1, none⟩ = some (.int .u64 (q k1)) ∧ Box w k0 k1 49 49 w') w') w') (fun _ h => h.2) _ _ _ _ ?_
    replace hHeld := And.intro hnew hHeld
    clear hnew
    try dsimp only at hHeld
    refine' jT 12 rfl (by rfl) ?_ hHeld ?_
    rotate_left
    ·(intro w hSw; (try dsimp only at hSw); have cv := conv_2 hSw.1.2; go_simp; (try rw [if_neg (by omega)]); try with_reducible rfl)
    try simp only [jX, jD, jE, jF]
    refine' jT 13 rfl (by rfl) ?_ hHeld ?_
    rotate_left
    ·(intro w hSw; (try dsimp only at hSw); go_simp; (try rw [if_neg (by omega)]); try with_reducible rfl)
    try simp only [jX, jD, jE, jF]
    refine jR [8] ?_
    refine jG rfl (fun K hK => ?_) (AllReadyH.nil)
    try simp only [jD, jE, jF]
    go_simp
    refine (C0.out _).mono ?_
    rintro e w113 ⟨rfl, hg⟩
    have KP := hid (And.intro (Blk.grown hHeld.1 hg) (And.intro (Blk.grown hHeld.2.1 hg) ((Box.keep (Box.grown (box_box hHeld.2.2) hg)))))
    clear hHeld hg
    go_wp2_with fail
    refine hK.out _ _ KP.out (fun hHeld => ?_)
    clear KP hK K
    try dsimp only at hHeld
    try simp only [jX, jD, jE, jF]
    refine jR [15] ?_
    refine jG rfl (fun K hK => ?_) (AllReadyH.nil)
    try simp only [jD, jE, jF]
    go_simp
    refine (HP.out _).mono ?_
    rintro e w114 ⟨rfl, hg⟩
    have KP := hid (And.intro (Blk.grown hHeld.1 hg) (And.intro (Blk.grown hHeld.2.1 hg) ((Box.keep (Box.grown (box_box hHeld.2.2) hg)))))
    clear hHeld hg
    go_wp2_with fail
    refine hK.out _ _ KP.out (fun hHeld => ?_)
    clear KP hK K
    try dsimp only at hHeld
    try simp only [jX, jD, jE, jF]
    refine' jT 16 rfl (by rfl) ?_ hHeld ?_
    rotate_left
    ·(intro w hSw; (try dsimp only at hSw); go_simp; (try rw [if_neg (by omega)]); try with_reducible rfl)
    try simp only [jX, jD, jE, jF]
    refine jR [17] ?_
    refine jG rfl (fun K hK => ?_) (AllReadyH.nil)
    try simp only [jD, jE, jF]
    go_simp
    refine (C1.out _).mono ?_
    rintro e w115 ⟨rfl, hg⟩
    have KP := hid (And.intro (Blk.grown hHeld.1 hg) (And.intro (Blk.grown hHeld.2.1 hg) ((Box.keep (Box.grown (box_box hHeld.2.2) hg)))))
    clear hHeld hg
    go_wp2_with fail
    refine hK.out _ _ KP.out (fun hHeld => ?_)
    clear KP hK K
    try dsimp only at hHeld
    try simp only [jX, jD, jE, jF]
    refine' jT 18 rfl (by rfl) ?_ hHeld ?_
    rotate_left
    ·(intro w hSw; (try dsimp only at hSw); go_simp; (try rw [if_neg (by omega)]); try with_reducible rfl)
    try simp only [jX, jD, jE, jF]
    refine jR [19] ?_
    refine jG rfl (fun K hK => ?_) (AllReadyH.nil)
    try simp only [jD, jE, jF]
    have hB := box_box hHeld.2.2
    obtain ⟨x, y, c0, c1, f0, f1⟩ := box_ans hHeld.2.2 (.refl w115 none)
    have KP := hid (And.intro (Blk.set1 (Blk.set0 hHeld.1 (.int .u64 (q a))) (.int .u64 (q b))) (And.intro (Blk.set1 (Blk.set0 hHeld.2.1 (.int .u64 (q a))) (.int .u64 (q b))) ((Box.keep (Box.set1 (Box.set0 (box_box hHeld.2.2) (.int .u64 (q a))) (.int .u64 (q b)))))))
    clear hHeld
    go_simp
    refine hK.out _ _ KP.out (fun hHeld => ?_)
    clear KP hK K
    try simp only [jX, jD, jE, jF]
    refine wpAnyH_done (by kernel_rfl) ?_ _
    have hst := hB.store (.int .u64 (q a)) (.int .u64 (q b))
    clear hB c0 c1 f0 f1 hHeld
    generalize (w115.setCell ⟨w.heap.size + 1, 0, none⟩ (.int .u64 (q a))).setCell ⟨w.heap.size + 1, 1, none⟩ (.int .u64 (q b)) = wx at hst ⊢
    obtain ⟨d0, d1⟩ := pair_cells hst.1
    go_wp2_with fail
    exact bodyPost_ret (v := pair a b) (by simp [results, Tryz.results51, go_sem, d0, d1]) rfl ⟨rfl, hst.2⟩
  ·try simp only [jD, jE, jF]
   have KP := hid (And.intro (Blk.grown hHeld.1 (World.grownBy_alloc w101 (.cells #[.int .u8 2] 5) none)) ((Box.keep (Box.grown (box_box hHeld.2) (World.grownBy_alloc w101 (.cells #[.int .u8 2] 5) none)))))
   have hnew := (⟨Box.size (box_box hHeld.2), at_new w101 _⟩ : (Blk w (w101.heap.size) (.cells #[.int .u8 2] 5)) (w101.alloc (.cells #[.int .u8 2] 5)))
   clear hHeld
   go_simp
   refine hK.out _ _ KP.out (fun hHeld => ?_)
   clear KP hK K
   try dsimp only at hHeld hnew
   generalize w101.alloc (.cells #[.int .u8 2] 5) = w117 at hHeld hnew ⊢
   try simp only [jX, jD, jE, jF]
   refine held_stronger (S' := fun w' => (Blk w (w101.heap.size) (.cells #[.int .u8 2] 5)) w' ∧ (fun w' => (Blk w (w5.heap.size) (.cells #[.int .u8 1] 5)) w' ∧ (fun w' => w'.cell? ⟨w.heap.size, 0, none⟩ = some (.int .u64 (q k0)) ∧ w'.cell? ⟨w.heap.size, 1, none⟩ = some (.int .u64 (q k1)) ∧ Box w k0 k1 49 49 w') w') w') (fun _ h => h.2) _ _ _ _ ?_
   replace hHeld := And.intro hnew hHeld
   clear hnew
   try dsimp only at hHeld
   refine' jT 12 rfl (by rfl) ?_ hHeld ?_
   rotate_left
   ·(intro w hSw; (try dsimp only at hSw); have cv := conv_2 hSw.1.2; go_simp; (try rw [if_neg (by omega)]); try with_reducible rfl)
   try simp only [jX, jD, jE, jF]
   refine' jT 13 rfl (by rfl) ?_ hHeld ?_
   rotate_left
   ·(intro w hSw; (try dsimp only at hSw); go_simp; (try rw [if_neg (by omega)]); try with_reducible rfl)
   try simp only [jX, jD, jE, jF]
   refine jR [6] ?_
   refine jG rfl (fun K hK => ?_) (AllReadyH.nil)
   try simp only [jD, jE, jF]
   go_simp
   refine (HP.out _).mono ?_
   rintro e w118 ⟨rfl, hg⟩
   have KP := hid (And.intro (Blk.grown hHeld.1 hg) (And.intro (Blk.grown hHeld.2.1 hg) ((Box.keep (Box.grown (box_box hHeld.2.2) hg)))))
   clear hHeld hg
   go_wp2_with fail
   refine hK.out _ _ KP.out (fun hHeld => ?_)
   clear KP hK K
   try dsimp only at hHeld
   try simp only [jX, jD, jE, jF]
   refine' jT 7 rfl (by rfl) ?_ hHeld ?_
   rotate_left
   ·(intro w hSw; (try dsimp only at hSw); go_simp; (try rw [if_neg (by omega)]); try with_reducible rfl)
   try simp only [jX, jD, jE, jF]
   refine jR [8] ?_
   refine jG rfl (fun K hK => ?_) (AllReadyH.nil)
   try simp only [jD, jE, jF]
   go_simp
   refine (C0.out _).mono ?_
   rintro e w119 ⟨rfl, hg⟩
   have KP := hid (And.intro (Blk.grown hHeld.1 hg) (And.intro (Blk.grown hHeld.2.1 hg) ((Box.keep (Box.grown (box_box hHeld.2.2) hg)))))
   clear hHeld hg
   go_wp2_with fail
   refine hK.out _ _ KP.out (fun hHeld => ?_)
   clear KP hK K
   try dsimp only at hHeld
   try simp only [jX, jD, jE, jF]
   refine jR [15] ?_
   refine jG rfl (fun K hK => ?_) (AllReadyH.nil)
   try simp only [jD, jE, jF]
   go_simp
   refine (HP.out _).mono ?_
   rintro e w120 ⟨rfl, hg⟩
   have KP := hid (And.intro (Blk.grown hHeld.1 hg) (And.intro (Blk.grown hHeld.2.1 hg) ((Box.keep (Box.grown (box_box hHeld.2.2) hg)))))
   clear hHeld hg
   go_wp2_with fail
   refine hK.out _ _ KP.out (fun hHeld => ?_)
   clear KP hK K
   try dsimp only at hHeld
   try simp only [jX, jD, jE, jF]
   refine' jT 16 rfl (by rfl) ?_ hHeld ?_
   rotate_left
   ·(intro w hSw; (try dsimp only at hSw); go_simp; (try rw [if_neg (by omega)]); try with_reducible rfl)
   try simp only [jX, jD, jE, jF]
   refine jR [17] ?_
   refine jG rfl (fun K hK => ?_) (AllReadyH.nil)
   try simp only [jD, jE, jF]
   go_simp
   refine (C1.out _).mono ?_
   rintro e w121 ⟨rfl, hg⟩
   have KP := hid (And.intro (Blk.grown hHeld.1 hg) (And.intro (Blk.grown hHeld.2.1 hg) ((Box.keep (Box.grown (box_box hHeld.2.2) hg)))))
   clear hHeld hg
   go_wp2_with fail
   refine hK.out _ _ KP.out (fun hHeld => ?_)
   clear KP hK K
   try dsimp only at hHeld
   try simp only [jX, jD, jE, jF]
   refine' jT 18 rfl (by rfl) ?_ hHeld ?_
   rotate_left
   ·(intro w hSw; (try dsimp only at hSw); go_simp; (try rw [if_neg (by omega)]); try with_reducible rfl)
   try simp only [jX, jD, jE, jF]
   refine jR [19] ?_
   refine jG rfl (fun K hK => ?_) (AllReadyH.nil)
   try simp only [jD, jE, jF]
   have hB := box_box hHeld.2.2
   obtain ⟨x, y, c0, c1, f0, f1⟩ := box_ans hHeld.2.2 (.refl w121 none)
   have KP := hid (And.intro (Blk.set1 (Blk.set0 hHeld.1 (.int .u64 (q a))) (.int .u64 (q b))) (And.intro (Blk.set1 (Blk.set0 hHeld.2.1 (.int .u64 (q a))) (.int .u64 (q b))) ((Box.keep (Box.set1 (Box.set0 (box_box hHeld.2.2) (.int .u64 (q a))) (.int .u64 (q b)))))))
   clear hHeld
   go_simp
   refine hK.out _ _ KP.out (fun hHeld => ?_)
   clear KP hK K
   try simp only [jX, jD, jE, jF]
   refine wpAnyH_done (by kernel_rfl) ?_ _
   have hst := hB.store (.int .u64 (q a)) (.int .u64 (q b))
   clear hB c0 c1 f0 f1 hHeld
   generalize (w121.setCell ⟨w.heap.size + 1, 0, none⟩ (.int .u64 (q a))).setCell ⟨w.heap.size + 1, 1, none⟩ (.int .u64 (q b)) = wx at hst ⊢
   obtain ⟨d0, d1⟩ := pair_cells hst.1
   go_wp2_with fail
   exact bodyPost_ret (v := pair a b) (by simp [results, Tryz.results51, go_sem, d0, d1]) rfl ⟨rfl, hst.2⟩
 ·try simp only [jD, jE, jF]
  go_simp
  refine (HP.out _).mono ?_
  rintro e w123 ⟨rfl, hg⟩
  have KP := hid ((Box.keep (Box.grown (box_box hHeld) hg)))
  clear hHeld hg
  go_wp2_with fail
  refine hK.out _ _ KP.out (fun hHeld => ?_)
  clear KP hK K
  try dsimp only at hHeld
  try simp only [jX, jD, jE, jF]
  refine jR [2, 11] ?_
  refine jG rfl (fun K hK => ?_) (jG rfl (fun K hK => ?_) (AllReadyH.nil))
  ·try simp only [jD, jE, jF]
   have KP := hid ((Box.keep (Box.grown (box_box hHeld) (World.grownBy_alloc w123 (.cells #[.int .u8 1] 5) none))))
   have hnew := (⟨Box.size (box_box hHeld), at_new w123 _⟩ : (Blk w (w123.heap.size) (.cells #[.int .u8 1] 5)) (w123.alloc (.cells #[.int .u8 1] 5)))
   clear hHeld
   go_simp
   refine hK.out _ _ KP.out (fun hHeld => ?_)
   clear KP hK K
   try dsimp only at hHeld hnew
   generalize w123.alloc (.cells #[.int .u8 1] 5) = w124 at hHeld hnew ⊢
   try simp only [jX, jD, jE, jF]
   refine held_stronger (S' := fun w' => (Blk w (w123.heap.size) (.cells #[.int .u8 1] 5)) w' ∧ (fun w' => w'.cell? ⟨w.heap.size, 0, none⟩ = some (.int .u64 (q k0)) ∧ w'.cell? ⟨w.heap.size, 1, none⟩ = some (.int .u64 (q k1)) ∧ Box w k0 k1 49 49 w') w') (fun _ h => h.2) _ _ _ _ ?_
   replace hHeld := And.intro hnew hHeld
   clear hnew
   try dsimp only at hHeld
   refine' jT 3 rfl (by rfl) ?_ hHeld ?_
   rotate_left
   ·(intro w hSw; (try dsimp only at hSw); have cv := conv_1 hSw.1.2; go_simp; (try rw [if_neg (by omega)]); try with_reducible rfl)
   try simp only [jX, jD, jE, jF]
   refine' jT 4 rfl (by rfl) ?_ hHeld ?_
   rotate_left
   ·(intro w hSw; (try dsimp only at hSw); go_simp; (try rw [if_neg (by omega)]); try with_reducible rfl)
   try simp only [jX, jD, jE, jF]
   refine' jT 7 rfl (by rfl) ?_ hHeld ?_
   rotate_left
   ·(intro w hSw; (try dsimp only at hSw); go_simp; (try rw [if_neg (by omega)]); try with_reducible rfl)
   try simp only [jX, jD, jE, jF]
   refine jR [8, 11] ?_
   refine jG rfl (fun K hK => ?_) (jG rfl (fun K hK => ?_) (AllReadyH.nil))
   ·try simp only [jD, jE, jF]
    go_simp
    refine (C0.out _).mono ?_
    rintro e w125 ⟨rfl, hg⟩
    have KP := hid (And.intro (Blk.grown hHeld.1 hg) ((Box.keep (Box.grown (box_box hHeld.2) hg))))
    clear hHeld hg
    go_wp2_with fail
    refine hK.out _ _ KP.out (fun hHeld => ?_)
    clear KP hK K
    try dsimp only at hHeld
    try simp only [jX, jD, jE, jF]
    refine jR [11, 15] ?_
    refine jG rfl (fun K hK => ?_) (jG rfl (fun K hK => ?_) (AllReadyH.nil))
    ·try simp only [jD, jE, jF]
     have KP := hid (And.intro (Blk.grown hHeld.1 (World.grownBy_alloc w125 (.cells #[.int .u8 2] 5) none)) ((Box.keep (Box.grown (box_box hHeld.2) (World.grownBy_alloc w125 (.cells #[.int .u8 2] 5) none)))))
     have hnew := (⟨Box.size (box_box hHeld.2), at_new w125 _⟩ : (Blk w (w125.heap.size) (.cells #[.int .u8 2] 5)) (w125.alloc (.cells #[.int .u8 2] 5)))
     clear hHeld
     go_simp
     refine hK.out _ _ KP.out (fun hHeld => ?_)
     clear KP hK K
     try dsimp only at hHeld hnew
     generalize w125.alloc (.cells #[.int .u8 2] 5) = w126 at hHeld hnew ⊢
     try simp only [jX, jD, jE, jF]
     refine held_stronger (S' := fun w' => (Blk w (w125.heap.size) (.cells #[.int .u8 2] 5)) w' ∧ (fun w' => (Blk w (w123.heap.size) (.cells #[.int .u8 1] 5)) w' ∧ (fun w' => w'.cell? ⟨w.heap.size, 0, none⟩ = some (.int .u64 (q k0)) ∧ w'.cell? ⟨w.heap.size, 1, none⟩ = some (.int .u64 (q k1)) ∧ Box w k0 k1 49 49 w') w') w') (fun _ h => h.2) _ _ _ _ ?_
     replace hHeld := And.intro hnew hHeld
     clear hnew
     try dsimp only at hHeld
     refine' jT 12 rfl (by rfl) ?_ hHeld ?_
     rotate_left
     ·(intro w hSw; (try dsimp only at hSw); have cv := conv_2 hSw.1.2; go_simp; (try rw [if_neg (by omega)]); try with_reducible rfl)
     try simp only [jX, jD, jE, jF]
     refine' jT 13 rfl (by rfl) ?_ hHeld ?_
     rotate_left
     ·(intro w hSw; (try dsimp only at hSw); go_simp; (try rw [if_neg (by omega)]); try with_reducible rfl)
     try simp only [jX, jD, jE, jF]
     refine jR [15] ?_
     refine jG rfl (fun K hK => ?_) (AllReadyH.nil)
     try simp only [jD, jE, jF]
     go_simp
     refine (HP.out _).mono ?_
     rintro e w127 ⟨rfl, hg⟩
     have KP := hid (And.intro (Blk.grown hHeld.1 hg) (And.intro (Blk.grown hHeld.2.1 hg) ((Box.keep (Box.grown (box_box hHeld.2.2) hg)))))
     clear hHeld hg
     go_wp2_with fail
     refine hK.out _ _ KP.out (fun hHeld => ?_)
     clear KP hK K
     try dsimp only at hHeld
     try simp only [jX, jD, jE, jF]
     refine' jT 16 rfl (by rfl) ?_ hHeld ?_
     rotate_left
     ·(intro w hSw; (try dsimp only at hSw); go_simp; (try rw [if_neg (by omega)]); try with_reducible rfl)
     try simp only [jX, jD, jE, jF]
     refine jR [17] ?_
     refine jG rfl (fun K hK => ?_) (AllReadyH.nil)
     try simp only [jD, jE, jF]
     go_simp
     refine (C1.out _).mono ?_
     rintro e w128 ⟨rfl, hg⟩
     have KP := hid (And.intro (Blk.grown hHeld.1 hg) (And.intro (Blk.grown hHeld.2.1 hg) ((Box.keep (Box.grown (box_box hHeld.2.2) hg)))))
     clear hHeld hg
     go_wp2_with fail
     refine hK.out _ _ KP.out (fun hHeld => ?_)
     clear KP hK K
     try dsimp only at hHeld
     try simp only [jX, jD, jE, jF]
     refine' jT 18 rfl (by rfl) ?_ hHeld ?_
     rotate_left
     ·(intro w hSw; (try dsimp only at hSw); go_simp; (try rw [if_neg (by omega)]); try with_reducible rfl)
     try simp only [jX, jD, jE, jF]
     refine jR [19] ?_
     refine jG rfl (fun K hK => ?_) (AllReadyH.nil)
     try simp only [jD, jE, jF]
     have hB := box_box hHeld.2.2
     obtain ⟨x, y, c0, c1, f0, f1⟩ := box_ans hHeld.2.2 (.refl w128 none)
     have KP := hid (And.intro (Blk.set1 (Blk.set0 hHeld.1 (.int .u64 (q a))) (.int .u64 (q b))) (And.intro (Blk.set1 (Blk.set0 hHeld.2.1 (.int .u64 (q a))) (.int .u64 (q b))) ((Box.keep (Box.set1 (Box.set0 (box_box hHeld.2.2) (.int .u64 (q a))) (.int .u64 (q b)))))))
     clear hHeld
     go_simp
     refine hK.out _ _ KP.out (fun hHeld => ?_)
     clear KP hK K
     try simp only [jX, jD, jE, jF]
     refine wpAnyH_done (by kernel_rfl) ?_ _
     have hst := hB.store (.int .u64 (q a)) (.int .u64 (q b))
     clear hB c0 c1 f0 f1 hHeld
     generalize (w128.setCell ⟨w.heap.size + 1, 0, none⟩ (.int .u64 (q a))).setCell ⟨w.heap.size + 1, 1, none⟩ (.int .u64 (q b)) = wx at hst ⊢
     obtain ⟨d0, d1⟩ := pair_cells hst.1
     go_wp2_with fail
     exact bodyPost_ret (v := pair a b) (by simp [results, Tryz.results51, go_sem, d0, d1]) rfl ⟨rfl, hst.2⟩
    ·try simp only [jD, jE, jF]
     go_simp
     refine (HP.out _).mono ?_
     rintro e w130 ⟨rfl, hg⟩
     have KP := hid (And.intro (Blk.grown hHeld.1 hg) ((Box.keep (Box.grown (box_box hHeld.2) hg))))
     clear hHeld hg
     go_wp2_with fail
     refine hK.out _ _ KP.out (fun hHeld => ?_)
     clear KP hK K
     try dsimp only at hHeld
     try simp only [jX, jD, jE, jF]
     refine jR [11] ?_
     refine jG rfl (fun K hK => ?_) (AllReadyH.nil)
     try simp only [jD, jE, jF]
     have KP := hid (And.intro (Blk.grown hHeld.1 (World.grownBy_alloc w130 (.cells #[.int .u8 2] 5) none)) ((Box.keep (Box.grown (box_box hHeld.2) (World.grownBy_alloc w130 (.cells #[.int .u8 2] 5) none)))))
     have hnew := (⟨Box.size (box_box hHeld.2), at_new w130 _⟩ : (Blk w (w130.heap.size) (.cells #[.int .u8 2] 5)) (w130.alloc (.cells #[.int .u8 2] 5)))
     clear hHeld
     go_simp
     refine hK.out _ _ KP.out (fun hHeld => ?_)
     clear KP hK K
     try dsimp only at hHeld hnew
     generalize w130.alloc (.cells #[.int .u8 2] 5) = w131 at hHeld hnew ⊢
     try simp only [jX, jD, jE, jF]
     refine held_stronger (S' := fun w' => (Blk w (w130.heap.size) (.cells #[.int .u8 2] 5)) w' ∧ (fun w' => (Blk w (w123.heap.size) (.cells #[.int .u8 1] 5)) w' ∧ (fun w' => w'.cell? ⟨w.heap.size, 0, none⟩ = some (.int .u64 (q k0)) ∧ w'.cell? ⟨w.heap.size, 1, none⟩ = some (.int .u64 (q k1)) ∧ Box w k0 k1 49 49 w') w') w') (fun _ h => h.2) _ _ _ _ ?_
     replace hHeld := And.intro hnew hHeld
     clear hnew
     try dsimp only at hHeld
     refine' jT 12 rfl (by rfl) ?_ hHeld ?_
     rotate_left
     ·(intro w hSw; (try dsimp only at hSw); have cv := conv_2 hSw.1.2; go_simp; (try rw [if_neg (by omega)]); try with_reducible rfl)
     try simp only [jX, jD, jE, jF]
     refine' jT 13 rfl (by rfl) ?_ hHeld ?_
     rotate_left
     ·(intro w hSw; (try dsimp only at hSw); go_simp; (try rw [if_neg (by omega)]); try with_reducible rfl)
     try simp only [jX, jD, jE, jF]
     refine' jT 16 rfl (by rfl) ?_ hHeld ?_
     rotate_left
     ·(intro w hSw; (try dsimp only at hSw); go_simp; (try rw [if_neg (by omega)]); try with_reducible rfl)
     try simp only [jX, jD, jE, jF]
     refine jR [17] ?_
     refine jG rfl (fun K hK => ?_) (AllReadyH.nil)
     try simp only [jD, jE, jF]
     go_simp
     refine (C1.out _).mono ?_
     rintro e w132 ⟨rfl, hg⟩
     have KP := hid (And.intro (Blk.grown hHeld.1 hg) (And.intro (Blk.grown hHeld.2.1 hg) ((Box.keep (Box.grown (box_box hHeld.2.2) hg)))))
     clear hHeld hg
     go_wp2_with fail
     refine hK.out _ _ KP.out (fun hHeld => ?_)
     clear KP hK K
     try dsimp only at hHeld
     try simp only [jX, jD, jE, jF]
     refine' jT 18 rfl (by rfl) ?_ hHeld ?_
     rotate_left
     ·(intro w hSw; (try dsimp only at hSw); go_simp; (try rw [if_neg (by omega)]); try with_reducible rfl)
     try simp only [jX, jD, jE, jF]
     refine jR [19] ?_
     refine jG rfl (fun K hK => ?_) (AllReadyH.nil)
     try simp only [jD, jE, jF]
     have hB := box_box hHeld.2.2
     obtain ⟨x, y, c0, c1, f0, f1⟩ := box_ans hHeld.2.2 (.refl w132 none)
     have KP := hid (And.intro (Blk.set1 (Blk.set0 hHeld.1 (.int .u64 (q a))) (.int .u64 (q b))) (And.intro (Blk.set1 (Blk.set0 hHeld.2.1 (.int .u64 (q a))) (.int .u64 (q b))) ((Box.keep (Box.set1 (Box.set0 (box_box hHeld.2.2) (.int .u64 (q a))) (.int .u64 (q b)))))))
     clear hHeld
     go_simp
     refine hK.out _ _ KP.out (fun hHeld => ?_)
     clear KP hK K
     try simp only [jX, jD, jE, jF]
     refine wpAnyH_done (by kernel_rfl) ?_ _
     have hst := hB.store (.int .u64 (q a)) (.int .u64 (q b))
     clear hB c0 c1 f0 f1 hHeld
     generalize (w132.setCell ⟨w.heap.size + 1, 0, none⟩ (.int .u64 (q a))).setCell ⟨w.heap.size + 1, 1, none⟩ (.int .u64 (q b)) = wx at hst ⊢
     obtain ⟨d0, d1⟩ := pair_cells hst.1
     go_wp2_with fail
     exact bodyPost_ret (v := pair a b) (by simp [results, Tryz.results51, go_sem, d0, d1]) rfl ⟨rfl, hst.2⟩
   ·try simp only [jD, jE, jF]
    have KP := hid (And.intro (Blk.grown hHeld.1 (World.grownBy_alloc w124 (.cells #[.int .u8 2] 5) none)) ((Box.keep (Box.grown (box_box hHeld.2) (World.grownBy_alloc w124 (.cells #[.int .u8 2] 5) none)))))
    have hnew := (⟨Box.size (box_box hHeld.2), at_new w124 _⟩ : (Blk w (w124.heap.size) (.cells #[.int .u8 2] 5)) (w124.alloc (.cells #[.int .u8 2] 5)))
    clear hHeld
    go_simp
    refine hK.out _ _ KP.out (fun hHeld => ?_)
    clear KP hK K
    try dsimp only at hHeld hnew
    generalize w124.alloc (.cells #[.int .u8 2] 5) = w134 at hHeld hnew ⊢
    try simp only [jX, jD, jE, jF]
    refine held_stronger (S' := fun w' => (Blk w (w124.heap.size) (.cells #[.int .u8 2] 5)) w' ∧ (fun w' => (Blk w (w123.heap.size) (.cells #[.int .u8 1] 5)) w' ∧ (fun w' => w'.cell? ⟨w.heap.size, 0, none⟩ = some (.int .u64 (q k0)) ∧ w'.cell? ⟨w.heap.size, 1, none⟩ = some (.int .u64 (q k1)) ∧ Box w k0 k1 49 49 w') w') w') (fun _ h => h.2) _ _ _ _ ?_
    replace hHeld := And.intro hnew hHeld
    clear hnew
    try dsimp only at hHeld
    refine' jT 12 rfl (by rfl) ?_ hHeld ?_
    rotate_left
    ·(intro w hSw; (try dsimp only at hSw); have cv := conv_2 hSw.1.2; go_simp; (try rw [if_neg (by omega)]); try with_reducible rfl)
    try simp only [jX, jD, jE, jF]
    refine' jT 13 rfl (by rfl) ?_ hHeld ?_
    rotate_left
    ·(intro w hSw; (try dsimp only at hSw); go_simp; (try rw [if_neg (by omega)]); try with_reducible rfl)
    try simp only [jX, jD, jE, jF]
    refine jR [8] ?_
    refine jG rfl (fun K hK => ?_) (AllReadyH.nil)
    try simp only [jD, jE, jF]
    go_simp
    refine (C0.out _).mono ?_
    rintro e w135 ⟨rfl, hg⟩
    have KP := hid (And.intro (Blk.grown hHeld.1 hg) (And.intro (Blk.grown hHeld.2.1 hg) ((Box.keep (Box.grown (box_box hHeld.2.2) hg)))))
    clear hHeld hg
    go_wp2_with fail
    refine hK.out _ _ KP.out (fun hHeld => ?_)
    clear KP hK K
    try dsimp only at hHeld
    try simp only [jX, jD, jE, jF]
    refine jR [15] ?_
    refine jG rfl (fun K hK => ?_) (AllReadyH.nil)
    try simp only [jD, jE, jF]
    go_simp
    refine (HP.out _).mono ?_
    rintro e w136 ⟨rfl, hg⟩
    have KP := hid (And.intro (Blk.grown hHeld.1 hg) (And.intro (Blk.grown hHeld.2.1 hg) ((Box.keep (Box.grown (box_box hHeld.2.2) hg)))))
    clear hHeld hg
    go_wp2_with fail
    refine hK.out _ _ KP.out (fun hHeld => ?_)
    clear KP hK K
    try dsimp only at hHeld
    try simp only [jX, jD, jE, jF]
    refine' jT 16 rfl (by rfl) ?_ hHeld ?_
    rotate_left
    ·(intro w hSw; (try dsimp only at hSw); go_simp; (try rw [if_neg (by omega)]); try with_reducible rfl)
    try simp only [jX, jD, jE, jF]
    refine jR [17] ?_
    refine jG rfl (fun K hK => ?_) (AllReadyH.nil)
    try simp only [jD, jE, jF]
    go_simp
    refine (C1.out _).mono ?_
    rintro e w137 ⟨rfl, hg⟩
    have KP := hid (And.intro (Blk.grown hHeld.1 hg) (And.intro (Blk.grown hHeld.2.1 hg) ((Box.keep (Box.grown (box_box hHeld.2.2) hg)))))
    clear hHeld hg
    go_wp2_with fail
    refine hK.out _ _ KP.out (fun hHeld => ?_)
    clear KP hK K
    try dsimp only at hHeld
    try simp only [jX, jD, jE, jF]
    refine' jT 18 rfl (by rfl) ?_ hHeld ?_
    rotate_left
    ·(intro w hSw; (try dsimp only at hSw); go_simp; (try rw [if_neg (by omega)]); try with_reducible rfl)
    try simp only [jX, jD, jE, jF]
    refine jR [19] ?_
    refine jG rfl (fun K hK => ?_) (AllReadyH.nil)
    try simp only [jD, jE, jF]
    have hB := box_box hHeld.2.2
    obtain ⟨x, y, c0, c1, f0, f1⟩ := box_ans hHeld.2.2 (.refl w137 none)
    have KP := hid (And.intro (Blk.set1 (Blk.set0 hHeld.1 (.int .u64 (q a))) (.int .u64 (q b))) (And.intro (Blk.set1 (Blk.set0 hHeld.2.1 (.int .u64 (q a))) (.int .u64 (q b))) ((Box.keep (Box.set1 (Box.set0 (box_box hHeld.2.2) (.int .u64 (q a))) (.int .u64 (q b)))))))
    clear hHeld
    go_simp
    refine hK.out _ _ KP.out (fun hHeld => ?_)
    clear KP hK K
    try simp only [jX, jD, jE, jF]
    refine wpAnyH_done (by kernel_rfl) ?_ _
    have hst := hB.store (.int .u64 (q a)) (.int .u64 (q b))
    clear hB c0 c1 f0 f1 hHeld
    generalize (w137.setCell ⟨w.heap.size + 1, 0, none⟩ (.int .u64 (q a))).setCell ⟨w.heap.size + 1, 1, none⟩ (.int .u64 (q b)) = wx at hst ⊢
    obtain ⟨d0, d1⟩ := pair_cells hst.1
    go_wp2_with fail
    exact bodyPost_ret (v := pair a b) (by simp [results, Tryz.results51, go_sem, d0, d1]) rfl ⟨rfl, hst.2⟩
  ·try simp only [jD, jE, jF]
   have KP := hid ((Box.keep (Box.grown (box_box hHeld) (World.grownBy_alloc w123 (.cells #[.int .u8 2] 5) none))))
   have hnew := (⟨Box.size (box_box hHeld), at_new w123 _⟩ : (Blk w (w123.heap.size) (.cells #[.int .u8 2] 5)) (w123.alloc (.cells #[.int .u8 2] 5)))
   clear hHeld
   go_simp
   refine hK.out _ _ KP.out (fun hHeld => ?_)
   clear KP hK K
   try dsimp only at hHeld hnew
   generalize w123.alloc (.cells #[.int .u8 2] 5) = w139 at hHeld hnew ⊢
   try simp only [jX, jD, jE, jF]
   refine held_stronger (S' := fun w' => (Blk w (w123.heap.size) (.cells #[.int .u8 2] 5)) w' ∧ (fun w' => w'.cell? ⟨w.heap.size, 0, none⟩ = some (.int .u64 (q k0)) ∧ w'.cell? ⟨w.heap.size, 1, none⟩ = some (.int .u64 (q k1)) ∧ Box w k0 k1 49 49 w') w') (fun _ h => h.2) _ _ _ _ ?_
   replace hHeld := And.intro hnew hHeld
   clear hnew
   try dsimp only at hHeld
   refine' jT 12 rfl (by rfl) ?_ hHeld ?_
   rotate_left
   ·(intro w hSw; (try dsimp only at hSw); have cv := conv_2 hSw.1.2; go_simp; (try rw [if_neg (by omega)]); try with_reducible rfl)
   try simp only [jX, jD, jE, jF]
   refine' jT 13 rfl (by rfl) ?_ hHeld ?_
   rotate_left
   ·(intro w hSw; (try dsimp only at hSw); go_simp; (try rw [if_neg (by omega)]); try with_reducible rfl)
   try simp only [jX, jD, jE, jF]
   refine jR [2] ?_
   refine jG rfl (fun K hK => ?_) (AllReadyH.nil)
   try simp only [jD, jE, jF]
   have KP := hid (And.intro (Blk.grown hHeld.1 (World.grownBy_alloc w139 (.cells #[.int .u8 1] 5) none)) ((Box.keep (Box.grown (box_box hHeld.2) (World.grownBy_alloc w139 (.cells #[.int .u8 1] 5) none)))))
   have hnew := (⟨Box.size (box_box hHeld.2), at_new w139 _⟩ : (Blk w (w139.heap.size) (.cells #[.int .u8 1] 5)) (w139.alloc (.cells #[.int .u8 1] 5)))
   clear hHeld
   go_simp
   refine hK.out _ _ KP.out (fun hHeld => ?_)
   clear KP hK K
   try dsimp only at hHeld hnew
   generalize w139.alloc (.cells #[.int .u8 1] 5) = w140 at hHeld hnew ⊢
   try simp only [jX, jD, jE, jF]
   refine held_stronger (S' := fun w' => (Blk w (w139.heap.size) (.cells #[.int .u8 1] 5)) w' ∧ (fun w' => (Blk w (w123.heap.size) (.cells #[.int .u8 2] 5)) w' ∧ (fun w' => w'.cell? ⟨w.heap.size, 0, none⟩ = some (.int .u64 (q k0)) ∧ w'.cell? ⟨w.heap.size, 1, none⟩ = some (.int .u64 (q k1)) ∧ Box w k0 k1 49 49 w') w') w') (fun _ h => h.2) _ _ _ _ ?_
   replace hHeld := And.intro hnew hHeld
   clear hnew
   try dsimp only at hHeld
   refine' jT 3 rfl (by rfl) ?_ hHeld ?_
   rotate_left
   ·(intro w hSw; (try dsimp only at hSw); have cv := conv_1 hSw.1.2; go_simp; (try rw [if_neg (by omega)]); try with_reducible rfl)
   try simp only [jX, jD, jE, jF]
   refine' jT 4 rfl (by rfl) ?_ hHeld ?_
   rotate_left
   ·(intro w hSw; (try dsimp only at hSw); go_simp; (try rw [if_neg (by omega)]); try with_reducible rfl)
   try simp only [jX, jD, jE, jF]
   refine' jT 7 rfl (by rfl) ?_ hHeld ?_
   rotate_left
   ·(intro w hSw; (try dsimp only at hSw); go_simp; (try rw [if_neg (by omega)]); try with_reducible rfl)
   try simp only [jX, jD, jE, jF]
   refine jR [8] ?_
   refine jG rfl (fun K hK => ?_) (AllReadyH.nil)
   try simp only [jD, jE, jF]
   go_simp
   refine (C0.out _).mono ?_
   rintro e w141 ⟨rfl, hg⟩
   have KP := hid (And.intro (Blk.grown hHeld.1 hg) (And.intro (Blk.grown hHeld.2.1 hg) ((Box.keep (Box.grown (box_box hHeld.2.2) hg)))))
   clear hHeld hg
   go_wp2_with fail
   refine hK.out _ _ KP.out (fun hHeld => ?_)
   clear KP hK K
   try dsimp only at hHeld
   try simp only [jX, jD, jE, jF]
   refine jR [15] ?_
   refine jG rfl (fun K hK => ?_) (AllReadyH.nil)
   try simp only [jD, jE, jF]
   go_simp
   refine (HP.out _).mono ?_
   rintro e w142 ⟨rfl, hg⟩
   have KP := hid (And.intro (Blk.grown hHeld.1 hg) (And.intro (Blk.grown hHeld.2.1 hg) ((Box.keep (Box.grown (box_box hHeld.2.2) hg)))))
   clear hHeld hg
   go_wp2_with fail
   refine hK.out _ _ KP.out (fun hHeld => ?_)
   clear KP hK K
   try dsimp only at hHeld
   try simp only [jX, jD, jE, jF]
   refine' jT 16 rfl (by rfl) ?_ hHeld ?_
   rotate_left
   ·(intro w hSw; (try dsimp only at hSw); go_simp; (try rw [if_neg (by omega)]); try with_reducible rfl)
   try simp only [jX, jD, jE, jF]
   refine jR [17] ?_
   refine jG rfl (fun K hK => ?_) (AllReadyH.nil)
   try simp only [jD, jE, jF]
   go_simp
   refine (C1.out _).mono ?_
   rintro e w143 ⟨rfl, hg⟩
   have KP := hid (And.intro (Blk.grown hHeld.1 hg) (And.intro (Blk.grown hHeld.2.1 hg) ((Box.keep (Box.grown (box_box hHeld.2.2) hg)))))
   clear hHeld hg
   go_wp2_with fail
   refine hK.out _ _ KP.out (fun hHeld => ?_)
   clear KP hK K
   try dsimp only at hHeld
   try simp only [jX, jD, jE, jF]
   refine' jT 18 rfl (by rfl) ?_ hHeld ?_
   rotate_left
   ·(intro w hSw; (try dsimp only at hSw); go_simp; (try rw [if_neg (by omega)]); try with_reducible rfl)
   try simp only [jX, jD, jE, jF]
   refine jR [19] ?_
   refine jG rfl (fun K hK => ?_) (AllReadyH.nil)
   try simp only [jD, jE, jF]
   have hB := box_box hHeld.2.2
   obtain ⟨x, y, c0, c1, f0, f1⟩ := box_ans hHeld.2.2 (.refl w143 none)
   have KP := hid (And.intro (Blk.set1 (Blk.set0 hHeld.1 (.int .u64 (q a))) (.int .u64 (q b))) (And.intro (Blk.set1 (Blk.set0 hHeld.2.1 (.int .u64 (q a))) (.int .u64 (q b))) ((Box.keep (Box.set1 (Box.set0 (box_box hHeld.2.2) (.int .u64 (q a))) (.int .u64 (q b)))))))
   clear hHeld
   go_simp
   refine hK.out _ _ KP.out (fun hHeld => ?_)
   clear KP hK K
   try simp only [jX, jD, jE, jF]
   refine wpAnyH_done (by kernel_rfl) ?_ _
   have hst := hB.store (.int .u64 (q a)) (.int .u64 (q b))
   clear hB c0 c1 f0 f1 hHeld
   generalize (w143.setCell ⟨w.heap.size + 1, 0, none⟩ (.int .u64 (q a))).setCell ⟨w.heap.size + 1, 1, none⟩ (.int .u64 (q b)) = wx at hst ⊢
   obtain ⟨d0, d1⟩ := pair_cells hst.1
   go_wp2_with fail
   exact bodyPost_ret (v := pair a b) (by simp [results, Tryz.results51, go_sem, d0, d1]) rfl ⟨rfl, hst.2⟩
 ·try simp only [jD, jE, jF]
  have KP := hid ((Box.keep (Box.grown (box_box hHeld) (World.grownBy_alloc w5 (.cells #[.int .u8 2] 5) none))))
  have hnew := (⟨Box.size (box_box hHeld), at_new w5 _⟩ : (Blk w (w5.heap.size) (.cells #[.int .u8 2] 5)) (w5.alloc (.cells #[.int .u8 2] 5)))
  clear hHeld
  go_simp
  refine hK.out _ _ KP.out (fun hHeld => ?_)
  clear KP hK K
  try dsimp only at hHeld hnew
  generalize w5.alloc (.cells #[.int .u8 2] 5) = w145 at hHeld hnew ⊢
  try simp only [jX, jD, jE, jF]
  refine held_stronger (S' := fun w' => (Blk w (w5.heap.size) (.cells #[.int .u8 2] 5)) w' ∧ (fun w' => w'.cell? ⟨w.heap.size, 0, none⟩ = some (.int .u64 (q k0)) ∧ w'.cell? ⟨w.heap.size, 1, none⟩ = some (.int .u64 (q k1)) ∧ Box w k0 k1 49 49 w') w') (fun _ h => h.2) _ _ _ _ ?_
  replace hHeld := And.intro hnew hHeld
  clear hnew
  try dsimp only at hHeld
  refine' jT 12 rfl (by rfl) ?_ hHeld ?_
  rotate_left
  ·(intro w hSw; (try dsimp only at hSw); have cv := conv_2 hSw.1.2; go_simp; (try rw [if_neg (by omega)]); try with_reducible rfl)
  try simp only [jX, jD, jE, jF]
  refine' jT 13 rfl (by rfl) ?_ hHeld ?_
  rotate_left
  ·(intro w hSw; (try dsimp only at hSw); go_simp; (try rw [if_neg (by omega)]); try with_reducible rfl)
  try simp only [jX, jD, jE, jF]
  refine jR [2, 6] ?_
  refine jG rfl (fun K hK => ?_) (jG rfl (fun K hK => ?_) (AllReadyH.nil))
  ·try simp only [jD, jE, jF]
   have KP := hid (And.intro (Blk.grown hHeld.1 (World.grownBy_alloc w145 (.cells #[.int .u8 1] 5) none)) ((Box.keep (Box.grown (box_box hHeld.2) (World.grownBy_alloc w145 (.cells #[.int .u8 1] 5) none)))))
   have hnew := (⟨Box.size (box_box hHeld.2), at_new w145 _⟩ : (Blk w (w145.heap.size) (.cells #[.int .u8 1] 5)) (w145.alloc (.cells #[.int .u8 1] 5)))
   clear hHeld
   go_simp
   refine hK.out _ _ KP.out (fun hHeld => ?_)
   clear KP hK K
   try dsimp only at hHeld hnew
   generalize w145.alloc (.cells #[.int .u8 1] 5) = w146 at hHeld hnew ⊢
   try simp only [jX, jD, jE, jF]
   refine held_stronger (S' := fun w' => (Blk w (w145.heap.size) (.cells #[.int .u8 1] 5)) w' ∧ (fun w' => (Blk w (w5.heap.size) (.cells #[.int .u8 2] 5)) w' ∧ (fun w' => w'.cell? ⟨w.heap.size, 0, none⟩ = some (.int .u64 (q k0)) ∧ w'.cell? ⟨w.heap.size, 1, none⟩ = some (.int .u64 (q k1)) ∧ Box w k0 k1 49 49 w') w') w') (fun _ h => h.2) _ _ _ _ ?_
   replace hHeld := And.intro hnew hHeld
   clear hnew
   try dsimp only at hHeld
   refine' jT 3 rfl (by rfl) ?_ hHeld ?_
   rotate_left
   ·(intro w hSw; (try dsimp only at hSw); have cv := conv_1 hSw.1.2; go_simp; (try rw [if_neg (by omega)]); try with_reducible rfl)
   try simp only [jX, jD, jE, jF]
   refine' jT 4 rfl (by rfl) ?_ hHeld ?_
   rotate_left
   ·(intro w hSw; (try dsimp only at hSw); go_simp; (try rw [if_neg (by omega)]); try with_reducible rfl)
   try simp only [jX, jD, jE, jF]
   refine jR [6] ?_
   refine jG rfl (fun K hK => ?_) (AllReadyH.nil)
   try simp only [jD, jE, jF]
   go_simp
   refine (HP.out _).mono ?_
   rintro e w147 ⟨rfl, hg⟩
   have KP := hid (And.intro (Blk.grown hHeld.1 hg) (And.intro (Blk.grown hHeld.2.1 hg) ((Box.keep (Box.grown (box_box hHeld.2.2) hg)))))
   clear hHeld hg
   go_wp2_with fail
   refine hK.out _ _ KP.out (fun hHeld => ?_)
   clear KP hK K
   try dsimp only at hHeld
   try simp only [jX, jD, jE, jF]
   refine' jT 7 rfl (by rfl) ?_ hHeld ?_
   rotate_left
   ·(intro w hSw; (try dsimp only at hSw); go_simp; (try rw [if_neg (by omega)]); try with_reducible rfl)
   try simp only [jX, jD, jE, jF]
   refine jR [8] ?_
   refine jG rfl (fun K hK => ?_) (AllReadyH.nil)
   try simp only [jD, jE, jF]
   go_simp
   refine (C0.out _).mono ?_
   rintro e w148 ⟨rfl, hg⟩
   have KP := hid (And.intro (Blk.grown hHeld.1 hg) (And.intro (Blk.grown hHeld.2.1 hg) ((Box.keep (Box.grown (box_box hHeld.2.2) hg)))))
   clear hHeld hg
   go_wp2_with fail
   refine hK.out _ _ KP.out (fun hHeld => ?_)
   clear KP hK K
   try dsimp only at hHeld
   try simp only [jX, jD, jE, jF]
   refine jR [15] ?_
   refine jG rfl (fun K hK => ?_) (AllReadyH.nil)
   try simp only [jD, jE, jF]
   go_simp
   refine (HP.out _).mono ?_
   rintro e w149 ⟨rfl, hg⟩
   have KP := hid (And.intro (Blk.grown hHeld.1 hg) (And.intro (Blk.grown hHeld.2.1 hg) ((Box.keep (Box.grown (box_box hHeld.2.2) hg)))))
   clear hHeld hg
   go_wp2_with fail
   refine hK.out _ _ KP.out (fun hHeld => ?_)
   clear KP hK K
   try dsimp only at hHeld
   try simp only [jX, jD, jE, jF]
   refine' jT 16 rfl (by rfl) ?_ hHeld ?_
   rotate_left
   ·(intro w hSw; (try dsimp only at hSw); go_simp; (try rw [if_neg (by omega)]); try with_reducible rfl)
   try simp only [jX, jD, jE, jF]
   refine jR [17] ?_
   refine jG rfl (fun K hK => ?_) (AllReadyH.nil)
   try simp only [jD, jE, jF]
   go_simp
   refine (C1.out _).mono ?_
   rintro e w150 ⟨rfl, hg⟩
   have KP := hid (And.intro (Blk.grown hHeld.1 hg) (And.intro (Blk.grown hHeld.2.1 hg) ((Box.keep (Box.grown (box_box hHeld.2.2) hg)))))
   clear hHeld hg
   go_wp2_with fail
   refine hK.out _ _ KP.out (fun hHeld => ?_)
   clear KP hK K
   try dsimp only at hHeld
   try simp only [jX, jD, jE, jF]
   refine' jT 18 rfl (by rfl) ?_ hHeld ?_
   rotate_left
   ·(intro w hSw; (try dsimp only at hSw); go_simp; (try rw [if_neg (by omega)]); try with_reducible rfl)
   try simp only [jX, jD, jE, jF]
   refine jR [19] ?_
   refine jG rfl (fun K hK => ?_) (AllReadyH.nil)
   try simp only [jD, jE, jF]
   have hB := box_box hHeld.2.2
   obtain ⟨x, y, c0, c1, f0, f1⟩ := box_ans hHeld.2.2 (.refl w150 none)
   have KP := hid (And.intro (Blk.set1 (Blk.set0 hHeld.1 (.int .u64 (q a))) (.int .u64 (q b))) (And.intro (Blk.set1 (Blk.set0 hHeld.2.1 (.int .u64 (q a))) (.int .u64 (q b))) ((Box.keep (Box.set1 (Box.set0 (box_box hHeld.2.2) (.int .u64 (q a))) (.int .u64 (q b)))))))
   clear hHeld
   go_simp
   refine hK.out _ _ KP.out (fun hHeld => ?_)
   clear KP hK K
   try simp only [jX, jD, jE, jF]
   refine wpAnyH_done (by kernel_rfl) ?_ _
   have hst := hB.store (.int .u64 (q a)) (.int .u64 (q b))
   clear hB c0 c1 f0 f1 hHeld
   generalize (w150.setCell ⟨w.heap.size + 1, 0, none⟩ (.int .u64 (q a))).setCell ⟨w.heap.size + 1, 1, none⟩ (.int .u64 (q b)) = wx at hst ⊢
   obtain ⟨d0, d1⟩ := pair_cells hst.1
   go_wp2_with fail
   exact bodyPost_ret (v := pair a b) (by simp [results, Tryz.results51, go_sem, d0, d1]) rfl ⟨rfl, hst.2⟩
  ·try simp only [jD, jE, jF]
   go_simp
   refine (HP.out _).mono ?_
   rintro e w152 ⟨rfl, hg⟩
   have KP := hid (And.intro (Blk.grown hHeld.1 hg) ((Box.keep (Box.grown (box_box hHeld.2) hg))))
   clear hHeld hg
   go_wp2_with fail
   refine hK.out _ _ KP.out (fun hHeld => ?_)
   clear KP hK K
   try dsimp only at hHeld
   try simp only [jX, jD, jE, jF]
   refine jR [2] ?_
   refine jG rfl (fun K hK => ?_) (AllReadyH.nil)
   try simp only [jD, jE, jF]
   have KP := hid (And.intro (Blk.grown hHeld.1 (World.grownBy_alloc w152 (.cells #[.int .u8 1] 5) none)) ((Box.keep (Box.grown (box_box hHeld.2) (World.grownBy_alloc w152 (.cells #[.int .u8 1] 5) none)))))
   have hnew := (⟨Box.size (box_box hHeld.2), at_new w152 _⟩ : (Blk w (w152.heap.size) (.cells #[.int .u8 1] 5)) (w152.alloc (.cells #[.int .u8 1] 5)))
   clear hHeld
   go_simp
   refine hK.out _ _ KP.out (fun hHeld => ?_)
   clear KP hK K
   try dsimp only at hHeld hnew
   generalize w152.alloc (.cells #[.int .u8 1] 5) = w153 at hHeld hnew ⊢
   try simp only [jX, jD, jE, jF]
   refine held_stronger (S' := fun w' => (Blk w (w152.heap.size) (.cells #[.int .u8 1] 5)) w' ∧ (fun w' => (Blk w (w5.heap.size) (.cells #[.int .u8 2] 5)) w' ∧ (fun w' => w'.cell? ⟨w.heap.size, 0, none⟩ = some (.int .u64 (q k0)) ∧ w'.cell? ⟨w.heap.size, 1, none⟩ = some (.int .u64 (q k1)) ∧ Box w k0 k1 49 49 w') w') w') (fun _ h => h.2) _ _ _ _ ?_
   replace hHeld := And.intro hnew hHeld
   clear hnew
   try dsimp only at hHeld
   refine' jT 3 rfl (by rfl) ?_ hHeld ?_
   rotate_left
   ·(intro w hSw; (try dsimp only at hSw); have cv := conv_1 hSw.1.2; go_simp; (try rw [if_neg (by omega)]); try with_reducible rfl)
   try simp only [jX, jD, jE, jF]
   refine' jT 4 rfl (by rfl) ?_ hHeld ?_
   rotate_left
   ·(intro w hSw; (try dsimp only at hSw); go_simp; (try rw [if_neg (by omega)]); try with_reducible rfl)
   try simp only [jX, jD, jE, jF]
   refine' jT 7 rfl (by rfl) ?_ hHeld ?_
   rotate_left
   ·(intro w hSw; (try dsimp only at hSw); go_simp; (try rw [if_neg (by omega)]); try with_reducible rfl)
   try simp only [jX, jD, jE, jF]
   refine jR [8] ?_
   refine jG rfl (fun K hK => ?_) (AllReadyH.nil)
   try simp only [jD, jE, jF]
   go_simp
   refine (C0.out _).mono ?_
   rintro e w154 ⟨rfl, hg⟩
   have KP := hid (And.intro (Blk.grown hHeld.1 hg) (And.intro (Blk.grown hHeld.2.1 hg) ((Box.keep (Box.grown (box_box hHeld.2.2) hg)))))
   clear hHeld hg
   go_wp2_with fail
   refine hK.out _ _ KP.out (fun hHeld => ?_)
   clear KP hK K
   try dsimp only at hHeld
   try simp only [jX, jD, jE, jF]
   refine jR [15] ?_
   refine jG rfl (fun K hK => ?_) (AllReadyH.nil)
   try simp only [jD, jE, jF]
   go_simp
   refine (HP.out _).mono ?_
   rintro e w155 ⟨rfl, hg⟩
   have KP := hid (And.intro (Blk.grown hHeld.1 hg) (And.intro (Blk.grown hHeld.2.1 hg) ((Box.keep (Box.grown (box_box hHeld.2.2) hg)))))
   clear hHeld hg
   go_wp2_with fail
   refine hK.out _ _ KP.out (fun hHeld => ?_)
   clear KP hK K
   try dsimp only at hHeld
   try simp only [jX, jD, jE, jF]
   refine' jT 16 rfl (by rfl) ?_ hHeld ?_
   rotate_left
   ·(intro w hSw; (try dsimp only at hSw); go_simp; (try rw [if_neg (by omega)]); try with_reducible rfl)
   try simp only [jX, jD, jE, jF]
   refine jR [17] ?_
   refine jG rfl (fun K hK => ?_) (AllReadyH.nil)
   try simp only [jD, jE, jF]
   go_simp
   refine (C1.out _).mono ?_
   rintro e w156 ⟨rfl, hg⟩
   have KP := hid (And.intro (Blk.grown hHeld.1 hg) (And.intro (Blk.grown hHeld.2.1 hg) ((Box.keep (Box.grown (box_box hHeld.2.2) hg)))))
   clear hHeld hg
   go_wp2_with fail
   refine hK.out _ _ KP.out (fun hHeld => ?_)
   clear KP hK K
   try dsimp only at hHeld
   try simp only [jX, jD, jE, jF]
   refine' jT 18 rfl (by rfl) ?_ hHeld ?_
   rotate_left
   ·(intro w hSw; (try dsimp only at hSw); go_simp; (try rw [if_neg (by omega)]); try with_reducible rfl)
   try simp only [jX, jD, jE, jF]
   refine jR [19] ?_
   refine jG rfl (fun K hK => ?_) (AllReadyH.nil)
   try simp only [jD, jE, jF]
   have hB := box_box hHeld.2.2
   obtain ⟨x, y, c0, c1, f0, f1⟩ := box_ans hHeld.2.2 (.refl w156 none)
   have KP := hid (And.intro (Blk.set1 (Blk.set0 hHeld.1 (.int .u64 (q a))) (.int .u64 (q b))) (And.intro (Blk.set1 (Blk.set0 hHeld.2.1 (.int .u64 (q a))) (.int .u64 (q b))) ((Box.keep (Box.set1 (Box.set0 (box_box hHeld.2.2) (.int .u64 (q a))) (.int .u64 (q b)))))))
   clear hHeld
   go_simp
   refine hK.out _ _ KP.out (fun hHeld => ?_)
   clear KP hK K
   try simp only [jX, jD, jE, jF]
   refine wpAnyH_done (by kernel_rfl) ?_ _
   have hst := hB.store (.int .u64 (q a)) (.int .u64 (q b))
   clear hB c0 c1 f0 f1 hHeld
   generalize (w156.setCell ⟨w.heap.size + 1, 0, none⟩ (.int .u64 (q a))).setCell ⟨w.heap.size + 1, 1, none⟩ (.int .u64 (q b)) = wx at hst ⊢
   obtain ⟨d0, d1⟩ := pair_cells hst.1
   go_wp2_with fail
   exact bodyPost_ret (v := pair a b) (by simp [results, Tryz.results51, go_sem, d0, d1]) rfl ⟨rfl, hst.2⟩
end Go.Proofs.YtgpdcapnnejdeaaGreat
