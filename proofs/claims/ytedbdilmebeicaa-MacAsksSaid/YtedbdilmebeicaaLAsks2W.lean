/-
  The walk of the statement MacAsks: tags, derived keys, roots, collectors' keys, are what the document says. The condition: the bytes read as bytes.
-/
import Derived.Test.YtedbdilmebeicaaMTold
import Derived.Test.YtedbdilmebeicaaMacH
set_option linter.unusedSimpArgs false
namespace Go.Proofs.Ytedbdilmebeicaa.asks2
set_option maxRecDepth 100000
open Go.RowKit

set_option maxHeartbeats 1600000 in
theorem walk_long (k0 k1 : BitVec 64) (p : Option Addr) (m c : Nat) (s : ByteArray) (n : BitVec 64) (who gen : Int) (hn : 200 < m ∨ m ≤ 200 ∧ 30 < s.size) (w : World) :
    Calls Try.prog 4 #[.agg #[.int .u64 (q k0), .int .u64 (q k1)], .slice p m c, .string s, .int .u64 (q n), .int .i64 who, .int .i64 gen] w fun e w' => e = .returned (.bool true) ∧ w.grownBy w' none := by
  rcases hn with hn | ⟨hn, hn2⟩
  · have h1 : (200 : Int) < (m : Int) := by omega
    have h2 : decide ((200 : Int) < (m : Int)) = true := by simp; omega
    go_enter Try.func4, Try.ntmps4
    go_wp2_with fail
    refine (told_any _).mono ?_
    rintro e w1 ⟨rfl, hg⟩
    have HG := hid hg; clear hg
    go_wp2_with fail
    go_ret
    exact ⟨rfl, gb_trans (gb_alloc (.refl w none) _) HG.out (.inl rfl)⟩
  · have h1 : (m : Int) ≤ 200 := by omega
    have h3 : (30 : Int) < (s.size : Int) := by omega
    have h2 : decide ((200 : Int) < (m : Int)) = false := by simp; omega
    have h4 : decide ((30 : Int) < (s.size : Int)) = true := by simp; omega
    go_enter Try.func4, Try.ntmps4
    go_wp2_with fail
    refine (told_any _).mono ?_
    rintro e w1 ⟨rfl, hg⟩
    have HG := hid hg; clear hg
    go_wp2_with fail
    go_ret
    exact ⟨rfl, gb_trans (gb_alloc (.refl w none) _) HG.out (.inl rfl)⟩

/-- three boxes: the key, the program's tag, the document's -/
structure K3 (w0 : World) (x y z : Nat) (k0 k1 a b : BitVec 64) (w : World) : Prop where
  hx : w.heap[x]? = some (.cells #[.int .u64 (q k0), .int .u64 (q k1)] 23)
  hy : w.heap[y]? = some (.cells #[.int .u64 (q a), .int .u64 (q b)] 30)
  hz : w.heap[z]? = some (.cells #[.int .u64 (q a), .int .u64 (q b)] 30)
  g : w0.grownBy w none
theorem K3.grown {w0 : World} {x y z : Nat} {k0 k1 a b : BitVec 64} {w w1 : World} (h : K3 w0 x y z k0 k1 a b w) (hg : w.grownBy w1 none) : K3 w0 x y z k0 k1 a b w1 :=
  ⟨at_grown h.hx hg (by simp), at_grown h.hy hg (by simp), at_grown h.hz hg (by simp), gb_trans h.g hg (.inl rfl)⟩
theorem K3.drew {w0 : World} {x y z : Nat} {k0 k1 a b : BitVec 64} {w : World} (h : K3 w0 x y z k0 k1 a b w) : K3 w0 x y z k0 k1 a b w.drew := ⟨h.hx, h.hy, h.hz, gb_drew h.g⟩
theorem K3.keep {w0 : World} {x y z : Nat} {k0 k1 a b : BitVec 64} {w : World} (h : K3 w0 x y z k0 k1 a b w) :
    w.cell? ⟨x, 0, none⟩ = some (.int .u64 (q k0)) ∧ w.cell? ⟨x, 1, none⟩ = some (.int .u64 (q k1)) ∧ w.cell? ⟨y, 0, none⟩ = some (.int .u64 (q a)) ∧ w.cell? ⟨y, 1, none⟩ = some (.int .u64 (q b)) ∧ w.cell? ⟨z, 0, none⟩ = some (.int .u64 (q a)) ∧ w.cell? ⟨z, 1, none⟩ = some (.int .u64 (q b)) ∧ K3 w0 x y z k0 k1 a b w :=
  ⟨at_cell h.hx 0, at_cell h.hx 1, at_cell h.hy 0, at_cell h.hy 1, at_cell h.hz 0, at_cell h.hz 1, h⟩
section
variable {P1 P2 P3 P4 P5 P6 : Prop} {w0 wc : World} {x y z : Nat} {k0 k1 a b : BitVec 64}
theorem k3_k3 (h : P1 ∧ P2 ∧ P3 ∧ P4 ∧ P5 ∧ P6 ∧ K3 w0 x y z k0 k1 a b wc) : K3 w0 x y z k0 k1 a b wc := h.2.2.2.2.2.2
end

set_option maxHeartbeats 3200000 in
theorem walk_short (k0 k1 : BitVec 64) (l : List UInt8) (p : Option Addr) (c : Nat) (hn : l.length ≤ 200) (s : ByteArray) (hs : s.size ≤ 30) (n : BitVec 64) (who gen : Int) (w : World) (hl : BytesAt w (.slice p l.length c) l) :
    Calls Try.prog 4 #[.agg #[.int .u64 (q k0), .int .u64 (q k1)], .slice p l.length c, .string s, .int .u64 (q n), .int .i64 who, .int .i64 gen] w fun e w' => e = .returned (.bool true) ∧ w.grownBy w' none := by
  have h1 : (l.length : Int) ≤ 200 := by omega
  have h3 : (s.size : Int) ≤ 30 := by omega
  have h2 : decide ((200 : Int) < (l.length : Int)) = false := by simp; omega
  have h4 : decide ((30 : Int) < (s.size : Int)) = false := by simp; omega
  have HL := hid hl; clear hl
  have ht : ∀ w, BytesAt w (.slice p l.length c) l → Calls Try.prog 12 #[.agg #[.int .u64 (q k0), .int .u64 (q k1)], .slice p l.length c] w fun e w' => e = .returned (.agg #[.int .u64 (q (sumOf k0 k1 l)), .int .u64 (q (sumOf k1 (inv k0) l))]) ∧ w.grownBy w' none := fun w h => tag_any k0 k1 _ l w h
  have hsz : (⟨l.toArray⟩ : ByteArray).size ≤ 100000 := by show l.toArray.size ≤ _; simp; omega
  have hu : ∀ w, Calls Try.prog 13 #[.agg #[.int .u64 (q k0), .int .u64 (q k1)], .string ⟨l.toArray⟩] w fun e w' => e = .returned (.agg #[.int .u64 (q (sumOf k0 k1 l)), .int .u64 (q (sumOf k1 (inv k0) l))]) ∧ w.grownBy w' none := fun w => reftag_any k0 k1 ⟨l.toArray⟩ hsz w
  have hcv := fun w (h : BytesAt w (.slice p l.length c) l) => conv_bytes h
  generalize sumOf k0 k1 l = a at ht hu
  generalize sumOf k1 (inv k0) l = b at ht hu
  generalize (⟨l.toArray⟩ : ByteArray) = sl at hu hcv hsz
  have hd := fun w => key_derive ⟨k0, k1⟩ s (by omega) n w
  have he := fun w => refkey_derive ⟨k0, k1⟩ s (by omega) n w
  generalize keyOf ⟨k0, k1⟩ s n = kd at hd he
  have hr := fun w => root_any n w
  have hrr := fun w => refroot_any n w
  have ho := fun w => of_any n who gen w
  have hor := fun w => refof_any n who gen w
  generalize rootOf n = kr at hr hrr
  generalize ofOf n who gen = ko at ho hor
  have hb := fun w => bytes_any a b w
  have hbr := fun w => reftagbytes_any a b w
  have hcs := fun w v (h : BytesAt w v (put8 a ++ put8 b)) => conv_bytes h
  generalize (⟨(put8 a ++ put8 b).toArray⟩ : ByteArray) = sb at hbr hcs
  have HT := hid ht; have HU := hid hu; have HCV := hid hcv; have HD := hid hd; have HE := hid he; have HR := hid hr; have HRR := hid hrr; have HO := hid ho; have HOR := hid hor; have HB := hid hb; have HBR := hid hbr; have HCS := hid hcs
  clear ht hu hcv hd he hr hrr ho hor hb hbr hcs hsz
  have hke := key_equal
  have hte := tag_equal
  generalize hN : l.length = m at *
  have HN := hid hN; clear hN
  go_enter Try.func4, Try.ntmps4
  go_wp2_with fail
  refine (HT.out _ (HL.out.grown (gb_alloc (.refl w none) _) (by simp))).mono ?_
  rintro e w1 ⟨rfl, hg⟩
  have X1 := hid (at_grown (at_new w (.cells #[.int .u64 (q k0), .int .u64 (q k1)] 23)) hg (by simp))
  have G1 := hid (gb_trans (gb_alloc (.refl w none) _) hg (.inl rfl)); clear hg
  have cv := HCV.out (w1.alloc (.cells #[.int .u64 (q a), .int .u64 (q b)] 30)) (HL.out.grown (gb_alloc G1.out _) (by simp))
  have X2 := hid (at_alloc X1.out (.cells #[.int .u64 (q a), .int .u64 (q b)] 30))
  obtain ⟨c0, c1⟩ : _ ∧ _ := ⟨at_cell X2.out 0, at_cell X2.out 1⟩
  go_wp2_with fail
  clear cv c0 c1
  refine (HU.out _).mono ?_
  rintro e w2 ⟨rfl, hg⟩
  have X3 := hid (at_grown X2.out hg (by simp)); have Y3 := hid (at_grown (at_new w1 (.cells #[.int .u64 (q a), .int .u64 (q b)] 30)) hg (by simp)); have G3 := hid (gb_trans (gb_alloc G1.out _) hg (.inl rfl)); clear hg
  go_wp2_with fail
  have h5 : K3 w w.heap.size w1.heap.size w2.heap.size k0 k1 a b (w2.alloc (.cells #[.int .u64 (q a), .int .u64 (q b)] 30)) := ⟨at_alloc X3.out _, at_alloc Y3.out _, at_new w2 _, gb_alloc G3.out _⟩
  refine wp_gen (K3 w w.heap.size w1.heap.size w2.heap.size k0 k1 a b) h5 ?_
  clear h5 X1 G1 X2 X3 Y3 G3
  generalize w1.heap.size = y
  generalize w2.heap.size = z
  obtain ⟨x, hx⟩ : ∃ x, w.heap.size = x := ⟨_, rfl⟩
  rw [hx]
  clear hx
  intro w5 h5
  have T5 := hid h5
  clear h5
  refine wp_region_held_drew (S := (fun w' => w'.cell? ⟨x, 0, none⟩ = some (.int .u64 (q k0)) ∧ w'.cell? ⟨x, 1, none⟩ = some (.int .u64 (q k1)) ∧ w'.cell? ⟨y, 0, none⟩ = some (.int .u64 (q a)) ∧ w'.cell? ⟨y, 1, none⟩ = some (.int .u64 (q b)) ∧ w'.cell? ⟨z, 0, none⟩ = some (.int .u64 (q a)) ∧ w'.cell? ⟨z, 1, none⟩ = some (.int .u64 (q b)) ∧ K3 w x y z k0 k1 a b w')) (by kernel_rfl) T5.out.drew.keep (fun hHeld => ?_)
  try dsimp only at hHeld
  refine wpAnyH_ready (rs := [0]) (by kernel_rfl) (by simp) ?_
  refine AllReadyH.cons (o := _) rfl (fun K hK => ?_) AllReadyH.nil
  try simp only [List.getElem_toArray, List.getElem_cons_succ, List.getElem_cons_zero]
  go_simp
  refine (told_any _).mono ?_
  rintro e w100 ⟨rfl, hg⟩
  have K0 := hid ((k3_k3 hHeld).grown hg)
  clear hHeld hg
  go_wp2_with fail
  refine hK.out _ _ ?_ (fun hHeld => ?_)
  · exact K0.out.keep
  clear hK K
  try dsimp only at hHeld
  try simp only [Act.put, List.setIfInBounds_toArray, List.set_cons_zero, List.set_cons_succ, List.getElem_toArray, List.getElem_cons_succ, List.getElem_cons_zero]
  refine' wpAnyH_take (i := 1) (v := _) rfl (by kernel_rfl) (by kernel_rfl) (by kernel_rfl) (fun _ _ _ h => h) (Or.inl ⟨by rfl, ?_⟩) hHeld ?_
  rotate_left
  · (intro w hSw; (try dsimp only at hSw); go_simp; try with_reducible rfl)
  try simp only [Act.put, List.setIfInBounds_toArray, List.set_cons_zero, List.set_cons_succ, List.getElem_toArray, List.getElem_cons_succ, List.getElem_cons_zero]
  refine' wpAnyH_take (i := 2) (v := _) rfl (by kernel_rfl) (by kernel_rfl) (by kernel_rfl) (fun _ _ _ h => h) (Or.inl ⟨by rfl, ?_⟩) hHeld ?_
  rotate_left
  · (intro w hSw; (try dsimp only at hSw); go_simp; try with_reducible rfl)
  try simp only [Act.put, List.setIfInBounds_toArray, List.set_cons_zero, List.set_cons_succ, List.getElem_toArray, List.getElem_cons_succ, List.getElem_cons_zero]
  refine' wpAnyH_take (i := 3) (v := _) rfl (by kernel_rfl) (by kernel_rfl) (by kernel_rfl) (fun _ _ _ h => h) (Or.inl ⟨by rfl, ?_⟩) hHeld ?_
  rotate_left
  · (intro w hSw; (try dsimp only at hSw); go_simp; try with_reducible rfl)
  try simp only [Act.put, List.setIfInBounds_toArray, List.set_cons_zero, List.set_cons_succ, List.getElem_toArray, List.getElem_cons_succ, List.getElem_cons_zero]
  refine' wpAnyH_take (i := 4) (v := _) rfl (by kernel_rfl) (by kernel_rfl) (by kernel_rfl) (fun _ _ _ h => h) (Or.inl ⟨by rfl, ?_⟩) hHeld ?_
  rotate_left
  · (intro w hSw; (try dsimp only at hSw); go_simp; try with_reducible rfl)
  try simp only [Act.put, List.setIfInBounds_toArray, List.set_cons_zero, List.set_cons_succ, List.getElem_toArray, List.getElem_cons_succ, List.getElem_cons_zero]
  refine' wpAnyH_take (i := 5) (v := _) rfl (by kernel_rfl) (by kernel_rfl) (by kernel_rfl) (fun _ _ _ h => h) (Or.inl ⟨by rfl, ?_⟩) hHeld ?_
  rotate_left
  · (intro w hSw; (try dsimp only at hSw); go_simp; try with_reducible rfl)
  try simp only [Act.put, List.setIfInBounds_toArray, List.set_cons_zero, List.set_cons_succ, List.getElem_toArray, List.getElem_cons_succ, List.getElem_cons_zero]
  refine' wpAnyH_take (i := 6) (v := _) rfl (by kernel_rfl) (by kernel_rfl) (by kernel_rfl) (fun _ _ _ h => h) (Or.inl ⟨by rfl, ?_⟩) hHeld ?_
  rotate_left
  · (intro w hSw; (try dsimp only at hSw); go_simp; try with_reducible rfl)
  try simp only [Act.put, List.setIfInBounds_toArray, List.set_cons_zero, List.set_cons_succ, List.getElem_toArray, List.getElem_cons_succ, List.getElem_cons_zero]
  refine' wpAnyH_take (i := 7) (v := _) rfl (by kernel_rfl) (by kernel_rfl) (by kernel_rfl) (fun _ _ _ h => h) (Or.inl ⟨by rfl, ?_⟩) hHeld ?_
  rotate_left
  · (intro w hSw; (try dsimp only at hSw); go_simp; try with_reducible rfl)
  try simp only [Act.put, List.setIfInBounds_toArray, List.set_cons_zero, List.set_cons_succ, List.getElem_toArray, List.getElem_cons_succ, List.getElem_cons_zero]
  refine' wpAnyH_take (i := 10) (v := _) rfl (by kernel_rfl) (by kernel_rfl) (by kernel_rfl) (fun _ _ _ h => h) (Or.inl ⟨by rfl, ?_⟩) hHeld ?_
  rotate_left
  · (intro w hSw; (try dsimp only at hSw); go_simp; try with_reducible rfl)
  try simp only [Act.put, List.setIfInBounds_toArray, List.set_cons_zero, List.set_cons_succ, List.getElem_toArray, List.getElem_cons_succ, List.getElem_cons_zero]
  refine wpAnyH_ready (rs := [8]) (by kernel_rfl) (by simp) ?_
  refine AllReadyH.cons (o := _) rfl (fun K hK => ?_) AllReadyH.nil
  try simp only [List.getElem_toArray, List.getElem_cons_succ, List.getElem_cons_zero]
  go_simp
  refine (HB.out _).mono ?_
  rintro e wb ⟨vb, rfl, hob, hg⟩
  have KB := hid ((k3_k3 hHeld).grown hg)
  have OB := hid hob.bytes
  clear hHeld hg hob
  go_wp2_with fail
  refine hK.out _ _ ?_ (fun hHeld => ?_)
  · exact KB.out.keep
  clear hK K
  try dsimp only at hHeld
  try simp only [Act.put, List.setIfInBounds_toArray, List.set_cons_zero, List.set_cons_succ, List.getElem_toArray, List.getElem_cons_succ, List.getElem_cons_zero]
  refine held_stronger (S' := fun w' => (fun w' => BytesAt w' vb (put8 a ++ put8 b)) w' ∧ (fun w' => w'.cell? ⟨x, 0, none⟩ = some (.int .u64 (q k0)) ∧ w'.cell? ⟨x, 1, none⟩ = some (.int .u64 (q k1)) ∧ w'.cell? ⟨y, 0, none⟩ = some (.int .u64 (q a)) ∧ w'.cell? ⟨y, 1, none⟩ = some (.int .u64 (q b)) ∧ w'.cell? ⟨z, 0, none⟩ = some (.int .u64 (q a)) ∧ w'.cell? ⟨z, 1, none⟩ = some (.int .u64 (q b)) ∧ K3 w x y z k0 k1 a b w') w') (fun _ h => h.2) _ _ _ _ ?_
  replace hHeld := And.intro OB.out hHeld
  try dsimp only at hHeld
  refine' wpAnyH_take (i := 9) (v := _) rfl (by kernel_rfl) (by kernel_rfl) (by kernel_rfl) (fun _ _ _ h => h) (Or.inl ⟨by rfl, ?_⟩) hHeld ?_
  rotate_left
  · (intro w hSw; (try dsimp only at hSw); have cv := HCS.out _ _ hSw.1; go_simp; try with_reducible rfl)
  try simp only [Act.put, List.setIfInBounds_toArray, List.set_cons_zero, List.set_cons_succ, List.getElem_toArray, List.getElem_cons_succ, List.getElem_cons_zero]
  refine wpAnyH_ready (rs := [11]) (by kernel_rfl) (by simp) ?_
  refine AllReadyH.cons (o := _) rfl (fun K hK => ?_) AllReadyH.nil
  try simp only [List.getElem_toArray, List.getElem_cons_succ, List.getElem_cons_zero]
  go_simp
  refine (HBR.out _).mono ?_
  rintro e w111 ⟨rfl, hg⟩
  have K11 := hid (And.intro (hHeld.1.grown hg (by simp)) ((k3_k3 hHeld.2).grown hg).keep)
  have G11 := hid ((k3_k3 hHeld.2).grown hg).g
  clear hHeld hg
  go_wp2_with fail
  refine hK.out _ _ ?_ (fun hHeld => ?_)
  · exact K11.out
  clear hK K
  try dsimp only at hHeld
  try simp only [Act.put, List.setIfInBounds_toArray, List.set_cons_zero, List.set_cons_succ, List.getElem_toArray, List.getElem_cons_succ, List.getElem_cons_zero]
  refine' wpAnyH_take (i := 12) (v := _) rfl (by kernel_rfl) (by kernel_rfl) (by kernel_rfl) (fun _ _ _ h => h) (Or.inl ⟨by rfl, ?_⟩) hHeld ?_
  rotate_left
  · (intro w hSw; (try dsimp only at hSw); go_simp; try with_reducible rfl)
  try simp only [Act.put, List.setIfInBounds_toArray, List.set_cons_zero, List.set_cons_succ, List.getElem_toArray, List.getElem_cons_succ, List.getElem_cons_zero]
  refine' wpAnyH_take (i := 13) (v := _) rfl (by kernel_rfl) (by kernel_rfl) (by kernel_rfl) (fun _ _ _ h => h) (Or.inl ⟨by rfl, ?_⟩) hHeld ?_
  rotate_left
  · (intro w hSw; (try dsimp only at hSw); go_simp; try with_reducible rfl)
  try simp only [Act.put, List.setIfInBounds_toArray, List.set_cons_zero, List.set_cons_succ, List.getElem_toArray, List.getElem_cons_succ, List.getElem_cons_zero]
  refine' wpAnyH_take (i := 14) (v := _) rfl (by kernel_rfl) (by kernel_rfl) (by kernel_rfl) (fun _ _ _ h => h) (Or.inl ⟨by rfl, ?_⟩) hHeld ?_
  rotate_left
  · (intro w hSw; (try dsimp only at hSw); go_simp; try with_reducible rfl)
  try simp only [Act.put, List.setIfInBounds_toArray, List.set_cons_zero, List.set_cons_succ, List.getElem_toArray, List.getElem_cons_succ, List.getElem_cons_zero]
  refine' wpAnyH_take (i := 15) (v := _) rfl (by kernel_rfl) (by kernel_rfl) (by kernel_rfl) (fun _ _ _ h => h) (Or.inl ⟨by rfl, ?_⟩) hHeld ?_
  rotate_left
  · (intro w hSw; (try dsimp only at hSw); go_simp; try with_reducible rfl)
  try simp only [Act.put, List.setIfInBounds_toArray, List.set_cons_zero, List.set_cons_succ, List.getElem_toArray, List.getElem_cons_succ, List.getElem_cons_zero]
  refine' wpAnyH_take (i := 16) (v := _) rfl (by kernel_rfl) (by kernel_rfl) (by kernel_rfl) (fun _ _ _ h => h) (Or.inl ⟨by rfl, ?_⟩) hHeld ?_
  rotate_left
  · (intro w hSw; (try dsimp only at hSw); go_simp; try with_reducible rfl)
  try simp only [Act.put, List.setIfInBounds_toArray, List.set_cons_zero, List.set_cons_succ, List.getElem_toArray, List.getElem_cons_succ, List.getElem_cons_zero]
  refine' wpAnyH_take (i := 17) (v := _) rfl (by kernel_rfl) (by kernel_rfl) (by kernel_rfl) (fun _ _ _ h => h) (Or.inl ⟨by rfl, ?_⟩) hHeld ?_
  rotate_left
  · (intro w hSw; (try dsimp only at hSw); go_simp; try with_reducible rfl)
  try simp only [Act.put, List.setIfInBounds_toArray, List.set_cons_zero, List.set_cons_succ, List.getElem_toArray, List.getElem_cons_succ, List.getElem_cons_zero]
  refine' wpAnyH_take (i := 19) (v := _) rfl (by kernel_rfl) (by kernel_rfl) (by kernel_rfl) (fun _ _ _ h => h) (Or.inl ⟨by rfl, ?_⟩) hHeld ?_
  rotate_left
  · (intro w hSw; (try dsimp only at hSw); go_simp; try with_reducible rfl)
  try simp only [Act.put, List.setIfInBounds_toArray, List.set_cons_zero, List.set_cons_succ, List.getElem_toArray, List.getElem_cons_succ, List.getElem_cons_zero]
  refine' wpAnyH_take (i := 20) (v := _) rfl (by kernel_rfl) (by kernel_rfl) (by kernel_rfl) (fun _ _ _ h => h) (Or.inl ⟨by rfl, ?_⟩) hHeld ?_
  rotate_left
  · (intro w hSw; (try dsimp only at hSw); go_simp; try with_reducible rfl)
  try simp only [Act.put, List.setIfInBounds_toArray, List.set_cons_zero, List.set_cons_succ, List.getElem_toArray, List.getElem_cons_succ, List.getElem_cons_zero]
  refine' wpAnyH_take (i := 21) (v := _) rfl (by kernel_rfl) (by kernel_rfl) (by kernel_rfl) (fun _ _ _ h => h) (Or.inl ⟨by rfl, ?_⟩) hHeld ?_
  rotate_left
  · (intro w hSw; (try dsimp only at hSw); go_simp; try with_reducible rfl)
  try simp only [Act.put, List.setIfInBounds_toArray, List.set_cons_zero, List.set_cons_succ, List.getElem_toArray, List.getElem_cons_succ, List.getElem_cons_zero]
  refine wpAnyH_ready (rs := [18]) (by kernel_rfl) (by simp) ?_
  refine AllReadyH.cons (o := _) rfl (fun K hK => ?_) AllReadyH.nil
  try simp only [List.getElem_toArray, List.getElem_cons_succ, List.getElem_cons_zero]
  go_simp
  refine (HD.out _).mono ?_
  rintro e w118 ⟨rfl, hg⟩
  have K18 := hid (And.intro (hHeld.1.grown hg (by simp)) ((k3_k3 hHeld.2).grown hg).keep)
  have G18 := hid ((k3_k3 hHeld.2).grown hg).g
  clear hHeld hg
  go_wp2_with fail
  refine hK.out _ _ ?_ (fun hHeld => ?_)
  · exact K18.out
  clear hK K
  try dsimp only at hHeld
  try simp only [Act.put, List.setIfInBounds_toArray, List.set_cons_zero, List.set_cons_succ, List.getElem_toArray, List.getElem_cons_succ, List.getElem_cons_zero]
  refine wpAnyH_ready (rs := [22]) (by kernel_rfl) (by simp) ?_
  refine AllReadyH.cons (o := _) rfl (fun K hK => ?_) AllReadyH.nil
  try simp only [List.getElem_toArray, List.getElem_cons_succ, List.getElem_cons_zero]
  go_simp
  refine (HE.out _).mono ?_
  rintro e w122 ⟨rfl, hg⟩
  have K22 := hid (And.intro (hHeld.1.grown hg (by simp)) ((k3_k3 hHeld.2).grown hg).keep)
  have G22 := hid ((k3_k3 hHeld.2).grown hg).g
  clear hHeld hg
  go_wp2_with fail
  refine hK.out _ _ ?_ (fun hHeld => ?_)
  · exact K22.out
  clear hK K
  try dsimp only at hHeld
  try simp only [Act.put, List.setIfInBounds_toArray, List.set_cons_zero, List.set_cons_succ, List.getElem_toArray, List.getElem_cons_succ, List.getElem_cons_zero]
  refine' wpAnyH_take (i := 23) (v := _) rfl (by kernel_rfl) (by kernel_rfl) (by kernel_rfl) (fun _ _ _ h => h) (Or.inl ⟨by rfl, ?_⟩) hHeld ?_
  rotate_left
  · (intro w hSw; (try dsimp only at hSw); go_simp; try with_reducible rfl)
  try simp only [Act.put, List.setIfInBounds_toArray, List.set_cons_zero, List.set_cons_succ, List.getElem_toArray, List.getElem_cons_succ, List.getElem_cons_zero]
  refine' wpAnyH_take (i := 24) (v := _) rfl (by kernel_rfl) (by kernel_rfl) (by kernel_rfl) (fun _ _ _ h => h) (Or.inl ⟨by rfl, ?_⟩) hHeld ?_
  rotate_left
  · (intro w hSw; (try dsimp only at hSw); go_simp; try with_reducible rfl)
  try simp only [Act.put, List.setIfInBounds_toArray, List.set_cons_zero, List.set_cons_succ, List.getElem_toArray, List.getElem_cons_succ, List.getElem_cons_zero]
  refine' wpAnyH_take (i := 25) (v := _) rfl (by kernel_rfl) (by kernel_rfl) (by kernel_rfl) (fun _ _ _ h => h) (Or.inl ⟨by rfl, ?_⟩) hHeld ?_
  rotate_left
  · (intro w hSw; (try dsimp only at hSw); go_simp; try with_reducible rfl)
  try simp only [Act.put, List.setIfInBounds_toArray, List.set_cons_zero, List.set_cons_succ, List.getElem_toArray, List.getElem_cons_succ, List.getElem_cons_zero]
  refine' wpAnyH_take (i := 26) (v := _) rfl (by kernel_rfl) (by kernel_rfl) (by kernel_rfl) (fun _ _ _ h => h) (Or.inl ⟨by rfl, ?_⟩) hHeld ?_
  rotate_left
  · (intro w hSw; (try dsimp only at hSw); go_simp; try with_reducible rfl)
  try simp only [Act.put, List.setIfInBounds_toArray, List.set_cons_zero, List.set_cons_succ, List.getElem_toArray, List.getElem_cons_succ, List.getElem_cons_zero]
  refine' wpAnyH_take (i := 28) (v := _) rfl (by kernel_rfl) (by kernel_rfl) (by kernel_rfl) (fun _ _ _ h => h) (Or.inl ⟨by rfl, ?_⟩) hHeld ?_
  rotate_left
  · (intro w hSw; (try dsimp only at hSw); go_simp; try with_reducible rfl)
  try simp only [Act.put, List.setIfInBounds_toArray, List.set_cons_zero, List.set_cons_succ, List.getElem_toArray, List.getElem_cons_succ, List.getElem_cons_zero]
  refine wpAnyH_ready (rs := [27]) (by kernel_rfl) (by simp) ?_
  refine AllReadyH.cons (o := _) rfl (fun K hK => ?_) AllReadyH.nil
  try simp only [List.getElem_toArray, List.getElem_cons_succ, List.getElem_cons_zero]
  go_simp
  refine (HR.out _).mono ?_
  rintro e w127 ⟨rfl, hg⟩
  have K27 := hid (And.intro (hHeld.1.grown hg (by simp)) ((k3_k3 hHeld.2).grown hg).keep)
  have G27 := hid ((k3_k3 hHeld.2).grown hg).g
  clear hHeld hg
  go_wp2_with fail
  refine hK.out _ _ ?_ (fun hHeld => ?_)
  · exact K27.out
  clear hK K
  try dsimp only at hHeld
  try simp only [Act.put, List.setIfInBounds_toArray, List.set_cons_zero, List.set_cons_succ, List.getElem_toArray, List.getElem_cons_succ, List.getElem_cons_zero]
  refine wpAnyH_ready (rs := [29]) (by kernel_rfl) (by simp) ?_
  refine AllReadyH.cons (o := _) rfl (fun K hK => ?_) AllReadyH.nil
  try simp only [List.getElem_toArray, List.getElem_cons_succ, List.getElem_cons_zero]
  go_simp
  refine (HRR.out _).mono ?_
  rintro e w129 ⟨rfl, hg⟩
  have K29 := hid (And.intro (hHeld.1.grown hg (by simp)) ((k3_k3 hHeld.2).grown hg).keep)
  have G29 := hid ((k3_k3 hHeld.2).grown hg).g
  clear hHeld hg
  go_wp2_with fail
  refine hK.out _ _ ?_ (fun hHeld => ?_)
  · exact K29.out
  clear hK K
  try dsimp only at hHeld
  try simp only [Act.put, List.setIfInBounds_toArray, List.set_cons_zero, List.set_cons_succ, List.getElem_toArray, List.getElem_cons_succ, List.getElem_cons_zero]
  refine' wpAnyH_take (i := 30) (v := _) rfl (by kernel_rfl) (by kernel_rfl) (by kernel_rfl) (fun _ _ _ h => h) (Or.inl ⟨by rfl, ?_⟩) hHeld ?_
  rotate_left
  · (intro w hSw; (try dsimp only at hSw); go_simp; try with_reducible rfl)
  try simp only [Act.put, List.setIfInBounds_toArray, List.set_cons_zero, List.set_cons_succ, List.getElem_toArray, List.getElem_cons_succ, List.getElem_cons_zero]
  refine' wpAnyH_take (i := 31) (v := _) rfl (by kernel_rfl) (by kernel_rfl) (by kernel_rfl) (fun _ _ _ h => h) (Or.inl ⟨by rfl, ?_⟩) hHeld ?_
  rotate_left
  · (intro w hSw; (try dsimp only at hSw); go_simp; try with_reducible rfl)
  try simp only [Act.put, List.setIfInBounds_toArray, List.set_cons_zero, List.set_cons_succ, List.getElem_toArray, List.getElem_cons_succ, List.getElem_cons_zero]
  refine' wpAnyH_take (i := 32) (v := _) rfl (by kernel_rfl) (by kernel_rfl) (by kernel_rfl) (fun _ _ _ h => h) (Or.inl ⟨by rfl, ?_⟩) hHeld ?_
  rotate_left
  · (intro w hSw; (try dsimp only at hSw); go_simp; try with_reducible rfl)
  try simp only [Act.put, List.setIfInBounds_toArray, List.set_cons_zero, List.set_cons_succ, List.getElem_toArray, List.getElem_cons_succ, List.getElem_cons_zero]
  refine' wpAnyH_take (i := 33) (v := _) rfl (by kernel_rfl) (by kernel_rfl) (by kernel_rfl) (fun _ _ _ h => h) (Or.inl ⟨by rfl, ?_⟩) hHeld ?_
  rotate_left
  · (intro w hSw; (try dsimp only at hSw); go_simp; try with_reducible rfl)
  try simp only [Act.put, List.setIfInBounds_toArray, List.set_cons_zero, List.set_cons_succ, List.getElem_toArray, List.getElem_cons_succ, List.getElem_cons_zero]
  refine' wpAnyH_take (i := 34) (v := _) rfl (by kernel_rfl) (by kernel_rfl) (by kernel_rfl) (fun _ _ _ h => h) (Or.inl ⟨by rfl, ?_⟩) hHeld ?_
  rotate_left
  · (intro w hSw; (try dsimp only at hSw); go_simp; try with_reducible rfl)
  try simp only [Act.put, List.setIfInBounds_toArray, List.set_cons_zero, List.set_cons_succ, List.getElem_toArray, List.getElem_cons_succ, List.getElem_cons_zero]
  refine' wpAnyH_take (i := 35) (v := _) rfl (by kernel_rfl) (by kernel_rfl) (by kernel_rfl) (fun _ _ _ h => h) (Or.inl ⟨by rfl, ?_⟩) hHeld ?_
  rotate_left
  · (intro w hSw; (try dsimp only at hSw); go_simp; try with_reducible rfl)
  try simp only [Act.put, List.setIfInBounds_toArray, List.set_cons_zero, List.set_cons_succ, List.getElem_toArray, List.getElem_cons_succ, List.getElem_cons_zero]
  refine' wpAnyH_take (i := 37) (v := _) rfl (by kernel_rfl) (by kernel_rfl) (by kernel_rfl) (fun _ _ _ h => h) (Or.inl ⟨by rfl, ?_⟩) hHeld ?_
  rotate_left
  · (intro w hSw; (try dsimp only at hSw); go_simp; try with_reducible rfl)
  try simp only [Act.put, List.setIfInBounds_toArray, List.set_cons_zero, List.set_cons_succ, List.getElem_toArray, List.getElem_cons_succ, List.getElem_cons_zero]
  refine' wpAnyH_take (i := 38) (v := _) rfl (by kernel_rfl) (by kernel_rfl) (by kernel_rfl) (fun _ _ _ h => h) (Or.inl ⟨by rfl, ?_⟩) hHeld ?_
  rotate_left
  · (intro w hSw; (try dsimp only at hSw); go_simp; try with_reducible rfl)
  try simp only [Act.put, List.setIfInBounds_toArray, List.set_cons_zero, List.set_cons_succ, List.getElem_toArray, List.getElem_cons_succ, List.getElem_cons_zero]
  refine' wpAnyH_take (i := 39) (v := _) rfl (by kernel_rfl) (by kernel_rfl) (by kernel_rfl) (fun _ _ _ h => h) (Or.inl ⟨by rfl, ?_⟩) hHeld ?_
  rotate_left
  · (intro w hSw; (try dsimp only at hSw); go_simp; try with_reducible rfl)
  try simp only [Act.put, List.setIfInBounds_toArray, List.set_cons_zero, List.set_cons_succ, List.getElem_toArray, List.getElem_cons_succ, List.getElem_cons_zero]
  refine wpAnyH_ready (rs := [36]) (by kernel_rfl) (by simp) ?_
  refine AllReadyH.cons (o := _) rfl (fun K hK => ?_) AllReadyH.nil
  try simp only [List.getElem_toArray, List.getElem_cons_succ, List.getElem_cons_zero]
  go_simp
  refine (HO.out _).mono ?_
  rintro e w136 ⟨rfl, hg⟩
  have K36 := hid (And.intro (hHeld.1.grown hg (by simp)) ((k3_k3 hHeld.2).grown hg).keep)
  have G36 := hid ((k3_k3 hHeld.2).grown hg).g
  clear hHeld hg
  go_wp2_with fail
  refine hK.out _ _ ?_ (fun hHeld => ?_)
  · exact K36.out
  clear hK K
  try dsimp only at hHeld
  try simp only [Act.put, List.setIfInBounds_toArray, List.set_cons_zero, List.set_cons_succ, List.getElem_toArray, List.getElem_cons_succ, List.getElem_cons_zero]
  refine wpAnyH_ready (rs := [40]) (by kernel_rfl) (by simp) ?_
  refine AllReadyH.cons (o := _) rfl (fun K hK => ?_) AllReadyH.nil
  try simp only [List.getElem_toArray, List.getElem_cons_succ, List.getElem_cons_zero]
  go_simp
  refine (HOR.out _).mono ?_
  rintro e w140 ⟨rfl, hg⟩
  have K40 := hid (And.intro (hHeld.1.grown hg (by simp)) ((k3_k3 hHeld.2).grown hg).keep)
  have G40 := hid ((k3_k3 hHeld.2).grown hg).g
  clear hHeld hg
  go_wp2_with fail
  refine hK.out _ _ ?_ (fun hHeld => ?_)
  · exact K40.out
  clear hK K
  try dsimp only at hHeld
  try simp only [Act.put, List.setIfInBounds_toArray, List.set_cons_zero, List.set_cons_succ, List.getElem_toArray, List.getElem_cons_succ, List.getElem_cons_zero]
  refine' wpAnyH_take (i := 41) (v := _) rfl (by kernel_rfl) (by kernel_rfl) (by kernel_rfl) (fun _ _ _ h => h) (Or.inl ⟨by rfl, ?_⟩) hHeld ?_
  rotate_left
  · (intro w hSw; (try dsimp only at hSw); go_simp; try with_reducible rfl)
  try simp only [Act.put, List.setIfInBounds_toArray, List.set_cons_zero, List.set_cons_succ, List.getElem_toArray, List.getElem_cons_succ, List.getElem_cons_zero]
  refine' wpAnyH_take (i := 42) (v := _) rfl (by kernel_rfl) (by kernel_rfl) (by kernel_rfl) (fun _ _ _ h => h) (Or.inl ⟨by rfl, ?_⟩) hHeld ?_
  rotate_left
  · (intro w hSw; (try dsimp only at hSw); go_simp; try with_reducible rfl)
  try simp only [Act.put, List.setIfInBounds_toArray, List.set_cons_zero, List.set_cons_succ, List.getElem_toArray, List.getElem_cons_succ, List.getElem_cons_zero]
  refine' wpAnyH_take (i := 43) (v := _) rfl (by kernel_rfl) (by kernel_rfl) (by kernel_rfl) (fun _ _ _ h => h) (Or.inl ⟨by rfl, ?_⟩) hHeld ?_
  rotate_left
  · (intro w hSw; (try dsimp only at hSw); go_simp; try with_reducible rfl)
  try simp only [Act.put, List.setIfInBounds_toArray, List.set_cons_zero, List.set_cons_succ, List.getElem_toArray, List.getElem_cons_succ, List.getElem_cons_zero]
  refine wpAnyH_done (by kernel_rfl) ?_ _
  clear hHeld
  go_wp2_with fail
  go_ret
  exact ⟨rfl, G40.out⟩

theorem walk (k0 k1 : BitVec 64) (l : List UInt8) {p : Option Addr} {c : Nat} {w : World} (hl : BytesAt w (.slice p l.length c) l) (s : ByteArray) (n : BitVec 64) (who : Int) (_ww : (Lit.int .i64 who).wf = true) (gen : Int) (_wg : (Lit.int .i64 gen).wf = true) :
    Calls Try.prog 4 #[.agg #[.int .u64 (q k0), .int .u64 (q k1)], .slice p l.length c, .string s, .int .u64 (q n), .int .i64 who, .int .i64 gen] w fun e w' => e = .returned (.bool true) ∧ w.grownBy w' none := by
  by_cases h1 : 200 < l.length
  · exact walk_long k0 k1 p _ c s n who gen (.inl h1) w
  · by_cases h2 : 30 < s.size
    · exact walk_long k0 k1 p _ c s n who gen (.inr ⟨by omega, h2⟩) w
    · exact walk_short k0 k1 l p c (by omega) s (by omega) n who gen w hl
end Go.Proofs.Ytedbdilmebeicaa.asks2
