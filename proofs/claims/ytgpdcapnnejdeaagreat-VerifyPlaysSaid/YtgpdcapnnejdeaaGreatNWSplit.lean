/-
  Contract for wire.Split: the message, its bytes, the tag of an envelope's bytes, or an error. The condition: the bytes read as bytes.
-/
import Derived.Test.YtgpdcapnnejdeaaGreatJ0
import Derived.Test.YtgpdcapnnejdeaaGreatY11
set_option linter.unusedSimpArgs false
set_option linter.unusedVariables false
namespace Go.Proofs.YtgpdcapnnejdeaaGreat
set_option maxRecDepth 100000
open Go.RowKit

theorem add_at (b o i : Nat) : (⟨b, o, none⟩ : Addr).add i = ⟨b, o + i, none⟩ := by unfold Addr.add; split <;> simp_all
theorem bytes_slice0 {w : World} {ab ao n c j : Nat} {l : List UInt8} (h : BytesAt w (.slice (some ⟨ab, ao, none⟩) n c) l) (hj : j ≤ n) : BytesAt w (.slice (some ⟨ab, ao, none⟩) j c) (l.take j) := by
 rcases h with ⟨h, _⟩ | ⟨a, cap, e, h1, h2, h3⟩
 ·cases h
 ·cases e
  have hl : (l.take j).length = j := by rw [List.length_take]; omega
  refine .inr ⟨_, c, by rw [hl], by omega, h2, fun i hi => ?_⟩
  have := h3 i (by omega)
  rw [this]; simp
theorem bytes_slice1 {w : World} {ab ao n c i : Nat} {l : List UInt8} (h : BytesAt w (.slice (some ⟨ab, ao, none⟩) n c) l) (hi : i ≤ n) : BytesAt w (.slice (some ⟨ab, ao + i, none⟩) (n - i) (c - i)) (l.drop i) := by
 rcases h with ⟨h, _⟩ | ⟨a, cap, e, h1, h2, h3⟩
 ·cases h
 ·cases e
  have hl : (l.drop i).length = l.length - i := by rw [List.length_drop]
  refine .inr ⟨_, c - i, by rw [hl], by omega, by omega, fun k hk => ?_⟩
  have := h3 (i + k) (by omega)
  rw [add_at] at this ⊢
  rw [Nat.add_assoc, this]; simp
theorem gb_rowset (w : World) (b : Nat) (cs : Array Value) : w.grownBy (w.setRow b cs) (some b) :=
 ⟨rfl, rfl, rfl, by simp [World.setRow], fun k hk hr => by simp [World.setRow, Array.getElem?_modify, show b ≠ k by intro e; exact hr (by rw [e])]⟩
section
variable {P : Program} {o : Oper} {a : Act} {w : World} {K : Act → World → Prop} {Q : Exit → Act → World → Prop} {b : Nat} {t ty : TypeId} {x y : Operand} {cs old : Array Value}
theorem wp_store_row (h : w.heap[b]? = some (.cells old t (0, 0))) (hi : (P.info? ty).map (·.size) = some cs.size) (hsz : old.size = cs.size) (h1 : cs.all (·.oneCell') = true)
  (ho : o.op = .store ty x y) (hdst : o.dst = none) (hx : a.eval x = .pointer (some ⟨b, 0, none⟩)) (hy : a.eval y = .agg cs)
  (k : K a (w.setRow b cs)) : Oper.wp P o a w K Q := by
 unfold Oper.wp
 have e : (execOp a.eval o).run P w = .ok .skip (w.setRow b cs) := by
  simp only [execOp, ho, hx, hy, Sem.run_bind, Instr.storeAt, Instr.sureAddr, Sem.run_pure, Result.andThen_ok, run_storeVar_row w b t ty old cs h hi hsz h1]
 rw [e, Oper.upon_skip, hdst]
 exact k
end

structure SP (w : World) (x y : Nat) (m : Mg) (a b : BitVec 64) (v : Value) (l : List UInt8) (wc : World) : Prop where
 am : ∃ c : Mg, wc.heap[w.heap.size]? = some (.cells c.cells 39)
 ta : ∃ p r, wc.heap[w.heap.size + 1]? = some (.cells #[p, r] 83)
 hm : wc.heap[x]? = some (.cells m.cells 39)
 ht : wc.heap[y]? = some (.cells #[.int .u64 (q a), .int .u64 (q b)] 83)
 ba : BytesAt wc v l
 vb : ∀ ad n c, v = .slice (some ad) n c → ad.block < w.heap.size
 hx : w.heap.size + 1 < x
 hy : w.heap.size + 1 < y
 g : w.grownBy wc none
section
variable {w : World} {x y : Nat} {m : Mg} {a b : BitVec 64} {v : Value} {l : List UInt8} {wc w1 : World}
theorem SP.grown (h : SP w x y m a b v l wc) (hg : wc.grownBy w1 none) : SP w x y m a b v l w1 :=
 ⟨by obtain ⟨c, k⟩ := h.am; exact ⟨c, at_grown k hg (by simp)⟩, by obtain ⟨p, r, k⟩ := h.ta; exact ⟨p, r, at_grown k hg (by simp)⟩, at_grown h.hm hg (by simp), at_grown h.ht hg (by simp), h.ba.grown hg (by simp), h.vb, h.hx, h.hy, gb_trans h.g hg (.inl rfl)⟩
theorem SP.drew (h : SP w x y m a b v l wc) : SP w x y m a b v l wc.drew := ⟨h.am, h.ta, h.hm, h.ht, h.ba.drew, h.vb, h.hx, h.hy, gb_drew h.g⟩
theorem SP.size (h : SP w x y m a b v l wc) : w.heap.size + 2 ≤ wc.heap.size := by obtain ⟨p, r, k⟩ := h.ta; exact at_lt k
theorem SP.setA (h : SP w x y m a b v l wc) (c : Mg) : SP w x y m a b v l (wc.setRow w.heap.size c.cells) :=
 ⟨by obtain ⟨c', k⟩ := h.am; exact ⟨c, at_setRow k⟩, by obtain ⟨p, r, k⟩ := h.ta; exact ⟨p, r, at_setRow_other k (by omega)⟩, at_setRow_other h.hm (by have := h.hx; omega), at_setRow_other h.ht (by have := h.hy; omega),
  h.ba.grown (gb_rowset _ _ _) (fun k e => by cases e; exact .inr (.inr fun ad n c e => by have := h.vb ad n c e; omega)), h.vb, h.hx, h.hy, gb_setRow h.g (Nat.le_refl _)⟩
theorem SP.setT (h : SP w x y m a b v l wc) (p r : Value) : SP w x y m a b v l (wc.setRow (w.heap.size + 1) #[p, r]) :=
 ⟨by obtain ⟨c', k⟩ := h.am; exact ⟨c', at_setRow_other k (by omega)⟩, by obtain ⟨p', r', k⟩ := h.ta; exact ⟨p, r, at_setRow k⟩, at_setRow_other h.hm (by have := h.hx; omega), at_setRow_other h.ht (by have := h.hy; omega),
  h.ba.grown (gb_rowset _ _ _) (fun k e => by cases e; exact .inr (.inr fun ad n c e => by have := h.vb ad n c e; omega)), h.vb, h.hx, h.hy, gb_setRow h.g (by omega)⟩
end

def noSplit : Value := .tuple #[mg zeroM, .slice none 0 0, pair 0 0, .int .i64 2]
set_option maxHeartbeats 1600000 in
theorem split_bad (p : Option Addr) (n c : Nat) (hn : n ≠ 48) (w : World) :
  Calls Tryz.prog 53 #[.slice p n c] w fun e w' => e = .returned noSplit ∧ w.grownBy w' none := by
 have h1 : (n : Int) ≠ 48 := by omega
 go_enter Tryz.func53, Tryz.ntmps53
 go_wp2_with fail
 exact bodyPost_ret (v := .tuple #[mg zeroM, .slice none 0 0, pair 0 0, .int .i64 2]) (by simp [results, Tryz.results53, go_sem, zeroM]; decide) rfl ⟨rfl, gb_alloc (gb_alloc (.refl w none) _) _⟩

theorem gotM_none {l : List UInt8} (h : getOf l = none) : gotM l = zeroM ∧ gotC l = 2 := by unfold gotM gotC; rw [h]; exact ⟨rfl, rfl⟩
theorem gotM_some {l : List UInt8} {m : Mg} (h : getOf l = some m) : gotM l = m ∧ gotC l = 0 := by unfold gotM gotC; rw [h]; exact ⟨rfl, rfl⟩
theorem get_as (l : List UInt8) (m : Mg) (k : Int) (h : gotM l = m ∧ gotC l = k) (p : Option Addr) (c : Nat) (hn : l.length = 32) (w : World) (hl : BytesAt w (.slice p 32 c) l) :
  Calls Tryz.prog 92 #[.slice p 32 c] w fun e w' => e = .returned (.tuple #[mg m, .int .i64 k]) ∧ w.grownBy w' none := by
 obtain ⟨rfl, rfl⟩ := h; exact wget_walk p c l hn w hl
theorem sp_new (w : World) : ((w.alloc (.cells zeroM.cells 39)).alloc (.cells #[.int .u64 0, .int .u64 0] 83)).heap[w.heap.size]? = some (.cells zeroM.cells 39) ∧ ((w.alloc (.cells zeroM.cells 39)).alloc (.cells #[.int .u64 0, .int .u64 0] 83)).heap[w.heap.size + 1]? = some (.cells #[.int .u64 0, .int .u64 0] 83) :=
 ⟨at_alloc (at_new w _) _, by rw [← size_alloc w (.cells zeroM.cells 39)]; exact at_new _ _⟩

set_option maxHeartbeats 1600000 in
theorem split_no (ab ao c : Nat) (hc : 48 ≤ c) (hcm : c ≤ maxLen) (l : List UInt8) (hn : l.length = 48) (hno : getOf (l.take 32) = none) (w : World) (hl : BytesAt w (.slice (some ⟨ab, ao, none⟩) 48 c) l) :
  Calls Tryz.prog 53 #[.slice (some ⟨ab, ao, none⟩) 48 c] w fun e w' => e = .returned noSplit ∧ w.grownBy w' none := by
 have hb0 := (hl.alloc (.cells zeroM.cells 39)).alloc (.cells #[.int .u64 0, .int .u64 0] 83)
 have HL := hid (bytes_slice0 (j := 32) hb0 (by decide)); have HG := hid (gotM_none hno); have HN := hid (show (l.take 32).length = 32 by rw [List.length_take]; omega); clear hl hno hn hb0
 have hg0 : w.grownBy ((w.alloc (.cells zeroM.cells 39)).alloc (.cells #[.int .u64 0, .int .u64 0] 83)) none := gb_alloc (gb_alloc (.refl w none) _) _
 have H0 := hid (sp_new w); have G0 := hid hg0; clear hg0
 have hI : (32 : Int) ≤ (c : Int) := by omega
 unfold maxLen at hcm
 go_enter Tryz.func53, Tryz.ntmps53
 go_wp2_with fail
 refine (get_as (l.take 32) zeroM 2 HG.out _ c HN.out _ HL.out).mono ?_
 rintro e w1 ⟨rfl, hg⟩
 have A := hid (at_grown H0.out.1 hg (by simp)); have B := hid (at_grown H0.out.2 hg (by simp)); have G1 := hid (gb_trans G0.out hg (.inl rfl)); clear hg H0 G0
 go_wp2_with (first | refine wpList_store_new (w := w1) (cs := zeroM.cells) rfl (by kernel_rfl) (by kernel_rfl) (by kernel_rfl) rfl rfl rfl rfl rfl ?_ | refine wpList_buildTo (ty := 39) (cs := zeroM.cells) rfl rfl rfl (by kernel_rfl) ?_ | refine wpList_store_row (old := zeroM.cells) (cs := zeroM.cells) (at_alloc A.out _) (by kernel_rfl) (by kernel_rfl) (by kernel_rfl) rfl rfl rfl rfl rfl ?_ | refine wpList_store_row (old := #[.int .u64 0, .int .u64 0]) (cs := #[.int .u64 0, .int .u64 0]) (at_setRow_other (b := w.heap.size) (at_alloc B.out _) (by omega)) (by kernel_rfl) (by kernel_rfl) (by kernel_rfl) rfl rfl rfl rfl rfl ?_)
 obtain ⟨d0, d1, d2, d3, d4, d5, d6⟩ := msg_cells (at_setRow_other (cs := #[.int .u64 0, .int .u64 0]) (at_setRow (cs := zeroM.cells) (at_alloc A.out (.cells zeroM.cells 39))) (show w.heap.size ≠ w.heap.size + 1 by omega))
 have ht := at_setRow (cs := #[.int .u64 0, .int .u64 0]) (at_setRow_other (cs := zeroM.cells) (at_alloc B.out (.cells zeroM.cells 39)) (show w.heap.size + 1 ≠ w.heap.size by omega))
 have t0 := at_cell ht 0
 have t1 := at_cell ht 1
 exact bodyPost_ret (v := noSplit) (by simp [results, Tryz.results53, go_sem, d0, d1, d2, d3, d4, d5, d6, t0, t1]; rfl) rfl ⟨rfl, gb_setRow (gb_setRow (gb_alloc G1.out _) (Nat.le_refl _)) (by omega)⟩

set_option maxHeartbeats 3200000 in
theorem split_yes (ab ao c : Nat) (hc : 48 ≤ c) (hcm : c ≤ maxLen) (l : List UInt8) (hn : l.length = 48) (m : Mg) (hno : getOf (l.take 32) = some m) (a b : BitVec 64) (ha : wordAt (l.drop 32) 0 8 = a) (hb : wordAt (l.drop 32) 8 8 = b) (w : World) (hl : BytesAt w (.slice (some ⟨ab, ao, none⟩) 48 c) l) :
  Calls Tryz.prog 53 #[.slice (some ⟨ab, ao, none⟩) 48 c] w fun e w' => ∃ u, e = .returned (.tuple #[mg m, u, pair a b, .int .i64 0]) ∧ OwnB w.heap.size w' u (l.take 32) ∧ w.grownBy w' none := by
 have hab : ab < w.heap.size := by
  rcases hl.lt with e | e
  ·rw [e] at hn; cases hn
  ·exact e ⟨ab, ao, none⟩ _ _ rfl
 have hb0 := (hl.alloc (.cells zeroM.cells 39)).alloc (.cells #[.int .u64 0, .int .u64 0] 83)
 have HB0 := hid hb0; have HAB := hid hab
 have HL := hid (bytes_slice0 (j := 32) hb0 (by decide)); have HG := hid (gotM_some hno); have HT32 := hid (show (l.take 32).length = 32 by rw [List.length_take]; omega)
 have HD32 := hid (show (l.drop 32).length = 16 by rw [List.length_drop]; omega)
 have HWA := hid ha; have HWB := hid hb
 clear hl hno hn hb0 hab ha hb
 have hg0 : w.grownBy ((w.alloc (.cells zeroM.cells 39)).alloc (.cells #[.int .u64 0, .int .u64 0] 83)) none := gb_alloc (gb_alloc (.refl w none) _) _
 have H0 := hid (sp_new w); have G0 := hid hg0; clear hg0
 have hI : (32 : Int) ≤ (c : Int) := by omega
 unfold maxLen at hcm
 go_enter Tryz.func53, Tryz.ntmps53
 go_wp2_with fail
 refine (get_as (l.take 32) m 0 HG.out _ c HT32.out _ HL.out).mono ?_
 rintro e w1 ⟨rfl, hg⟩
 have A := hid (at_grown H0.out.1 hg (by simp)); have B := hid (at_grown H0.out.2 hg (by simp)); have G1 := hid (gb_trans G0.out hg (.inl rfl)); have BA := hid (HB0.out.grown hg (by simp)); clear hg H0 G0 HB0 HL
 go_wp2_with (first | refine wpList_store_new (w := w1) (cs := m.cells) rfl (by kernel_rfl) (by kernel_rfl) (by kernel_rfl) rfl rfl rfl rfl rfl ?_)
 have BA2 := hid (bytes_slice1 (i := 32) (BA.out.alloc (.cells m.cells 39)) (by decide))
 refine (from_words (l.drop 32) a b HWA.out HWB.out _ _ HD32.out _ BA2.out).mono ?_
 rintro e w2 ⟨rfl, hg⟩
 have hsz : w.heap.size + 1 < w1.heap.size := at_lt B.out
 have HM := hid (at_grown (at_new w1 (.cells m.cells 39)) hg (by simp))
 have A2 := hid (at_grown (at_alloc A.out _) hg (by simp)); have B2 := hid (at_grown (at_alloc B.out _) hg (by simp)); have BA3 := hid ((BA.out.alloc _).grown hg (by simp))
 have G2 := hid (gb_trans (gb_alloc G1.out _) hg (.inl rfl))
 have hlt := at_lt HM.out
 clear hg A B BA BA2 G1
 generalize w1.heap.size = x at HM hsz hlt ⊢
 go_wp2_with (first | refine wpList_store_new (w := w2) (cs := #[.int .u64 (q a), .int .u64 (q b)]) rfl (by kernel_rfl) (by kernel_rfl) (by kernel_rfl) rfl rfl rfl rfl rfl ?_)
 have P4 : SP w x w2.heap.size m a b (.slice (some ⟨ab, ao, none⟩) 48 c) l (w2.alloc (.cells #[.int .u64 (q a), .int .u64 (q b)] 83)) :=
  ⟨⟨_, at_alloc A2.out _⟩, ⟨_, _, at_alloc B2.out _⟩, at_alloc HM.out _, at_new w2 _, BA3.out.alloc _, fun ad n c e => by cases e; exact HAB.out, hsz, by omega, gb_alloc G2.out _⟩
 have P5 := hid P4
 clear P4 A2 B2 HM BA3 G2
 generalize w2.heap.size = y at P5 ⊢
 refine wp_region_held_drew (S := (fun w' => SP w x y m a b (.slice (some ⟨ab, ao, none⟩) 48 c) l w')) (by kernel_rfl) P5.out.drew (fun hHeld => ?_)
 try dsimp only at hHeld
 refine' jT 0 rfl (by rfl) ?_ hHeld ?_
 rotate_left
 ·(intro w hSw; (try dsimp only at hSw); (try simp only [jD, jE, jF]); refine exec_row (x := .tmp 6) hSw.hm Tryz.underlying39 rfl (by kernel_rfl) ?_ ?_ <;> rfl)
 try simp only [jX, jD, jE, jF]
 refine jU 1 hHeld ?_
 try simp only [jX, jD, jE, jF]
 refine jU 2 hHeld ?_
 try simp only [jX, jD, jE, jF]
 refine' jT 4 rfl (by rfl) ?_ hHeld ?_
 rotate_left
 ·(intro w hSw; (try dsimp only at hSw); (try simp only [jD, jE, jF]); refine exec_row (x := .tmp 8) hSw.ht Tryz.underlying83 rfl (by kernel_rfl) ?_ ?_ <;> rfl)
 try simp only [jX, jD, jE, jF]
 refine jR [3] ?_
 refine jG rfl (fun K hK => ?_) AllReadyH.nil
 try simp only [jD, jE, jF]
 go_simp
 refine (clone_some _ _ _ (l.take 32) HT32.out (by decide) _ (bytes_slice0 hHeld.ba (by decide))).mono ?_
 rintro e w1 ⟨u, rfl, hu, hg⟩
 have L3 := hid (hHeld.grown hg)
 have U3 := hid (hu.le (hHeld.size)); clear hHeld hg hu
 go_wp2_with fail
 refine hK.out _ _ ?_ (fun hHeld => ?_)
 ·exact L3.out
 clear hK K
 try dsimp only at hHeld
 try simp only [jX, jD, jE, jF]
 obtain ⟨cm, hcm⟩ := L3.out.am
 obtain ⟨tp, tq, hct⟩ := L3.out.ta
 have A1 := hid hcm; have A2 := hid hct; clear hcm hct
 refine jR [5] ?_
 refine jG rfl (fun K hK => ?_) AllReadyH.nil
 try simp only [jD, jE, jF]
 rw [if_pos (by rfl)]
 refine wp_store_row (cs := m.cells) A1.out (by kernel_rfl) (by kernel_rfl) (by kernel_rfl) rfl rfl rfl rfl ?_
 refine hK.out _ _ ?_ (fun hHeld => ?_)
 ·exact L3.out.setA m
 clear hK K
 try dsimp only at hHeld
 try simp only [jX, jD, jE, jF]
 refine jU 6 hHeld ?_
 try simp only [jX, jD, jE, jF]
 refine jR [7] ?_
 refine jG rfl (fun K hK => ?_) AllReadyH.nil
 try simp only [jD, jE, jF]
 rw [if_pos (by rfl)]
 refine wp_store_row (cs := #[.int .u64 (q a), .int .u64 (q b)]) (at_setRow_other (cs := m.cells) A2.out (by omega)) (by kernel_rfl) (by kernel_rfl) (by kernel_rfl) rfl rfl rfl rfl ?_
 refine hK.out _ _ ?_ (fun hHeld => ?_)
 ·exact (L3.out.setA m).setT _ _
 clear hK K
 try dsimp only at hHeld
 try simp only [jX, jD, jE, jF]
 refine jU 8 hHeld ?_
 try simp only [jX, jD, jE, jF]
 refine wpAnyH_done (by kernel_rfl) ?_ _
 clear hHeld
 have hd := at_setRow_other (cs := #[.int .u64 (q a), .int .u64 (q b)]) (at_setRow (cs := m.cells) A1.out) (show w.heap.size ≠ w.heap.size + 1 by omega)
 obtain ⟨d0, d1, d2, d3, d4, d5, d6⟩ := msg_cells hd
 have ht := at_setRow (cs := #[.int .u64 (q a), .int .u64 (q b)]) (at_setRow_other (cs := m.cells) A2.out (show w.heap.size + 1 ≠ w.heap.size by omega))
 have t0 := at_cell ht 0
 have t1 := at_cell ht 1
 have hg := ((L3.out.setA m).setT (.int .u64 (q a)) (.int .u64 (q b))).g
 have hu := (U3.out.grown (gb_rowset _ w.heap.size m.cells) (fun g e => by obtain ⟨p, c, rfl⟩ := U3.out.form; cases p with | none => cases e | some ad => have := (U3.out.at ad _ _ rfl).1; cases e; simp; omega)).grown (gb_rowset _ (w.heap.size + 1) #[.int .u64 (q a), .int .u64 (q b)]) (fun g e => by obtain ⟨p, c, rfl⟩ := U3.out.form; cases p with | none => cases e | some ad => have := (U3.out.at ad _ _ rfl).1; cases e; simp; omega)
 have HU := hid hu; have HGG := hid hg
 clear hd ht hu hg
 go_wp2_with fail
 exact bodyPost_ret (v := .tuple #[mg m, u, pair a b, .int .i64 0]) (by simp [results, Tryz.results53, go_sem, d0, d1, d2, d3, d4, d5, d6, t0, t1]) rfl ⟨u, rfl, HU.out.le (by omega), HGG.out⟩
end Go.Proofs.YtgpdcapnnejdeaaGreat
