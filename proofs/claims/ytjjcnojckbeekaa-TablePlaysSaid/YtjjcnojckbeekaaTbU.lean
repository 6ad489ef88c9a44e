/-
  Contract: the document's Put of table: a sample laid into its place. The condition: the table lies there.
-/
import Derived.Test.YtjjcnojckbeekaaTbV
import Derived.Test.YtjjcnojckbeekaaLst
import Derived.Test.YtjjcnojckbeekaaHeld
set_option linter.unusedSimpArgs false
set_option linter.unusedVariables false
namespace Go.Proofs.Ytjjcnojckbeekaa
set_option maxRecDepth 100000
open Go.RowKit

theorem before_is (a b : Sm) (r : Bool) (h : decide (PlLt a.pl b.pl) = r) (w : World) : Calls Try.prog 23 #[.agg #[.int .i64 a.who, .int .i64 a.met, .int .i64 a.ep, .int .i64 a.val], .agg #[.int .i64 b.who, .int .i64 b.met, .int .i64 b.ep, .int .i64 b.val]] w fun e w' => e = .returned (.bool r) ∧ w.grownBy w' none := h ▸ before_any a b w
/-- (the model's address of what begins at the very end is the row's own) -/
theorem SAt.dropI {W : World} {b o n c k : Nat} {l : List Sm} (h : SAt W (.slice (some ⟨b, o, none⟩) n c) l) (hk : k ≤ n) : SAt W (.slice (if c = k then some ⟨b, o, none⟩ else some ⟨b, o + k * 4, none⟩) (n - k) (c - k)) (l.drop k) := by
  split
  · next hc =>
    subst hc
    rcases h with ⟨e, _⟩ | ⟨b', o', cap, e, h1, h2, h3⟩
    · cases e
    · cases e
      have hd : l.drop c = [] := List.drop_eq_nil_of_le h1
      rw [hd]
      exact .inr ⟨b, o, c - c, by rw [Nat.sub_eq_zero_of_le h1]; rfl, by simp, by simp, fun j u hj => by simp [flatS] at hj⟩
  · exact h.drop hk
/-- what the last region's walk keeps -/
structure Pk (wi : World) (rb bx : Nat) (n m f : Int) (s : Sm) (v : Value) (L : List Sm) (vn : Value) (r : List Sm) (u : Value) (q : List Sm) (W : World) : Prop where
  gr : wi.grownBy W none
  own : OwnZ wi.heap.size W vn r
  ob : W.heap[rb]? = some (.cells #[.int .i64 n, .int .i64 m, .int .i64 f, v] 40)
  bo : W.heap[bx]? = some (.cells #[.int .i64 s.who, .int .i64 s.met, .int .i64 s.ep, .int .i64 s.val] 29)
  rd : SAt W v L
  on : SAt W u q
  un : ∀ g, u.ownBlock = some g → g < W.heap.size ∧ vn.ownBlock ≠ some g
  old : rb < wi.heap.size ∧ bx < wi.heap.size ∧ ∀ g, v.ownBlock = some g → g < wi.heap.size
section
variable {w1 wi W W' : World} {rb bx base : Nat} {n m f now : Int} {s : Sm} {v vn vn' u : Value} {L r r' q : List Sm}
theorem gb_chg {r : Option Nat} (h : W.grownBy W' r) : Chg r.toList W W' := ⟨h.os, h.tape, h.output, h.size, fun k hk hn => h.block k hk (by intro e; rw [← e] at hn; simp at hn)⟩
theorem Pk.start (hg : w1.grownBy wi none) (hob : w1.heap[rb]? = some (.cells #[.int .i64 n, .int .i64 m, .int .i64 f, v] 40)) (hbx : w1.heap[bx]? = some (.cells #[.int .i64 s.who, .int .i64 s.met, .int .i64 s.ep, .int .i64 s.val] 29))
    (hrd : SAt w1 v L) (hv : ∀ g, v.ownBlock = some g → g < w1.heap.size) : Pk wi rb bx n m f s v L (.slice none 0 0) [] (.slice none 0 0) [] wi :=
  ⟨.refl _ _, .nil _ _, at_grown hob hg (by simp), at_grown hbx hg (by simp), hrd.grown hg, .nil _, fun g h => by simp [Value.ownBlock] at h, Nat.lt_of_lt_of_le (at_lt hob) hg.size, Nat.lt_of_lt_of_le (at_lt hbx) hg.size, fun g h => Nat.lt_of_lt_of_le (hv g h) hg.size⟩
theorem Pk.drew (h : Pk wi rb bx n m f s v L vn r u q W) : Pk wi rb bx n m f s v L vn r u q W.drew := ⟨gb_drew h.gr, h.own.drew, h.ob, h.bo, h.rd.drew, h.on.drew, h.un, h.old⟩
theorem Pk.fresh (h : Pk wi rb bx n m f s v L (.slice none 0 0) [] u q W) : Pk wi rb bx n m f s v L (.slice (some ⟨W.heap.size, 0, none⟩) 0 0) [] u q (W.alloc (.cells #[] 29)) :=
  ⟨gb_alloc h.gr _, (OwnZ.empty W).le h.gr.size, at_alloc h.ob _, at_alloc h.bo _, h.rd.alloc _, h.on.alloc _, fun g hg => ⟨by have := (h.un g hg).1; rw [World.size_alloc]; omega, fun e => by have := (h.un g hg).1; simp [Value.ownBlock] at e; omega⟩, h.old⟩
theorem Pk.one (h : Pk wi rb bx n m f s v L vn r (.slice none 0 0) [] W) : Pk wi rb bx n m f s v L vn r (.slice (some ⟨W.heap.size, 0, none⟩) 1 1) [s] (W.alloc (.cells #[.int .i64 s.who, .int .i64 s.met, .int .i64 s.ep, .int .i64 s.val] 29)) :=
  ⟨gb_alloc h.gr _, h.own.grown (World.grownBy_alloc W _ none), at_alloc h.ob _, at_alloc h.bo _, h.rd.alloc _, smp_new W s, fun g hg => by
    simp only [Value.ownBlock, Option.map_some, Option.some.injEq] at hg
    subst hg
    exact ⟨by rw [World.size_alloc]; exact Nat.lt_succ_self _, fun e => by have := (h.own.lt _ e).2; omega⟩, h.old⟩
theorem Pk.app (h : Pk wi rb bx n m f s v L vn r u q W) (ho : OwnZ wi.heap.size W' vn' r') (hg : W.grownBy W' vn.ownBlock) (ha : vn'.ownBlock = vn.ownBlock ∨ vn'.ownBlock = some W.heap.size) : Pk wi rb bx n m f s v L vn' r' u q W' :=
  ⟨gb_ownZ h.gr h.own (Nat.le_refl _) hg, ho, at_grown h.ob hg (fun e => by have := (h.own.lt _ e.symm).1; have := h.old.1; omega), at_grown h.bo hg (fun e => by have := (h.own.lt _ e.symm).1; have := h.old.2.1; omega),
   h.rd.chg (gb_chg hg) (fun g e hm => by have h1 := h.old.2.2 g e; have h2 := (h.own.lt g (by simpa [eq_comm] using hm)).1; omega),
   h.on.chg (gb_chg hg) (fun g e hm => (h.un g e).2 (by simpa [eq_comm] using hm)),
   fun g e => ⟨Nat.lt_of_lt_of_le (h.un g e).1 hg.size, fun e2 => by
    rcases ha with ha | ha
    · exact (h.un g e).2 (by rw [← ha]; exact e2)
    · rw [ha] at e2; have := (h.un g e).1; simp at e2; omega⟩, h.old⟩
theorem Pk.fin (h : Pk wi rb bx n m f s v L vn (ins s L) u q W) (hT : RtAt base n m f L rb wi) (h0 : mayT n m f L s now = 0) (he : wf64 s.ep) : RtAt base n m f (ins s L) rb (W.setCell ⟨rb, 3, none⟩ vn) ∧ Chg [rb] wi (W.setCell ⟨rb, 3, none⟩ vn) := by
  have hc : Chg [rb] wi (W.setCell ⟨rb, 3, none⟩ vn) := (chg_grown h.gr [rb]).set (.inl (by simp)) vn
  have hc2 : Chg [rb] W (W.setCell ⟨rb, 3, none⟩ vn) := (chg_refl W [rb]).set (.inl (by simp)) vn
  have hf := hT.fine.put (m := m) (f := f) (now := now) hT.nm.2.1 hT.nm.2.2.2.1 (s := s) he
  unfold putT at hf
  rw [if_pos h0] at hf
  refine ⟨⟨⟨vn, ?_, (h.own.chg hc2 (fun g hg hm => ?_)).le hT.le⟩, hT.lo, Nat.le_trans hT.le hc.size, hf, hT.nm⟩, hc⟩
  · exact at_set h.ob 3 vn
  · have h1 := (h.own.lt g hg).1; have h2 := h.old.1; simp at hm; omega
end
theorem rput_no {base : Nat} {n m f : Int} {L : List Sm} {rb : Nat} {w : World} (h : RtAt base n m f L rb w) (hlen : L.length ≤ 100000) (s : Sm) (now : Int) (he : wf64 s.ep) (hn : wf64 now) (h0 : mayT n m f L s now ≠ 0) :
    Calls Try.prog 13 #[.pointer (some ⟨rb, 0, none⟩), .agg #[.int .i64 s.who, .int .i64 s.met, .int .i64 s.ep, .int .i64 s.val], .int .i64 now] w fun e w' => e = .returned (.int .i64 (mayT n m f L s now)) ∧ RtAt base n m f (putT n m f L s now) rb w' ∧ Chg [rb] w w' := by
  have K0 := h.alloc (.cells #[.int .i64 s.who, .int .i64 s.met, .int .i64 s.ep, .int .i64 s.val] 29)
  have hM := rmay_any K0 hlen s now he hn
  have hP : putT n m f L s now = L := by unfold putT; rw [if_neg h0]
  rw [hP]
  have G0 := hid (World.grownBy_alloc w (.cells #[.int .i64 s.who, .int .i64 s.met, .int .i64 s.ep, .int .i64 s.val] 29) none)
  have HR := hid h0
  generalize mayT n m f L s now = r at hM HR ⊢
  have hr := HR.out
  have HM := hid hM
  have HK0 := hid K0
  clear hM hP h0 K0
  have hb := h.lt
  clear h
  go_enter Try.func13, Try.ntmps13
  go_wp2_with (first | (go_at_call 11; refine HM.out.mono ?_; rintro e w1 ⟨rfl, hg1⟩; have HK1 := hid (HK0.out.grown hg1); have HG1 := hid (gb_trans G0.out hg1 (.inl rfl)); clear hg1))
  go_ret
  exact ⟨rfl, HK1.out, chg_grown HG1.out _⟩
set_option maxHeartbeats 6400000 in
theorem rput_yes {base : Nat} {n m f : Int} {L : List Sm} {rb : Nat} {w : World} (h : RtAt base n m f L rb w) (hlen : L.length ≤ 100000) (s : Sm) (now : Int) (he : wf64 s.ep) (hn : wf64 now) (h0 : mayT n m f L s now = 0) :
    Calls Try.prog 13 #[.pointer (some ⟨rb, 0, none⟩), .agg #[.int .i64 s.who, .int .i64 s.met, .int .i64 s.ep, .int .i64 s.val], .int .i64 now] w fun e w' => e = .returned (.int .i64 0) ∧ RtAt base n m f (ins s L) rb w' ∧ Chg [rb] w w' := by
  have K0 := h.alloc (.cells #[.int .i64 s.who, .int .i64 s.met, .int .i64 s.ep, .int .i64 s.val] 29)
  have hM := rmay_any K0 hlen s now he hn
  rw [h0] at hM
  have G0 := hid (World.grownBy_alloc w (.cells #[.int .i64 s.who, .int .i64 s.met, .int .i64 s.ep, .int .i64 s.val] 29) none)
  have HM := hid hM
  have HK0 := hid K0
  have hb := h.lt
  have H0 := hid h0
  have HE := hid he
  have hnt := (mayT_none h0).2.2
  have HNT := hid hnt
  have hins0 : ∀ j, j ≤ L.length → (∀ i, (hi : i < L.length) → j ≤ i → PlLt s.pl L[i].pl) → (∀ i, (hi : i < L.length) → i < j → PlLt L[i].pl s.pl) → L.take j ++ [s] ++ L.drop j = ins s L := fun j hj a1 a2 => by
    rw [List.append_assoc]
    exact ins_at h.fine.srt hnt hj a1 a2
  obtain ⟨N, hN⟩ : ∃ N, L.length = N := ⟨_, rfl⟩
  have HINS0 := hid hins0
  have HN := hid hN
  have HK := hid hlen
  clear hM K0 h h0 he hn hnt hins0 hN hlen
  go_enter Try.func13, Try.ntmps13
  go_wp2_with (first | (go_at_call 11; refine HM.out.mono ?_; rintro e w1 ⟨rfl, hg1⟩; have HT1 := hid (HK0.out.grown hg1); have HBX := hid (at_grown (at_new w _) hg1 (by simp)); have G1 := hid hg1; obtain ⟨p, c, -, -, -, c3, ho, hob⟩ := HT1.out.cells; rw [HN.out] at c3 ho hob; have HRD := hid ho.reads; have HOB := hid hob; have HV := hid (fun g e => (ho.lt g e).2); clear hg1 ho hob HM HK0))
  clear c3
  cases p with
  | none =>
    obtain ⟨rfl, rfl⟩ : N = 0 ∧ c = 0 := by
      rcases HRD.out with ⟨e, _⟩ | ⟨b', o', cap, e, _⟩
      · cases e; exact ⟨rfl, rfl⟩
      · cases e
    obtain rfl : L = [] := List.length_eq_zero_iff.1 HN.out
    have HINS := hid (HINS0.out 0 (Nat.zero_le _) (fun i h _ => absurd h (Nat.not_lt_zero i)) (fun i h _ => absurd h (Nat.not_lt_zero i)))
    go_loopw [8] (fun x wr => x = .int .i64 0 ∧ w1.grownBy wr none) (fun _ _ => 0)
    case atStart => exact ⟨rfl, .refl w1 none⟩
    case round =>
      obtain ⟨rfl, hgi⟩ := hrel
      have gi := hgi
      clear hgi
      go_upto_region 5 with fail
      refine wp_region_held_drew (S := (fun w' => (w1.grownBy w' none))) (by kernel_rfl) (gb_drew gi) (fun hHeld => ?_)
      try dsimp only at hHeld
      clear gi
      refine' wpAnyH_take (i := 0) (v := _) rfl (by kernel_rfl) (by kernel_rfl) (by kernel_rfl) (fun _ _ _ h => h) (Or.inl ⟨by rfl, ?_⟩) hHeld ?_
      rotate_left
      · (intro w hSw; (try dsimp only at hSw); go_simp; try with_reducible rfl)
      try simp only [Act.put, List.setIfInBounds_toArray, List.set_cons_zero, List.set_cons_succ, List.getElem_toArray, List.getElem_cons_succ, List.getElem_cons_zero]
      refine' wpAnyH_take (i := 1) (v := _) rfl (by kernel_rfl) (by kernel_rfl) (by kernel_rfl) (fun _ _ _ h => h) (Or.inl ⟨by rfl, ?_⟩) hHeld ?_
      rotate_left
      · (intro w hSw; (try dsimp only at hSw); go_simp; try with_reducible rfl)
      try simp only [Act.put, List.setIfInBounds_toArray, List.set_cons_zero, List.set_cons_succ, List.getElem_toArray, List.getElem_cons_succ, List.getElem_cons_zero]
      refine' wpAnyH_take (i := 2) (v := _) rfl (by kernel_rfl) (by kernel_rfl) (by kernel_rfl) (fun _ _ _ h => h) (Or.inl ⟨by rfl, ?_⟩) hHeld ?_
      rotate_left
      · (intro w hSw; (try dsimp only at hSw); go_simp; try with_reducible rfl)
      try simp only [Act.put, List.setIfInBounds_toArray, List.set_cons_zero, List.set_cons_succ, List.getElem_toArray, List.getElem_cons_succ, List.getElem_cons_zero]
      refine' wpAnyH_take (i := 3) (v := undef) rfl (by kernel_rfl) (by kernel_rfl) (by kernel_rfl) (fun _ _ _ h => h) (Or.inr ⟨by rfl, rfl⟩) hHeld ?_
      try simp only [Act.put, List.setIfInBounds_toArray, List.set_cons_zero, List.set_cons_succ, List.getElem_toArray, List.getElem_cons_succ, List.getElem_cons_zero]
      refine' wpAnyH_take (i := 4) (v := undef) rfl (by kernel_rfl) (by kernel_rfl) (by kernel_rfl) (fun _ _ _ h => h) (Or.inr ⟨by rfl, rfl⟩) hHeld ?_
      try simp only [Act.put, List.setIfInBounds_toArray, List.set_cons_zero, List.set_cons_succ, List.getElem_toArray, List.getElem_cons_succ, List.getElem_cons_zero]
      refine' wpAnyH_take (i := 5) (v := undef) rfl (by kernel_rfl) (by kernel_rfl) (by kernel_rfl) (fun _ _ _ h => h) (Or.inr ⟨by rfl, rfl⟩) hHeld ?_
      try simp only [Act.put, List.setIfInBounds_toArray, List.set_cons_zero, List.set_cons_succ, List.getElem_toArray, List.getElem_cons_succ, List.getElem_cons_zero]
      refine' wpAnyH_take (i := 6) (v := undef) rfl (by kernel_rfl) (by kernel_rfl) (by kernel_rfl) (fun _ _ _ h => h) (Or.inr ⟨by rfl, rfl⟩) hHeld ?_
      try simp only [Act.put, List.setIfInBounds_toArray, List.set_cons_zero, List.set_cons_succ, List.getElem_toArray, List.getElem_cons_succ, List.getElem_cons_zero]
      refine' wpAnyH_take (i := 7) (v := undef) rfl (by kernel_rfl) (by kernel_rfl) (by kernel_rfl) (fun _ _ _ h => h) (Or.inr ⟨by rfl, rfl⟩) hHeld ?_
      try simp only [Act.put, List.setIfInBounds_toArray, List.set_cons_zero, List.set_cons_succ, List.getElem_toArray, List.getElem_cons_succ, List.getElem_cons_zero]
      refine' wpAnyH_take (i := 8) (v := undef) rfl (by kernel_rfl) (by kernel_rfl) (by kernel_rfl) (fun _ _ _ h => h) (Or.inr ⟨by rfl, rfl⟩) hHeld ?_
      try simp only [Act.put, List.setIfInBounds_toArray, List.set_cons_zero, List.set_cons_succ, List.getElem_toArray, List.getElem_cons_succ, List.getElem_cons_zero]
      refine' wpAnyH_take (i := 9) (v := undef) rfl (by kernel_rfl) (by kernel_rfl) (by kernel_rfl) (fun _ _ _ h => h) (Or.inr ⟨by rfl, rfl⟩) hHeld ?_
      try simp only [Act.put, List.setIfInBounds_toArray, List.set_cons_zero, List.set_cons_succ, List.getElem_toArray, List.getElem_cons_succ, List.getElem_cons_zero]
      refine' wpAnyH_take (i := 10) (v := undef) rfl (by kernel_rfl) (by kernel_rfl) (by kernel_rfl) (fun _ _ _ h => h) (Or.inr ⟨by rfl, rfl⟩) hHeld ?_
      try simp only [Act.put, List.setIfInBounds_toArray, List.set_cons_zero, List.set_cons_succ, List.getElem_toArray, List.getElem_cons_succ, List.getElem_cons_zero]
      refine' wpAnyH_take (i := 11) (v := undef) rfl (by kernel_rfl) (by kernel_rfl) (by kernel_rfl) (fun _ _ _ h => h) (Or.inr ⟨by rfl, rfl⟩) hHeld ?_
      try simp only [Act.put, List.setIfInBounds_toArray, List.set_cons_zero, List.set_cons_succ, List.getElem_toArray, List.getElem_cons_succ, List.getElem_cons_zero]
      refine' wpAnyH_take (i := 12) (v := undef) rfl (by kernel_rfl) (by kernel_rfl) (by kernel_rfl) (fun _ _ _ h => h) (Or.inr ⟨by rfl, rfl⟩) hHeld ?_
      try simp only [Act.put, List.setIfInBounds_toArray, List.set_cons_zero, List.set_cons_succ, List.getElem_toArray, List.getElem_cons_succ, List.getElem_cons_zero]
      refine' wpAnyH_take (i := 13) (v := _) rfl (by kernel_rfl) (by kernel_rfl) (by kernel_rfl) (fun _ _ _ h => h) (Or.inl ⟨by rfl, ?_⟩) hHeld ?_
      rotate_left
      · (intro w hSw; (try dsimp only at hSw); go_simp; try with_reducible rfl)
      try simp only [Act.put, List.setIfInBounds_toArray, List.set_cons_zero, List.set_cons_succ, List.getElem_toArray, List.getElem_cons_succ, List.getElem_cons_zero]
      refine wpAnyH_done (by kernel_rfl) ?_ _
      have gi := hHeld
      have HGI2 := hid gi
      clear gi
      generalize hwi : wr.drew = wi at *
      clear hwi
      have TG := hid (Pk.start HGI2.out HOB.out HBX.out HRD.out HV.out)
      go_upto_region 7 with fail
      replace TG := hid TG.out.drew
      refine wp_region_last (S := (fun w' => (w'.heap[rb]? = some (.cells #[.int .i64 n, .int .i64 m, .int .i64 f, .slice none 0 0] 40)) ∧ (w'.heap[w.heap.size]? = some (.cells #[.int .i64 s.who, .int .i64 s.met, .int .i64 s.ep, .int .i64 s.val] 29)))) 21 21 #[false, false, false, false, false, false, false, false, false, false, false, false, false, false, false, false, false, false, false, false, false, true] (by kernel_rfl) (by kernel_rfl) (by kernel_rfl) (by kernel_rfl) ⟨TG.out.ob, TG.out.bo⟩ (fun hHeld => ?_)
      try dsimp only at hHeld
      refine' wpAnyH_take (i := 0) (v := _) rfl (by kernel_rfl) (by kernel_rfl) (by kernel_rfl) (fun _ _ _ h => h) (Or.inl ⟨by rfl, ?_⟩) hHeld ?_
      rotate_left
      · (intro w hSw; (try dsimp only at hSw); go_simp; try with_reducible rfl)
      try simp only [Act.put, List.setIfInBounds_toArray, List.set_cons_zero, List.set_cons_succ, List.getElem_toArray, List.getElem_cons_succ, List.getElem_cons_zero]
      refine' wpAnyH_take (i := 2) (v := _) rfl (by kernel_rfl) (by kernel_rfl) (by kernel_rfl) (fun _ _ _ h => h) (Or.inl ⟨by rfl, ?_⟩) hHeld ?_
      rotate_left
      · (intro w hSw; (try dsimp only at hSw); go_simp; try with_reducible rfl)
      try simp only [Act.put, List.setIfInBounds_toArray, List.set_cons_zero, List.set_cons_succ, List.getElem_toArray, List.getElem_cons_succ, List.getElem_cons_zero]
      refine' wpAnyH_take (i := 3) (v := _) rfl (by kernel_rfl) (by kernel_rfl) (by kernel_rfl) (fun _ _ _ h => h) (Or.inl ⟨by rfl, ?_⟩) hHeld ?_
      rotate_left
      · (intro w hSw; (try dsimp only at hSw); go_simp; try with_reducible rfl)
      try simp only [Act.put, List.setIfInBounds_toArray, List.set_cons_zero, List.set_cons_succ, List.getElem_toArray, List.getElem_cons_succ, List.getElem_cons_zero]
      refine' wpAnyH_take (i := 4) (v := _) rfl (by kernel_rfl) (by kernel_rfl) (by kernel_rfl) (fun _ _ _ h => h) (Or.inl ⟨by rfl, ?_⟩) hHeld ?_
      rotate_left
      · (intro w hSw; (try dsimp only at hSw); go_simp; try with_reducible rfl)
      try simp only [Act.put, List.setIfInBounds_toArray, List.set_cons_zero, List.set_cons_succ, List.getElem_toArray, List.getElem_cons_succ, List.getElem_cons_zero]
      refine' wpAnyH_take (i := 5) (v := _) rfl (by kernel_rfl) (by kernel_rfl) (by kernel_rfl) (fun _ _ _ h => h) (Or.inl ⟨by rfl, ?_⟩) hHeld ?_
      rotate_left
      · (intro w hSw; (try dsimp only at hSw); obtain ⟨ob, bx⟩ := hSw; have q9 := at_cell ob 3; go_simp; try with_reducible rfl)
      try simp only [Act.put, List.setIfInBounds_toArray, List.set_cons_zero, List.set_cons_succ, List.getElem_toArray, List.getElem_cons_succ, List.getElem_cons_zero]
      refine' wpAnyH_take (i := 6) (v := _) rfl (by kernel_rfl) (by kernel_rfl) (by kernel_rfl) (fun _ _ _ h => h) (Or.inl ⟨by rfl, ?_⟩) hHeld ?_
      rotate_left
      · (intro w hSw; (try dsimp only at hSw); go_simp; try with_reducible rfl)
      try simp only [Act.put, List.setIfInBounds_toArray, List.set_cons_zero, List.set_cons_succ, List.getElem_toArray, List.getElem_cons_succ, List.getElem_cons_zero]
      refine' wpAnyH_take (i := 7) (v := _) rfl (by kernel_rfl) (by kernel_rfl) (by kernel_rfl) (fun _ _ _ h => h) (Or.inl ⟨by rfl, ?_⟩) hHeld ?_
      rotate_left
      · (intro w hSw; (try dsimp only at hSw); go_simp; try with_reducible rfl)
      try simp only [Act.put, List.setIfInBounds_toArray, List.set_cons_zero, List.set_cons_succ, List.getElem_toArray, List.getElem_cons_succ, List.getElem_cons_zero]
      refine' wpAnyH_take (i := 9) (v := _) rfl (by kernel_rfl) (by kernel_rfl) (by kernel_rfl) (fun _ _ _ h => h) (Or.inl ⟨by rfl, ?_⟩) hHeld ?_
      rotate_left
      · (intro w hSw; (try dsimp only at hSw); obtain ⟨ob, bx⟩ := hSw; have e0 := at_cell bx 0; have e1 := at_cell bx 1; have e2 := at_cell bx 2; have e3 := at_cell bx 3; go_simp; try with_reducible rfl)
      try simp only [Act.put, List.setIfInBounds_toArray, List.set_cons_zero, List.set_cons_succ, List.getElem_toArray, List.getElem_cons_succ, List.getElem_cons_zero]
      refine' wpAnyH_take (i := 12) (v := _) rfl (by kernel_rfl) (by kernel_rfl) (by kernel_rfl) (fun _ _ _ h => h) (Or.inl ⟨by rfl, ?_⟩) hHeld ?_
      rotate_left
      · (intro w hSw; (try dsimp only at hSw); go_simp; try with_reducible rfl)
      try simp only [Act.put, List.setIfInBounds_toArray, List.set_cons_zero, List.set_cons_succ, List.getElem_toArray, List.getElem_cons_succ, List.getElem_cons_zero]
      refine' wpAnyH_take (i := 13) (v := _) rfl (by kernel_rfl) (by kernel_rfl) (by kernel_rfl) (fun _ _ _ h => h) (Or.inl ⟨by rfl, ?_⟩) hHeld ?_
      rotate_left
      · (intro w hSw; (try dsimp only at hSw); go_simp; try with_reducible rfl)
      try simp only [Act.put, List.setIfInBounds_toArray, List.set_cons_zero, List.set_cons_succ, List.getElem_toArray, List.getElem_cons_succ, List.getElem_cons_zero]
      refine' wpAnyH_take (i := 14) (v := _) rfl (by kernel_rfl) (by kernel_rfl) (by kernel_rfl) (fun _ _ _ h => h) (Or.inl ⟨by rfl, ?_⟩) hHeld ?_
      rotate_left
      · (intro w hSw; (try dsimp only at hSw); go_simp; try with_reducible rfl)
      try simp only [Act.put, List.setIfInBounds_toArray, List.set_cons_zero, List.set_cons_succ, List.getElem_toArray, List.getElem_cons_succ, List.getElem_cons_zero]
      refine' wpAnyH_take (i := 15) (v := _) rfl (by kernel_rfl) (by kernel_rfl) (by kernel_rfl) (fun _ _ _ h => h) (Or.inl ⟨by rfl, ?_⟩) hHeld ?_
      rotate_left
      · (intro w hSw; (try dsimp only at hSw); obtain ⟨ob, bx⟩ := hSw; have q9 := at_cell ob 3; go_simp; try with_reducible rfl)
      try simp only [Act.put, List.setIfInBounds_toArray, List.set_cons_zero, List.set_cons_succ, List.getElem_toArray, List.getElem_cons_succ, List.getElem_cons_zero]
      refine' wpAnyH_take (i := 16) (v := _) rfl (by kernel_rfl) (by kernel_rfl) (by kernel_rfl) (fun _ _ _ h => h) (Or.inl ⟨by rfl, ?_⟩) hHeld ?_
      rotate_left
      · (intro w hSw; (try dsimp only at hSw); go_simp; try with_reducible rfl)
      try simp only [Act.put, List.setIfInBounds_toArray, List.set_cons_zero, List.set_cons_succ, List.getElem_toArray, List.getElem_cons_succ, List.getElem_cons_zero]
      refine' wpAnyH_take (i := 17) (v := _) rfl (by kernel_rfl) (by kernel_rfl) (by kernel_rfl) (fun _ _ _ h => h) (Or.inl ⟨by rfl, ?_⟩) hHeld ?_
      rotate_left
      · (intro w hSw; (try dsimp only at hSw); go_simp; try with_reducible rfl)
      try simp only [Act.put, List.setIfInBounds_toArray, List.set_cons_zero, List.set_cons_succ, List.getElem_toArray, List.getElem_cons_succ, List.getElem_cons_zero]
      refine wpAnyH_ready (rs := [1, 10]) (by kernel_rfl) (by simp) ?_
      refine AllReadyH.cons (o := _) rfl (fun K hK => ?_) (AllReadyH.cons (o := _) rfl (fun K hK => ?_) AllReadyH.nil)
      · have hH2 := hHeld
        obtain ⟨ob, bx⟩ := hH2
        have hg : (wi.drew).grownBy ((wi.drew).alloc (.cells #[] 29)) none := World.grownBy_alloc _ _ _
        replace TG := hid TG.out.fresh
        try rw [World.size_alloc] at TG
        have L1 := hid (show (((wi.drew).alloc (.cells #[] 29)).heap[rb]? = some (.cells #[.int .i64 n, .int .i64 m, .int .i64 f, .slice none 0 0] 40)) ∧ (((wi.drew).alloc (.cells #[] 29)).heap[w.heap.size]? = some (.cells #[.int .i64 s.who, .int .i64 s.met, .int .i64 s.ep, .int .i64 s.val] 29)) from ⟨at_grown ob hg (by simp), at_grown bx hg (by simp)⟩)
        clear hHeld hg ob bx
        try simp only [List.getElem_toArray, List.getElem_cons_succ, List.getElem_cons_zero]
        go_simp
        refine hK.out _ _ ?_ (fun hHeld => ?_)
        · exact L1.out
        clear hK K
        try dsimp only at hHeld
        try simp only [Act.put, List.setIfInBounds_toArray, List.set_cons_zero, List.set_cons_succ, List.getElem_toArray, List.getElem_cons_succ, List.getElem_cons_zero]
        refine wpAnyH_ready (rs := [8, 10]) (by kernel_rfl) (by simp) ?_
        refine AllReadyH.cons (o := _) rfl (fun K hK => ?_) (AllReadyH.cons (o := _) rfl (fun K hK => ?_) AllReadyH.nil)
        · have hH2 := hHeld
          obtain ⟨ob, bx⟩ := hH2
          try simp only [List.getElem_toArray, List.getElem_cons_succ, List.getElem_cons_zero]
          rw [if_pos (by rfl)]
          refine wp_append_smp _ _ rfl wi.heap.size _ _ rfl TG.out.own _ _ rfl (SAt.nil _) (by have := HK.out; have := HN.out; simp only [List.length_append, List.length_cons, List.length_nil, List.length_take, List.length_drop]; omega) TG.out.gr.size ?_
          intro v1 w71 hown hgrow hat
          replace TG := hid (TG.out.app hown hgrow hat)
          clear hown hgrow hat
          have L8 := hid (show (w71.heap[rb]? = some (.cells #[.int .i64 n, .int .i64 m, .int .i64 f, .slice none 0 0] 40)) ∧ (w71.heap[w.heap.size]? = some (.cells #[.int .i64 s.who, .int .i64 s.met, .int .i64 s.ep, .int .i64 s.val] 29)) from ⟨TG.out.ob, TG.out.bo⟩)
          clear hHeld ob bx
          refine hK.out _ _ ?_ (fun hHeld => ?_)
          · exact L8.out
          clear hK K
          try dsimp only at hHeld
          try simp only [Act.put, List.setIfInBounds_toArray, List.set_cons_zero, List.set_cons_succ, List.getElem_toArray, List.getElem_cons_succ, List.getElem_cons_zero]
          refine wpAnyH_ready (rs := [10]) (by kernel_rfl) (by simp) ?_
          refine AllReadyH.cons (o := _) rfl (fun K hK => ?_) AllReadyH.nil
          have hH2 := hHeld
          obtain ⟨ob, bx⟩ := hH2
          have hg : w71.grownBy (w71.alloc (.cells #[.int .i64 s.who, .int .i64 s.met, .int .i64 s.ep, .int .i64 s.val] 29)) none := World.grownBy_alloc _ _ _
          have e0 := at_cell bx 0; have e1 := at_cell bx 1; have e2 := at_cell bx 2; have e3 := at_cell bx 3
          replace TG := hid TG.out.one
          try rw [World.size_alloc] at TG
          have L10 := hid (show ((w71.alloc (.cells #[.int .i64 s.who, .int .i64 s.met, .int .i64 s.ep, .int .i64 s.val] 29)).heap[rb]? = some (.cells #[.int .i64 n, .int .i64 m, .int .i64 f, .slice none 0 0] 40)) ∧ ((w71.alloc (.cells #[.int .i64 s.who, .int .i64 s.met, .int .i64 s.ep, .int .i64 s.val] 29)).heap[w.heap.size]? = some (.cells #[.int .i64 s.who, .int .i64 s.met, .int .i64 s.ep, .int .i64 s.val] 29)) from ⟨at_grown ob hg (by simp), at_grown bx hg (by simp)⟩)
          clear hHeld hg ob bx
          try simp only [List.getElem_toArray, List.getElem_cons_succ, List.getElem_cons_zero]
          go_simp
          refine hK.out _ _ ?_ (fun hHeld => ?_)
          · exact L10.out
          clear hK K
          try dsimp only at hHeld
          try simp only [Act.put, List.setIfInBounds_toArray, List.set_cons_zero, List.set_cons_succ, List.getElem_toArray, List.getElem_cons_succ, List.getElem_cons_zero]
          refine wpAnyH_ready (rs := [11]) (by kernel_rfl) (by simp) ?_
          refine AllReadyH.cons (o := _) rfl (fun K hK => ?_) AllReadyH.nil
          have hH2 := hHeld
          obtain ⟨ob, bx⟩ := hH2
          try simp only [List.getElem_toArray, List.getElem_cons_succ, List.getElem_cons_zero]
          rw [if_pos (by rfl)]
          refine wp_append_smp _ _ rfl wi.heap.size _ _ rfl TG.out.own _ _ rfl TG.out.on (by have := HK.out; have := HN.out; simp only [List.length_append, List.length_cons, List.length_nil, List.length_take, List.length_drop]; omega) TG.out.gr.size ?_
          intro v2 w72 hown hgrow hat
          replace TG := hid (TG.out.app hown hgrow hat)
          clear hown hgrow hat
          have L11 := hid (show (w72.heap[rb]? = some (.cells #[.int .i64 n, .int .i64 m, .int .i64 f, .slice none 0 0] 40)) ∧ (w72.heap[w.heap.size]? = some (.cells #[.int .i64 s.who, .int .i64 s.met, .int .i64 s.ep, .int .i64 s.val] 29)) from ⟨TG.out.ob, TG.out.bo⟩)
          clear hHeld ob bx
          refine hK.out _ _ ?_ (fun hHeld => ?_)
          · exact L11.out
          clear hK K
          try dsimp only at hHeld
          try simp only [Act.put, List.setIfInBounds_toArray, List.set_cons_zero, List.set_cons_succ, List.getElem_toArray, List.getElem_cons_succ, List.getElem_cons_zero]
          refine wpAnyH_ready (rs := [18]) (by kernel_rfl) (by simp) ?_
          refine AllReadyH.cons (o := _) rfl (fun K hK => ?_) AllReadyH.nil
          have hH2 := hHeld
          obtain ⟨ob, bx⟩ := hH2
          try simp only [List.getElem_toArray, List.getElem_cons_succ, List.getElem_cons_zero]
          rw [if_pos (by rfl)]
          refine wp_append_smp _ _ rfl wi.heap.size _ _ rfl TG.out.own _ _ rfl (SAt.nil _) (by have := HK.out; have := HN.out; simp only [List.length_append, List.length_cons, List.length_nil, List.length_take, List.length_drop]; omega) TG.out.gr.size ?_
          intro v3 w73 hown hgrow hat
          replace TG := hid (TG.out.app hown hgrow hat)
          clear hown hgrow hat
          have L18 := hid (show (w73.heap[rb]? = some (.cells #[.int .i64 n, .int .i64 m, .int .i64 f, .slice none 0 0] 40)) ∧ (w73.heap[w.heap.size]? = some (.cells #[.int .i64 s.who, .int .i64 s.met, .int .i64 s.ep, .int .i64 s.val] 29)) from ⟨TG.out.ob, TG.out.bo⟩)
          clear hHeld ob bx
          refine hK.out _ _ ?_ (fun hHeld => ?_)
          · exact L18.out
          clear hK K
          try dsimp only at hHeld
          try simp only [Act.put, List.setIfInBounds_toArray, List.set_cons_zero, List.set_cons_succ, List.getElem_toArray, List.getElem_cons_succ, List.getElem_cons_zero]
          refine' wpAnyH_take (i := 19) (v := _) rfl (by kernel_rfl) (by kernel_rfl) (by kernel_rfl) (fun _ _ _ h => h) (Or.inl ⟨by rfl, ?_⟩) hHeld ?_
          rotate_left
          · (intro w hSw; (try dsimp only at hSw); go_simp; try with_reducible rfl)
          try simp only [Act.put, List.setIfInBounds_toArray, List.set_cons_zero, List.set_cons_succ, List.getElem_toArray, List.getElem_cons_succ, List.getElem_cons_zero]
          refine' wpAnyH_take (i := 20) (v := _) rfl (by kernel_rfl) (by kernel_rfl) (by kernel_rfl) (fun _ _ _ h => h) (Or.inl ⟨by rfl, ?_⟩) hHeld ?_
          rotate_left
          · (intro w hSw; (try dsimp only at hSw); go_simp; try with_reducible rfl)
          try simp only [Act.put, List.setIfInBounds_toArray, List.set_cons_zero, List.set_cons_succ, List.getElem_toArray, List.getElem_cons_succ, List.getElem_cons_zero]
          refine wpAnyH_done (by kernel_rfl) ?_ _
          obtain ⟨ob, bx⟩ := hHeld
          have HI3 := HINS.out
          have TG2 := TG.out
          simp only [List.take_zero, List.drop_zero, List.take_nil, List.drop_nil, List.nil_append, List.append_nil] at TG2 HI3; rw [HI3] at TG2
          obtain ⟨p3, c3x, e3⟩ := TG2.own.form
          subst e3
          have HF := hid (TG2.fin (HT1.out.grown HGI2.out) H0.out HE.out)
          have k3 := at_cell TG2.ob 3
          have k4 := at_free TG2.ob 3
          clear ob bx TG TG2 HI3
          refine atLast_step (o := _) rfl (fun K hK => ?_)
          try simp only [List.getElem_toArray, List.getElem_cons_succ, List.getElem_cons_zero]
          go_simp
          refine hK.out _ _ ?_
          clear hK K k3 k4
          try simp only [Act.put, List.setIfInBounds_toArray, List.set_cons_zero, List.set_cons_succ, List.getElem_toArray, List.getElem_cons_succ, List.getElem_cons_zero]
          go_wp2_with fail
          all_goals (go_ret; exact ⟨rfl, HF.out.1, (chg_grown (gb_trans G0.out (gb_trans G1.out HGI2.out (.inl rfl)) (.inl rfl)) _).then HF.out.2⟩)
        · have hH2 := hHeld
          obtain ⟨ob, bx⟩ := hH2
          have hg : ((wi.drew).alloc (.cells #[] 29)).grownBy (((wi.drew).alloc (.cells #[] 29)).alloc (.cells #[.int .i64 s.who, .int .i64 s.met, .int .i64 s.ep, .int .i64 s.val] 29)) none := World.grownBy_alloc _ _ _
          have e0 := at_cell bx 0; have e1 := at_cell bx 1; have e2 := at_cell bx 2; have e3 := at_cell bx 3
          replace TG := hid TG.out.one
          try rw [World.size_alloc] at TG
          have L10 := hid (show ((((wi.drew).alloc (.cells #[] 29)).alloc (.cells #[.int .i64 s.who, .int .i64 s.met, .int .i64 s.ep, .int .i64 s.val] 29)).heap[rb]? = some (.cells #[.int .i64 n, .int .i64 m, .int .i64 f, .slice none 0 0] 40)) ∧ ((((wi.drew).alloc (.cells #[] 29)).alloc (.cells #[.int .i64 s.who, .int .i64 s.met, .int .i64 s.ep, .int .i64 s.val] 29)).heap[w.heap.size]? = some (.cells #[.int .i64 s.who, .int .i64 s.met, .int .i64 s.ep, .int .i64 s.val] 29)) from ⟨at_grown ob hg (by simp), at_grown bx hg (by simp)⟩)
          clear hHeld hg ob bx
          try simp only [List.getElem_toArray, List.getElem_cons_succ, List.getElem_cons_zero]
          go_simp
          refine hK.out _ _ ?_ (fun hHeld => ?_)
          · exact L10.out
          clear hK K
          try dsimp only at hHeld
          try simp only [Act.put, List.setIfInBounds_toArray, List.set_cons_zero, List.set_cons_succ, List.getElem_toArray, List.getElem_cons_succ, List.getElem_cons_zero]
          refine wpAnyH_ready (rs := [8]) (by kernel_rfl) (by simp) ?_
          refine AllReadyH.cons (o := _) rfl (fun K hK => ?_) AllReadyH.nil
          have hH2 := hHeld
          obtain ⟨ob, bx⟩ := hH2
          try simp only [List.getElem_toArray, List.getElem_cons_succ, List.getElem_cons_zero]
          rw [if_pos (by rfl)]
          refine wp_append_smp _ _ rfl wi.heap.size _ _ rfl TG.out.own _ _ rfl (SAt.nil _) (by have := HK.out; have := HN.out; simp only [List.length_append, List.length_cons, List.length_nil, List.length_take, List.length_drop]; omega) TG.out.gr.size ?_
          intro v1 w71 hown hgrow hat
          replace TG := hid (TG.out.app hown hgrow hat)
          clear hown hgrow hat
          have L8 := hid (show (w71.heap[rb]? = some (.cells #[.int .i64 n, .int .i64 m, .int .i64 f, .slice none 0 0] 40)) ∧ (w71.heap[w.heap.size]? = some (.cells #[.int .i64 s.who, .int .i64 s.met, .int .i64 s.ep, .int .i64 s.val] 29)) from ⟨TG.out.ob, TG.out.bo⟩)
          clear hHeld ob bx
          refine hK.out _ _ ?_ (fun hHeld => ?_)
          · exact L8.out
          clear hK K
          try dsimp only at hHeld
          try simp only [Act.put, List.setIfInBounds_toArray, List.set_cons_zero, List.set_cons_succ, List.getElem_toArray, List.getElem_cons_succ, List.getElem_cons_zero]
          refine wpAnyH_ready (rs := [11]) (by kernel_rfl) (by simp) ?_
          refine AllReadyH.cons (o := _) rfl (fun K hK => ?_) AllReadyH.nil
          have hH2 := hHeld
          obtain ⟨ob, bx⟩ := hH2
          try simp only [List.getElem_toArray, List.getElem_cons_succ, List.getElem_cons_zero]
          rw [if_pos (by rfl)]
          refine wp_append_smp _ _ rfl wi.heap.size _ _ rfl TG.out.own _ _ rfl TG.out.on (by have := HK.out; have := HN.out; simp only [List.length_append, List.length_cons, List.length_nil, List.length_take, List.length_drop]; omega) TG.out.gr.size ?_
          intro v2 w72 hown hgrow hat
          replace TG := hid (TG.out.app hown hgrow hat)
          clear hown hgrow hat
          have L11 := hid (show (w72.heap[rb]? = some (.cells #[.int .i64 n, .int .i64 m, .int .i64 f, .slice none 0 0] 40)) ∧ (w72.heap[w.heap.size]? = some (.cells #[.int .i64 s.who, .int .i64 s.met, .int .i64 s.ep, .int .i64 s.val] 29)) from ⟨TG.out.ob, TG.out.bo⟩)
          clear hHeld ob bx
          refine hK.out _ _ ?_ (fun hHeld => ?_)
          · exact L11.out
          clear hK K
          try dsimp only at hHeld
          try simp only [Act.put, List.setIfInBounds_toArray, List.set_cons_zero, List.set_cons_succ, List.getElem_toArray, List.getElem_cons_succ, List.getElem_cons_zero]
          refine wpAnyH_ready (rs := [18]) (by kernel_rfl) (by simp) ?_
          refine AllReadyH.cons (o := _) rfl (fun K hK => ?_) AllReadyH.nil
          have hH2 := hHeld
          obtain ⟨ob, bx⟩ := hH2
          try simp only [List.getElem_toArray, List.getElem_cons_succ, List.getElem_cons_zero]
          rw [if_pos (by rfl)]
          refine wp_append_smp _ _ rfl wi.heap.size _ _ rfl TG.out.own _ _ rfl (SAt.nil _) (by have := HK.out; have := HN.out; simp only [List.length_append, List.length_cons, List.length_nil, List.length_take, List.length_drop]; omega) TG.out.gr.size ?_
          intro v3 w73 hown hgrow hat
          replace TG := hid (TG.out.app hown hgrow hat)
          clear hown hgrow hat
          have L18 := hid (show (w73.heap[rb]? = some (.cells #[.int .i64 n, .int .i64 m, .int .i64 f, .slice none 0 0] 40)) ∧ (w73.heap[w.heap.size]? = some (.cells #[.int .i64 s.who, .int .i64 s.met, .int .i64 s.ep, .int .i64 s.val] 29)) from ⟨TG.out.ob, TG.out.bo⟩)
          clear hHeld ob bx
          refine hK.out _ _ ?_ (fun hHeld => ?_)
          · exact L18.out
          clear hK K
          try dsimp only at hHeld
          try simp only [Act.put, List.setIfInBounds_toArray, List.set_cons_zero, List.set_cons_succ, List.getElem_toArray, List.getElem_cons_succ, List.getElem_cons_zero]
          refine' wpAnyH_take (i := 19) (v := _) rfl (by kernel_rfl) (by kernel_rfl) (by kernel_rfl) (fun _ _ _ h => h) (Or.inl ⟨by rfl, ?_⟩) hHeld ?_
          rotate_left
          · (intro w hSw; (try dsimp only at hSw); go_simp; try with_reducible rfl)
          try simp only [Act.put, List.setIfInBounds_toArray, List.set_cons_zero, List.set_cons_succ, List.getElem_toArray, List.getElem_cons_succ, List.getElem_cons_zero]
          refine' wpAnyH_take (i := 20) (v := _) rfl (by kernel_rfl) (by kernel_rfl) (by kernel_rfl) (fun _ _ _ h => h) (Or.inl ⟨by rfl, ?_⟩) hHeld ?_
          rotate_left
          · (intro w hSw; (try dsimp only at hSw); go_simp; try with_reducible rfl)
          try simp only [Act.put, List.setIfInBounds_toArray, List.set_cons_zero, List.set_cons_succ, List.getElem_toArray, List.getElem_cons_succ, List.getElem_cons_zero]
          refine wpAnyH_done (by kernel_rfl) ?_ _
          obtain ⟨ob, bx⟩ := hHeld
          have HI3 := HINS.out
          have TG2 := TG.out
          simp only [List.take_zero, List.drop_zero, List.take_nil, List.drop_nil, List.nil_append, List.append_nil] at TG2 HI3; rw [HI3] at TG2
          obtain ⟨p3, c3x, e3⟩ := TG2.own.form
          subst e3
          have HF := hid (TG2.fin (HT1.out.grown HGI2.out) H0.out HE.out)
          have k3 := at_cell TG2.ob 3
          have k4 := at_free TG2.ob 3
          clear ob bx TG TG2 HI3
          refine atLast_step (o := _) rfl (fun K hK => ?_)
          try simp only [List.getElem_toArray, List.getElem_cons_succ, List.getElem_cons_zero]
          go_simp
          refine hK.out _ _ ?_
          clear hK K k3 k4
          try simp only [Act.put, List.setIfInBounds_toArray, List.set_cons_zero, List.set_cons_succ, List.getElem_toArray, List.getElem_cons_succ, List.getElem_cons_zero]
          go_wp2_with fail
          all_goals (go_ret; exact ⟨rfl, HF.out.1, (chg_grown (gb_trans G0.out (gb_trans G1.out HGI2.out (.inl rfl)) (.inl rfl)) _).then HF.out.2⟩)
      · have hH2 := hHeld
        obtain ⟨ob, bx⟩ := hH2
        have hg : (wi.drew).grownBy ((wi.drew).alloc (.cells #[.int .i64 s.who, .int .i64 s.met, .int .i64 s.ep, .int .i64 s.val] 29)) none := World.grownBy_alloc _ _ _
        have e0 := at_cell bx 0; have e1 := at_cell bx 1; have e2 := at_cell bx 2; have e3 := at_cell bx 3
        replace TG := hid TG.out.one
        try rw [World.size_alloc] at TG
        have L10 := hid (show (((wi.drew).alloc (.cells #[.int .i64 s.who, .int .i64 s.met, .int .i64 s.ep, .int .i64 s.val] 29)).heap[rb]? = some (.cells #[.int .i64 n, .int .i64 m, .int .i64 f, .slice none 0 0] 40)) ∧ (((wi.drew).alloc (.cells #[.int .i64 s.who, .int .i64 s.met, .int .i64 s.ep, .int .i64 s.val] 29)).heap[w.heap.size]? = some (.cells #[.int .i64 s.who, .int .i64 s.met, .int .i64 s.ep, .int .i64 s.val] 29)) from ⟨at_grown ob hg (by simp), at_grown bx hg (by simp)⟩)
        clear hHeld hg ob bx
        try simp only [List.getElem_toArray, List.getElem_cons_succ, List.getElem_cons_zero]
        go_simp
        refine hK.out _ _ ?_ (fun hHeld => ?_)
        · exact L10.out
        clear hK K
        try dsimp only at hHeld
        try simp only [Act.put, List.setIfInBounds_toArray, List.set_cons_zero, List.set_cons_succ, List.getElem_toArray, List.getElem_cons_succ, List.getElem_cons_zero]
        refine wpAnyH_ready (rs := [1]) (by kernel_rfl) (by simp) ?_
        refine AllReadyH.cons (o := _) rfl (fun K hK => ?_) AllReadyH.nil
        have hH2 := hHeld
        obtain ⟨ob, bx⟩ := hH2
        have hg : ((wi.drew).alloc (.cells #[.int .i64 s.who, .int .i64 s.met, .int .i64 s.ep, .int .i64 s.val] 29)).grownBy (((wi.drew).alloc (.cells #[.int .i64 s.who, .int .i64 s.met, .int .i64 s.ep, .int .i64 s.val] 29)).alloc (.cells #[] 29)) none := World.grownBy_alloc _ _ _
        replace TG := hid TG.out.fresh
        try rw [World.size_alloc] at TG
        have L1 := hid (show ((((wi.drew).alloc (.cells #[.int .i64 s.who, .int .i64 s.met, .int .i64 s.ep, .int .i64 s.val] 29)).alloc (.cells #[] 29)).heap[rb]? = some (.cells #[.int .i64 n, .int .i64 m, .int .i64 f, .slice none 0 0] 40)) ∧ ((((wi.drew).alloc (.cells #[.int .i64 s.who, .int .i64 s.met, .int .i64 s.ep, .int .i64 s.val] 29)).alloc (.cells #[] 29)).heap[w.heap.size]? = some (.cells #[.int .i64 s.who, .int .i64 s.met, .int .i64 s.ep, .int .i64 s.val] 29)) from ⟨at_grown ob hg (by simp), at_grown bx hg (by simp)⟩)
        clear hHeld hg ob bx
        try simp only [List.getElem_toArray, List.getElem_cons_succ, List.getElem_cons_zero]
        go_simp
        refine hK.out _ _ ?_ (fun hHeld => ?_)
        · exact L1.out
        clear hK K
        try dsimp only at hHeld
        try simp only [Act.put, List.setIfInBounds_toArray, List.set_cons_zero, List.set_cons_succ, List.getElem_toArray, List.getElem_cons_succ, List.getElem_cons_zero]
        refine wpAnyH_ready (rs := [8]) (by kernel_rfl) (by simp) ?_
        refine AllReadyH.cons (o := _) rfl (fun K hK => ?_) AllReadyH.nil
        have hH2 := hHeld
        obtain ⟨ob, bx⟩ := hH2
        try simp only [List.getElem_toArray, List.getElem_cons_succ, List.getElem_cons_zero]
        rw [if_pos (by rfl)]
        refine wp_append_smp _ _ rfl wi.heap.size _ _ rfl TG.out.own _ _ rfl (SAt.nil _) (by have := HK.out; have := HN.out; simp only [List.length_append, List.length_cons, List.length_nil, List.length_take, List.length_drop]; omega) TG.out.gr.size ?_
        intro v1 w71 hown hgrow hat
        replace TG := hid (TG.out.app hown hgrow hat)
        clear hown hgrow hat
        have L8 := hid (show (w71.heap[rb]? = some (.cells #[.int .i64 n, .int .i64 m, .int .i64 f, .slice none 0 0] 40)) ∧ (w71.heap[w.heap.size]? = some (.cells #[.int .i64 s.who, .int .i64 s.met, .int .i64 s.ep, .int .i64 s.val] 29)) from ⟨TG.out.ob, TG.out.bo⟩)
        clear hHeld ob bx
        refine hK.out _ _ ?_ (fun hHeld => ?_)
        · exact L8.out
        clear hK K
        try dsimp only at hHeld
        try simp only [Act.put, List.setIfInBounds_toArray, List.set_cons_zero, List.set_cons_succ, List.getElem_toArray, List.getElem_cons_succ, List.getElem_cons_zero]
        refine wpAnyH_ready (rs := [11]) (by kernel_rfl) (by simp) ?_
        refine AllReadyH.cons (o := _) rfl (fun K hK => ?_) AllReadyH.nil
        have hH2 := hHeld
        obtain ⟨ob, bx⟩ := hH2
        try simp only [List.getElem_toArray, List.getElem_cons_succ, List.getElem_cons_zero]
        rw [if_pos (by rfl)]
        refine wp_append_smp _ _ rfl wi.heap.size _ _ rfl TG.out.own _ _ rfl TG.out.on (by have := HK.out; have := HN.out; simp only [List.length_append, List.length_cons, List.length_nil, List.length_take, List.length_drop]; omega) TG.out.gr.size ?_
        intro v2 w72 hown hgrow hat
        replace TG := hid (TG.out.app hown hgrow hat)
        clear hown hgrow hat
        have L11 := hid (show (w72.heap[rb]? = some (.cells #[.int .i64 n, .int .i64 m, .int .i64 f, .slice none 0 0] 40)) ∧ (w72.heap[w.heap.size]? = some (.cells #[.int .i64 s.who, .int .i64 s.met, .int .i64 s.ep, .int .i64 s.val] 29)) from ⟨TG.out.ob, TG.out.bo⟩)
        clear hHeld ob bx
        refine hK.out _ _ ?_ (fun hHeld => ?_)
        · exact L11.out
        clear hK K
        try dsimp only at hHeld
        try simp only [Act.put, List.setIfInBounds_toArray, List.set_cons_zero, List.set_cons_succ, List.getElem_toArray, List.getElem_cons_succ, List.getElem_cons_zero]
        refine wpAnyH_ready (rs := [18]) (by kernel_rfl) (by simp) ?_
        refine AllReadyH.cons (o := _) rfl (fun K hK => ?_) AllReadyH.nil
        have hH2 := hHeld
        obtain ⟨ob, bx⟩ := hH2
        try simp only [List.getElem_toArray, List.getElem_cons_succ, List.getElem_cons_zero]
        rw [if_pos (by rfl)]
        refine wp_append_smp _ _ rfl wi.heap.size _ _ rfl TG.out.own _ _ rfl (SAt.nil _) (by have := HK.out; have := HN.out; simp only [List.length_append, List.length_cons, List.length_nil, List.length_take, List.length_drop]; omega) TG.out.gr.size ?_
        intro v3 w73 hown hgrow hat
        replace TG := hid (TG.out.app hown hgrow hat)
        clear hown hgrow hat
        have L18 := hid (show (w73.heap[rb]? = some (.cells #[.int .i64 n, .int .i64 m, .int .i64 f, .slice none 0 0] 40)) ∧ (w73.heap[w.heap.size]? = some (.cells #[.int .i64 s.who, .int .i64 s.met, .int .i64 s.ep, .int .i64 s.val] 29)) from ⟨TG.out.ob, TG.out.bo⟩)
        clear hHeld ob bx
        refine hK.out _ _ ?_ (fun hHeld => ?_)
        · exact L18.out
        clear hK K
        try dsimp only at hHeld
        try simp only [Act.put, List.setIfInBounds_toArray, List.set_cons_zero, List.set_cons_succ, List.getElem_toArray, List.getElem_cons_succ, List.getElem_cons_zero]
        refine' wpAnyH_take (i := 19) (v := _) rfl (by kernel_rfl) (by kernel_rfl) (by kernel_rfl) (fun _ _ _ h => h) (Or.inl ⟨by rfl, ?_⟩) hHeld ?_
        rotate_left
        · (intro w hSw; (try dsimp only at hSw); go_simp; try with_reducible rfl)
        try simp only [Act.put, List.setIfInBounds_toArray, List.set_cons_zero, List.set_cons_succ, List.getElem_toArray, List.getElem_cons_succ, List.getElem_cons_zero]
        refine' wpAnyH_take (i := 20) (v := _) rfl (by kernel_rfl) (by kernel_rfl) (by kernel_rfl) (fun _ _ _ h => h) (Or.inl ⟨by rfl, ?_⟩) hHeld ?_
        rotate_left
        · (intro w hSw; (try dsimp only at hSw); go_simp; try with_reducible rfl)
        try simp only [Act.put, List.setIfInBounds_toArray, List.set_cons_zero, List.set_cons_succ, List.getElem_toArray, List.getElem_cons_succ, List.getElem_cons_zero]
        refine wpAnyH_done (by kernel_rfl) ?_ _
        obtain ⟨ob, bx⟩ := hHeld
        have HI3 := HINS.out
        have TG2 := TG.out
        simp only [List.take_zero, List.drop_zero, List.take_nil, List.drop_nil, List.nil_append, List.append_nil] at TG2 HI3; rw [HI3] at TG2
        obtain ⟨p3, c3x, e3⟩ := TG2.own.form
        subst e3
        have HF := hid (TG2.fin (HT1.out.grown HGI2.out) H0.out HE.out)
        have k3 := at_cell TG2.ob 3
        have k4 := at_free TG2.ob 3
        clear ob bx TG TG2 HI3
        refine atLast_step (o := _) rfl (fun K hK => ?_)
        try simp only [List.getElem_toArray, List.getElem_cons_succ, List.getElem_cons_zero]
        go_simp
        refine hK.out _ _ ?_
        clear hK K k3 k4
        try simp only [Act.put, List.setIfInBounds_toArray, List.set_cons_zero, List.set_cons_succ, List.getElem_toArray, List.getElem_cons_succ, List.getElem_cons_zero]
        go_wp2_with fail
        all_goals (go_ret; exact ⟨rfl, HF.out.1, (chg_grown (gb_trans G0.out (gb_trans G1.out HGI2.out (.inl rfl)) (.inl rfl)) _).then HF.out.2⟩)
  | some am =>
    obtain ⟨g, o, rfl⟩ : ∃ g o, am = ⟨g, o, none⟩ := by
      rcases HRD.out with ⟨e, _⟩ | ⟨b', o', cap, e, _⟩
      · cases e
      · cases e; exact ⟨_, _, rfl⟩
    have HC := hid (show N ≤ c ∧ c ≤ maxLen by
      rcases HRD.out with ⟨e, _⟩ | ⟨b', o', cap, e, k1, k2, _⟩
      · cases e
      · cases e; exact ⟨k1, k2⟩)
    have C3 := hid (at_cell HOB.out 3)
    go_loopw [8] (fun x wr => ∃ j : Nat, j ≤ N ∧ x = .int .i64 (j : Int) ∧ (∀ i, (h : i < L.length) → j ≤ i → PlLt s.pl L[i].pl) ∧ w1.grownBy wr none) (fun x _ => (intOf x).toNat)
    case atStart => exact ⟨N, Nat.le_refl _, rfl, fun i h hi => absurd h (by rw [HN.out]; omega), .refl w1 none⟩
    case round =>
      obtain ⟨j, hj, rfl, hab, hgi⟩ := hrel
      have HAB := hid hab; have HGI := hid hgi; have HJ := hid hj
      clear hab hgi hj
      by_cases hj0 : j = 0
      · obtain ⟨z, hz⟩ : ∃ z, z = (j : Int) := ⟨_, rfl⟩
        have z0 : ¬ 0 < z := by omega
        rw [← hz]
        have JZ := hid hz
        have HINS := hid (HINS0.out j (by rw [HN.out]; exact HJ.out) HAB.out (fun i h hi => absurd hi (by omega)))
        have gi := HGI.out
        clear hz hj0
        go_upto_region 5 with fail
        refine wp_region_held_drew (S := (fun w' => (w1.grownBy w' none))) (by kernel_rfl) (gb_drew gi) (fun hHeld => ?_)
        try dsimp only at hHeld
        clear gi
        refine' wpAnyH_take (i := 0) (v := _) rfl (by kernel_rfl) (by kernel_rfl) (by kernel_rfl) (fun _ _ _ h => h) (Or.inl ⟨by rfl, ?_⟩) hHeld ?_
        rotate_left
        · (intro w hSw; (try dsimp only at hSw); go_simp; try with_reducible rfl)
        try simp only [Act.put, List.setIfInBounds_toArray, List.set_cons_zero, List.set_cons_succ, List.getElem_toArray, List.getElem_cons_succ, List.getElem_cons_zero]
        refine' wpAnyH_take (i := 1) (v := _) rfl (by kernel_rfl) (by kernel_rfl) (by kernel_rfl) (fun _ _ _ h => h) (Or.inl ⟨by rfl, ?_⟩) hHeld ?_
        rotate_left
        · (intro w hSw; (try dsimp only at hSw); go_simp; try with_reducible rfl)
        try simp only [Act.put, List.setIfInBounds_toArray, List.set_cons_zero, List.set_cons_succ, List.getElem_toArray, List.getElem_cons_succ, List.getElem_cons_zero]
        refine' wpAnyH_take (i := 2) (v := _) rfl (by kernel_rfl) (by kernel_rfl) (by kernel_rfl) (fun _ _ _ h => h) (Or.inl ⟨by rfl, ?_⟩) hHeld ?_
        rotate_left
        · (intro w hSw; (try dsimp only at hSw); go_simp; try with_reducible rfl)
        try simp only [Act.put, List.setIfInBounds_toArray, List.set_cons_zero, List.set_cons_succ, List.getElem_toArray, List.getElem_cons_succ, List.getElem_cons_zero]
        refine' wpAnyH_take (i := 3) (v := undef) rfl (by kernel_rfl) (by kernel_rfl) (by kernel_rfl) (fun _ _ _ h => h) (Or.inr ⟨by rfl, rfl⟩) hHeld ?_
        try simp only [Act.put, List.setIfInBounds_toArray, List.set_cons_zero, List.set_cons_succ, List.getElem_toArray, List.getElem_cons_succ, List.getElem_cons_zero]
        refine' wpAnyH_take (i := 4) (v := undef) rfl (by kernel_rfl) (by kernel_rfl) (by kernel_rfl) (fun _ _ _ h => h) (Or.inr ⟨by rfl, rfl⟩) hHeld ?_
        try simp only [Act.put, List.setIfInBounds_toArray, List.set_cons_zero, List.set_cons_succ, List.getElem_toArray, List.getElem_cons_succ, List.getElem_cons_zero]
        refine' wpAnyH_take (i := 5) (v := undef) rfl (by kernel_rfl) (by kernel_rfl) (by kernel_rfl) (fun _ _ _ h => h) (Or.inr ⟨by rfl, rfl⟩) hHeld ?_
        try simp only [Act.put, List.setIfInBounds_toArray, List.set_cons_zero, List.set_cons_succ, List.getElem_toArray, List.getElem_cons_succ, List.getElem_cons_zero]
        refine' wpAnyH_take (i := 6) (v := undef) rfl (by kernel_rfl) (by kernel_rfl) (by kernel_rfl) (fun _ _ _ h => h) (Or.inr ⟨by rfl, rfl⟩) hHeld ?_
        try simp only [Act.put, List.setIfInBounds_toArray, List.set_cons_zero, List.set_cons_succ, List.getElem_toArray, List.getElem_cons_succ, List.getElem_cons_zero]
        refine' wpAnyH_take (i := 7) (v := undef) rfl (by kernel_rfl) (by kernel_rfl) (by kernel_rfl) (fun _ _ _ h => h) (Or.inr ⟨by rfl, rfl⟩) hHeld ?_
        try simp only [Act.put, List.setIfInBounds_toArray, List.set_cons_zero, List.set_cons_succ, List.getElem_toArray, List.getElem_cons_succ, List.getElem_cons_zero]
        refine' wpAnyH_take (i := 8) (v := undef) rfl (by kernel_rfl) (by kernel_rfl) (by kernel_rfl) (fun _ _ _ h => h) (Or.inr ⟨by rfl, rfl⟩) hHeld ?_
        try simp only [Act.put, List.setIfInBounds_toArray, List.set_cons_zero, List.set_cons_succ, List.getElem_toArray, List.getElem_cons_succ, List.getElem_cons_zero]
        refine' wpAnyH_take (i := 9) (v := undef) rfl (by kernel_rfl) (by kernel_rfl) (by kernel_rfl) (fun _ _ _ h => h) (Or.inr ⟨by rfl, rfl⟩) hHeld ?_
        try simp only [Act.put, List.setIfInBounds_toArray, List.set_cons_zero, List.set_cons_succ, List.getElem_toArray, List.getElem_cons_succ, List.getElem_cons_zero]
        refine' wpAnyH_take (i := 10) (v := undef) rfl (by kernel_rfl) (by kernel_rfl) (by kernel_rfl) (fun _ _ _ h => h) (Or.inr ⟨by rfl, rfl⟩) hHeld ?_
        try simp only [Act.put, List.setIfInBounds_toArray, List.set_cons_zero, List.set_cons_succ, List.getElem_toArray, List.getElem_cons_succ, List.getElem_cons_zero]
        refine' wpAnyH_take (i := 11) (v := undef) rfl (by kernel_rfl) (by kernel_rfl) (by kernel_rfl) (fun _ _ _ h => h) (Or.inr ⟨by rfl, rfl⟩) hHeld ?_
        try simp only [Act.put, List.setIfInBounds_toArray, List.set_cons_zero, List.set_cons_succ, List.getElem_toArray, List.getElem_cons_succ, List.getElem_cons_zero]
        refine' wpAnyH_take (i := 12) (v := undef) rfl (by kernel_rfl) (by kernel_rfl) (by kernel_rfl) (fun _ _ _ h => h) (Or.inr ⟨by rfl, rfl⟩) hHeld ?_
        try simp only [Act.put, List.setIfInBounds_toArray, List.set_cons_zero, List.set_cons_succ, List.getElem_toArray, List.getElem_cons_succ, List.getElem_cons_zero]
        refine' wpAnyH_take (i := 13) (v := _) rfl (by kernel_rfl) (by kernel_rfl) (by kernel_rfl) (fun _ _ _ h => h) (Or.inl ⟨by rfl, ?_⟩) hHeld ?_
        rotate_left
        · (intro w hSw; (try dsimp only at hSw); go_simp; try with_reducible rfl)
        try simp only [Act.put, List.setIfInBounds_toArray, List.set_cons_zero, List.set_cons_succ, List.getElem_toArray, List.getElem_cons_succ, List.getElem_cons_zero]
        refine wpAnyH_done (by kernel_rfl) ?_ _
        have gi := hHeld
        have HGI2 := hid gi
        clear gi z0
        generalize hwi : wr.drew = wi at *
        clear hwi
        obtain rfl := JZ.out
        have q1 : (j : Int) ≤ (N : Int) := by have := HJ.out; omega
        have q6 : (j : Int) ≤ (c : Int) := by have := HJ.out; have := HC.out; omega
        have TG := hid (Pk.start HGI2.out HOB.out HBX.out HRD.out HV.out)
        go_upto_region 7 with fail
        replace TG := hid TG.out.drew
        refine wp_region_last (S := (fun w' => (w'.heap[rb]? = some (.cells #[.int .i64 n, .int .i64 m, .int .i64 f, .slice (some ⟨g, o, none⟩) N c] 40)) ∧ (w'.heap[w.heap.size]? = some (.cells #[.int .i64 s.who, .int .i64 s.met, .int .i64 s.ep, .int .i64 s.val] 29)))) 21 21 #[false, false, false, false, false, false, false, false, false, false, false, false, false, false, false, false, false, false, false, false, false, true] (by kernel_rfl) (by kernel_rfl) (by kernel_rfl) (by kernel_rfl) ⟨TG.out.ob, TG.out.bo⟩ (fun hHeld => ?_)
        try dsimp only at hHeld
        refine' wpAnyH_take (i := 0) (v := _) rfl (by kernel_rfl) (by kernel_rfl) (by kernel_rfl) (fun _ _ _ h => h) (Or.inl ⟨by rfl, ?_⟩) hHeld ?_
        rotate_left
        · (intro w hSw; (try dsimp only at hSw); go_simp; try with_reducible rfl)
        try simp only [Act.put, List.setIfInBounds_toArray, List.set_cons_zero, List.set_cons_succ, List.getElem_toArray, List.getElem_cons_succ, List.getElem_cons_zero]
        refine' wpAnyH_take (i := 2) (v := _) rfl (by kernel_rfl) (by kernel_rfl) (by kernel_rfl) (fun _ _ _ h => h) (Or.inl ⟨by rfl, ?_⟩) hHeld ?_
        rotate_left
        · (intro w hSw; (try dsimp only at hSw); go_simp; try with_reducible rfl)
        try simp only [Act.put, List.setIfInBounds_toArray, List.set_cons_zero, List.set_cons_succ, List.getElem_toArray, List.getElem_cons_succ, List.getElem_cons_zero]
        refine' wpAnyH_take (i := 3) (v := _) rfl (by kernel_rfl) (by kernel_rfl) (by kernel_rfl) (fun _ _ _ h => h) (Or.inl ⟨by rfl, ?_⟩) hHeld ?_
        rotate_left
        · (intro w hSw; (try dsimp only at hSw); go_simp; try with_reducible rfl)
        try simp only [Act.put, List.setIfInBounds_toArray, List.set_cons_zero, List.set_cons_succ, List.getElem_toArray, List.getElem_cons_succ, List.getElem_cons_zero]
        refine' wpAnyH_take (i := 4) (v := _) rfl (by kernel_rfl) (by kernel_rfl) (by kernel_rfl) (fun _ _ _ h => h) (Or.inl ⟨by rfl, ?_⟩) hHeld ?_
        rotate_left
        · (intro w hSw; (try dsimp only at hSw); go_simp; try with_reducible rfl)
        try simp only [Act.put, List.setIfInBounds_toArray, List.set_cons_zero, List.set_cons_succ, List.getElem_toArray, List.getElem_cons_succ, List.getElem_cons_zero]
        refine' wpAnyH_take (i := 5) (v := _) rfl (by kernel_rfl) (by kernel_rfl) (by kernel_rfl) (fun _ _ _ h => h) (Or.inl ⟨by rfl, ?_⟩) hHeld ?_
        rotate_left
        · (intro w hSw; (try dsimp only at hSw); obtain ⟨ob, bx⟩ := hSw; have q9 := at_cell ob 3; go_simp; try with_reducible rfl)
        try simp only [Act.put, List.setIfInBounds_toArray, List.set_cons_zero, List.set_cons_succ, List.getElem_toArray, List.getElem_cons_succ, List.getElem_cons_zero]
        refine' wpAnyH_take (i := 6) (v := _) rfl (by kernel_rfl) (by kernel_rfl) (by kernel_rfl) (fun _ _ _ h => h) (Or.inl ⟨by rfl, ?_⟩) hHeld ?_
        rotate_left
        · (intro w hSw; (try dsimp only at hSw); go_simp; try with_reducible rfl)
        try simp only [Act.put, List.setIfInBounds_toArray, List.set_cons_zero, List.set_cons_succ, List.getElem_toArray, List.getElem_cons_succ, List.getElem_cons_zero]
        refine' wpAnyH_take (i := 7) (v := _) rfl (by kernel_rfl) (by kernel_rfl) (by kernel_rfl) (fun _ _ _ h => h) (Or.inl ⟨by rfl, ?_⟩) hHeld ?_
        rotate_left
        · (intro w hSw; (try dsimp only at hSw); go_simp; try with_reducible rfl)
        try simp only [Act.put, List.setIfInBounds_toArray, List.set_cons_zero, List.set_cons_succ, List.getElem_toArray, List.getElem_cons_succ, List.getElem_cons_zero]
        refine' wpAnyH_take (i := 9) (v := _) rfl (by kernel_rfl) (by kernel_rfl) (by kernel_rfl) (fun _ _ _ h => h) (Or.inl ⟨by rfl, ?_⟩) hHeld ?_
        rotate_left
        · (intro w hSw; (try dsimp only at hSw); obtain ⟨ob, bx⟩ := hSw; have e0 := at_cell bx 0; have e1 := at_cell bx 1; have e2 := at_cell bx 2; have e3 := at_cell bx 3; go_simp; try with_reducible rfl)
        try simp only [Act.put, List.setIfInBounds_toArray, List.set_cons_zero, List.set_cons_succ, List.getElem_toArray, List.getElem_cons_succ, List.getElem_cons_zero]
        refine' wpAnyH_take (i := 12) (v := _) rfl (by kernel_rfl) (by kernel_rfl) (by kernel_rfl) (fun _ _ _ h => h) (Or.inl ⟨by rfl, ?_⟩) hHeld ?_
        rotate_left
        · (intro w hSw; (try dsimp only at hSw); go_simp; try with_reducible rfl)
        try simp only [Act.put, List.setIfInBounds_toArray, List.set_cons_zero, List.set_cons_succ, List.getElem_toArray, List.getElem_cons_succ, List.getElem_cons_zero]
        refine' wpAnyH_take (i := 13) (v := _) rfl (by kernel_rfl) (by kernel_rfl) (by kernel_rfl) (fun _ _ _ h => h) (Or.inl ⟨by rfl, ?_⟩) hHeld ?_
        rotate_left
        · (intro w hSw; (try dsimp only at hSw); go_simp; try with_reducible rfl)
        try simp only [Act.put, List.setIfInBounds_toArray, List.set_cons_zero, List.set_cons_succ, List.getElem_toArray, List.getElem_cons_succ, List.getElem_cons_zero]
        refine' wpAnyH_take (i := 14) (v := _) rfl (by kernel_rfl) (by kernel_rfl) (by kernel_rfl) (fun _ _ _ h => h) (Or.inl ⟨by rfl, ?_⟩) hHeld ?_
        rotate_left
        · (intro w hSw; (try dsimp only at hSw); go_simp; try with_reducible rfl)
        try simp only [Act.put, List.setIfInBounds_toArray, List.set_cons_zero, List.set_cons_succ, List.getElem_toArray, List.getElem_cons_succ, List.getElem_cons_zero]
        refine' wpAnyH_take (i := 15) (v := _) rfl (by kernel_rfl) (by kernel_rfl) (by kernel_rfl) (fun _ _ _ h => h) (Or.inl ⟨by rfl, ?_⟩) hHeld ?_
        rotate_left
        · (intro w hSw; (try dsimp only at hSw); obtain ⟨ob, bx⟩ := hSw; have q9 := at_cell ob 3; go_simp; try with_reducible rfl)
        try simp only [Act.put, List.setIfInBounds_toArray, List.set_cons_zero, List.set_cons_succ, List.getElem_toArray, List.getElem_cons_succ, List.getElem_cons_zero]
        refine' wpAnyH_take (i := 16) (v := _) rfl (by kernel_rfl) (by kernel_rfl) (by kernel_rfl) (fun _ _ _ h => h) (Or.inl ⟨by rfl, ?_⟩) hHeld ?_
        rotate_left
        · (intro w hSw; (try dsimp only at hSw); go_simp; try with_reducible rfl)
        try simp only [Act.put, List.setIfInBounds_toArray, List.set_cons_zero, List.set_cons_succ, List.getElem_toArray, List.getElem_cons_succ, List.getElem_cons_zero]
        refine' wpAnyH_take (i := 17) (v := _) rfl (by kernel_rfl) (by kernel_rfl) (by kernel_rfl) (fun _ _ _ h => h) (Or.inl ⟨by rfl, ?_⟩) hHeld ?_
        rotate_left
        · (intro w hSw; (try dsimp only at hSw); go_simp; try with_reducible rfl)
        try simp only [Act.put, List.setIfInBounds_toArray, List.set_cons_zero, List.set_cons_succ, List.getElem_toArray, List.getElem_cons_succ, List.getElem_cons_zero]
        refine wpAnyH_ready (rs := [1, 10]) (by kernel_rfl) (by simp) ?_
        refine AllReadyH.cons (o := _) rfl (fun K hK => ?_) (AllReadyH.cons (o := _) rfl (fun K hK => ?_) AllReadyH.nil)
        · have hH2 := hHeld
          obtain ⟨ob, bx⟩ := hH2
          have hg : (wi.drew).grownBy ((wi.drew).alloc (.cells #[] 29)) none := World.grownBy_alloc _ _ _
          replace TG := hid TG.out.fresh
          try rw [World.size_alloc] at TG
          have L1 := hid (show (((wi.drew).alloc (.cells #[] 29)).heap[rb]? = some (.cells #[.int .i64 n, .int .i64 m, .int .i64 f, .slice (some ⟨g, o, none⟩) N c] 40)) ∧ (((wi.drew).alloc (.cells #[] 29)).heap[w.heap.size]? = some (.cells #[.int .i64 s.who, .int .i64 s.met, .int .i64 s.ep, .int .i64 s.val] 29)) from ⟨at_grown ob hg (by simp), at_grown bx hg (by simp)⟩)
          clear hHeld hg ob bx
          try simp only [List.getElem_toArray, List.getElem_cons_succ, List.getElem_cons_zero]
          go_simp
          refine hK.out _ _ ?_ (fun hHeld => ?_)
          · exact L1.out
          clear hK K
          try dsimp only at hHeld
          try simp only [Act.put, List.setIfInBounds_toArray, List.set_cons_zero, List.set_cons_succ, List.getElem_toArray, List.getElem_cons_succ, List.getElem_cons_zero]
          refine wpAnyH_ready (rs := [8, 10]) (by kernel_rfl) (by simp) ?_
          refine AllReadyH.cons (o := _) rfl (fun K hK => ?_) (AllReadyH.cons (o := _) rfl (fun K hK => ?_) AllReadyH.nil)
          · have hH2 := hHeld
            obtain ⟨ob, bx⟩ := hH2
            try simp only [List.getElem_toArray, List.getElem_cons_succ, List.getElem_cons_zero]
            rw [if_pos (by rfl)]
            refine wp_append_smp _ _ rfl wi.heap.size _ _ rfl TG.out.own _ _ rfl (TG.out.rd.take HJ.out) (by have := HK.out; have := HN.out; simp only [List.length_append, List.length_cons, List.length_nil, List.length_take, List.length_drop]; omega) TG.out.gr.size ?_
            intro v1 w71 hown hgrow hat
            replace TG := hid (TG.out.app hown hgrow hat)
            clear hown hgrow hat
            have L8 := hid (show (w71.heap[rb]? = some (.cells #[.int .i64 n, .int .i64 m, .int .i64 f, .slice (some ⟨g, o, none⟩) N c] 40)) ∧ (w71.heap[w.heap.size]? = some (.cells #[.int .i64 s.who, .int .i64 s.met, .int .i64 s.ep, .int .i64 s.val] 29)) from ⟨TG.out.ob, TG.out.bo⟩)
            clear hHeld ob bx
            refine hK.out _ _ ?_ (fun hHeld => ?_)
            · exact L8.out
            clear hK K
            try dsimp only at hHeld
            try simp only [Act.put, List.setIfInBounds_toArray, List.set_cons_zero, List.set_cons_succ, List.getElem_toArray, List.getElem_cons_succ, List.getElem_cons_zero]
            refine wpAnyH_ready (rs := [10]) (by kernel_rfl) (by simp) ?_
            refine AllReadyH.cons (o := _) rfl (fun K hK => ?_) AllReadyH.nil
            have hH2 := hHeld
            obtain ⟨ob, bx⟩ := hH2
            have hg : w71.grownBy (w71.alloc (.cells #[.int .i64 s.who, .int .i64 s.met, .int .i64 s.ep, .int .i64 s.val] 29)) none := World.grownBy_alloc _ _ _
            have e0 := at_cell bx 0; have e1 := at_cell bx 1; have e2 := at_cell bx 2; have e3 := at_cell bx 3
            replace TG := hid TG.out.one
            try rw [World.size_alloc] at TG
            have L10 := hid (show ((w71.alloc (.cells #[.int .i64 s.who, .int .i64 s.met, .int .i64 s.ep, .int .i64 s.val] 29)).heap[rb]? = some (.cells #[.int .i64 n, .int .i64 m, .int .i64 f, .slice (some ⟨g, o, none⟩) N c] 40)) ∧ ((w71.alloc (.cells #[.int .i64 s.who, .int .i64 s.met, .int .i64 s.ep, .int .i64 s.val] 29)).heap[w.heap.size]? = some (.cells #[.int .i64 s.who, .int .i64 s.met, .int .i64 s.ep, .int .i64 s.val] 29)) from ⟨at_grown ob hg (by simp), at_grown bx hg (by simp)⟩)
            clear hHeld hg ob bx
            try simp only [List.getElem_toArray, List.getElem_cons_succ, List.getElem_cons_zero]
            go_simp
            refine hK.out _ _ ?_ (fun hHeld => ?_)
            · exact L10.out
            clear hK K
            try dsimp only at hHeld
            try simp only [Act.put, List.setIfInBounds_toArray, List.set_cons_zero, List.set_cons_succ, List.getElem_toArray, List.getElem_cons_succ, List.getElem_cons_zero]
            refine wpAnyH_ready (rs := [11]) (by kernel_rfl) (by simp) ?_
            refine AllReadyH.cons (o := _) rfl (fun K hK => ?_) AllReadyH.nil
            have hH2 := hHeld
            obtain ⟨ob, bx⟩ := hH2
            try simp only [List.getElem_toArray, List.getElem_cons_succ, List.getElem_cons_zero]
            rw [if_pos (by rfl)]
            refine wp_append_smp _ _ rfl wi.heap.size _ _ rfl TG.out.own _ _ rfl TG.out.on (by have := HK.out; have := HN.out; simp only [List.length_append, List.length_cons, List.length_nil, List.length_take, List.length_drop]; omega) TG.out.gr.size ?_
            intro v2 w72 hown hgrow hat
            replace TG := hid (TG.out.app hown hgrow hat)
            clear hown hgrow hat
            have L11 := hid (show (w72.heap[rb]? = some (.cells #[.int .i64 n, .int .i64 m, .int .i64 f, .slice (some ⟨g, o, none⟩) N c] 40)) ∧ (w72.heap[w.heap.size]? = some (.cells #[.int .i64 s.who, .int .i64 s.met, .int .i64 s.ep, .int .i64 s.val] 29)) from ⟨TG.out.ob, TG.out.bo⟩)
            clear hHeld ob bx
            refine hK.out _ _ ?_ (fun hHeld => ?_)
            · exact L11.out
            clear hK K
            try dsimp only at hHeld
            try simp only [Act.put, List.setIfInBounds_toArray, List.set_cons_zero, List.set_cons_succ, List.getElem_toArray, List.getElem_cons_succ, List.getElem_cons_zero]
            refine wpAnyH_ready (rs := [18]) (by kernel_rfl) (by simp) ?_
            refine AllReadyH.cons (o := _) rfl (fun K hK => ?_) AllReadyH.nil
            have hH2 := hHeld
            obtain ⟨ob, bx⟩ := hH2
            try simp only [List.getElem_toArray, List.getElem_cons_succ, List.getElem_cons_zero]
            rw [if_pos (by rfl)]
            refine wp_append_smp _ _ rfl wi.heap.size _ _ rfl TG.out.own _ _ rfl (TG.out.rd.dropI HJ.out) (by have := HK.out; have := HN.out; simp only [List.length_append, List.length_cons, List.length_nil, List.length_take, List.length_drop]; omega) TG.out.gr.size ?_
            intro v3 w73 hown hgrow hat
            replace TG := hid (TG.out.app hown hgrow hat)
            clear hown hgrow hat
            have L18 := hid (show (w73.heap[rb]? = some (.cells #[.int .i64 n, .int .i64 m, .int .i64 f, .slice (some ⟨g, o, none⟩) N c] 40)) ∧ (w73.heap[w.heap.size]? = some (.cells #[.int .i64 s.who, .int .i64 s.met, .int .i64 s.ep, .int .i64 s.val] 29)) from ⟨TG.out.ob, TG.out.bo⟩)
            clear hHeld ob bx
            refine hK.out _ _ ?_ (fun hHeld => ?_)
            · exact L18.out
            clear hK K
            try dsimp only at hHeld
            try simp only [Act.put, List.setIfInBounds_toArray, List.set_cons_zero, List.set_cons_succ, List.getElem_toArray, List.getElem_cons_succ, List.getElem_cons_zero]
            refine' wpAnyH_take (i := 19) (v := _) rfl (by kernel_rfl) (by kernel_rfl) (by kernel_rfl) (fun _ _ _ h => h) (Or.inl ⟨by rfl, ?_⟩) hHeld ?_
            rotate_left
            · (intro w hSw; (try dsimp only at hSw); go_simp; try with_reducible rfl)
            try simp only [Act.put, List.setIfInBounds_toArray, List.set_cons_zero, List.set_cons_succ, List.getElem_toArray, List.getElem_cons_succ, List.getElem_cons_zero]
            refine' wpAnyH_take (i := 20) (v := _) rfl (by kernel_rfl) (by kernel_rfl) (by kernel_rfl) (fun _ _ _ h => h) (Or.inl ⟨by rfl, ?_⟩) hHeld ?_
            rotate_left
            · (intro w hSw; (try dsimp only at hSw); go_simp; try with_reducible rfl)
            try simp only [Act.put, List.setIfInBounds_toArray, List.set_cons_zero, List.set_cons_succ, List.getElem_toArray, List.getElem_cons_succ, List.getElem_cons_zero]
            refine wpAnyH_done (by kernel_rfl) ?_ _
            obtain ⟨ob, bx⟩ := hHeld
            have HI3 := HINS.out
            have TG2 := TG.out
            simp only [List.nil_append] at TG2; rw [HI3] at TG2
            obtain ⟨p3, c3x, e3⟩ := TG2.own.form
            subst e3
            have HF := hid (TG2.fin (HT1.out.grown HGI2.out) H0.out HE.out)
            have k3 := at_cell TG2.ob 3
            have k4 := at_free TG2.ob 3
            clear ob bx TG TG2 HI3
            refine atLast_step (o := _) rfl (fun K hK => ?_)
            try simp only [List.getElem_toArray, List.getElem_cons_succ, List.getElem_cons_zero]
            go_simp
            refine hK.out _ _ ?_
            clear hK K k3 k4
            try simp only [Act.put, List.setIfInBounds_toArray, List.set_cons_zero, List.set_cons_succ, List.getElem_toArray, List.getElem_cons_succ, List.getElem_cons_zero]
            go_wp2_with fail
            all_goals (go_ret; exact ⟨rfl, HF.out.1, (chg_grown (gb_trans G0.out (gb_trans G1.out HGI2.out (.inl rfl)) (.inl rfl)) _).then HF.out.2⟩)
          · have hH2 := hHeld
            obtain ⟨ob, bx⟩ := hH2
            have hg : ((wi.drew).alloc (.cells #[] 29)).grownBy (((wi.drew).alloc (.cells #[] 29)).alloc (.cells #[.int .i64 s.who, .int .i64 s.met, .int .i64 s.ep, .int .i64 s.val] 29)) none := World.grownBy_alloc _ _ _
            have e0 := at_cell bx 0; have e1 := at_cell bx 1; have e2 := at_cell bx 2; have e3 := at_cell bx 3
            replace TG := hid TG.out.one
            try rw [World.size_alloc] at TG
            have L10 := hid (show ((((wi.drew).alloc (.cells #[] 29)).alloc (.cells #[.int .i64 s.who, .int .i64 s.met, .int .i64 s.ep, .int .i64 s.val] 29)).heap[rb]? = some (.cells #[.int .i64 n, .int .i64 m, .int .i64 f, .slice (some ⟨g, o, none⟩) N c] 40)) ∧ ((((wi.drew).alloc (.cells #[] 29)).alloc (.cells #[.int .i64 s.who, .int .i64 s.met, .int .i64 s.ep, .int .i64 s.val] 29)).heap[w.heap.size]? = some (.cells #[.int .i64 s.who, .int .i64 s.met, .int .i64 s.ep, .int .i64 s.val] 29)) from ⟨at_grown ob hg (by simp), at_grown bx hg (by simp)⟩)
            clear hHeld hg ob bx
            try simp only [List.getElem_toArray, List.getElem_cons_succ, List.getElem_cons_zero]
            go_simp
            refine hK.out _ _ ?_ (fun hHeld => ?_)
            · exact L10.out
            clear hK K
            try dsimp only at hHeld
            try simp only [Act.put, List.setIfInBounds_toArray, List.set_cons_zero, List.set_cons_succ, List.getElem_toArray, List.getElem_cons_succ, List.getElem_cons_zero]
            refine wpAnyH_ready (rs := [8]) (by kernel_rfl) (by simp) ?_
            refine AllReadyH.cons (o := _) rfl (fun K hK => ?_) AllReadyH.nil
            have hH2 := hHeld
            obtain ⟨ob, bx⟩ := hH2
            try simp only [List.getElem_toArray, List.getElem_cons_succ, List.getElem_cons_zero]
            rw [if_pos (by rfl)]
            refine wp_append_smp _ _ rfl wi.heap.size _ _ rfl TG.out.own _ _ rfl (TG.out.rd.take HJ.out) (by have := HK.out; have := HN.out; simp only [List.length_append, List.length_cons, List.length_nil, List.length_take, List.length_drop]; omega) TG.out.gr.size ?_
            intro v1 w71 hown hgrow hat
            replace TG := hid (TG.out.app hown hgrow hat)
            clear hown hgrow hat
            have L8 := hid (show (w71.heap[rb]? = some (.cells #[.int .i64 n, .int .i64 m, .int .i64 f, .slice (some ⟨g, o, none⟩) N c] 40)) ∧ (w71.heap[w.heap.size]? = some (.cells #[.int .i64 s.who, .int .i64 s.met, .int .i64 s.ep, .int .i64 s.val] 29)) from ⟨TG.out.ob, TG.out.bo⟩)
            clear hHeld ob bx
            refine hK.out _ _ ?_ (fun hHeld => ?_)
            · exact L8.out
            clear hK K
            try dsimp only at hHeld
            try simp only [Act.put, List.setIfInBounds_toArray, List.set_cons_zero, List.set_cons_succ, List.getElem_toArray, List.getElem_cons_succ, List.getElem_cons_zero]
            refine wpAnyH_ready (rs := [11]) (by kernel_rfl) (by simp) ?_
            refine AllReadyH.cons (o := _) rfl (fun K hK => ?_) AllReadyH.nil
            have hH2 := hHeld
            obtain ⟨ob, bx⟩ := hH2
            try simp only [List.getElem_toArray, List.getElem_cons_succ, List.getElem_cons_zero]
            rw [if_pos (by rfl)]
            refine wp_append_smp _ _ rfl wi.heap.size _ _ rfl TG.out.own _ _ rfl TG.out.on (by have := HK.out; have := HN.out; simp only [List.length_append, List.length_cons, List.length_nil, List.length_take, List.length_drop]; omega) TG.out.gr.size ?_
            intro v2 w72 hown hgrow hat
            replace TG := hid (TG.out.app hown hgrow hat)
            clear hown hgrow hat
            have L11 := hid (show (w72.heap[rb]? = some (.cells #[.int .i64 n, .int .i64 m, .int .i64 f, .slice (some ⟨g, o, none⟩) N c] 40)) ∧ (w72.heap[w.heap.size]? = some (.cells #[.int .i64 s.who, .int .i64 s.met, .int .i64 s.ep, .int .i64 s.val] 29)) from ⟨TG.out.ob, TG.out.bo⟩)
            clear hHeld ob bx
            refine hK.out _ _ ?_ (fun hHeld => ?_)
            · exact L11.out
            clear hK K
            try dsimp only at hHeld
            try simp only [Act.put, List.setIfInBounds_toArray, List.set_cons_zero, List.set_cons_succ, List.getElem_toArray, List.getElem_cons_succ, List.getElem_cons_zero]
            refine wpAnyH_ready (rs := [18]) (by kernel_rfl) (by simp) ?_
            refine AllReadyH.cons (o := _) rfl (fun K hK => ?_) AllReadyH.nil
            have hH2 := hHeld
            obtain ⟨ob, bx⟩ := hH2
            try simp only [List.getElem_toArray, List.getElem_cons_succ, List.getElem_cons_zero]
            rw [if_pos (by rfl)]
            refine wp_append_smp _ _ rfl wi.heap.size _ _ rfl TG.out.own _ _ rfl (TG.out.rd.dropI HJ.out) (by have := HK.out; have := HN.out; simp only [List.length_append, List.length_cons, List.length_nil, List.length_take, List.length_drop]; omega) TG.out.gr.size ?_
            intro v3 w73 hown hgrow hat
            replace TG := hid (TG.out.app hown hgrow hat)
            clear hown hgrow hat
            have L18 := hid (show (w73.heap[rb]? = some (.cells #[.int .i64 n, .int .i64 m, .int .i64 f, .slice (some ⟨g, o, none⟩) N c] 40)) ∧ (w73.heap[w.heap.size]? = some (.cells #[.int .i64 s.who, .int .i64 s.met, .int .i64 s.ep, .int .i64 s.val] 29)) from ⟨TG.out.ob, TG.out.bo⟩)
            clear hHeld ob bx
            refine hK.out _ _ ?_ (fun hHeld => ?_)
            · exact L18.out
            clear hK K
            try dsimp only at hHeld
            try simp only [Act.put, List.setIfInBounds_toArray, List.set_cons_zero, List.set_cons_succ, List.getElem_toArray, List.getElem_cons_succ, List.getElem_cons_zero]
            refine' wpAnyH_take (i := 19) (v := _) rfl (by kernel_rfl) (by kernel_rfl) (by kernel_rfl) (fun _ _ _ h => h) (Or.inl ⟨by rfl, ?_⟩) hHeld ?_
            rotate_left
            · (intro w hSw; (try dsimp only at hSw); go_simp; try with_reducible rfl)
            try simp only [Act.put, List.setIfInBounds_toArray, List.set_cons_zero, List.set_cons_succ, List.getElem_toArray, List.getElem_cons_succ, List.getElem_cons_zero]
            refine' wpAnyH_take (i := 20) (v := _) rfl (by kernel_rfl) (by kernel_rfl) (by kernel_rfl) (fun _ _ _ h => h) (Or.inl ⟨by rfl, ?_⟩) hHeld ?_
            rotate_left
            · (intro w hSw; (try dsimp only at hSw); go_simp; try with_reducible rfl)
            try simp only [Act.put, List.setIfInBounds_toArray, List.set_cons_zero, List.set_cons_succ, List.getElem_toArray, List.getElem_cons_succ, List.getElem_cons_zero]
            refine wpAnyH_done (by kernel_rfl) ?_ _
            obtain ⟨ob, bx⟩ := hHeld
            have HI3 := HINS.out
            have TG2 := TG.out
            simp only [List.nil_append] at TG2; rw [HI3] at TG2
            obtain ⟨p3, c3x, e3⟩ := TG2.own.form
            subst e3
            have HF := hid (TG2.fin (HT1.out.grown HGI2.out) H0.out HE.out)
            have k3 := at_cell TG2.ob 3
            have k4 := at_free TG2.ob 3
            clear ob bx TG TG2 HI3
            refine atLast_step (o := _) rfl (fun K hK => ?_)
            try simp only [List.getElem_toArray, List.getElem_cons_succ, List.getElem_cons_zero]
            go_simp
            refine hK.out _ _ ?_
            clear hK K k3 k4
            try simp only [Act.put, List.setIfInBounds_toArray, List.set_cons_zero, List.set_cons_succ, List.getElem_toArray, List.getElem_cons_succ, List.getElem_cons_zero]
            go_wp2_with fail
            all_goals (go_ret; exact ⟨rfl, HF.out.1, (chg_grown (gb_trans G0.out (gb_trans G1.out HGI2.out (.inl rfl)) (.inl rfl)) _).then HF.out.2⟩)
        · have hH2 := hHeld
          obtain ⟨ob, bx⟩ := hH2
          have hg : (wi.drew).grownBy ((wi.drew).alloc (.cells #[.int .i64 s.who, .int .i64 s.met, .int .i64 s.ep, .int .i64 s.val] 29)) none := World.grownBy_alloc _ _ _
          have e0 := at_cell bx 0; have e1 := at_cell bx 1; have e2 := at_cell bx 2; have e3 := at_cell bx 3
          replace TG := hid TG.out.one
          try rw [World.size_alloc] at TG
          have L10 := hid (show (((wi.drew).alloc (.cells #[.int .i64 s.who, .int .i64 s.met, .int .i64 s.ep, .int .i64 s.val] 29)).heap[rb]? = some (.cells #[.int .i64 n, .int .i64 m, .int .i64 f, .slice (some ⟨g, o, none⟩) N c] 40)) ∧ (((wi.drew).alloc (.cells #[.int .i64 s.who, .int .i64 s.met, .int .i64 s.ep, .int .i64 s.val] 29)).heap[w.heap.size]? = some (.cells #[.int .i64 s.who, .int .i64 s.met, .int .i64 s.ep, .int .i64 s.val] 29)) from ⟨at_grown ob hg (by simp), at_grown bx hg (by simp)⟩)
          clear hHeld hg ob bx
          try simp only [List.getElem_toArray, List.getElem_cons_succ, List.getElem_cons_zero]
          go_simp
          refine hK.out _ _ ?_ (fun hHeld => ?_)
          · exact L10.out
          clear hK K
          try dsimp only at hHeld
          try simp only [Act.put, List.setIfInBounds_toArray, List.set_cons_zero, List.set_cons_succ, List.getElem_toArray, List.getElem_cons_succ, List.getElem_cons_zero]
          refine wpAnyH_ready (rs := [1]) (by kernel_rfl) (by simp) ?_
          refine AllReadyH.cons (o := _) rfl (fun K hK => ?_) AllReadyH.nil
          have hH2 := hHeld
          obtain ⟨ob, bx⟩ := hH2
          have hg : ((wi.drew).alloc (.cells #[.int .i64 s.who, .int .i64 s.met, .int .i64 s.ep, .int .i64 s.val] 29)).grownBy (((wi.drew).alloc (.cells #[.int .i64 s.who, .int .i64 s.met, .int .i64 s.ep, .int .i64 s.val] 29)).alloc (.cells #[] 29)) none := World.grownBy_alloc _ _ _
          replace TG := hid TG.out.fresh
          try rw [World.size_alloc] at TG
          have L1 := hid (show ((((wi.drew).alloc (.cells #[.int .i64 s.who, .int .i64 s.met, .int .i64 s.ep, .int .i64 s.val] 29)).alloc (.cells #[] 29)).heap[rb]? = some (.cells #[.int .i64 n, .int .i64 m, .int .i64 f, .slice (some ⟨g, o, none⟩) N c] 40)) ∧ ((((wi.drew).alloc (.cells #[.int .i64 s.who, .int .i64 s.met, .int .i64 s.ep, .int .i64 s.val] 29)).alloc (.cells #[] 29)).heap[w.heap.size]? = some (.cells #[.int .i64 s.who, .int .i64 s.met, .int .i64 s.ep, .int .i64 s.val] 29)) from ⟨at_grown ob hg (by simp), at_grown bx hg (by simp)⟩)
          clear hHeld hg ob bx
          try simp only [List.getElem_toArray, List.getElem_cons_succ, List.getElem_cons_zero]
          go_simp
          refine hK.out _ _ ?_ (fun hHeld => ?_)
          · exact L1.out
          clear hK K
          try dsimp only at hHeld
          try simp only [Act.put, List.setIfInBounds_toArray, List.set_cons_zero, List.set_cons_succ, List.getElem_toArray, List.getElem_cons_succ, List.getElem_cons_zero]
          refine wpAnyH_ready (rs := [8]) (by kernel_rfl) (by simp) ?_
          refine AllReadyH.cons (o := _) rfl (fun K hK => ?_) AllReadyH.nil
          have hH2 := hHeld
          obtain ⟨ob, bx⟩ := hH2
          try simp only [List.getElem_toArray, List.getElem_cons_succ, List.getElem_cons_zero]
          rw [if_pos (by rfl)]
          refine wp_append_smp _ _ rfl wi.heap.size _ _ rfl TG.out.own _ _ rfl (TG.out.rd.take HJ.out) (by have := HK.out; have := HN.out; simp only [List.length_append, List.length_cons, List.length_nil, List.length_take, List.length_drop]; omega) TG.out.gr.size ?_
          intro v1 w71 hown hgrow hat
          replace TG := hid (TG.out.app hown hgrow hat)
          clear hown hgrow hat
          have L8 := hid (show (w71.heap[rb]? = some (.cells #[.int .i64 n, .int .i64 m, .int .i64 f, .slice (some ⟨g, o, none⟩) N c] 40)) ∧ (w71.heap[w.heap.size]? = some (.cells #[.int .i64 s.who, .int .i64 s.met, .int .i64 s.ep, .int .i64 s.val] 29)) from ⟨TG.out.ob, TG.out.bo⟩)
          clear hHeld ob bx
          refine hK.out _ _ ?_ (fun hHeld => ?_)
          · exact L8.out
          clear hK K
          try dsimp only at hHeld
          try simp only [Act.put, List.setIfInBounds_toArray, List.set_cons_zero, List.set_cons_succ, List.getElem_toArray, List.getElem_cons_succ, List.getElem_cons_zero]
          refine wpAnyH_ready (rs := [11]) (by kernel_rfl) (by simp) ?_
          refine AllReadyH.cons (o := _) rfl (fun K hK => ?_) AllReadyH.nil
          have hH2 := hHeld
          obtain ⟨ob, bx⟩ := hH2
          try simp only [List.getElem_toArray, List.getElem_cons_succ, List.getElem_cons_zero]
          rw [if_pos (by rfl)]
          refine wp_append_smp _ _ rfl wi.heap.size _ _ rfl TG.out.own _ _ rfl TG.out.on (by have := HK.out; have := HN.out; simp only [List.length_append, List.length_cons, List.length_nil, List.length_take, List.length_drop]; omega) TG.out.gr.size ?_
          intro v2 w72 hown hgrow hat
          replace TG := hid (TG.out.app hown hgrow hat)
          clear hown hgrow hat
          have L11 := hid (show (w72.heap[rb]? = some (.cells #[.int .i64 n, .int .i64 m, .int .i64 f, .slice (some ⟨g, o, none⟩) N c] 40)) ∧ (w72.heap[w.heap.size]? = some (.cells #[.int .i64 s.who, .int .i64 s.met, .int .i64 s.ep, .int .i64 s.val] 29)) from ⟨TG.out.ob, TG.out.bo⟩)
          clear hHeld ob bx
          refine hK.out _ _ ?_ (fun hHeld => ?_)
          · exact L11.out
          clear hK K
          try dsimp only at hHeld
          try simp only [Act.put, List.setIfInBounds_toArray, List.set_cons_zero, List.set_cons_succ, List.getElem_toArray, List.getElem_cons_succ, List.getElem_cons_zero]
          refine wpAnyH_ready (rs := [18]) (by kernel_rfl) (by simp) ?_
          refine AllReadyH.cons (o := _) rfl (fun K hK => ?_) AllReadyH.nil
          have hH2 := hHeld
          obtain ⟨ob, bx⟩ := hH2
          try simp only [List.getElem_toArray, List.getElem_cons_succ, List.getElem_cons_zero]
          rw [if_pos (by rfl)]
          refine wp_append_smp _ _ rfl wi.heap.size _ _ rfl TG.out.own _ _ rfl (TG.out.rd.dropI HJ.out) (by have := HK.out; have := HN.out; simp only [List.length_append, List.length_cons, List.length_nil, List.length_take, List.length_drop]; omega) TG.out.gr.size ?_
          intro v3 w73 hown hgrow hat
          replace TG := hid (TG.out.app hown hgrow hat)
          clear hown hgrow hat
          have L18 := hid (show (w73.heap[rb]? = some (.cells #[.int .i64 n, .int .i64 m, .int .i64 f, .slice (some ⟨g, o, none⟩) N c] 40)) ∧ (w73.heap[w.heap.size]? = some (.cells #[.int .i64 s.who, .int .i64 s.met, .int .i64 s.ep, .int .i64 s.val] 29)) from ⟨TG.out.ob, TG.out.bo⟩)
          clear hHeld ob bx
          refine hK.out _ _ ?_ (fun hHeld => ?_)
          · exact L18.out
          clear hK K
          try dsimp only at hHeld
          try simp only [Act.put, List.setIfInBounds_toArray, List.set_cons_zero, List.set_cons_succ, List.getElem_toArray, List.getElem_cons_succ, List.getElem_cons_zero]
          refine' wpAnyH_take (i := 19) (v := _) rfl (by kernel_rfl) (by kernel_rfl) (by kernel_rfl) (fun _ _ _ h => h) (Or.inl ⟨by rfl, ?_⟩) hHeld ?_
          rotate_left
          · (intro w hSw; (try dsimp only at hSw); go_simp; try with_reducible rfl)
          try simp only [Act.put, List.setIfInBounds_toArray, List.set_cons_zero, List.set_cons_succ, List.getElem_toArray, List.getElem_cons_succ, List.getElem_cons_zero]
          refine' wpAnyH_take (i := 20) (v := _) rfl (by kernel_rfl) (by kernel_rfl) (by kernel_rfl) (fun _ _ _ h => h) (Or.inl ⟨by rfl, ?_⟩) hHeld ?_
          rotate_left
          · (intro w hSw; (try dsimp only at hSw); go_simp; try with_reducible rfl)
          try simp only [Act.put, List.setIfInBounds_toArray, List.set_cons_zero, List.set_cons_succ, List.getElem_toArray, List.getElem_cons_succ, List.getElem_cons_zero]
          refine wpAnyH_done (by kernel_rfl) ?_ _
          obtain ⟨ob, bx⟩ := hHeld
          have HI3 := HINS.out
          have TG2 := TG.out
          simp only [List.nil_append] at TG2; rw [HI3] at TG2
          obtain ⟨p3, c3x, e3⟩ := TG2.own.form
          subst e3
          have HF := hid (TG2.fin (HT1.out.grown HGI2.out) H0.out HE.out)
          have k3 := at_cell TG2.ob 3
          have k4 := at_free TG2.ob 3
          clear ob bx TG TG2 HI3
          refine atLast_step (o := _) rfl (fun K hK => ?_)
          try simp only [List.getElem_toArray, List.getElem_cons_succ, List.getElem_cons_zero]
          go_simp
          refine hK.out _ _ ?_
          clear hK K k3 k4
          try simp only [Act.put, List.setIfInBounds_toArray, List.set_cons_zero, List.set_cons_succ, List.getElem_toArray, List.getElem_cons_succ, List.getElem_cons_zero]
          go_wp2_with fail
          all_goals (go_ret; exact ⟨rfl, HF.out.1, (chg_grown (gb_trans G0.out (gb_trans G1.out HGI2.out (.inl rfl)) (.inl rfl)) _).then HF.out.2⟩)
      · skip
        have hjm : j - 1 < L.length := by rw [HN.out]; have := HJ.out; omega
        obtain ⟨g', o', e', -, -, a0, a1, a2, a3⟩ := (HRD.out.grown HGI.out).cells hjm
        cases e'
        have hle : ∀ i, (h : i < L.length) → i < j → L[i] = L[j - 1] ∨ PlLt L[i].pl L[j - 1].pl := fun i h hi => by
          rcases Nat.lt_or_ge i (j - 1) with k | k
          · exact .inr (List.pairwise_iff_getElem.1 HT1.out.fine.srt i (j - 1) h hjm k)
          · have : i = j - 1 := by omega
            subst this; exact .inl rfl
        have hge : ∀ i, (h : i < L.length) → j - 1 ≤ i → L[i] = L[j - 1] ∨ PlLt L[j - 1].pl L[i].pl := fun i h hi => by
          rcases Nat.lt_or_ge (j - 1) i with k | k
          · exact .inr (List.pairwise_iff_getElem.1 HT1.out.fine.srt (j - 1) i hjm h k)
          · have : i = j - 1 := by omega
            subst this; exact .inl rfl
        have hmem : L[j - 1] ∈ L := List.getElem_mem hjm
        generalize L[j - 1] = y at *
        obtain ⟨j1, hj1⟩ : ∃ j1, j - 1 = j1 := ⟨_, rfl⟩
        rw [hj1] at a0 a1 a2 a3
        obtain ⟨z, hz⟩ : ∃ z, z = (j : Int) := ⟨_, rfl⟩
        have z1 : z - 1 = (j1 : Int) := by omega
        have z0 : 0 < z := by omega
        have zn : z ≤ (N : Int) := by have := HJ.out; omega
        have s1 : IntKind.i64.wrap (z - 1) = (j1 : Int) := by rw [z1]; have := HK.out; have := HN.out; exact IntWalk.i64_in _ (by omega)
        have q5 : (j1 : Int) < (N : Int) := by omega
        have q7 : (N : Int) ≤ (c : Int) := by have := HC.out; omega
        have JZ := hid hz
        rw [← hz]
        have HLE := hid hle; have HGE := hid hge; have HJ1 := hid hj1; have HMEM := hid hmem
        clear hle hge hj1 hz hjm z1 zn hmem hj0
        have gi := HGI.out
        have bx := at_grown HBX.out gi (by simp)
        have c3 := gi.cell C3.out (by simp)
        by_cases hxy : PlLt s.pl y.pl
        · have BEF := hid (fun w => before_is s y true (decide_eq_true hxy) w)
          have hab2 : ∀ i, (h : i < L.length) → j1 ≤ i → PlLt s.pl L[i].pl := fun i h hi => by
            rcases HGE.out i h (by rw [HJ1.out]; exact hi) with e | k
            · rw [e]; exact hxy
            · exact plLt_trans hxy k
          have HAB2 := hid hab2
          clear hab2 hxy
          go_upto_region 5 with fail
          refine wp_region_held_drew (S := (fun w' => (w1.grownBy w' none) ∧ (w'.heap[w.heap.size]? = some (.cells #[.int .i64 s.who, .int .i64 s.met, .int .i64 s.ep, .int .i64 s.val] 29)) ∧ (w'.cell? ⟨rb, 3, none⟩ = some (.slice (some ⟨g, o, none⟩) N c)) ∧ (w'.cell? ⟨g, o + j1 * 4, none⟩ = some (.int .i64 y.who)) ∧ (w'.cell? ⟨g, o + j1 * 4 + 1, none⟩ = some (.int .i64 y.met)) ∧ (w'.cell? ⟨g, o + j1 * 4 + 2, none⟩ = some (.int .i64 y.ep)) ∧ (w'.cell? ⟨g, o + j1 * 4 + 3, none⟩ = some (.int .i64 y.val)))) (by kernel_rfl) ⟨gb_drew gi, bx, c3, a0, a1, a2, a3⟩ (fun hHeld => ?_)
          try dsimp only at hHeld
          clear gi bx c3 a0 a1 a2 a3
          refine' wpAnyH_take (i := 0) (v := _) rfl (by kernel_rfl) (by kernel_rfl) (by kernel_rfl) (fun _ _ _ h => h) (Or.inl ⟨by rfl, ?_⟩) hHeld ?_
          rotate_left
          · (intro w hSw; (try dsimp only at hSw); go_simp; try with_reducible rfl)
          try simp only [Act.put, List.setIfInBounds_toArray, List.set_cons_zero, List.set_cons_succ, List.getElem_toArray, List.getElem_cons_succ, List.getElem_cons_zero]
          refine' wpAnyH_take (i := 1) (v := _) rfl (by kernel_rfl) (by kernel_rfl) (by kernel_rfl) (fun _ _ _ h => h) (Or.inl ⟨by rfl, ?_⟩) hHeld ?_
          rotate_left
          · (intro w hSw; (try dsimp only at hSw); go_simp; try with_reducible rfl)
          try simp only [Act.put, List.setIfInBounds_toArray, List.set_cons_zero, List.set_cons_succ, List.getElem_toArray, List.getElem_cons_succ, List.getElem_cons_zero]
          refine' wpAnyH_take (i := 2) (v := _) rfl (by kernel_rfl) (by kernel_rfl) (by kernel_rfl) (fun _ _ _ h => h) (Or.inl ⟨by rfl, ?_⟩) hHeld ?_
          rotate_left
          · (intro w hSw; (try dsimp only at hSw); go_simp; try with_reducible rfl)
          try simp only [Act.put, List.setIfInBounds_toArray, List.set_cons_zero, List.set_cons_succ, List.getElem_toArray, List.getElem_cons_succ, List.getElem_cons_zero]
          refine' wpAnyH_take (i := 3) (v := _) rfl (by kernel_rfl) (by kernel_rfl) (by kernel_rfl) (fun _ _ _ h => h) (Or.inl ⟨by rfl, ?_⟩) hHeld ?_
          rotate_left
          · (intro w hSw; (try dsimp only at hSw); obtain ⟨gi, bx, c3, a0, a1, a2, a3⟩ := hSw; have e0 := at_cell bx 0; have e1 := at_cell bx 1; have e2 := at_cell bx 2; have e3 := at_cell bx 3; go_simp; try with_reducible rfl)
          try simp only [Act.put, List.setIfInBounds_toArray, List.set_cons_zero, List.set_cons_succ, List.getElem_toArray, List.getElem_cons_succ, List.getElem_cons_zero]
          refine' wpAnyH_take (i := 4) (v := _) rfl (by kernel_rfl) (by kernel_rfl) (by kernel_rfl) (fun _ _ _ h => h) (Or.inl ⟨by rfl, ?_⟩) hHeld ?_
          rotate_left
          · (intro w hSw; (try dsimp only at hSw); go_simp; try with_reducible rfl)
          try simp only [Act.put, List.setIfInBounds_toArray, List.set_cons_zero, List.set_cons_succ, List.getElem_toArray, List.getElem_cons_succ, List.getElem_cons_zero]
          refine' wpAnyH_take (i := 5) (v := _) rfl (by kernel_rfl) (by kernel_rfl) (by kernel_rfl) (fun _ _ _ h => h) (Or.inl ⟨by rfl, ?_⟩) hHeld ?_
          rotate_left
          · (intro w hSw; (try dsimp only at hSw); go_simp; try with_reducible rfl)
          try simp only [Act.put, List.setIfInBounds_toArray, List.set_cons_zero, List.set_cons_succ, List.getElem_toArray, List.getElem_cons_succ, List.getElem_cons_zero]
          refine' wpAnyH_take (i := 6) (v := _) rfl (by kernel_rfl) (by kernel_rfl) (by kernel_rfl) (fun _ _ _ h => h) (Or.inl ⟨by rfl, ?_⟩) hHeld ?_
          rotate_left
          · (intro w hSw; (try dsimp only at hSw); go_simp; try with_reducible rfl)
          try simp only [Act.put, List.setIfInBounds_toArray, List.set_cons_zero, List.set_cons_succ, List.getElem_toArray, List.getElem_cons_succ, List.getElem_cons_zero]
          refine' wpAnyH_take (i := 7) (v := _) rfl (by kernel_rfl) (by kernel_rfl) (by kernel_rfl) (fun _ _ _ h => h) (Or.inl ⟨by rfl, ?_⟩) hHeld ?_
          rotate_left
          · (intro w hSw; (try dsimp only at hSw); obtain ⟨gi, bx, c3, a0, a1, a2, a3⟩ := hSw; have q9 := c3; go_simp; try with_reducible rfl)
          try simp only [Act.put, List.setIfInBounds_toArray, List.set_cons_zero, List.set_cons_succ, List.getElem_toArray, List.getElem_cons_succ, List.getElem_cons_zero]
          refine' wpAnyH_take (i := 8) (v := _) rfl (by kernel_rfl) (by kernel_rfl) (by kernel_rfl) (fun _ _ _ h => h) (Or.inl ⟨by rfl, ?_⟩) hHeld ?_
          rotate_left
          · (intro w hSw; (try dsimp only at hSw); go_simp; try with_reducible rfl)
          try simp only [Act.put, List.setIfInBounds_toArray, List.set_cons_zero, List.set_cons_succ, List.getElem_toArray, List.getElem_cons_succ, List.getElem_cons_zero]
          refine' wpAnyH_take (i := 9) (v := _) rfl (by kernel_rfl) (by kernel_rfl) (by kernel_rfl) (fun _ _ _ h => h) (Or.inl ⟨by rfl, ?_⟩) hHeld ?_
          rotate_left
          · (intro w hSw; (try dsimp only at hSw); go_simp; try with_reducible rfl)
          try simp only [Act.put, List.setIfInBounds_toArray, List.set_cons_zero, List.set_cons_succ, List.getElem_toArray, List.getElem_cons_succ, List.getElem_cons_zero]
          refine' wpAnyH_take (i := 10) (v := _) rfl (by kernel_rfl) (by kernel_rfl) (by kernel_rfl) (fun _ _ _ h => h) (Or.inl ⟨by rfl, ?_⟩) hHeld ?_
          rotate_left
          · (intro w hSw; (try dsimp only at hSw); go_simp; try with_reducible rfl)
          try simp only [Act.put, List.setIfInBounds_toArray, List.set_cons_zero, List.set_cons_succ, List.getElem_toArray, List.getElem_cons_succ, List.getElem_cons_zero]
          refine' wpAnyH_take (i := 11) (v := _) rfl (by kernel_rfl) (by kernel_rfl) (by kernel_rfl) (fun _ _ _ h => h) (Or.inl ⟨by rfl, ?_⟩) hHeld ?_
          rotate_left
          · (intro w hSw; (try dsimp only at hSw); obtain ⟨gi, bx, c3, a0, a1, a2, a3⟩ := hSw; have q9 := c3; go_simp; try with_reducible rfl)
          try simp only [Act.put, List.setIfInBounds_toArray, List.set_cons_zero, List.set_cons_succ, List.getElem_toArray, List.getElem_cons_succ, List.getElem_cons_zero]
          refine wpAnyH_ready (rs := [12]) (by kernel_rfl) (by simp) ?_
          refine AllReadyH.cons (o := _) rfl (fun K hK => ?_) AllReadyH.nil
          try simp only [List.getElem_toArray, List.getElem_cons_succ, List.getElem_cons_zero]
          go_simp
          have hH2 := hHeld
          obtain ⟨gi, bx, c3, a0, a1, a2, a3⟩ := hH2
          refine ((BEF.out _)).mono ?_
          rintro e w1012 ⟨rfl, hg⟩
          have L12 := hid (show (w1.grownBy w1012 none) ∧ (w1012.heap[w.heap.size]? = some (.cells #[.int .i64 s.who, .int .i64 s.met, .int .i64 s.ep, .int .i64 s.val] 29)) ∧ (w1012.cell? ⟨rb, 3, none⟩ = some (.slice (some ⟨g, o, none⟩) N c)) ∧ (w1012.cell? ⟨g, o + j1 * 4, none⟩ = some (.int .i64 y.who)) ∧ (w1012.cell? ⟨g, o + j1 * 4 + 1, none⟩ = some (.int .i64 y.met)) ∧ (w1012.cell? ⟨g, o + j1 * 4 + 2, none⟩ = some (.int .i64 y.ep)) ∧ (w1012.cell? ⟨g, o + j1 * 4 + 3, none⟩ = some (.int .i64 y.val)) from ⟨gb_trans gi hg (.inl rfl), at_grown bx hg (by simp), hg.cell c3 (by simp), hg.cell a0 (by simp), hg.cell a1 (by simp), hg.cell a2 (by simp), hg.cell a3 (by simp)⟩)
          clear hHeld hg gi bx c3 a0 a1 a2 a3
          go_wp2_with fail
          refine hK.out _ _ ?_ (fun hHeld => ?_)
          · exact L12.out
          clear hK K
          try dsimp only at hHeld
          try simp only [Act.put, List.setIfInBounds_toArray, List.set_cons_zero, List.set_cons_succ, List.getElem_toArray, List.getElem_cons_succ, List.getElem_cons_zero]
          refine' wpAnyH_take (i := 13) (v := _) rfl (by kernel_rfl) (by kernel_rfl) (by kernel_rfl) (fun _ _ _ h => h) (Or.inl ⟨by rfl, ?_⟩) hHeld ?_
          rotate_left
          · (intro w hSw; (try dsimp only at hSw); go_simp; try with_reducible rfl)
          try simp only [Act.put, List.setIfInBounds_toArray, List.set_cons_zero, List.set_cons_succ, List.getElem_toArray, List.getElem_cons_succ, List.getElem_cons_zero]
          refine wpAnyH_done (by kernel_rfl) ?_ _
          obtain ⟨gi, bx, c3, a0, a1, a2, a3⟩ := hHeld
          clear bx c3 a0 a1 a2 a3
          go_wp2_with fail
          go_roundw
          case rel => exact ⟨j1, by have := HJ1.out; have := HJ.out; omega, by go_num, HAB2.out, gi⟩
          case measure => have := HJ1.out; have := JZ.out; simp [intOf]; omega
        · have BEF := hid (fun w => before_is s y false (decide_eq_false hxy) w)
          have hyx : PlLt y.pl s.pl := by
            rcases plLt_total (fun e => HNT.out ⟨y, HMEM.out, e⟩ : y.pl ≠ s.pl) with k | k
            · exact k
            · exact absurd k hxy
          have HINS := hid (HINS0.out j (by rw [HN.out]; exact HJ.out) HAB.out (fun i h hi => by
            rcases HLE.out i h hi with e | k
            · rw [e]; exact hyx
            · exact plLt_trans k hyx))
          clear hxy hyx
          go_upto_region 5 with fail
          refine wp_region_held_drew (S := (fun w' => (w1.grownBy w' none) ∧ (w'.heap[w.heap.size]? = some (.cells #[.int .i64 s.who, .int .i64 s.met, .int .i64 s.ep, .int .i64 s.val] 29)) ∧ (w'.cell? ⟨rb, 3, none⟩ = some (.slice (some ⟨g, o, none⟩) N c)) ∧ (w'.cell? ⟨g, o + j1 * 4, none⟩ = some (.int .i64 y.who)) ∧ (w'.cell? ⟨g, o + j1 * 4 + 1, none⟩ = some (.int .i64 y.met)) ∧ (w'.cell? ⟨g, o + j1 * 4 + 2, none⟩ = some (.int .i64 y.ep)) ∧ (w'.cell? ⟨g, o + j1 * 4 + 3, none⟩ = some (.int .i64 y.val)))) (by kernel_rfl) ⟨gb_drew gi, bx, c3, a0, a1, a2, a3⟩ (fun hHeld => ?_)
          try dsimp only at hHeld
          clear gi bx c3 a0 a1 a2 a3
          refine' wpAnyH_take (i := 0) (v := _) rfl (by kernel_rfl) (by kernel_rfl) (by kernel_rfl) (fun _ _ _ h => h) (Or.inl ⟨by rfl, ?_⟩) hHeld ?_
          rotate_left
          · (intro w hSw; (try dsimp only at hSw); go_simp; try with_reducible rfl)
          try simp only [Act.put, List.setIfInBounds_toArray, List.set_cons_zero, List.set_cons_succ, List.getElem_toArray, List.getElem_cons_succ, List.getElem_cons_zero]
          refine' wpAnyH_take (i := 1) (v := _) rfl (by kernel_rfl) (by kernel_rfl) (by kernel_rfl) (fun _ _ _ h => h) (Or.inl ⟨by rfl, ?_⟩) hHeld ?_
          rotate_left
          · (intro w hSw; (try dsimp only at hSw); go_simp; try with_reducible rfl)
          try simp only [Act.put, List.setIfInBounds_toArray, List.set_cons_zero, List.set_cons_succ, List.getElem_toArray, List.getElem_cons_succ, List.getElem_cons_zero]
          refine' wpAnyH_take (i := 2) (v := _) rfl (by kernel_rfl) (by kernel_rfl) (by kernel_rfl) (fun _ _ _ h => h) (Or.inl ⟨by rfl, ?_⟩) hHeld ?_
          rotate_left
          · (intro w hSw; (try dsimp only at hSw); go_simp; try with_reducible rfl)
          try simp only [Act.put, List.setIfInBounds_toArray, List.set_cons_zero, List.set_cons_succ, List.getElem_toArray, List.getElem_cons_succ, List.getElem_cons_zero]
          refine' wpAnyH_take (i := 3) (v := _) rfl (by kernel_rfl) (by kernel_rfl) (by kernel_rfl) (fun _ _ _ h => h) (Or.inl ⟨by rfl, ?_⟩) hHeld ?_
          rotate_left
          · (intro w hSw; (try dsimp only at hSw); obtain ⟨gi, bx, c3, a0, a1, a2, a3⟩ := hSw; have e0 := at_cell bx 0; have e1 := at_cell bx 1; have e2 := at_cell bx 2; have e3 := at_cell bx 3; go_simp; try with_reducible rfl)
          try simp only [Act.put, List.setIfInBounds_toArray, List.set_cons_zero, List.set_cons_succ, List.getElem_toArray, List.getElem_cons_succ, List.getElem_cons_zero]
          refine' wpAnyH_take (i := 4) (v := _) rfl (by kernel_rfl) (by kernel_rfl) (by kernel_rfl) (fun _ _ _ h => h) (Or.inl ⟨by rfl, ?_⟩) hHeld ?_
          rotate_left
          · (intro w hSw; (try dsimp only at hSw); go_simp; try with_reducible rfl)
          try simp only [Act.put, List.setIfInBounds_toArray, List.set_cons_zero, List.set_cons_succ, List.getElem_toArray, List.getElem_cons_succ, List.getElem_cons_zero]
          refine' wpAnyH_take (i := 5) (v := _) rfl (by kernel_rfl) (by kernel_rfl) (by kernel_rfl) (fun _ _ _ h => h) (Or.inl ⟨by rfl, ?_⟩) hHeld ?_
          rotate_left
          · (intro w hSw; (try dsimp only at hSw); go_simp; try with_reducible rfl)
          try simp only [Act.put, List.setIfInBounds_toArray, List.set_cons_zero, List.set_cons_succ, List.getElem_toArray, List.getElem_cons_succ, List.getElem_cons_zero]
          refine' wpAnyH_take (i := 6) (v := _) rfl (by kernel_rfl) (by kernel_rfl) (by kernel_rfl) (fun _ _ _ h => h) (Or.inl ⟨by rfl, ?_⟩) hHeld ?_
          rotate_left
          · (intro w hSw; (try dsimp only at hSw); go_simp; try with_reducible rfl)
          try simp only [Act.put, List.setIfInBounds_toArray, List.set_cons_zero, List.set_cons_succ, List.getElem_toArray, List.getElem_cons_succ, List.getElem_cons_zero]
          refine' wpAnyH_take (i := 7) (v := _) rfl (by kernel_rfl) (by kernel_rfl) (by kernel_rfl) (fun _ _ _ h => h) (Or.inl ⟨by rfl, ?_⟩) hHeld ?_
          rotate_left
          · (intro w hSw; (try dsimp only at hSw); obtain ⟨gi, bx, c3, a0, a1, a2, a3⟩ := hSw; have q9 := c3; go_simp; try with_reducible rfl)
          try simp only [Act.put, List.setIfInBounds_toArray, List.set_cons_zero, List.set_cons_succ, List.getElem_toArray, List.getElem_cons_succ, List.getElem_cons_zero]
          refine' wpAnyH_take (i := 8) (v := _) rfl (by kernel_rfl) (by kernel_rfl) (by kernel_rfl) (fun _ _ _ h => h) (Or.inl ⟨by rfl, ?_⟩) hHeld ?_
          rotate_left
          · (intro w hSw; (try dsimp only at hSw); go_simp; try with_reducible rfl)
          try simp only [Act.put, List.setIfInBounds_toArray, List.set_cons_zero, List.set_cons_succ, List.getElem_toArray, List.getElem_cons_succ, List.getElem_cons_zero]
          refine' wpAnyH_take (i := 9) (v := _) rfl (by kernel_rfl) (by kernel_rfl) (by kernel_rfl) (fun _ _ _ h => h) (Or.inl ⟨by rfl, ?_⟩) hHeld ?_
          rotate_left
          · (intro w hSw; (try dsimp only at hSw); go_simp; try with_reducible rfl)
          try simp only [Act.put, List.setIfInBounds_toArray, List.set_cons_zero, List.set_cons_succ, List.getElem_toArray, List.getElem_cons_succ, List.getElem_cons_zero]
          refine' wpAnyH_take (i := 10) (v := _) rfl (by kernel_rfl) (by kernel_rfl) (by kernel_rfl) (fun _ _ _ h => h) (Or.inl ⟨by rfl, ?_⟩) hHeld ?_
          rotate_left
          · (intro w hSw; (try dsimp only at hSw); go_simp; try with_reducible rfl)
          try simp only [Act.put, List.setIfInBounds_toArray, List.set_cons_zero, List.set_cons_succ, List.getElem_toArray, List.getElem_cons_succ, List.getElem_cons_zero]
          refine' wpAnyH_take (i := 11) (v := _) rfl (by kernel_rfl) (by kernel_rfl) (by kernel_rfl) (fun _ _ _ h => h) (Or.inl ⟨by rfl, ?_⟩) hHeld ?_
          rotate_left
          · (intro w hSw; (try dsimp only at hSw); obtain ⟨gi, bx, c3, a0, a1, a2, a3⟩ := hSw; have q9 := c3; go_simp; try with_reducible rfl)
          try simp only [Act.put, List.setIfInBounds_toArray, List.set_cons_zero, List.set_cons_succ, List.getElem_toArray, List.getElem_cons_succ, List.getElem_cons_zero]
          refine wpAnyH_ready (rs := [12]) (by kernel_rfl) (by simp) ?_
          refine AllReadyH.cons (o := _) rfl (fun K hK => ?_) AllReadyH.nil
          try simp only [List.getElem_toArray, List.getElem_cons_succ, List.getElem_cons_zero]
          go_simp
          have hH2 := hHeld
          obtain ⟨gi, bx, c3, a0, a1, a2, a3⟩ := hH2
          refine ((BEF.out _)).mono ?_
          rintro e w1012 ⟨rfl, hg⟩
          have L12 := hid (show (w1.grownBy w1012 none) ∧ (w1012.heap[w.heap.size]? = some (.cells #[.int .i64 s.who, .int .i64 s.met, .int .i64 s.ep, .int .i64 s.val] 29)) ∧ (w1012.cell? ⟨rb, 3, none⟩ = some (.slice (some ⟨g, o, none⟩) N c)) ∧ (w1012.cell? ⟨g, o + j1 * 4, none⟩ = some (.int .i64 y.who)) ∧ (w1012.cell? ⟨g, o + j1 * 4 + 1, none⟩ = some (.int .i64 y.met)) ∧ (w1012.cell? ⟨g, o + j1 * 4 + 2, none⟩ = some (.int .i64 y.ep)) ∧ (w1012.cell? ⟨g, o + j1 * 4 + 3, none⟩ = some (.int .i64 y.val)) from ⟨gb_trans gi hg (.inl rfl), at_grown bx hg (by simp), hg.cell c3 (by simp), hg.cell a0 (by simp), hg.cell a1 (by simp), hg.cell a2 (by simp), hg.cell a3 (by simp)⟩)
          clear hHeld hg gi bx c3 a0 a1 a2 a3
          go_wp2_with fail
          refine hK.out _ _ ?_ (fun hHeld => ?_)
          · exact L12.out
          clear hK K
          try dsimp only at hHeld
          try simp only [Act.put, List.setIfInBounds_toArray, List.set_cons_zero, List.set_cons_succ, List.getElem_toArray, List.getElem_cons_succ, List.getElem_cons_zero]
          refine' wpAnyH_take (i := 13) (v := _) rfl (by kernel_rfl) (by kernel_rfl) (by kernel_rfl) (fun _ _ _ h => h) (Or.inl ⟨by rfl, ?_⟩) hHeld ?_
          rotate_left
          · (intro w hSw; (try dsimp only at hSw); go_simp; try with_reducible rfl)
          try simp only [Act.put, List.setIfInBounds_toArray, List.set_cons_zero, List.set_cons_succ, List.getElem_toArray, List.getElem_cons_succ, List.getElem_cons_zero]
          refine wpAnyH_done (by kernel_rfl) ?_ _
          obtain ⟨gi, bx, c3, a0, a1, a2, a3⟩ := hHeld
          have HGI2 := hid gi
          clear gi bx c3 a0 a1 a2 a3 s1 z0
          generalize w1012 = wi at *
          obtain rfl := JZ.out
          have q1 : (j : Int) ≤ (N : Int) := by have := HJ.out; omega
          have q6 : (j : Int) ≤ (c : Int) := by have := HJ.out; have := HC.out; omega
          have TG := hid (Pk.start HGI2.out HOB.out HBX.out HRD.out HV.out)
          go_upto_region 7 with fail
          replace TG := hid TG.out.drew
          refine wp_region_last (S := (fun w' => (w'.heap[rb]? = some (.cells #[.int .i64 n, .int .i64 m, .int .i64 f, .slice (some ⟨g, o, none⟩) N c] 40)) ∧ (w'.heap[w.heap.size]? = some (.cells #[.int .i64 s.who, .int .i64 s.met, .int .i64 s.ep, .int .i64 s.val] 29)))) 21 21 #[false, false, false, false, false, false, false, false, false, false, false, false, false, false, false, false, false, false, false, false, false, true] (by kernel_rfl) (by kernel_rfl) (by kernel_rfl) (by kernel_rfl) ⟨TG.out.ob, TG.out.bo⟩ (fun hHeld => ?_)
          try dsimp only at hHeld
          refine' wpAnyH_take (i := 0) (v := _) rfl (by kernel_rfl) (by kernel_rfl) (by kernel_rfl) (fun _ _ _ h => h) (Or.inl ⟨by rfl, ?_⟩) hHeld ?_
          rotate_left
          · (intro w hSw; (try dsimp only at hSw); go_simp; try with_reducible rfl)
          try simp only [Act.put, List.setIfInBounds_toArray, List.set_cons_zero, List.set_cons_succ, List.getElem_toArray, List.getElem_cons_succ, List.getElem_cons_zero]
          refine' wpAnyH_take (i := 2) (v := _) rfl (by kernel_rfl) (by kernel_rfl) (by kernel_rfl) (fun _ _ _ h => h) (Or.inl ⟨by rfl, ?_⟩) hHeld ?_
          rotate_left
          · (intro w hSw; (try dsimp only at hSw); go_simp; try with_reducible rfl)
          try simp only [Act.put, List.setIfInBounds_toArray, List.set_cons_zero, List.set_cons_succ, List.getElem_toArray, List.getElem_cons_succ, List.getElem_cons_zero]
          refine' wpAnyH_take (i := 3) (v := _) rfl (by kernel_rfl) (by kernel_rfl) (by kernel_rfl) (fun _ _ _ h => h) (Or.inl ⟨by rfl, ?_⟩) hHeld ?_
          rotate_left
          · (intro w hSw; (try dsimp only at hSw); go_simp; try with_reducible rfl)
          try simp only [Act.put, List.setIfInBounds_toArray, List.set_cons_zero, List.set_cons_succ, List.getElem_toArray, List.getElem_cons_succ, List.getElem_cons_zero]
          refine' wpAnyH_take (i := 4) (v := _) rfl (by kernel_rfl) (by kernel_rfl) (by kernel_rfl) (fun _ _ _ h => h) (Or.inl ⟨by rfl, ?_⟩) hHeld ?_
          rotate_left
          · (intro w hSw; (try dsimp only at hSw); go_simp; try with_reducible rfl)
          try simp only [Act.put, List.setIfInBounds_toArray, List.set_cons_zero, List.set_cons_succ, List.getElem_toArray, List.getElem_cons_succ, List.getElem_cons_zero]
          refine' wpAnyH_take (i := 5) (v := _) rfl (by kernel_rfl) (by kernel_rfl) (by kernel_rfl) (fun _ _ _ h => h) (Or.inl ⟨by rfl, ?_⟩) hHeld ?_
          rotate_left
          · (intro w hSw; (try dsimp only at hSw); obtain ⟨ob, bx⟩ := hSw; have q9 := at_cell ob 3; go_simp; try with_reducible rfl)
          try simp only [Act.put, List.setIfInBounds_toArray, List.set_cons_zero, List.set_cons_succ, List.getElem_toArray, List.getElem_cons_succ, List.getElem_cons_zero]
          refine' wpAnyH_take (i := 6) (v := _) rfl (by kernel_rfl) (by kernel_rfl) (by kernel_rfl) (fun _ _ _ h => h) (Or.inl ⟨by rfl, ?_⟩) hHeld ?_
          rotate_left
          · (intro w hSw; (try dsimp only at hSw); go_simp; try with_reducible rfl)
          try simp only [Act.put, List.setIfInBounds_toArray, List.set_cons_zero, List.set_cons_succ, List.getElem_toArray, List.getElem_cons_succ, List.getElem_cons_zero]
          refine' wpAnyH_take (i := 7) (v := _) rfl (by kernel_rfl) (by kernel_rfl) (by kernel_rfl) (fun _ _ _ h => h) (Or.inl ⟨by rfl, ?_⟩) hHeld ?_
          rotate_left
          · (intro w hSw; (try dsimp only at hSw); go_simp; try with_reducible rfl)
          try simp only [Act.put, List.setIfInBounds_toArray, List.set_cons_zero, List.set_cons_succ, List.getElem_toArray, List.getElem_cons_succ, List.getElem_cons_zero]
          refine' wpAnyH_take (i := 9) (v := _) rfl (by kernel_rfl) (by kernel_rfl) (by kernel_rfl) (fun _ _ _ h => h) (Or.inl ⟨by rfl, ?_⟩) hHeld ?_
          rotate_left
          · (intro w hSw; (try dsimp only at hSw); obtain ⟨ob, bx⟩ := hSw; have e0 := at_cell bx 0; have e1 := at_cell bx 1; have e2 := at_cell bx 2; have e3 := at_cell bx 3; go_simp; try with_reducible rfl)
          try simp only [Act.put, List.setIfInBounds_toArray, List.set_cons_zero, List.set_cons_succ, List.getElem_toArray, List.getElem_cons_succ, List.getElem_cons_zero]
          refine' wpAnyH_take (i := 12) (v := _) rfl (by kernel_rfl) (by kernel_rfl) (by kernel_rfl) (fun _ _ _ h => h) (Or.inl ⟨by rfl, ?_⟩) hHeld ?_
          rotate_left
          · (intro w hSw; (try dsimp only at hSw); go_simp; try with_reducible rfl)
          try simp only [Act.put, List.setIfInBounds_toArray, List.set_cons_zero, List.set_cons_succ, List.getElem_toArray, List.getElem_cons_succ, List.getElem_cons_zero]
          refine' wpAnyH_take (i := 13) (v := _) rfl (by kernel_rfl) (by kernel_rfl) (by kernel_rfl) (fun _ _ _ h => h) (Or.inl ⟨by rfl, ?_⟩) hHeld ?_
          rotate_left
          · (intro w hSw; (try dsimp only at hSw); go_simp; try with_reducible rfl)
          try simp only [Act.put, List.setIfInBounds_toArray, List.set_cons_zero, List.set_cons_succ, List.getElem_toArray, List.getElem_cons_succ, List.getElem_cons_zero]
          refine' wpAnyH_take (i := 14) (v := _) rfl (by kernel_rfl) (by kernel_rfl) (by kernel_rfl) (fun _ _ _ h => h) (Or.inl ⟨by rfl, ?_⟩) hHeld ?_
          rotate_left
          · (intro w hSw; (try dsimp only at hSw); go_simp; try with_reducible rfl)
          try simp only [Act.put, List.setIfInBounds_toArray, List.set_cons_zero, List.set_cons_succ, List.getElem_toArray, List.getElem_cons_succ, List.getElem_cons_zero]
          refine' wpAnyH_take (i := 15) (v := _) rfl (by kernel_rfl) (by kernel_rfl) (by kernel_rfl) (fun _ _ _ h => h) (Or.inl ⟨by rfl, ?_⟩) hHeld ?_
          rotate_left
          · (intro w hSw; (try dsimp only at hSw); obtain ⟨ob, bx⟩ := hSw; have q9 := at_cell ob 3; go_simp; try with_reducible rfl)
          try simp only [Act.put, List.setIfInBounds_toArray, List.set_cons_zero, List.set_cons_succ, List.getElem_toArray, List.getElem_cons_succ, List.getElem_cons_zero]
          refine' wpAnyH_take (i := 16) (v := _) rfl (by kernel_rfl) (by kernel_rfl) (by kernel_rfl) (fun _ _ _ h => h) (Or.inl ⟨by rfl, ?_⟩) hHeld ?_
          rotate_left
          · (intro w hSw; (try dsimp only at hSw); go_simp; try with_reducible rfl)
          try simp only [Act.put, List.setIfInBounds_toArray, List.set_cons_zero, List.set_cons_succ, List.getElem_toArray, List.getElem_cons_succ, List.getElem_cons_zero]
          refine' wpAnyH_take (i := 17) (v := _) rfl (by kernel_rfl) (by kernel_rfl) (by kernel_rfl) (fun _ _ _ h => h) (Or.inl ⟨by rfl, ?_⟩) hHeld ?_
          rotate_left
          · (intro w hSw; (try dsimp only at hSw); go_simp; try with_reducible rfl)
          try simp only [Act.put, List.setIfInBounds_toArray, List.set_cons_zero, List.set_cons_succ, List.getElem_toArray, List.getElem_cons_succ, List.getElem_cons_zero]
          refine wpAnyH_ready (rs := [1, 10]) (by kernel_rfl) (by simp) ?_
          refine AllReadyH.cons (o := _) rfl (fun K hK => ?_) (AllReadyH.cons (o := _) rfl (fun K hK => ?_) AllReadyH.nil)
          · have hH2 := hHeld
            obtain ⟨ob, bx⟩ := hH2
            have hg : (wi.drew).grownBy ((wi.drew).alloc (.cells #[] 29)) none := World.grownBy_alloc _ _ _
            replace TG := hid TG.out.fresh
            try rw [World.size_alloc] at TG
            have L1 := hid (show (((wi.drew).alloc (.cells #[] 29)).heap[rb]? = some (.cells #[.int .i64 n, .int .i64 m, .int .i64 f, .slice (some ⟨g, o, none⟩) N c] 40)) ∧ (((wi.drew).alloc (.cells #[] 29)).heap[w.heap.size]? = some (.cells #[.int .i64 s.who, .int .i64 s.met, .int .i64 s.ep, .int .i64 s.val] 29)) from ⟨at_grown ob hg (by simp), at_grown bx hg (by simp)⟩)
            clear hHeld hg ob bx
            try simp only [List.getElem_toArray, List.getElem_cons_succ, List.getElem_cons_zero]
            go_simp
            refine hK.out _ _ ?_ (fun hHeld => ?_)
            · exact L1.out
            clear hK K
            try dsimp only at hHeld
            try simp only [Act.put, List.setIfInBounds_toArray, List.set_cons_zero, List.set_cons_succ, List.getElem_toArray, List.getElem_cons_succ, List.getElem_cons_zero]
            refine wpAnyH_ready (rs := [8, 10]) (by kernel_rfl) (by simp) ?_
            refine AllReadyH.cons (o := _) rfl (fun K hK => ?_) (AllReadyH.cons (o := _) rfl (fun K hK => ?_) AllReadyH.nil)
            · have hH2 := hHeld
              obtain ⟨ob, bx⟩ := hH2
              try simp only [List.getElem_toArray, List.getElem_cons_succ, List.getElem_cons_zero]
              rw [if_pos (by rfl)]
              refine wp_append_smp _ _ rfl wi.heap.size _ _ rfl TG.out.own _ _ rfl (TG.out.rd.take HJ.out) (by have := HK.out; have := HN.out; simp only [List.length_append, List.length_cons, List.length_nil, List.length_take, List.length_drop]; omega) TG.out.gr.size ?_
              intro v1 w71 hown hgrow hat
              replace TG := hid (TG.out.app hown hgrow hat)
              clear hown hgrow hat
              have L8 := hid (show (w71.heap[rb]? = some (.cells #[.int .i64 n, .int .i64 m, .int .i64 f, .slice (some ⟨g, o, none⟩) N c] 40)) ∧ (w71.heap[w.heap.size]? = some (.cells #[.int .i64 s.who, .int .i64 s.met, .int .i64 s.ep, .int .i64 s.val] 29)) from ⟨TG.out.ob, TG.out.bo⟩)
              clear hHeld ob bx
              refine hK.out _ _ ?_ (fun hHeld => ?_)
              · exact L8.out
              clear hK K
              try dsimp only at hHeld
              try simp only [Act.put, List.setIfInBounds_toArray, List.set_cons_zero, List.set_cons_succ, List.getElem_toArray, List.getElem_cons_succ, List.getElem_cons_zero]
              refine wpAnyH_ready (rs := [10]) (by kernel_rfl) (by simp) ?_
              refine AllReadyH.cons (o := _) rfl (fun K hK => ?_) AllReadyH.nil
              have hH2 := hHeld
              obtain ⟨ob, bx⟩ := hH2
              have hg : w71.grownBy (w71.alloc (.cells #[.int .i64 s.who, .int .i64 s.met, .int .i64 s.ep, .int .i64 s.val] 29)) none := World.grownBy_alloc _ _ _
              have e0 := at_cell bx 0; have e1 := at_cell bx 1; have e2 := at_cell bx 2; have e3 := at_cell bx 3
              replace TG := hid TG.out.one
              try rw [World.size_alloc] at TG
              have L10 := hid (show ((w71.alloc (.cells #[.int .i64 s.who, .int .i64 s.met, .int .i64 s.ep, .int .i64 s.val] 29)).heap[rb]? = some (.cells #[.int .i64 n, .int .i64 m, .int .i64 f, .slice (some ⟨g, o, none⟩) N c] 40)) ∧ ((w71.alloc (.cells #[.int .i64 s.who, .int .i64 s.met, .int .i64 s.ep, .int .i64 s.val] 29)).heap[w.heap.size]? = some (.cells #[.int .i64 s.who, .int .i64 s.met, .int .i64 s.ep, .int .i64 s.val] 29)) from ⟨at_grown ob hg (by simp), at_grown bx hg (by simp)⟩)
              clear hHeld hg ob bx
              try simp only [List.getElem_toArray, List.getElem_cons_succ, List.getElem_cons_zero]
              go_simp
              refine hK.out _ _ ?_ (fun hHeld => ?_)
              · exact L10.out
              clear hK K
              try dsimp only at hHeld
              try simp only [Act.put, List.setIfInBounds_toArray, List.set_cons_zero, List.set_cons_succ, List.getElem_toArray, List.getElem_cons_succ, List.getElem_cons_zero]
              refine wpAnyH_ready (rs := [11]) (by kernel_rfl) (by simp) ?_
              refine AllReadyH.cons (o := _) rfl (fun K hK => ?_) AllReadyH.nil
              have hH2 := hHeld
              obtain ⟨ob, bx⟩ := hH2
              try simp only [List.getElem_toArray, List.getElem_cons_succ, List.getElem_cons_zero]
              rw [if_pos (by rfl)]
              refine wp_append_smp _ _ rfl wi.heap.size _ _ rfl TG.out.own _ _ rfl TG.out.on (by have := HK.out; have := HN.out; simp only [List.length_append, List.length_cons, List.length_nil, List.length_take, List.length_drop]; omega) TG.out.gr.size ?_
              intro v2 w72 hown hgrow hat
              replace TG := hid (TG.out.app hown hgrow hat)
              clear hown hgrow hat
              have L11 := hid (show (w72.heap[rb]? = some (.cells #[.int .i64 n, .int .i64 m, .int .i64 f, .slice (some ⟨g, o, none⟩) N c] 40)) ∧ (w72.heap[w.heap.size]? = some (.cells #[.int .i64 s.who, .int .i64 s.met, .int .i64 s.ep, .int .i64 s.val] 29)) from ⟨TG.out.ob, TG.out.bo⟩)
              clear hHeld ob bx
              refine hK.out _ _ ?_ (fun hHeld => ?_)
              · exact L11.out
              clear hK K
              try dsimp only at hHeld
              try simp only [Act.put, List.setIfInBounds_toArray, List.set_cons_zero, List.set_cons_succ, List.getElem_toArray, List.getElem_cons_succ, List.getElem_cons_zero]
              refine wpAnyH_ready (rs := [18]) (by kernel_rfl) (by simp) ?_
              refine AllReadyH.cons (o := _) rfl (fun K hK => ?_) AllReadyH.nil
              have hH2 := hHeld
              obtain ⟨ob, bx⟩ := hH2
              try simp only [List.getElem_toArray, List.getElem_cons_succ, List.getElem_cons_zero]
              rw [if_pos (by rfl)]
              refine wp_append_smp _ _ rfl wi.heap.size _ _ rfl TG.out.own _ _ rfl (TG.out.rd.dropI HJ.out) (by have := HK.out; have := HN.out; simp only [List.length_append, List.length_cons, List.length_nil, List.length_take, List.length_drop]; omega) TG.out.gr.size ?_
              intro v3 w73 hown hgrow hat
              replace TG := hid (TG.out.app hown hgrow hat)
              clear hown hgrow hat
              have L18 := hid (show (w73.heap[rb]? = some (.cells #[.int .i64 n, .int .i64 m, .int .i64 f, .slice (some ⟨g, o, none⟩) N c] 40)) ∧ (w73.heap[w.heap.size]? = some (.cells #[.int .i64 s.who, .int .i64 s.met, .int .i64 s.ep, .int .i64 s.val] 29)) from ⟨TG.out.ob, TG.out.bo⟩)
              clear hHeld ob bx
              refine hK.out _ _ ?_ (fun hHeld => ?_)
              · exact L18.out
              clear hK K
              try dsimp only at hHeld
              try simp only [Act.put, List.setIfInBounds_toArray, List.set_cons_zero, List.set_cons_succ, List.getElem_toArray, List.getElem_cons_succ, List.getElem_cons_zero]
              refine' wpAnyH_take (i := 19) (v := _) rfl (by kernel_rfl) (by kernel_rfl) (by kernel_rfl) (fun _ _ _ h => h) (Or.inl ⟨by rfl, ?_⟩) hHeld ?_
              rotate_left
              · (intro w hSw; (try dsimp only at hSw); go_simp; try with_reducible rfl)
              try simp only [Act.put, List.setIfInBounds_toArray, List.set_cons_zero, List.set_cons_succ, List.getElem_toArray, List.getElem_cons_succ, List.getElem_cons_zero]
              refine' wpAnyH_take (i := 20) (v := _) rfl (by kernel_rfl) (by kernel_rfl) (by kernel_rfl) (fun _ _ _ h => h) (Or.inl ⟨by rfl, ?_⟩) hHeld ?_
              rotate_left
              · (intro w hSw; (try dsimp only at hSw); go_simp; try with_reducible rfl)
              try simp only [Act.put, List.setIfInBounds_toArray, List.set_cons_zero, List.set_cons_succ, List.getElem_toArray, List.getElem_cons_succ, List.getElem_cons_zero]
              refine wpAnyH_done (by kernel_rfl) ?_ _
              obtain ⟨ob, bx⟩ := hHeld
              have HI3 := HINS.out
              have TG2 := TG.out
              simp only [List.nil_append] at TG2; rw [HI3] at TG2
              obtain ⟨p3, c3x, e3⟩ := TG2.own.form
              subst e3
              have HF := hid (TG2.fin (HT1.out.grown HGI2.out) H0.out HE.out)
              have k3 := at_cell TG2.ob 3
              have k4 := at_free TG2.ob 3
              clear ob bx TG TG2 HI3
              refine atLast_step (o := _) rfl (fun K hK => ?_)
              try simp only [List.getElem_toArray, List.getElem_cons_succ, List.getElem_cons_zero]
              go_simp
              refine hK.out _ _ ?_
              clear hK K k3 k4
              try simp only [Act.put, List.setIfInBounds_toArray, List.set_cons_zero, List.set_cons_succ, List.getElem_toArray, List.getElem_cons_succ, List.getElem_cons_zero]
              go_wp2_with fail
              all_goals (go_ret; exact ⟨rfl, HF.out.1, (chg_grown (gb_trans G0.out (gb_trans G1.out HGI2.out (.inl rfl)) (.inl rfl)) _).then HF.out.2⟩)
            · have hH2 := hHeld
              obtain ⟨ob, bx⟩ := hH2
              have hg : ((wi.drew).alloc (.cells #[] 29)).grownBy (((wi.drew).alloc (.cells #[] 29)).alloc (.cells #[.int .i64 s.who, .int .i64 s.met, .int .i64 s.ep, .int .i64 s.val] 29)) none := World.grownBy_alloc _ _ _
              have e0 := at_cell bx 0; have e1 := at_cell bx 1; have e2 := at_cell bx 2; have e3 := at_cell bx 3
              replace TG := hid TG.out.one
              try rw [World.size_alloc] at TG
              have L10 := hid (show ((((wi.drew).alloc (.cells #[] 29)).alloc (.cells #[.int .i64 s.who, .int .i64 s.met, .int .i64 s.ep, .int .i64 s.val] 29)).heap[rb]? = some (.cells #[.int .i64 n, .int .i64 m, .int .i64 f, .slice (some ⟨g, o, none⟩) N c] 40)) ∧ ((((wi.drew).alloc (.cells #[] 29)).alloc (.cells #[.int .i64 s.who, .int .i64 s.met, .int .i64 s.ep, .int .i64 s.val] 29)).heap[w.heap.size]? = some (.cells #[.int .i64 s.who, .int .i64 s.met, .int .i64 s.ep, .int .i64 s.val] 29)) from ⟨at_grown ob hg (by simp), at_grown bx hg (by simp)⟩)
              clear hHeld hg ob bx
              try simp only [List.getElem_toArray, List.getElem_cons_succ, List.getElem_cons_zero]
              go_simp
              refine hK.out _ _ ?_ (fun hHeld => ?_)
              · exact L10.out
              clear hK K
              try dsimp only at hHeld
              try simp only [Act.put, List.setIfInBounds_toArray, List.set_cons_zero, List.set_cons_succ, List.getElem_toArray, List.getElem_cons_succ, List.getElem_cons_zero]
              refine wpAnyH_ready (rs := [8]) (by kernel_rfl) (by simp) ?_
              refine AllReadyH.cons (o := _) rfl (fun K hK => ?_) AllReadyH.nil
              have hH2 := hHeld
              obtain ⟨ob, bx⟩ := hH2
              try simp only [List.getElem_toArray, List.getElem_cons_succ, List.getElem_cons_zero]
              rw [if_pos (by rfl)]
              refine wp_append_smp _ _ rfl wi.heap.size _ _ rfl TG.out.own _ _ rfl (TG.out.rd.take HJ.out) (by have := HK.out; have := HN.out; simp only [List.length_append, List.length_cons, List.length_nil, List.length_take, List.length_drop]; omega) TG.out.gr.size ?_
              intro v1 w71 hown hgrow hat
              replace TG := hid (TG.out.app hown hgrow hat)
              clear hown hgrow hat
              have L8 := hid (show (w71.heap[rb]? = some (.cells #[.int .i64 n, .int .i64 m, .int .i64 f, .slice (some ⟨g, o, none⟩) N c] 40)) ∧ (w71.heap[w.heap.size]? = some (.cells #[.int .i64 s.who, .int .i64 s.met, .int .i64 s.ep, .int .i64 s.val] 29)) from ⟨TG.out.ob, TG.out.bo⟩)
              clear hHeld ob bx
              refine hK.out _ _ ?_ (fun hHeld => ?_)
              · exact L8.out
              clear hK K
              try dsimp only at hHeld
              try simp only [Act.put, List.setIfInBounds_toArray, List.set_cons_zero, List.set_cons_succ, List.getElem_toArray, List.getElem_cons_succ, List.getElem_cons_zero]
              refine wpAnyH_ready (rs := [11]) (by kernel_rfl) (by simp) ?_
              refine AllReadyH.cons (o := _) rfl (fun K hK => ?_) AllReadyH.nil
              have hH2 := hHeld
              obtain ⟨ob, bx⟩ := hH2
              try simp only [List.getElem_toArray, List.getElem_cons_succ, List.getElem_cons_zero]
              rw [if_pos (by rfl)]
              refine wp_append_smp _ _ rfl wi.heap.size _ _ rfl TG.out.own _ _ rfl TG.out.on (by have := HK.out; have := HN.out; simp only [List.length_append, List.length_cons, List.length_nil, List.length_take, List.length_drop]; omega) TG.out.gr.size ?_
              intro v2 w72 hown hgrow hat
              replace TG := hid (TG.out.app hown hgrow hat)
              clear hown hgrow hat
              have L11 := hid (show (w72.heap[rb]? = some (.cells #[.int .i64 n, .int .i64 m, .int .i64 f, .slice (some ⟨g, o, none⟩) N c] 40)) ∧ (w72.heap[w.heap.size]? = some (.cells #[.int .i64 s.who, .int .i64 s.met, .int .i64 s.ep, .int .i64 s.val] 29)) from ⟨TG.out.ob, TG.out.bo⟩)
              clear hHeld ob bx
              refine hK.out _ _ ?_ (fun hHeld => ?_)
              · exact L11.out
              clear hK K
              try dsimp only at hHeld
              try simp only [Act.put, List.setIfInBounds_toArray, List.set_cons_zero, List.set_cons_succ, List.getElem_toArray, List.getElem_cons_succ, List.getElem_cons_zero]
              refine wpAnyH_ready (rs := [18]) (by kernel_rfl) (by simp) ?_
              refine AllReadyH.cons (o := _) rfl (fun K hK => ?_) AllReadyH.nil
              have hH2 := hHeld
              obtain ⟨ob, bx⟩ := hH2
              try simp only [List.getElem_toArray, List.getElem_cons_succ, List.getElem_cons_zero]
              rw [if_pos (by rfl)]
              refine wp_append_smp _ _ rfl wi.heap.size _ _ rfl TG.out.own _ _ rfl (TG.out.rd.dropI HJ.out) (by have := HK.out; have := HN.out; simp only [List.length_append, List.length_cons, List.length_nil, List.length_take, List.length_drop]; omega) TG.out.gr.size ?_
              intro v3 w73 hown hgrow hat
              replace TG := hid (TG.out.app hown hgrow hat)
              clear hown hgrow hat
              have L18 := hid (show (w73.heap[rb]? = some (.cells #[.int .i64 n, .int .i64 m, .int .i64 f, .slice (some ⟨g, o, none⟩) N c] 40)) ∧ (w73.heap[w.heap.size]? = some (.cells #[.int .i64 s.who, .int .i64 s.met, .int .i64 s.ep, .int .i64 s.val] 29)) from ⟨TG.out.ob, TG.out.bo⟩)
              clear hHeld ob bx
              refine hK.out _ _ ?_ (fun hHeld => ?_)
              · exact L18.out
              clear hK K
              try dsimp only at hHeld
              try simp only [Act.put, List.setIfInBounds_toArray, List.set_cons_zero, List.set_cons_succ, List.getElem_toArray, List.getElem_cons_succ, List.getElem_cons_zero]
              refine' wpAnyH_take (i := 19) (v := _) rfl (by kernel_rfl) (by kernel_rfl) (by kernel_rfl) (fun _ _ _ h => h) (Or.inl ⟨by rfl, ?_⟩) hHeld ?_
              rotate_left
              · (intro w hSw; (try dsimp only at hSw); go_simp; try with_reducible rfl)
              try simp only [Act.put, List.setIfInBounds_toArray, List.set_cons_zero, List.set_cons_succ, List.getElem_toArray, List.getElem_cons_succ, List.getElem_cons_zero]
              refine' wpAnyH_take (i := 20) (v := _) rfl (by kernel_rfl) (by kernel_rfl) (by kernel_rfl) (fun _ _ _ h => h) (Or.inl ⟨by rfl, ?_⟩) hHeld ?_
              rotate_left
              · (intro w hSw; (try dsimp only at hSw); go_simp; try with_reducible rfl)
              try simp only [Act.put, List.setIfInBounds_toArray, List.set_cons_zero, List.set_cons_succ, List.getElem_toArray, List.getElem_cons_succ, List.getElem_cons_zero]
              refine wpAnyH_done (by kernel_rfl) ?_ _
              obtain ⟨ob, bx⟩ := hHeld
              have HI3 := HINS.out
              have TG2 := TG.out
              simp only [List.nil_append] at TG2; rw [HI3] at TG2
              obtain ⟨p3, c3x, e3⟩ := TG2.own.form
              subst e3
              have HF := hid (TG2.fin (HT1.out.grown HGI2.out) H0.out HE.out)
              have k3 := at_cell TG2.ob 3
              have k4 := at_free TG2.ob 3
              clear ob bx TG TG2 HI3
              refine atLast_step (o := _) rfl (fun K hK => ?_)
              try simp only [List.getElem_toArray, List.getElem_cons_succ, List.getElem_cons_zero]
              go_simp
              refine hK.out _ _ ?_
              clear hK K k3 k4
              try simp only [Act.put, List.setIfInBounds_toArray, List.set_cons_zero, List.set_cons_succ, List.getElem_toArray, List.getElem_cons_succ, List.getElem_cons_zero]
              go_wp2_with fail
              all_goals (go_ret; exact ⟨rfl, HF.out.1, (chg_grown (gb_trans G0.out (gb_trans G1.out HGI2.out (.inl rfl)) (.inl rfl)) _).then HF.out.2⟩)
          · have hH2 := hHeld
            obtain ⟨ob, bx⟩ := hH2
            have hg : (wi.drew).grownBy ((wi.drew).alloc (.cells #[.int .i64 s.who, .int .i64 s.met, .int .i64 s.ep, .int .i64 s.val] 29)) none := World.grownBy_alloc _ _ _
            have e0 := at_cell bx 0; have e1 := at_cell bx 1; have e2 := at_cell bx 2; have e3 := at_cell bx 3
            replace TG := hid TG.out.one
            try rw [World.size_alloc] at TG
            have L10 := hid (show (((wi.drew).alloc (.cells #[.int .i64 s.who, .int .i64 s.met, .int .i64 s.ep, .int .i64 s.val] 29)).heap[rb]? = some (.cells #[.int .i64 n, .int .i64 m, .int .i64 f, .slice (some ⟨g, o, none⟩) N c] 40)) ∧ (((wi.drew).alloc (.cells #[.int .i64 s.who, .int .i64 s.met, .int .i64 s.ep, .int .i64 s.val] 29)).heap[w.heap.size]? = some (.cells #[.int .i64 s.who, .int .i64 s.met, .int .i64 s.ep, .int .i64 s.val] 29)) from ⟨at_grown ob hg (by simp), at_grown bx hg (by simp)⟩)
            clear hHeld hg ob bx
            try simp only [List.getElem_toArray, List.getElem_cons_succ, List.getElem_cons_zero]
            go_simp
            refine hK.out _ _ ?_ (fun hHeld => ?_)
            · exact L10.out
            clear hK K
            try dsimp only at hHeld
            try simp only [Act.put, List.setIfInBounds_toArray, List.set_cons_zero, List.set_cons_succ, List.getElem_toArray, List.getElem_cons_succ, List.getElem_cons_zero]
            refine wpAnyH_ready (rs := [1]) (by kernel_rfl) (by simp) ?_
            refine AllReadyH.cons (o := _) rfl (fun K hK => ?_) AllReadyH.nil
            have hH2 := hHeld
            obtain ⟨ob, bx⟩ := hH2
            have hg : ((wi.drew).alloc (.cells #[.int .i64 s.who, .int .i64 s.met, .int .i64 s.ep, .int .i64 s.val] 29)).grownBy (((wi.drew).alloc (.cells #[.int .i64 s.who, .int .i64 s.met, .int .i64 s.ep, .int .i64 s.val] 29)).alloc (.cells #[] 29)) none := World.grownBy_alloc _ _ _
            replace TG := hid TG.out.fresh
            try rw [World.size_alloc] at TG
            have L1 := hid (show ((((wi.drew).alloc (.cells #[.int .i64 s.who, .int .i64 s.met, .int .i64 s.ep, .int .i64 s.val] 29)).alloc (.cells #[] 29)).heap[rb]? = some (.cells #[.int .i64 n, .int .i64 m, .int .i64 f, .slice (some ⟨g, o, none⟩) N c] 40)) ∧ ((((wi.drew).alloc (.cells #[.int .i64 s.who, .int .i64 s.met, .int .i64 s.ep, .int .i64 s.val] 29)).alloc (.cells #[] 29)).heap[w.heap.size]? = some (.cells #[.int .i64 s.who, .int .i64 s.met, .int .i64 s.ep, .int .i64 s.val] 29)) from ⟨at_grown ob hg (by simp), at_grown bx hg (by simp)⟩)
            clear hHeld hg ob bx
            try simp only [List.getElem_toArray, List.getElem_cons_succ, List.getElem_cons_zero]
            go_simp
            refine hK.out _ _ ?_ (fun hHeld => ?_)
            · exact L1.out
            clear hK K
            try dsimp only at hHeld
            try simp only [Act.put, List.setIfInBounds_toArray, List.set_cons_zero, List.set_cons_succ, List.getElem_toArray, List.getElem_cons_succ, List.getElem_cons_zero]
            refine wpAnyH_ready (rs := [8]) (by kernel_rfl) (by simp) ?_
            refine AllReadyH.cons (o := _) rfl (fun K hK => ?_) AllReadyH.nil
            have hH2 := hHeld
            obtain ⟨ob, bx⟩ := hH2
            try simp only [List.getElem_toArray, List.getElem_cons_succ, List.getElem_cons_zero]
            rw [if_pos (by rfl)]
            refine wp_append_smp _ _ rfl wi.heap.size _ _ rfl TG.out.own _ _ rfl (TG.out.rd.take HJ.out) (by have := HK.out; have := HN.out; simp only [List.length_append, List.length_cons, List.length_nil, List.length_take, List.length_drop]; omega) TG.out.gr.size ?_
            intro v1 w71 hown hgrow hat
            replace TG := hid (TG.out.app hown hgrow hat)
            clear hown hgrow hat
            have L8 := hid (show (w71.heap[rb]? = some (.cells #[.int .i64 n, .int .i64 m, .int .i64 f, .slice (some ⟨g, o, none⟩) N c] 40)) ∧ (w71.heap[w.heap.size]? = some (.cells #[.int .i64 s.who, .int .i64 s.met, .int .i64 s.ep, .int .i64 s.val] 29)) from ⟨TG.out.ob, TG.out.bo⟩)
            clear hHeld ob bx
            refine hK.out _ _ ?_ (fun hHeld => ?_)
            · exact L8.out
            clear hK K
            try dsimp only at hHeld
            try simp only [Act.put, List.setIfInBounds_toArray, List.set_cons_zero, List.set_cons_succ, List.getElem_toArray, List.getElem_cons_succ, List.getElem_cons_zero]
            refine wpAnyH_ready (rs := [11]) (by kernel_rfl) (by simp) ?_
            refine AllReadyH.cons (o := _) rfl (fun K hK => ?_) AllReadyH.nil
            have hH2 := hHeld
            obtain ⟨ob, bx⟩ := hH2
            try simp only [List.getElem_toArray, List.getElem_cons_succ, List.getElem_cons_zero]
            rw [if_pos (by rfl)]
            refine wp_append_smp _ _ rfl wi.heap.size _ _ rfl TG.out.own _ _ rfl TG.out.on (by have := HK.out; have := HN.out; simp only [List.length_append, List.length_cons, List.length_nil, List.length_take, List.length_drop]; omega) TG.out.gr.size ?_
            intro v2 w72 hown hgrow hat
            replace TG := hid (TG.out.app hown hgrow hat)
            clear hown hgrow hat
            have L11 := hid (show (w72.heap[rb]? = some (.cells #[.int .i64 n, .int .i64 m, .int .i64 f, .slice (some ⟨g, o, none⟩) N c] 40)) ∧ (w72.heap[w.heap.size]? = some (.cells #[.int .i64 s.who, .int .i64 s.met, .int .i64 s.ep, .int .i64 s.val] 29)) from ⟨TG.out.ob, TG.out.bo⟩)
            clear hHeld ob bx
            refine hK.out _ _ ?_ (fun hHeld => ?_)
            · exact L11.out
            clear hK K
            try dsimp only at hHeld
            try simp only [Act.put, List.setIfInBounds_toArray, List.set_cons_zero, List.set_cons_succ, List.getElem_toArray, List.getElem_cons_succ, List.getElem_cons_zero]
            refine wpAnyH_ready (rs := [18]) (by kernel_rfl) (by simp) ?_
            refine AllReadyH.cons (o := _) rfl (fun K hK => ?_) AllReadyH.nil
            have hH2 := hHeld
            obtain ⟨ob, bx⟩ := hH2
            try simp only [List.getElem_toArray, List.getElem_cons_succ, List.getElem_cons_zero]
            rw [if_pos (by rfl)]
            refine wp_append_smp _ _ rfl wi.heap.size _ _ rfl TG.out.own _ _ rfl (TG.out.rd.dropI HJ.out) (by have := HK.out; have := HN.out; simp only [List.length_append, List.length_cons, List.length_nil, List.length_take, List.length_drop]; omega) TG.out.gr.size ?_
            intro v3 w73 hown hgrow hat
            replace TG := hid (TG.out.app hown hgrow hat)
            clear hown hgrow hat
            have L18 := hid (show (w73.heap[rb]? = some (.cells #[.int .i64 n, .int .i64 m, .int .i64 f, .slice (some ⟨g, o, none⟩) N c] 40)) ∧ (w73.heap[w.heap.size]? = some (.cells #[.int .i64 s.who, .int .i64 s.met, .int .i64 s.ep, .int .i64 s.val] 29)) from ⟨TG.out.ob, TG.out.bo⟩)
            clear hHeld ob bx
            refine hK.out _ _ ?_ (fun hHeld => ?_)
            · exact L18.out
            clear hK K
            try dsimp only at hHeld
            try simp only [Act.put, List.setIfInBounds_toArray, List.set_cons_zero, List.set_cons_succ, List.getElem_toArray, List.getElem_cons_succ, List.getElem_cons_zero]
            refine' wpAnyH_take (i := 19) (v := _) rfl (by kernel_rfl) (by kernel_rfl) (by kernel_rfl) (fun _ _ _ h => h) (Or.inl ⟨by rfl, ?_⟩) hHeld ?_
            rotate_left
            · (intro w hSw; (try dsimp only at hSw); go_simp; try with_reducible rfl)
            try simp only [Act.put, List.setIfInBounds_toArray, List.set_cons_zero, List.set_cons_succ, List.getElem_toArray, List.getElem_cons_succ, List.getElem_cons_zero]
            refine' wpAnyH_take (i := 20) (v := _) rfl (by kernel_rfl) (by kernel_rfl) (by kernel_rfl) (fun _ _ _ h => h) (Or.inl ⟨by rfl, ?_⟩) hHeld ?_
            rotate_left
            · (intro w hSw; (try dsimp only at hSw); go_simp; try with_reducible rfl)
            try simp only [Act.put, List.setIfInBounds_toArray, List.set_cons_zero, List.set_cons_succ, List.getElem_toArray, List.getElem_cons_succ, List.getElem_cons_zero]
            refine wpAnyH_done (by kernel_rfl) ?_ _
            obtain ⟨ob, bx⟩ := hHeld
            have HI3 := HINS.out
            have TG2 := TG.out
            simp only [List.nil_append] at TG2; rw [HI3] at TG2
            obtain ⟨p3, c3x, e3⟩ := TG2.own.form
            subst e3
            have HF := hid (TG2.fin (HT1.out.grown HGI2.out) H0.out HE.out)
            have k3 := at_cell TG2.ob 3
            have k4 := at_free TG2.ob 3
            clear ob bx TG TG2 HI3
            refine atLast_step (o := _) rfl (fun K hK => ?_)
            try simp only [List.getElem_toArray, List.getElem_cons_succ, List.getElem_cons_zero]
            go_simp
            refine hK.out _ _ ?_
            clear hK K k3 k4
            try simp only [Act.put, List.setIfInBounds_toArray, List.set_cons_zero, List.set_cons_succ, List.getElem_toArray, List.getElem_cons_succ, List.getElem_cons_zero]
            go_wp2_with fail
            all_goals (go_ret; exact ⟨rfl, HF.out.1, (chg_grown (gb_trans G0.out (gb_trans G1.out HGI2.out (.inl rfl)) (.inl rfl)) _).then HF.out.2⟩)
theorem rput_any {base : Nat} {n m f : Int} {L : List Sm} {rb : Nat} {w : World} (h : RtAt base n m f L rb w) (hlen : L.length ≤ 100000) (s : Sm) (now : Int) (he : wf64 s.ep) (hn : wf64 now) :
    Calls Try.prog 13 #[.pointer (some ⟨rb, 0, none⟩), .agg #[.int .i64 s.who, .int .i64 s.met, .int .i64 s.ep, .int .i64 s.val], .int .i64 now] w fun e w' => e = .returned (.int .i64 (mayT n m f L s now)) ∧ RtAt base n m f (putT n m f L s now) rb w' ∧ Chg [rb] w w' := by
  by_cases h0 : mayT n m f L s now = 0
  · have := rput_yes h hlen s now he hn h0
    unfold putT
    rw [if_pos h0, h0]
    exact this
  · exact rput_no h hlen s now he hn h0
end Go.Proofs.Ytjjcnojckbeekaa
