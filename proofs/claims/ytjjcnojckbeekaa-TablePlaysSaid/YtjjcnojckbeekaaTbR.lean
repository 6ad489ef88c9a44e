/-
  The document's table in its block, its samples in a slice. Contracts: NewTable, before, May. The condition: the table lies there.
-/
import Derived.Test.YtjjcnojckbeekaaTbO
import Derived.Test.YtjjcnojckbeekaaTbZ
import Derived.Test.YtjjcnojckbeekaaGen
import Derived.BigQuiet
set_option linter.unusedSimpArgs false
set_option linter.unusedVariables false
namespace Go.Proofs.Ytjjcnojckbeekaa
set_option maxRecDepth 100000
open Go.RowKit

/-- the document's table: its samples lie in a slice that was made since 'base' -/
structure RtAt (base : Nat) (n m f : Int) (L : List Sm) (rb : Nat) (W : World) : Prop where
  obj : ∃ v, W.heap[rb]? = some (.cells #[.int .i64 n, .int .i64 m, .int .i64 f, v] 40) ∧ OwnZ base W v L
  lo : rb < base
  le : base ≤ W.heap.size
  fine : Fine n L
  nm : MayNew n m f
section
variable {base : Nat} {n m f : Int} {L : List Sm} {rb : Nat} {W W' : World} {F : List Nat}
theorem RtAt.chg (h : RtAt base n m f L rb W) (hc : Chg F W W') (hF : ∀ x ∈ F, x < base) (hr : rb ∉ F) : RtAt base n m f L rb W' := by
  obtain ⟨v, h1, h2⟩ := h.obj
  exact ⟨⟨v, hc.at h1 hr, h2.chg hc (fun g hg hm => by have := hF g hm; have := (h2.lt g hg).1; omega)⟩, h.lo, Nat.le_trans h.le hc.size, h.fine, h.nm⟩
theorem RtAt.grown (h : RtAt base n m f L rb W) (hg : W.grownBy W' none) : RtAt base n m f L rb W' := h.chg (chg_grown hg []) (by simp) (by simp)
theorem RtAt.drew (h : RtAt base n m f L rb W) : RtAt base n m f L rb W.drew := ⟨h.obj, h.lo, h.le, h.fine, h.nm⟩
theorem RtAt.alloc (h : RtAt base n m f L rb W) (o : Obj) : RtAt base n m f L rb (W.alloc o) := h.grown (World.grownBy_alloc W o none)
theorem RtAt.cells (h : RtAt base n m f L rb W) : ∃ p c, W.cell? ⟨rb, 0, none⟩ = some (.int .i64 n) ∧ W.cell? ⟨rb, 1, none⟩ = some (.int .i64 m) ∧ W.cell? ⟨rb, 2, none⟩ = some (.int .i64 f) ∧ W.cell? ⟨rb, 3, none⟩ = some (.slice p L.length c) ∧ OwnZ base W (.slice p L.length c) L ∧ W.heap[rb]? = some (.cells #[.int .i64 n, .int .i64 m, .int .i64 f, .slice p L.length c] 40) := by
  obtain ⟨v, h1, h2⟩ := h.obj
  obtain ⟨p, c, rfl⟩ := h2.form
  exact ⟨p, c, at_cell h1 0, at_cell h1 1, at_cell h1 2, at_cell h1 3, h2, h1⟩
theorem RtAt.lt (h : RtAt base n m f L rb W) : rb < W.heap.size := Nat.lt_of_lt_of_le h.lo h.le
end
theorem rnew_not (n m f : Int) (h : ¬ MayNew n m f) (w : World) : Calls Try.prog 8 #[.int .i64 n, .int .i64 m, .int .i64 f] w fun e w' => e = .returned (.pointer none) ∧ w' = w := by
  unfold MayNew at h
  by_cases h1 : n < 1
  · go_enter Try.func8, Try.ntmps8; go_wp2; go_ret; exact ⟨by simp, rfl⟩
  · by_cases h2 : 16 < n
    · go_enter Try.func8, Try.ntmps8; go_wp2; go_ret; exact ⟨by simp, rfl⟩
    · by_cases h3 : m < 1
      · go_enter Try.func8, Try.ntmps8; go_wp2; go_ret; exact ⟨by simp, rfl⟩
      · by_cases h4 : 4 < m
        · go_enter Try.func8, Try.ntmps8; go_wp2; go_ret; exact ⟨by simp, rfl⟩
        · by_cases h5 : f < 1
          · go_enter Try.func8, Try.ntmps8; go_wp2; go_ret; exact ⟨by simp, rfl⟩
          · by_cases h6 : 8 < f
            · go_enter Try.func8, Try.ntmps8; go_wp2; go_ret; exact ⟨by simp, rfl⟩
            · exact absurd ⟨by omega, by omega, by omega, by omega, by omega, by omega⟩ h
theorem rnew_yes (n m f : Int) (h : MayNew n m f) (w : World) : Calls Try.prog 8 #[.int .i64 n, .int .i64 m, .int .i64 f] w fun e w' => e = .returned (.pointer (some ⟨w.heap.size, 0, none⟩)) ∧ RtAt (w.heap.size + 1) n m f [] w.heap.size w' ∧ w.grownBy w' none := by
  have hh := h
  unfold MayNew at h
  have HH := hid hh
  clear hh
  have h1 : ¬ n < 1 := by omega
  have h2 : ¬ 16 < n := by omega
  have h3 : ¬ m < 1 := by omega
  have h4 : ¬ 4 < m := by omega
  have h5 : ¬ f < 1 := by omega
  have h6 : ¬ 8 < f := by omega
  clear h
  go_enter Try.func8, Try.ntmps8
  go_wp2
  go_ret
  exact ⟨by simp, ⟨⟨_, at_new w _, OwnZ.nil _ _⟩, Nat.lt_succ_self _, by simp, Fine.nil n, HH.out⟩, gb_alloc (.refl w none) _⟩
/-- is the one's place ahead of the other's? -/
theorem before_any (a b : Sm) (w : World) : Calls Try.prog 23 #[.agg #[.int .i64 a.who, .int .i64 a.met, .int .i64 a.ep, .int .i64 a.val], .agg #[.int .i64 b.who, .int .i64 b.met, .int .i64 b.ep, .int .i64 b.val]] w fun e w' => e = .returned (.bool (decide (PlLt a.pl b.pl))) ∧ w.grownBy w' none := by
  obtain ⟨aw, am, ae, av⟩ := a
  obtain ⟨bw, bm, be, bv⟩ := b
  obtain ⟨r, hr⟩ : ∃ r : Bool, r = decide (PlLt (Sm.pl ⟨aw, am, ae, av⟩) (Sm.pl ⟨bw, bm, be, bv⟩)) := ⟨_, rfl⟩
  rw [← hr]
  unfold PlLt Sm.pl at hr
  simp only at hr ⊢
  by_cases h1 : ae = be
  · by_cases h2 : am = bm
    · subst h1 h2
      have HR := hid (show decide (aw < bw) = r by rw [hr]; exact decide_eq_decide.2 (by omega))
      clear hr
      go_enter Try.func23, Try.ntmps23
      go_wp2
      go_ret
      exact ⟨told_bool HR.out, gb_alloc (gb_alloc (.refl w none) _) _⟩
    · subst h1
      have HR := hid (show decide (am < bm) = r by rw [hr]; exact decide_eq_decide.2 (by omega))
      clear hr
      go_enter Try.func23, Try.ntmps23
      go_wp2
      go_ret
      exact ⟨told_bool HR.out, gb_alloc (gb_alloc (.refl w none) _) _⟩
  · have HR := hid (show decide (ae < be) = r by rw [hr]; exact decide_eq_decide.2 (by omega))
    clear hr
    go_enter Try.func23, Try.ntmps23
    go_wp2
    go_ret
    exact ⟨told_bool HR.out, gb_alloc (gb_alloc (.refl w none) _) _⟩
set_option maxHeartbeats 1600000 in
theorem rmay_arg {base : Nat} {n m f : Int} {L : List Sm} {rb : Nat} {w : World} (h : RtAt base n m f L rb w) (s : Sm) (now : Int) (hA : ¬ AdmT n m s) :
    Calls Try.prog 11 #[.pointer (some ⟨rb, 0, none⟩), .agg #[.int .i64 s.who, .int .i64 s.met, .int .i64 s.ep, .int .i64 s.val], .int .i64 now] w fun e w' => e = .returned (.int .i64 1) ∧ w.grownBy w' none := by
  obtain ⟨p, c, c0, c1, c2, c3, -, -⟩ := (h.alloc (.cells #[.int .i64 s.who, .int .i64 s.met, .int .i64 s.ep, .int .i64 s.val] 29)).cells
  have hb := h.lt
  clear h
  obtain ⟨a, y, e, v⟩ := s
  unfold AdmT at hA
  simp only at *
  have HA := hid hA
  clear hA
  go_enter Try.func11, Try.ntmps11
  go_wp2_with fail
  by_cases h1 : a < 0
  · go_quiet (fail)
    go_wp2_with fail
    go_ret
    exact ⟨rfl, gb_drewN (gb_alloc (.refl w none) _) _⟩
  · by_cases h2 : n ≤ a
    · go_quiet (fail)
      go_wp2_with fail
      go_ret
      exact ⟨rfl, gb_drewN (gb_alloc (.refl w none) _) _⟩
    · by_cases h3 : y < 0
      · go_quiet (fail)
        go_wp2_with fail
        go_ret
        exact ⟨rfl, gb_drewN (gb_alloc (.refl w none) _) _⟩
      · by_cases h4 : m ≤ y
        · go_quiet (fail)
          go_wp2_with fail
          go_ret
          exact ⟨rfl, gb_drewN (gb_alloc (.refl w none) _) _⟩
        · by_cases h5 : v < 0
          · go_quiet (fail)
            go_wp2_with fail
            go_ret
            exact ⟨rfl, gb_drewN (gb_alloc (.refl w none) _) _⟩
          · by_cases h6 : 1099511627776 < v
            · go_quiet (fail)
              go_wp2_with fail
              go_ret
              exact ⟨rfl, gb_drewN (gb_alloc (.refl w none) _) _⟩
            · exact absurd (by omega) HA.out
theorem drewN_cell (w : World) (k : Nat) (p : Addr) : (w.drewN k).cell? p = w.cell? p := rfl
set_option maxHeartbeats 3200000 in
theorem rmay_stale {base : Nat} {n m f : Int} {L : List Sm} {rb : Nat} {w : World} (h : RtAt base n m f L rb w) (s : Sm) (now : Int) (he : wf64 s.ep) (hn : wf64 now) (hA : AdmT n m s) (hF : ¬ (now ≤ s.ep ∧ s.ep - now < f)) :
    Calls Try.prog 11 #[.pointer (some ⟨rb, 0, none⟩), .agg #[.int .i64 s.who, .int .i64 s.met, .int .i64 s.ep, .int .i64 s.val], .int .i64 now] w fun e w' => e = .returned (.int .i64 7) ∧ w.grownBy w' none := by
  obtain ⟨p, c, c0, c1, c2, c3, -, -⟩ := (h.alloc (.cells #[.int .i64 s.who, .int .i64 s.met, .int .i64 s.ep, .int .i64 s.val] 29)).cells
  have hb := h.lt
  have hnm := h.nm
  unfold MayNew at hnm
  clear h
  obtain ⟨a, y, e, v⟩ := s
  unfold AdmT at hA
  unfold wf64 at he hn
  simp only at *
  obtain ⟨h1, h2, h3, h4, h5, h6⟩ := hA
  have e0 := at_cell (at_new w (.cells #[.int .i64 a, .int .i64 y, .int .i64 e, .int .i64 v] 29)) 0
  have e1 := at_cell (at_new w (.cells #[.int .i64 a, .int .i64 y, .int .i64 e, .int .i64 v] 29)) 1
  have e2 := at_cell (at_new w (.cells #[.int .i64 a, .int .i64 y, .int .i64 e, .int .i64 v] 29)) 2
  have e3 := at_cell (at_new w (.cells #[.int .i64 a, .int .i64 y, .int .i64 e, .int .i64 v] 29)) 3
  have G0 := hid (World.grownBy_alloc w (.cells #[.int .i64 a, .int .i64 y, .int .i64 e, .int .i64 v] 29) none)
  have f1 : ¬ a < 0 := by omega
  have f2 : ¬ n ≤ a := by omega
  have f3 : ¬ y < 0 := by omega
  have f4 : ¬ m ≤ y := by omega
  have f5 : ¬ v < 0 := by omega
  have f6 : ¬ 1099511627776 < v := by omega
  have HF := hid hF
  have s2 : IntKind.u64.wrap f = f := by simp only [IntKind.wrap_u64]; omega
  go_enter Try.func11, Try.ntmps11
  go_wp2_with fail
  generalize hW1 : w.alloc (.cells #[.int .i64 a, .int .i64 y, .int .i64 e, .int .i64 v] 29) = W1 at *
  clear hW1
  go_quiet (fail)
  go_wp2_with fail
  clear f1 f2 f3 f4 f5 f6 h1 h2 h3 h4 h5 h6 c0 c1 e0 e1 e3 hF
  have c2' := c2
  by_cases h1 : now ≤ e
  · have g1 : ¬ e < now := by omega
    have h2 : f ≤ e - now := by have := HF.out; omega
    have s1 : IntKind.u64.wrap (IntKind.u64.wrap e - IntKind.u64.wrap now) = e - now := by
      simp only [IntKind.wrap_u64]; omega
    go_quiet (fail)
    go_wp2_with fail
    go_ret
    exact ⟨rfl, gb_drewN G0.out _⟩
  · have g1 : e < now := by omega
    go_quiet (fail)
    go_wp2_with fail
    go_ret
    exact ⟨rfl, gb_drewN G0.out _⟩
end Go.Proofs.Ytjjcnojckbeekaa
