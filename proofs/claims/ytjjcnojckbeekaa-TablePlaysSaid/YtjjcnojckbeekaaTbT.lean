/-
  The program's table in its two blocks: its object and its map. Contracts for what only reads: placeOf, sample, admits, isFresh. No condition.
-/
import Derived.Test.YtjjcnojckbeekaaTbS
import Derived.Test.YtjjcnojckbeekaaOps
import Derived.Test.YtjjcnojckbeekaaGen
import Derived.Test.YtjjcnojckbeekaaUmod
import Derived.BigQuiet
set_option linter.unusedSimpArgs false
set_option linter.unusedVariables false
namespace Go.Proofs.Ytjjcnojckbeekaa
set_option maxRecDepth 100000
open Go.RowKit

/-- the program's table -/
structure TbAt (n m f : Int) (L : List Sm) (b mb : Nat) (W : World) : Prop where
  obj : W.heap[b]? = some (.cells #[.int .i64 n, .int .i64 m, .int .u64 f, .map (some mb)] 48)
  map : ∃ D : DataW Unit, W.ownsMap Try.prog 53 (plainElem Try.prog 2) mb L.length D ∧ MapIs D L
  fine : Fine n L
  nm : 1 ≤ n ∧ n ≤ 16 ∧ 1 ≤ m ∧ m ≤ 4 ∧ 1 ≤ f ∧ f ≤ 8
section
variable {n m f : Int} {L : List Sm} {b mb : Nat} {W W' : World} {F : List Nat} {s : Sm}
theorem owns_chg {D : DataW Unit} {k : Nat} (h : W.ownsMap Try.prog 53 (plainElem Try.prog 2) mb k D) (hc : Chg F W W') (hn : mb ∉ F) : W'.ownsMap Try.prog 53 (plainElem Try.prog 2) mb k D := by
  obtain ⟨es, clock, hb, Ft, hs, hD⟩ := h
  exact ⟨es, clock, hc.at hb hn, Ft, hs, hD⟩
theorem owns_tight {D : DataW Unit} {k : Nat} (h : W.ownsMap Try.prog 53 (plainElem Try.prog 2) mb k D) : W.ownsMap Try.prog 53 (plainElem Try.prog 2) mb (Maps.size D) D := by
  obtain ⟨es, clock, hb, Ft, hs, rfl⟩ := h
  exact ⟨es, clock, hb, Ft, by simp [Maps.size, length_sorted], rfl⟩
theorem TbAt.chg (h : TbAt n m f L b mb W) (hc : Chg F W W') (h1 : b ∉ F) (h2 : mb ∉ F) : TbAt n m f L b mb W' := by
  obtain ⟨D, k1, k2⟩ := h.map
  exact ⟨hc.at h.obj h1, ⟨D, owns_chg k1 hc h2, k2⟩, h.fine, h.nm⟩
theorem TbAt.grown (h : TbAt n m f L b mb W) (hg : W.grownBy W' none) : TbAt n m f L b mb W' := h.chg (chg_grown hg []) (by simp) (by simp)
theorem TbAt.drew (h : TbAt n m f L b mb W) : TbAt n m f L b mb W.drew := ⟨h.obj, h.map, h.fine, h.nm⟩
theorem TbAt.alloc (h : TbAt n m f L b mb W) (o : Obj) : TbAt n m f L b mb (W.alloc o) := h.grown (World.grownBy_alloc W o none)
theorem TbAt.cells (h : TbAt n m f L b mb W) : W.cell? ⟨b, 0, none⟩ = some (.int .i64 n) ∧ W.cell? ⟨b, 1, none⟩ = some (.int .i64 m) ∧ W.cell? ⟨b, 2, none⟩ = some (.int .u64 f) ∧ W.cell? ⟨b, 3, none⟩ = some (.map (some mb)) :=
  ⟨at_cell h.obj 0, at_cell h.obj 1, at_cell h.obj 2, at_cell h.obj 3⟩
theorem TbAt.lt (h : TbAt n m f L b mb W) : b < W.heap.size ∧ mb < W.heap.size := by
  obtain ⟨D, k1, k2⟩ := h.map
  exact ⟨at_lt h.obj, k1.lt⟩
theorem TbAt.ne (h : TbAt n m f L b mb W) : b ≠ mb := by
  obtain ⟨D, ⟨es, clock, hb, _⟩, k2⟩ := h.map
  intro e
  have := h.obj
  rw [e, hb] at this
  cases this
/-- a look-up that finds -/
theorem TbAt.hit (h : TbAt n m f L b mb W) (hs : s ∈ L) (c : Bool) : (Instr.lookup 46 (.map (some mb)) (.agg #[.int .i64 s.ep, .int .i64 s.met, .int .i64 s.who]) c).run Try.prog W = .ok (if c then .tuple #[.int .i64 s.val, .bool true] else .int .i64 s.val) W := by
  obtain ⟨D, k1, k2⟩ := h.map
  have hf := h.fine.fits s hs
  have hat := k2.at h.fine.srt h.fine.fits hs
  have hz : plainElem (H := Unit) Try.prog 2 (.int .i64 0) = some (.lit (.int .i64 0), []) := plainElem_int Try.underlying2 (by decide)
  cases c
  · obtain ⟨v, ps, hr, hv⟩ := k1.lookup keyed Try.underlying46 (Try.zeroValue2 W) hz (keyOf_pl hf)
    rw [hat] at hv
    obtain ⟨a, rfl, e⟩ := elem_i64 hv
    cases e
    exact hr
  · obtain ⟨v, ps, hr, hv⟩ := k1.look_ok keyed Try.underlying46 (Try.zeroValue2 W) hz (keyOf_pl hf)
    rw [hat] at hv
    obtain ⟨a, rfl, e⟩ := elem_i64 hv
    cases e
    rw [(k2.has_iff h.fine.fits hf).2 ⟨s, hs, rfl⟩] at hr
    exact hr
/-- a look-up that finds nothing -/
theorem TbAt.miss (h : TbAt n m f L b mb W) {x y z : Int} (hf : FitP (x, y, z)) (hs : ¬ There L (x, y, z)) : (Instr.lookup 46 (.map (some mb)) (.agg #[.int .i64 x, .int .i64 y, .int .i64 z]) true).run Try.prog W = .ok (.tuple #[.int .i64 0, .bool false]) W := by
  obtain ⟨D, k1, k2⟩ := h.map
  have hz : plainElem (H := Unit) Try.prog 2 (.int .i64 0) = some (.lit (.int .i64 0), []) := plainElem_int Try.underlying2 (by decide)
  have hh := k2.has_not h.fine.fits hf hs
  obtain ⟨v, ps, hr, hv⟩ := k1.look_ok keyed Try.underlying46 (Try.zeroValue2 W) hz (keyOf_pl hf)
  rw [Maps.atKey_of_not_has hh] at hv
  obtain ⟨a, rfl, e⟩ := elem_i64 hv
  cases e
  rw [hh] at hr
  exact hr
end
theorem place_any (s : Sm) (w : World) : Calls Try.prog 22 #[.agg #[.int .i64 s.who, .int .i64 s.met, .int .i64 s.ep, .int .i64 s.val]] w fun e w' => e = .returned (.agg #[.int .i64 s.ep, .int .i64 s.met, .int .i64 s.who]) ∧ w.grownBy w' none := by
  go_enter Try.func22, Try.ntmps22
  go_wp2
  refine bodyPost_ret (v := .agg #[.int .i64 s.ep, .int .i64 s.met, .int .i64 s.who]) ?_ rfl ⟨rfl, gb_alloc (gb_alloc (.refl w none) _) _⟩
  simp [results, Try.results22, go_sem]
theorem sample_any (x y z v : Int) (w : World) : Calls Try.prog 31 #[.agg #[.int .i64 x, .int .i64 y, .int .i64 z], .int .i64 v] w fun e w' => e = .returned (.agg #[.int .i64 z, .int .i64 y, .int .i64 x, .int .i64 v]) ∧ w.grownBy w' none := by
  go_enter Try.func31, Try.ntmps31
  go_wp2
  refine bodyPost_ret (v := .agg #[.int .i64 z, .int .i64 y, .int .i64 x, .int .i64 v]) ?_ rfl ⟨rfl, gb_alloc (gb_alloc (.refl w none) _) _⟩
  simp [results, Try.results31, go_sem]
theorem told_bool {x y : Bool} (h : x = y) : Ending.returned (.bool x) = Ending.returned (.bool y) := by rw [h]
theorem gb_drewN {w w1 : World} {r : Option Nat} (h : w.grownBy w1 r) (n : Nat) : w.grownBy (w1.drewN n) r := ⟨h.os, h.tape, h.output, h.size, h.block⟩
/-- may the sample's parts be? -/
def AdmT (n m : Int) (s : Sm) : Prop := 0 ≤ s.who ∧ s.who < n ∧ 0 ≤ s.met ∧ s.met < m ∧ 0 ≤ s.val ∧ s.val ≤ 1099511627776
instance (n m : Int) (s : Sm) : Decidable (AdmT n m s) := by unfold AdmT; infer_instance
set_option maxHeartbeats 1000000 in
theorem admits_any {n m f : Int} {L : List Sm} {b mb : Nat} {w : World} (h : TbAt n m f L b mb w) (s : Sm) :
    Calls Try.prog 20 #[.pointer (some ⟨b, 0, none⟩), .agg #[.int .i64 s.who, .int .i64 s.met, .int .i64 s.ep, .int .i64 s.val]] w fun e w' => e = .returned (.bool (decide (AdmT n m s))) ∧ w.grownBy w' none := by
  obtain ⟨c0, c1, c2, c3⟩ := (h.alloc (.cells #[.int .i64 s.who, .int .i64 s.met, .int .i64 s.ep, .int .i64 s.val] 29)).cells
  have hb := h.lt.1
  clear h
  obtain ⟨a, y, e, v⟩ := s
  simp only at *
  unfold AdmT
  simp only
  obtain ⟨r, hr⟩ : ∃ r : Bool, r = decide (0 ≤ a ∧ a < n ∧ 0 ≤ y ∧ y < m ∧ 0 ≤ v ∧ v ≤ 1099511627776) := ⟨_, rfl⟩
  rw [← hr]
  have HR := hid hr
  clear hr
  go_enter Try.func20, Try.ntmps20
  go_wp2_with fail
  by_cases h1 : 0 ≤ a
  · by_cases h2 : a < n
    · by_cases h3 : 0 ≤ y
      · by_cases h4 : y < m
        · by_cases h5 : 0 ≤ v
          · by_cases h6 : v ≤ 1099511627776
            · go_quiet (fail)
              go_wp2_with fail
              go_ret
              exact ⟨told_bool (by rw [HR.out]; first | exact (decide_eq_true (by omega)).symm | exact (decide_eq_false (by omega)).symm), gb_drewN (gb_alloc (.refl w none) _) _⟩
            · go_quiet (fail)
              go_wp2_with fail
              go_ret
              exact ⟨told_bool (by rw [HR.out]; first | exact (decide_eq_true (by omega)).symm | exact (decide_eq_false (by omega)).symm), gb_drewN (gb_alloc (.refl w none) _) _⟩
          · go_quiet (fail)
            go_wp2_with fail
            go_ret
            exact ⟨told_bool (by rw [HR.out]; first | exact (decide_eq_true (by omega)).symm | exact (decide_eq_false (by omega)).symm), gb_drewN (gb_alloc (.refl w none) _) _⟩
        · go_quiet (fail)
          go_wp2_with fail
          go_ret
          exact ⟨told_bool (by rw [HR.out]; first | exact (decide_eq_true (by omega)).symm | exact (decide_eq_false (by omega)).symm), gb_drewN (gb_alloc (.refl w none) _) _⟩
      · go_quiet (fail)
        go_wp2_with fail
        go_ret
        exact ⟨told_bool (by rw [HR.out]; first | exact (decide_eq_true (by omega)).symm | exact (decide_eq_false (by omega)).symm), gb_drewN (gb_alloc (.refl w none) _) _⟩
    · go_quiet (fail)
      go_wp2_with fail
      go_ret
      exact ⟨told_bool (by rw [HR.out]; first | exact (decide_eq_true (by omega)).symm | exact (decide_eq_false (by omega)).symm), gb_drewN (gb_alloc (.refl w none) _) _⟩
  · go_quiet (fail)
    go_wp2_with fail
    go_ret
    exact ⟨told_bool (by rw [HR.out]; first | exact (decide_eq_true (by omega)).symm | exact (decide_eq_false (by omega)).symm), gb_drewN (gb_alloc (.refl w none) _) _⟩
theorem fresh_any {n m f : Int} {L : List Sm} {b mb : Nat} {w : World} (h : TbAt n m f L b mb w) (e now : Int) (he : wf64 e) (hn : wf64 now) :
    Calls Try.prog 21 #[.pointer (some ⟨b, 0, none⟩), .int .i64 e, .int .i64 now] w fun x w' => x = .returned (.bool (decide (now ≤ e ∧ e - now < f))) ∧ w' = w := by
  obtain ⟨c0, c1, c2, c3⟩ := h.cells
  have hf := h.nm
  unfold wf64 at he hn
  clear h
  obtain ⟨r, hr⟩ : ∃ r : Bool, r = decide (now ≤ e ∧ e - now < f) := ⟨_, rfl⟩
  rw [← hr]
  have HR := hid hr
  clear hr
  by_cases h1 : now ≤ e
  · have s1 : IntKind.u64.wrap (IntKind.u64.wrap e - IntKind.u64.wrap now) = e - now := by
      simp only [IntKind.wrap_u64]; omega
    go_enter Try.func21, Try.ntmps21
    go_wp2
    go_ret
    exact ⟨told_bool (by rw [HR.out]; simp [h1]), rfl⟩
  · go_enter Try.func21, Try.ntmps21
    go_wp2
    go_ret
    exact ⟨told_bool (by rw [HR.out]; exact (decide_eq_false (by omega)).symm), rfl⟩
end Go.Proofs.Ytjjcnojckbeekaa
