/-
  Contracts for the document's own rings: what one is; Rotate and Set. The condition of a call: the ring lies there.
  What a derived key's words are sums of, in the document's own answer. The condition: strings of a modest length.
  A contract for the document's own derived keys: four calls and two blocks that may come in any order. The condition: a label of a modest length.
  Contracts for the document's own root and collectors' keys. No condition.
  Contracts for the document's own rings: which key is there. The condition of a call: the ring lies there.
  Contracts for package replay's Set. The condition of a call: the object lies there.
  Slices of numbers (int64) that the call itself makes and appends to: what they hold. No condition. Nothing of the program's functions is named here.
-/
import Derived.Test.YtfhifnhnkgdnlaaGreatZ2
import Derived.Deep.RegionHeld3
import Derived.Test.YtfhifnhnkgdnlaaGreatZ1
import Derived.Test.YtfhifnhnkgdnlaaGreatZ4
import Derived.Deep.QuietTactic
import Derived.BigQuiet
import Derived.IntWalk
import Derived.Test.YtfhifnhnkgdnlaaGreatRows
import Derived.Laws.AppendOwnNone
import Derived.Maps.AppendAt
section
set_option linter.unusedSimpArgs false
set_option linter.unusedVariables false
namespace Go.Proofs.YtfhifnhnkgdnlaaGreat
set_option maxRecDepth 100000
open Go.RowKit

/-- a ring of the document's -/
structure RfAt (w : World) (b g s : Nat) (r : Rg) : Prop where
  top : w.heap[b]? = some (.cells #[.int .u64 (q r.seed), .int .i64 (r.grace : Int), .slice (some ⟨g, 0, none⟩) r.n r.n, .slice (some ⟨s, 0, none⟩) r.n r.n] 62)
  gens : ∃ cs : Array Value, w.heap[g]? = some (.cells cs 3) ∧ ∀ i, i < r.n → cs[i]? = some (.int .i64 (r.gen i))
  sinces : ∃ cs : Array Value, w.heap[s]? = some (.cells cs 2) ∧ ∀ i, i < r.n → cs[i]? = some (.int .i64 (r.since i))
  bg : b ≠ g
  bs : b ≠ s
  gs : g ≠ s
  ok : r.Ok
section
variable {w w' : World} {b g s : Nat} {r : Rg} {F : List Nat}
theorem RfAt.chg (H : RfAt w b g s r) (hc : Chg F w w') (hb : b ∉ F) (hg : g ∉ F) (hs : s ∉ F) : RfAt w' b g s r :=
  ⟨hc.at H.top hb, by obtain ⟨cs, h1, h2⟩ := H.gens; exact ⟨cs, hc.at h1 hg, h2⟩, by obtain ⟨cs, h1, h2⟩ := H.sinces; exact ⟨cs, hc.at h1 hs, h2⟩, H.bg, H.bs, H.gs, H.ok⟩
theorem RfAt.grown (H : RfAt w b g s r) (hg : w.grownBy w' none) : RfAt w' b g s r := H.chg (chg_grown hg []) (by simp) (by simp) (by simp)
theorem RfAt.drew (H : RfAt w b g s r) : RfAt w.drew b g s r := ⟨H.top, H.gens, H.sinces, H.bg, H.bs, H.gs, H.ok⟩
theorem RfAt.tops (H : RfAt w b g s r) : w.cell? ⟨b, 0, none⟩ = some (.int .u64 (q r.seed)) ∧ w.cell? ⟨b, 1, none⟩ = some (.int .i64 (r.grace : Int)) ∧ w.cell? ⟨b, 2, none⟩ = some (.slice (some ⟨g, 0, none⟩) r.n r.n) ∧ w.cell? ⟨b, 3, none⟩ = some (.slice (some ⟨s, 0, none⟩) r.n r.n) :=
  ⟨at_cell H.top 0, at_cell H.top 1, at_cell H.top 2, at_cell H.top 3⟩
theorem RfAt.cells (H : RfAt w b g s r) {i : Nat} (hi : i < r.n) : w.cell? ⟨g, i, none⟩ = some (.int .i64 (r.gen i)) ∧ w.cell? ⟨s, i, none⟩ = some (.int .i64 (r.since i)) ∧ w.frozen? ⟨g, i, none⟩ = false ∧ w.frozen? ⟨s, i, none⟩ = false := by
  obtain ⟨cs, h1, h2⟩ := H.gens
  obtain ⟨ds, h3, h4⟩ := H.sinces
  exact ⟨(at_cell h1 _).trans (h2 i hi), (at_cell h3 _).trans (h4 i hi), at_free h1 _, at_free h3 _⟩
theorem RfAt.lt (H : RfAt w b g s r) : b < w.heap.size ∧ g < w.heap.size ∧ s < w.heap.size := ⟨at_lt H.top, by obtain ⟨_, h1, _⟩ := H.gens; exact at_lt h1, by obtain ⟨_, h1, _⟩ := H.sinces; exact at_lt h1⟩
theorem RfAt.put (H : RfAt w b g s r) {i : Nat} (hi : i < r.n) {x y : Int} (g0 : 0 ≤ x) (g1 : x ≤ 60000) (s0 : 0 ≤ y) (s1 : y ≤ 1099511627776) :
    RfAt ((w.setCell ⟨g, i, none⟩ (.int .i64 x)).setCell ⟨s, i, none⟩ (.int .i64 y)) b g s (r.put i x y) := by
  obtain ⟨cs, h1, h2⟩ := H.gens
  obtain ⟨ds, h3, h4⟩ := H.sinces
  have sz1 : i < cs.size := (Array.getElem?_eq_some_iff.1 (h2 i hi)).1
  have sz2 : i < ds.size := (Array.getElem?_eq_some_iff.1 (h4 i hi)).1
  refine ⟨at_set_other (at_set_other H.top H.bg _) H.bs _, ⟨_, at_set_other (at_set h1 _ _) H.gs _, fun j hj => ?_⟩, ⟨_, at_set (at_set_other h3 (fun e => H.gs e.symm) _) _ _, fun j hj => ?_⟩, H.bg, H.bs, H.gs, H.ok.put i g0 g1 s0 s1⟩
  · simp only [Rg.put]
    by_cases e : j = i
    · subst e; rw [if_pos rfl, Array.getElem?_setIfInBounds, if_pos rfl, if_pos sz1]
    · rw [if_neg e, Array.getElem?_setIfInBounds, if_neg (Ne.symm e)]; exact h2 j hj
  · simp only [Rg.put]
    by_cases e : j = i
    · subst e; rw [if_pos rfl, Array.getElem?_setIfInBounds, if_pos rfl, if_pos sz2]
    · rw [if_neg e, Array.getElem?_setIfInBounds, if_neg (Ne.symm e)]; exact h4 j hj
end
def LeavesF (w : World) (b g s : Nat) (k : Int × Rg) (e : Ending) (w' : World) : Prop := e = .returned (.int .i64 k.1) ∧ RfAt w' b g s k.2 ∧ Chg [g, s] w w'
theorem leavesF_same {w : World} {b g s : Nat} {r : Rg} (c : Int) (H : RfAt w b g s r) : LeavesF w b g s (c, r) (.returned (.int .i64 c)) w := ⟨rfl, H, chg_refl w _⟩
theorem leavesF_put {w : World} {b g s : Nat} {r : Rg} {i : Nat} {x y : Int} (H : RfAt w b g s r) (hi : i < r.n) (g0 : 0 ≤ x) (g1 : x ≤ 60000) (s0 : 0 ≤ y) (s1 : y ≤ 1099511627776) :
    LeavesF w b g s (0, r.put i x y) (.returned (.int .i64 0)) ((w.drew.setCell ⟨g, i, none⟩ (.int .i64 x)).setCell ⟨s, i, none⟩ (.int .i64 y)) :=
  ⟨rfl, H.drew.put hi g0 g1 s0 s1, (((chg_refl w [g, s]).drew).set (.inl (by simp)) _).set (.inl (by simp)) _⟩

set_option maxHeartbeats 1600000 in
theorem frot_ok {b g s : Nat} {r : Rg} (i : Nat) (now : Int) (w : World) (H0 : RfAt w b g s r) (hi : i < r.n) (hg : r.gen i < 60000) (n0 : 0 ≤ now) (n1 : now ≤ 1099511627776) :
    Calls Tryz.prog 68 #[.pointer (some ⟨b, 0, none⟩), .int .i64 (i : Int), .int .i64 (r.gen i + 1), .int .i64 now] w (LeavesF w b g s (0, r.put i (r.gen i + 1) now)) := by
  obtain ⟨c0, c1, f0, f1⟩ := H0.cells hi
  obtain ⟨t0, t1, t2, t3⟩ := H0.tops
  have q0 := H0.ok.e0 i; have q1 := H0.ok.e1 i; have n2 := H0.ok.n2
  have hgs := H0.gs; have hbg := H0.bg; have hbs := H0.bs
  have L := hid (leavesF_put (x := r.gen i + 1) (y := now) H0 hi (by omega) (by omega) n0 n1)
  clear H0
  generalize r.put i (r.gen i + 1) now = r' at L ⊢
  generalize r.gen i = x at *
  generalize r.since i = y at *
  generalize r.n = n at *
  have i0 : (0 : Int) ≤ (i : Int) := by omega
  have i1 : (i : Int) < (n : Int) := by omega
  have e1 : decide ((i : Int) < 0) = false := by simp
  have e2 : decide (n ≤ i) = false := by simp; omega
  have e3 : decide (x + 1 < 1) = false := by simp; omega
  have e4 : decide (60000 < x + 1) = false := by simp; omega
  have e5 : decide (now < 0) = false := by simp; omega
  have e6 : decide (1099511627776 < now) = false := by simp; omega
  go_enter Tryz.func68, Tryz.ntmps68
  go_wp2_with fail
  go_region_held3 (fun w' => w'.cell? ⟨b, 2, none⟩ = some (.slice (some ⟨g, 0, none⟩) n n) ∧ w'.cell? ⟨b, 3, none⟩ = some (.slice (some ⟨s, 0, none⟩) n n)) ((refine ⟨?_, ?_⟩ <;> go_simp)) (fail)
  all_goals (
    go_wp2_with fail
    go_ret
    exact L.out)

set_option maxHeartbeats 1600000 in
theorem frot_arg {b g s : Nat} {r : Rg} (i : Nat) (now : Int) (w : World) (H0 : RfAt w b g s r) (hi : i < r.n) (hg : r.gen i < 60000) (hn : ¬ (0 ≤ now ∧ now ≤ 1099511627776)) :
    Calls Tryz.prog 68 #[.pointer (some ⟨b, 0, none⟩), .int .i64 (i : Int), .int .i64 (r.gen i + 1), .int .i64 now] w (LeavesF w b g s (1, r)) := by
  have L := hid (leavesF_same 1 H0)
  obtain ⟨c0, c1, f0, f1⟩ := H0.cells hi
  obtain ⟨t0, t1, t2, t3⟩ := H0.tops
  have q0 := H0.ok.e0 i; have q1 := H0.ok.e1 i; have n2 := H0.ok.n2
  have hgs := H0.gs; have hbg := H0.bg; have hbs := H0.bs
  clear H0
  generalize r.gen i = x at *
  generalize r.since i = y at *
  have i0 : (0 : Int) ≤ (i : Int) := by omega
  have e1 : decide ((i : Int) < 0) = false := by simp
  have e2 : decide (r.n ≤ i) = false := by simp; omega
  have i1 : (i : Int) < (r.n : Int) := by omega
  have e3 : decide (x + 1 < 1) = false := by simp; omega
  have e4 : decide (60000 < x + 1) = false := by simp; omega
  by_cases h : now < 0
  · have e5 : decide (now < 0) = true := by simpa using h
    clear hn
    go_enter Tryz.func68, Tryz.ntmps68
    go_wp2_with fail
    go_ret
    exact L.out
  · have e5 : decide (now < 0) = false := by simpa using h
    have e6 : decide (1099511627776 < now) = true := by simp; omega
    clear hn
    go_enter Tryz.func68, Tryz.ntmps68
    go_wp2_with fail
    go_ret
    exact L.out

set_option maxHeartbeats 1600000 in
theorem frot_gen {b g s : Nat} {r : Rg} (i : Nat) (gen now : Int) (w : World) (H0 : RfAt w b g s r) (hi : i < r.n) (hg : gen ≠ r.gen i + 1 ∨ 60000 < gen) (hM : gen ≤ 9223372036854775807) :
    Calls Tryz.prog 68 #[.pointer (some ⟨b, 0, none⟩), .int .i64 (i : Int), .int .i64 gen, .int .i64 now] w (LeavesF w b g s (4, r)) := by
  have L := hid (leavesF_same 4 H0)
  obtain ⟨c0, c1, f0, f1⟩ := H0.cells hi
  obtain ⟨t0, t1, t2, t3⟩ := H0.tops
  have q0 := H0.ok.e0 i; have q1 := H0.ok.e1 i; have n2 := H0.ok.n2
  have hgs := H0.gs; have hbg := H0.bg; have hbs := H0.bs
  clear H0
  generalize r.gen i = x at *
  generalize r.since i = y at *
  have i0 : (0 : Int) ≤ (i : Int) := by omega
  have e1 : decide ((i : Int) < 0) = false := by simp
  have e2 : decide (r.n ≤ i) = false := by simp; omega
  have i1 : (i : Int) < (r.n : Int) := by omega
  by_cases h : gen < 1
  · have e3 : decide (gen < 1) = true := by simpa using h
    clear hg
    go_enter Tryz.func68, Tryz.ntmps68
    go_wp2_with fail
    go_ret
    exact L.out
  · have e3 : decide (gen < 1) = false := by simpa using h
    by_cases h2 : gen = x + 1
    · subst h2
      have e4 : decide (60000 < x + 1) = true := by simp; omega
      clear hg
      go_enter Tryz.func68, Tryz.ntmps68
      go_wp2_with fail
      go_ret
      exact L.out
    · have e4 : (gen - 1 != x) = true := by simp; omega
      clear hg
      go_enter Tryz.func68, Tryz.ntmps68
      go_wp2_with fail
      go_ret
      exact L.out

set_option maxHeartbeats 1600000 in
theorem frot_who {b g s : Nat} {r : Rg} (x gen now : Int) (w : World) (H0 : RfAt w b g s r) (hx : x < 0 ∨ (r.n : Int) ≤ x) :
    Calls Tryz.prog 68 #[.pointer (some ⟨b, 0, none⟩), .int .i64 x, .int .i64 gen, .int .i64 now] w (LeavesF w b g s (3, r)) := by
  have L := hid (leavesF_same 3 H0)
  obtain ⟨t0, t1, t2, t3⟩ := H0.tops
  clear H0
  by_cases h : x < 0
  · have e1 : decide (x < 0) = true := by simpa using h
    clear hx
    go_enter Tryz.func68, Tryz.ntmps68
    go_wp2_with fail
    go_ret
    exact L.out
  · have e1 : decide (x < 0) = false := by simpa using h
    have e2 : decide ((r.n : Int) ≤ x) = true := by simp; omega
    clear hx
    go_enter Tryz.func68, Tryz.ntmps68
    go_wp2_with fail
    go_ret
    exact L.out
theorem frot_any {b g s : Nat} {r : Rg} (who gen now : Int) (w : World) (H : RfAt w b g s r) (hM : gen ≤ 9223372036854775807) :
    Calls Tryz.prog 68 #[.pointer (some ⟨b, 0, none⟩), .int .i64 who, .int .i64 gen, .int .i64 now] w (LeavesF w b g s (r.rot who gen now)) := by
  by_cases h0 : 0 ≤ who ∧ who < (r.n : Int)
  · obtain ⟨i, rfl⟩ := Int.eq_ofNat_of_zero_le h0.1
    have hi : i < r.n := by have := h0.2; omega
    by_cases h1 : gen = r.gen i + 1 ∧ gen ≤ 60000
    · by_cases h2 : 0 ≤ now ∧ now ≤ 1099511627776
      · rw [show r.rot (i : Int) gen now = (0, r.put i gen now) by unfold Rg.rot; rw [if_pos h0, Int.toNat_natCast, if_pos h1, if_pos h2]]
        obtain ⟨rfl, h3⟩ := h1
        exact frot_ok i now w H hi (by omega) h2.1 h2.2
      · rw [show r.rot (i : Int) gen now = (1, r) by unfold Rg.rot; rw [if_pos h0, Int.toNat_natCast, if_pos h1, if_neg h2]]
        obtain ⟨rfl, h3⟩ := h1
        exact frot_arg i now w H hi (by omega) h2
    · rw [show r.rot (i : Int) gen now = (4, r) by unfold Rg.rot; rw [if_pos h0, Int.toNat_natCast, if_neg h1]]
      exact frot_gen i gen now w H hi (by omega) hM
  · rw [show r.rot who gen now = (3, r) by unfold Rg.rot; rw [if_neg h0]]
    exact frot_who who gen now w H (by omega)

end Go.Proofs.YtfhifnhnkgdnlaaGreat
end
section
set_option linter.unusedSimpArgs false
namespace Go.Proofs.YtfhifnhnkgdnlaaGreat
set_option maxRecDepth 100000
open Go.RowKit

/-- what a word of a derived key is the sum of, as the document's own answer lays it -/
def labelled (s : ByteArray) (mb : UInt8) (n : BitVec 64) : ByteArray := s ++ ⟨[mb].toArray⟩ ++ ⟨(put8 n).toArray⟩
theorem labelled_size (s : ByteArray) (mb : UInt8) (n : BitVec 64) : (labelled s mb n).size = s.size + 9 := by
  simp [labelled, ByteArray.size_append]; rfl
theorem refsum_der (k0 k1 : BitVec 64) (s : ByteArray) (hs : s.size ≤ 1000) (mb : UInt8) (n : BitVec 64) (w : World) :
    Calls Tryz.prog 91 #[pair k0 k1, .string (s ++ ⟨[mb].toArray⟩ ++ ⟨(put8 n).toArray⟩)] w fun e w' => e = .returned (.int .u64 (q (derived k0 k1 s n mb))) ∧ w.grownBy w' none := by
  have h := refsum_str k0 k1 (labelled s mb n) (by rw [labelled_size]; omega) w
  have e : (labelled s mb n).data.toList = s.data.toList ++ [mb] ++ put8 n := by simp [labelled]
  rw [e] at h
  exact h
end Go.Proofs.YtfhifnhnkgdnlaaGreat
end
section
set_option linter.unusedSimpArgs false
set_option linter.unusedVariables false
namespace Go.Proofs.YtfhifnhnkgdnlaaGreat
set_option maxRecDepth 100000
open Go.RowKit

/-- a block that the call made, and what lies in it -/
def Blk (w : World) (g : Nat) (o : Obj) (w' : World) : Prop := w.heap.size + 1 < g ∧ w'.heap[g]? = some o
theorem conv_1 {w : World} {g : Nat} (h : w.heap[g]? = some (.cells #[.int .u8 1] 5)) : (convert 40 9 (.slice (some ⟨g, 0, none⟩) 1 1)).run Tryz.prog w = .ok (.string ⟨#[1]⟩) w := conv_bytes (bytes_of_cells [1] h (by unfold maxLen; simp))
theorem conv_2 {w : World} {g : Nat} (h : w.heap[g]? = some (.cells #[.int .u8 2] 5)) : (convert 40 9 (.slice (some ⟨g, 0, none⟩) 1 1)).run Tryz.prog w = .ok (.string ⟨#[2]⟩) w := conv_bytes (bytes_of_cells [2] h (by unfold maxLen; simp))
theorem Blk.grown {w : World} {g : Nat} {o : Obj} {w1 w2 : World} (h : Blk w g o w1) (hg : w1.grownBy w2 none) : Blk w g o w2 := ⟨h.1, at_grown h.2 hg (by simp)⟩
theorem Blk.set0 {w : World} {g : Nat} {o : Obj} {w1 : World} (h : Blk w g o w1) (v : Value) : Blk w g o (w1.setCell ⟨w.heap.size + 1, 0, none⟩ v) := ⟨h.1, at_set_other h.2 (by have := h.1; simp; omega) v⟩
theorem Blk.set1 {w : World} {g : Nat} {o : Obj} {w1 : World} (h : Blk w g o w1) (v : Value) : Blk w g o (w1.setCell ⟨w.heap.size + 1, 1, none⟩ v) := ⟨h.1, at_set_other h.2 (by have := h.1; simp; omega) v⟩
theorem Box.size {w : World} {k0 k1 : BitVec 64} {t t' : TypeId} {w1 : World} (h : Box w k0 k1 t t' w1) : w.heap.size + 1 < w1.heap.size := by obtain ⟨x, y, h⟩ := h.ans; exact at_lt h

set_option maxHeartbeats 8000000 in
theorem refderive_any (k0 k1 : BitVec 64) (s : ByteArray) (hs : s.size ≤ 1000) (n : BitVec 64) (w : World) :
    Calls Tryz.prog 51 #[pair k0 k1, .string s, .int .u64 (q n)] w fun e w' => e = .returned (pair (derived k0 k1 s n 1) (derived k0 k1 s n 2)) ∧ w.grownBy w' none := by
  have hc0 := fun w => refsum_der k0 k1 s hs 1 n w
  have hc1 := fun w => refsum_der k0 k1 s hs 2 n w
  have hp := fun w => refput_any n w
  generalize derived k0 k1 s n 1 = a at hc0 ⊢
  generalize derived k0 k1 s n 2 = b at hc1 ⊢
  have zn : (⟨(put8 n).toArray⟩ : ByteArray).size = 8 := rfl
  generalize (⟨(put8 n).toArray⟩ : ByteArray) = sn at hc0 hc1 hp zn
  have C0 := hid hc0; have C1 := hid hc1; have HP := hid hp; clear hc0 hc1 hp
  go_enter Tryz.func51, Tryz.ntmps51
  go_wp2_with fail
  have hb : Box w k0 k1 49 49 ((w.alloc (.cells #[.int .u64 (q k0), .int .u64 (q k1)] 49)).alloc (.cells #[.int .u64 0, .int .u64 0] 49)) :=
    ⟨at_alloc (at_new w _) _, ⟨_, _, at_new2 w _ _⟩, gb_alloc (gb_alloc (.refl w none) _) _⟩
  have HB := hid hb; clear hb
  refine wp_gen (fun w5 => Box w k0 k1 49 49 w5) HB.out ?_
  intro w5 h5
  have hb5 := Box.drew h5
  clear HB h5
  refine wp_region_held_drew (S := (fun w' => w'.cell? ⟨w.heap.size, 0, none⟩ = some (.int .u64 (q k0)) ∧ w'.cell? ⟨w.heap.size, 1, none⟩ = some (.int .u64 (q k1)) ∧ Box w k0 k1 49 49 w')) (by kernel_rfl) (Box.keep hb5) (fun hHeld => ?_)
  try dsimp only at hHeld
  clear hb5
  generalize w5.drew = w5 at hHeld ⊢
  refine' wpAnyH_take (i := 0) (v := _) rfl (by kernel_rfl) (by kernel_rfl) (by kernel_rfl) (fun _ _ _ h => h) (Or.inl ⟨by rfl, ?_⟩) hHeld ?_
  rotate_left
  · (intro w hSw; (try dsimp only at hSw); go_simp; (try rw [if_neg (by omega)]); try with_reducible rfl)
  try simp only [Act.put, List.setIfInBounds_toArray, List.set_cons_zero, List.set_cons_succ, List.getElem_toArray, List.getElem_cons_succ, List.getElem_cons_zero]
  refine' wpAnyH_take (i := 1) (v := _) rfl (by kernel_rfl) (by kernel_rfl) (by kernel_rfl) (fun _ _ _ h => h) (Or.inl ⟨by rfl, ?_⟩) hHeld ?_
  rotate_left
  · (intro w hSw; (try dsimp only at hSw); go_simp; (try rw [if_neg (by omega)]); try with_reducible rfl)
  try simp only [Act.put, List.setIfInBounds_toArray, List.set_cons_zero, List.set_cons_succ, List.getElem_toArray, List.getElem_cons_succ, List.getElem_cons_zero]
  refine' wpAnyH_take (i := 5) (v := _) rfl (by kernel_rfl) (by kernel_rfl) (by kernel_rfl) (fun _ _ _ h => h) (Or.inl ⟨by rfl, ?_⟩) hHeld ?_
  rotate_left
  · (intro w hSw; (try dsimp only at hSw); go_simp; (try rw [if_neg (by omega)]); try with_reducible rfl)
  try simp only [Act.put, List.setIfInBounds_toArray, List.set_cons_zero, List.set_cons_succ, List.getElem_toArray, List.getElem_cons_succ, List.getElem_cons_zero]
  refine' wpAnyH_take (i := 9) (v := _) rfl (by kernel_rfl) (by kernel_rfl) (by kernel_rfl) (fun _ _ _ h => h) (Or.inl ⟨by rfl, ?_⟩) hHeld ?_
  rotate_left
  · (intro w hSw; (try dsimp only at hSw); go_simp; (try rw [if_neg (by omega)]); try with_reducible rfl)
  try simp only [Act.put, List.setIfInBounds_toArray, List.set_cons_zero, List.set_cons_succ, List.getElem_toArray, List.getElem_cons_succ, List.getElem_cons_zero]
  refine' wpAnyH_take (i := 10) (v := _) rfl (by kernel_rfl) (by kernel_rfl) (by kernel_rfl) (fun _ _ _ h => h) (Or.inl ⟨by rfl, ?_⟩) hHeld ?_
  rotate_left
  · (intro w hSw; (try dsimp only at hSw); go_simp; (try rw [if_neg (by omega)]); try with_reducible rfl)
  try simp only [Act.put, List.setIfInBounds_toArray, List.set_cons_zero, List.set_cons_succ, List.getElem_toArray, List.getElem_cons_succ, List.getElem_cons_zero]
  refine' wpAnyH_take (i := 14) (v := _) rfl (by kernel_rfl) (by kernel_rfl) (by kernel_rfl) (fun _ _ _ h => h) (Or.inl ⟨by rfl, ?_⟩) hHeld ?_
  rotate_left
  · (intro w hSw; (try dsimp only at hSw); go_simp; (try rw [if_neg (by omega)]); try with_reducible rfl)
  try simp only [Act.put, List.setIfInBounds_toArray, List.set_cons_zero, List.set_cons_succ, List.getElem_toArray, List.getElem_cons_succ, List.getElem_cons_zero]
  refine wpAnyH_ready (rs := [2, 6, 11]) (by kernel_rfl) (by simp) ?_
  refine AllReadyH.cons (o := _) rfl (fun K hK => ?_) (AllReadyH.cons (o := _) rfl (fun K hK => ?_) (AllReadyH.cons (o := _) rfl (fun K hK => ?_) (AllReadyH.nil)))
  · try simp only [List.getElem_toArray, List.getElem_cons_succ, List.getElem_cons_zero]
    have KP := hid ((Box.keep (Box.grown (box_box hHeld) (World.grownBy_alloc w5 (.cells #[.int .u8 1] 5) none))))
    have hnew := (⟨Box.size (box_box hHeld), at_new w5 _⟩ : (Blk w (w5.heap.size) (.cells #[.int .u8 1] 5)) (w5.alloc (.cells #[.int .u8 1] 5)))
    clear hHeld
    go_simp
    refine hK.out _ _ KP.out (fun hHeld => ?_)
    clear KP hK K
    try dsimp only at hHeld hnew
    generalize w5.alloc (.cells #[.int .u8 1] 5) = w101 at hHeld hnew ⊢
    try simp only [Act.put, List.setIfInBounds_toArray, List.set_cons_zero, List.set_cons_succ, List.getElem_toArray, List.getElem_cons_succ, List.getElem_cons_zero]
    refine held_stronger (S' := fun w' => (Blk w (w5.heap.size) (.cells #[.int .u8 1] 5)) w' ∧ (fun w' => w'.cell? ⟨w.heap.size, 0, none⟩ = some (.int .u64 (q k0)) ∧ w'.cell? ⟨w.heap.size, 1, none⟩ = some (.int .u64 (q k1)) ∧ Box w k0 k1 49 49 w') w') (fun _ h => h.2) _ _ _ _ ?_
    replace hHeld := And.intro hnew hHeld
    clear hnew
    try dsimp only at hHeld
    refine' wpAnyH_take (i := 3) (v := _) rfl (by kernel_rfl) (by kernel_rfl) (by kernel_rfl) (fun _ _ _ h => h) (Or.inl ⟨by rfl, ?_⟩) hHeld ?_
    rotate_left
    · (intro w hSw; (try dsimp only at hSw); have cv := conv_1 hSw.1.2; go_simp; (try rw [if_neg (by omega)]); try with_reducible rfl)
    try simp only [Act.put, List.setIfInBounds_toArray, List.set_cons_zero, List.set_cons_succ, List.getElem_toArray, List.getElem_cons_succ, List.getElem_cons_zero]
    refine' wpAnyH_take (i := 4) (v := _) rfl (by kernel_rfl) (by kernel_rfl) (by kernel_rfl) (fun _ _ _ h => h) (Or.inl ⟨by rfl, ?_⟩) hHeld ?_
    rotate_left
    · (intro w hSw; (try dsimp only at hSw); go_simp; (try rw [if_neg (by omega)]); try with_reducible rfl)
    try simp only [Act.put, List.setIfInBounds_toArray, List.set_cons_zero, List.set_cons_succ, List.getElem_toArray, List.getElem_cons_succ, List.getElem_cons_zero]
    refine wpAnyH_ready (rs := [6, 11]) (by kernel_rfl) (by simp) ?_
    refine AllReadyH.cons (o := _) rfl (fun K hK => ?_) (AllReadyH.cons (o := _) rfl (fun K hK => ?_) (AllReadyH.nil))
    · try simp only [List.getElem_toArray, List.getElem_cons_succ, List.getElem_cons_zero]
      go_simp
      refine (HP.out _).mono ?_
      rintro e w102 ⟨rfl, hg⟩
      have KP := hid (And.intro (Blk.grown hHeld.1 hg) ((Box.keep (Box.grown (box_box hHeld.2) hg))))
      clear hHeld hg
      go_wp2_with fail
      refine hK.out _ _ KP.out (fun hHeld => ?_)
      clear KP hK K
      try dsimp only at hHeld
      try simp only [Act.put, List.setIfInBounds_toArray, List.set_cons_zero, List.set_cons_succ, List.getElem_toArray, List.getElem_cons_succ, List.getElem_cons_zero]
      refine' wpAnyH_take (i := 7) (v := _) rfl (by kernel_rfl) (by kernel_rfl) (by kernel_rfl) (fun _ _ _ h => h) (Or.inl ⟨by rfl, ?_⟩) hHeld ?_
      rotate_left
      · (intro w hSw; (try dsimp only at hSw); go_simp; (try rw [if_neg (by omega)]); try with_reducible rfl)
      try simp only [Act.put, List.setIfInBounds_toArray, List.set_cons_zero, List.set_cons_succ, List.getElem_toArray, List.getElem_cons_succ, List.getElem_cons_zero]
      refine wpAnyH_ready (rs := [8, 11]) (by kernel_rfl) (by simp) ?_
      refine AllReadyH.cons (o := _) rfl (fun K hK => ?_) (AllReadyH.cons (o := _) rfl (fun K hK => ?_) (AllReadyH.nil))
      · try simp only [List.getElem_toArray, List.getElem_cons_succ, List.getElem_cons_zero]
        go_simp
        refine (C0.out _).mono ?_
        rintro e w103 ⟨rfl, hg⟩
        have KP := hid (And.intro (Blk.grown hHeld.1 hg) ((Box.keep (Box.grown (box_box hHeld.2) hg))))
        clear hHeld hg
        go_wp2_with fail
        refine hK.out _ _ KP.out (fun hHeld => ?_)
        clear KP hK K
        try dsimp only at hHeld
        try simp only [Act.put, List.setIfInBounds_toArray, List.set_cons_zero, List.set_cons_succ, List.getElem_toArray, List.getElem_cons_succ, List.getElem_cons_zero]
        refine wpAnyH_ready (rs := [11, 15]) (by kernel_rfl) (by simp) ?_
        refine AllReadyH.cons (o := _) rfl (fun K hK => ?_) (AllReadyH.cons (o := _) rfl (fun K hK => ?_) (AllReadyH.nil))
        · try simp only [List.getElem_toArray, List.getElem_cons_succ, List.getElem_cons_zero]
          have KP := hid (And.intro (Blk.grown hHeld.1 (World.grownBy_alloc w103 (.cells #[.int .u8 2] 5) none)) ((Box.keep (Box.grown (box_box hHeld.2) (World.grownBy_alloc w103 (.cells #[.int .u8 2] 5) none)))))
          have hnew := (⟨Box.size (box_box hHeld.2), at_new w103 _⟩ : (Blk w (w103.heap.size) (.cells #[.int .u8 2] 5)) (w103.alloc (.cells #[.int .u8 2] 5)))
          clear hHeld
          go_simp
          refine hK.out _ _ KP.out (fun hHeld => ?_)
          clear KP hK K
          try dsimp only at hHeld hnew
          generalize w103.alloc (.cells #[.int .u8 2] 5) = w104 at hHeld hnew ⊢
          try simp only [Act.put, List.setIfInBounds_toArray, List.set_cons_zero, List.set_cons_succ, List.getElem_toArray, List.getElem_cons_succ, List.getElem_cons_zero]
          refine held_stronger (S' := fun w' => (Blk w (w103.heap.size) (.cells #[.int .u8 2] 5)) w' ∧ (fun w' => (Blk w (w5.heap.size) (.cells #[.int .u8 1] 5)) w' ∧ (fun w' => w'.cell? ⟨w.heap.size, 0, none⟩ = some (.int .u64 (q k0)) ∧ w'.cell? ⟨w.heap.size, 1, none⟩ = some (.int .u64 (q k1)) ∧ Box w k0 k1 49 49 w') w') w') (fun _ h => h.2) _ _ _ _ ?_
          replace hHeld := And.intro hnew hHeld
          clear hnew
          try dsimp only at hHeld
          refine' wpAnyH_take (i := 12) (v := _) rfl (by kernel_rfl) (by kernel_rfl) (by kernel_rfl) (fun _ _ _ h => h) (Or.inl ⟨by rfl, ?_⟩) hHeld ?_
          rotate_left
          · (intro w hSw; (try dsimp only at hSw); have cv := conv_2 hSw.1.2; go_simp; (try rw [if_neg (by omega)]); try with_reducible rfl)
          try simp only [Act.put, List.setIfInBounds_toArray, List.set_cons_zero, List.set_cons_succ, List.getElem_toArray, List.getElem_cons_succ, List.getElem_cons_zero]
          refine' wpAnyH_take (i := 13) (v := _) rfl (by kernel_rfl) (by kernel_rfl) (by kernel_rfl) (fun _ _ _ h => h) (Or.inl ⟨by rfl, ?_⟩) hHeld ?_
          rotate_left
          · (intro w hSw; (try dsimp only at hSw); go_simp; (try rw [if_neg (by omega)]); try with_reducible rfl)
          try simp only [Act.put, List.setIfInBounds_toArray, List.set_cons_zero, List.set_cons_succ, List.getElem_toArray, List.getElem_cons_succ, List.getElem_cons_zero]
          refine wpAnyH_ready (rs := [15]) (by kernel_rfl) (by simp) ?_
          refine AllReadyH.cons (o := _) rfl (fun K hK => ?_) (AllReadyH.nil)
          try simp only [List.getElem_toArray, List.getElem_cons_succ, List.getElem_cons_zero]
          go_simp
          refine (HP.out _).mono ?_
          rintro e w105 ⟨rfl, hg⟩
          have KP := hid (And.intro (Blk.grown hHeld.1 hg) (And.intro (Blk.grown hHeld.2.1 hg) ((Box.keep (Box.grown (box_box hHeld.2.2) hg)))))
          clear hHeld hg
          go_wp2_with fail
          refine hK.out _ _ KP.out (fun hHeld => ?_)
          clear KP hK K
          try dsimp only at hHeld
          try simp only [Act.put, List.setIfInBounds_toArray, List.set_cons_zero, List.set_cons_succ, List.getElem_toArray, List.getElem_cons_succ, List.getElem_cons_zero]
          refine' wpAnyH_take (i := 16) (v := _) rfl (by kernel_rfl) (by kernel_rfl) (by kernel_rfl) (fun _ _ _ h => h) (Or.inl ⟨by rfl, ?_⟩) hHeld ?_
          rotate_left
          · (intro w hSw; (try dsimp only at hSw); go_simp; (try rw [if_neg (by omega)]); try with_reducible rfl)
          try simp only [Act.put, List.setIfInBounds_toArray, List.set_cons_zero, List.set_cons_succ, List.getElem_toArray, List.getElem_cons_succ, List.getElem_cons_zero]
          refine wpAnyH_ready (rs := [17]) (by kernel_rfl) (by simp) ?_
          refine AllReadyH.cons (o := _) rfl (fun K hK => ?_) (AllReadyH.nil)
          try simp only [List.getElem_toArray, List.getElem_cons_succ, List.getElem_cons_zero]
          go_simp
          refine (C1.out _).mono ?_
          rintro e w106 ⟨rfl, hg⟩
          have KP := hid (And.intro (Blk.grown hHeld.1 hg) (And.intro (Blk.grown hHeld.2.1 hg) ((Box.keep (Box.grown (box_box hHeld.2.2) hg)))))
          clear hHeld hg
          go_wp2_with fail
          refine hK.out _ _ KP.out (fun hHeld => ?_)
          clear KP hK K
          try dsimp only at hHeld
          try simp only [Act.put, List.setIfInBounds_toArray, List.set_cons_zero, List.set_cons_succ, List.getElem_toArray, List.getElem_cons_succ, List.getElem_cons_zero]
          refine' wpAnyH_take (i := 18) (v := _) rfl (by kernel_rfl) (by kernel_rfl) (by kernel_rfl) (fun _ _ _ h => h) (Or.inl ⟨by rfl, ?_⟩) hHeld ?_
          rotate_left
          · (intro w hSw; (try dsimp only at hSw); go_simp; (try rw [if_neg (by omega)]); try with_reducible rfl)
          try simp only [Act.put, List.setIfInBounds_toArray, List.set_cons_zero, List.set_cons_succ, List.getElem_toArray, List.getElem_cons_succ, List.getElem_cons_zero]
          refine wpAnyH_ready (rs := [19]) (by kernel_rfl) (by simp) ?_
          refine AllReadyH.cons (o := _) rfl (fun K hK => ?_) (AllReadyH.nil)
          try simp only [List.getElem_toArray, List.getElem_cons_succ, List.getElem_cons_zero]
          have hB := box_box hHeld.2.2
          obtain ⟨x, y, c0, c1, f0, f1⟩ := box_ans hHeld.2.2 (.refl w106 none)
          have KP := hid (And.intro (Blk.set1 (Blk.set0 hHeld.1 (.int .u64 (q a))) (.int .u64 (q b))) (And.intro (Blk.set1 (Blk.set0 hHeld.2.1 (.int .u64 (q a))) (.int .u64 (q b))) ((Box.keep (Box.set1 (Box.set0 (box_box hHeld.2.2) (.int .u64 (q a))) (.int .u64 (q b)))))))
          clear hHeld
          go_simp
          refine hK.out _ _ KP.out (fun hHeld => ?_)
          clear KP hK K
          try simp only [Act.put, List.setIfInBounds_toArray, List.set_cons_zero, List.set_cons_succ, List.getElem_toArray, List.getElem_cons_succ, List.getElem_cons_zero]
          refine wpAnyH_done (by kernel_rfl) ?_ _
          have hst := hB.store (.int .u64 (q a)) (.int .u64 (q b))
          clear hB c0 c1 f0 f1 hHeld
          generalize (w106.setCell ⟨w.heap.size + 1, 0, none⟩ (.int .u64 (q a))).setCell ⟨w.heap.size + 1, 1, none⟩ (.int .u64 (q b)) = wx at hst ⊢
          obtain ⟨d0, d1⟩ := pair_cells hst.1
          go_wp2_with fail
          exact bodyPost_ret (v := pair a b) (by simp [results, Tryz.results51, go_sem, d0, d1]) rfl ⟨rfl, hst.2⟩
        · try simp only [List.getElem_toArray, List.getElem_cons_succ, List.getElem_cons_zero]
          go_simp
          refine (HP.out _).mono ?_
          rintro e w108 ⟨rfl, hg⟩
          have KP := hid (And.intro (Blk.grown hHeld.1 hg) ((Box.keep (Box.grown (box_box hHeld.2) hg))))
          clear hHeld hg
          go_wp2_with fail
          refine hK.out _ _ KP.out (fun hHeld => ?_)
          clear KP hK K
          try dsimp only at hHeld
          try simp only [Act.put, List.setIfInBounds_toArray, List.set_cons_zero, List.set_cons_succ, List.getElem_toArray, List.getElem_cons_succ, List.getElem_cons_zero]
          refine wpAnyH_ready (rs := [11]) (by kernel_rfl) (by simp) ?_
          refine AllReadyH.cons (o := _) rfl (fun K hK => ?_) (AllReadyH.nil)
          try simp only [List.getElem_toArray, List.getElem_cons_succ, List.getElem_cons_zero]
          have KP := hid (And.intro (Blk.grown hHeld.1 (World.grownBy_alloc w108 (.cells #[.int .u8 2] 5) none)) ((Box.keep (Box.grown (box_box hHeld.2) (World.grownBy_alloc w108 (.cells #[.int .u8 2] 5) none)))))
          have hnew := (⟨Box.size (box_box hHeld.2), at_new w108 _⟩ : (Blk w (w108.heap.size) (.cells #[.int .u8 2] 5)) (w108.alloc (.cells #[.int .u8 2] 5)))
          clear hHeld
          go_simp
          refine hK.out _ _ KP.out (fun hHeld => ?_)
          clear KP hK K
          try dsimp only at hHeld hnew
          generalize w108.alloc (.cells #[.int .u8 2] 5) = w109 at hHeld hnew ⊢
          try simp only [Act.put, List.setIfInBounds_toArray, List.set_cons_zero, List.set_cons_succ, List.getElem_toArray, List.getElem_cons_succ, List.getElem_cons_zero]
          refine held_stronger (S' := fun w' => (Blk w (w108.heap.size) (.cells #[.int .u8 2] 5)) w' ∧ (fun w' => (Blk w (w5.heap.size) (.cells #[.int .u8 1] 5)) w' ∧ (fun w' => w'.cell? ⟨w.heap.size, 0, none⟩ = some (.int .u64 (q k0)) ∧ w'.cell? ⟨w.heap.size, 1, none⟩ = some (.int .u64 (q k1)) ∧ Box w k0 k1 49 49 w') w') w') (fun _ h => h.2) _ _ _ _ ?_
          replace hHeld := And.intro hnew hHeld
          clear hnew
          try dsimp only at hHeld
          refine' wpAnyH_take (i := 12) (v := _) rfl (by kernel_rfl) (by kernel_rfl) (by kernel_rfl) (fun _ _ _ h => h) (Or.inl ⟨by rfl, ?_⟩) hHeld ?_
          rotate_left
          · (intro w hSw; (try dsimp only at hSw); have cv := conv_2 hSw.1.2; go_simp; (try rw [if_neg (by omega)]); try with_reducible rfl)
          try simp only [Act.put, List.setIfInBounds_toArray, List.set_cons_zero, List.set_cons_succ, List.getElem_toArray, List.getElem_cons_succ, List.getElem_cons_zero]
          refine' wpAnyH_take (i := 13) (v := _) rfl (by kernel_rfl) (by kernel_rfl) (by kernel_rfl) (fun _ _ _ h => h) (Or.inl ⟨by rfl, ?_⟩) hHeld ?_
          rotate_left
          · (intro w hSw; (try dsimp only at hSw); go_simp; (try rw [if_neg (by omega)]); try with_reducible rfl)
          try simp only [Act.put, List.setIfInBounds_toArray, List.set_cons_zero, List.set_cons_succ, List.getElem_toArray, List.getElem_cons_succ, List.getElem_cons_zero]
          refine' wpAnyH_take (i := 16) (v := _) rfl (by kernel_rfl) (by kernel_rfl) (by kernel_rfl) (fun _ _ _ h => h) (Or.inl ⟨by rfl, ?_⟩) hHeld ?_
          rotate_left
          · (intro w hSw; (try dsimp only at hSw); go_simp; (try rw [if_neg (by omega)]); try with_reducible rfl)
          try simp only [Act.put, List.setIfInBounds_toArray, List.set_cons_zero, List.set_cons_succ, List.getElem_toArray, List.getElem_cons_succ, List.getElem_cons_zero]
          refine wpAnyH_ready (rs := [17]) (by kernel_rfl) (by simp) ?_
          refine AllReadyH.cons (o := _) rfl (fun K hK => ?_) (AllReadyH.nil)
          try simp only [List.getElem_toArray, List.getElem_cons_succ, List.getElem_cons_zero]
          go_simp
          refine (C1.out _).mono ?_
          rintro e w110 ⟨rfl, hg⟩
          have KP := hid (And.intro (Blk.grown hHeld.1 hg) (And.intro (Blk.grown hHeld.2.1 hg) ((Box.keep (Box.grown (box_box hHeld.2.2) hg)))))
          clear hHeld hg
          go_wp2_with fail
          refine hK.out _ _ KP.out (fun hHeld => ?_)
          clear KP hK K
          try dsimp only at hHeld
          try simp only [Act.put, List.setIfInBounds_toArray, List.set_cons_zero, List.set_cons_succ, List.getElem_toArray, List.getElem_cons_succ, List.getElem_cons_zero]
          refine' wpAnyH_take (i := 18) (v := _) rfl (by kernel_rfl) (by kernel_rfl) (by kernel_rfl) (fun _ _ _ h => h) (Or.inl ⟨by rfl, ?_⟩) hHeld ?_
          rotate_left
          · (intro w hSw; (try dsimp only at hSw); go_simp; (try rw [if_neg (by omega)]); try with_reducible rfl)
          try simp only [Act.put, List.setIfInBounds_toArray, List.set_cons_zero, List.set_cons_succ, List.getElem_toArray, List.getElem_cons_succ, List.getElem_cons_zero]
          refine wpAnyH_ready (rs := [19]) (by kernel_rfl) (by simp) ?_
          refine AllReadyH.cons (o := _) rfl (fun K hK => ?_) (AllReadyH.nil)
          try simp only [List.getElem_toArray, List.getElem_cons_succ, List.getElem_cons_zero]
          have hB := box_box hHeld.2.2
          obtain ⟨x, y, c0, c1, f0, f1⟩ := box_ans hHeld.2.2 (.refl w110 none)
          have KP := hid (And.intro (Blk.set1 (Blk.set0 hHeld.1 (.int .u64 (q a))) (.int .u64 (q b))) (And.intro (Blk.set1 (Blk.set0 hHeld.2.1 (.int .u64 (q a))) (.int .u64 (q b))) ((Box.keep (Box.set1 (Box.set0 (box_box hHeld.2.2) (.int .u64 (q a))) (.int .u64 (q b)))))))
          clear hHeld
          go_simp
          refine hK.out _ _ KP.out (fun hHeld => ?_)
          clear KP hK K
          try simp only [Act.put, List.setIfInBounds_toArray, List.set_cons_zero, List.set_cons_succ, List.getElem_toArray, List.getElem_cons_succ, List.getElem_cons_zero]
          refine wpAnyH_done (by kernel_rfl) ?_ _
          have hst := hB.store (.int .u64 (q a)) (.int .u64 (q b))
          clear hB c0 c1 f0 f1 hHeld
          generalize (w110.setCell ⟨w.heap.size + 1, 0, none⟩ (.int .u64 (q a))).setCell ⟨w.heap.size + 1, 1, none⟩ (.int .u64 (q b)) = wx at hst ⊢
          obtain ⟨d0, d1⟩ := pair_cells hst.1
          go_wp2_with fail
          exact bodyPost_ret (v := pair a b) (by simp [results, Tryz.results51, go_sem, d0, d1]) rfl ⟨rfl, hst.2⟩
      · try simp only [List.getElem_toArray, List.getElem_cons_succ, List.getElem_cons_zero]
        have KP := hid (And.intro (Blk.grown hHeld.1 (World.grownBy_alloc w102 (.cells #[.int .u8 2] 5) none)) ((Box.keep (Box.grown (box_box hHeld.2) (World.grownBy_alloc w102 (.cells #[.int .u8 2] 5) none)))))
        have hnew := (⟨Box.size (box_box hHeld.2), at_new w102 _⟩ : (Blk w (w102.heap.size) (.cells #[.int .u8 2] 5)) (w102.alloc (.cells #[.int .u8 2] 5)))
        clear hHeld
        go_simp
        refine hK.out _ _ KP.out (fun hHeld => ?_)
        clear KP hK K
        try dsimp only at hHeld hnew
        generalize w102.alloc (.cells #[.int .u8 2] 5) = w112 at hHeld hnew ⊢
        try simp only [Act.put, List.setIfInBounds_toArray, List.set_cons_zero, List.set_cons_succ, List.getElem_toArray, List.getElem_cons_succ, List.getElem_cons_zero]
        refine held_stronger (S' := fun w' => (Blk w (w102.heap.size) (.cells #[.int .u8 2] 5)) w' ∧ (fun w' => (Blk w (w5.heap.size) (.cells #[.int .u8 1] 5)) w' ∧ (fun w' => w'.cell? ⟨w.heap.size, 0, none⟩ = some (.int .u64 (q k0)) ∧ w'.cell? ⟨w.heap.size, 1, none⟩ = some (.int .u64 (q k1)) ∧ Box w k0 k1 49 49 w') w') w') (fun _ h => h.2) _ _ _ _ ?_
        replace hHeld := And.intro hnew hHeld
        clear hnew
        try dsimp only at hHeld
        refine' wpAnyH_take (i := 12) (v := _) rfl (by kernel_rfl) (by kernel_rfl) (by kernel_rfl) (fun _ _ _ h => h) (Or.inl ⟨by rfl, ?_⟩) hHeld ?_
        rotate_left
        · (intro w hSw; (try dsimp only at hSw); have cv := conv_2 hSw.1.2; go_simp; (try rw [if_neg (by omega)]); try with_reducible rfl)
        try simp only [Act.put, List.setIfInBounds_toArray, List.set_cons_zero, List.set_cons_succ, List.getElem_toArray, List.getElem_cons_succ, List.getElem_cons_zero]
        refine' wpAnyH_take (i := 13) (v := _) rfl (by kernel_rfl) (by kernel_rfl) (by kernel_rfl) (fun _ _ _ h => h) (Or.inl ⟨by rfl, ?_⟩) hHeld ?_
        rotate_left
        · (intro w hSw; (try dsimp only at hSw); go_simp; (try rw [if_neg (by omega)]); try with_reducible rfl)
        try simp only [Act.put, List.setIfInBounds_toArray, List.set_cons_zero, List.set_cons_succ, List.getElem_toArray, List.getElem_cons_succ, List.getElem_cons_zero]
        refine wpAnyH_ready (rs := [8]) (by kernel_rfl) (by simp) ?_
        refine AllReadyH.cons (o := _) rfl (fun K hK => ?_) (AllReadyH.nil)
        try simp only [List.getElem_toArray, List.getElem_cons_succ, List.getElem_cons_zero]
        go_simp
        refine (C0.out _).mono ?_
        rintro e w113 ⟨rfl, hg⟩
        have KP := hid (And.intro (Blk.grown hHeld.1 hg) (And.intro (Blk.grown hHeld.2.1 hg) ((Box.keep (Box.grown (box_box hHeld.2.2) hg)))))
        clear hHeld hg
        go_wp2_with fail
        refine hK.out _ _ KP.out (fun hHeld => ?_)
        clear KP hK K
        try dsimp only at hHeld
        try simp only [Act.put, List.setIfInBounds_toArray, List.set_cons_zero, List.set_cons_succ, List.getElem_toArray, List.getElem_cons_succ, List.getElem_cons_zero]
        refine wpAnyH_ready (rs := [15]) (by kernel_rfl) (by simp) ?_
        refine AllReadyH.cons (o := _) rfl (fun K hK => ?_) (AllReadyH.nil)
        try simp only [List.getElem_toArray, List.getElem_cons_succ, List.getElem_cons_zero]
        go_simp
        refine (HP.out _).mono ?_
        rintro e w114 ⟨rfl, hg⟩
        have KP := hid (And.intro (Blk.grown hHeld.1 hg) (And.intro (Blk.grown hHeld.2.1 hg) ((Box.keep (Box.grown (box_box hHeld.2.2) hg)))))
        clear hHeld hg
        go_wp2_with fail
        refine hK.out _ _ KP.out (fun hHeld => ?_)
        clear KP hK K
        try dsimp only at hHeld
        try simp only [Act.put, List.setIfInBounds_toArray, List.set_cons_zero, List.set_cons_succ, List.getElem_toArray, List.getElem_cons_succ, List.getElem_cons_zero]
        refine' wpAnyH_take (i := 16) (v := _) rfl (by kernel_rfl) (by kernel_rfl) (by kernel_rfl) (fun _ _ _ h => h) (Or.inl ⟨by rfl, ?_⟩) hHeld ?_
        rotate_left
        · (intro w hSw; (try dsimp only at hSw); go_simp; (try rw [if_neg (by omega)]); try with_reducible rfl)
        try simp only [Act.put, List.setIfInBounds_toArray, List.set_cons_zero, List.set_cons_succ, List.getElem_toArray, List.getElem_cons_succ, List.getElem_cons_zero]
        refine wpAnyH_ready (rs := [17]) (by kernel_rfl) (by simp) ?_
        refine AllReadyH.cons (o := _) rfl (fun K hK => ?_) (AllReadyH.nil)
        try simp only [List.getElem_toArray, List.getElem_cons_succ, List.getElem_cons_zero]
        go_simp
        refine (C1.out _).mono ?_
        rintro e w115 ⟨rfl, hg⟩
        have KP := hid (And.intro (Blk.grown hHeld.1 hg) (And.intro (Blk.grown hHeld.2.1 hg) ((Box.keep (Box.grown (box_box hHeld.2.2) hg)))))
        clear hHeld hg
        go_wp2_with fail
        refine hK.out _ _ KP.out (fun hHeld => ?_)
        clear KP hK K
        try dsimp only at hHeld
        try simp only [Act.put, List.setIfInBounds_toArray, List.set_cons_zero, List.set_cons_succ, List.getElem_toArray, List.getElem_cons_succ, List.getElem_cons_zero]
        refine' wpAnyH_take (i := 18) (v := _) rfl (by kernel_rfl) (by kernel_rfl) (by kernel_rfl) (fun _ _ _ h => h) (Or.inl ⟨by rfl, ?_⟩) hHeld ?_
        rotate_left
        · (intro w hSw; (try dsimp only at hSw); go_simp; (try rw [if_neg (by omega)]); try with_reducible rfl)
        try simp only [Act.put, List.setIfInBounds_toArray, List.set_cons_zero, List.set_cons_succ, List.getElem_toArray, List.getElem_cons_succ, List.getElem_cons_zero]
        refine wpAnyH_ready (rs := [19]) (by kernel_rfl) (by simp) ?_
        refine AllReadyH.cons (o := _) rfl (fun K hK => ?_) (AllReadyH.nil)
        try simp only [List.getElem_toArray, List.getElem_cons_succ, List.getElem_cons_zero]
        have hB := box_box hHeld.2.2
        obtain ⟨x, y, c0, c1, f0, f1⟩ := box_ans hHeld.2.2 (.refl w115 none)
        have KP := hid (And.intro (Blk.set1 (Blk.set0 hHeld.1 (.int .u64 (q a))) (.int .u64 (q b))) (And.intro (Blk.set1 (Blk.set0 hHeld.2.1 (.int .u64 (q a))) (.int .u64 (q b))) ((Box.keep (Box.set1 (Box.set0 (box_box hHeld.2.2) (.int .u64 (q a))) (.int .u64 (q b)))))))
        clear hHeld
        go_simp
        refine hK.out _ _ KP.out (fun hHeld => ?_)
        clear KP hK K
        try simp only [Act.put, List.setIfInBounds_toArray, List.set_cons_zero, List.set_cons_succ, List.getElem_toArray, List.getElem_cons_succ, List.getElem_cons_zero]
        refine wpAnyH_done (by kernel_rfl) ?_ _
        have hst := hB.store (.int .u64 (q a)) (.int .u64 (q b))
        clear hB c0 c1 f0 f1 hHeld
        generalize (w115.setCell ⟨w.heap.size + 1, 0, none⟩ (.int .u64 (q a))).setCell ⟨w.heap.size + 1, 1, none⟩ (.int .u64 (q b)) = wx at hst ⊢
        obtain ⟨d0, d1⟩ := pair_cells hst.1
        go_wp2_with fail
        exact bodyPost_ret (v := pair a b) (by simp [results, Tryz.results51, go_sem, d0, d1]) rfl ⟨rfl, hst.2⟩
    · try simp only [List.getElem_toArray, List.getElem_cons_succ, List.getElem_cons_zero]
      have KP := hid (And.intro (Blk.grown hHeld.1 (World.grownBy_alloc w101 (.cells #[.int .u8 2] 5) none)) ((Box.keep (Box.grown (box_box hHeld.2) (World.grownBy_alloc w101 (.cells #[.int .u8 2] 5) none)))))
      have hnew := (⟨Box.size (box_box hHeld.2), at_new w101 _⟩ : (Blk w (w101.heap.size) (.cells #[.int .u8 2] 5)) (w101.alloc (.cells #[.int .u8 2] 5)))
      clear hHeld
      go_simp
      refine hK.out _ _ KP.out (fun hHeld => ?_)
      clear KP hK K
      try dsimp only at hHeld hnew
      generalize w101.alloc (.cells #[.int .u8 2] 5) = w117 at hHeld hnew ⊢
      try simp only [Act.put, List.setIfInBounds_toArray, List.set_cons_zero, List.set_cons_succ, List.getElem_toArray, List.getElem_cons_succ, List.getElem_cons_zero]
      refine held_stronger (S' := fun w' => (Blk w (w101.heap.size) (.cells #[.int .u8 2] 5)) w' ∧ (fun w' => (Blk w (w5.heap.size) (.cells #[.int .u8 1] 5)) w' ∧ (fun w' => w'.cell? ⟨w.heap.size, 0, none⟩ = some (.int .u64 (q k0)) ∧ w'.cell? ⟨w.heap.size, 1, none⟩ = some (.int .u64 (q k1)) ∧ Box w k0 k1 49 49 w') w') w') (fun _ h => h.2) _ _ _ _ ?_
      replace hHeld := And.intro hnew hHeld
      clear hnew
      try dsimp only at hHeld
      refine' wpAnyH_take (i := 12) (v := _) rfl (by kernel_rfl) (by kernel_rfl) (by kernel_rfl) (fun _ _ _ h => h) (Or.inl ⟨by rfl, ?_⟩) hHeld ?_
      rotate_left
      · (intro w hSw; (try dsimp only at hSw); have cv := conv_2 hSw.1.2; go_simp; (try rw [if_neg (by omega)]); try with_reducible rfl)
      try simp only [Act.put, List.setIfInBounds_toArray, List.set_cons_zero, List.set_cons_succ, List.getElem_toArray, List.getElem_cons_succ, List.getElem_cons_zero]
      refine' wpAnyH_take (i := 13) (v := _) rfl (by kernel_rfl) (by kernel_rfl) (by kernel_rfl) (fun _ _ _ h => h) (Or.inl ⟨by rfl, ?_⟩) hHeld ?_
      rotate_left
      · (intro w hSw; (try dsimp only at hSw); go_simp; (try rw [if_neg (by omega)]); try with_reducible rfl)
      try simp only [Act.put, List.setIfInBounds_toArray, List.set_cons_zero, List.set_cons_succ, List.getElem_toArray, List.getElem_cons_succ, List.getElem_cons_zero]
      refine wpAnyH_ready (rs := [6]) (by kernel_rfl) (by simp) ?_
      refine AllReadyH.cons (o := _) rfl (fun K hK => ?_) (AllReadyH.nil)
      try simp only [List.getElem_toArray, List.getElem_cons_succ, List.getElem_cons_zero]
      go_simp
      refine (HP.out _).mono ?_
      rintro e w118 ⟨rfl, hg⟩
      have KP := hid (And.intro (Blk.grown hHeld.1 hg) (And.intro (Blk.grown hHeld.2.1 hg) ((Box.keep (Box.grown (box_box hHeld.2.2) hg)))))
      clear hHeld hg
      go_wp2_with fail
      refine hK.out _ _ KP.out (fun hHeld => ?_)
      clear KP hK K
      try dsimp only at hHeld
      try simp only [Act.put, List.setIfInBounds_toArray, List.set_cons_zero, List.set_cons_succ, List.getElem_toArray, List.getElem_cons_succ, List.getElem_cons_zero]
      refine' wpAnyH_take (i := 7) (v := _) rfl (by kernel_rfl) (by kernel_rfl) (by kernel_rfl) (fun _ _ _ h => h) (Or.inl ⟨by rfl, ?_⟩) hHeld ?_
      rotate_left
      · (intro w hSw; (try dsimp only at hSw); go_simp; (try rw [if_neg (by omega)]); try with_reducible rfl)
      try simp only [Act.put, List.setIfInBounds_toArray, List.set_cons_zero, List.set_cons_succ, List.getElem_toArray, List.getElem_cons_succ, List.getElem_cons_zero]
      refine wpAnyH_ready (rs := [8]) (by kernel_rfl) (by simp) ?_
      refine AllReadyH.cons (o := _) rfl (fun K hK => ?_) (AllReadyH.nil)
      try simp only [List.getElem_toArray, List.getElem_cons_succ, List.getElem_cons_zero]
      go_simp
      refine (C0.out _).mono ?_
      rintro e w119 ⟨rfl, hg⟩
      have KP := hid (And.intro (Blk.grown hHeld.1 hg) (And.intro (Blk.grown hHeld.2.1 hg) ((Box.keep (Box.grown (box_box hHeld.2.2) hg)))))
      clear hHeld hg
      go_wp2_with fail
      refine hK.out _ _ KP.out (fun hHeld => ?_)
      clear KP hK K
      try dsimp only at hHeld
      try simp only [Act.put, List.setIfInBounds_toArray, List.set_cons_zero, List.set_cons_succ, List.getElem_toArray, List.getElem_cons_succ, List.getElem_cons_zero]
      refine wpAnyH_ready (rs := [15]) (by kernel_rfl) (by simp) ?_
      refine AllReadyH.cons (o := _) rfl (fun K hK => ?_) (AllReadyH.nil)
      try simp only [List.getElem_toArray, List.getElem_cons_succ, List.getElem_cons_zero]
      go_simp
      refine (HP.out _).mono ?_
      rintro e w120 ⟨rfl, hg⟩
      have KP := hid (And.intro (Blk.grown hHeld.1 hg) (And.intro (Blk.grown hHeld.2.1 hg) ((Box.keep (Box.grown (box_box hHeld.2.2) hg)))))
      clear hHeld hg
      go_wp2_with fail
      refine hK.out _ _ KP.out (fun hHeld => ?_)
      clear KP hK K
      try dsimp only at hHeld
      try simp only [Act.put, List.setIfInBounds_toArray, List.set_cons_zero, List.set_cons_succ, List.getElem_toArray, List.getElem_cons_succ, List.getElem_cons_zero]
      refine' wpAnyH_take (i := 16) (v := _) rfl (by kernel_rfl) (by kernel_rfl) (by kernel_rfl) (fun _ _ _ h => h) (Or.inl ⟨by rfl, ?_⟩) hHeld ?_
      rotate_left
      · (intro w hSw; (try dsimp only at hSw); go_simp; (try rw [if_neg (by omega)]); try with_reducible rfl)
      try simp only [Act.put, List.setIfInBounds_toArray, List.set_cons_zero, List.set_cons_succ, List.getElem_toArray, List.getElem_cons_succ, List.getElem_cons_zero]
      refine wpAnyH_ready (rs := [17]) (by kernel_rfl) (by simp) ?_
      refine AllReadyH.cons (o := _) rfl (fun K hK => ?_) (AllReadyH.nil)
      try simp only [List.getElem_toArray, List.getElem_cons_succ, List.getElem_cons_zero]
      go_simp
      refine (C1.out _).mono ?_
      rintro e w121 ⟨rfl, hg⟩
      have KP := hid (And.intro (Blk.grown hHeld.1 hg) (And.intro (Blk.grown hHeld.2.1 hg) ((Box.keep (Box.grown (box_box hHeld.2.2) hg)))))
      clear hHeld hg
      go_wp2_with fail
      refine hK.out _ _ KP.out (fun hHeld => ?_)
      clear KP hK K
      try dsimp only at hHeld
      try simp only [Act.put, List.setIfInBounds_toArray, List.set_cons_zero, List.set_cons_succ, List.getElem_toArray, List.getElem_cons_succ, List.getElem_cons_zero]
      refine' wpAnyH_take (i := 18) (v := _) rfl (by kernel_rfl) (by kernel_rfl) (by kernel_rfl) (fun _ _ _ h => h) (Or.inl ⟨by rfl, ?_⟩) hHeld ?_
      rotate_left
      · (intro w hSw; (try dsimp only at hSw); go_simp; (try rw [if_neg (by omega)]); try with_reducible rfl)
      try simp only [Act.put, List.setIfInBounds_toArray, List.set_cons_zero, List.set_cons_succ, List.getElem_toArray, List.getElem_cons_succ, List.getElem_cons_zero]
      refine wpAnyH_ready (rs := [19]) (by kernel_rfl) (by simp) ?_
      refine AllReadyH.cons (o := _) rfl (fun K hK => ?_) (AllReadyH.nil)
      try simp only [List.getElem_toArray, List.getElem_cons_succ, List.getElem_cons_zero]
      have hB := box_box hHeld.2.2
      obtain ⟨x, y, c0, c1, f0, f1⟩ := box_ans hHeld.2.2 (.refl w121 none)
      have KP := hid (And.intro (Blk.set1 (Blk.set0 hHeld.1 (.int .u64 (q a))) (.int .u64 (q b))) (And.intro (Blk.set1 (Blk.set0 hHeld.2.1 (.int .u64 (q a))) (.int .u64 (q b))) ((Box.keep (Box.set1 (Box.set0 (box_box hHeld.2.2) (.int .u64 (q a))) (.int .u64 (q b)))))))
      clear hHeld
      go_simp
      refine hK.out _ _ KP.out (fun hHeld => ?_)
      clear KP hK K
      try simp only [Act.put, List.setIfInBounds_toArray, List.set_cons_zero, List.set_cons_succ, List.getElem_toArray, List.getElem_cons_succ, List.getElem_cons_zero]
      refine wpAnyH_done (by kernel_rfl) ?_ _
      have hst := hB.store (.int .u64 (q a)) (.int .u64 (q b))
      clear hB c0 c1 f0 f1 hHeld
      generalize (w121.setCell ⟨w.heap.size + 1, 0, none⟩ (.int .u64 (q a))).setCell ⟨w.heap.size + 1, 1, none⟩ (.int .u64 (q b)) = wx at hst ⊢
      obtain ⟨d0, d1⟩ := pair_cells hst.1
      go_wp2_with fail
      exact bodyPost_ret (v := pair a b) (by simp [results, Tryz.results51, go_sem, d0, d1]) rfl ⟨rfl, hst.2⟩
  · try simp only [List.getElem_toArray, List.getElem_cons_succ, List.getElem_cons_zero]
    go_simp
    refine (HP.out _).mono ?_
    rintro e w123 ⟨rfl, hg⟩
    have KP := hid ((Box.keep (Box.grown (box_box hHeld) hg)))
    clear hHeld hg
    go_wp2_with fail
    refine hK.out _ _ KP.out (fun hHeld => ?_)
    clear KP hK K
    try dsimp only at hHeld
    try simp only [Act.put, List.setIfInBounds_toArray, List.set_cons_zero, List.set_cons_succ, List.getElem_toArray, List.getElem_cons_succ, List.getElem_cons_zero]
    refine wpAnyH_ready (rs := [2, 11]) (by kernel_rfl) (by simp) ?_
    refine AllReadyH.cons (o := _) rfl (fun K hK => ?_) (AllReadyH.cons (o := _) rfl (fun K hK => ?_) (AllReadyH.nil))
    · try simp only [List.getElem_toArray, List.getElem_cons_succ, List.getElem_cons_zero]
      have KP := hid ((Box.keep (Box.grown (box_box hHeld) (World.grownBy_alloc w123 (.cells #[.int .u8 1] 5) none))))
      have hnew := (⟨Box.size (box_box hHeld), at_new w123 _⟩ : (Blk w (w123.heap.size) (.cells #[.int .u8 1] 5)) (w123.alloc (.cells #[.int .u8 1] 5)))
      clear hHeld
      go_simp
      refine hK.out _ _ KP.out (fun hHeld => ?_)
      clear KP hK K
      try dsimp only at hHeld hnew
      generalize w123.alloc (.cells #[.int .u8 1] 5) = w124 at hHeld hnew ⊢
      try simp only [Act.put, List.setIfInBounds_toArray, List.set_cons_zero, List.set_cons_succ, List.getElem_toArray, List.getElem_cons_succ, List.getElem_cons_zero]
      refine held_stronger (S' := fun w' => (Blk w (w123.heap.size) (.cells #[.int .u8 1] 5)) w' ∧ (fun w' => w'.cell? ⟨w.heap.size, 0, none⟩ = some (.int .u64 (q k0)) ∧ w'.cell? ⟨w.heap.size, 1, none⟩ = some (.int .u64 (q k1)) ∧ Box w k0 k1 49 49 w') w') (fun _ h => h.2) _ _ _ _ ?_
      replace hHeld := And.intro hnew hHeld
      clear hnew
      try dsimp only at hHeld
      refine' wpAnyH_take (i := 3) (v := _) rfl (by kernel_rfl) (by kernel_rfl) (by kernel_rfl) (fun _ _ _ h => h) (Or.inl ⟨by rfl, ?_⟩) hHeld ?_
      rotate_left
      · (intro w hSw; (try dsimp only at hSw); have cv := conv_1 hSw.1.2; go_simp; (try rw [if_neg (by omega)]); try with_reducible rfl)
      try simp only [Act.put, List.setIfInBounds_toArray, List.set_cons_zero, List.set_cons_succ, List.getElem_toArray, List.getElem_cons_succ, List.getElem_cons_zero]
      refine' wpAnyH_take (i := 4) (v := _) rfl (by kernel_rfl) (by kernel_rfl) (by kernel_rfl) (fun _ _ _ h => h) (Or.inl ⟨by rfl, ?_⟩) hHeld ?_
      rotate_left
      · (intro w hSw; (try dsimp only at hSw); go_simp; (try rw [if_neg (by omega)]); try with_reducible rfl)
      try simp only [Act.put, List.setIfInBounds_toArray, List.set_cons_zero, List.set_cons_succ, List.getElem_toArray, List.getElem_cons_succ, List.getElem_cons_zero]
      refine' wpAnyH_take (i := 7) (v := _) rfl (by kernel_rfl) (by kernel_rfl) (by kernel_rfl) (fun _ _ _ h => h) (Or.inl ⟨by rfl, ?_⟩) hHeld ?_
      rotate_left
      · (intro w hSw; (try dsimp only at hSw); go_simp; (try rw [if_neg (by omega)]); try with_reducible rfl)
      try simp only [Act.put, List.setIfInBounds_toArray, List.set_cons_zero, List.set_cons_succ, List.getElem_toArray, List.getElem_cons_succ, List.getElem_cons_zero]
      refine wpAnyH_ready (rs := [8, 11]) (by kernel_rfl) (by simp) ?_
      refine AllReadyH.cons (o := _) rfl (fun K hK => ?_) (AllReadyH.cons (o := _) rfl (fun K hK => ?_) (AllReadyH.nil))
      · try simp only [List.getElem_toArray, List.getElem_cons_succ, List.getElem_cons_zero]
        go_simp
        refine (C0.out _).mono ?_
        rintro e w125 ⟨rfl, hg⟩
        have KP := hid (And.intro (Blk.grown hHeld.1 hg) ((Box.keep (Box.grown (box_box hHeld.2) hg))))
        clear hHeld hg
        go_wp2_with fail
        refine hK.out _ _ KP.out (fun hHeld => ?_)
        clear KP hK K
        try dsimp only at hHeld
        try simp only [Act.put, List.setIfInBounds_toArray, List.set_cons_zero, List.set_cons_succ, List.getElem_toArray, List.getElem_cons_succ, List.getElem_cons_zero]
        refine wpAnyH_ready (rs := [11, 15]) (by kernel_rfl) (by simp) ?_
        refine AllReadyH.cons (o := _) rfl (fun K hK => ?_) (AllReadyH.cons (o := _) rfl (fun K hK => ?_) (AllReadyH.nil))
        · try simp only [List.getElem_toArray, List.getElem_cons_succ, List.getElem_cons_zero]
          have KP := hid (And.intro (Blk.grown hHeld.1 (World.grownBy_alloc w125 (.cells #[.int .u8 2] 5) none)) ((Box.keep (Box.grown (box_box hHeld.2) (World.grownBy_alloc w125 (.cells #[.int .u8 2] 5) none)))))
          have hnew := (⟨Box.size (box_box hHeld.2), at_new w125 _⟩ : (Blk w (w125.heap.size) (.cells #[.int .u8 2] 5)) (w125.alloc (.cells #[.int .u8 2] 5)))
          clear hHeld
          go_simp
          refine hK.out _ _ KP.out (fun hHeld => ?_)
          clear KP hK K
          try dsimp only at hHeld hnew
          generalize w125.alloc (.cells #[.int .u8 2] 5) = w126 at hHeld hnew ⊢
          try simp only [Act.put, List.setIfInBounds_toArray, List.set_cons_zero, List.set_cons_succ, List.getElem_toArray, List.getElem_cons_succ, List.getElem_cons_zero]
          refine held_stronger (S' := fun w' => (Blk w (w125.heap.size) (.cells #[.int .u8 2] 5)) w' ∧ (fun w' => (Blk w (w123.heap.size) (.cells #[.int .u8 1] 5)) w' ∧ (fun w' => w'.cell? ⟨w.heap.size, 0, none⟩ = some (.int .u64 (q k0)) ∧ w'.cell? ⟨w.heap.size, 1, none⟩ = some (.int .u64 (q k1)) ∧ Box w k0 k1 49 49 w') w') w') (fun _ h => h.2) _ _ _ _ ?_
          replace hHeld := And.intro hnew hHeld
          clear hnew
          try dsimp only at hHeld
          refine' wpAnyH_take (i := 12) (v := _) rfl (by kernel_rfl) (by kernel_rfl) (by kernel_rfl) (fun _ _ _ h => h) (Or.inl ⟨by rfl, ?_⟩) hHeld ?_
          rotate_left
          · (intro w hSw; (try dsimp only at hSw); have cv := conv_2 hSw.1.2; go_simp; (try rw [if_neg (by omega)]); try with_reducible rfl)
          try simp only [Act.put, List.setIfInBounds_toArray, List.set_cons_zero, List.set_cons_succ, List.getElem_toArray, List.getElem_cons_succ, List.getElem_cons_zero]
          refine' wpAnyH_take (i := 13) (v := _) rfl (by kernel_rfl) (by kernel_rfl) (by kernel_rfl) (fun _ _ _ h => h) (Or.inl ⟨by rfl, ?_⟩) hHeld ?_
          rotate_left
          · (intro w hSw; (try dsimp only at hSw); go_simp; (try rw [if_neg (by omega)]); try with_reducible rfl)
          try simp only [Act.put, List.setIfInBounds_toArray, List.set_cons_zero, List.set_cons_succ, List.getElem_toArray, List.getElem_cons_succ, List.getElem_cons_zero]
          refine wpAnyH_ready (rs := [15]) (by kernel_rfl) (by simp) ?_
          refine AllReadyH.cons (o := _) rfl (fun K hK => ?_) (AllReadyH.nil)
          try simp only [List.getElem_toArray, List.getElem_cons_succ, List.getElem_cons_zero]
          go_simp
          refine (HP.out _).mono ?_
          rintro e w127 ⟨rfl, hg⟩
          have KP := hid (And.intro (Blk.grown hHeld.1 hg) (And.intro (Blk.grown hHeld.2.1 hg) ((Box.keep (Box.grown (box_box hHeld.2.2) hg)))))
          clear hHeld hg
          go_wp2_with fail
          refine hK.out _ _ KP.out (fun hHeld => ?_)
          clear KP hK K
          try dsimp only at hHeld
          try simp only [Act.put, List.setIfInBounds_toArray, List.set_cons_zero, List.set_cons_succ, List.getElem_toArray, List.getElem_cons_succ, List.getElem_cons_zero]
          refine' wpAnyH_take (i := 16) (v := _) rfl (by kernel_rfl) (by kernel_rfl) (by kernel_rfl) (fun _ _ _ h => h) (Or.inl ⟨by rfl, ?_⟩) hHeld ?_
          rotate_left
          · (intro w hSw; (try dsimp only at hSw); go_simp; (try rw [if_neg (by omega)]); try with_reducible rfl)
          try simp only [Act.put, List.setIfInBounds_toArray, List.set_cons_zero, List.set_cons_succ, List.getElem_toArray, List.getElem_cons_succ, List.getElem_cons_zero]
          refine wpAnyH_ready (rs := [17]) (by kernel_rfl) (by simp) ?_
          refine AllReadyH.cons (o := _) rfl (fun K hK => ?_) (AllReadyH.nil)
          try simp only [List.getElem_toArray, List.getElem_cons_succ, List.getElem_cons_zero]
          go_simp
          refine (C1.out _).mono ?_
          rintro e w128 ⟨rfl, hg⟩
          have KP := hid (And.intro (Blk.grown hHeld.1 hg) (And.intro (Blk.grown hHeld.2.1 hg) ((Box.keep (Box.grown (box_box hHeld.2.2) hg)))))
          clear hHeld hg
          go_wp2_with fail
          refine hK.out _ _ KP.out (fun hHeld => ?_)
          clear KP hK K
          try dsimp only at hHeld
          try simp only [Act.put, List.setIfInBounds_toArray, List.set_cons_zero, List.set_cons_succ, List.getElem_toArray, List.getElem_cons_succ, List.getElem_cons_zero]
          refine' wpAnyH_take (i := 18) (v := _) rfl (by kernel_rfl) (by kernel_rfl) (by kernel_rfl) (fun _ _ _ h => h) (Or.inl ⟨by rfl, ?_⟩) hHeld ?_
          rotate_left
          · (intro w hSw; (try dsimp only at hSw); go_simp; (try rw [if_neg (by omega)]); try with_reducible rfl)
          try simp only [Act.put, List.setIfInBounds_toArray, List.set_cons_zero, List.set_cons_succ, List.getElem_toArray, List.getElem_cons_succ, List.getElem_cons_zero]
          refine wpAnyH_ready (rs := [19]) (by kernel_rfl) (by simp) ?_
          refine AllReadyH.cons (o := _) rfl (fun K hK => ?_) (AllReadyH.nil)
          try simp only [List.getElem_toArray, List.getElem_cons_succ, List.getElem_cons_zero]
          have hB := box_box hHeld.2.2
          obtain ⟨x, y, c0, c1, f0, f1⟩ := box_ans hHeld.2.2 (.refl w128 none)
          have KP := hid (And.intro (Blk.set1 (Blk.set0 hHeld.1 (.int .u64 (q a))) (.int .u64 (q b))) (And.intro (Blk.set1 (Blk.set0 hHeld.2.1 (.int .u64 (q a))) (.int .u64 (q b))) ((Box.keep (Box.set1 (Box.set0 (box_box hHeld.2.2) (.int .u64 (q a))) (.int .u64 (q b)))))))
          clear hHeld
          go_simp
          refine hK.out _ _ KP.out (fun hHeld => ?_)
          clear KP hK K
          try simp only [Act.put, List.setIfInBounds_toArray, List.set_cons_zero, List.set_cons_succ, List.getElem_toArray, List.getElem_cons_succ, List.getElem_cons_zero]
          refine wpAnyH_done (by kernel_rfl) ?_ _
          have hst := hB.store (.int .u64 (q a)) (.int .u64 (q b))
          clear hB c0 c1 f0 f1 hHeld
          generalize (w128.setCell ⟨w.heap.size + 1, 0, none⟩ (.int .u64 (q a))).setCell ⟨w.heap.size + 1, 1, none⟩ (.int .u64 (q b)) = wx at hst ⊢
          obtain ⟨d0, d1⟩ := pair_cells hst.1
          go_wp2_with fail
          exact bodyPost_ret (v := pair a b) (by simp [results, Tryz.results51, go_sem, d0, d1]) rfl ⟨rfl, hst.2⟩
        · try simp only [List.getElem_toArray, List.getElem_cons_succ, List.getElem_cons_zero]
          go_simp
          refine (HP.out _).mono ?_
          rintro e w130 ⟨rfl, hg⟩
          have KP := hid (And.intro (Blk.grown hHeld.1 hg) ((Box.keep (Box.grown (box_box hHeld.2) hg))))
          clear hHeld hg
          go_wp2_with fail
          refine hK.out _ _ KP.out (fun hHeld => ?_)
          clear KP hK K
          try dsimp only at hHeld
          try simp only [Act.put, List.setIfInBounds_toArray, List.set_cons_zero, List.set_cons_succ, List.getElem_toArray, List.getElem_cons_succ, List.getElem_cons_zero]
          refine wpAnyH_ready (rs := [11]) (by kernel_rfl) (by simp) ?_
          refine AllReadyH.cons (o := _) rfl (fun K hK => ?_) (AllReadyH.nil)
          try simp only [List.getElem_toArray, List.getElem_cons_succ, List.getElem_cons_zero]
          have KP := hid (And.intro (Blk.grown hHeld.1 (World.grownBy_alloc w130 (.cells #[.int .u8 2] 5) none)) ((Box.keep (Box.grown (box_box hHeld.2) (World.grownBy_alloc w130 (.cells #[.int .u8 2] 5) none)))))
          have hnew := (⟨Box.size (box_box hHeld.2), at_new w130 _⟩ : (Blk w (w130.heap.size) (.cells #[.int .u8 2] 5)) (w130.alloc (.cells #[.int .u8 2] 5)))
          clear hHeld
          go_simp
          refine hK.out _ _ KP.out (fun hHeld => ?_)
          clear KP hK K
          try dsimp only at hHeld hnew
          generalize w130.alloc (.cells #[.int .u8 2] 5) = w131 at hHeld hnew ⊢
          try simp only [Act.put, List.setIfInBounds_toArray, List.set_cons_zero, List.set_cons_succ, List.getElem_toArray, List.getElem_cons_succ, List.getElem_cons_zero]
          refine held_stronger (S' := fun w' => (Blk w (w130.heap.size) (.cells #[.int .u8 2] 5)) w' ∧ (fun w' => (Blk w (w123.heap.size) (.cells #[.int .u8 1] 5)) w' ∧ (fun w' => w'.cell? ⟨w.heap.size, 0, none⟩ = some (.int .u64 (q k0)) ∧ w'.cell? ⟨w.heap.size, 1, none⟩ = some (.int .u64 (q k1)) ∧ Box w k0 k1 49 49 w') w') w') (fun _ h => h.2) _ _ _ _ ?_
          replace hHeld := And.intro hnew hHeld
          clear hnew
          try dsimp only at hHeld
          refine' wpAnyH_take (i := 12) (v := _) rfl (by kernel_rfl) (by kernel_rfl) (by kernel_rfl) (fun _ _ _ h => h) (Or.inl ⟨by rfl, ?_⟩) hHeld ?_
          rotate_left
          · (intro w hSw; (try dsimp only at hSw); have cv := conv_2 hSw.1.2; go_simp; (try rw [if_neg (by omega)]); try with_reducible rfl)
          try simp only [Act.put, List.setIfInBounds_toArray, List.set_cons_zero, List.set_cons_succ, List.getElem_toArray, List.getElem_cons_succ, List.getElem_cons_zero]
          refine' wpAnyH_take (i := 13) (v := _) rfl (by kernel_rfl) (by kernel_rfl) (by kernel_rfl) (fun _ _ _ h => h) (Or.inl ⟨by rfl, ?_⟩) hHeld ?_
          rotate_left
          · (intro w hSw; (try dsimp only at hSw); go_simp; (try rw [if_neg (by omega)]); try with_reducible rfl)
          try simp only [Act.put, List.setIfInBounds_toArray, List.set_cons_zero, List.set_cons_succ, List.getElem_toArray, List.getElem_cons_succ, List.getElem_cons_zero]
          refine' wpAnyH_take (i := 16) (v := _) rfl (by kernel_rfl) (by kernel_rfl) (by kernel_rfl) (fun _ _ _ h => h) (Or.inl ⟨by rfl, ?_⟩) hHeld ?_
          rotate_left
          · (intro w hSw; (try dsimp only at hSw); go_simp; (try rw [if_neg (by omega)]); try with_reducible rfl)
          try simp only [Act.put, List.setIfInBounds_toArray, List.set_cons_zero, List.set_cons_succ, List.getElem_toArray, List.getElem_cons_succ, List.getElem_cons_zero]
          refine wpAnyH_ready (rs := [17]) (by kernel_rfl) (by simp) ?_
          refine AllReadyH.cons (o := _) rfl (fun K hK => ?_) (AllReadyH.nil)
          try simp only [List.getElem_toArray, List.getElem_cons_succ, List.getElem_cons_zero]
          go_simp
          refine (C1.out _).mono ?_
          rintro e w132 ⟨rfl, hg⟩
          have KP := hid (And.intro (Blk.grown hHeld.1 hg) (And.intro (Blk.grown hHeld.2.1 hg) ((Box.keep (Box.grown (box_box hHeld.2.2) hg)))))
          clear hHeld hg
          go_wp2_with fail
          refine hK.out _ _ KP.out (fun hHeld => ?_)
          clear KP hK K
          try dsimp only at hHeld
          try simp only [Act.put, List.setIfInBounds_toArray, List.set_cons_zero, List.set_cons_succ, List.getElem_toArray, List.getElem_cons_succ, List.getElem_cons_zero]
          refine' wpAnyH_take (i := 18) (v := _) rfl (by kernel_rfl) (by kernel_rfl) (by kernel_rfl) (fun _ _ _ h => h) (Or.inl ⟨by rfl, ?_⟩) hHeld ?_
          rotate_left
          · (intro w hSw; (try dsimp only at hSw); go_simp; (try rw [if_neg (by omega)]); try with_reducible rfl)
          try simp only [Act.put, List.setIfInBounds_toArray, List.set_cons_zero, List.set_cons_succ, List.getElem_toArray, List.getElem_cons_succ, List.getElem_cons_zero]
          refine wpAnyH_ready (rs := [19]) (by kernel_rfl) (by simp) ?_
          refine AllReadyH.cons (o := _) rfl (fun K hK => ?_) (AllReadyH.nil)
          try simp only [List.getElem_toArray, List.getElem_cons_succ, List.getElem_cons_zero]
          have hB := box_box hHeld.2.2
          obtain ⟨x, y, c0, c1, f0, f1⟩ := box_ans hHeld.2.2 (.refl w132 none)
          have KP := hid (And.intro (Blk.set1 (Blk.set0 hHeld.1 (.int .u64 (q a))) (.int .u64 (q b))) (And.intro (Blk.set1 (Blk.set0 hHeld.2.1 (.int .u64 (q a))) (.int .u64 (q b))) ((Box.keep (Box.set1 (Box.set0 (box_box hHeld.2.2) (.int .u64 (q a))) (.int .u64 (q b)))))))
          clear hHeld
          go_simp
          refine hK.out _ _ KP.out (fun hHeld => ?_)
          clear KP hK K
          try simp only [Act.put, List.setIfInBounds_toArray, List.set_cons_zero, List.set_cons_succ, List.getElem_toArray, List.getElem_cons_succ, List.getElem_cons_zero]
          refine wpAnyH_done (by kernel_rfl) ?_ _
          have hst := hB.store (.int .u64 (q a)) (.int .u64 (q b))
          clear hB c0 c1 f0 f1 hHeld
          generalize (w132.setCell ⟨w.heap.size + 1, 0, none⟩ (.int .u64 (q a))).setCell ⟨w.heap.size + 1, 1, none⟩ (.int .u64 (q b)) = wx at hst ⊢
          obtain ⟨d0, d1⟩ := pair_cells hst.1
          go_wp2_with fail
          exact bodyPost_ret (v := pair a b) (by simp [results, Tryz.results51, go_sem, d0, d1]) rfl ⟨rfl, hst.2⟩
      · try simp only [List.getElem_toArray, List.getElem_cons_succ, List.getElem_cons_zero]
        have KP := hid (And.intro (Blk.grown hHeld.1 (World.grownBy_alloc w124 (.cells #[.int .u8 2] 5) none)) ((Box.keep (Box.grown (box_box hHeld.2) (World.grownBy_alloc w124 (.cells #[.int .u8 2] 5) none)))))
        have hnew := (⟨Box.size (box_box hHeld.2), at_new w124 _⟩ : (Blk w (w124.heap.size) (.cells #[.int .u8 2] 5)) (w124.alloc (.cells #[.int .u8 2] 5)))
        clear hHeld
        go_simp
        refine hK.out _ _ KP.out (fun hHeld => ?_)
        clear KP hK K
        try dsimp only at hHeld hnew
        generalize w124.alloc (.cells #[.int .u8 2] 5) = w134 at hHeld hnew ⊢
        try simp only [Act.put, List.setIfInBounds_toArray, List.set_cons_zero, List.set_cons_succ, List.getElem_toArray, List.getElem_cons_succ, List.getElem_cons_zero]
        refine held_stronger (S' := fun w' => (Blk w (w124.heap.size) (.cells #[.int .u8 2] 5)) w' ∧ (fun w' => (Blk w (w123.heap.size) (.cells #[.int .u8 1] 5)) w' ∧ (fun w' => w'.cell? ⟨w.heap.size, 0, none⟩ = some (.int .u64 (q k0)) ∧ w'.cell? ⟨w.heap.size, 1, none⟩ = some (.int .u64 (q k1)) ∧ Box w k0 k1 49 49 w') w') w') (fun _ h => h.2) _ _ _ _ ?_
        replace hHeld := And.intro hnew hHeld
        clear hnew
        try dsimp only at hHeld
        refine' wpAnyH_take (i := 12) (v := _) rfl (by kernel_rfl) (by kernel_rfl) (by kernel_rfl) (fun _ _ _ h => h) (Or.inl ⟨by rfl, ?_⟩) hHeld ?_
        rotate_left
        · (intro w hSw; (try dsimp only at hSw); have cv := conv_2 hSw.1.2; go_simp; (try rw [if_neg (by omega)]); try with_reducible rfl)
        try simp only [Act.put, List.setIfInBounds_toArray, List.set_cons_zero, List.set_cons_succ, List.getElem_toArray, List.getElem_cons_succ, List.getElem_cons_zero]
        refine' wpAnyH_take (i := 13) (v := _) rfl (by kernel_rfl) (by kernel_rfl) (by kernel_rfl) (fun _ _ _ h => h) (Or.inl ⟨by rfl, ?_⟩) hHeld ?_
        rotate_left
        · (intro w hSw; (try dsimp only at hSw); go_simp; (try rw [if_neg (by omega)]); try with_reducible rfl)
        try simp only [Act.put, List.setIfInBounds_toArray, List.set_cons_zero, List.set_cons_succ, List.getElem_toArray, List.getElem_cons_succ, List.getElem_cons_zero]
        refine wpAnyH_ready (rs := [8]) (by kernel_rfl) (by simp) ?_
        refine AllReadyH.cons (o := _) rfl (fun K hK => ?_) (AllReadyH.nil)
        try simp only [List.getElem_toArray, List.getElem_cons_succ, List.getElem_cons_zero]
        go_simp
        refine (C0.out _).mono ?_
        rintro e w135 ⟨rfl, hg⟩
        have KP := hid (And.intro (Blk.grown hHeld.1 hg) (And.intro (Blk.grown hHeld.2.1 hg) ((Box.keep (Box.grown (box_box hHeld.2.2) hg)))))
        clear hHeld hg
        go_wp2_with fail
        refine hK.out _ _ KP.out (fun hHeld => ?_)
        clear KP hK K
        try dsimp only at hHeld
        try simp only [Act.put, List.setIfInBounds_toArray, List.set_cons_zero, List.set_cons_succ, List.getElem_toArray, List.getElem_cons_succ, List.getElem_cons_zero]
        refine wpAnyH_ready (rs := [15]) (by kernel_rfl) (by simp) ?_
        refine AllReadyH.cons (o := _) rfl (fun K hK => ?_) (AllReadyH.nil)
        try simp only [List.getElem_toArray, List.getElem_cons_succ, List.getElem_cons_zero]
        go_simp
        refine (HP.out _).mono ?_
        rintro e w136 ⟨rfl, hg⟩
        have KP := hid (And.intro (Blk.grown hHeld.1 hg) (And.intro (Blk.grown hHeld.2.1 hg) ((Box.keep (Box.grown (box_box hHeld.2.2) hg)))))
        clear hHeld hg
        go_wp2_with fail
        refine hK.out _ _ KP.out (fun hHeld => ?_)
        clear KP hK K
        try dsimp only at hHeld
        try simp only [Act.put, List.setIfInBounds_toArray, List.set_cons_zero, List.set_cons_succ, List.getElem_toArray, List.getElem_cons_succ, List.getElem_cons_zero]
        refine' wpAnyH_take (i := 16) (v := _) rfl (by kernel_rfl) (by kernel_rfl) (by kernel_rfl) (fun _ _ _ h => h) (Or.inl ⟨by rfl, ?_⟩) hHeld ?_
        rotate_left
        · (intro w hSw; (try dsimp only at hSw); go_simp; (try rw [if_neg (by omega)]); try with_reducible rfl)
        try simp only [Act.put, List.setIfInBounds_toArray, List.set_cons_zero, List.set_cons_succ, List.getElem_toArray, List.getElem_cons_succ, List.getElem_cons_zero]
        refine wpAnyH_ready (rs := [17]) (by kernel_rfl) (by simp) ?_
        refine AllReadyH.cons (o := _) rfl (fun K hK => ?_) (AllReadyH.nil)
        try simp only [List.getElem_toArray, List.getElem_cons_succ, List.getElem_cons_zero]
        go_simp
        refine (C1.out _).mono ?_
        rintro e w137 ⟨rfl, hg⟩
        have KP := hid (And.intro (Blk.grown hHeld.1 hg) (And.intro (Blk.grown hHeld.2.1 hg) ((Box.keep (Box.grown (box_box hHeld.2.2) hg)))))
        clear hHeld hg
        go_wp2_with fail
        refine hK.out _ _ KP.out (fun hHeld => ?_)
        clear KP hK K
        try dsimp only at hHeld
        try simp only [Act.put, List.setIfInBounds_toArray, List.set_cons_zero, List.set_cons_succ, List.getElem_toArray, List.getElem_cons_succ, List.getElem_cons_zero]
        refine' wpAnyH_take (i := 18) (v := _) rfl (by kernel_rfl) (by kernel_rfl) (by kernel_rfl) (fun _ _ _ h => h) (Or.inl ⟨by rfl, ?_⟩) hHeld ?_
        rotate_left
        · (intro w hSw; (try dsimp only at hSw); go_simp; (try rw [if_neg (by omega)]); try with_reducible rfl)
        try simp only [Act.put, List.setIfInBounds_toArray, List.set_cons_zero, List.set_cons_succ, List.getElem_toArray, List.getElem_cons_succ, List.getElem_cons_zero]
        refine wpAnyH_ready (rs := [19]) (by kernel_rfl) (by simp) ?_
        refine AllReadyH.cons (o := _) rfl (fun K hK => ?_) (AllReadyH.nil)
        try simp only [List.getElem_toArray, List.getElem_cons_succ, List.getElem_cons_zero]
        have hB := box_box hHeld.2.2
        obtain ⟨x, y, c0, c1, f0, f1⟩ := box_ans hHeld.2.2 (.refl w137 none)
        have KP := hid (And.intro (Blk.set1 (Blk.set0 hHeld.1 (.int .u64 (q a))) (.int .u64 (q b))) (And.intro (Blk.set1 (Blk.set0 hHeld.2.1 (.int .u64 (q a))) (.int .u64 (q b))) ((Box.keep (Box.set1 (Box.set0 (box_box hHeld.2.2) (.int .u64 (q a))) (.int .u64 (q b)))))))
        clear hHeld
        go_simp
        refine hK.out _ _ KP.out (fun hHeld => ?_)
        clear KP hK K
        try simp only [Act.put, List.setIfInBounds_toArray, List.set_cons_zero, List.set_cons_succ, List.getElem_toArray, List.getElem_cons_succ, List.getElem_cons_zero]
        refine wpAnyH_done (by kernel_rfl) ?_ _
        have hst := hB.store (.int .u64 (q a)) (.int .u64 (q b))
        clear hB c0 c1 f0 f1 hHeld
        generalize (w137.setCell ⟨w.heap.size + 1, 0, none⟩ (.int .u64 (q a))).setCell ⟨w.heap.size + 1, 1, none⟩ (.int .u64 (q b)) = wx at hst ⊢
        obtain ⟨d0, d1⟩ := pair_cells hst.1
        go_wp2_with fail
        exact bodyPost_ret (v := pair a b) (by simp [results, Tryz.results51, go_sem, d0, d1]) rfl ⟨rfl, hst.2⟩
    · try simp only [List.getElem_toArray, List.getElem_cons_succ, List.getElem_cons_zero]
      have KP := hid ((Box.keep (Box.grown (box_box hHeld) (World.grownBy_alloc w123 (.cells #[.int .u8 2] 5) none))))
      have hnew := (⟨Box.size (box_box hHeld), at_new w123 _⟩ : (Blk w (w123.heap.size) (.cells #[.int .u8 2] 5)) (w123.alloc (.cells #[.int .u8 2] 5)))
      clear hHeld
      go_simp
      refine hK.out _ _ KP.out (fun hHeld => ?_)
      clear KP hK K
      try dsimp only at hHeld hnew
      generalize w123.alloc (.cells #[.int .u8 2] 5) = w139 at hHeld hnew ⊢
      try simp only [Act.put, List.setIfInBounds_toArray, List.set_cons_zero, List.set_cons_succ, List.getElem_toArray, List.getElem_cons_succ, List.getElem_cons_zero]
      refine held_stronger (S' := fun w' => (Blk w (w123.heap.size) (.cells #[.int .u8 2] 5)) w' ∧ (fun w' => w'.cell? ⟨w.heap.size, 0, none⟩ = some (.int .u64 (q k0)) ∧ w'.cell? ⟨w.heap.size, 1, none⟩ = some (.int .u64 (q k1)) ∧ Box w k0 k1 49 49 w') w') (fun _ h => h.2) _ _ _ _ ?_
      replace hHeld := And.intro hnew hHeld
      clear hnew
      try dsimp only at hHeld
      refine' wpAnyH_take (i := 12) (v := _) rfl (by kernel_rfl) (by kernel_rfl) (by kernel_rfl) (fun _ _ _ h => h) (Or.inl ⟨by rfl, ?_⟩) hHeld ?_
      rotate_left
      · (intro w hSw; (try dsimp only at hSw); have cv := conv_2 hSw.1.2; go_simp; (try rw [if_neg (by omega)]); try with_reducible rfl)
      try simp only [Act.put, List.setIfInBounds_toArray, List.set_cons_zero, List.set_cons_succ, List.getElem_toArray, List.getElem_cons_succ, List.getElem_cons_zero]
      refine' wpAnyH_take (i := 13) (v := _) rfl (by kernel_rfl) (by kernel_rfl) (by kernel_rfl) (fun _ _ _ h => h) (Or.inl ⟨by rfl, ?_⟩) hHeld ?_
      rotate_left
      · (intro w hSw; (try dsimp only at hSw); go_simp; (try rw [if_neg (by omega)]); try with_reducible rfl)
      try simp only [Act.put, List.setIfInBounds_toArray, List.set_cons_zero, List.set_cons_succ, List.getElem_toArray, List.getElem_cons_succ, List.getElem_cons_zero]
      refine wpAnyH_ready (rs := [2]) (by kernel_rfl) (by simp) ?_
      refine AllReadyH.cons (o := _) rfl (fun K hK => ?_) (AllReadyH.nil)
      try simp only [List.getElem_toArray, List.getElem_cons_succ, List.getElem_cons_zero]
      have KP := hid (And.intro (Blk.grown hHeld.1 (World.grownBy_alloc w139 (.cells #[.int .u8 1] 5) none)) ((Box.keep (Box.grown (box_box hHeld.2) (World.grownBy_alloc w139 (.cells #[.int .u8 1] 5) none)))))
      have hnew := (⟨Box.size (box_box hHeld.2), at_new w139 _⟩ : (Blk w (w139.heap.size) (.cells #[.int .u8 1] 5)) (w139.alloc (.cells #[.int .u8 1] 5)))
      clear hHeld
      go_simp
      refine hK.out _ _ KP.out (fun hHeld => ?_)
      clear KP hK K
      try dsimp only at hHeld hnew
      generalize w139.alloc (.cells #[.int .u8 1] 5) = w140 at hHeld hnew ⊢
      try simp only [Act.put, List.setIfInBounds_toArray, List.set_cons_zero, List.set_cons_succ, List.getElem_toArray, List.getElem_cons_succ, List.getElem_cons_zero]
      refine held_stronger (S' := fun w' => (Blk w (w139.heap.size) (.cells #[.int .u8 1] 5)) w' ∧ (fun w' => (Blk w (w123.heap.size) (.cells #[.int .u8 2] 5)) w' ∧ (fun w' => w'.cell? ⟨w.heap.size, 0, none⟩ = some (.int .u64 (q k0)) ∧ w'.cell? ⟨w.heap.size, 1, none⟩ = some (.int .u64 (q k1)) ∧ Box w k0 k1 49 49 w') w') w') (fun _ h => h.2) _ _ _ _ ?_
      replace hHeld := And.intro hnew hHeld
      clear hnew
      try dsimp only at hHeld
      refine' wpAnyH_take (i := 3) (v := _) rfl (by kernel_rfl) (by kernel_rfl) (by kernel_rfl) (fun _ _ _ h => h) (Or.inl ⟨by rfl, ?_⟩) hHeld ?_
      rotate_left
      · (intro w hSw; (try dsimp only at hSw); have cv := conv_1 hSw.1.2; go_simp; (try rw [if_neg (by omega)]); try with_reducible rfl)
      try simp only [Act.put, List.setIfInBounds_toArray, List.set_cons_zero, List.set_cons_succ, List.getElem_toArray, List.getElem_cons_succ, List.getElem_cons_zero]
      refine' wpAnyH_take (i := 4) (v := _) rfl (by kernel_rfl) (by kernel_rfl) (by kernel_rfl) (fun _ _ _ h => h) (Or.inl ⟨by rfl, ?_⟩) hHeld ?_
      rotate_left
      · (intro w hSw; (try dsimp only at hSw); go_simp; (try rw [if_neg (by omega)]); try with_reducible rfl)
      try simp only [Act.put, List.setIfInBounds_toArray, List.set_cons_zero, List.set_cons_succ, List.getElem_toArray, List.getElem_cons_succ, List.getElem_cons_zero]
      refine' wpAnyH_take (i := 7) (v := _) rfl (by kernel_rfl) (by kernel_rfl) (by kernel_rfl) (fun _ _ _ h => h) (Or.inl ⟨by rfl, ?_⟩) hHeld ?_
      rotate_left
      · (intro w hSw; (try dsimp only at hSw); go_simp; (try rw [if_neg (by omega)]); try with_reducible rfl)
      try simp only [Act.put, List.setIfInBounds_toArray, List.set_cons_zero, List.set_cons_succ, List.getElem_toArray, List.getElem_cons_succ, List.getElem_cons_zero]
      refine wpAnyH_ready (rs := [8]) (by kernel_rfl) (by simp) ?_
      refine AllReadyH.cons (o := _) rfl (fun K hK => ?_) (AllReadyH.nil)
      try simp only [List.getElem_toArray, List.getElem_cons_succ, List.getElem_cons_zero]
      go_simp
      refine (C0.out _).mono ?_
      rintro e w141 ⟨rfl, hg⟩
      have KP := hid (And.intro (Blk.grown hHeld.1 hg) (And.intro (Blk.grown hHeld.2.1 hg) ((Box.keep (Box.grown (box_box hHeld.2.2) hg)))))
      clear hHeld hg
      go_wp2_with fail
      refine hK.out _ _ KP.out (fun hHeld => ?_)
      clear KP hK K
      try dsimp only at hHeld
      try simp only [Act.put, List.setIfInBounds_toArray, List.set_cons_zero, List.set_cons_succ, List.getElem_toArray, List.getElem_cons_succ, List.getElem_cons_zero]
      refine wpAnyH_ready (rs := [15]) (by kernel_rfl) (by simp) ?_
      refine AllReadyH.cons (o := _) rfl (fun K hK => ?_) (AllReadyH.nil)
      try simp only [List.getElem_toArray, List.getElem_cons_succ, List.getElem_cons_zero]
      go_simp
      refine (HP.out _).mono ?_
      rintro e w142 ⟨rfl, hg⟩
      have KP := hid (And.intro (Blk.grown hHeld.1 hg) (And.intro (Blk.grown hHeld.2.1 hg) ((Box.keep (Box.grown (box_box hHeld.2.2) hg)))))
      clear hHeld hg
      go_wp2_with fail
      refine hK.out _ _ KP.out (fun hHeld => ?_)
      clear KP hK K
      try dsimp only at hHeld
      try simp only [Act.put, List.setIfInBounds_toArray, List.set_cons_zero, List.set_cons_succ, List.getElem_toArray, List.getElem_cons_succ, List.getElem_cons_zero]
      refine' wpAnyH_take (i := 16) (v := _) rfl (by kernel_rfl) (by kernel_rfl) (by kernel_rfl) (fun _ _ _ h => h) (Or.inl ⟨by rfl, ?_⟩) hHeld ?_
      rotate_left
      · (intro w hSw; (try dsimp only at hSw); go_simp; (try rw [if_neg (by omega)]); try with_reducible rfl)
      try simp only [Act.put, List.setIfInBounds_toArray, List.set_cons_zero, List.set_cons_succ, List.getElem_toArray, List.getElem_cons_succ, List.getElem_cons_zero]
      refine wpAnyH_ready (rs := [17]) (by kernel_rfl) (by simp) ?_
      refine AllReadyH.cons (o := _) rfl (fun K hK => ?_) (AllReadyH.nil)
      try simp only [List.getElem_toArray, List.getElem_cons_succ, List.getElem_cons_zero]
      go_simp
      refine (C1.out _).mono ?_
      rintro e w143 ⟨rfl, hg⟩
      have KP := hid (And.intro (Blk.grown hHeld.1 hg) (And.intro (Blk.grown hHeld.2.1 hg) ((Box.keep (Box.grown (box_box hHeld.2.2) hg)))))
      clear hHeld hg
      go_wp2_with fail
      refine hK.out _ _ KP.out (fun hHeld => ?_)
      clear KP hK K
      try dsimp only at hHeld
      try simp only [Act.put, List.setIfInBounds_toArray, List.set_cons_zero, List.set_cons_succ, List.getElem_toArray, List.getElem_cons_succ, List.getElem_cons_zero]
      refine' wpAnyH_take (i := 18) (v := _) rfl (by kernel_rfl) (by kernel_rfl) (by kernel_rfl) (fun _ _ _ h => h) (Or.inl ⟨by rfl, ?_⟩) hHeld ?_
      rotate_left
      · (intro w hSw; (try dsimp only at hSw); go_simp; (try rw [if_neg (by omega)]); try with_reducible rfl)
      try simp only [Act.put, List.setIfInBounds_toArray, List.set_cons_zero, List.set_cons_succ, List.getElem_toArray, List.getElem_cons_succ, List.getElem_cons_zero]
      refine wpAnyH_ready (rs := [19]) (by kernel_rfl) (by simp) ?_
      refine AllReadyH.cons (o := _) rfl (fun K hK => ?_) (AllReadyH.nil)
      try simp only [List.getElem_toArray, List.getElem_cons_succ, List.getElem_cons_zero]
      have hB := box_box hHeld.2.2
      obtain ⟨x, y, c0, c1, f0, f1⟩ := box_ans hHeld.2.2 (.refl w143 none)
      have KP := hid (And.intro (Blk.set1 (Blk.set0 hHeld.1 (.int .u64 (q a))) (.int .u64 (q b))) (And.intro (Blk.set1 (Blk.set0 hHeld.2.1 (.int .u64 (q a))) (.int .u64 (q b))) ((Box.keep (Box.set1 (Box.set0 (box_box hHeld.2.2) (.int .u64 (q a))) (.int .u64 (q b)))))))
      clear hHeld
      go_simp
      refine hK.out _ _ KP.out (fun hHeld => ?_)
      clear KP hK K
      try simp only [Act.put, List.setIfInBounds_toArray, List.set_cons_zero, List.set_cons_succ, List.getElem_toArray, List.getElem_cons_succ, List.getElem_cons_zero]
      refine wpAnyH_done (by kernel_rfl) ?_ _
      have hst := hB.store (.int .u64 (q a)) (.int .u64 (q b))
      clear hB c0 c1 f0 f1 hHeld
      generalize (w143.setCell ⟨w.heap.size + 1, 0, none⟩ (.int .u64 (q a))).setCell ⟨w.heap.size + 1, 1, none⟩ (.int .u64 (q b)) = wx at hst ⊢
      obtain ⟨d0, d1⟩ := pair_cells hst.1
      go_wp2_with fail
      exact bodyPost_ret (v := pair a b) (by simp [results, Tryz.results51, go_sem, d0, d1]) rfl ⟨rfl, hst.2⟩
  · try simp only [List.getElem_toArray, List.getElem_cons_succ, List.getElem_cons_zero]
    have KP := hid ((Box.keep (Box.grown (box_box hHeld) (World.grownBy_alloc w5 (.cells #[.int .u8 2] 5) none))))
    have hnew := (⟨Box.size (box_box hHeld), at_new w5 _⟩ : (Blk w (w5.heap.size) (.cells #[.int .u8 2] 5)) (w5.alloc (.cells #[.int .u8 2] 5)))
    clear hHeld
    go_simp
    refine hK.out _ _ KP.out (fun hHeld => ?_)
    clear KP hK K
    try dsimp only at hHeld hnew
    generalize w5.alloc (.cells #[.int .u8 2] 5) = w145 at hHeld hnew ⊢
    try simp only [Act.put, List.setIfInBounds_toArray, List.set_cons_zero, List.set_cons_succ, List.getElem_toArray, List.getElem_cons_succ, List.getElem_cons_zero]
    refine held_stronger (S' := fun w' => (Blk w (w5.heap.size) (.cells #[.int .u8 2] 5)) w' ∧ (fun w' => w'.cell? ⟨w.heap.size, 0, none⟩ = some (.int .u64 (q k0)) ∧ w'.cell? ⟨w.heap.size, 1, none⟩ = some (.int .u64 (q k1)) ∧ Box w k0 k1 49 49 w') w') (fun _ h => h.2) _ _ _ _ ?_
    replace hHeld := And.intro hnew hHeld
    clear hnew
    try dsimp only at hHeld
    refine' wpAnyH_take (i := 12) (v := _) rfl (by kernel_rfl) (by kernel_rfl) (by kernel_rfl) (fun _ _ _ h => h) (Or.inl ⟨by rfl, ?_⟩) hHeld ?_
    rotate_left
    · (intro w hSw; (try dsimp only at hSw); have cv := conv_2 hSw.1.2; go_simp; (try rw [if_neg (by omega)]); try with_reducible rfl)
    try simp only [Act.put, List.setIfInBounds_toArray, List.set_cons_zero, List.set_cons_succ, List.getElem_toArray, List.getElem_cons_succ, List.getElem_cons_zero]
    refine' wpAnyH_take (i := 13) (v := _) rfl (by kernel_rfl) (by kernel_rfl) (by kernel_rfl) (fun _ _ _ h => h) (Or.inl ⟨by rfl, ?_⟩) hHeld ?_
    rotate_left
    · (intro w hSw; (try dsimp only at hSw); go_simp; (try rw [if_neg (by omega)]); try with_reducible rfl)
    try simp only [Act.put, List.setIfInBounds_toArray, List.set_cons_zero, List.set_cons_succ, List.getElem_toArray, List.getElem_cons_succ, List.getElem_cons_zero]
    refine wpAnyH_ready (rs := [2, 6]) (by kernel_rfl) (by simp) ?_
    refine AllReadyH.cons (o := _) rfl (fun K hK => ?_) (AllReadyH.cons (o := _) rfl (fun K hK => ?_) (AllReadyH.nil))
    · try simp only [List.getElem_toArray, List.getElem_cons_succ, List.getElem_cons_zero]
      have KP := hid (And.intro (Blk.grown hHeld.1 (World.grownBy_alloc w145 (.cells #[.int .u8 1] 5) none)) ((Box.keep (Box.grown (box_box hHeld.2) (World.grownBy_alloc w145 (.cells #[.int .u8 1] 5) none)))))
      have hnew := (⟨Box.size (box_box hHeld.2), at_new w145 _⟩ : (Blk w (w145.heap.size) (.cells #[.int .u8 1] 5)) (w145.alloc (.cells #[.int .u8 1] 5)))
      clear hHeld
      go_simp
      refine hK.out _ _ KP.out (fun hHeld => ?_)
      clear KP hK K
      try dsimp only at hHeld hnew
      generalize w145.alloc (.cells #[.int .u8 1] 5) = w146 at hHeld hnew ⊢
      try simp only [Act.put, List.setIfInBounds_toArray, List.set_cons_zero, List.set_cons_succ, List.getElem_toArray, List.getElem_cons_succ, List.getElem_cons_zero]
      refine held_stronger (S' := fun w' => (Blk w (w145.heap.size) (.cells #[.int .u8 1] 5)) w' ∧ (fun w' => (Blk w (w5.heap.size) (.cells #[.int .u8 2] 5)) w' ∧ (fun w' => w'.cell? ⟨w.heap.size, 0, none⟩ = some (.int .u64 (q k0)) ∧ w'.cell? ⟨w.heap.size, 1, none⟩ = some (.int .u64 (q k1)) ∧ Box w k0 k1 49 49 w') w') w') (fun _ h => h.2) _ _ _ _ ?_
      replace hHeld := And.intro hnew hHeld
      clear hnew
      try dsimp only at hHeld
      refine' wpAnyH_take (i := 3) (v := _) rfl (by kernel_rfl) (by kernel_rfl) (by kernel_rfl) (fun _ _ _ h => h) (Or.inl ⟨by rfl, ?_⟩) hHeld ?_
      rotate_left
      · (intro w hSw; (try dsimp only at hSw); have cv := conv_1 hSw.1.2; go_simp; (try rw [if_neg (by omega)]); try with_reducible rfl)
      try simp only [Act.put, List.setIfInBounds_toArray, List.set_cons_zero, List.set_cons_succ, List.getElem_toArray, List.getElem_cons_succ, List.getElem_cons_zero]
      refine' wpAnyH_take (i := 4) (v := _) rfl (by kernel_rfl) (by kernel_rfl) (by kernel_rfl) (fun _ _ _ h => h) (Or.inl ⟨by rfl, ?_⟩) hHeld ?_
      rotate_left
      · (intro w hSw; (try dsimp only at hSw); go_simp; (try rw [if_neg (by omega)]); try with_reducible rfl)
      try simp only [Act.put, List.setIfInBounds_toArray, List.set_cons_zero, List.set_cons_succ, List.getElem_toArray, List.getElem_cons_succ, List.getElem_cons_zero]
      refine wpAnyH_ready (rs := [6]) (by kernel_rfl) (by simp) ?_
      refine AllReadyH.cons (o := _) rfl (fun K hK => ?_) (AllReadyH.nil)
      try simp only [List.getElem_toArray, List.getElem_cons_succ, List.getElem_cons_zero]
      go_simp
      refine (HP.out _).mono ?_
      rintro e w147 ⟨rfl, hg⟩
      have KP := hid (And.intro (Blk.grown hHeld.1 hg) (And.intro (Blk.grown hHeld.2.1 hg) ((Box.keep (Box.grown (box_box hHeld.2.2) hg)))))
      clear hHeld hg
      go_wp2_with fail
      refine hK.out _ _ KP.out (fun hHeld => ?_)
      clear KP hK K
      try dsimp only at hHeld
      try simp only [Act.put, List.setIfInBounds_toArray, List.set_cons_zero, List.set_cons_succ, List.getElem_toArray, List.getElem_cons_succ, List.getElem_cons_zero]
      refine' wpAnyH_take (i := 7) (v := _) rfl (by kernel_rfl) (by kernel_rfl) (by kernel_rfl) (fun _ _ _ h => h) (Or.inl ⟨by rfl, ?_⟩) hHeld ?_
      rotate_left
      · (intro w hSw; (try dsimp only at hSw); go_simp; (try rw [if_neg (by omega)]); try with_reducible rfl)
      try simp only [Act.put, List.setIfInBounds_toArray, List.set_cons_zero, List.set_cons_succ, List.getElem_toArray, List.getElem_cons_succ, List.getElem_cons_zero]
      refine wpAnyH_ready (rs := [8]) (by kernel_rfl) (by simp) ?_
      refine AllReadyH.cons (o := _) rfl (fun K hK => ?_) (AllReadyH.nil)
      try simp only [List.getElem_toArray, List.getElem_cons_succ, List.getElem_cons_zero]
      go_simp
      refine (C0.out _).mono ?_
      rintro e w148 ⟨rfl, hg⟩
      have KP := hid (And.intro (Blk.grown hHeld.1 hg) (And.intro (Blk.grown hHeld.2.1 hg) ((Box.keep (Box.grown (box_box hHeld.2.2) hg)))))
      clear hHeld hg
      go_wp2_with fail
      refine hK.out _ _ KP.out (fun hHeld => ?_)
      clear KP hK K
      try dsimp only at hHeld
      try simp only [Act.put, List.setIfInBounds_toArray, List.set_cons_zero, List.set_cons_succ, List.getElem_toArray, List.getElem_cons_succ, List.getElem_cons_zero]
      refine wpAnyH_ready (rs := [15]) (by kernel_rfl) (by simp) ?_
      refine AllReadyH.cons (o := _) rfl (fun K hK => ?_) (AllReadyH.nil)
      try simp only [List.getElem_toArray, List.getElem_cons_succ, List.getElem_cons_zero]
      go_simp
      refine (HP.out _).mono ?_
      rintro e w149 ⟨rfl, hg⟩
      have KP := hid (And.intro (Blk.grown hHeld.1 hg) (And.intro (Blk.grown hHeld.2.1 hg) ((Box.keep (Box.grown (box_box hHeld.2.2) hg)))))
      clear hHeld hg
      go_wp2_with fail
      refine hK.out _ _ KP.out (fun hHeld => ?_)
      clear KP hK K
      try dsimp only at hHeld
      try simp only [Act.put, List.setIfInBounds_toArray, List.set_cons_zero, List.set_cons_succ, List.getElem_toArray, List.getElem_cons_succ, List.getElem_cons_zero]
      refine' wpAnyH_take (i := 16) (v := _) rfl (by kernel_rfl) (by kernel_rfl) (by kernel_rfl) (fun _ _ _ h => h) (Or.inl ⟨by rfl, ?_⟩) hHeld ?_
      rotate_left
      · (intro w hSw; (try dsimp only at hSw); go_simp; (try rw [if_neg (by omega)]); try with_reducible rfl)
      try simp only [Act.put, List.setIfInBounds_toArray, List.set_cons_zero, List.set_cons_succ, List.getElem_toArray, List.getElem_cons_succ, List.getElem_cons_zero]
      refine wpAnyH_ready (rs := [17]) (by kernel_rfl) (by simp) ?_
      refine AllReadyH.cons (o := _) rfl (fun K hK => ?_) (AllReadyH.nil)
      try simp only [List.getElem_toArray, List.getElem_cons_succ, List.getElem_cons_zero]
      go_simp
      refine (C1.out _).mono ?_
      rintro e w150 ⟨rfl, hg⟩
      have KP := hid (And.intro (Blk.grown hHeld.1 hg) (And.intro (Blk.grown hHeld.2.1 hg) ((Box.keep (Box.grown (box_box hHeld.2.2) hg)))))
      clear hHeld hg
      go_wp2_with fail
      refine hK.out _ _ KP.out (fun hHeld => ?_)
      clear KP hK K
      try dsimp only at hHeld
      try simp only [Act.put, List.setIfInBounds_toArray, List.set_cons_zero, List.set_cons_succ, List.getElem_toArray, List.getElem_cons_succ, List.getElem_cons_zero]
      refine' wpAnyH_take (i := 18) (v := _) rfl (by kernel_rfl) (by kernel_rfl) (by kernel_rfl) (fun _ _ _ h => h) (Or.inl ⟨by rfl, ?_⟩) hHeld ?_
      rotate_left
      · (intro w hSw; (try dsimp only at hSw); go_simp; (try rw [if_neg (by omega)]); try with_reducible rfl)
      try simp only [Act.put, List.setIfInBounds_toArray, List.set_cons_zero, List.set_cons_succ, List.getElem_toArray, List.getElem_cons_succ, List.getElem_cons_zero]
      refine wpAnyH_ready (rs := [19]) (by kernel_rfl) (by simp) ?_
      refine AllReadyH.cons (o := _) rfl (fun K hK => ?_) (AllReadyH.nil)
      try simp only [List.getElem_toArray, List.getElem_cons_succ, List.getElem_cons_zero]
      have hB := box_box hHeld.2.2
      obtain ⟨x, y, c0, c1, f0, f1⟩ := box_ans hHeld.2.2 (.refl w150 none)
      have KP := hid (And.intro (Blk.set1 (Blk.set0 hHeld.1 (.int .u64 (q a))) (.int .u64 (q b))) (And.intro (Blk.set1 (Blk.set0 hHeld.2.1 (.int .u64 (q a))) (.int .u64 (q b))) ((Box.keep (Box.set1 (Box.set0 (box_box hHeld.2.2) (.int .u64 (q a))) (.int .u64 (q b)))))))
      clear hHeld
      go_simp
      refine hK.out _ _ KP.out (fun hHeld => ?_)
      clear KP hK K
      try simp only [Act.put, List.setIfInBounds_toArray, List.set_cons_zero, List.set_cons_succ, List.getElem_toArray, List.getElem_cons_succ, List.getElem_cons_zero]
      refine wpAnyH_done (by kernel_rfl) ?_ _
      have hst := hB.store (.int .u64 (q a)) (.int .u64 (q b))
      clear hB c0 c1 f0 f1 hHeld
      generalize (w150.setCell ⟨w.heap.size + 1, 0, none⟩ (.int .u64 (q a))).setCell ⟨w.heap.size + 1, 1, none⟩ (.int .u64 (q b)) = wx at hst ⊢
      obtain ⟨d0, d1⟩ := pair_cells hst.1
      go_wp2_with fail
      exact bodyPost_ret (v := pair a b) (by simp [results, Tryz.results51, go_sem, d0, d1]) rfl ⟨rfl, hst.2⟩
    · try simp only [List.getElem_toArray, List.getElem_cons_succ, List.getElem_cons_zero]
      go_simp
      refine (HP.out _).mono ?_
      rintro e w152 ⟨rfl, hg⟩
      have KP := hid (And.intro (Blk.grown hHeld.1 hg) ((Box.keep (Box.grown (box_box hHeld.2) hg))))
      clear hHeld hg
      go_wp2_with fail
      refine hK.out _ _ KP.out (fun hHeld => ?_)
      clear KP hK K
      try dsimp only at hHeld
      try simp only [Act.put, List.setIfInBounds_toArray, List.set_cons_zero, List.set_cons_succ, List.getElem_toArray, List.getElem_cons_succ, List.getElem_cons_zero]
      refine wpAnyH_ready (rs := [2]) (by kernel_rfl) (by simp) ?_
      refine AllReadyH.cons (o := _) rfl (fun K hK => ?_) (AllReadyH.nil)
      try simp only [List.getElem_toArray, List.getElem_cons_succ, List.getElem_cons_zero]
      have KP := hid (And.intro (Blk.grown hHeld.1 (World.grownBy_alloc w152 (.cells #[.int .u8 1] 5) none)) ((Box.keep (Box.grown (box_box hHeld.2) (World.grownBy_alloc w152 (.cells #[.int .u8 1] 5) none)))))
      have hnew := (⟨Box.size (box_box hHeld.2), at_new w152 _⟩ : (Blk w (w152.heap.size) (.cells #[.int .u8 1] 5)) (w152.alloc (.cells #[.int .u8 1] 5)))
      clear hHeld
      go_simp
      refine hK.out _ _ KP.out (fun hHeld => ?_)
      clear KP hK K
      try dsimp only at hHeld hnew
      generalize w152.alloc (.cells #[.int .u8 1] 5) = w153 at hHeld hnew ⊢
      try simp only [Act.put, List.setIfInBounds_toArray, List.set_cons_zero, List.set_cons_succ, List.getElem_toArray, List.getElem_cons_succ, List.getElem_cons_zero]
      refine held_stronger (S' := fun w' => (Blk w (w152.heap.size) (.cells #[.int .u8 1] 5)) w' ∧ (fun w' => (Blk w (w5.heap.size) (.cells #[.int .u8 2] 5)) w' ∧ (fun w' => w'.cell? ⟨w.heap.size, 0, none⟩ = some (.int .u64 (q k0)) ∧ w'.cell? ⟨w.heap.size, 1, none⟩ = some (.int .u64 (q k1)) ∧ Box w k0 k1 49 49 w') w') w') (fun _ h => h.2) _ _ _ _ ?_
      replace hHeld := And.intro hnew hHeld
      clear hnew
      try dsimp only at hHeld
      refine' wpAnyH_take (i := 3) (v := _) rfl (by kernel_rfl) (by kernel_rfl) (by kernel_rfl) (fun _ _ _ h => h) (Or.inl ⟨by rfl, ?_⟩) hHeld ?_
      rotate_left
      · (intro w hSw; (try dsimp only at hSw); have cv := conv_1 hSw.1.2; go_simp; (try rw [if_neg (by omega)]); try with_reducible rfl)
      try simp only [Act.put, List.setIfInBounds_toArray, List.set_cons_zero, List.set_cons_succ, List.getElem_toArray, List.getElem_cons_succ, List.getElem_cons_zero]
      refine' wpAnyH_take (i := 4) (v := _) rfl (by kernel_rfl) (by kernel_rfl) (by kernel_rfl) (fun _ _ _ h => h) (Or.inl ⟨by rfl, ?_⟩) hHeld ?_
      rotate_left
      · (intro w hSw; (try dsimp only at hSw); go_simp; (try rw [if_neg (by omega)]); try with_reducible rfl)
      try simp only [Act.put, List.setIfInBounds_toArray, List.set_cons_zero, List.set_cons_succ, List.getElem_toArray, List.getElem_cons_succ, List.getElem_cons_zero]
      refine' wpAnyH_take (i := 7) (v := _) rfl (by kernel_rfl) (by kernel_rfl) (by kernel_rfl) (fun _ _ _ h => h) (Or.inl ⟨by rfl, ?_⟩) hHeld ?_
      rotate_left
      · (intro w hSw; (try dsimp only at hSw); go_simp; (try rw [if_neg (by omega)]); try with_reducible rfl)
      try simp only [Act.put, List.setIfInBounds_toArray, List.set_cons_zero, List.set_cons_succ, List.getElem_toArray, List.getElem_cons_succ, List.getElem_cons_zero]
      refine wpAnyH_ready (rs := [8]) (by kernel_rfl) (by simp) ?_
      refine AllReadyH.cons (o := _) rfl (fun K hK => ?_) (AllReadyH.nil)
      try simp only [List.getElem_toArray, List.getElem_cons_succ, List.getElem_cons_zero]
      go_simp
      refine (C0.out _).mono ?_
      rintro e w154 ⟨rfl, hg⟩
      have KP := hid (And.intro (Blk.grown hHeld.1 hg) (And.intro (Blk.grown hHeld.2.1 hg) ((Box.keep (Box.grown (box_box hHeld.2.2) hg)))))
      clear hHeld hg
      go_wp2_with fail
      refine hK.out _ _ KP.out (fun hHeld => ?_)
      clear KP hK K
      try dsimp only at hHeld
      try simp only [Act.put, List.setIfInBounds_toArray, List.set_cons_zero, List.set_cons_succ, List.getElem_toArray, List.getElem_cons_succ, List.getElem_cons_zero]
      refine wpAnyH_ready (rs := [15]) (by kernel_rfl) (by simp) ?_
      refine AllReadyH.cons (o := _) rfl (fun K hK => ?_) (AllReadyH.nil)
      try simp only [List.getElem_toArray, List.getElem_cons_succ, List.getElem_cons_zero]
      go_simp
      refine (HP.out _).mono ?_
      rintro e w155 ⟨rfl, hg⟩
      have KP := hid (And.intro (Blk.grown hHeld.1 hg) (And.intro (Blk.grown hHeld.2.1 hg) ((Box.keep (Box.grown (box_box hHeld.2.2) hg)))))
      clear hHeld hg
      go_wp2_with fail
      refine hK.out _ _ KP.out (fun hHeld => ?_)
      clear KP hK K
      try dsimp only at hHeld
      try simp only [Act.put, List.setIfInBounds_toArray, List.set_cons_zero, List.set_cons_succ, List.getElem_toArray, List.getElem_cons_succ, List.getElem_cons_zero]
      refine' wpAnyH_take (i := 16) (v := _) rfl (by kernel_rfl) (by kernel_rfl) (by kernel_rfl) (fun _ _ _ h => h) (Or.inl ⟨by rfl, ?_⟩) hHeld ?_
      rotate_left
      · (intro w hSw; (try dsimp only at hSw); go_simp; (try rw [if_neg (by omega)]); try with_reducible rfl)
      try simp only [Act.put, List.setIfInBounds_toArray, List.set_cons_zero, List.set_cons_succ, List.getElem_toArray, List.getElem_cons_succ, List.getElem_cons_zero]
      refine wpAnyH_ready (rs := [17]) (by kernel_rfl) (by simp) ?_
      refine AllReadyH.cons (o := _) rfl (fun K hK => ?_) (AllReadyH.nil)
      try simp only [List.getElem_toArray, List.getElem_cons_succ, List.getElem_cons_zero]
      go_simp
      refine (C1.out _).mono ?_
      rintro e w156 ⟨rfl, hg⟩
      have KP := hid (And.intro (Blk.grown hHeld.1 hg) (And.intro (Blk.grown hHeld.2.1 hg) ((Box.keep (Box.grown (box_box hHeld.2.2) hg)))))
      clear hHeld hg
      go_wp2_with fail
      refine hK.out _ _ KP.out (fun hHeld => ?_)
      clear KP hK K
      try dsimp only at hHeld
      try simp only [Act.put, List.setIfInBounds_toArray, List.set_cons_zero, List.set_cons_succ, List.getElem_toArray, List.getElem_cons_succ, List.getElem_cons_zero]
      refine' wpAnyH_take (i := 18) (v := _) rfl (by kernel_rfl) (by kernel_rfl) (by kernel_rfl) (fun _ _ _ h => h) (Or.inl ⟨by rfl, ?_⟩) hHeld ?_
      rotate_left
      · (intro w hSw; (try dsimp only at hSw); go_simp; (try rw [if_neg (by omega)]); try with_reducible rfl)
      try simp only [Act.put, List.setIfInBounds_toArray, List.set_cons_zero, List.set_cons_succ, List.getElem_toArray, List.getElem_cons_succ, List.getElem_cons_zero]
      refine wpAnyH_ready (rs := [19]) (by kernel_rfl) (by simp) ?_
      refine AllReadyH.cons (o := _) rfl (fun K hK => ?_) (AllReadyH.nil)
      try simp only [List.getElem_toArray, List.getElem_cons_succ, List.getElem_cons_zero]
      have hB := box_box hHeld.2.2
      obtain ⟨x, y, c0, c1, f0, f1⟩ := box_ans hHeld.2.2 (.refl w156 none)
      have KP := hid (And.intro (Blk.set1 (Blk.set0 hHeld.1 (.int .u64 (q a))) (.int .u64 (q b))) (And.intro (Blk.set1 (Blk.set0 hHeld.2.1 (.int .u64 (q a))) (.int .u64 (q b))) ((Box.keep (Box.set1 (Box.set0 (box_box hHeld.2.2) (.int .u64 (q a))) (.int .u64 (q b)))))))
      clear hHeld
      go_simp
      refine hK.out _ _ KP.out (fun hHeld => ?_)
      clear KP hK K
      try simp only [Act.put, List.setIfInBounds_toArray, List.set_cons_zero, List.set_cons_succ, List.getElem_toArray, List.getElem_cons_succ, List.getElem_cons_zero]
      refine wpAnyH_done (by kernel_rfl) ?_ _
      have hst := hB.store (.int .u64 (q a)) (.int .u64 (q b))
      clear hB c0 c1 f0 f1 hHeld
      generalize (w156.setCell ⟨w.heap.size + 1, 0, none⟩ (.int .u64 (q a))).setCell ⟨w.heap.size + 1, 1, none⟩ (.int .u64 (q b)) = wx at hst ⊢
      obtain ⟨d0, d1⟩ := pair_cells hst.1
      go_wp2_with fail
      exact bodyPost_ret (v := pair a b) (by simp [results, Tryz.results51, go_sem, d0, d1]) rfl ⟨rfl, hst.2⟩
end Go.Proofs.YtfhifnhnkgdnlaaGreat
end
section
set_option linter.unusedSimpArgs false
namespace Go.Proofs.YtfhifnhnkgdnlaaGreat
set_option maxRecDepth 100000
open Go.RowKit

theorem refkey_derive (k : Two64) (s : ByteArray) (hs : s.size ≤ 1000) (n : BitVec 64) (w : World) :
    Calls Tryz.prog 51 #[.agg #[.int .u64 (q k.a), .int .u64 (q k.b)], .string s, .int .u64 (q n)] w fun e w' => e = .returned (.agg #[.int .u64 (q (keyOf k s n).a), .int .u64 (q (keyOf k s n).b)]) ∧ w.grownBy w' none := refderive_any k.a k.b s hs n w

set_option maxHeartbeats 1600000 in
theorem refroot_any (seed : BitVec 64) (w : World) :
    Calls Tryz.prog 52 #[.int .u64 (q seed)] w fun e w' => e = .returned (.agg #[.int .u64 (q (rootOf seed).a), .int .u64 (q (rootOf seed).b)]) ∧ w.grownBy w' none := by
  have hq := q_succ seed
  have hd := refkey_derive ⟨seed, seed + 1⟩ ⟨#[114, 111, 111, 116]⟩ (by decide) 0 (w.alloc (.cells #[.int .u64 0, .int .u64 0] 49))
  change Calls _ _ _ _ (fun e w' => e = .returned (.agg #[.int .u64 (q (rootOf seed).a), .int .u64 (q (rootOf seed).b)]) ∧ _) at hd
  generalize rootOf seed = r at hd ⊢
  have A0 := hid (Ans.new w 49 (.int .u64 0) (.int .u64 0))
  have HD := hid hd; clear hd
  go_enter Tryz.func52, Tryz.ntmps52
  go_wp2_with fail
  refine HD.out.mono ?_
  rintro e w1 ⟨rfl, hg⟩
  have A1 := hid (A0.out.grown hg); clear hg HD
  obtain ⟨x, y, c0, c1, f0, f1⟩ := A1.out.cells
  go_wp2_with fail
  clear c0 c1 f0 f1
  have hst := A1.out.store (.int .u64 (q r.a)) (.int .u64 (q r.b))
  generalize (w1.setCell ⟨w.heap.size, 0, none⟩ (.int .u64 (q r.a))).setCell ⟨w.heap.size, 1, none⟩ (.int .u64 (q r.b)) = wx at hst ⊢
  obtain ⟨r0, r1⟩ := pair_cells hst.1
  exact bodyPost_ret (v := .agg #[.int .u64 (q r.a), .int .u64 (q r.b)]) (by simp [results, Tryz.results52, go_sem, r0, r1]) rfl ⟨rfl, hst.2⟩

set_option maxHeartbeats 1600000 in
theorem refof_any (seed : BitVec 64) (who gen : Int) (w : World) :
    Calls Tryz.prog 17 #[.int .u64 (q seed), .int .i64 who, .int .i64 gen] w fun e w' => e = .returned (.agg #[.int .u64 (q (ofOf seed who gen).a), .int .u64 (q (ofOf seed who gen).b)]) ∧ w.grownBy w' none := by
  have hq1 := wrap_i64 who
  have hq2 := wrap_i64 gen
  have hd := fun w => refroot_any seed w
  unfold ofOf
  generalize rootOf seed = r at hd ⊢
  have hd1 := fun w => refkey_derive r ⟨#[119, 104, 111]⟩ (by decide) (BitVec.ofInt 64 who) w
  generalize keyOf r ⟨#[119, 104, 111]⟩ (BitVec.ofInt 64 who) = k1 at hd1 ⊢
  have hd2 := fun w => refkey_derive k1 ⟨#[103, 101, 110]⟩ (by decide) (BitVec.ofInt 64 gen) w
  generalize keyOf k1 ⟨#[103, 101, 110]⟩ (BitVec.ofInt 64 gen) = k2 at hd2 ⊢
  have HD := hid hd; have HD1 := hid hd1; have HD2 := hid hd2; clear hd hd1 hd2
  have A0 := hid (Ans.new w 49 (.int .u64 0) (.int .u64 0))
  go_enter Tryz.func17, Tryz.ntmps17
  go_wp2_with fail
  refine (HD.out _).mono ?_
  rintro e w1 ⟨rfl, hg⟩
  have A1 := hid (A0.out.grown hg); clear hg
  go_wp2_with fail
  refine (HD1.out _).mono ?_
  rintro e w2 ⟨rfl, hg⟩
  have A2 := hid (A1.out.grown hg); clear hg
  go_wp2_with fail
  refine (HD2.out _).mono ?_
  rintro e w3 ⟨rfl, hg⟩
  have A3 := hid (A2.out.grown hg); clear hg
  obtain ⟨x, y, c0, c1, f0, f1⟩ := A3.out.cells
  go_wp2_with fail
  clear c0 c1 f0 f1
  have hst := A3.out.store (.int .u64 (q k2.a)) (.int .u64 (q k2.b))
  generalize (w3.setCell ⟨w.heap.size, 0, none⟩ (.int .u64 (q k2.a))).setCell ⟨w.heap.size, 1, none⟩ (.int .u64 (q k2.b)) = wx at hst ⊢
  obtain ⟨r0, r1⟩ := pair_cells hst.1
  exact bodyPost_ret (v := .agg #[.int .u64 (q k2.a), .int .u64 (q k2.b)]) (by simp [results, Tryz.results17, go_sem, r0, r1]) rfl ⟨rfl, hst.2⟩
end Go.Proofs.YtfhifnhnkgdnlaaGreat
end
section
set_option linter.unusedSimpArgs false
set_option linter.unusedVariables false
namespace Go.Proofs.YtfhifnhnkgdnlaaGreat
set_option maxRecDepth 100000
open Go.RowKit

theorem gb_drewN {w w1 : World} {r : Option Nat} (h : w.grownBy w1 r) (n : Nat) : w.grownBy (w1.drewN n) r := ⟨h.os, h.tape, h.output, h.size, h.block⟩
structure AnsF (w : World) (b g s : Nat) (r : Rg) (w' : World) : Prop where
  a : Ans w 49 w'
  r : RfAt w' b g s r
theorem AnsF.new {w : World} {b g s : Nat} {r : Rg} (H : RfAt w b g s r) : AnsF w b g s r (w.alloc (.cells #[.int .u64 0, .int .u64 0] 49)) := ⟨.new w _ _ _, H.grown (World.grownBy_alloc w _ none)⟩
theorem AnsF.grown {w w1 w2 : World} {b g s : Nat} {r : Rg} (A : AnsF w b g s r w1) (hg : w1.grownBy w2 none) : AnsF w b g s r w2 := ⟨A.a.grown hg, A.r.grown hg⟩
theorem AnsF.drewN {w w1 : World} {b g s : Nat} {r : Rg} (A : AnsF w b g s r w1) (n : Nat) : AnsF w b g s r (w1.drewN n) := ⟨⟨A.a.ans, gb_drewN A.a.g n⟩, ⟨A.r.top, A.r.gens, A.r.sinces, A.r.bg, A.r.bs, A.r.gs, A.r.ok⟩⟩

set_option maxHeartbeats 3200000 in
theorem fkey_now {b g s : Nat} {r : Rg} (i : Nat) (now : Int) (w : World) (H : RfAt w b g s r) (hi : i < r.n) :
    Calls Tryz.prog 100 #[.pointer (some ⟨b, 0, none⟩), .int .i64 (i : Int), .int .i64 (r.gen i), .int .i64 now] w fun e w' => e = .returned (.tuple #[.agg #[.int .u64 (q (ofOf r.seed i (r.gen i)).a), .int .u64 (q (ofOf r.seed i (r.gen i)).b)], .int .i64 0]) ∧ w.grownBy w' none := by
  have A0 := hid (AnsF.new H)
  have hok := H.ok
  clear H
  have HO := hid (fun w => refof_any r.seed (i : Int) (r.gen i) w)
  generalize ofOf r.seed i (r.gen i) = k at HO ⊢
  have hC := fun w' (A : AnsF w b g s r w') => A.r.cells hi
  have hT := fun w' (A : AnsF w b g s r w') => A.r.tops
  have n2 := hok.n2
  have i0 : (0 : Int) ≤ (i : Int) := by omega
  have e1 : decide ((i : Int) < 0) = false := by simp
  have e2 : decide (r.n ≤ i) = false := by simp; omega
  have i1 : (i : Int) < (r.n : Int) := by omega
  have q0 := hok.e0 i; have q1 := hok.e1 i; have q2 := hok.s0 i; have q3 := hok.s1 i; have q4 := hok.g1; have q5 := hok.g2
  clear hok
  generalize r.gen i = x at *
  generalize r.since i = y at *
  generalize r.grace = gr at *
  generalize r.n = n at *
  generalize r.seed = sd at *
  have HC := hid hC; have HT := hid hT; clear hC hT
  have d0 : decide (0 ≤ x) = true := by simpa using q0
  go_enter Tryz.func100, Tryz.ntmps100
  go_upto_region 1 with fail
  refine wp_gen (fun wx => AnsF w b g s r wx) A0.out ?_
  clear A0
  intro w1 hA
  obtain ⟨t0, t1, t2, t3⟩ := HT.out _ hA
  obtain ⟨c0, c1, f0, f1⟩ := HC.out _ hA
  have A1 := hid hA; clear hA
  go_wp2_with fail
  go_quiet (fail)
  go_wp2_with fail
  refine (HO.out _).mono ?_
  rintro e w3 ⟨rfl, hg⟩
  have A3 := hid ((A1.out.drewN _).grown hg); clear hg A1 c0 c1 f0 f1 t0 t1 t2 t3
  obtain ⟨x9, y9, c0, c1, f0, f1⟩ := A3.out.a.cells
  go_wp2_with fail
  clear c0 c1 f0 f1
  have hst := A3.out.a.store (.int .u64 (q k.a)) (.int .u64 (q k.b))
  generalize (w3.setCell ⟨w.heap.size, 0, none⟩ (.int .u64 (q k.a))).setCell ⟨w.heap.size, 1, none⟩ (.int .u64 (q k.b)) = wx at hst ⊢
  have r0 : wx.cell? ⟨w.heap.size, 0, none⟩ = some (.int .u64 (q k.a)) := at_cell hst.1 0
  have r1 : wx.cell? ⟨w.heap.size, 1, none⟩ = some (.int .u64 (q k.b)) := at_cell hst.1 1
  exact bodyPost_ret (v := .tuple #[.agg #[.int .u64 (q k.a), .int .u64 (q k.b)], .int .i64 0]) (by simp [results, Tryz.results100, go_sem, r0, r1]) rfl ⟨rfl, hst.2⟩

set_option maxHeartbeats 3200000 in
theorem fkey_old {b g s : Nat} {r : Rg} (i : Nat) (now : Int) (w : World) (H : RfAt w b g s r) (hi : i < r.n) (hg1 : 1 ≤ r.gen i) (hnow : now < r.since i + (r.grace : Int)) :
    Calls Tryz.prog 100 #[.pointer (some ⟨b, 0, none⟩), .int .i64 (i : Int), .int .i64 (r.gen i - 1), .int .i64 now] w fun e w' => e = .returned (.tuple #[.agg #[.int .u64 (q (ofOf r.seed i (r.gen i - 1)).a), .int .u64 (q (ofOf r.seed i (r.gen i - 1)).b)], .int .i64 0]) ∧ w.grownBy w' none := by
  have A0 := hid (AnsF.new H)
  have hok := H.ok
  clear H
  have HO := hid (fun w => refof_any r.seed (i : Int) (r.gen i - 1) w)
  generalize ofOf r.seed i (r.gen i - 1) = k at HO ⊢
  have hC := fun w' (A : AnsF w b g s r w') => A.r.cells hi
  have hT := fun w' (A : AnsF w b g s r w') => A.r.tops
  have n2 := hok.n2
  have i0 : (0 : Int) ≤ (i : Int) := by omega
  have e1 : decide ((i : Int) < 0) = false := by simp
  have e2 : decide (r.n ≤ i) = false := by simp; omega
  have i1 : (i : Int) < (r.n : Int) := by omega
  have q0 := hok.e0 i; have q1 := hok.e1 i; have q2 := hok.s0 i; have q3 := hok.s1 i; have q4 := hok.g1; have q5 := hok.g2
  clear hok
  generalize r.gen i = x at *
  generalize r.since i = y at *
  generalize r.grace = gr at *
  generalize r.n = n at *
  generalize r.seed = sd at *
  have HC := hid hC; have HT := hid hT; clear hC hT
  have d0 : decide (0 ≤ x - 1) = true := by simp; omega
  have d1 : (x - 1 == x) = false := by simp; omega
  have d2 : decide (now < y + (gr : Int)) = true := by simpa using hnow
  go_enter Tryz.func100, Tryz.ntmps100
  go_upto_region 1 with fail
  refine wp_gen (fun wx => AnsF w b g s r wx) A0.out ?_
  clear A0
  intro w1 hA
  obtain ⟨t0, t1, t2, t3⟩ := HT.out _ hA
  obtain ⟨c0, c1, f0, f1⟩ := HC.out _ hA
  have A1 := hid hA; clear hA
  go_wp2_with fail
  go_quiet (fail)
  go_wp2_with fail
  refine (HO.out _).mono ?_
  rintro e w3 ⟨rfl, hg⟩
  have A3 := hid ((A1.out.drewN _).grown hg); clear hg A1 c0 c1 f0 f1 t0 t1 t2 t3
  obtain ⟨x9, y9, c0, c1, f0, f1⟩ := A3.out.a.cells
  go_wp2_with fail
  clear c0 c1 f0 f1
  have hst := A3.out.a.store (.int .u64 (q k.a)) (.int .u64 (q k.b))
  generalize (w3.setCell ⟨w.heap.size, 0, none⟩ (.int .u64 (q k.a))).setCell ⟨w.heap.size, 1, none⟩ (.int .u64 (q k.b)) = wx at hst ⊢
  have r0 : wx.cell? ⟨w.heap.size, 0, none⟩ = some (.int .u64 (q k.a)) := at_cell hst.1 0
  have r1 : wx.cell? ⟨w.heap.size, 1, none⟩ = some (.int .u64 (q k.b)) := at_cell hst.1 1
  exact bodyPost_ret (v := .tuple #[.agg #[.int .u64 (q k.a), .int .u64 (q k.b)], .int .i64 0]) (by simp [results, Tryz.results100, go_sem, r0, r1]) rfl ⟨rfl, hst.2⟩

set_option maxHeartbeats 3200000 in
theorem fkey_gen {b g s : Nat} {r : Rg} (i : Nat) (gen : Int) (now : Int) (w : World) (H : RfAt w b g s r) (hi : i < r.n) (hk : ¬ r.keyIs i gen now) :
    Calls Tryz.prog 100 #[.pointer (some ⟨b, 0, none⟩), .int .i64 (i : Int), .int .i64 gen, .int .i64 now] w fun e w' => e = .returned (.tuple #[.agg #[.int .u64 0, .int .u64 0], .int .i64 4]) ∧ w.grownBy w' none := by
  have A0 := hid (AnsF.new H)
  have hok := H.ok
  clear H
  unfold Rg.keyIs at hk
  have hC := fun w' (A : AnsF w b g s r w') => A.r.cells hi
  have hT := fun w' (A : AnsF w b g s r w') => A.r.tops
  have n2 := hok.n2
  have i0 : (0 : Int) ≤ (i : Int) := by omega
  have e1 : decide ((i : Int) < 0) = false := by simp
  have e2 : decide (r.n ≤ i) = false := by simp; omega
  have i1 : (i : Int) < (r.n : Int) := by omega
  have q0 := hok.e0 i; have q1 := hok.e1 i; have q2 := hok.s0 i; have q3 := hok.s1 i; have q4 := hok.g1; have q5 := hok.g2
  clear hok
  generalize r.gen i = x at *
  generalize r.since i = y at *
  generalize r.grace = gr at *
  generalize r.n = n at *
  generalize r.seed = sd at *
  have HC := hid hC; have HT := hid hT; clear hC hT
  by_cases h0 : gen < 0
  · have d0 : decide (0 ≤ gen) = false := by simp; omega
    clear hk
    go_enter Tryz.func100, Tryz.ntmps100
    go_upto_region 1 with fail
    refine wp_gen (fun wx => AnsF w b g s r wx) A0.out ?_
    clear A0
    intro w1 hA
    obtain ⟨t0, t1, t2, t3⟩ := HT.out _ hA
    obtain ⟨c0, c1, f0, f1⟩ := HC.out _ hA
    have A1 := hid hA; clear hA
    go_wp2_with fail
    go_quiet (fail)
    have A3 := hid (A1.out.drewN nq); clear A1 c0 c1 f0 f1 t0 t1 t2 t3
    generalize w1.drewN nq = w3 at *
    obtain ⟨x9, y9, c0, c1, f0, f1⟩ := A3.out.a.cells
    go_wp2_with fail
    clear c0 c1 f0 f1
    have hst := A3.out.a.store (.int .u64 0) (.int .u64 0)
    generalize (w3.setCell ⟨w.heap.size, 0, none⟩ (.int .u64 0)).setCell ⟨w.heap.size, 1, none⟩ (.int .u64 0) = wx at hst ⊢
    have r0 : wx.cell? ⟨w.heap.size, 0, none⟩ = some (.int .u64 0) := at_cell hst.1 0
    have r1 : wx.cell? ⟨w.heap.size, 1, none⟩ = some (.int .u64 0) := at_cell hst.1 1
    exact bodyPost_ret (v := .tuple #[.agg #[.int .u64 0, .int .u64 0], .int .i64 4]) (by simp [results, Tryz.results100, go_sem, r0, r1]) rfl ⟨rfl, hst.2⟩
  have d0 : decide (0 ≤ gen) = true := by simp; omega
  have d1 : (gen == x) = false := by simp; omega
  by_cases h1 : gen = x - 1
  · have d2 : decide (now < y + (gr : Int)) = false := by simp; omega
    have g1 : 1 ≤ x := by omega
    subst h1
    clear hk h0
    go_enter Tryz.func100, Tryz.ntmps100
    go_upto_region 1 with fail
    refine wp_gen (fun wx => AnsF w b g s r wx) A0.out ?_
    clear A0
    intro w1 hA
    obtain ⟨t0, t1, t2, t3⟩ := HT.out _ hA
    obtain ⟨c0, c1, f0, f1⟩ := HC.out _ hA
    have A1 := hid hA; clear hA
    go_wp2_with fail
    go_quiet (fail)
    have A3 := hid (A1.out.drewN nq); clear A1 c0 c1 f0 f1 t0 t1 t2 t3
    generalize w1.drewN nq = w3 at *
    obtain ⟨x9, y9, c0, c1, f0, f1⟩ := A3.out.a.cells
    go_wp2_with fail
    clear c0 c1 f0 f1
    have hst := A3.out.a.store (.int .u64 0) (.int .u64 0)
    generalize (w3.setCell ⟨w.heap.size, 0, none⟩ (.int .u64 0)).setCell ⟨w.heap.size, 1, none⟩ (.int .u64 0) = wx at hst ⊢
    have r0 : wx.cell? ⟨w.heap.size, 0, none⟩ = some (.int .u64 0) := at_cell hst.1 0
    have r1 : wx.cell? ⟨w.heap.size, 1, none⟩ = some (.int .u64 0) := at_cell hst.1 1
    exact bodyPost_ret (v := .tuple #[.agg #[.int .u64 0, .int .u64 0], .int .i64 4]) (by simp [results, Tryz.results100, go_sem, r0, r1]) rfl ⟨rfl, hst.2⟩
  · have d2 : (gen == x - 1) = false := by simp; omega
    clear hk
    go_enter Tryz.func100, Tryz.ntmps100
    go_upto_region 1 with fail
    refine wp_gen (fun wx => AnsF w b g s r wx) A0.out ?_
    clear A0
    intro w1 hA
    obtain ⟨t0, t1, t2, t3⟩ := HT.out _ hA
    obtain ⟨c0, c1, f0, f1⟩ := HC.out _ hA
    have A1 := hid hA; clear hA
    go_wp2_with fail
    go_quiet (fail)
    have A3 := hid (A1.out.drewN nq); clear A1 c0 c1 f0 f1 t0 t1 t2 t3
    generalize w1.drewN nq = w3 at *
    obtain ⟨x9, y9, c0, c1, f0, f1⟩ := A3.out.a.cells
    go_wp2_with fail
    clear c0 c1 f0 f1
    have hst := A3.out.a.store (.int .u64 0) (.int .u64 0)
    generalize (w3.setCell ⟨w.heap.size, 0, none⟩ (.int .u64 0)).setCell ⟨w.heap.size, 1, none⟩ (.int .u64 0) = wx at hst ⊢
    have r0 : wx.cell? ⟨w.heap.size, 0, none⟩ = some (.int .u64 0) := at_cell hst.1 0
    have r1 : wx.cell? ⟨w.heap.size, 1, none⟩ = some (.int .u64 0) := at_cell hst.1 1
    exact bodyPost_ret (v := .tuple #[.agg #[.int .u64 0, .int .u64 0], .int .i64 4]) (by simp [results, Tryz.results100, go_sem, r0, r1]) rfl ⟨rfl, hst.2⟩

set_option maxHeartbeats 1600000 in
theorem fkey_who {b g s : Nat} {r : Rg} (x gen now : Int) (w : World) (H : RfAt w b g s r) (hx : x < 0 ∨ (r.n : Int) ≤ x) :
    Calls Tryz.prog 100 #[.pointer (some ⟨b, 0, none⟩), .int .i64 x, .int .i64 gen, .int .i64 now] w fun e w' => e = .returned (.tuple #[.agg #[.int .u64 0, .int .u64 0], .int .i64 3]) ∧ w.grownBy w' none := by
  have A0 := hid (AnsF.new H)
  have hT := fun w' (A : AnsF w b g s r w') => A.r.tops
  clear H
  generalize r.n = n at *
  have HT := hid hT; clear hT
  by_cases h : x < 0
  · have e1 : decide (x < 0) = true := by simpa using h
    clear hx
    go_enter Tryz.func100, Tryz.ntmps100
    go_upto_region 1 with fail
    refine wp_gen (fun wx => AnsF w b g s r wx) A0.out ?_
    clear A0
    intro w1 hA
    obtain ⟨t0, t1, t2, t3⟩ := HT.out _ hA
    have A3 := hid hA; clear hA t0 t1 t2 t3
    generalize w1 = w3 at *
    obtain ⟨x9, y9, c0, c1, f0, f1⟩ := A3.out.a.cells
    go_wp2_with fail
    clear c0 c1 f0 f1
    have hst := A3.out.a.store (.int .u64 0) (.int .u64 0)
    generalize (w3.setCell ⟨w.heap.size, 0, none⟩ (.int .u64 0)).setCell ⟨w.heap.size, 1, none⟩ (.int .u64 0) = wx at hst ⊢
    have r0 : wx.cell? ⟨w.heap.size, 0, none⟩ = some (.int .u64 0) := at_cell hst.1 0
    have r1 : wx.cell? ⟨w.heap.size, 1, none⟩ = some (.int .u64 0) := at_cell hst.1 1
    exact bodyPost_ret (v := .tuple #[.agg #[.int .u64 0, .int .u64 0], .int .i64 3]) (by simp [results, Tryz.results100, go_sem, r0, r1]) rfl ⟨rfl, hst.2⟩
  · have e1 : decide (x < 0) = false := by simpa using h
    have e2 : decide ((n : Int) ≤ x) = true := by simp; omega
    clear hx
    go_enter Tryz.func100, Tryz.ntmps100
    go_upto_region 1 with fail
    refine wp_gen (fun wx => AnsF w b g s r wx) A0.out ?_
    clear A0
    intro w1 hA
    obtain ⟨t0, t1, t2, t3⟩ := HT.out _ hA
    have A3 := hid hA; clear hA
    obtain ⟨x9, y9, c0, c1, f0, f1⟩ := A3.out.a.cells
    go_wp2_with fail
    clear c0 c1 f0 f1 t0 t1 t2 t3
    have hst := A3.out.a.store (.int .u64 0) (.int .u64 0)
    generalize (w1.setCell ⟨w.heap.size, 0, none⟩ (.int .u64 0)).setCell ⟨w.heap.size, 1, none⟩ (.int .u64 0) = wx at hst ⊢
    have r0 : wx.cell? ⟨w.heap.size, 0, none⟩ = some (.int .u64 0) := at_cell hst.1 0
    have r1 : wx.cell? ⟨w.heap.size, 1, none⟩ = some (.int .u64 0) := at_cell hst.1 1
    exact bodyPost_ret (v := .tuple #[.agg #[.int .u64 0, .int .u64 0], .int .i64 3]) (by simp [results, Tryz.results100, go_sem, r0, r1]) rfl ⟨rfl, hst.2⟩

theorem fkey_any {b g s : Nat} {r : Rg} (who gen now : Int) (w : World) (H : RfAt w b g s r) :
    Calls Tryz.prog 100 #[.pointer (some ⟨b, 0, none⟩), .int .i64 who, .int .i64 gen, .int .i64 now] w fun e w' => e = .returned (keyVal (r.key who gen now)) ∧ w.grownBy w' none := by
  by_cases h0 : 0 ≤ who ∧ who < (r.n : Int)
  · obtain ⟨i, rfl⟩ := Int.eq_ofNat_of_zero_le h0.1
    have hi : i < r.n := by have := h0.2; omega
    by_cases hk : r.keyIs i gen now
    · rw [show r.key (i : Int) gen now = (ofOf r.seed i gen, 0) by unfold Rg.key; rw [if_pos h0, Int.toNat_natCast, if_pos hk]]
      obtain ⟨k0, rfl | ⟨rfl, hn⟩⟩ := hk
      · exact fkey_now i now w H hi
      · exact fkey_old i now w H hi (by omega) hn
    · rw [show r.key (i : Int) gen now = (⟨0, 0⟩, 4) by unfold Rg.key; rw [if_pos h0, Int.toNat_natCast, if_neg hk]]
      exact fkey_gen i gen now w H hi hk
  · rw [show r.key who gen now = (⟨0, 0⟩, 3) by unfold Rg.key; rw [if_neg h0]]
    exact fkey_who who gen now w H (by omega)
end Go.Proofs.YtfhifnhnkgdnlaaGreat
end
section
set_option linter.unusedSimpArgs false
set_option linter.unusedVariables false
namespace Go.Proofs.YtfhifnhnkgdnlaaGreat
set_option maxRecDepth 100000
open Go.RowKit

theorem lowest_int (x : Int) (h : 0 ≤ x) (w : World) :
    Calls Tryz.prog 104 #[.int .i64 x] w fun e w' => e = .returned (.int .u64 (q (low x.toNat))) ∧ w = w' := by
  obtain ⟨k, rfl⟩ := Int.eq_ofNat_of_zero_le h
  exact lowest_any k w
theorem q_andnot (x y : BitVec 64) : bits .andNot .u64 (q x) (q y) = q (x &&& ~~~y) := by
  show IntKind.u64.wrap ((BitVec.ofInt 64 (q x) &&& ~~~BitVec.ofInt 64 (q y)).toNat : Int) = _
  rw [q_ofInt, q_ofInt]; exact wrap_toNat _
theorem and_one_bit (x : BitVec 64) : (x &&& 1#64 = 0#64) ↔ x.getLsbD 0 = false := by
  have := shr_bit x 0
  simpa using this
end Go.Proofs.YtfhifnhnkgdnlaaGreat
end
section
set_option linter.unusedSimpArgs false
namespace Go.Proofs.YtfhifnhnkgdnlaaGreat
set_option maxRecDepth 100000
open Go.RowKit

def iv (n : Int) : Value := .int .i64 n
def OwnI (base : Nat) (w : World) (v : Value) (l : List Int) : Prop := w.ownsRow base 2 1 v l.length (l.map iv)
/-- the block of a slice of the call's own -/
def ownL (v : Value) : List Nat := v.ownBlock.toList
theorem OwnI.form {base : Nat} {w : World} {v : Value} {l : List Int} (h : OwnI base w v l) : ∃ p c, v = .slice p l.length c := by
  obtain ⟨_, h | ⟨g, cap, cur, rfl, _⟩⟩ := h
  · exact ⟨none, 0, by rw [h.1, h.2]⟩
  · exact ⟨_, _, rfl⟩
theorem OwnI.at {base : Nat} {w : World} {v : Value} {l : List Int} (h : OwnI base w v l) : ∀ g, g ∈ ownL v → base ≤ g ∧ g < w.heap.size := by
  intro g hg
  obtain ⟨_, h | ⟨g', cap, cur, rfl, hb, hh, _⟩⟩ := h
  · rw [h.1] at hg; simp [ownL, Value.ownBlock] at hg
  · simp [ownL, Value.ownBlock] at hg
    subst hg
    exact ⟨hb, at_lt hh⟩
theorem OwnI.cells {base : Nat} {w : World} {v : Value} {l : List Int} (h : OwnI base w v l) {i : Nat} (hi : i < l.length) :
    ∃ g c, v = .slice (some ⟨g, 0, none⟩) l.length c ∧ l.length ≤ c ∧ ∀ j, (h : j < l.length) → w.cell? ⟨g, j, none⟩ = some (.int .i64 l[j]) := by
  obtain ⟨_, h | ⟨g, cap, cur, rfl, _, hh, h1, h2, h3, h4⟩⟩ := h
  · exact absurd hi (by rw [h.2]; simp)
  · refine ⟨g, cap, rfl, h1, fun j hj => ?_⟩
    rw [at_cell hh j]
    have hc : cur.toList[j]? = (l.map iv)[j]? := by
      rw [← h4, Nat.mul_one, List.getElem?_take]; simp [hj]
    rw [← Array.getElem?_toList, hc]
    simp [List.getElem?_map, List.getElem?_eq_getElem hj, iv]
theorem OwnI.chg {base : Nat} {w w1 : World} {F : List Nat} {v : Value} {l : List Int} (h : OwnI base w v l) (hg : Chg F w w1) (hr : ∀ g, g ∈ ownL v → g ∉ F) : OwnI base w1 v l := by
  obtain ⟨h0, h | ⟨g, cap, cur, rfl, hb, hh, h1⟩⟩ := h
  · exact ⟨h0, .inl h⟩
  · exact ⟨h0, .inr ⟨g, cap, cur, rfl, hb, hg.at hh (hr g (by simp [ownL, Value.ownBlock])), h1⟩⟩
theorem OwnI.nil (base : Nat) (w : World) : OwnI base w (.slice none 0 0) [] := ⟨rfl, .inl ⟨rfl, rfl⟩⟩
theorem OwnI.le {base base' : Nat} {w : World} {v : Value} {l : List Int} (h : OwnI base w v l) (hb : base' ≤ base) : OwnI base' w v l := by
  obtain ⟨h0, h | ⟨g, cap, cur, rfl, hb', h1⟩⟩ := h
  · exact ⟨h0, .inl h⟩
  · exact ⟨h0, .inr ⟨g, cap, cur, rfl, Nat.le_trans hb hb', h1⟩⟩
theorem info_i64 : (Tryz.prog.info? 2).map (fun i => (i.zero, i.size, i.bytes)) = some (some (.int .i64 0), 1, 8) := by kernel_rfl
/-- append of one number to a slice of the call's own -/
theorem append_int {w : World} {ops : Array Oper} {rest : List Oper} {o : Oper} {a : Act} {Q : Exit → Act → World → Prop} (hgd : o.guard = none) (s x : Operand)
    (ho : o.op = .call { callee := .builtin .append, args := #[s, x], argTypes := #[60, 60] })
    (base : Nat) (v : Value) (l : List Int) (hs : a.eval s = v) (hown : OwnI base w v l) (g : Nat) (n : Int) (hx : a.eval x = .slice (some ⟨g, 0, none⟩) 1 1) (hr : w.cell? ⟨g, 0, none⟩ = some (.int .i64 n))
    (hlen : l.length + 1 ≤ 1000000) (hbase : base ≤ w.heap.size)
    (h : ∀ v' w', OwnI base w' v' (l ++ [n]) → w.grownBy w' v.ownBlock → (v'.ownBlock = v.ownBlock ∨ v'.ownBlock = some w.heap.size) → wpList Tryz.prog ops Q rest (a.put o.dst v') w') : wpList Tryz.prog ops Q (o :: rest) a w := by
  obtain ⟨i, hi, hz0, hz1, hz2⟩ := info_parts info_i64
  refine wpList_append_own_at w hgd s x 60 ho base 2 i (.int .i64 0) 1 8 Tryz.underlying60 hi hz0 hz1 hz2 rfl (by omega) v l.length (l.map iv) hs hown ⟨g, 0, none⟩ 1 1 [iv n] hx (by simp)
    (fun j y hj => by
      cases j with
      | zero => cases hj; exact hr
      | succ j => cases hj)
    (fun y hy => by simp at hy; subst hy; rfl)
    (by unfold maxLen; omega) (by omega) hbase ?_
  intro v' w' h1 h2 _ h3
  refine h v' w' ?_ h2 h3
  unfold OwnI
  rw [List.length_append, List.map_append]
  exact h1
end Go.Proofs.YtfhifnhnkgdnlaaGreat
end
