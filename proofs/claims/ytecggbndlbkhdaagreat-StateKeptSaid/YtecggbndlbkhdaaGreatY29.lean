/-
  All that is known, where it lies: the program's state in its blocks: its parts apart from one another. No condition.
  Contracts for package state: whether it was made, the epoch, how many replicas, who is out; of nil too. The condition: the state lies there.
  Contracts: a score that is asked who is out by the gate; the state's check. The condition: the state lies there, the bytes read as bytes.
  Contracts for package state: the sample of a message, whether there is room, the check. The condition: the state lies there, the bytes read as bytes.
-/
import Derived.Test.YtecggbndlbkhdaaGreatY26
import Derived.Test.YtecggbndlbkhdaaGreatY28
import Derived.Test.YtecggbndlbkhdaaGreatY24
import Derived.Test.YtecggbndlbkhdaaGreatY19
import Derived.Test.YtecggbndlbkhdaaGreatY13
import Derived.Test.YtecggbndlbkhdaaGreatY10
import Derived.Test.YtecggbndlbkhdaaGreatY4
import Derived.Test.YtecggbndlbkhdaaGreatY6
import Derived.Deep.RegionHeld3
section
set_option linter.unusedSimpArgs false
set_option linter.unusedVariables false
namespace Go.Proofs.YtecggbndlbkhdaaGreat
set_option maxRecDepth 100000
open Go.RowKit

/-- the state's blocks: its own, the gate's, the table's, the score's, the law's, the decisions; which part a block belongs to -/
structure SBl where
  b : Nat
  g : GBl
  F : List Nat
  t : Nat
  tm : Nat
  s : Nat
  sh : Nat
  l : LBl
  d : Value
  o : Nat → Nat
def SBl.all (X : SBl) : List Nat := X.b :: X.t :: X.tm :: X.s :: X.sh :: (X.F ++ X.l.F ++ X.d.ownBlock.toList)
@[reducible] def suCells (c : Conf) (now : Int) (X : SBl) : Array Value := #[.int .i64 c.n, .int .i64 c.f, .int .i64 c.m, .int .i64 c.quorum, .int .i64 c.fresh, .int .i64 c.grace, .int .i64 c.window, .int .i64 c.t0, .int .i64 c.t1, .int .i64 c.t2, .int .i64 c.t3, .int .i64 c.tol, .int .i64 c.min, .int .i64 c.max, .int .i64 c.calmup, .int .i64 c.calmdown, .int .i64 c.podsup, .int .i64 c.pctup, .int .i64 c.podsdown, .int .i64 c.pctdown, .int .i64 c.period, .int .i64 c.far, .int .i64 c.strikes, .int .i64 c.probe, .int .i64 c.sectors, .int .u64 c.seed, .int .i64 now, .pointer (some ⟨X.g.g, 0, none⟩), .pointer (some ⟨X.t, 0, none⟩), .pointer (some ⟨X.s, 0, none⟩), .pointer (some ⟨X.l.b, 0, none⟩), X.d]
structure StAt (w : World) (X : SBl) (c : Conf) (s : Ste) : Prop where
  row : w.heap[X.b]? = some (.cells (suCells c s.now X) 132)
  gate : GtAt w X.F X.g s.g
  table : TbAt c.n c.m c.fresh s.t X.t X.tm w
  score : ScAt s.s X.s X.sh w
  law : LaAt w X.l s.l
  decs : OwnD 0 w X.d s.ds
  ob : X.o X.b = 0
  og : ∀ x ∈ X.F, X.o x = 1
  ot : X.o X.t = 2 ∧ X.o X.tm = 2
  os : X.o X.s = 3 ∧ X.o X.sh = 3
  ol : ∀ x ∈ X.l.F, X.o x = 4
  od : ∀ x, X.d.ownBlock = some x → X.o x = 5
/-- a configuration that may be, and the state that nothing was done to of it: with what makes its parts -/
structure SuOf (c : Conf) (s0 : Ste) : Prop where
  may : st22 c = none
  base : Ste.Base s0
  tie : Ste.Tie s0
  zero : s0.now = 0 ∧ s0.t = [] ∧ s0.ds = []
  gn : ∀ w, Calls Tryz.prog 57 #[cf c] w (MadeG w s0.g)
  ln : ∀ w, Calls Tryz.prog 60 #[cf c, .int .i64 c.min] w (LaMade w s0.l)
  tn : MayNew c.n c.m c.fresh
  sn : ∃ n : Nat, c.n = (n : Int) ∧ MaySc n c.strikes c.probe c.far ∧ s0.s = newS n c.strikes c.probe c.far
  n : c.n = (s0.p.n : Int)
  m : c.m = s0.p.m
  f : c.f = s0.p.f
  q : c.quorum = s0.p.q
  fr : c.fresh = s0.p.fr
  f2 : 0 ≤ c.f ∧ 2 * c.f + 1 ≤ c.quorum ∧ c.quorum ≤ c.n
section
variable {w w' : World} {X : SBl} {c : Conf} {s s0 : Ste} {H : List Nat}
theorem SBl.mb (X : SBl) : X.b ∈ X.all := by simp [SBl.all]
theorem SBl.mt (X : SBl) : X.t ∈ X.all ∧ X.tm ∈ X.all ∧ X.s ∈ X.all ∧ X.sh ∈ X.all := by simp [SBl.all]
theorem SBl.mF (X : SBl) {x : Nat} (h : x ∈ X.F) : x ∈ X.all := by simp [SBl.all, h]
theorem SBl.ml (X : SBl) {x : Nat} (h : x ∈ X.l.F) : x ∈ X.all := by
  unfold SBl.all
  exact List.mem_cons_of_mem _ (List.mem_cons_of_mem _ (List.mem_cons_of_mem _ (List.mem_cons_of_mem _ (List.mem_cons_of_mem _ (List.mem_append_left _ (List.mem_append_right _ h))))))
theorem SBl.md (X : SBl) {x : Nat} (h : X.d.ownBlock = some x) : x ∈ X.all := by simp [SBl.all, h]
theorem SBl.cases (X : SBl) {x : Nat} (h : x ∈ X.all) : x = X.b ∨ x = X.t ∨ x = X.tm ∨ x = X.s ∨ x = X.sh ∨ x ∈ X.F ∨ x ∈ X.l.F ∨ X.d.ownBlock = some x := by
  unfold SBl.all at h
  simp only [List.mem_cons, List.mem_append, Option.mem_toList, Option.mem_def] at h
  rcases h with h | h | h | h | h | (h | h) | h
  · exact .inl h
  · exact .inr (.inl h)
  · exact .inr (.inr (.inl h))
  · exact .inr (.inr (.inr (.inl h)))
  · exact .inr (.inr (.inr (.inr (.inl h))))
  · exact .inr (.inr (.inr (.inr (.inr (.inl h)))))
  · exact .inr (.inr (.inr (.inr (.inr (.inr (.inl (by simpa using h)))))))
  · exact .inr (.inr (.inr (.inr (.inr (.inr (.inr h))))))
theorem StAt.lt (h : StAt w X c s) : ∀ x ∈ X.all, x < w.heap.size := fun x hx => by
  rcases X.cases hx with rfl | rfl | rfl | rfl | rfl | h1 | h1 | h1
  · exact at_lt h.row
  · exact h.table.lt.1
  · exact h.table.lt.2
  · exact h.score.lt.1
  · exact h.score.lt.2
  · exact h.gate.lt x h1
  · exact h.law.lts x h1
  · exact (h.decs.lt x h1).2
theorem StAt.chg (h : StAt w X c s) (hc : Chg H w w') (hd : ∀ x ∈ X.all, x ∉ H) : StAt w' X c s :=
  ⟨hc.at h.row (hd _ X.mb), h.gate.chg hc fun x hx => hd x (X.mF hx), h.table.chg hc (hd _ X.mt.1) (hd _ X.mt.2.1), h.score.chg hc (hd _ X.mt.2.2.1) (hd _ X.mt.2.2.2), h.law.chg hc fun x hx => hd x (X.ml hx), h.decs.chg hc fun g hg => hd g (X.md hg),
    h.ob, h.og, h.ot, h.os, h.ol, h.od⟩
theorem StAt.grown (h : StAt w X c s) (hg : w.grownBy w' none) : StAt w' X c s := h.chg (chg_grown hg []) (by simp)
theorem StAt.drew (h : StAt w X c s) : StAt w.drew X c s := h.chg ((chg_refl w []).drew) (by simp)
theorem StAt.alloc (h : StAt w X c s) (o : Obj) : StAt (w.alloc o) X c s := h.grown (World.grownBy_alloc w o none)
theorem StAt.cells (h : StAt w X c s) : w.cell? ⟨X.b, 26, none⟩ = some (.int .i64 s.now) ∧ w.cell? ⟨X.b, 27, none⟩ = some (.pointer (some ⟨X.g.g, 0, none⟩)) ∧ w.cell? ⟨X.b, 28, none⟩ = some (.pointer (some ⟨X.t, 0, none⟩)) ∧ w.cell? ⟨X.b, 29, none⟩ = some (.pointer (some ⟨X.s, 0, none⟩)) ∧ w.cell? ⟨X.b, 30, none⟩ = some (.pointer (some ⟨X.l.b, 0, none⟩)) ∧ w.cell? ⟨X.b, 31, none⟩ = some X.d :=
  ⟨at_cell h.row 26, at_cell h.row 27, at_cell h.row 28, at_cell h.row 29, at_cell h.row 30, at_cell h.row 31⟩
theorem StAt.conf (h : StAt w X c s) : w.cell? ⟨X.b, 0, none⟩ = some (.int .i64 c.n) ∧ w.cell? ⟨X.b, 1, none⟩ = some (.int .i64 c.f) ∧ w.cell? ⟨X.b, 2, none⟩ = some (.int .i64 c.m) ∧ w.cell? ⟨X.b, 3, none⟩ = some (.int .i64 c.quorum) ∧ w.cell? ⟨X.b, 12, none⟩ = some (.int .i64 c.min) ∧ w.cell? ⟨X.b, 13, none⟩ = some (.int .i64 c.max) :=
  ⟨at_cell h.row 0, at_cell h.row 1, at_cell h.row 2, at_cell h.row 3, at_cell h.row 12, at_cell h.row 13⟩
theorem StAt.free (h : StAt w X c s) (i : Nat) : w.frozen? ⟨X.b, i, none⟩ = false := at_free h.row i
/-- blocks of unlike parts -/
theorem SBl.ne (X : SBl) {x y : Nat} {i j : Nat} (hx : X.o x = i) (hy : X.o y = j) (h : i ≠ j) : x ≠ y := fun e => h (by rw [← hx, ← hy, e])
theorem StAt.tableNew (h : StAt w X c s) {L : List Sm} (ht : TbAt c.n c.m c.fresh L X.t X.tm w') (hc : Chg [X.tm] w w') : StAt w' X c { s with t := L } := by
  have n : ∀ {x : Nat}, X.o x ≠ 2 → x ∉ [X.tm] := fun hx hm => hx (by rw [List.mem_singleton.1 hm]; exact h.ot.2)
  exact ⟨hc.at h.row (n (by rw [h.ob]; decide)), h.gate.chg hc fun x hx => n (by rw [h.og x hx]; decide), ht, h.score.chg hc (n (by rw [h.os.1]; decide)) (n (by rw [h.os.2]; decide)), h.law.chg hc fun x hx => n (by rw [h.ol x hx]; decide),
    h.decs.chg hc fun g hg => n (by rw [h.od g hg]; decide), h.ob, h.og, h.ot, h.os, h.ol, h.od⟩
theorem StAt.scoreNew (h : StAt w X c s) {S : Sc} (ht : ScAt S X.s X.sh w') (hc : Chg [X.sh] w w') : StAt w' X c { s with s := S } := by
  have n : ∀ {x : Nat}, X.o x ≠ 3 → x ∉ [X.sh] := fun hx hm => hx (by rw [List.mem_singleton.1 hm]; exact h.os.2)
  exact ⟨hc.at h.row (n (by rw [h.ob]; decide)), h.gate.chg hc fun x hx => n (by rw [h.og x hx]; decide), h.table.chg hc (n (by rw [h.ot.1]; decide)) (n (by rw [h.ot.2]; decide)), ht, h.law.chg hc fun x hx => n (by rw [h.ol x hx]; decide),
    h.decs.chg hc fun g hg => n (by rw [h.od g hg]; decide), h.ob, h.og, h.ot, h.os, h.ol, h.od⟩
theorem StAt.lawNew (h : StAt w X c s) {L : La} (ht : LaAt w' X.l L) (hc : Chg X.l.F w w') : StAt w' X c { s with l := L } := by
  have n : ∀ {x : Nat}, X.o x ≠ 4 → x ∉ X.l.F := fun hx hm => hx (h.ol _ hm)
  exact ⟨hc.at h.row (n (by rw [h.ob]; decide)), h.gate.chg hc fun x hx => n (by rw [h.og x hx]; decide), h.table.chg hc (n (by rw [h.ot.1]; decide)) (n (by rw [h.ot.2]; decide)), h.score.chg hc (n (by rw [h.os.1]; decide)) (n (by rw [h.os.2]; decide)), ht,
    h.decs.chg hc fun g hg => n (by rw [h.od g hg]; decide), h.ob, h.og, h.ot, h.os, h.ol, h.od⟩
/-- the epoch is another one -/
theorem StAt.nowNew (h : StAt w X c s) (n : Int) : StAt (w.setCell ⟨X.b, 26, none⟩ (.int .i64 n)) X c { s with now := n } ∧ Chg [X.b] w (w.setCell ⟨X.b, 26, none⟩ (.int .i64 n)) := by
  have hc : Chg [X.b] w (w.setCell ⟨X.b, 26, none⟩ (.int .i64 n)) := (chg_refl w _).set (.inl (by simp)) _
  have k : ∀ {x : Nat}, X.o x ≠ 0 → x ∉ [X.b] := fun hx hm => hx (by rw [List.mem_singleton.1 hm]; exact h.ob)
  exact ⟨⟨at_set h.row 26 _, h.gate.chg hc fun x hx => k (by rw [h.og x hx]; decide), h.table.chg hc (k (by rw [h.ot.1]; decide)) (k (by rw [h.ot.2]; decide)), h.score.chg hc (k (by rw [h.os.1]; decide)) (k (by rw [h.os.2]; decide)), h.law.chg hc fun x hx => k (by rw [h.ol x hx]; decide),
    h.decs.chg hc fun g hg => k (by rw [h.od g hg]; decide), h.ob, h.og, h.ot, h.os, h.ol, h.od⟩, hc⟩
end
end Go.Proofs.YtecggbndlbkhdaaGreat
end
section
set_option linter.unusedSimpArgs false
set_option linter.unusedVariables false
namespace Go.Proofs.YtecggbndlbkhdaaGreat
set_option maxRecDepth 100000
open Go.RowKit

section
variable {w : World} {X : SBl} {c : Conf} {s : Ste}
theorem sumade_nil (w : World) : Calls Tryz.prog 67 #[.pointer none] w fun e w' => e = .returned (.bool false) ∧ w = w' := by
  go_enter Tryz.func67, Tryz.ntmps67
  go_wp2_with fail
  go_ret
  exact ⟨rfl, rfl⟩
theorem sumade_any (h : StAt w X c s) : Calls Tryz.prog 67 #[.pointer (some ⟨X.b, 0, none⟩)] w fun e w' => e = .returned (.bool true) ∧ w = w' := by
  obtain ⟨-, c1, -⟩ := h.cells
  clear h
  go_enter Tryz.func67, Tryz.ntmps67
  go_wp2_with fail
  go_ret
  exact ⟨rfl, rfl⟩
theorem sunow_nil (w : World) : Calls Tryz.prog 32 #[.pointer none] w fun e w' => e = .returned (.int .i64 (-1)) ∧ w = w' := by
  go_enter Tryz.func32, Tryz.ntmps32
  go_wp2_with fail
  refine (sumade_nil _).mono ?_
  rintro e w2 ⟨rfl, rfl⟩
  go_wp2_with fail
  go_ret
  exact ⟨rfl, rfl⟩
theorem sunow_any (h : StAt w X c s) : Calls Tryz.prog 32 #[.pointer (some ⟨X.b, 0, none⟩)] w fun e w' => e = .returned (.int .i64 s.now) ∧ w = w' := by
  obtain ⟨c0, -⟩ := h.cells
  have L0 := hid (load_i64 _ _ _ c0)
  have M0 := hid (sumade_any h)
  clear c0 h
  go_enter Tryz.func32, Tryz.ntmps32
  go_wp2_with fail
  refine M0.out.mono ?_
  rintro e w2 ⟨rfl, rfl⟩
  go_wp2_with fail
  refine L0.out.mono ?_
  rintro e w2 ⟨rfl, rfl⟩
  go_wp2_with fail
  go_ret
  exact ⟨rfl, rfl⟩
theorem sucount_any (h : StAt w X c s) : Calls Tryz.prog 35 #[.pointer (some ⟨X.b, 0, none⟩)] w fun e w' => e = .returned (.int .i64 s.l.n) ∧ w = w' := by
  obtain ⟨-, -, -, -, c4, -⟩ := h.cells
  have L0 := hid (lcount_any h.law)
  have M0 := hid (sumade_any h)
  clear h
  go_enter Tryz.func35, Tryz.ntmps35
  go_wp2_with fail
  refine M0.out.mono ?_
  rintro e w2 ⟨rfl, rfl⟩
  go_wp2_with fail
  refine L0.out.mono ?_
  rintro e w2 ⟨rfl, rfl⟩
  go_wp2_with fail
  go_ret
  exact ⟨rfl, rfl⟩
theorem suout_nil (who : Int) (w : World) : Calls Tryz.prog 28 #[.pointer none, .int .i64 who] w fun e w' => e = .returned (.bool true) ∧ w.grownBy w' none := by
  have M0 := hid (fun u => sumade_nil u)
  go_enter Tryz.func28, Tryz.ntmps28
  go_wp2_with fail
  refine (M0.out _).mono ?_
  rintro e w2 ⟨rfl, rfl⟩
  go_wp2_with fail
  go_ret
  exact ⟨rfl, by first | exact .refl _ _ | exact gb_drew (.refl _ _)⟩
theorem suout_any (h : StAt w X c s) (who : Int) : Calls Tryz.prog 28 #[.pointer (some ⟨X.b, 0, none⟩), .int .i64 who] w fun e w' => e = .returned (.bool (outL s.s.H who)) ∧ w.grownBy w' none := by
  obtain ⟨-, -, -, c3, -⟩ := h.cells
  have L0 := hid (sout_any h.score who)
  have M0 := hid (sumade_any h)
  clear h
  go_enter Tryz.func28, Tryz.ntmps28
  go_wp2_with fail
  refine M0.out.mono ?_
  rintro e w2 ⟨rfl, rfl⟩
  go_wp2_with fail
  refine L0.out.mono ?_
  rintro e w2 ⟨rfl, rfl⟩
  go_wp2_with fail
  go_ret
  exact ⟨by first | rfl | simp, by first | exact .refl _ _ | exact gb_drew (.refl _ _)⟩
end
end Go.Proofs.YtecggbndlbkhdaaGreat
end
section
set_option linter.unusedSimpArgs false
set_option linter.unusedVariables false
namespace Go.Proofs.YtecggbndlbkhdaaGreat
set_option maxRecDepth 100000
open Go.RowKit

end Go.Proofs.YtecggbndlbkhdaaGreat
end
section
set_option linter.unusedSimpArgs false
set_option linter.unusedVariables false
namespace Go.Proofs.YtecggbndlbkhdaaGreat
set_option maxRecDepth 100000
open Go.RowKit

end Go.Proofs.YtecggbndlbkhdaaGreat
end
