/-
  Contracts for package mac: a derived key's next word. No condition but on the block of the derivation under way.
  Contracts for package mac: the root's key, a collector's key of a generation. No condition.
  Contracts for package replay. The condition of a call: the object lies there; or it is nil.
  Contracts for package replay's Take and Set. The condition of a call: the object lies there.
  Whom to believe: the plain part. A collector's part is a pair: is it out; its count. No condition. Nothing of the program is named here.
  Contracts for package calm: the object, its inner functions; the least and the greatest of a slice. The condition of a call: the object lies there, a slice reads as numbers.
  Slices of samples: what one reads as; slices of samples that the call itself makes and appends to; parts of them. No condition. Nothing of the program's functions is named here.
  The program's score in its two blocks: the object and the collectors' parts. Contracts: find, Out, standing, Get, more, end. The condition: the score lies there.
-/
import Derived.Test.YtecggbndlbkhdaaGreatY4
import Derived.Test.YtecggbndlbkhdaaGreatY3
import Derived.Test.YtecggbndlbkhdaaGreatY2
import Derived.Test.YtecggbndlbkhdaaGreatRows
import Derived.Test.YtecggbndlbkhdaaGreatY10
import Derived.Test.YtecggbndlbkhdaaGreatY13
import Derived.WalkSpells
import Derived.WalkLawsBesides
import Derived.BigQuiet
import Derived.Deep.RegionHeld3
import Derived.StillTailTactics
import Derived.Test.YtecggbndlbkhdaaGreatY11
import Derived.Laws.CopyRow
import Derived.LoopTactic
import Derived.Deep.QuietTactic
import Derived.Test.YtecggbndlbkhdaaGreatY1
import Derived.Laws.AppendOwnNone
import Derived.Maps.AppendAt
import Derived.Test.YtecggbndlbkhdaaGreatY6
section
set_option linter.unusedSimpArgs false
namespace Go.Proofs.YtecggbndlbkhdaaGreat
set_option maxRecDepth 100000
open Go.RowKit

/-- a derivation under way: m words were told -/
def derObj (k0 k1 : BitVec 64) (s : ByteArray) (n : BitVec 64) (m : Int) : Obj := .cells #[.int .u64 (q k0), .int .u64 (q k1), .string s, .int .u64 (q n), .int .u32 m] 484
theorem Box.row {w : World} {k0 k1 : BitVec 64} {t t' : TypeId} {w1 w2 : World} (h : Box w k0 k1 t t' w1) (hg : w1.grownBy w2 (some (w.heap.size + 1 + 1))) : Box w k0 k1 t t' w2 :=
  ⟨at_grown h.box hg (by simp; omega), by obtain ⟨x, y, h⟩ := h.ans; exact ⟨x, y, at_grown h hg (by simp)⟩, gb_trans h.g hg (.inr (.inr ⟨_, rfl, by omega⟩))⟩

/-- a hash under way behind a derivation under way -/
structure Nx (w : World) (b : Nat) (k0 k1 : BitVec 64) (s : ByteArray) (n : BitVec 64) (m : Int) (st : St) (wc : World) : Prop where
  lt : b < w.heap.size
  hh : wc.heap[w.heap.size + 1]? = some st.obj
  hb : wc.heap[b]? = some (derObj k0 k1 s n m)
  g : w.grownBy wc (some b)
theorem Nx.grown {w : World} {b : Nat} {k0 k1 : BitVec 64} {s : ByteArray} {n : BitVec 64} {m : Int} {st : St} {wc wd : World} (h : Nx w b k0 k1 s n m st wc) (hg : wc.grownBy wd none) : Nx w b k0 k1 s n m st wd :=
  ⟨h.lt, at_grown h.hh hg (by simp), at_grown h.hb hg (by simp), gb_trans h.g hg (.inl rfl)⟩
theorem Nx.told {w : World} {b : Nat} {k0 k1 : BitVec 64} {s : ByteArray} {n : BitVec 64} {m : Int} {st : St} {wc : World} (h : Nx w b k0 k1 s n m st wc) (m1 : Int) : Nx w b k0 k1 s n m1 st (wc.setCell ⟨b, 4, none⟩ (.int .u32 m1)) :=
  ⟨h.lt, at_set_other h.hh (by have := h.lt; simp; omega) _, at_set h.hb 4 _, gb_row h.g rfl _⟩
theorem Nx.size {w : World} {b : Nat} {k0 k1 : BitVec 64} {s : ByteArray} {n : BitVec 64} {m : Int} {st : St} {wc : World} (h : Nx w b k0 k1 s n m st wc) : w.heap.size + 1 < wc.heap.size := at_lt h.hh

/-- what a derived key's words are -/
def derived (k0 k1 : BitVec 64) (s : ByteArray) (n : BitVec 64) (mb : UInt8) : BitVec 64 := sumOf k0 k1 (s.data.toList ++ [mb] ++ put8 n)

end Go.Proofs.YtecggbndlbkhdaaGreat
end
section
set_option linter.unusedSimpArgs false
namespace Go.Proofs.YtecggbndlbkhdaaGreat
set_option maxRecDepth 100000
open Go.RowKit

/-- the answer's block, under way -/
structure Ans (w : World) (t : TypeId) (w' : World) : Prop where
  ans : ∃ x y, w'.heap[w.heap.size]? = some (.cells #[x, y] t)
  g : w.grownBy w' none
theorem Ans.new (w : World) (t : TypeId) (x y : Value) : Ans w t (w.alloc (.cells #[x, y] t)) := ⟨⟨x, y, at_new w _⟩, gb_alloc (.refl w none) _⟩
theorem Ans.grown {w : World} {t : TypeId} {w1 w2 : World} (h : Ans w t w1) (hg : w1.grownBy w2 none) : Ans w t w2 :=
  ⟨by obtain ⟨x, y, h⟩ := h.ans; exact ⟨x, y, at_grown h hg (by simp)⟩, gb_trans h.g hg (.inl rfl)⟩
theorem Ans.drew {w : World} {t : TypeId} {w1 : World} (h : Ans w t w1) : Ans w t w1.drew := ⟨h.ans, gb_drew h.g⟩
theorem Ans.cells {w : World} {t : TypeId} {w1 : World} (h : Ans w t w1) : ∃ x y, w1.cell? ⟨w.heap.size, 0, none⟩ = some x ∧ w1.cell? ⟨w.heap.size, 1, none⟩ = some y ∧ w1.frozen? ⟨w.heap.size, 0, none⟩ = false ∧ w1.frozen? ⟨w.heap.size, 1, none⟩ = false := by
  obtain ⟨x, y, h⟩ := h.ans
  exact ⟨x, y, at_cell h 0, at_cell h 1, at_free h 0, at_free h 1⟩
theorem Ans.store {w : World} {t : TypeId} {w1 : World} (h : Ans w t w1) (a b : Value) :
    ((w1.setCell ⟨w.heap.size, 0, none⟩ a).setCell ⟨w.heap.size, 1, none⟩ b).heap[w.heap.size]? = some (.cells #[a, b] t) ∧ w.grownBy ((w1.setCell ⟨w.heap.size, 0, none⟩ a).setCell ⟨w.heap.size, 1, none⟩ b) none := by
  obtain ⟨x, y, hxy⟩ := h.ans
  exact ⟨at_set (at_set hxy 0 a) 1 b, gb_new (gb_new h.g (by simp) a) (by simp) b⟩

/-- a pair of words -/
structure Two64 where
  a : BitVec 64
  b : BitVec 64
def Two64.val (k : Two64) : Value := pair k.a k.b
/-- a derived key -/
def keyOf (k : Two64) (s : ByteArray) (n : BitVec 64) : Two64 := ⟨derived k.a k.b s n 1, derived k.a k.b s n 2⟩
def rootOf (seed : BitVec 64) : Two64 := keyOf ⟨seed, seed + 1⟩ ⟨#[114, 111, 111, 116]⟩ 0
def ofOf (seed : BitVec 64) (who gen : Int) : Two64 := keyOf (keyOf (rootOf seed) ⟨#[119, 104, 111]⟩ (BitVec.ofInt 64 who)) ⟨#[103, 101, 110]⟩ (BitVec.ofInt 64 gen)

end Go.Proofs.YtecggbndlbkhdaaGreat
end
section
set_option linter.unusedSimpArgs false
set_option linter.unusedVariables false
namespace Go.Proofs.YtecggbndlbkhdaaGreat
set_option maxRecDepth 100000
open Go.RowKit

theorem shl_any (x : BitVec 64) (yk : IntKind) (y : Int) (h : 0 ≤ y) : Op.shift .shl .u64 (q x) yk y = pure (.int .u64 (q (x <<< y.toNat))) := by
  have hm : min y.toNat 64 = if y.toNat ≤ 64 then y.toNat else 64 := by split <;> omega
  have h0 : ¬ y < 0 := by omega
  simp only [Op.shift, h0, if_false, IntKind.bits, hm]
  split
  · rw [q_shl]
  · next hg =>
    rw [q_shl]
    have e1 : x <<< 64 = 0#64 := BitVec.shiftLeft_eq_zero (Nat.le_refl _)
    have e2 : x <<< y.toNat = 0#64 := BitVec.shiftLeft_eq_zero (by omega)
    rw [e1, e2]
theorem shl_one (yk : IntKind) (y : Int) (h : 0 ≤ y) : Op.shift .shl .u64 1 yk y = pure (.int .u64 (q (1#64 <<< y.toNat))) := shl_any 1#64 yk y h
theorem q_sub_one (x : BitVec 64) : IntKind.u64.wrap (q x - 1) = q (x - 1#64) := by
  rw [IntKind.wrap_u64]; unfold q
  rw [BitVec.toNat_sub]
  have := x.isLt
  simp only [BitVec.toNat_ofNat]
  omega

theorem lowest_any (n : Nat) (w : World) :
    Calls Tryz.prog 323 #[.int .i64 (n : Int)] w fun e w' => e = .returned (.int .u64 (q (low n))) ∧ w = w' := by
  have h1 := shl_one .i64 (n : Int) (by omega)
  have h2 := q_sub_one (1#64 <<< (n : Int).toNat)
  unfold low
  rw [Int.toNat_natCast] at *
  generalize (1#64 <<< n) = z at *
  go_enter Tryz.func323, Tryz.ntmps323
  go_wp2
  go_ret
  exact ⟨rfl, rfl⟩

/-- what was taken, of the program's -/
structure RpAt (w : World) (b : Nat) (r : Rp) : Prop where
  top : w.heap[b]? = some (.cells #[.int .i64 (r.win : Int), .int .i64 r.top, .int .u64 (q r.bits)] 345)
  ok : r.Ok
section
variable {w w' : World} {F : List Nat} {b : Nat} {r : Rp}
theorem RpAt.chg (H : RpAt w b r) (hc : Chg F w w') (hb : b ∉ F) : RpAt w' b r := ⟨hc.at H.top hb, H.ok⟩
theorem RpAt.grown (H : RpAt w b r) (hg : w.grownBy w' none) : RpAt w' b r := H.chg (chg_grown hg []) (by simp)
theorem RpAt.drew (H : RpAt w b r) : RpAt w.drew b r := ⟨H.top, H.ok⟩
theorem RpAt.lt (H : RpAt w b r) : b < w.heap.size := at_lt H.top
theorem RpAt.cells (H : RpAt w b r) : w.cell? ⟨b, 0, none⟩ = some (.int .i64 (r.win : Int)) ∧ w.cell? ⟨b, 1, none⟩ = some (.int .i64 r.top) ∧ w.cell? ⟨b, 2, none⟩ = some (.int .u64 (q r.bits)) ∧ w.frozen? ⟨b, 1, none⟩ = false ∧ w.frozen? ⟨b, 2, none⟩ = false :=
  ⟨at_cell H.top 0, at_cell H.top 1, at_cell H.top 2, at_free H.top 1, at_free H.top 2⟩
end
/-- New -/
def MadeP (w : World) (r : Rp) (e : Ending) (w' : World) : Prop := ∃ b, e = .returned (.pointer (some ⟨b, 0, none⟩)) ∧ RpAt w' b r ∧ w.grownBy w' none ∧ w.heap.size ≤ b
set_option maxHeartbeats 1600000 in
theorem pnew_ok (n : Nat) (h1 : 1 ≤ n) (h2 : n ≤ 64) (w : World) :
    Calls Tryz.prog 127 #[.int .i64 (n : Int)] w (MadeP w (.new n)) := by
  have L : Hid (RpAt (w.alloc (.cells #[.int .i64 (n : Int), .int .i64 0, .int .u64 0] 345)) w.heap.size (.new n)) := hid ⟨at_new w _, rp_new_ok h1 h2⟩
  have d1 : decide ((n : Int) < 1) = false := by simp; omega
  have d2 : decide ((64 : Int) < (n : Int)) = false := by simp; omega
  go_enter Tryz.func127, Tryz.ntmps127
  go_wp2_with fail
  go_ret
  exact ⟨_, rfl, L.out, gb_alloc (.refl w none) _, Nat.le_refl _⟩

theorem q_and_one (x : BitVec 64) : bits .and .u64 (q x) 1 = q (x &&& 1#64) := q_and x 1#64
theorem q_zero (x : BitVec 64) : (q x == 0) = decide (x = 0#64) := by
  rw [show (0 : Int) = q 0#64 from rfl, q_beq, Bool.eq_iff_iff]; simp
/-- Top, Bits -/
theorem ptop_any {b : Nat} {r : Rp} (w : World) (H : RpAt w b r) :
    Calls Tryz.prog 189 #[.pointer (some ⟨b, 0, none⟩)] w fun e w' => e = .returned (.int .i64 r.top) ∧ w = w' := by
  obtain ⟨c0, c1, c2, f1, f2⟩ := H.cells
  clear H
  go_enter Tryz.func189, Tryz.ntmps189
  go_wp2_with fail
  refine (load_i64 _ r.top _ c1).mono ?_
  rintro e w1 ⟨rfl, rfl⟩
  go_wp2_with fail
  go_ret
  exact ⟨rfl, rfl⟩
theorem pbits_any {b : Nat} {r : Rp} (w : World) (H : RpAt w b r) :
    Calls Tryz.prog 190 #[.pointer (some ⟨b, 0, none⟩)] w fun e w' => e = .returned (.int .u64 (q r.bits)) ∧ w = w' := by
  obtain ⟨c0, c1, c2, f1, f2⟩ := H.cells
  clear H
  go_enter Tryz.func190, Tryz.ntmps190
  go_wp2_with fail
  go_ret
  exact ⟨rfl, rfl⟩
end Go.Proofs.YtecggbndlbkhdaaGreat
end
section
set_option linter.unusedSimpArgs false
set_option linter.unusedVariables false
namespace Go.Proofs.YtecggbndlbkhdaaGreat
set_option maxRecDepth 100000
open Go.RowKit

/-- what Take and Set leave -/
def LeavesP (w : World) (b : Nat) (k : Int × Rp) (e : Ending) (w' : World) : Prop := e = .returned (.int .i64 k.1) ∧ RpAt w' b k.2 ∧ Chg [b] w w'
theorem leavesP_same {w : World} {b : Nat} {r : Rp} (c : Int) (H : RpAt w b r) : LeavesP w b (c, r) (.returned (.int .i64 c)) w := ⟨rfl, H, chg_refl w _⟩

end Go.Proofs.YtecggbndlbkhdaaGreat
end
section
set_option linter.unusedSimpArgs false
set_option linter.unusedVariables false
namespace Go.Proofs.YtecggbndlbkhdaaGreat
set_option maxRecDepth 100000

abbrev Hd := Bool × Int
structure Sc where
  H : List Hd
  st : Int
  pr : Int
  far : Int
def Sc.put (s : Sc) (k : Nat) (h : Hd) : Sc := ⟨s.H.set k h, s.st, s.pr, s.far⟩
/-- the numbers may be -/
structure Sc.ok (s : Sc) : Prop where
  n1 : 1 ≤ s.H.length
  n16 : s.H.length ≤ 16
  st : 1 ≤ s.st ∧ s.st ≤ 100
  pr : 1 ≤ s.pr ∧ s.pr ≤ 100
  far : 0 ≤ s.far ∧ s.far ≤ 1099511627776
  cnt : ∀ h ∈ s.H, 0 ≤ h.2 ∧ h.2 < 1000
/-- the same, a count may be one more -/
structure Sc.wk (s : Sc) : Prop where
  n1 : 1 ≤ s.H.length
  n16 : s.H.length ≤ 16
  st : 1 ≤ s.st ∧ s.st ≤ 100
  pr : 1 ≤ s.pr ∧ s.pr ≤ 100
  far : 0 ≤ s.far ∧ s.far ≤ 1099511627776
  cnt : ∀ h ∈ s.H, 0 ≤ h.2 ∧ h.2 ≤ 1000
theorem Sc.ok.wk {s : Sc} (h : s.ok) : s.wk := ⟨h.n1, h.n16, h.st, h.pr, h.far, fun x hx => by have := h.cnt x hx; omega⟩
/-- is who out, or no collector -/
def outL (H : List Hd) (who : Int) : Bool := if 0 ≤ who ∧ who < (H.length : Int) then (H.getD who.toNat (true, 0)).1 else true
theorem outL_in {H : List Hd} {i : Nat} {h : Hd} (hi : H[i]? = some h) : outL H (i : Int) = h.1 := by
  obtain ⟨hk, rfl⟩ := List.getElem?_eq_some_iff.1 hi
  unfold outL
  rw [if_pos (by omega), Int.toNat_natCast, List.getD_eq_getElem?_getD, hi]; rfl
theorem outL_out {H : List Hd} {who : Int} (h : ¬ (0 ≤ who ∧ who < (H.length : Int))) : outL H who = true := by
  unfold outL; rw [if_neg h]
theorem outL_false {H : List Hd} {who : Int} (h : outL H who = false) : ∃ i : Nat, who = (i : Int) ∧ i < H.length := by
  by_cases hw : 0 ≤ who ∧ who < (H.length : Int)
  · exact ⟨who.toNat, by omega, by omega⟩
  · rw [outL_out hw] at h; cases h
/-- those that are heard -/
def heardL (H : List Hd) (r : List Sm) : List Sm := r.filter fun x => !(outL H x.who)
theorem heardL_len (H : List Hd) (r : List Sm) : (heardL H r).length ≤ r.length := List.length_filter_le _ _
theorem heardL_in {H : List Hd} {r : List Sm} {x : Sm} (h : x ∈ heardL H r) : ∃ i : Nat, x.who = (i : Int) ∧ i < H.length := by
  have := (List.mem_filter.1 h).2
  exact outL_false (by simpa using this)
theorem heardL_succ {H : List Hd} {r : List Sm} {k : Nat} {x : Sm} (h : r[k]? = some x) : heardL H (r.take (k + 1)) = if outL H x.who = true then heardL H (r.take k) else heardL H (r.take k) ++ [x] := by
  obtain ⟨hk, rfl⟩ := List.getElem?_eq_some_iff.1 h
  unfold heardL
  rw [List.take_succ_eq_append_getElem hk, List.filter_append]
  cases hb : outL H r[k].who <;> simp [hb]
/-- the middle of a row that is heard -/
noncomputable def midS (r : List Sm) (q : Int) : Int × Bool := if q ≤ (r.length : Int) ∧ 0 < (r.length : Int) then medOf (r.map Sm.val) else (0, false)
/-- what a value says -/
def weighL (far v m : Int) : Int := if far < v - m ∨ far < m - v then 2 else 1
/-- one more sample -/
def mark1 (far m : Int) (mk : List Int) (x : Sm) : List Int := mk.set x.who.toNat (max (mk.getD x.who.toNat 0) (weighL far x.val m))
def markR (far m : Int) (mk : List Int) (r : List Sm) : List Int := r.foldl (mark1 far m) mk
theorem mark1_len (far m : Int) (mk : List Int) (x : Sm) : (mark1 far m mk x).length = mk.length := by unfold mark1; simp
theorem markR_len (far m : Int) (mk : List Int) (r : List Sm) : (markR far m mk r).length = mk.length := by
  unfold markR
  induction r generalizing mk with
  | nil => rfl
  | cons x r ih => rw [List.foldl_cons, ih, mark1_len]
theorem markR_succ {far m : Int} {mk : List Int} {r : List Sm} {k : Nat} {x : Sm} (h : r[k]? = some x) : markR far m mk (r.take (k + 1)) = mark1 far m (markR far m mk (r.take k)) x := by
  obtain ⟨hk, rfl⟩ := List.getElem?_eq_some_iff.1 h
  unfold markR
  rw [List.take_succ_eq_append_getElem hk, List.foldl_append]; rfl
noncomputable def markM (s : Sc) (q : Int) (mk : List Int) (row : List Sm) : List Int :=
  if (midS (heardL s.H row) q).2 = true then markR s.far (midS (heardL s.H row) q).1 mk (heardL s.H row) else mk
theorem markM_len (s : Sc) (q : Int) (mk : List Int) (row : List Sm) : (markM s q mk row).length = mk.length := by
  unfold markM; split
  · rw [markR_len]
  · rfl
noncomputable def marksF (s : Sc) (q : Int) (L : List (List Sm)) (mk : List Int) : List Int := L.foldl (markM s q) mk
theorem marksF_len (s : Sc) (q : Int) (L : List (List Sm)) (mk : List Int) : (marksF s q L mk).length = mk.length := by
  unfold marksF
  induction L generalizing mk with
  | nil => rfl
  | cons x r ih => rw [List.foldl_cons, ih, markM_len]
theorem marksF_succ {s : Sc} {q : Int} {mk : List Int} {L : List (List Sm)} {k : Nat} {x : List Sm} (h : L[k]? = some x) : marksF s q (L.take (k + 1)) mk = markM s q (marksF s q (L.take k) mk) x := by
  obtain ⟨hk, rfl⟩ := List.getElem?_eq_some_iff.1 h
  unfold marksF
  rw [List.take_succ_eq_append_getElem hk, List.foldl_append]; rfl
/-- each collector's mark -/
noncomputable def marksL (s : Sc) (q : Int) (L : List (List Sm)) : List Int := marksF s q L (List.replicate s.H.length 0)
theorem marksL_len (s : Sc) (q : Int) (L : List (List Sm)) : (marksL s q L).length = s.H.length := by
  unfold marksL; rw [marksF_len, List.length_replicate]
/-- one more is counted -/
def moreH (lim : Int) (h : Hd) : Hd × Bool := if h.2 + 1 < lim then ((h.1, h.2 + 1), false) else ((!h.1, 0), true)
/-- an epoch's end for one -/
def endH (st pr : Int) (h : Hd) (m : Int) : Hd × Bool :=
  if h.1 = true then ((moreH pr h).1, false)
  else if m = 2 then moreH st h
  else if m = 1 ∧ 0 < h.2 then ((h.1, h.2 - 1), false) else (h, false)
theorem endH_cnt {st pr : Int} {h : Hd} {m : Int} (h0 : 0 ≤ h.2 ∧ h.2 < 1000) (hs : st ≤ 1000) (hp : pr ≤ 1000) : 0 ≤ (endH st pr h m).1.2 ∧ (endH st pr h m).1.2 < 1000 := by
  unfold endH moreH
  split
  · split <;> (dsimp only; omega)
  · split
    · split <;> (dsimp only; omega)
    · split <;> (dsimp only; omega)
/-- the epoch's end for the first k, by number; who is put out -/
def runTo (st pr : Int) (mk : List Int) (H : List Hd) : Nat → List Hd × List Int
  | 0 => (H, [])
  | k + 1 =>
    let p := runTo st pr mk H k
    let r := endH st pr (p.1.getD k (true, 0)) (mk.getD k 0)
    (p.1.set k r.1, if r.2 = true then p.2 ++ [(k : Int)] else p.2)
theorem runTo_len (st pr : Int) (mk : List Int) (H : List Hd) (k : Nat) : (runTo st pr mk H k).1.length = H.length := by
  induction k with
  | zero => rfl
  | succ k ih => unfold runTo; simp [ih]
theorem runTo_gone (st pr : Int) (mk : List Int) (H : List Hd) (k : Nat) : (runTo st pr mk H k).2.length ≤ k := by
  induction k with
  | zero => exact Nat.le_refl _
  | succ k ih =>
    unfold runTo; dsimp only; split
    · rw [List.length_append, List.length_singleton]; omega
    · omega
theorem runTo_cnt {st pr : Int} {mk : List Int} {H : List Hd} (h : ∀ x ∈ H, 0 ≤ x.2 ∧ x.2 < 1000) (hs : st ≤ 1000) (hp : pr ≤ 1000) (k : Nat) : k ≤ H.length → ∀ x ∈ (runTo st pr mk H k).1, 0 ≤ x.2 ∧ x.2 < 1000 := by
  induction k with
  | zero => exact fun _ => h
  | succ k ih =>
    intro hk x hx
    have ih := ih (by omega)
    have hl := runTo_len st pr mk H k
    unfold runTo at hx
    dsimp only at hx
    rcases List.mem_or_eq_of_mem_set hx with hx | rfl
    · exact ih x hx
    · refine endH_cnt (ih _ ?_) hs hp
      rw [List.getD_eq_getElem?_getD, List.getElem?_eq_getElem (by omega)]
      exact List.getElem_mem _
/-- an epoch's end: how they stand then, who is put out -/
noncomputable def Sc.close (s : Sc) (L : List (List Sm)) (q : Int) : Sc := ⟨(runTo s.st s.pr (marksL s q L) s.H s.H.length).1, s.st, s.pr, s.far⟩
noncomputable def Sc.gone (s : Sc) (L : List (List Sm)) (q : Int) : List Int := (runTo s.st s.pr (marksL s q L) s.H s.H.length).2
/-- how one stands: strikes, clean, out -/
def standH (h : Hd) : Int × Int × Bool := if h.1 = true then (0, h.2, true) else (h.2, 0, false)
end Go.Proofs.YtecggbndlbkhdaaGreat
end
section
set_option linter.unusedSimpArgs false
set_option linter.unusedVariables false
namespace Go.Proofs.YtecggbndlbkhdaaGreat
set_option maxRecDepth 100000
open Go.RowKit

/-- the cells of a Calm -/
def caCells (u d n : Nat) (ws : List Int) : Array Value := (((u : Int) :: (d : Int) :: (n : Int) :: ws).map iv).toArray
structure CaAt (w : World) (b : Nat) (c : Ca) : Prop where
  top : ∃ ws : List Int, ws.length = 61 ∧ ws.take c.l.length = c.l ∧ w.heap[b]? = some (.cells (caCells c.up c.down c.l.length ws) 356)
  ok : c.Ok
section
variable {w w' : World} {F : List Nat} {b : Nat} {c : Ca}
theorem CaAt.chg (H : CaAt w b c) (hc : Chg F w w') (hb : b ∉ F) : CaAt w' b c := by
  obtain ⟨⟨ws, h1, h2, h3⟩, ho⟩ := H
  exact ⟨⟨ws, h1, h2, hc.at h3 hb⟩, ho⟩
theorem CaAt.grown (H : CaAt w b c) (hg : w.grownBy w' none) : CaAt w' b c := H.chg (chg_grown hg []) (by simp)
theorem CaAt.drew (H : CaAt w b c) : CaAt w.drew b c := ⟨H.top, H.ok⟩
theorem CaAt.drewN (H : CaAt w b c) (n : Nat) : CaAt (w.drewN n) b c := ⟨H.top, H.ok⟩
theorem CaAt.lt (H : CaAt w b c) : b < w.heap.size := by obtain ⟨⟨ws, _, _, h3⟩, _⟩ := H; exact at_lt h3
theorem ca_cell0 (u d n : Nat) (ws : List Int) : (caCells u d n ws)[0]? = some (.int .i64 (u : Int)) := by simp [caCells, iv]
theorem ca_cell1 (u d n : Nat) (ws : List Int) : (caCells u d n ws)[1]? = some (.int .i64 (d : Int)) := by simp [caCells, iv]
theorem ca_cell2 (u d n : Nat) (ws : List Int) : (caCells u d n ws)[2]? = some (.int .i64 (n : Int)) := by simp [caCells, iv]
theorem ca_cellk (u d n : Nat) (ws : List Int) (k : Nat) : (caCells u d n ws)[3 + k]? = (ws[k]?).map iv := by
  rw [caCells, List.getElem?_toArray, Nat.add_comm]; simp
theorem CaAt.cells (H : CaAt w b c) : w.cell? ⟨b, 0, none⟩ = some (.int .i64 (c.up : Int)) ∧ w.cell? ⟨b, 1, none⟩ = some (.int .i64 (c.down : Int)) ∧ w.cell? ⟨b, 2, none⟩ = some (.int .i64 (c.l.length : Int)) ∧ ∀ k, w.frozen? ⟨b, k, none⟩ = false := by
  obtain ⟨⟨ws, h1, h2, h3⟩, ho⟩ := H
  exact ⟨by rw [at_cell h3, ca_cell0], by rw [at_cell h3, ca_cell1], by rw [at_cell h3, ca_cell2], fun k => at_free h3 k⟩
theorem Ca.Ok.n61 (h : c.Ok) : c.l.length ≤ 61 := by
  have := h.u; have := h.d; have := h.n
  unfold Ca.most at *; omega
theorem CaAt.ints (H : CaAt w b c) : IntsAt w (.slice (some ⟨b, 3, none⟩) c.l.length 61) c.l := by
  have hn := H.ok.n61
  obtain ⟨⟨ws, h1, h2, h3⟩, ho⟩ := H
  refine .inr ⟨_, 61, rfl, hn, by unfold maxLen; omega, fun i hi => ?_⟩
  rw [iadd_at, at_cell h3, ca_cellk]
  have : c.l[i]? = ws[i]? := by
    have e : (ws.take c.l.length)[i]? = c.l[i]? := by rw [h2]
    rw [← e, List.getElem?_take, if_pos hi]
  rw [← this, List.getElem?_eq_getElem hi]; rfl
end

/-- which numbers may be -/
theorem camay_any (n hi : Int) (w : World) :
    Calls Tryz.prog 223 #[.int .i64 n, .int .i64 hi] w fun e w' => e = .returned (.bool (decide (0 ≤ n) && decide (n ≤ hi))) ∧ w = w' := by
  cases h0 : decide (0 ≤ n) with
  | false =>
    have h0' : ¬ 0 ≤ n := by simpa using h0
    go_enter Tryz.func223, Tryz.ntmps223
    go_wp2_with fail
    go_ret
    exact ⟨rfl, rfl⟩
  | true =>
    have h0' : 0 ≤ n := by simpa using h0
    go_enter Tryz.func223, Tryz.ntmps223
    go_wp2_with fail
    go_ret
    exact ⟨by simp, rfl⟩
def okC (x : Int) : Bool := decide (0 ≤ x) && decide (x ≤ 1000000)
theorem cabeyond_any (x : Int) (w : World) :
    Calls Tryz.prog 336 #[.int .i64 x] w fun e w' => e = .returned (.bool (!okC x)) ∧ w = w' := by
  have H := hid (camay_any x 1000000)
  unfold okC
  generalize (decide (0 ≤ x) && decide (x ≤ 1000000)) = z at *
  go_enter Tryz.func336, Tryz.ntmps336
  go_wp2_with fail
  refine (H.out _).mono ?_
  rintro e w1 ⟨rfl, rfl⟩
  go_wp2_with fail
  go_ret
  exact ⟨rfl, rfl⟩
theorem tame_any (x : Int) (w : World) :
    Calls Tryz.prog 368 #[.int .i64 x] w fun e w' => e = .returned (.int .i64 (mill x)) ∧ w = w' := by
  unfold mill
  go_enter Tryz.func368, Tryz.ntmps368
  go_wp2_with fail
  all_goals go_ret
  all_goals exact ⟨congrArg (fun z => Ending.returned (.int .i64 z)) (by omega), rfl⟩
theorem arr_len : Tryz.prog.arrayLen 354 = 61 := by kernel_rfl
theorem arr_elem : Tryz.prog.elem 354 = 3 := by kernel_rfl
theorem size_num (u : World) : (sizeOf 3).run Tryz.prog u = .ok 1 u := by
  obtain ⟨i, hi, hz0, hz1, hz2⟩ := info_parts info_num
  simp [sizeOf, typeInfo, hi, hz1]
theorem arr_h (b n : Nat) (h : n ≤ 61) (u : World) : (Instr.sliceAt 354 (.pointer (some ⟨b, 3, none⟩)) none (some (.int .i64 (n : Int))) none).run Tryz.prog u = .ok (.slice (some ⟨b, 3, none⟩) n 61) u := by
  rw [run_sliceAt_array_h (P := Tryz.prog) u 354 ⟨b, 3, none⟩ (by kernel_rfl) .i64 (n : Int) (by omega) (by rw [arr_len]; omega), arr_elem, size_num, arr_len]
  simp [slicedAt, Result.andThen, Addr.add]
theorem arr_all (b : Nat) (u : World) : (Instr.sliceAt 354 (.pointer (some ⟨b, 3, none⟩)) none none none).run Tryz.prog u = .ok (.slice (some ⟨b, 3, none⟩) 61 61) u := by
  rw [run_sliceAt_array_all (P := Tryz.prog) u 354 ⟨b, 3, none⟩ (by kernel_rfl), arr_elem, size_num, arr_len]
  simp [slicedAt, Result.andThen, Addr.add]
theorem arr_one (b : Nat) (u : World) : (Instr.sliceAt 354 (.pointer (some ⟨b, 3, none⟩)) (some (.int .i64 1)) none none).run Tryz.prog u = .ok (.slice (some ⟨b, 4, none⟩) 60 60) u := by
  rw [run_sliceAt_array_l (P := Tryz.prog) u 354 ⟨b, 3, none⟩ (by kernel_rfl) .i64 1 (by omega) (by rw [arr_len]; omega), arr_elem, size_num, arr_len]
  simp [slicedAt, Result.andThen, Addr.add]
/-- what is kept -/
theorem all_any {b : Nat} {c : Ca} {w : World} (H : CaAt w b c) :
    Calls Tryz.prog 194 #[.pointer (some ⟨b, 0, none⟩)] w fun e w' => e = .returned (.slice (some ⟨b, 3, none⟩) c.l.length 61) ∧ w.grownBy w' none := by
  obtain ⟨c0, c1, c2, fz⟩ := H.cells
  have hn := H.ok.n61
  have L0 := hid (fun W (h : W.cell? ⟨b, 2, none⟩ = some (.int .i64 (c.l.length : Int))) => load_i64 ⟨b, 2, none⟩ (c.l.length : Int) W h)
  generalize c.l.length = n at *
  have hs := fun u => arr_h b n hn u
  clear H
  go_enter Tryz.func194, Tryz.ntmps194
  go_wp2_with fail
  go_quiet ((go_at_call 100; exact Calls.quiet_of_same (still_of (L0.out _ (by assumption)))))
  go_wp2_with fail
  go_ret
  exact ⟨rfl, ⟨rfl, rfl, rfl, Nat.le_refl _, fun _ _ _ => rfl⟩⟩
end Go.Proofs.YtecggbndlbkhdaaGreat
end
section
set_option linter.unusedSimpArgs false
set_option linter.unusedVariables false
namespace Go.Proofs.YtecggbndlbkhdaaGreat
set_option maxRecDepth 100000
open Go.RowKit

def flatS (l : List Sm) : List Value := l.flatMap cellsS
theorem flatS_len (l : List Sm) : (flatS l).length = l.length * 4 := by
  induction l with
  | nil => rfl
  | cons p r ih =>
    have e : flatS (p :: r) = cellsS p ++ flatS r := rfl
    rw [e, List.length_append, ih]
    simp [cellsS]; omega
theorem flatS_append (a b : List Sm) : flatS (a ++ b) = flatS a ++ flatS b := List.flatMap_append
theorem flatS_at : ∀ (l : List Sm) (i : Nat) (h : i < l.length), (flatS l)[i * 4]? = some (.int .i64 l[i].who) ∧ (flatS l)[i * 4 + 1]? = some (.int .i64 l[i].met) ∧ (flatS l)[i * 4 + 2]? = some (.int .i64 l[i].ep) ∧ (flatS l)[i * 4 + 3]? = some (.int .i64 l[i].val)
  | [], i, h => by simp at h
  | p :: r, 0, h => ⟨rfl, rfl, rfl, rfl⟩
  | p :: r, i + 1, h => by
    have e : flatS (p :: r) = cellsS p ++ flatS r := rfl
    have hl : (cellsS p).length = 4 := rfl
    obtain ⟨k0, k1, k2, k3⟩ := flatS_at r i (by simpa using h)
    rw [e]
    simp only [List.getElem_cons_succ]
    refine ⟨?_, ?_, ?_, ?_⟩
    · rw [List.getElem?_append_right (by omega), hl, show (i + 1) * 4 - 4 = i * 4 by omega]; exact k0
    · rw [List.getElem?_append_right (by omega), hl, show (i + 1) * 4 + 1 - 4 = i * 4 + 1 by omega]; exact k1
    · rw [List.getElem?_append_right (by omega), hl, show (i + 1) * 4 + 2 - 4 = i * 4 + 2 by omega]; exact k2
    · rw [List.getElem?_append_right (by omega), hl, show (i + 1) * 4 + 3 - 4 = i * 4 + 3 by omega]; exact k3
/-- a slice that reads as samples -/
def SAt (W : World) (v : Value) (l : List Sm) : Prop :=
  (v = .slice none 0 0 ∧ l = []) ∨ ∃ b o cap, v = .slice (some ⟨b, o, none⟩) l.length cap ∧ l.length ≤ cap ∧ cap ≤ maxLen ∧ ∀ j u, (flatS l)[j]? = some u → W.cell? ⟨b, o + j, none⟩ = some u
theorem SAt.nil (W : World) : SAt W (.slice none 0 0) [] := .inl ⟨rfl, rfl⟩
theorem SAt.form {W : World} {v : Value} {l : List Sm} (h : SAt W v l) : ∃ p c, v = .slice p l.length c := by
  rcases h with ⟨rfl, rfl⟩ | ⟨b, o, cap, rfl, _⟩
  · exact ⟨none, 0, rfl⟩
  · exact ⟨_, cap, rfl⟩
theorem SAt.len {W : World} {v : Value} {l : List Sm} (h : SAt W v l) : l.length ≤ maxLen := by
  rcases h with ⟨_, rfl⟩ | ⟨b, o, cap, _, h1, h2, _⟩
  · exact Nat.zero_le _
  · exact Nat.le_trans h1 h2
/-- the block that it reads -/
theorem SAt.cells {W : World} {p : Option Addr} {n c : Nat} {l : List Sm} (h : SAt W (.slice p n c) l) {i : Nat} (hi : i < l.length) :
    ∃ b o, p = some ⟨b, o, none⟩ ∧ n = l.length ∧ n ≤ c ∧ W.cell? ⟨b, o + i * 4, none⟩ = some (.int .i64 l[i].who) ∧ W.cell? ⟨b, o + i * 4 + 1, none⟩ = some (.int .i64 l[i].met) ∧ W.cell? ⟨b, o + i * 4 + 2, none⟩ = some (.int .i64 l[i].ep) ∧ W.cell? ⟨b, o + i * 4 + 3, none⟩ = some (.int .i64 l[i].val) := by
  rcases h with ⟨e, rfl⟩ | ⟨b, o, cap, e, h1, h2, h3⟩
  · simp at hi
  · cases e
    obtain ⟨k0, k1, k2, k3⟩ := flatS_at l i hi
    exact ⟨b, o, rfl, rfl, h1, h3 _ _ k0, h3 _ _ k1, h3 _ _ k2, h3 _ _ k3⟩
theorem SAt.chg {W W' : World} {v : Value} {l : List Sm} {F : List Nat} (h : SAt W v l) (hc : Chg F W W') (hF : ∀ g, v.ownBlock = some g → g ∉ F) : SAt W' v l := by
  rcases h with h | ⟨b, o, cap, rfl, h1, h2, h3⟩
  · exact .inl h
  · exact .inr ⟨b, o, cap, rfl, h1, h2, fun j u hj => hc.cell (h3 j u hj) (hF b rfl)⟩
theorem SAt.grown {W W' : World} {v : Value} {l : List Sm} (h : SAt W v l) (hg : W.grownBy W' none) : SAt W' v l := h.chg (chg_grown hg []) (by simp)
theorem SAt.drew {W : World} {v : Value} {l : List Sm} (h : SAt W v l) : SAt W.drew v l := h
theorem SAt.alloc {W : World} {v : Value} {l : List Sm} (h : SAt W v l) (o : Obj) : SAt (W.alloc o) v l := h.grown (World.grownBy_alloc W o none)
/-- the first k; all from k on -/
theorem SAt.take {W : World} {b o n c k : Nat} {l : List Sm} (h : SAt W (.slice (some ⟨b, o, none⟩) n c) l) (hk : k ≤ n) : SAt W (.slice (some ⟨b, o, none⟩) k c) (l.take k) := by
  rcases h with ⟨h, _⟩ | ⟨b', o', cap, e, h1, h2, h3⟩
  · cases h
  · cases e
    have hl : (l.take k).length = k := by rw [List.length_take]; omega
    refine .inr ⟨b, o, c, by rw [hl], by omega, h2, fun j u hj => h3 j u ?_⟩
    have e : l = l.take k ++ l.drop k := (List.take_append_drop k l).symm
    rw [e, flatS_append, List.getElem?_append_left ((List.getElem?_eq_some_iff.1 hj).1)]
    exact hj
theorem SAt.drop {W : World} {b o n c k : Nat} {l : List Sm} (h : SAt W (.slice (some ⟨b, o, none⟩) n c) l) (hk : k ≤ n) : SAt W (.slice (some ⟨b, o + k * 4, none⟩) (n - k) (c - k)) (l.drop k) := by
  rcases h with ⟨h, _⟩ | ⟨b', o', cap, e, h1, h2, h3⟩
  · cases h
  · cases e
    have hl : (l.drop k).length = l.length - k := by rw [List.length_drop]
    refine .inr ⟨b, o + k * 4, c - k, by rw [hl], by omega, by omega, fun j u hj => ?_⟩
    have := h3 (k * 4 + j) u (by
      have e : l = l.take k ++ l.drop k := (List.take_append_drop k l).symm
      have hk4 : (flatS (l.take k)).length = k * 4 := by rw [flatS_len, List.length_take]; congr 1; omega
      rw [e, flatS_append, List.getElem?_append_right (by omega), hk4, Nat.add_sub_cancel_left]
      exact hj)
    rw [Nat.add_assoc]
    exact this
/-- a slice of samples of the call's own -/
def OwnZ (base : Nat) (w : World) (v : Value) (l : List Sm) : Prop := w.ownsRow base 91 4 v l.length (flatS l)
theorem OwnZ.nil (base : Nat) (w : World) : OwnZ base w (.slice none 0 0) [] := ⟨rfl, .inl ⟨rfl, rfl⟩⟩
theorem OwnZ.empty (w : World) : OwnZ w.heap.size (w.alloc (.cells #[] 91)) (.slice (some ⟨w.heap.size, 0, none⟩) 0 0) [] :=
  ⟨rfl, .inr ⟨w.heap.size, 0, #[], rfl, Nat.le_refl _, at_new w _, Nat.le_refl _, Nat.zero_le _, rfl, rfl⟩⟩
theorem OwnZ.form {base : Nat} {w : World} {v : Value} {l : List Sm} (h : OwnZ base w v l) : ∃ p c, v = .slice p l.length c := by
  obtain ⟨_, h | ⟨g, cap, cur, rfl, _⟩⟩ := h
  · exact ⟨none, 0, by rw [h.1, h.2]⟩
  · exact ⟨_, _, rfl⟩
theorem OwnZ.at {base : Nat} {w : World} {v : Value} {l : List Sm} (h : OwnZ base w v l) : ∀ g, v.ownBlock = some g → base ≤ g ∧ ∃ cs : Array Value, w.heap[g]? = some (.cells cs 91) := by
  intro g hg
  obtain ⟨_, h | ⟨g', cap, cur, rfl, hb, hh, _⟩⟩ := h
  · rw [h.1] at hg; simp [Value.ownBlock] at hg
  · simp [Value.ownBlock] at hg
    subst hg
    exact ⟨hb, cur, hh⟩
theorem OwnZ.lt {base : Nat} {w : World} {v : Value} {l : List Sm} (h : OwnZ base w v l) : ∀ g, v.ownBlock = some g → base ≤ g ∧ g < w.heap.size := fun g hg => by
  obtain ⟨h1, cs, h2⟩ := h.at g hg
  exact ⟨h1, at_lt h2⟩
theorem OwnZ.le {base base' : Nat} {w : World} {v : Value} {l : List Sm} (h : OwnZ base w v l) (hb : base' ≤ base) : OwnZ base' w v l := by
  obtain ⟨h0, h | ⟨g, cap, cur, rfl, hb', h1⟩⟩ := h
  · exact ⟨h0, .inl h⟩
  · exact ⟨h0, .inr ⟨g, cap, cur, rfl, Nat.le_trans hb hb', h1⟩⟩
theorem OwnZ.chg {base : Nat} {w w1 : World} {F : List Nat} {v : Value} {l : List Sm} (h : OwnZ base w v l) (hc : Chg F w w1) (hF : ∀ g, v.ownBlock = some g → g ∉ F) : OwnZ base w1 v l := by
  obtain ⟨h0, h | ⟨g, cap, cur, rfl, hb, hh, h1⟩⟩ := h
  · exact ⟨h0, .inl h⟩
  · exact ⟨h0, .inr ⟨g, cap, cur, rfl, hb, hc.at hh (hF g rfl), h1⟩⟩
theorem OwnZ.grown {base : Nat} {w w1 : World} {v : Value} {l : List Sm} (h : OwnZ base w v l) (hg : w.grownBy w1 none) : OwnZ base w1 v l := h.chg (chg_grown hg []) (by simp)
theorem OwnZ.drew {base : Nat} {w : World} {v : Value} {l : List Sm} (h : OwnZ base w v l) : OwnZ base w.drew v l := h
theorem OwnZ.reads {base : Nat} {w : World} {v : Value} {l : List Sm} (h : OwnZ base w v l) : SAt w v l := by
  obtain ⟨_, h | ⟨g, cap, cur, rfl, _, hh, h1, h2, h3, h4⟩⟩ := h
  · exact .inl ⟨h.1, List.eq_nil_of_length_eq_zero h.2⟩
  · refine .inr ⟨g, 0, cap, rfl, h1, h2, fun j u hj => ?_⟩
    have hlt : j < l.length * 4 := by rw [← flatS_len]; exact (List.getElem?_eq_some_iff.1 hj).1
    rw [Nat.zero_add, at_cell hh j, ← Array.getElem?_toList, ← hj, ← h4, List.getElem?_take, if_pos hlt]
/-- what was made meanwhile keeps what was there -/
theorem gb_ownZ {w w5 wc : World} {base : Nat} {v : Value} {l : List Sm} (h : w.grownBy w5 none) (ho : OwnZ base w5 v l) (hb : w.heap.size ≤ base) (hg : w5.grownBy wc v.ownBlock) : w.grownBy wc none :=
  gb_trans h hg (by
    cases hv : v.ownBlock with
    | none => exact .inl rfl
    | some g => exact .inr (.inr ⟨g, rfl, Nat.le_trans hb (ho.at g hv).1⟩))
theorem infoS : (Tryz.prog.info? 91).map (fun i => (i.zero, i.size, i.bytes)) = some (some (.agg #[.int .i64 0, .int .i64 0, .int .i64 0, .int .i64 0]), 4, 32) := by kernel_rfl
theorem zadd_at (b o i : Nat) : (⟨b, o, none⟩ : Addr).add i = ⟨b, o + i, none⟩ := by unfold Addr.add; split <;> simp_all
/-- append of samples to a slice of the call's own -/
theorem run_append_smp {w : World} {ty : TypeId} (base : Nat) (v : Value) (l : List Sm) (hown : OwnZ base w v l) (u : Value) (r : List Sm) (hr : SAt w u r) (hlen : l.length + r.length ≤ 1000000) (hbase : base ≤ w.heap.size) :
    ∃ v' w', (Builtin.append_ #[86, 86] ty #[v, u]).run Tryz.prog w = .ok v' w' ∧ OwnZ base w' v' (l ++ r) ∧ w.grownBy w' v.ownBlock ∧ (v'.ownBlock = v.ownBlock ∨ v'.ownBlock = some w.heap.size) := by
  obtain ⟨i, hi, hz0, hz1, hz2⟩ := info_parts infoS
  rcases hr with ⟨rfl, rfl⟩ | ⟨b, o, c, rfl, _, _, hc⟩
  · exact ⟨v, w, run_append_owned_none (P := Tryz.prog) (w := w) base 86 ty 91 i 4 Tryz.underlying86 hi v l.length (flatS l) hown, by simpa using hown, .refl _ _, .inl rfl⟩
  · obtain ⟨v', w', h0, h1, h2, _, h3⟩ := run_append_own_at (P := Tryz.prog) w base 86 ty 91 i _ 4 32 Tryz.underlying86 hi hz0 hz1 hz2 rfl (by omega) v l.length (flatS l) hown ⟨b, o, none⟩ r.length c (flatS r) (flatS_len r)
      (fun j y hj => by rw [zadd_at]; exact hc j y hj)
      (fun y hy => by
        obtain ⟨s, _, h⟩ := List.mem_flatMap.1 hy
        simp only [cellsS, List.mem_cons, List.not_mem_nil, or_false] at h
        rcases h with rfl | rfl | rfl | rfl <;> rfl)
      (by unfold maxLen; omega) (by omega) hbase
    exact ⟨v', w', h0, by unfold OwnZ; rw [List.length_append, flatS_append]; exact h1, h2, h3⟩
theorem wp_append_smp {w : World} {o : Oper} {a : Act} {K : Act → World → Prop} {Q : Exit → Act → World → Prop} (s x : Operand)
    (ho : o.op = .call { callee := .builtin .append, args := #[s, x], argTypes := #[86, 86] })
    (base : Nat) (v : Value) (l : List Sm) (hs : a.eval s = v) (hown : OwnZ base w v l) (u : Value) (r : List Sm) (hx : a.eval x = u) (hr : SAt w u r)
    (hlen : l.length + r.length ≤ 1000000) (hbase : base ≤ w.heap.size)
    (h : ∀ v' w', OwnZ base w' v' (l ++ r) → w.grownBy w' v.ownBlock → (v'.ownBlock = v.ownBlock ∨ v'.ownBlock = some w.heap.size) → K (a.put o.dst v') w') : o.wp Tryz.prog a w K Q := by
  obtain ⟨v', w', hrun, h1, h2, h3⟩ := run_append_smp (ty := o.type) base v l hown u r hr hlen hbase
  unfold Oper.wp execOp
  simp only [ho, resolve, invoke, builtin, Sem.run_bind, Sem.run_pure, Result.andThen_ok, List.map_toArray, List.map_cons, List.map_nil, hs, hx, hrun]
  exact h v' w' h1 h2 h3
theorem append_smp {w : World} {ops : Array Oper} {rest : List Oper} {o : Oper} {a : Act} {Q : Exit → Act → World → Prop} (hgd : o.guard = none) (s x : Operand)
    (ho : o.op = .call { callee := .builtin .append, args := #[s, x], argTypes := #[86, 86] })
    (base : Nat) (v : Value) (l : List Sm) (hs : a.eval s = v) (hown : OwnZ base w v l) (u : Value) (r : List Sm) (hx : a.eval x = u) (hr : SAt w u r)
    (hlen : l.length + r.length ≤ 1000000) (hbase : base ≤ w.heap.size)
    (h : ∀ v' w', OwnZ base w' v' (l ++ r) → w.grownBy w' v.ownBlock → (v'.ownBlock = v.ownBlock ∨ v'.ownBlock = some w.heap.size) → wpList Tryz.prog ops Q rest (a.put o.dst v') w') : wpList Tryz.prog ops Q (o :: rest) a w := by
  have hw : Region.wanted o (yielded ops a.tmps) = true := by unfold Region.wanted; rw [hgd]
  refine wpList_step fun K hK => ?_
  rw [if_pos hw]
  exact wp_append_smp s x ho base v l hs hown u r hx hr hlen hbase fun v' w' h1 h2 h3 => hK _ _ (h v' w' h1 h2 h3)
/-- one sample in a new block -/
theorem smp_new (w : World) (s : Sm) : SAt (w.alloc (.cells #[.int .i64 s.who, .int .i64 s.met, .int .i64 s.ep, .int .i64 s.val] 91)) (.slice (some ⟨w.heap.size, 0, none⟩) 1 1) [s] :=
  .inr ⟨_, 0, 1, rfl, Nat.le_refl _, by unfold maxLen; omega, fun j u hj => by
    rw [Nat.zero_add, at_cell (at_new w _) j]
    have e : flatS [s] = [.int .i64 s.who, .int .i64 s.met, .int .i64 s.ep, .int .i64 s.val] := rfl
    rw [e] at hj
    simpa using hj⟩
end Go.Proofs.YtecggbndlbkhdaaGreat
end
section
set_option linter.unusedSimpArgs false
set_option linter.unusedVariables false
namespace Go.Proofs.YtecggbndlbkhdaaGreat
set_option maxRecDepth 100000
open Go.RowKit

def cellsH (h : Hd) : List Value := [.bool h.1, .int .i64 h.2]
def flatH (H : List Hd) : List Value := H.flatMap cellsH
theorem flatH_get : ∀ (H : List Hd) (j : Nat), (flatH H)[j]? = (H[j / 2]?).map fun h => if j % 2 = 0 then .bool h.1 else .int .i64 h.2
  | [], j => by simp [flatH]
  | h :: H, 0 => by simp [flatH, cellsH]
  | h :: H, 1 => by simp [flatH, cellsH]
  | h :: H, j + 2 => by
    have e : flatH (h :: H) = cellsH h ++ flatH H := rfl
    have hl : (cellsH h).length = 2 := rfl
    rw [e, List.getElem?_append_right (by omega), hl, show j + 2 - 2 = j by omega, flatH_get H j, show (j + 2) / 2 = j / 2 + 1 by omega, show (j + 2) % 2 = j % 2 by omega]
    simp
theorem flatH_len (H : List Hd) : (flatH H).length = H.length * 2 := by
  induction H with
  | nil => rfl
  | cons h H ih =>
    have e : flatH (h :: H) = cellsH h ++ flatH H := rfl
    rw [e, List.length_append, ih]; simp [cellsH]; omega
theorem flatH_cnt {H : List Hd} {k : Nat} {h : Hd} (hk : H[k]? = some h) (c : Int) : (flatH H).set (k * 2 + 1) (.int .i64 c) = flatH (H.set k (h.1, c)) := by
  refine List.ext_getElem? fun j => ?_
  obtain ⟨hl, rfl⟩ := List.getElem?_eq_some_iff.1 hk
  rw [flatH_get, List.getElem?_set, List.getElem?_set, flatH_len]
  by_cases e : k * 2 + 1 = j
  · subst e
    rw [if_pos rfl, if_pos (by omega), if_pos (by omega), if_pos hl]; simp
  · rw [if_neg e, flatH_get]
    by_cases e2 : k = j / 2
    · rw [if_pos e2, if_pos (by omega), ← e2, List.getElem?_eq_getElem hl]
      have : j % 2 = 0 := by omega
      simp [this]
    · rw [if_neg e2]
theorem flatH_out {H : List Hd} {k : Nat} {h : Hd} (hk : H[k]? = some h) (o : Bool) : (flatH H).set (k * 2) (.bool o) = flatH (H.set k (o, h.2)) := by
  refine List.ext_getElem? fun j => ?_
  obtain ⟨hl, rfl⟩ := List.getElem?_eq_some_iff.1 hk
  rw [flatH_get, List.getElem?_set, List.getElem?_set, flatH_len]
  by_cases e : k * 2 = j
  · subst e
    rw [if_pos rfl, if_pos (by omega), if_pos (by omega), if_pos hl]; simp
  · rw [if_neg e, flatH_get]
    by_cases e2 : k = j / 2
    · rw [if_pos e2, if_pos (by omega), ← e2, List.getElem?_eq_getElem hl]
      have : ¬ j % 2 = 0 := by omega
      simp [this]
    · rw [if_neg e2]

/-- the program's score -/
structure ScAt (s : Sc) (b hb : Nat) (W : World) : Prop where
  obj : W.heap[b]? = some (.cells #[.slice (some ⟨hb, 0, none⟩) s.H.length s.H.length, .int .i64 s.st, .int .i64 s.pr, .int .i64 s.far] 233)
  row : W.heap[hb]? = some (.cells (flatH s.H).toArray 262)
  ok : s.wk
section
variable {s : Sc} {b hb : Nat} {W W' : World} {F : List Nat} {k : Nat} {h0 : Hd}
theorem ScAt.chg (h : ScAt s b hb W) (hc : Chg F W W') (h1 : b ∉ F) (h2 : hb ∉ F) : ScAt s b hb W' := ⟨hc.at h.obj h1, hc.at h.row h2, h.ok⟩
theorem ScAt.grown (h : ScAt s b hb W) (hg : W.grownBy W' none) : ScAt s b hb W' := h.chg (chg_grown hg []) (by simp) (by simp)
theorem ScAt.drew (h : ScAt s b hb W) : ScAt s b hb W.drew := ⟨h.obj, h.row, h.ok⟩
theorem ScAt.alloc (h : ScAt s b hb W) (o : Obj) : ScAt s b hb (W.alloc o) := h.grown (World.grownBy_alloc W o none)
theorem ScAt.lt (h : ScAt s b hb W) : b < W.heap.size ∧ hb < W.heap.size := ⟨at_lt h.obj, at_lt h.row⟩
theorem ScAt.ne (h : ScAt s b hb W) : b ≠ hb := by
  intro e
  have h1 := h.obj
  rw [e, h.row] at h1
  have h2 : 262 = 233 := by injection h1 with h1; injection h1
  exact absurd h2 (by decide)
theorem ScAt.cells (h : ScAt s b hb W) : W.cell? ⟨b, 0, none⟩ = some (.slice (some ⟨hb, 0, none⟩) s.H.length s.H.length) ∧ W.cell? ⟨b, 1, none⟩ = some (.int .i64 s.st) ∧ W.cell? ⟨b, 2, none⟩ = some (.int .i64 s.pr) ∧ W.cell? ⟨b, 3, none⟩ = some (.int .i64 s.far) :=
  ⟨at_cell h.obj 0, at_cell h.obj 1, at_cell h.obj 2, at_cell h.obj 3⟩
theorem ScAt.part (h : ScAt s b hb W) (hk : s.H[k]? = some h0) : W.cell? ⟨hb, k * 2, none⟩ = some (.bool h0.1) ∧ W.cell? ⟨hb, k * 2 + 1, none⟩ = some (.int .i64 h0.2) := by
  constructor
  · rw [at_cell h.row, List.getElem?_toArray, flatH_get, show k * 2 / 2 = k by omega, hk]; simp
  · rw [at_cell h.row, List.getElem?_toArray, flatH_get, show (k * 2 + 1) / 2 = k by omega, hk]; simp
theorem ScAt.free (h : ScAt s b hb W) (i : Nat) : W.frozen? ⟨hb, i, none⟩ = false := at_free h.row i
theorem Sc.put_ok (h : s.wk) {c : Hd} (hc : 0 ≤ c.2 ∧ c.2 ≤ 1000) : (s.put k c).wk :=
  ⟨by simpa [Sc.put] using h.n1, by simpa [Sc.put] using h.n16, h.st, h.pr, h.far, fun x hx => by
    rcases List.mem_or_eq_of_mem_set hx with hx | rfl
    · exact h.cnt x hx
    · exact hc⟩
theorem ScAt.cnt (h : ScAt s b hb W) (hk : s.H[k]? = some h0) {c : Int} (hc : 0 ≤ c ∧ c ≤ 1000) : ScAt (s.put k (h0.1, c)) b hb (W.setCell ⟨hb, k * 2 + 1, none⟩ (.int .i64 c)) ∧ Chg [hb] W (W.setCell ⟨hb, k * 2 + 1, none⟩ (.int .i64 c)) := by
  refine ⟨⟨?_, ?_, Sc.put_ok h.ok hc⟩, (chg_refl W [hb]).set (.inl (by simp)) _⟩
  · have := at_set_other h.obj (p := ⟨hb, k * 2 + 1, none⟩) h.ne (.int .i64 c)
    simpa [Sc.put] using this
  · have := at_set h.row (k * 2 + 1) (.int .i64 c)
    rw [this, List.setIfInBounds_toArray, flatH_cnt hk]; rfl
theorem ScAt.out (h : ScAt s b hb W) (hk : s.H[k]? = some h0) (o : Bool) : ScAt (s.put k (o, h0.2)) b hb (W.setCell ⟨hb, k * 2, none⟩ (.bool o)) ∧ Chg [hb] W (W.setCell ⟨hb, k * 2, none⟩ (.bool o)) := by
  have hm := h.ok.cnt h0 (List.mem_of_getElem? hk)
  refine ⟨⟨?_, ?_, Sc.put_ok h.ok hm⟩, (chg_refl W [hb]).set (.inl (by simp)) _⟩
  · have := at_set_other h.obj (p := ⟨hb, k * 2, none⟩) h.ne (.bool o)
    simpa [Sc.put] using this
  · have := at_set h.row (k * 2) (.bool o)
    rw [this, List.setIfInBounds_toArray, flatH_out hk]; rfl
theorem Sc.put_at (hk : s.H[k]? = some h0) (c : Hd) : (s.put k c).H[k]? = some c := by
  obtain ⟨hl, rfl⟩ := List.getElem?_eq_some_iff.1 hk
  simp [Sc.put, hl]
theorem Sc.put_put (c d : Hd) : (s.put k c).put k d = s.put k d := by simp [Sc.put]
end
theorem sfind_in {s : Sc} {b hb : Nat} {w : World} (h : ScAt s b hb w) (k : Nat) (hk : k < s.H.length) :
    Calls Tryz.prog 144 #[.pointer (some ⟨b, 0, none⟩), .int .i64 (k : Int)] w fun e w' => e = .returned (.tuple #[.pointer (some ⟨hb, k * 2, none⟩), .int .i64 0]) ∧ w = w' := by
  obtain ⟨c0, c1, c2, c3⟩ := h.cells
  have h16 := h.ok.n16
  generalize s.H.length = n at *
  clear h
  go_enter Tryz.func144, Tryz.ntmps144
  go_wp2
  go_ret2
  exact ⟨rfl, rfl⟩
theorem sfind_out {s : Sc} {b hb : Nat} {w : World} (h : ScAt s b hb w) (who : Int) (hk : ¬ (0 ≤ who ∧ who < (s.H.length : Int))) :
    Calls Tryz.prog 144 #[.pointer (some ⟨b, 0, none⟩), .int .i64 who] w fun e w' => e = .returned (.tuple #[.pointer none, .int .i64 3]) ∧ w = w' := by
  obtain ⟨c0, c1, c2, c3⟩ := h.cells
  have h16 := h.ok.n16
  generalize s.H.length = n at *
  clear h
  by_cases h0 : who < 0
  · clear hk
    go_enter Tryz.func144, Tryz.ntmps144
    go_wp2
    go_ret2
    exact ⟨rfl, rfl⟩
  · have h1 : ¬ who < (n : Int) := by omega
    clear hk
    go_enter Tryz.func144, Tryz.ntmps144
    go_wp2
    go_ret2
    exact ⟨rfl, rfl⟩
theorem sout_any {s : Sc} {b hb : Nat} {w : World} (h : ScAt s b hb w) (who : Int) :
    Calls Tryz.prog 69 #[.pointer (some ⟨b, 0, none⟩), .int .i64 who] w fun e w' => e = .returned (.bool (outL s.H who)) ∧ w = w' := by
  by_cases hw : 0 ≤ who ∧ who < (s.H.length : Int)
  · obtain ⟨k, rfl⟩ : ∃ k : Nat, who = (k : Int) := ⟨who.toNat, by omega⟩
    have hk : k < s.H.length := by omega
    have hget := List.getElem?_eq_getElem hk
    have HF := hid (sfind_in h k hk)
    obtain ⟨p0, p1⟩ := h.part hget
    rw [outL_in hget]
    generalize s.H[k] = h0 at *
    obtain ⟨o, c⟩ := h0
    clear h hget hw
    go_enter Tryz.func69, Tryz.ntmps69
    go_wp2_with fail
    refine HF.out.mono ?_
    rintro e w1 ⟨rfl, rfl⟩
    clear HF
    go_wp2_with fail
    go_ret
    exact ⟨rfl, rfl⟩
  · have HF := hid (sfind_out h who hw)
    rw [outL_out hw]
    clear h hw
    go_enter Tryz.func69, Tryz.ntmps69
    go_wp2_with fail
    refine HF.out.mono ?_
    rintro e w1 ⟨rfl, rfl⟩
    clear HF
    go_wp2_with fail
    go_ret
    exact ⟨rfl, rfl⟩
end Go.Proofs.YtecggbndlbkhdaaGreat
end
