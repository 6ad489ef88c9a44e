/-
  Contracts of the functions that only compute with words: a turn to the left by the counts that the program uses, and a round, of the program and of the document's own answer: each is the same function of words. No condition. And 4 texts more that this one stands on. No condition.
-/
import Derived.Test.YtgpdcapnnejdeaaGreatRows
import Derived.Test.YtgpdcapnnejdeaaGreatY1
import Derived.WalkSpells
import Derived.WalkLawsBesides
import Derived.WalkKit
import Derived.Laws.Rows
import Derived.Laws.Tables
import Derived.Deep.WholeRow
import Derived.Great.Walk
section
namespace Go.Proofs.YtgpdcapnnejdeaaGreat
set_option maxRecDepth 100000
open Go.RowKit

def rotl (x : BitVec 64) (n : Nat) : BitVec 64 := (x <<< n) ||| (x >>> (64 - n))

theorem and63 (n : Int) (h0 : 0 ≤ n) (h1 : n < 64) : bits .and .u64 n 63 = n := by
 obtain ⟨m, rfl⟩ := Int.eq_ofNat_of_zero_le h0
 have hm : m < 64 := by omega
 show IntKind.u64.wrap ((BitVec.ofInt 64 (m : Int) &&& BitVec.ofInt 64 63).toNat : Int) = _
 rw [wrap_toNat]; unfold q
 rw [BitVec.toNat_and, BitVec.ofInt_natCast, BitVec.toNat_ofNat]
 have e : (BitVec.ofInt 64 63).toNat = 2 ^ 6 - 1 := by decide
 rw [e, Nat.and_two_pow_sub_one_eq_mod]
 omega

set_option maxHeartbeats 400000 in
theorem rot_any (x : BitVec 64) (n : Nat) (h0 : 1 ≤ n) (h1 : n < 64) (w : World) :
  Calls Tryz.prog 140 #[.int .u64 (q x), .int .i64 (n : Int)] w fun e w' => e = .returned (.int .u64 (q (rotl x n))) ∧ w = w' := by
 have ha := and63 (n : Int) (by omega) (by omega)
 have hs : IntKind.u64.wrap (64 - (n : Int)) = 64 - (n : Int) := by rw [IntKind.wrap_u64]; omega
 have hs1 : (64 - (n : Int)).toNat = 64 - n := by omega
 have hs0 : 0 ≤ 64 - (n : Int) := by omega
 go_enter Tryz.func140, Tryz.ntmps140
 go_wp2_with fail
 go_ret
 exact ⟨rfl, rfl⟩

theorem rot_int (x : BitVec 64) (n : Int) (h0 : 1 ≤ n) (h1 : n < 64) (w : World) :
  Calls Tryz.prog 140 #[.int .u64 (q x), .int .i64 n] w fun e w' => e = .returned (.int .u64 (q (rotl x n.toNat))) ∧ w = w' := by
 obtain ⟨m, rfl⟩ := Int.eq_ofNat_of_zero_le (show 0 ≤ n by omega)
 exact rot_any x m (by omega) (by omega) w

def rnd (a b c d : BitVec 64) : BitVec 64 × BitVec 64 × BitVec 64 × BitVec 64 :=
 let a1 := a + b
 let b1 := rotl b 13 ^^^ a1
 let a2 := rotl a1 32
 let c1 := c + d
 let d1 := rotl d 16 ^^^ c1
 let a3 := a2 + d1
 let d2 := rotl d1 21 ^^^ a3
 let c2 := c1 + b1
 let b2 := rotl b1 17 ^^^ c2
 (a3, b2, rotl c2 32, d2)

@[reducible] def q4 (r : BitVec 64 × BitVec 64 × BitVec 64 × BitVec 64) : Value :=
 .tuple #[.int .u64 (q r.1), .int .u64 (q r.2.1), .int .u64 (q r.2.2.1), .int .u64 (q r.2.2.2)]

set_option maxHeartbeats 400000 in
theorem round_any (a b c d : BitVec 64) (w : World) :
  Calls Tryz.prog 137 #[.int .u64 (q a), .int .u64 (q b), .int .u64 (q c), .int .u64 (q d)] w fun e w' => e = .returned (q4 (rnd a b c d)) ∧ w = w' := by
 go_enter Tryz.func137, Tryz.ntmps137
 go_wp2_with (go_at_call 140; (with_reducible refine (rot_int _ _ (by omega) (by omega) _).mono ?_); rintro e w' ⟨rfl, rfl⟩)
 refine bodyPost_ret (v := q4 (rnd a b c d)) (by simp [results, Tryz.results137, go_sem, q4, rnd]) rfl ⟨rfl, rfl⟩

set_option maxHeartbeats 400000 in
theorem turn_any (x : BitVec 64) (n : Nat) (h0 : 1 ≤ n) (h1 : n < 64) (w : World) :
  Calls Tryz.prog 135 #[.int .u64 (q x), .int .u64 (n : Int)] w fun e w' => e = .returned (.int .u64 (q (rotl x n))) ∧ w = w' := by
 have hs : IntKind.u64.wrap (64 - (n : Int)) = 64 - (n : Int) := by rw [IntKind.wrap_u64]; omega
 have hs1 : (64 - (n : Int)).toNat = 64 - n := by omega
 have hs0 : 0 ≤ 64 - (n : Int) := by omega
 go_enter Tryz.func135, Tryz.ntmps135
 go_wp2_with fail
 go_ret
 exact ⟨rfl, rfl⟩
theorem turn_int (x : BitVec 64) (n : Int) (h0 : 1 ≤ n) (h1 : n < 64) (w : World) :
  Calls Tryz.prog 135 #[.int .u64 (q x), .int .u64 n] w fun e w' => e = .returned (.int .u64 (q (rotl x n.toNat))) ∧ w = w' := by
 obtain ⟨m, rfl⟩ := Int.eq_ofNat_of_zero_le (show 0 ≤ n by omega)
 exact turn_any x m (by omega) (by omega) w

set_option maxHeartbeats 400000 in
theorem refround_any (a b c d : BitVec 64) (w : World) :
  Calls Tryz.prog 123 #[.int .u64 (q a), .int .u64 (q b), .int .u64 (q c), .int .u64 (q d)] w fun e w' => e = .returned (q4 (rnd a b c d)) ∧ w = w' := by
 go_enter Tryz.func123, Tryz.ntmps123
 go_wp2_with (go_at_call 135; (with_reducible refine (turn_int _ _ (by omega) (by omega) _).mono ?_); rintro e w' ⟨rfl, rfl⟩)
 refine bodyPost_ret (v := q4 (rnd a b c d)) (by simp [results, Tryz.results123, go_sem, q4, rnd]) rfl ⟨rfl, rfl⟩
end Go.Proofs.YtgpdcapnnejdeaaGreat
end
section
namespace Go.Proofs.YtgpdcapnnejdeaaGreat
set_option maxRecDepth 100000
open Go.RowKit

structure W4 where
 a : BitVec 64
 b : BitVec 64
 c : BitVec 64
 d : BitVec 64
def W4.of (r : BitVec 64 × BitVec 64 × BitVec 64 × BitVec 64) : W4 := ⟨r.1, r.2.1, r.2.2.1, r.2.2.2⟩
@[reducible] def W4.val (v : W4) : Value := .agg #[.int .u64 (q v.a), .int .u64 (q v.b), .int .u64 (q v.c), .int .u64 (q v.d)]
def rnds : Nat → W4 → W4
 | 0, v => v
 | n + 1, v => W4.of (rnd (rnds n v).a (rnds n v).b (rnds n v).c (rnds n v).d)
def stirred (v : W4) (m : BitVec 64) : W4 :=
 let r := rnds 2 ⟨v.a, v.b, v.c, v.d ^^^ m⟩
 ⟨r.a ^^^ m, r.b, r.c, r.d⟩

set_option maxHeartbeats 400000 in
theorem rounds_any (v : W4) (n : Nat) (hn : n ≤ 1000) (w : World) :
  Calls Tryz.prog 132 #[.agg #[.int .u64 (q v.a), .int .u64 (q v.b), .int .u64 (q v.c), .int .u64 (q v.d)], .int .i64 (n : Int)] w fun e w' => e = .returned (rnds n v).val ∧ w.grownBy w' none := by
 go_enter Tryz.func132, Tryz.ntmps132
 go_wp2_with fail
 go_loopw [6, 8] (fun i _ wr => ∃ k : Nat, k ≤ n ∧ i = .int .i64 (k : Int) ∧ wr = (w.alloc (.cells #[.int .u64 (q (rnds k v).a), .int .u64 (q (rnds k v).b), .int .u64 (q (rnds k v).c), .int .u64 (q (rnds k v).d)] 212)).alloc (.cells #[.int .u64 0, .int .u64 0, .int .u64 0, .int .u64 0] 212)) (fun i _ _ => n - (intOf i).toNat)
 case atStart => exact ⟨0, Nat.zero_le _, rfl, rfl⟩
 case round =>
  obtain ⟨k, hk, rfl, rfl⟩ := hrel
  by_cases hlt : k < n
  ·go_wp2_with (go_at_call 137; (with_reducible refine (round_any _ _ _ _ _).mono ?_); rintro e w' ⟨rfl, rfl⟩)
   go_roundw
   case rel => exact ⟨k + 1, by omega, by go_num, rfl⟩
   case measure => simp [intOf]; omega
  ·have hkn : k = n := by omega
   subst hkn
   go_wp2_with fail
   exact bodyPost_ret (v := (rnds k v).val) (by simp [results, Tryz.results132, go_sem, W4.val]) rfl ⟨rfl, gb_alloc (gb_alloc (.refl _ _) _) _⟩

set_option maxHeartbeats 400000 in
theorem stir_any (v : W4) (m : BitVec 64) (w : World) :
  Calls Tryz.prog 131 #[.agg #[.int .u64 (q v.a), .int .u64 (q v.b), .int .u64 (q v.c), .int .u64 (q v.d)], .int .u64 (q m)] w fun e w' => e = .returned (stirred v m).val ∧ w.grownBy w' none := by
 go_enter Tryz.func131, Tryz.ntmps131
 go_wp2_with (fail)
 refine (rounds_any ⟨v.a, v.b, v.c, v.d ^^^ m⟩ 2 (by omega) _).mono ?_
 rintro e w' ⟨rfl, hg⟩
 have hb0 := at_grown (at_alloc (at_new w _) _) hg (by simp)
 have hb1 : w'.heap[w.heap.size + 1]? = _ := at_grown (b := w.heap.size + 1) (by simpa using at_new (w.alloc _) _) hg (by simp)
 have c0 : w'.cell? ⟨w.heap.size, 0, none⟩ = some (.int .u64 (q v.a)) := at_cell hb0 0
 have c1 : w'.cell? ⟨w.heap.size, 1, none⟩ = some (.int .u64 (q v.b)) := at_cell hb0 1
 have c2 : w'.cell? ⟨w.heap.size, 2, none⟩ = some (.int .u64 (q v.c)) := at_cell hb0 2
 have c3 : w'.cell? ⟨w.heap.size, 3, none⟩ = some (.int .u64 (q (v.d ^^^ m))) := at_cell hb0 3
 have f0 := fun i => at_free hb0 i
 have d0 : w'.cell? ⟨w.heap.size + 1, 0, none⟩ = some (.int .u64 0) := at_cell hb1 0
 have d1 : w'.cell? ⟨w.heap.size + 1, 1, none⟩ = some (.int .u64 0) := at_cell hb1 1
 have d2 : w'.cell? ⟨w.heap.size + 1, 2, none⟩ = some (.int .u64 0) := at_cell hb1 2
 have d3 : w'.cell? ⟨w.heap.size + 1, 3, none⟩ = some (.int .u64 0) := at_cell hb1 3
 have f1 := fun i => at_free hb1 i
 clear hb0 hb1
 go_wp2_with fail
 refine bodyPost_ret (v := (stirred v m).val) (by simp [results, Tryz.results131, go_sem, stirred, d0, d1, d2, d3]) rfl ⟨rfl, ?_⟩
 have hg1 := gb_trans (gb_alloc (gb_alloc (.refl w none) _) _) hg (.inl rfl)
 exact gb_new (gb_new (gb_new (gb_new (gb_new (gb_new (gb_new (gb_new (gb_new hg1 (by simp) _) (by simp) _) (by simp) _) (by simp) _) (by simp) _) (by simp) _) (by simp) _) (by simp) _) (by simp) _
end Go.Proofs.YtgpdcapnnejdeaaGreat
end
section
namespace Go.Proofs.YtgpdcapnnejdeaaGreat
set_option maxRecDepth 100000
open Go.RowKit

section
variable {P : Program} {ops : Array Oper} {rest : List Oper} {o : Oper} {a : Act} {w : World} {Q : Exit → Act → World → Prop} {b : Nat} {t ty : TypeId} {x y : Operand} {dst : Option Tmp} {d : TypeDesc} {cs old : Array Value}

theorem wpList_row {fr : Nat × Nat} (h : w.heap[b]? = some (.cells cs t fr)) (hu : P.underlying ty = some d) (hd : (match d with | .struct _ | .array _ _ => true | _ => false) = true) (hi : (P.info? ty).map (·.size) = some cs.size)
  (hg : o.guard = none) (ho : o.op = .load ty x) (hdst : o.dst = dst) (hx : a.eval x = .pointer (some ⟨b, 0, none⟩))
  (k : wpList P ops Q rest (a.put dst (.agg cs)) w) : wpList P ops Q (o :: rest) a w := by
 refine Great.wpList_readTo hg dst hdst (.agg cs) ?_ k
 simp only [execOp, ho, hx, Sem.run_bind, Instr.loadAt, Instr.sureAddr, Sem.run_pure, Result.andThen_ok, run_loadVar_row w b t ty cs fr d h hu hd hi]

theorem wpList_row_w {fr : Nat × Nat} (h : w.heap[b]? = some (.cells cs t fr)) (hu : P.underlying ty = some d) (hd : (match d with | .struct _ | .array _ _ => true | _ => false) = true) (hi : (P.info? ty).map (·.size) = some cs.size)
  (hw : Region.wanted o (yielded ops a.tmps) = true) (ho : o.op = .load ty x) (hdst : o.dst = dst) (hx : a.eval x = .pointer (some ⟨b, 0, none⟩))
  (k : wpList P ops Q rest (a.put dst (.agg cs)) w) : wpList P ops Q (o :: rest) a w := by
 subst hdst
 refine wpList_step fun K hK => ?_
 simp only [hw, if_true]
 unfold Oper.wp
 have e : (execOp a.eval o).run P w = .ok (.value (.agg cs)) w := by
  simp only [execOp, ho, hx, Sem.run_bind, Instr.loadAt, Instr.sureAddr, Sem.run_pure, Result.andThen_ok, run_loadVar_row w b t ty cs fr d h hu hd hi]
 rw [e, Oper.upon_value]
 exact hK _ _ k

theorem wpList_store_row (h : w.heap[b]? = some (.cells old t (0, 0))) (hi : (P.info? ty).map (·.size) = some cs.size) (hsz : old.size = cs.size) (h1 : cs.all (·.oneCell') = true)
  (hg : o.guard = none) (ho : o.op = .store ty x y) (hdst : o.dst = none) (hx : a.eval x = .pointer (some ⟨b, 0, none⟩)) (hy : a.eval y = .agg cs)
  (k : wpList P ops Q rest a (w.setRow b cs)) : wpList P ops Q (o :: rest) a w := by
 refine wpList_plain hg fun K hK => ?_
 unfold Oper.wp
 have e : (execOp a.eval o).run P w = .ok .skip (w.setRow b cs) := by
  simp only [execOp, ho, hx, hy, Sem.run_bind, Instr.storeAt, Instr.sureAddr, Sem.run_pure, Result.andThen_ok, run_storeVar_row w b t ty old cs h hi hsz h1]
 rw [e, Oper.upon_skip, hdst]
 exact hK _ _ k

theorem wpList_store_new {n : Nat} (hn : w.heap.size = n) (hi : (P.info? ty).map (·.size) = some cs.size) (hsz : old.size = cs.size) (h1 : cs.all (·.oneCell') = true)
  (hg : o.guard = none) (ho : o.op = .store ty x y) (hdst : o.dst = none) (hx : a.eval x = .pointer (some ⟨n, 0, none⟩)) (hy : a.eval y = .agg cs)
  (k : wpList P ops Q rest a (w.alloc (.cells cs t))) : wpList P ops Q (o :: rest) a (w.alloc (.cells old t)) :=
 wpList_store_row (heap_alloc_last w _) hi hsz h1 hg ho hdst (by rw [hn]; exact hx) hy (by rw [World.setRow_alloc_new]; exact k)

theorem wpList_buildTo {parts : Array (Nat × Operand)} (hg : o.guard = none) (ho : o.op = .build ty parts) (hdst : o.dst = dst)
  (hb : P.built ty (parts.map fun (i, x) => (i, a.eval x)).toList = some cs)
  (k : wpList P ops Q rest (a.put dst (.agg cs)) w) : wpList P ops Q (o :: rest) a w := by
 refine Great.wpList_readTo hg dst hdst (.agg cs) ?_ k
 have e := run_build (P := P) w ty (parts.map fun (i, x) => (i, a.eval x)) cs hb
 simp only [execOp, ho, Sem.run_bind, e, Sem.run_pure, Result.andThen_ok]

theorem exec_row {ρ : Operand → Value} {fr : Nat × Nat} (h : w.heap[b]? = some (.cells cs t fr)) (hu : P.underlying ty = some d) (hd : (match d with | .struct _ | .array _ _ => true | _ => false) = true) (hi : (P.info? ty).map (·.size) = some cs.size)
  (ho : o.op = .load ty x) (hx : ρ x = .pointer (some ⟨b, 0, none⟩)) : (execOp ρ o).run P w = .ok (.value (.agg cs)) w := by
 simp only [execOp, ho, hx, Sem.run_bind, Instr.loadAt, Instr.sureAddr, Sem.run_pure, Result.andThen_ok, run_loadVar_row w b t ty cs fr d h hu hd hi]
theorem exec_build {ρ : Operand → Value} {parts : Array (Nat × Operand)} (ho : o.op = .build ty parts) (hb : P.built ty (parts.map fun (i, x) => (i, ρ x)).toList = some cs) : (execOp ρ o).run P w = .ok (.value (.agg cs)) w := by
 have e := run_build (P := P) w ty (parts.map fun (i, x) => (i, ρ x)) cs hb
 simp only [execOp, ho, Sem.run_bind, e, Sem.run_pure, Result.andThen_ok]
end

theorem at_setRow {w : World} {b : Nat} {old cs : Array Value} {t : TypeId} {f : Nat × Nat} (h : w.heap[b]? = some (.cells old t f)) : (w.setRow b cs).heap[b]? = some (.cells cs t f) := by
 simp [World.setRow, Array.getElem?_modify, h]
theorem at_setRow_other {w : World} {b k : Nat} {cs : Array Value} {o : Option Obj} (h : w.heap[k]? = o) (hk : k ≠ b) : (w.setRow b cs).heap[k]? = o := by
 simp [World.setRow, Array.getElem?_modify, Ne.symm hk, h]
end Go.Proofs.YtgpdcapnnejdeaaGreat
end
section
set_option linter.unusedSimpArgs false
namespace Go.Proofs.YtgpdcapnnejdeaaGreat
set_option maxRecDepth 100000
open Go.RowKit

structure Conf where
 (n f m quorum fresh grace window t0 t1 t2 t3 tol min max calmup calmdown podsup pctup podsdown pctdown period far strikes probe sectors seed : Int)
@[reducible] def Conf.cells (c : Conf) : Array Value := #[.int .i64 c.n, .int .i64 c.f, .int .i64 c.m, .int .i64 c.quorum, .int .i64 c.fresh, .int .i64 c.grace, .int .i64 c.window, .int .i64 c.t0, .int .i64 c.t1, .int .i64 c.t2, .int .i64 c.t3, .int .i64 c.tol, .int .i64 c.min, .int .i64 c.max, .int .i64 c.calmup, .int .i64 c.calmdown, .int .i64 c.podsup, .int .i64 c.pctup, .int .i64 c.podsdown, .int .i64 c.pctdown, .int .i64 c.period, .int .i64 c.far, .int .i64 c.strikes, .int .i64 c.probe, .int .i64 c.sectors, .int .u64 c.seed]
@[reducible] def cf (c : Conf) : Value := .agg c.cells

def cwithin (n lo hi : Int) : Bool := decide (lo ≤ n) && decide (n ≤ hi)

theorem cwithin_any (n lo hi : Int) (w : World) :
  Calls Tryz.prog 119 #[.int .i64 n, .int .i64 lo, .int .i64 hi] w fun e w' => e = .returned (.bool (cwithin n lo hi)) ∧ w' = w := by
 unfold cwithin
 by_cases h1 : lo ≤ n <;> by_cases h2 : n ≤ hi <;> (
 go_enter Tryz.func119, Tryz.ntmps119
 go_wp2_with fail
 go_ret
 simp [h1, h2])
theorem cwithin64_any (n lo hi : Int) (w : World) :
  Calls Tryz.prog 121 #[.int .i64 n, .int .i64 lo, .int .i64 hi] w fun e w' => e = .returned (.bool (cwithin n lo hi)) ∧ w' = w := by
 unfold cwithin
 by_cases h1 : lo ≤ n <;> by_cases h2 : n ≤ hi <;> (
 go_enter Tryz.func121, Tryz.ntmps121
 go_wp2_with fail
 go_ret
 simp [h1, h2])
theorem cin_any (n lo hi : Int) (w : World) :
  Calls Tryz.prog 107 #[.int .i64 n, .int .i64 lo, .int .i64 hi] w fun e w' => e = .returned (.bool (cwithin n lo hi)) ∧ w' = w := by
 unfold cwithin
 by_cases h1 : lo ≤ n <;> by_cases h2 : n ≤ hi <;> (
 go_enter Tryz.func107, Tryz.ntmps107
 go_wp2_with fail
 go_ret
 simp [h1, h2])

structure BoxC (w : World) (c : Conf) (w' : World) : Prop where
 box : w'.heap[w.heap.size]? = some (.cells c.cells 27)
 g : w.grownBy w' none
theorem BoxC.grown {w : World} {c : Conf} {w1 w2 : World} (h : BoxC w c w1) (hg : w1.grownBy w2 none) : BoxC w c w2 := ⟨at_grown h.box hg (by simp), gb_trans h.g hg (.inl rfl)⟩
theorem BoxC.drew {w : World} {c : Conf} {w1 : World} (h : BoxC w c w1) : BoxC w c w1.drew := ⟨h.box, gb_drew h.g⟩
theorem boxc_new (w : World) (c : Conf) : BoxC w c (w.alloc (.cells c.cells 27)) := ⟨at_new w _, gb_alloc (.refl w none) _⟩

theorem load_conf {w : World} {b : Nat} {c : Conf} {t : TypeId} {fr : Nat × Nat} (h : w.heap[b]? = some (.cells c.cells t fr)) :
  (loadVar 27 ⟨b, 0, none⟩).run Tryz.prog w = .ok (cf c) w :=
 run_loadVar_row w b t 27 c.cells fr _ h Tryz.underlying27 rfl (by kernel_rfl)

theorem loadAt_conf {w : World} {b : Nat} {c : Conf} {t : TypeId} {fr : Nat × Nat} (h : w.heap[b]? = some (.cells c.cells t fr)) :
  (Instr.loadAt 27 (.pointer (some ⟨b, 0, none⟩))).run Tryz.prog w = .ok (cf c) w := by
 simp only [Instr.loadAt, Instr.sureAddr, Sem.run_bind, Sem.run_pure, Result.andThen_ok, load_conf h]

theorem wpList_conf {ops : Array Oper} {rest : List Oper} {o : Oper} {a : Act} {w : World} {Q : Exit → Act → World → Prop} {b : Nat} {c : Conf} {t : TypeId} {fr : Nat × Nat} {x : Operand} {dst : Option Tmp}
  (h : w.heap[b]? = some (.cells c.cells t fr)) (hg : o.guard = none) (ho : o.op = .load 27 x) (hdst : o.dst = dst) (hx : a.eval x = .pointer (some ⟨b, 0, none⟩))
  (k : wpList Tryz.prog ops Q rest (a.put dst (cf c)) w) : wpList Tryz.prog ops Q (o :: rest) a w := by
 refine Great.wpList_readTo hg dst hdst (cf c) ?_ k
 simp only [execOp, ho, hx, Sem.run_bind, loadAt_conf h, Result.andThen]
 rfl

end Go.Proofs.YtgpdcapnnejdeaaGreat
end
section
set_option linter.unusedSimpArgs false
namespace Go.Proofs.YtgpdcapnnejdeaaGreat
set_option maxRecDepth 100000
open Go.RowKit

@[reducible] def dflt : Conf := ⟨4, 1, 1, 3, 2, 2, 32, 1000, 0, 0, 0, 100, 1, 100, 0, 3, 4, 100, 4, 50, 2, 100, 3, 4, 256, 1⟩
@[reducible] def zeroC : Conf := ⟨0, 0, 0, 0, 0, 0, 0, 0, 0, 0, 0, 0, 0, 0, 0, 0, 0, 0, 0, 0, 0, 0, 0, 0, 0, 0⟩

theorem default_any (w : World) :
  Calls Tryz.prog 46 #[] w fun e w' => e = .returned (cf dflt) ∧ w.grownBy w' none := by
 go_enter Tryz.func46, Tryz.ntmps46
 go_wp2_with (first | refine wpList_buildTo (ty := 24) (cs := #[.int .i64 1000, .int .i64 0, .int .i64 0, .int .i64 0]) rfl rfl rfl (by kernel_rfl) ?_ | refine wpList_buildTo (ty := 27) (cs := dflt.cells) rfl rfl rfl (by kernel_rfl) ?_ | refine wpList_store_new (cs := dflt.cells) rfl (by kernel_rfl) (by kernel_rfl) (by kernel_rfl) rfl rfl rfl rfl rfl ?_)
 refine bodyPost_ret (v := cf dflt) ?_ rfl ⟨rfl, gb_alloc (.refl w none) _⟩
 exact results_cell_row rfl _ _ w.heap.size 27 dflt.cells (0, 0) _ rfl (heap_alloc_last _ _) Tryz.underlying27 rfl (by kernel_rfl)
theorem refdefault_any (w : World) :
  Calls Tryz.prog 39 #[] w fun e w' => e = .returned (cf dflt) ∧ w.grownBy w' none := by
 go_enter Tryz.func39, Tryz.ntmps39
 go_wp2_with (first | refine wpList_buildTo (ty := 24) (cs := #[.int .i64 1000, .int .i64 0, .int .i64 0, .int .i64 0]) rfl rfl rfl (by kernel_rfl) ?_ | refine wpList_buildTo (ty := 27) (cs := dflt.cells) rfl rfl rfl (by kernel_rfl) ?_ | refine wpList_store_new (cs := dflt.cells) rfl (by kernel_rfl) (by kernel_rfl) (by kernel_rfl) rfl rfl rfl rfl rfl ?_)
 refine bodyPost_ret (v := cf dflt) ?_ rfl ⟨rfl, gb_alloc (.refl w none) _⟩
 exact results_cell_row rfl _ _ w.heap.size 27 dflt.cells (0, 0) _ rfl (heap_alloc_last _ _) Tryz.underlying27 rfl (by kernel_rfl)
end Go.Proofs.YtgpdcapnnejdeaaGreat
end
