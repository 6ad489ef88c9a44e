/-
  Contract: whether a message may be, as the document has it. No condition.
  Contracts for the document's own messages as bytes. No condition.
  Contracts: whether a message may be, as the program and as the document has it; a message's first eight bytes as a number. No condition.
  Contract for wire.Put: a message's 32 bytes, in a slice of the call's own; an error of one that may not be. No condition.
  Contracts for wire.Seal and bytes.Clone: a message's bytes and behind them their tag, in a slice of the call's own; an error of one that may not be; bytes copied. No condition.
  Contract for wire.Get: the message that bytes are of, or an error. The condition: the bytes read as bytes.
  Contract for wire.Split: the message, its bytes, the tag of an envelope's bytes, or an error. The condition: the bytes read as bytes.
  Contracts: whether just the metrics that there are have targets: by the program, and by the document. No condition.
-/
import Derived.Test.YtecggbndlbkhdaaGreatY9
import Derived.Test.YtecggbndlbkhdaaGreatY4
import Derived.Test.YtecggbndlbkhdaaGreatY6
import Derived.Lib.SliceRun
import Derived.Test.YtecggbndlbkhdaaGreatY13
import Derived.LoopTactic
section
set_option linter.unusedSimpArgs false
set_option linter.unusedVariables false
namespace Go.Proofs.YtecggbndlbkhdaaGreat
set_option maxRecDepth 100000
open Go.RowKit

end Go.Proofs.YtecggbndlbkhdaaGreat
end
section
set_option linter.unusedSimpArgs false
set_option linter.unusedVariables false
namespace Go.Proofs.YtecggbndlbkhdaaGreat
set_option maxRecDepth 100000
open Go.RowKit

end Go.Proofs.YtecggbndlbkhdaaGreat
end
section
set_option linter.unusedSimpArgs false
namespace Go.Proofs.YtecggbndlbkhdaaGreat
set_option maxRecDepth 100000
open Go.RowKit

end Go.Proofs.YtecggbndlbkhdaaGreat
end
section
set_option linter.unusedSimpArgs false
set_option linter.unusedVariables false
namespace Go.Proofs.YtecggbndlbkhdaaGreat
set_option maxRecDepth 100000
open Go.RowKit

end Go.Proofs.YtecggbndlbkhdaaGreat
end
section
set_option linter.unusedSimpArgs false
set_option linter.unusedVariables false
namespace Go.Proofs.YtecggbndlbkhdaaGreat
set_option maxRecDepth 100000
open Go.RowKit

/-- a tag's bytes -/
def tagB (k0 k1 : BitVec 64) (l : List UInt8) : List UInt8 := put8 (sumOf k0 k1 l) ++ put8 (sumOf k1 (inv k0) l)
def sealOf (k0 k1 : BitVec 64) (m : Mg) : List UInt8 := putOf m ++ tagB k0 k1 (putOf m)
/-- the function's own blocks: the key and the message that came in; all else as it was, or new -/
structure KM (w : World) (k0 k1 : BitVec 64) (m : Mg) (w' : World) : Prop where
  key : w'.heap[w.heap.size]? = some (.cells #[.int .u64 (q k0), .int .u64 (q k1)] 251)
  msg : w'.heap[w.heap.size + 1]? = some (.cells m.cells 37)
  g : w.grownBy w' none
theorem KM.grown {w : World} {k0 k1 : BitVec 64} {m : Mg} {w1 w2 : World} (h : KM w k0 k1 m w1) (hg : w1.grownBy w2 none) : KM w k0 k1 m w2 := ⟨at_grown h.key hg (by simp), at_grown h.msg hg (by simp), gb_trans h.g hg (.inl rfl)⟩
end Go.Proofs.YtecggbndlbkhdaaGreat
end
section
set_option linter.unusedSimpArgs false
set_option linter.unusedVariables false
namespace Go.Proofs.YtecggbndlbkhdaaGreat
set_option maxRecDepth 100000
open Go.RowKit

def zeroM : Mg := ⟨0, 0, 0, 0, 0, 0, 0⟩
/-- the function's own blocks: what goes out, the reader; all else as it was, or new -/
structure GA (w : World) (v : Value) (l : List UInt8) (k : Int) (wc : World) : Prop where
  ans : wc.heap[w.heap.size]? = some (.cells zeroM.cells 37)
  rd : wc.heap[w.heap.size + 1]? = some (rdObj v k)
  ba : BytesAt wc v l
  g : w.grownBy wc none
theorem GA.next {w : World} {v : Value} {l : List UInt8} {k k1 : Int} {wc w1 : World} (h : GA w v l k wc) (hr : w1.heap[w.heap.size + 1]? = some (rdObj v k1)) (hg : wc.grownBy w1 (some (w.heap.size + 1))) (hb : BytesAt w1 v l) : GA w v l k1 w1 :=
  ⟨at_grown h.ans hg (by simp), hr, hb, gb_trans h.g hg (.inr (.inr ⟨_, rfl, by omega⟩))⟩
theorem GA.grown {w : World} {v : Value} {l : List UInt8} {k : Int} {wc w1 : World} (h : GA w v l k wc) (hg : wc.grownBy w1 none) : GA w v l k w1 :=
  ⟨at_grown h.ans hg (by simp), at_grown h.rd hg (by simp), h.ba.grown hg (by simp), gb_trans h.g hg (.inl rfl)⟩
/-- the message that is being read -/
structure GB (w : World) (v : Value) (l : List UInt8) (k : Int) (mb : Nat) (m : Mg) (wc : World) : Prop where
  a : GA w v l k wc
  hm : w.heap.size + 1 < mb
  vb : ∀ a n c, v = .slice (some a) n c → a.block < w.heap.size
  box : wc.heap[mb]? = some (.cells m.cells 37)
theorem GB.next {w : World} {v : Value} {l : List UInt8} {k k1 : Int} {mb : Nat} {m : Mg} {wc w1 : World} (h : GB w v l k mb m wc) (hr : w1.heap[w.heap.size + 1]? = some (rdObj v k1)) (hg : wc.grownBy w1 (some (w.heap.size + 1))) (hb : BytesAt w1 v l) : GB w v l k1 mb m w1 :=
  ⟨h.a.next hr hg hb, h.hm, h.vb, at_grown h.box hg (by have := h.hm; simp; omega)⟩
theorem GB.set {w : World} {v : Value} {l : List UInt8} {k : Int} {mb : Nat} {m m' : Mg} {wc : World} (h : GB w v l k mb m wc) (i : Nat) (x : Value) (hm : m.cells.setIfInBounds i x = m'.cells) : GB w v l k mb m' (wc.setCell ⟨mb, i, none⟩ x) := by
  have hlt := h.hm
  have hgm : wc.grownBy (wc.setCell ⟨mb, i, none⟩ x) (some mb) := gb_row (.refl wc (some mb)) rfl x
  refine ⟨⟨at_set_other h.a.ans (by simp; omega) _, at_set_other h.a.rd (by simp; omega) _, ?_, gb_new h.a.g (by simp; omega) _⟩, hlt, h.vb, by rw [← hm]; exact at_set h.box i x⟩
  exact h.a.ba.grown hgm (fun k e => by cases e; exact .inr (.inr fun a n c e => by have := h.vb a n c e; omega))
end Go.Proofs.YtecggbndlbkhdaaGreat
end
section
set_option linter.unusedSimpArgs false
set_option linter.unusedVariables false
namespace Go.Proofs.YtecggbndlbkhdaaGreat
set_option maxRecDepth 100000
open Go.RowKit

/-- the function's own blocks: what goes out (message, tag), what was read; all else as it was, or new -/
structure SP (w : World) (x y : Nat) (m : Mg) (a b : BitVec 64) (v : Value) (l : List UInt8) (wc : World) : Prop where
  am : ∃ c : Mg, wc.heap[w.heap.size]? = some (.cells c.cells 37)
  ta : ∃ p r, wc.heap[w.heap.size + 1]? = some (.cells #[p, r] 245)
  hm : wc.heap[x]? = some (.cells m.cells 37)
  ht : wc.heap[y]? = some (.cells #[.int .u64 (q a), .int .u64 (q b)] 245)
  ba : BytesAt wc v l
  vb : ∀ ad n c, v = .slice (some ad) n c → ad.block < w.heap.size
  hx : w.heap.size + 1 < x
  hy : w.heap.size + 1 < y
  g : w.grownBy wc none
section
variable {w : World} {x y : Nat} {m : Mg} {a b : BitVec 64} {v : Value} {l : List UInt8} {wc w1 : World}
theorem SP.grown (h : SP w x y m a b v l wc) (hg : wc.grownBy w1 none) : SP w x y m a b v l w1 :=
  ⟨by obtain ⟨c, k⟩ := h.am; exact ⟨c, at_grown k hg (by simp)⟩, by obtain ⟨p, r, k⟩ := h.ta; exact ⟨p, r, at_grown k hg (by simp)⟩, at_grown h.hm hg (by simp), at_grown h.ht hg (by simp), h.ba.grown hg (by simp), h.vb, h.hx, h.hy, gb_trans h.g hg (.inl rfl)⟩
theorem SP.drew (h : SP w x y m a b v l wc) : SP w x y m a b v l wc.drew := ⟨h.am, h.ta, h.hm, h.ht, h.ba.drew, h.vb, h.hx, h.hy, gb_drew h.g⟩
theorem SP.size (h : SP w x y m a b v l wc) : w.heap.size + 2 ≤ wc.heap.size := by obtain ⟨p, r, k⟩ := h.ta; exact at_lt k
end

end Go.Proofs.YtecggbndlbkhdaaGreat
end
section
set_option linter.unusedSimpArgs false
namespace Go.Proofs.YtecggbndlbkhdaaGreat
set_option maxRecDepth 100000
open Go.RowKit

/-- may the i-th of m metrics have this target? -/
def tgt (m i t : Int) : Bool := if i < m then cwithin t 1 1099511627776 else t == 0
def tgts (m t0 t1 t2 t3 : Int) : Bool := tgt m 0 t0 && tgt m 1 t1 && tgt m 2 t2 && tgt m 3 t3
/-- those ahead of the k-th -/
def tgtsTo (m t0 t1 t2 t3 : Int) : Nat → Prop
  | 0 => True
  | 1 => tgt m 0 t0 = true
  | 2 => tgt m 0 t0 = true ∧ tgt m 1 t1 = true
  | 3 => tgt m 0 t0 = true ∧ tgt m 1 t1 = true ∧ tgt m 2 t2 = true
  | _ => tgt m 0 t0 = true ∧ tgt m 1 t1 = true ∧ tgt m 2 t2 = true ∧ tgt m 3 t3 = true
theorem tgts_all {m t0 t1 t2 t3 : Int} (h : tgtsTo m t0 t1 t2 t3 4) : tgts m t0 t1 t2 t3 = true := by
  simp only [tgtsTo] at h
  simp [tgts, h]

section
variable (t0 t1 t2 t3 : Int) (w : World)
theorem ix0 : (Instr.index 24 (.agg #[.int .i64 t0, .int .i64 t1, .int .i64 t2, .int .i64 t3]) (.int .i64 0)).run Tryz.prog w = .ok (.int .i64 t0) w := by
  simp [Instr.index, run_underlying Tryz.underlying24, asIntOf, go_sem]
theorem ix1 : (Instr.index 24 (.agg #[.int .i64 t0, .int .i64 t1, .int .i64 t2, .int .i64 t3]) (.int .i64 1)).run Tryz.prog w = .ok (.int .i64 t1) w := by
  simp [Instr.index, run_underlying Tryz.underlying24, asIntOf, go_sem]
theorem ix2 : (Instr.index 24 (.agg #[.int .i64 t0, .int .i64 t1, .int .i64 t2, .int .i64 t3]) (.int .i64 2)).run Tryz.prog w = .ok (.int .i64 t2) w := by
  simp [Instr.index, run_underlying Tryz.underlying24, asIntOf, go_sem]
theorem ix3 : (Instr.index 24 (.agg #[.int .i64 t0, .int .i64 t1, .int .i64 t2, .int .i64 t3]) (.int .i64 3)).run Tryz.prog w = .ok (.int .i64 t3) w := by
  simp [Instr.index, run_underlying Tryz.underlying24, asIntOf, go_sem]
end

set_option maxHeartbeats 3200000 in
theorem targets_any (t0 t1 t2 t3 m : Int) (w : World) :
    Calls Tryz.prog 217 #[.agg #[.int .i64 t0, .int .i64 t1, .int .i64 t2, .int .i64 t3], .int .i64 m] w fun e w' => e = .returned (.bool (tgts m t0 t1 t2 t3)) ∧ w.grownBy w' none := by
  go_enter Tryz.func217, Tryz.ntmps217
  go_wp2_with fail
  go_loopw [8] (fun i wr => ∃ k : Nat, k ≤ 4 ∧ i = .int .i64 (k : Int) ∧ tgtsTo m t0 t1 t2 t3 k ∧ w.grownBy wr none) (fun i _ => 4 - (intOf i).toNat)
  case atStart => exact ⟨0, by omega, rfl, trivial, gb_alloc (.refl w none) _⟩
  case round =>
    obtain ⟨k, hk, rfl, hd, hg⟩ := hrel
    have HD := hid hd; have HG := hid hg; clear hd hg
    have i0 := fun w => ix0 t0 t1 t2 t3 w
    have i1 := fun w => ix1 t0 t1 t2 t3 w
    have i2 := fun w => ix2 t0 t1 t2 t3 w
    have i3 := fun w => ix3 t0 t1 t2 t3 w
    have h5 : k = 0 ∨ k = 1 ∨ k = 2 ∨ k = 3 ∨ k = 4 := by omega
    rcases h5 with rfl | rfl | rfl | rfl | rfl
    · clear hk
      by_cases h : (0 : Int) < m
      · have h' : ¬ m ≤ (0 : Int) := by omega
        have hc := fun w => cwithin64_any t0 1 1099511627776 w
        cases hb : cwithin t0 1 1099511627776 with
        | true =>
          rw [hb] at hc
          go_wp2_with fail
          refine (hc _).mono ?_
          rintro e w1 ⟨rfl, rfl⟩
          go_wp2_with fail
          go_roundw
          case rel => exact ⟨1, by omega, rfl, by have h1 : tgt m 0 t0 = true := (by simp [tgt, h, hb]); have h2 := HD.out; simp_all [tgtsTo], HG.out⟩
          case measure => simp [intOf]
        | false =>
          rw [hb] at hc
          go_wp2_with fail
          refine (hc _).mono ?_
          rintro e w1 ⟨rfl, rfl⟩
          go_wp2_with fail
          go_ret
          exact ⟨by have h1 : tgt m 0 t0 = false := (by simp [tgt, h, hb]); simp [tgts, h1], HG.out⟩
      · have h' : m ≤ (0 : Int) := by omega
        by_cases hz : t0 = 0
        · subst hz
          go_wp2_with fail
          go_roundw
          case rel => exact ⟨1, by omega, rfl, by have h1 : tgt m 0 0 = true := (by unfold tgt; rw [if_neg (by omega)]; rfl); have h2 := HD.out; simp_all [tgtsTo], HG.out⟩
          case measure => simp [intOf]
        · have hzb : (t0 != 0) = true := by simp [hz]
          have HZ := hid hz; clear hz
          go_wp2_with fail
          go_ret
          have hz := HZ.out
          exact ⟨by have h1 : tgt m 0 t0 = false := (by unfold tgt; rw [if_neg (by omega)]; simp [hz]); simp [tgts, h1], HG.out⟩
    · clear hk
      by_cases h : (1 : Int) < m
      · have h' : ¬ m ≤ (1 : Int) := by omega
        have hc := fun w => cwithin64_any t1 1 1099511627776 w
        cases hb : cwithin t1 1 1099511627776 with
        | true =>
          rw [hb] at hc
          go_wp2_with fail
          refine (hc _).mono ?_
          rintro e w1 ⟨rfl, rfl⟩
          go_wp2_with fail
          go_roundw
          case rel => exact ⟨2, by omega, rfl, by have h1 : tgt m 1 t1 = true := (by simp [tgt, h, hb]); have h2 := HD.out; simp_all [tgtsTo], HG.out⟩
          case measure => simp [intOf]
        | false =>
          rw [hb] at hc
          go_wp2_with fail
          refine (hc _).mono ?_
          rintro e w1 ⟨rfl, rfl⟩
          go_wp2_with fail
          go_ret
          exact ⟨by have h1 : tgt m 1 t1 = false := (by simp [tgt, h, hb]); simp [tgts, h1], HG.out⟩
      · have h' : m ≤ (1 : Int) := by omega
        by_cases hz : t1 = 0
        · subst hz
          go_wp2_with fail
          go_roundw
          case rel => exact ⟨2, by omega, rfl, by have h1 : tgt m 1 0 = true := (by unfold tgt; rw [if_neg (by omega)]; rfl); have h2 := HD.out; simp_all [tgtsTo], HG.out⟩
          case measure => simp [intOf]
        · have hzb : (t1 != 0) = true := by simp [hz]
          have HZ := hid hz; clear hz
          go_wp2_with fail
          go_ret
          have hz := HZ.out
          exact ⟨by have h1 : tgt m 1 t1 = false := (by unfold tgt; rw [if_neg (by omega)]; simp [hz]); simp [tgts, h1], HG.out⟩
    · clear hk
      by_cases h : (2 : Int) < m
      · have h' : ¬ m ≤ (2 : Int) := by omega
        have hc := fun w => cwithin64_any t2 1 1099511627776 w
        cases hb : cwithin t2 1 1099511627776 with
        | true =>
          rw [hb] at hc
          go_wp2_with fail
          refine (hc _).mono ?_
          rintro e w1 ⟨rfl, rfl⟩
          go_wp2_with fail
          go_roundw
          case rel => exact ⟨3, by omega, rfl, by have h1 : tgt m 2 t2 = true := (by simp [tgt, h, hb]); have h2 := HD.out; simp_all [tgtsTo], HG.out⟩
          case measure => simp [intOf]
        | false =>
          rw [hb] at hc
          go_wp2_with fail
          refine (hc _).mono ?_
          rintro e w1 ⟨rfl, rfl⟩
          go_wp2_with fail
          go_ret
          exact ⟨by have h1 : tgt m 2 t2 = false := (by simp [tgt, h, hb]); simp [tgts, h1], HG.out⟩
      · have h' : m ≤ (2 : Int) := by omega
        by_cases hz : t2 = 0
        · subst hz
          go_wp2_with fail
          go_roundw
          case rel => exact ⟨3, by omega, rfl, by have h1 : tgt m 2 0 = true := (by unfold tgt; rw [if_neg (by omega)]; rfl); have h2 := HD.out; simp_all [tgtsTo], HG.out⟩
          case measure => simp [intOf]
        · have hzb : (t2 != 0) = true := by simp [hz]
          have HZ := hid hz; clear hz
          go_wp2_with fail
          go_ret
          have hz := HZ.out
          exact ⟨by have h1 : tgt m 2 t2 = false := (by unfold tgt; rw [if_neg (by omega)]; simp [hz]); simp [tgts, h1], HG.out⟩
    · clear hk
      by_cases h : (3 : Int) < m
      · have h' : ¬ m ≤ (3 : Int) := by omega
        have hc := fun w => cwithin64_any t3 1 1099511627776 w
        cases hb : cwithin t3 1 1099511627776 with
        | true =>
          rw [hb] at hc
          go_wp2_with fail
          refine (hc _).mono ?_
          rintro e w1 ⟨rfl, rfl⟩
          go_wp2_with fail
          go_roundw
          case rel => exact ⟨4, by omega, rfl, by have h1 : tgt m 3 t3 = true := (by simp [tgt, h, hb]); have h2 := HD.out; simp_all [tgtsTo], HG.out⟩
          case measure => simp [intOf]
        | false =>
          rw [hb] at hc
          go_wp2_with fail
          refine (hc _).mono ?_
          rintro e w1 ⟨rfl, rfl⟩
          go_wp2_with fail
          go_ret
          exact ⟨by have h1 : tgt m 3 t3 = false := (by simp [tgt, h, hb]); simp [tgts, h1], HG.out⟩
      · have h' : m ≤ (3 : Int) := by omega
        by_cases hz : t3 = 0
        · subst hz
          go_wp2_with fail
          go_roundw
          case rel => exact ⟨4, by omega, rfl, by have h1 : tgt m 3 0 = true := (by unfold tgt; rw [if_neg (by omega)]; rfl); have h2 := HD.out; simp_all [tgtsTo], HG.out⟩
          case measure => simp [intOf]
        · have hzb : (t3 != 0) = true := by simp [hz]
          have HZ := hid hz; clear hz
          go_wp2_with fail
          go_ret
          have hz := HZ.out
          exact ⟨by have h1 : tgt m 3 t3 = false := (by unfold tgt; rw [if_neg (by omega)]; simp [hz]); simp [tgts, h1], HG.out⟩
    · clear hk
      go_wp2_with fail
      go_ret
      exact ⟨by rw [tgts_all HD.out]; rfl, HG.out⟩

end Go.Proofs.YtecggbndlbkhdaaGreat
end
