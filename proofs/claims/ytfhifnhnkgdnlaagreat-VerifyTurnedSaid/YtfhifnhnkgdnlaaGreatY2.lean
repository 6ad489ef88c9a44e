/-
  Contracts for package ring's Key: the old key, what is no key. The condition of a call: the ring lies there; or it is nil.
  Contracts for package ring's Gen, Since, Rotate, Set, New. The condition of a call: the ring lies there; or it is nil.
  Numbers that were taken, as the greatest and bits below it: the plain part, and contracts for package replay. The condition of a call: the object lies there; or it is nil.
  Contracts for package replay. The condition of a call: the object lies there; or it is nil.
  Contracts for package replay's Take and Set. The condition of a call: the object lies there.
  Plain mathematics: a number comes back from its eight bytes, wherever these stand. And slices of words that came in. No condition. Nothing of the program's functions is named here.
  Eight bytes come back from the number that they make. No condition but on the length. Nothing of the program is named here.
  Plain arithmetic of messages: which may be, their 32 bytes, what is read from bytes; a message comes back from its bytes, and from these alone; the document's own way is the same one. No condition. Nothing of the program is named here.
  Single operations of a walk on whole structs and arrays of many cells: a load, a store, a value built of parts, each taken in one step ('go_wp2_with (refine wpList_row .. ?_)'). No condition. Nothing of the program is named here.
  Contracts for package wire and the document's own answer: which messages may be, a message's first eight bytes as a number. No condition.
  Contract: whether a message may be, as the document has it. No condition.
  For a region that leaves its order open: the condition that is held may be made stronger on the way. No condition. Nothing of the program is named here.
  Contracts for the document's own messages as bytes. No condition.
  Contracts: whether a message may be, as the program and as the document has it; a message's first eight bytes as a number. No condition.
-/
import Derived.Test.YtfhifnhnkgdnlaaGreatJ0
import Derived.Test.YtfhifnhnkgdnlaaGreatY1
import Derived.Test.YtfhifnhnkgdnlaaGreatRows
import Derived.WalkSpells
import Derived.WalkLawsBesides
import Derived.BigQuiet
import Derived.Deep.RegionHeld3
import Derived.StillTailTactics
import Derived.WalkKit
import Derived.Laws.Rows
import Derived.Laws.Tables
import Derived.Deep.WholeRow
import Derived.Great.Walk
section
set_option linter.unusedSimpArgs false
set_option linter.unusedVariables false
namespace Go.Proofs.YtfhifnhnkgdnlaaGreat
set_option maxRecDepth 100000
open Go.RowKit

set_option maxHeartbeats 1600000 in
theorem rkey_old {b h : Nat} {r : Rg} (i : Nat) (now : Int) (w : World) (H : RgAt w b h r) (hi : i < r.n) (hg1 : 1 ≤ r.gen i) (hnow : now < r.since i + (r.grace : Int)) :
    Calls Tryz.prog 96 #[.pointer (some ⟨b, 0, none⟩), .int .i64 (i : Int), .int .i64 (r.gen i - 1), .int .i64 now] w fun e w' => e = .returned (.tuple #[.agg #[.int .u64 (q (ofOf r.seed i (r.gen i - 1)).a), .int .u64 (q (ofOf r.seed i (r.gen i - 1)).b)], .int .i64 0]) ∧ w.grownBy w' none := by
  have hok := H.ok
  have A0 := hid (AnsR.new H)
  clear H
  have hC := fun w' (A : AnsR w b h r w') => find_in i w' A.r hi
  have hH := fun w' (A : AnsR w b h r w') => A.r.cells hi
  have hT := fun w' (A : AnsR w b h r w') => A.r.tops
  have HO := hid (fun w => of_any r.seed (i : Int) (r.gen i - 1) w)
  generalize ofOf r.seed i (r.gen i - 1) = k at HO ⊢
  have q0 := hok.e0 i; have q1 := hok.e1 i; have q2 := hok.s0 i; have q3 := hok.s1 i; have q4 := hok.g1; have q5 := hok.g2
  clear hok
  generalize r.gen i = g at *
  generalize r.since i = s at *
  generalize r.grace = gr at *
  generalize r.seed = sd at *
  have HC := hid hC; have HH := hid hH; have HT := hid hT; clear hC hH hT
  have hne : (g - 1 == g) = false := by simp; omega
  go_enter Tryz.func96, Tryz.ntmps96
  go_wp2_with fail
  refine (HC.out _ A0.out).mono ?_
  rintro e w1 ⟨rfl, hw⟩
  have A1 := hid (show AnsR w b h r w1 from hw ▸ A0.out); clear hw A0
  obtain ⟨c0, c1, f0, f1⟩ := HH.out _ A1.out
  go_wp2_with fail
  refine (has_at _ rfl g _ c0).mono ?_
  rintro e w2 ⟨rfl, hw⟩
  have A2 := hid (show AnsR w b h r w2 from hw ▸ A1.out); clear hw A1 c0 c1 f0 f1
  obtain ⟨c0, c1, f0, f1⟩ := HH.out _ A2.out
  obtain ⟨t0, t1, t2⟩ := HT.out _ A2.out
  go_wp2_with fail
  refine (spares_yes h (i * 2) g s gr now _ c0 c1 hg1 q1 q2 q3 (by omega) (by omega) hnow).mono ?_
  rintro e w4 ⟨rfl, hw⟩
  have A4 := hid (show AnsR w b h r w4 from hw ▸ A2.out); clear hw A2 c0 c1 f0 f1 t0 t1 t2
  obtain ⟨t0, t1, t2⟩ := HT.out _ A4.out
  go_wp2_with fail
  refine (HO.out _).mono ?_
  rintro e w3 ⟨rfl, hg⟩
  have A3 := hid (A4.out.grown hg); clear hg t0 t1 t2 A4
  obtain ⟨x, y, c0, c1, f0, f1⟩ := A3.out.a.cells
  go_wp2_with fail
  clear c0 c1 f0 f1
  have hst := A3.out.a.store (.int .u64 (q k.a)) (.int .u64 (q k.b))
  generalize (w3.setCell ⟨w.heap.size, 0, none⟩ (.int .u64 (q k.a))).setCell ⟨w.heap.size, 1, none⟩ (.int .u64 (q k.b)) = wx at hst ⊢
  have r0 : wx.cell? ⟨w.heap.size, 0, none⟩ = some (.int .u64 (q k.a)) := at_cell hst.1 0
  have r1 : wx.cell? ⟨w.heap.size, 1, none⟩ = some (.int .u64 (q k.b)) := at_cell hst.1 1
  exact bodyPost_ret (v := .tuple #[.agg #[.int .u64 (q k.a), .int .u64 (q k.b)], .int .i64 0]) (by simp [results, Tryz.results96, go_sem, r0, r1]) rfl ⟨rfl, hst.2⟩

set_option maxHeartbeats 1600000 in
theorem rkey_gen {b h : Nat} {r : Rg} (i : Nat) (gen now : Int) (w : World) (H : RgAt w b h r) (hi : i < r.n) (hk : ¬ r.keyIs i gen now) :
    Calls Tryz.prog 96 #[.pointer (some ⟨b, 0, none⟩), .int .i64 (i : Int), .int .i64 gen, .int .i64 now] w fun e w' => e = .returned (.tuple #[.agg #[.int .u64 0, .int .u64 0], .int .i64 4]) ∧ w.grownBy w' none := by
  have hok := H.ok
  have A0 := hid (AnsR.new H)
  clear H
  have hC := fun w' (A : AnsR w b h r w') => find_in i w' A.r hi
  have hH := fun w' (A : AnsR w b h r w') => A.r.cells hi
  have hT := fun w' (A : AnsR w b h r w') => A.r.tops
  have q0 := hok.e0 i; have q1 := hok.e1 i; have q2 := hok.s0 i; have q3 := hok.s1 i; have q4 := hok.g1; have q5 := hok.g2
  clear hok
  unfold Rg.keyIs at hk
  generalize r.gen i = g at *
  generalize r.since i = s at *
  generalize r.grace = gr at *
  generalize r.seed = sd at *
  have HC := hid hC; have HH := hid hH; have HT := hid hT; clear hC hH hT
  have hne : (gen != g) = true := by simp; omega
  have hno : gen < 0 ∨ gen ≠ g - 1 ∨ s + (gr : Int) ≤ now := by omega
  have HK := hid hk; clear hk
  go_enter Tryz.func96, Tryz.ntmps96
  go_wp2_with fail
  refine (HC.out _ A0.out).mono ?_
  rintro e w1 ⟨rfl, hw⟩
  have A1 := hid (show AnsR w b h r w1 from hw ▸ A0.out); clear hw A0
  obtain ⟨c0, c1, f0, f1⟩ := HH.out _ A1.out
  go_wp2_with fail
  refine (has_at _ rfl g _ c0).mono ?_
  rintro e w2 ⟨rfl, hw⟩
  have A2 := hid (show AnsR w b h r w2 from hw ▸ A1.out); clear hw A1 c0 c1 f0 f1
  obtain ⟨c0, c1, f0, f1⟩ := HH.out _ A2.out
  obtain ⟨t0, t1, t2⟩ := HT.out _ A2.out
  go_wp2_with fail
  refine (spares_no h (i * 2) g s gr gen now _ c0 c1 q0 q1 q2 q3 (by omega) (by omega) hno).mono ?_
  rintro e w3 ⟨rfl, hw⟩
  have A3 := hid (show AnsR w b h r w3 from hw ▸ A2.out); clear hw A2 c0 c1 f0 f1 t0 t1 t2 hno
  obtain ⟨x, y, c0, c1, f0, f1⟩ := A3.out.a.cells
  go_wp2_with fail
  clear c0 c1 f0 f1
  have hst := A3.out.a.store (.int .u64 0) (.int .u64 0)
  generalize (w3.setCell ⟨w.heap.size, 0, none⟩ (.int .u64 0)).setCell ⟨w.heap.size, 1, none⟩ (.int .u64 0) = wx at hst ⊢
  have r0 : wx.cell? ⟨w.heap.size, 0, none⟩ = some (.int .u64 0) := at_cell hst.1 0
  have r1 : wx.cell? ⟨w.heap.size, 1, none⟩ = some (.int .u64 0) := at_cell hst.1 1
  exact bodyPost_ret (v := .tuple #[.agg #[.int .u64 0, .int .u64 0], .int .i64 4]) (by simp [results, Tryz.results96, go_sem, r0, r1]) rfl ⟨rfl, hst.2⟩

set_option maxHeartbeats 1600000 in
theorem rkey_who {b h : Nat} {r : Rg} (x gen now : Int) (w : World) (H : RgAt w b h r) (hx : x < 0 ∨ (r.n : Int) ≤ x) :
    Calls Tryz.prog 96 #[.pointer (some ⟨b, 0, none⟩), .int .i64 x, .int .i64 gen, .int .i64 now] w fun e w' => e = .returned (.tuple #[.agg #[.int .u64 0, .int .u64 0], .int .i64 3]) ∧ w.grownBy w' none := by
  have A0 := hid (AnsR.new H)
  have HC := hid (fun w' (A : AnsR w b h r w') => find_out x w' A.r hx)
  clear H
  go_enter Tryz.func96, Tryz.ntmps96
  go_wp2_with fail
  refine (HC.out _ A0.out).mono ?_
  rintro e w3 ⟨rfl, hw⟩
  have A3 := hid (show AnsR w b h r w3 from hw ▸ A0.out); clear hw A0
  obtain ⟨x, y, c0, c1, f0, f1⟩ := A3.out.a.cells
  go_wp2_with fail
  clear c0 c1 f0 f1
  have hst := A3.out.a.store (.int .u64 0) (.int .u64 0)
  generalize (w3.setCell ⟨w.heap.size, 0, none⟩ (.int .u64 0)).setCell ⟨w.heap.size, 1, none⟩ (.int .u64 0) = wx at hst ⊢
  have r0 : wx.cell? ⟨w.heap.size, 0, none⟩ = some (.int .u64 0) := at_cell hst.1 0
  have r1 : wx.cell? ⟨w.heap.size, 1, none⟩ = some (.int .u64 0) := at_cell hst.1 1
  exact bodyPost_ret (v := .tuple #[.agg #[.int .u64 0, .int .u64 0], .int .i64 3]) (by simp [results, Tryz.results96, go_sem, r0, r1]) rfl ⟨rfl, hst.2⟩

/-- what Key answers -/
def Rg.key (r : Rg) (who gen now : Int) : Two64 × Int :=
  if 0 ≤ who ∧ who < (r.n : Int) then if r.keyIs who.toNat gen now then (ofOf r.seed who gen, 0) else (⟨0, 0⟩, 4) else (⟨0, 0⟩, 3)
def keyVal (k : Two64 × Int) : Value := .tuple #[.agg #[.int .u64 (q k.1.a), .int .u64 (q k.1.b)], .int .i64 k.2]
theorem rkey_any {b h : Nat} {r : Rg} (who gen now : Int) (w : World) (H : RgAt w b h r) :
    Calls Tryz.prog 96 #[.pointer (some ⟨b, 0, none⟩), .int .i64 who, .int .i64 gen, .int .i64 now] w fun e w' => e = .returned (keyVal (r.key who gen now)) ∧ w.grownBy w' none := by
  by_cases h0 : 0 ≤ who ∧ who < (r.n : Int)
  · obtain ⟨i, rfl⟩ := Int.eq_ofNat_of_zero_le h0.1
    have hi : i < r.n := by have := h0.2; omega
    by_cases hk : r.keyIs i gen now
    · rw [show r.key (i : Int) gen now = (ofOf r.seed i gen, 0) by unfold Rg.key; rw [if_pos h0, Int.toNat_natCast, if_pos hk]]
      obtain ⟨k0, rfl | ⟨rfl, hn⟩⟩ := hk
      · exact rkey_now i now w H hi
      · exact rkey_old i now w H hi (by omega) hn
    · rw [show r.key (i : Int) gen now = (⟨0, 0⟩, 4) by unfold Rg.key; rw [if_pos h0, Int.toNat_natCast, if_neg hk]]
      exact rkey_gen i gen now w H hi hk
  · rw [show r.key who gen now = (⟨0, 0⟩, 3) by unfold Rg.key; rw [if_neg h0]]
    exact rkey_who who gen now w H (by omega)
end Go.Proofs.YtfhifnhnkgdnlaaGreat
end
section
set_option linter.unusedSimpArgs false
set_option linter.unusedVariables false
namespace Go.Proofs.YtfhifnhnkgdnlaaGreat
set_option maxRecDepth 100000
open Go.RowKit

theorem rgen_in {b h : Nat} {r : Rg} (i : Nat) (w : World) (H0 : RgAt w b h r) (hi : i < r.n) :
    Calls Tryz.prog 25 #[.pointer (some ⟨b, 0, none⟩), .int .i64 (i : Int)] w fun e w' => e = .returned (.int .i64 (r.gen i)) ∧ w = w' := by
  obtain ⟨c0, c1, f0, f1⟩ := H0.cells hi
  have H := hid H0; clear H0
  go_enter Tryz.func25, Tryz.ntmps25
  go_wp2_with fail
  refine (find_in i _ H.out hi).mono ?_
  rintro e w1 ⟨rfl, rfl⟩
  go_wp2_with fail
  refine (has_at _ rfl _ _ c0).mono ?_
  rintro e w1 ⟨rfl, rfl⟩
  go_wp2_with fail
  go_ret
  exact ⟨rfl, rfl⟩
/-- what Set answers, and leaves -/
def Rg.set (r : Rg) (who gen since : Int) : Int × Rg :=
  if 0 ≤ who ∧ who < (r.n : Int) then if 0 ≤ gen ∧ gen ≤ 60000 ∧ 0 ≤ since ∧ since ≤ 1099511627776 then (0, r.put who.toNat gen since) else (1, r) else (3, r)
def Leaves (w : World) (b h : Nat) (k : Int × Rg) (e : Ending) (w' : World) : Prop := e = .returned (.int .i64 k.1) ∧ RgAt w' b h k.2 ∧ Chg [h] w w'
theorem leaves_put {w : World} {b h : Nat} {r : Rg} {i : Nat} {g s : Int} (H : RgAt w b h r) (hi : i < r.n) (g0 : 0 ≤ g) (g1 : g ≤ 60000) (s0 : 0 ≤ s) (s1 : s ≤ 1099511627776) :
    Leaves w b h (0, r.put i g s) (.returned (.int .i64 0)) ((w.setCell ⟨h, i * 2, none⟩ (.int .i64 g)).setCell ⟨h, i * 2 + 1, none⟩ (.int .i64 s)) :=
  ⟨rfl, H.put hi g0 g1 s0 s1, ((chg_refl w [h]).set (.inl (by simp)) _).set (.inl (by simp)) _⟩

set_option maxHeartbeats 1600000 in
theorem rrot_ok {b h : Nat} {r : Rg} (i : Nat) (now : Int) (w : World) (H0 : RgAt w b h r) (hi : i < r.n) (hg : r.gen i < 60000) (n0 : 0 ≤ now) (n1 : now ≤ 1099511627776) :
    Calls Tryz.prog 64 #[.pointer (some ⟨b, 0, none⟩), .int .i64 (i : Int), .int .i64 (r.gen i + 1), .int .i64 now] w (Leaves w b h (0, r.put i (r.gen i + 1) now)) := by
  obtain ⟨c0, c1, f0, f1⟩ := H0.cells hi
  have q0 := H0.ok.e0 i; have q1 := H0.ok.e1 i; have q2 := H0.ok.s0 i; have q3 := H0.ok.s1 i
  have L := hid (leaves_put (g := r.gen i + 1) (s := now) H0 hi (by omega) (by omega) n0 n1)
  have H := hid H0; clear H0
  generalize r.put i (r.gen i + 1) now = r' at L ⊢
  generalize r.gen i = g at *
  have d0 : decide (60000 < g + 1) = false := by simp; omega
  go_enter Tryz.func64, Tryz.ntmps64
  go_wp2_with fail
  refine (find_in i _ H.out hi).mono ?_
  rintro e w1 ⟨rfl, rfl⟩
  go_wp2_with fail
  refine (has_at _ rfl _ _ c0).mono ?_
  rintro e w1 ⟨rfl, rfl⟩
  go_wp2_with fail
  refine (within64_in now 0 1099511627776 n0 n1 _).mono ?_
  rintro e w1 ⟨rfl, rfl⟩
  go_wp2_with fail
  refine (add_i64 _ g _ c0 f0 q0 (by omega)).mono ?_
  rintro e w1 ⟨rfl, rfl⟩
  go_wp2_with fail
  go_ret
  exact L.out

end Go.Proofs.YtfhifnhnkgdnlaaGreat
end
section
set_option linter.unusedSimpArgs false
set_option linter.unusedVariables false
namespace Go.Proofs.YtfhifnhnkgdnlaaGreat
set_option maxRecDepth 100000
open Go.RowKit

/-- the n lowest bits -/
def low (n : Nat) : BitVec 64 := (1#64 <<< n) - 1#64
theorem low_bit (n i : Nat) (hn : n ≤ 64) : (low n).getLsbD i = (decide (i < n) && decide (i < 64)) := by
  by_cases h : n = 64
  · subst h
    have e : low 64 = BitVec.allOnes 64 := by decide
    rw [e, BitVec.getLsbD_allOnes]; simp
  · have hlt : n < 64 := by omega
    have e : (low n).toNat = 2 ^ n - 1 := by
      unfold low
      have h1 : 2 ^ n < 2 ^ 64 := Nat.pow_lt_pow_right (by decide) hlt
      have h2 : 0 < 2 ^ n := Nat.two_pow_pos n
      rw [BitVec.toNat_sub, BitVec.toNat_shiftLeft]
      simp only [BitVec.toNat_ofNat, Nat.one_shiftLeft, Nat.shiftLeft_eq]
      rw [show (1 % 2 ^ 64 : Nat) = 1 from rfl, Nat.one_mul, Nat.mod_eq_of_lt h1]
      omega
    rw [← BitVec.testBit_toNat, e, Nat.testBit_two_pow_sub_one]
    by_cases hi : i < n
    · have : i < 64 := by omega
      simp [hi, this]
    · simp [hi]
theorem one_bit (k i : Nat) : (1#64 <<< k).getLsbD i = (decide (i = k) && decide (i < 64)) := by
  rw [BitVec.getLsbD_shiftLeft]
  by_cases h : i = k
  · subst h; simp
  · by_cases h2 : i < k
    · simp [h, h2]
    · have : i - k ≠ 0 := by omega
      simp [h, h2, this]
theorem shr_bit (x : BitVec 64) (k : Nat) : ((x >>> k) &&& 1#64 = 0#64) ↔ x.getLsbD k = false := by
  constructor
  · intro h
    have h0 : ((x >>> k) &&& 1#64).getLsbD 0 = (0#64).getLsbD 0 := by rw [h]
    simpa using h0
  · intro h
    apply BitVec.eq_of_getLsbD_eq
    intro i hi
    by_cases h0 : i = 0
    · subst h0; simpa using h
    · simp [h0]

structure Rp where
  win : Nat
  top : Int
  bits : BitVec 64
structure Rp.Ok (r : Rp) : Prop where
  w1 : 1 ≤ r.win
  w2 : r.win ≤ 64
  t0 : 0 ≤ r.top
  t1 : r.top ≤ 1099511627776
  bs : ∀ i, r.bits.getLsbD i = true → i < r.win ∧ (i : Int) < r.top
  b0 : 0 < r.top → r.bits.getLsbD 0 = true
def Rp.new (win : Nat) : Rp := ⟨win, 0, 0#64⟩
theorem rp_new_ok {n : Nat} (h1 : 1 ≤ n) (h2 : n ≤ 64) : (Rp.new n).Ok :=
  ⟨h1, h2, Int.le_refl _, by show (0 : Int) ≤ _; decide, fun i h => by simp [Rp.new] at h, fun h => absurd h (Int.lt_irrefl _)⟩
/-- may a number be taken? -/
def Rp.may (r : Rp) (n : Int) : Bool := decide (1 ≤ n ∧ n ≤ 1099511627776 ∧ (r.top < n ∨ (r.top - n < r.win ∧ r.bits.getLsbD (r.top - n).toNat = false)))
def Rp.put (r : Rp) (n : Int) : Rp :=
  if r.top < n then ⟨r.win, n, (r.bits <<< (n - r.top).toNat &&& low r.win) ||| 1#64⟩ else ⟨r.win, r.top, r.bits ||| 1#64 <<< (r.top - n).toNat⟩
def Rp.take (r : Rp) (n : Int) : Int × Rp := if r.may n = true then (0, r.put n) else (6, r)
def Rp.can (r : Rp) (t : Int) (b : BitVec 64) : Bool := decide (0 ≤ t ∧ t ≤ 1099511627776 ∧ (b &&& ~~~ low (min t r.win).toNat) = 0#64 ∧ (0 < t → b.getLsbD 0 = true))
def Rp.set (r : Rp) (t : Int) (b : BitVec 64) : Int × Rp := if r.can t b = true then (0, ⟨r.win, t, b⟩) else (1, r)
theorem Rp.Ok.put {r : Rp} (h : r.Ok) {n : Int} (hm : r.may n = true) : (r.put n).Ok := by
  unfold Rp.may at hm
  obtain ⟨h1, h2, h3⟩ := of_decide_eq_true hm
  obtain ⟨w1, w2, t0, t1, bs, b0⟩ := h
  unfold Rp.put
  split
  · next hl =>
    refine ⟨w1, w2, by show 0 ≤ n; omega, h2, fun i hi => ?_, fun _ => ?_⟩
    · simp only [BitVec.getLsbD_or, BitVec.getLsbD_and, low_bit _ _ w2, Bool.or_eq_true, Bool.and_eq_true, decide_eq_true_eq] at hi
      show i < r.win ∧ (i : Int) < n
      rcases hi with ⟨h4, h5, h6⟩ | h4
      · refine ⟨h5, ?_⟩
        rw [BitVec.getLsbD_shiftLeft] at h4
        simp only [Bool.and_eq_true, decide_eq_true_eq, Bool.not_eq_true', decide_eq_false_iff_not] at h4
        have := (bs _ h4.2).2
        omega
      · have e : i = 0 := by
          by_cases e : i = 0
          · exact e
          · simp [BitVec.getLsbD_one, e] at h4
        subst e; exact ⟨w1, by omega⟩
    · simp
  · next hl =>
    rcases h3 with h3 | ⟨h3, h4⟩
    · exact absurd h3 hl
    refine ⟨w1, w2, t0, t1, fun i hi => ?_, fun ht => ?_⟩
    · simp only [BitVec.getLsbD_or, one_bit, Bool.or_eq_true, Bool.and_eq_true, decide_eq_true_eq] at hi
      rcases hi with hi | ⟨hi, _⟩
      · exact bs i hi
      · show i < r.win ∧ (i : Int) < r.top
        subst hi; omega
    · show (r.bits ||| _).getLsbD 0 = true
      rw [BitVec.getLsbD_or, b0 ht, Bool.true_or]
theorem Rp.Ok.take {r : Rp} (h : r.Ok) (n : Int) : (r.take n).2.Ok := by
  unfold Rp.take
  split
  · next hm => exact h.put hm
  · exact h
theorem low_none (b : BitVec 64) (n : Nat) (hn : n ≤ 64) : (b &&& ~~~ low n) = 0#64 ↔ ∀ i, b.getLsbD i = true → i < n := by
  constructor
  · intro h i hi
    have h0 : (b &&& ~~~ low n).getLsbD i = (0#64).getLsbD i := by rw [h]
    have hi64 : i < 64 := by
      rcases Nat.lt_or_ge i 64 with h | h
      · exact h
      · rw [BitVec.getLsbD_of_ge _ _ h] at hi; cases hi
    rw [BitVec.getLsbD_and, BitVec.getLsbD_not, hi, low_bit _ _ hn] at h0
    simpa [hi64] using h0
  · intro h
    apply BitVec.eq_of_getLsbD_eq
    intro i hi
    by_cases hb : b.getLsbD i = true
    · have := h i hb
      simp [low_bit _ _ hn, this, hi]
    · simp at hb; simp [hb]
theorem rp_can {r : Rp} (h : r.Ok) {t : Int} {b : BitVec 64} (hc : r.can t b = true) : Rp.Ok ⟨r.win, t, b⟩ := by
  unfold Rp.can at hc
  obtain ⟨h1, h2, h3, h4⟩ := of_decide_eq_true hc
  have w2 := h.w2
  rw [low_none _ _ (by omega)] at h3
  exact ⟨h.w1, h.w2, h1, h2, fun i hi => by have := h3 i hi; show i < r.win ∧ (i : Int) < t; omega, h4⟩
theorem Rp.Ok.set {r : Rp} (h : r.Ok) (t : Int) (b : BitVec 64) : (r.set t b).2.Ok := by
  unfold Rp.set
  split
  · next hm => exact rp_can h hm
  · exact h
theorem take_win (r : Rp) (n : Int) : (r.take n).2.win = r.win := by unfold Rp.take Rp.put; split; split; all_goals rfl
end Go.Proofs.YtfhifnhnkgdnlaaGreat
end
section
set_option linter.unusedSimpArgs false
set_option linter.unusedVariables false
namespace Go.Proofs.YtfhifnhnkgdnlaaGreat
set_option maxRecDepth 100000
open Go.RowKit

theorem shl_any (x : BitVec 64) (yk : IntKind) (y : Int) (h : 0 ≤ y) : Op.shift .shl .u64 (q x) yk y = pure (.int .u64 (q (x <<< y.toNat))) := by
  have hm : min y.toNat 64 = if y.toNat ≤ 64 then y.toNat else 64 := by split <;> omega
  have h0 : ¬ y < 0 := by omega
  simp only [Op.shift, h0, if_false, IntKind.bits, hm]
  split
  · rw [q_shl]
  · next hg =>
    rw [q_shl]
    have e1 : x <<< 64 = 0#64 := BitVec.shiftLeft_eq_zero (Nat.le_refl _)
    have e2 : x <<< y.toNat = 0#64 := BitVec.shiftLeft_eq_zero (by omega)
    rw [e1, e2]
theorem shl_one (yk : IntKind) (y : Int) (h : 0 ≤ y) : Op.shift .shl .u64 1 yk y = pure (.int .u64 (q (1#64 <<< y.toNat))) := shl_any 1#64 yk y h
theorem q_sub_one (x : BitVec 64) : IntKind.u64.wrap (q x - 1) = q (x - 1#64) := by
  rw [IntKind.wrap_u64]; unfold q
  rw [BitVec.toNat_sub]
  have := x.isLt
  simp only [BitVec.toNat_ofNat]
  omega

theorem lowest_any (n : Nat) (w : World) :
    Calls Tryz.prog 104 #[.int .i64 (n : Int)] w fun e w' => e = .returned (.int .u64 (q (low n))) ∧ w = w' := by
  have h1 := shl_one .i64 (n : Int) (by omega)
  have h2 := q_sub_one (1#64 <<< (n : Int).toNat)
  unfold low
  rw [Int.toNat_natCast] at *
  generalize (1#64 <<< n) = z at *
  go_enter Tryz.func104, Tryz.ntmps104
  go_wp2
  go_ret
  exact ⟨rfl, rfl⟩

/-- what was taken, of the program's -/
structure RpAt (w : World) (b : Nat) (r : Rp) : Prop where
  top : w.heap[b]? = some (.cells #[.int .i64 (r.win : Int), .int .i64 r.top, .int .u64 (q r.bits)] 143)
  ok : r.Ok
section
variable {w w' : World} {F : List Nat} {b : Nat} {r : Rp}
theorem RpAt.chg (H : RpAt w b r) (hc : Chg F w w') (hb : b ∉ F) : RpAt w' b r := ⟨hc.at H.top hb, H.ok⟩
theorem RpAt.grown (H : RpAt w b r) (hg : w.grownBy w' none) : RpAt w' b r := H.chg (chg_grown hg []) (by simp)
theorem RpAt.drew (H : RpAt w b r) : RpAt w.drew b r := ⟨H.top, H.ok⟩
theorem RpAt.lt (H : RpAt w b r) : b < w.heap.size := at_lt H.top
theorem RpAt.cells (H : RpAt w b r) : w.cell? ⟨b, 0, none⟩ = some (.int .i64 (r.win : Int)) ∧ w.cell? ⟨b, 1, none⟩ = some (.int .i64 r.top) ∧ w.cell? ⟨b, 2, none⟩ = some (.int .u64 (q r.bits)) ∧ w.frozen? ⟨b, 1, none⟩ = false ∧ w.frozen? ⟨b, 2, none⟩ = false :=
  ⟨at_cell H.top 0, at_cell H.top 1, at_cell H.top 2, at_free H.top 1, at_free H.top 2⟩
end
/-- New -/
def MadeP (w : World) (r : Rp) (e : Ending) (w' : World) : Prop := ∃ b, e = .returned (.pointer (some ⟨b, 0, none⟩)) ∧ RpAt w' b r ∧ w.grownBy w' none ∧ w.heap.size ≤ b
set_option maxHeartbeats 1600000 in
theorem pnew_ok (n : Nat) (h1 : 1 ≤ n) (h2 : n ≤ 64) (w : World) :
    Calls Tryz.prog 42 #[.int .i64 (n : Int)] w (MadeP w (.new n)) := by
  have L : Hid (RpAt (w.alloc (.cells #[.int .i64 (n : Int), .int .i64 0, .int .u64 0] 143)) w.heap.size (.new n)) := hid ⟨at_new w _, rp_new_ok h1 h2⟩
  have d1 : decide ((n : Int) < 1) = false := by simp; omega
  have d2 : decide ((64 : Int) < (n : Int)) = false := by simp; omega
  go_enter Tryz.func42, Tryz.ntmps42
  go_wp2_with fail
  go_ret
  exact ⟨_, rfl, L.out, gb_alloc (.refl w none) _, Nat.le_refl _⟩

theorem pmay_out {b : Nat} {r : Rp} (n : Int) (w : World) (H : RpAt w b r) (h : n < 1 ∨ 1099511627776 < n) :
    Calls Tryz.prog 57 #[.pointer (some ⟨b, 0, none⟩), .int .i64 n] w fun e w' => e = .returned (.bool false) ∧ w = w' := by
  clear H
  by_cases h1 : n < 1
  · have d1 : decide (n < 1) = true := by simpa using h1
    clear h
    go_enter Tryz.func57, Tryz.ntmps57
    go_wp2_with fail
    go_ret
    exact ⟨rfl, rfl⟩
  · have d1 : decide (n < 1) = false := by simpa using h1
    have d2 : decide (1099511627776 < n) = true := by simp; omega
    clear h
    go_enter Tryz.func57, Tryz.ntmps57
    go_wp2_with fail
    go_ret
    exact ⟨rfl, rfl⟩
theorem pmay_above {b : Nat} {r : Rp} (n : Int) (w : World) (H : RpAt w b r) (h1 : 1 ≤ n) (h2 : n ≤ 1099511627776) (h3 : r.top < n) :
    Calls Tryz.prog 57 #[.pointer (some ⟨b, 0, none⟩), .int .i64 n] w fun e w' => e = .returned (.bool true) ∧ w = w' := by
  obtain ⟨c0, c1, c2, f1, f2⟩ := H.cells
  have t0 := H.ok.t0; have t1 := H.ok.t1
  clear H
  generalize r.top = t at *
  have d1 : decide (n < 1) = false := by simp; omega
  have d2 : decide (1099511627776 < n) = false := by simp; omega
  have d3 : decide (t - n < 0) = true := by simp; omega
  go_enter Tryz.func57, Tryz.ntmps57
  go_wp2_with fail
  refine (load_i64 _ t _ c1).mono ?_
  rintro e w1 ⟨rfl, rfl⟩
  go_wp2_with fail
  go_ret
  exact ⟨rfl, rfl⟩
theorem pmay_old {b : Nat} {r : Rp} (n : Int) (w : World) (H : RpAt w b r) (h1 : 1 ≤ n) (h2 : n ≤ 1099511627776) (h3 : n ≤ r.top) (h4 : (r.win : Int) ≤ r.top - n) :
    Calls Tryz.prog 57 #[.pointer (some ⟨b, 0, none⟩), .int .i64 n] w fun e w' => e = .returned (.bool false) ∧ w = w' := by
  obtain ⟨c0, c1, c2, f1, f2⟩ := H.cells
  have t0 := H.ok.t0; have t1 := H.ok.t1
  clear H
  generalize r.top = t at *
  have d1 : decide (n < 1) = false := by simp; omega
  have d2 : decide (1099511627776 < n) = false := by simp; omega
  have d3 : decide (t - n < 0) = false := by simp; omega
  have d4 : decide (t - n < (r.win : Int)) = false := by simp; omega
  go_enter Tryz.func57, Tryz.ntmps57
  go_wp2_with fail
  refine (load_i64 _ t _ c1).mono ?_
  rintro e w1 ⟨rfl, rfl⟩
  go_wp2_with fail
  go_ret
  exact ⟨rfl, rfl⟩
theorem q_and_one (x : BitVec 64) : bits .and .u64 (q x) 1 = q (x &&& 1#64) := q_and x 1#64
theorem q_zero (x : BitVec 64) : (q x == 0) = decide (x = 0#64) := by
  rw [show (0 : Int) = q 0#64 from rfl, q_beq, Bool.eq_iff_iff]; simp
theorem pmay_in {b : Nat} {r : Rp} (n : Int) (w : World) (H : RpAt w b r) (h1 : 1 ≤ n) (h2 : n ≤ 1099511627776) (h3 : n ≤ r.top) (h4 : r.top - n < (r.win : Int)) :
    Calls Tryz.prog 57 #[.pointer (some ⟨b, 0, none⟩), .int .i64 n] w fun e w' => e = .returned (.bool (!r.bits.getLsbD (r.top - n).toNat)) ∧ w = w' := by
  obtain ⟨c0, c1, c2, f1, f2⟩ := H.cells
  have t0 := H.ok.t0; have t1 := H.ok.t1; have w2 := H.ok.w2
  clear H
  generalize r.top = t at *
  have d1 : decide (n < 1) = false := by simp; omega
  have d2 : decide (1099511627776 < n) = false := by simp; omega
  have d3 : decide (t - n < 0) = false := by simp; omega
  have d4 : decide (t - n < (r.win : Int)) = true := by simp; omega
  have g1 := q_and_one (r.bits >>> (t - n).toNat)
  have g2 : (q ((r.bits >>> (t - n).toNat) &&& 1#64) == 0) = !r.bits.getLsbD (t - n).toNat := by
    rw [q_zero, Bool.eq_iff_iff, decide_eq_true_eq, shr_bit]; simp
  generalize r.bits.getLsbD (t - n).toNat = z at *
  have z0 : 0 ≤ t - n := by omega
  have z1 : t - n ≤ 64 := by omega
  go_enter Tryz.func57, Tryz.ntmps57
  go_wp2_with fail
  refine (load_i64 _ t _ c1).mono ?_
  rintro e w1 ⟨rfl, rfl⟩
  go_wp2_with fail
  go_ret
  exact ⟨rfl, rfl⟩
theorem pmay_any {b : Nat} {r : Rp} (n : Int) (w : World) (H : RpAt w b r) :
    Calls Tryz.prog 57 #[.pointer (some ⟨b, 0, none⟩), .int .i64 n] w fun e w' => e = .returned (.bool (r.may n)) ∧ w = w' := by
  by_cases h1 : 1 ≤ n ∧ n ≤ 1099511627776
  · by_cases h2 : r.top < n
    · have e : r.may n = true := decide_eq_true ⟨h1.1, h1.2, .inl h2⟩
      rw [e]; exact pmay_above n w H h1.1 h1.2 h2
    · by_cases h3 : r.top - n < r.win
      · have e : r.may n = !r.bits.getLsbD (r.top - n).toNat := by
          unfold Rp.may
          rw [Bool.eq_iff_iff, decide_eq_true_eq]
          simp [h1.1, h1.2, h2, h3]
        rw [e]; exact pmay_in n w H h1.1 h1.2 (by omega) h3
      · have e : r.may n = false := decide_eq_false (by omega)
        rw [e]; exact pmay_old n w H h1.1 h1.2 (by omega) (by omega)
  · have e : r.may n = false := decide_eq_false (by omega)
    rw [e]; exact pmay_out n w H (by omega)
/-- Top, Bits -/
theorem ptop_any {b : Nat} {r : Rp} (w : World) (H : RpAt w b r) :
    Calls Tryz.prog 27 #[.pointer (some ⟨b, 0, none⟩)] w fun e w' => e = .returned (.int .i64 r.top) ∧ w = w' := by
  obtain ⟨c0, c1, c2, f1, f2⟩ := H.cells
  clear H
  go_enter Tryz.func27, Tryz.ntmps27
  go_wp2_with fail
  refine (load_i64 _ r.top _ c1).mono ?_
  rintro e w1 ⟨rfl, rfl⟩
  go_wp2_with fail
  go_ret
  exact ⟨rfl, rfl⟩
end Go.Proofs.YtfhifnhnkgdnlaaGreat
end
section
set_option linter.unusedSimpArgs false
set_option linter.unusedVariables false
namespace Go.Proofs.YtfhifnhnkgdnlaaGreat
set_option maxRecDepth 100000
open Go.RowKit

/-- what Take and Set leave -/
def LeavesP (w : World) (b : Nat) (k : Int × Rp) (e : Ending) (w' : World) : Prop := e = .returned (.int .i64 k.1) ∧ RpAt w' b k.2 ∧ Chg [b] w w'
theorem leavesP_same {w : World} {b : Nat} {r : Rp} (c : Int) (H : RpAt w b r) : LeavesP w b (c, r) (.returned (.int .i64 c)) w := ⟨rfl, H, chg_refl w _⟩

theorem wrap_pow (k : Nat) : IntKind.u64.wrap (2 ^ k) = q (1#64 <<< k) := by
  have := q_shl 1#64 k
  rw [show q 1#64 = 1 from rfl, Int.one_mul] at this
  exact this
theorem ptake_no {b : Nat} {r : Rp} (n : Int) (w : World) (H : RpAt w b r) (hm : r.may n = false) :
    Calls Tryz.prog 63 #[.pointer (some ⟨b, 0, none⟩), .int .i64 n] w (LeavesP w b (6, r)) := by
  have L := hid (leavesP_same 6 H)
  have H1 := pmay_any n w H
  rw [hm] at H1
  have H2 := hid H1
  clear H H1 hm
  go_enter Tryz.func63, Tryz.ntmps63
  go_wp2_with fail
  refine H2.out.mono ?_
  rintro e w1 ⟨rfl, rfl⟩
  go_wp2_with fail
  go_ret
  exact L.out
set_option maxHeartbeats 1600000 in
theorem ptake_below {b : Nat} {r : Rp} (n : Int) (w : World) (H : RpAt w b r) (hm : r.may n = true) (hl : ¬ r.top < n) :
    Calls Tryz.prog 63 #[.pointer (some ⟨b, 0, none⟩), .int .i64 n] w (LeavesP w b (0, r.put n)) := by
  obtain ⟨c0, c1, c2, f1, f2⟩ := H.cells
  have k0 := H.ok.t0; have k1 := H.ok.t1; have w2 := H.ok.w2
  have hmm := of_decide_eq_true hm
  have L : Hid (LeavesP w b (0, r.put n) (.returned (.int .i64 0)) (w.setCell ⟨b, 2, none⟩ (.int .u64 (q (r.bits ||| 1#64 <<< (r.top - n).toNat)))).drew) := by
    have ok := H.ok.put hm
    have e : r.put n = ⟨r.win, r.top, r.bits ||| 1#64 <<< (r.top - n).toNat⟩ := by unfold Rp.put; rw [if_neg hl]
    rw [e] at ok ⊢
    exact hid ⟨rfl, ⟨by have := at_set H.top 2 (.int .u64 (q (r.bits ||| 1#64 <<< (r.top - n).toNat))); exact this, ok⟩, ((chg_refl w [b]).set (.inl (by simp)) _).drew⟩
  have H1 := pmay_any n w H
  rw [hm] at H1
  have H2 := hid H1
  clear H H1 hm
  generalize r.put n = r' at L ⊢
  generalize r.top = t at *
  generalize r.bits = x at *
  have d1 : decide (t < n) = false := by simp; omega
  have d2 : 0 ≤ t - n := by omega
  have d3 : t - n ≤ 64 := by omega
  have s1 := wrap_pow (t - n).toNat
  have s2 : IntKind.i64.wrap (t - n) = t - n := IntWalk.i64_in _ (by omega)
  clear hmm hl
  go_enter Tryz.func63, Tryz.ntmps63
  go_wp2_with fail
  refine H2.out.mono ?_
  rintro e w1 ⟨rfl, rfl⟩
  go_wp2_with fail
  refine (load_i64 _ t _ c1).mono ?_
  rintro e w1 ⟨rfl, rfl⟩
  go_wp2_with fail
  refine wp_region_still_tail 14 (by kernel_rfl) (by kernel_rfl) ?_
  simp only [List.take_succ_cons, List.take_zero, List.drop_succ_cons, List.drop_zero]
  change wpStill _ _ w.drew _ _ _
  repeat still_step
  still_call (still_of (load_i64 _ t _ c1))
  repeat still_step
  refine wpStill_nil ?_
  change wpList _ _ _ _ _ w.drew
  go_wp2_with fail
  go_ret
  exact L.out
theorem q_or_one (x : BitVec 64) : bits .or .u64 (q x) 1 = q (x ||| 1#64) := q_or x 1#64
set_option maxHeartbeats 1600000 in
theorem ptake_above {b : Nat} {r : Rp} (n : Int) (w : World) (H : RpAt w b r) (hm : r.may n = true) (hl : r.top < n) :
    Calls Tryz.prog 63 #[.pointer (some ⟨b, 0, none⟩), .int .i64 n] w (LeavesP w b (0, r.put n)) := by
  obtain ⟨c0, c1, c2, f1, f2⟩ := H.cells
  have k0 := H.ok.t0; have k1 := H.ok.t1; have w2 := H.ok.w2
  have hmm := of_decide_eq_true hm
  have k2 := hmm.1; have k3 := hmm.2.1
  have L : Hid (∀ y z : BitVec 64, z = ((r.bits <<< (n - r.top).toNat &&& low r.win) ||| 1#64) → LeavesP w b (0, r.put n) (.returned (.int .i64 0)) ((((w.setCell ⟨b, 1, none⟩ (.int .i64 n)).setCell ⟨b, 2, none⟩ (.int .u64 (q y))).setCell ⟨b, 2, none⟩ (.int .u64 (q z))).drew.drew)) := by
    have ok := H.ok.put hm
    have e : r.put n = ⟨r.win, n, (r.bits <<< (n - r.top).toNat &&& low r.win) ||| 1#64⟩ := by unfold Rp.put; rw [if_pos hl]
    rw [e] at ok ⊢
    intro y z hz
    subst hz
    exact ⟨rfl, ⟨by have := at_set (at_set (at_set H.top 1 (.int .i64 n)) 2 (.int .u64 (q y))) 2 (.int .u64 (q ((r.bits <<< (n - r.top).toNat &&& low r.win) ||| 1#64))); exact this, ok⟩, (((((chg_refl w [b]).set (.inl (by simp)) _).set (.inl (by simp)) _).set (.inl (by simp)) _).drew).drew⟩
  have H1 := pmay_any n w H
  rw [hm] at H1
  have H2 := hid H1
  clear H H1 hm
  have s1 := shl_any r.bits .i64 (n - r.top) (by omega)
  generalize r.put n = r' at L ⊢
  generalize r.top = t at *
  generalize r.bits = x at *
  generalize r.win = m at *
  have d1 : decide (t < n) = true := by simp; omega
  have s2 : IntKind.i64.wrap 0 = 0 := rfl
  have s3 : IntKind.i64.wrap (n - t) = n - t := IntWalk.i64_in _ (by omega)
  have s5 : IntKind.i64.wrap (t + (n - t)) = n := by rw [show t + (n - t) = n by omega]; exact IntWalk.i64_in _ (by omega)
  clear hmm
  go_enter Tryz.func63, Tryz.ntmps63
  go_wp2_with fail
  refine H2.out.mono ?_
  rintro e w1 ⟨rfl, rfl⟩
  go_wp2_with fail
  refine (load_i64 _ t _ c1).mono ?_
  rintro e w1 ⟨rfl, rfl⟩
  go_wp2_with fail
  refine (addn_i64 _ t _ n _ c1 f1 s5).mono ?_
  rintro e w1 ⟨rfl, rfl⟩
  go_wp2_with fail
  refine wp_region_still_tail 15 (by kernel_rfl) (by kernel_rfl) ?_
  simp only [List.take_succ_cons, List.take_zero, List.drop_succ_cons, List.drop_zero]
  change wpStill _ _ (w.setCell ⟨b, 1, none⟩ (.int .i64 n)).drew _ _ _
  repeat still_step
  still_call (still_of (lowest_any m _))
  repeat still_step
  refine wpStill_nil ?_
  change wpList _ _ _ _ _ (w.setCell ⟨b, 1, none⟩ (.int .i64 n)).drew
  go_wp2_with fail
  generalize (x <<< (n - t).toNat &&& low m) = y at *
  have s7 := q_or_one y
  have c1' : (((w.setCell ⟨b, 1, none⟩ (.int .i64 n)).setCell ⟨b, 2, none⟩ (.int .u64 (q y))).drew.drew).cell? ⟨b, 1, none⟩ = some (.int .i64 n) := by go_simp
  refine wp_region_still_tail 14 (by kernel_rfl) (by kernel_rfl) ?_
  simp only [List.take_succ_cons, List.take_zero, List.drop_succ_cons, List.drop_zero]
  change wpStill _ _ ((w.setCell ⟨b, 1, none⟩ (.int .i64 n)).setCell ⟨b, 2, none⟩ (.int .u64 (q y))).drew.drew _ _ _
  repeat still_step
  still_call (still_of (load_i64 _ n _ c1'))
  repeat still_step
  refine wpStill_nil ?_
  change wpList _ _ _ _ _ ((w.setCell ⟨b, 1, none⟩ (.int .i64 n)).setCell ⟨b, 2, none⟩ (.int .u64 (q y))).drew.drew
  go_wp2_with fail
  go_ret
  have hL := L.out y _ rfl
  rw [← s7] at hL
  exact hL
theorem ptake_any {b : Nat} {r : Rp} (n : Int) (w : World) (H : RpAt w b r) :
    Calls Tryz.prog 63 #[.pointer (some ⟨b, 0, none⟩), .int .i64 n] w (LeavesP w b (r.take n)) := by
  unfold Rp.take
  by_cases hm : r.may n = true
  · rw [if_pos hm]
    by_cases hl : r.top < n
    · exact ptake_above n w H hm hl
    · exact ptake_below n w H hm hl
  · rw [if_neg hm]
    exact ptake_no n w H (by simpa using hm)
end Go.Proofs.YtfhifnhnkgdnlaaGreat
end
section
namespace Go.Proofs.YtfhifnhnkgdnlaaGreat
set_option maxRecDepth 100000
open Go.RowKit

theorem byte_mask (n : BitVec 64) (i : Nat) : BitVec.ofNat 64 (putByte n i).toNat <<< (8 * i) = n &&& (255#64 <<< (8 * i)) := by
  have hb : BitVec.ofNat 64 (putByte n i).toNat = (n >>> (8 * i)) &&& 255#64 := by
    apply BitVec.eq_of_toNat_eq
    unfold putByte
    rw [BitVec.toNat_ofNat, BitVec.toNat_and]
    have e : (255#64).toNat = 2 ^ 8 - 1 := by decide
    rw [e, Nat.and_two_pow_sub_one_eq_mod]
    simp
    omega
  rw [hb]
  apply BitVec.eq_of_getLsbD_eq
  intro j hj
  rw [BitVec.getLsbD_shiftLeft, BitVec.getLsbD_and, BitVec.getLsbD_and, BitVec.getLsbD_ushiftRight, BitVec.getLsbD_shiftLeft]
  by_cases h1 : j < 8 * i
  · simp [h1]
  · rw [show 8 * i + (j - 8 * i) = j by omega]
    cases n.getLsbD j <;> simp
theorem mask_all : (255#64 <<< (8 * 0)) ||| (255#64 <<< (8 * 1)) ||| (255#64 <<< (8 * 2)) ||| (255#64 <<< (8 * 3)) ||| (255#64 <<< (8 * 4)) ||| (255#64 <<< (8 * 5)) ||| (255#64 <<< (8 * 6)) ||| (255#64 <<< (8 * 7)) = BitVec.allOnes 64 := by decide
/-- a number comes back from its bytes -/
theorem wordAt_put (l : List UInt8) (m : Nat) (n : BitVec 64) (h : ∀ i, i < 8 → byteAt l (m + i) = putByte n i) : wordAt l m 8 = n := by
  simp only [wordAt]
  rw [h 0 (by omega), h 1 (by omega), h 2 (by omega), h 3 (by omega), h 4 (by omega), h 5 (by omega), h 6 (by omega), h 7 (by omega)]
  rw [byte_mask n 0, byte_mask n 1, byte_mask n 2, byte_mask n 3, byte_mask n 4, byte_mask n 5, byte_mask n 6, byte_mask n 7]
  have z : ∀ x : BitVec 64, 0 ||| x = x := fun x => BitVec.zero_or
  rw [z, ← BitVec.and_or_distrib_left, ← BitVec.and_or_distrib_left, ← BitVec.and_or_distrib_left, ← BitVec.and_or_distrib_left, ← BitVec.and_or_distrib_left, ← BitVec.and_or_distrib_left, ← BitVec.and_or_distrib_left]
  rw [mask_all]
  exact BitVec.and_allOnes
/-- numbers, each in its eight bytes -/
def putAll (l : List (BitVec 64)) : List UInt8 := l.flatMap put8
theorem putAll_length (l : List (BitVec 64)) : (putAll l).length = 8 * l.length := by
  induction l with
  | nil => rfl
  | cons n l ih => simp only [putAll, List.flatMap_cons, List.length_append, put8_length, List.length_cons] at ih ⊢; rw [ih]; omega
theorem put8_byte (n : BitVec 64) (i : Nat) (h : i < 8) : byteAt (put8 n) i = putByte n i := by
  match i, h with
  | 0, _ => rfl
  | 1, _ => rfl
  | 2, _ => rfl
  | 3, _ => rfl
  | 4, _ => rfl
  | 5, _ => rfl
  | 6, _ => rfl
  | 7, _ => rfl
theorem byteAt_right (l r : List UInt8) (i : Nat) (h : i < r.length) : byteAt (l ++ r) (l.length + i) = byteAt r i := by
  rw [byteAt_eq (by simp; omega), byteAt_eq h, List.getElem_append_right (by omega)]
  congr 1
  omega
theorem byteAt_first (l r : List UInt8) (i : Nat) (h : i < l.length) : byteAt (l ++ r) i = byteAt l i := by
  rw [byteAt_eq h, byteAt_eq (by simp; omega), List.getElem_append_left h]
theorem putAll_byte (l : List (BitVec 64)) (k i : Nat) (hk : k < l.length) (hi : i < 8) : byteAt (putAll l) (8 * k + i) = putByte l[k] i := by
  induction l generalizing k with
  | nil => cases hk
  | cons n l ih =>
    have e : putAll (n :: l) = put8 n ++ putAll l := by simp [putAll]
    rw [e]
    cases k with
    | zero => rw [show 8 * 0 + i = i by omega, byteAt_first _ _ _ (by rw [put8_length]; exact hi)]; exact put8_byte n i hi
    | succ k =>
      have hk' : k < l.length := by simpa using hk
      rw [show 8 * (k + 1) + i = (put8 n).length + (8 * k + i) by rw [put8_length]; omega, byteAt_right _ _ _ (by rw [putAll_length]; omega)]
      exact ih k hk'
/-- each number of those behind bytes ahead -/
theorem wordAt_all (a : List UInt8) (l : List (BitVec 64)) (k : Nat) (hk : k < l.length) : wordAt (a ++ putAll l) (a.length + 8 * k) 8 = l[k] := by
  apply wordAt_put
  intro i hi
  rw [Nat.add_assoc, byteAt_right _ _ _ (by rw [putAll_length]; omega)]
  exact putAll_byte l k i hk hi

/-- a slice that reads as these words -/
def NumsAt (w : World) (v : Value) (l : List (BitVec 64)) : Prop :=
  (v = .slice none 0 0 ∧ l = []) ∨
  ∃ a cap, v = .slice (some a) l.length cap ∧ l.length ≤ cap ∧ cap ≤ maxLen ∧ ∀ i, (h : i < l.length) → w.cell? (a.add i) = some (.int .u64 (q l[i]))
theorem NumsAt.grown {w w1 : World} {v : Value} {l : List (BitVec 64)} (h : NumsAt w v l) (hg : w.grownBy w1 none) : NumsAt w1 v l := by
  rcases h with h | ⟨a, cap, rfl, h1, h2, h3⟩
  · exact .inl h
  · exact .inr ⟨a, cap, rfl, h1, h2, fun i hi => hg.cell (h3 i hi) (by simp)⟩
theorem NumsAt.cells {w : World} {v : Value} {l : List (BitVec 64)} (h : NumsAt w v l) (hp : 0 < l.length) :
    ∃ ab ao cap, v = .slice (some ⟨ab, ao, none⟩) l.length cap ∧ ∀ i, (h : i < l.length) → w.cell? ⟨ab, ao + i, none⟩ = some (.int .u64 (q l[i])) := by
  rcases h with ⟨_, rfl⟩ | ⟨⟨ab, ao, asp⟩, cap, rfl, _, _, h3⟩
  · cases hp
  · have h0 := h3 0 hp
    have hsp : asp = none := by simpa [Addr.add] using World.cell?_spot h0
    subst hsp
    refine ⟨ab, ao, cap, rfl, fun i hi => ?_⟩
    have := h3 i hi
    unfold Addr.add at this
    split at this
    · next h => subst h; simpa using this
    · simpa using this
end Go.Proofs.YtfhifnhnkgdnlaaGreat
end
section
set_option linter.unusedSimpArgs false
namespace Go.Proofs.YtfhifnhnkgdnlaaGreat
set_option maxRecDepth 100000
open Go.RowKit

/-- bit t of the number that k bytes make -/
theorem word_bit (l : List UInt8) (m : Nat) : ∀ (k : Nat), k ≤ 8 → ∀ t, (wordAt l m k).getLsbD t = (decide (t < 8 * k) && (byteAt l (m + t / 8)).toNat.testBit (t % 8))
  | 0, _, t => by simp [wordAt]
  | k + 1, hk, t => by
    have ih := word_bit l m k (by omega) t
    have hb : (byteAt l (m + k)).toNat < 2 ^ 8 := (byteAt l (m + k)).toNat_lt
    unfold wordAt
    rw [BitVec.getLsbD_or, ih, BitVec.getLsbD_shiftLeft, BitVec.getLsbD_ofNat]
    by_cases h1 : t < 8 * k
    · simp [h1, show t < 8 * (k + 1) by omega]
    · by_cases h2 : t < 8 * (k + 1)
      · have e1 : t / 8 = k := by omega
        have e2 : t % 8 = t - 8 * k := by omega
        simp [h1, h2, e1, e2, show t < 64 by omega, show t - 8 * k < 64 by omega]
      · have h3 : (byteAt l (m + k)).toNat.testBit (t - 8 * k) = false := Nat.testBit_lt_two_pow (Nat.lt_of_lt_of_le hb (Nat.pow_le_pow_right (by decide) (by omega)))
        simp [h1, h2, h3]
theorem word_byte (l : List UInt8) (m i : Nat) (hi : i < 8) : putByte (wordAt l m 8) i = byteAt l (m + i) := by
  apply UInt8.toNat_inj.1
  apply Nat.eq_of_testBit_eq
  intro k
  unfold putByte
  rw [UInt8.toNat_ofNat']
  rw [show (2 : Nat) ^ 8 = 2 ^ 8 from rfl, Nat.testBit_mod_two_pow]
  have h1 : (wordAt l m 8 >>> (8 * i)).toNat.testBit k = (wordAt l m 8).getLsbD (8 * i + k) := by
    rw [← BitVec.getLsbD_ushiftRight]; rfl
  rw [h1, word_bit l m 8 (Nat.le_refl 8)]
  by_cases hk : k < 8
  · have e1 : (8 * i + k) / 8 = i := by omega
    have e2 : (8 * i + k) % 8 = k := by omega
    simp [hk, e1, e2, show 8 * i + k < 64 by omega]
  · have h3 : (byteAt l (m + i)).toNat.testBit k = false := Nat.testBit_lt_two_pow (Nat.lt_of_lt_of_le (byteAt l (m + i)).toNat_lt (Nat.pow_le_pow_right (by decide) (by omega)))
    simp [hk, h3]
/-- a list of sixteen bytes is the bytes of its two words -/
theorem put_words (l : List UInt8) (h : l.length = 16) : put8 (wordAt l 0 8) ++ put8 (wordAt l 8 8) = l := by
  match l, h with
  | [b0, b1, b2, b3, b4, b5, b6, b7, b8, b9, b10, b11, b12, b13, b14, b15], _ =>
    simp only [put8, word_byte _ _ _ (show 0 < 8 by decide), word_byte _ _ _ (show 1 < 8 by decide), word_byte _ _ _ (show 2 < 8 by decide), word_byte _ _ _ (show 3 < 8 by decide), word_byte _ _ _ (show 4 < 8 by decide), word_byte _ _ _ (show 5 < 8 by decide), word_byte _ _ _ (show 6 < 8 by decide), word_byte _ _ _ (show 7 < 8 by decide)]
    rfl
end Go.Proofs.YtfhifnhnkgdnlaaGreat
end
section
set_option linter.unusedSimpArgs false
namespace Go.Proofs.YtfhifnhnkgdnlaaGreat
set_option maxRecDepth 100000
open Go.RowKit

/-- a message's parts -/
structure Mg where
  kind : Int
  who : Int
  gen : Int
  seq : Int
  epoch : Int
  value : Int
  metric : Int
/-- which messages may be sent -/
def May (m : Mg) : Prop := (1 ≤ m.kind ∧ m.kind ≤ 3) ∧ (0 ≤ m.who ∧ m.who ≤ 15) ∧ (0 ≤ m.gen ∧ m.gen ≤ 60000) ∧ (1 ≤ m.seq ∧ m.seq ≤ 1099511627776) ∧ (0 ≤ m.epoch ∧ m.epoch ≤ 1099511627776) ∧
  (m.kind = 1 → (0 ≤ m.metric ∧ m.metric ≤ 3) ∧ (0 ≤ m.value ∧ m.value ≤ 1099511627776)) ∧ (m.kind ≠ 1 → m.metric = 0 ∧ m.value = 0)
instance (m : Mg) : Decidable (May m) := by unfold May; infer_instance
def mayOf (m : Mg) : Bool := decide (May m)
theorem may_of {m : Mg} (h : mayOf m = true) : May m := of_decide_eq_true h
theorem may_metric {m : Mg} (h : May m) : (0 ≤ m.metric ∧ m.metric ≤ 3) ∧ (0 ≤ m.value ∧ m.value ≤ 1099511627776) := by
  obtain ⟨_, _, _, _, _, h6, h7⟩ := h
  by_cases e : m.kind = 1
  · exact h6 e
  · have := h7 e; omega

def w64 (n : Int) : BitVec 64 := BitVec.ofInt 64 n
/-- a message's first eight bytes as a number -/
def headOf (m : Mg) : BitVec 64 := 1#64 ||| w64 m.kind <<< 8 ||| w64 m.who <<< 16 ||| w64 m.metric <<< 24 ||| w64 m.gen <<< 32
/-- a message's 32 bytes -/
def putOf (m : Mg) : List UInt8 := put8 (headOf m) ++ put8 (w64 m.seq) ++ put8 (w64 m.epoch) ++ put8 (w64 m.value)
theorem putOf_all (m : Mg) : putOf m = putAll [headOf m, w64 m.seq, w64 m.epoch, w64 m.value] := by simp [putOf, putAll]
theorem putOf_length (m : Mg) : (putOf m).length = 32 := rfl

theorem w64_toNat {n : Int} (h0 : 0 ≤ n) (h1 : n < 18446744073709551616) : (w64 n).toNat = n.toNat := by
  unfold w64; rw [BitVec.toNat_ofInt]; omega
theorem or_shift (x y : BitVec 64) (i : Nat) (hx : x.toNat < 2 ^ i) (hy : y.toNat * 2 ^ i < 2 ^ 64) : (x ||| y <<< i).toNat = x.toNat + y.toNat * 2 ^ i := by
  rw [BitVec.toNat_or, BitVec.toNat_shiftLeft, Nat.shiftLeft_eq, Nat.mod_eq_of_lt hy, Nat.or_comm, ← Nat.shiftLeft_eq, ← Nat.shiftLeft_add_eq_or_of_lt hx, Nat.shiftLeft_eq, Nat.add_comm]
theorem head_nat {m : Mg} (h : May m) : (headOf m).toNat = 1 + m.kind.toNat * 256 + m.who.toNat * 65536 + m.metric.toNat * 16777216 + m.gen.toNat * 4294967296 := by
  have hm := may_metric h
  obtain ⟨hk, hw, hg, _⟩ := h
  have k := w64_toNat (n := m.kind) (by omega) (by omega)
  have w := w64_toNat (n := m.who) (by omega) (by omega)
  have t := w64_toNat (n := m.metric) (by omega) (by omega)
  have g := w64_toNat (n := m.gen) (by omega) (by omega)
  unfold headOf
  have e1 := or_shift 1#64 (w64 m.kind) 8 (by decide) (by rw [k]; omega)
  rw [k] at e1
  have e2 := or_shift (1#64 ||| w64 m.kind <<< 8) (w64 m.who) 16 (by rw [e1]; simp; omega) (by rw [w]; omega)
  rw [e1, w] at e2
  have e3 := or_shift (1#64 ||| w64 m.kind <<< 8 ||| w64 m.who <<< 16) (w64 m.metric) 24 (by rw [e2]; simp; omega) (by rw [t]; omega)
  rw [e2, t] at e3
  have e4 := or_shift (1#64 ||| w64 m.kind <<< 8 ||| w64 m.who <<< 16 ||| w64 m.metric <<< 24) (w64 m.gen) 32 (by rw [e3]; simp; omega) (by rw [g]; omega)
  rw [e3, g] at e4
  rw [e4]; simp

theorem byte_of (x : BitVec 64) (i n : Nat) (h : x.toNat / 2 ^ (8 * i) % 256 = n % 256) : putByte x i = UInt8.ofNat n := by
  unfold putByte
  apply UInt8.toNat_inj.1
  rw [BitVec.toNat_ushiftRight, Nat.shiftRight_eq_div_pow]
  simp only [UInt8.toNat_ofNat']
  exact h
/-- a number cut to a byte -/
def u8of (n : Int) : UInt8 := UInt8.ofNat (n % 256).toNat
theorem u8of_wrap (n : Int) : IntKind.u8.wrap n = ((u8of n).toNat : Int) := by
  have h : IntKind.u8.wrap n = n % 256 := by simp [IntKind.wrap, IntKind.bits, IntKind.signed]
  rw [h]
  unfold u8of
  simp only [UInt8.toNat_ofNat']
  omega
theorem head_byte0 {m : Mg} (h : May m) : putByte (headOf m) 0 = 1 := byte_of _ 0 1 (by rw [head_nat h]; simp; omega)
theorem head_byte1 {m : Mg} (h : May m) : putByte (headOf m) 1 = u8of m.kind := byte_of _ 1 _ (by have := may_metric h; rw [head_nat h]; obtain ⟨_, _, _, _⟩ := h; simp; omega)
theorem head_byte2 {m : Mg} (h : May m) : putByte (headOf m) 2 = u8of m.who := byte_of _ 2 _ (by have := may_metric h; rw [head_nat h]; obtain ⟨_, _, _, _⟩ := h; simp; omega)
theorem head_byte3 {m : Mg} (h : May m) : putByte (headOf m) 3 = u8of m.metric := byte_of _ 3 _ (by have := may_metric h; rw [head_nat h]; obtain ⟨_, _, _, _⟩ := h; simp; omega)
theorem head_gen {m : Mg} (h : May m) (i : Nat) (hi : i < 4) : putByte (headOf m) (4 + i) = putByte (w64 m.gen) i := by
  have hm := may_metric h
  have hn := head_nat h
  obtain ⟨_, _, hg, _⟩ := h
  have g := w64_toNat (n := m.gen) (by omega) (by omega)
  refine (byte_of _ _ ((w64 m.gen).toNat / 2 ^ (8 * i)) ?_).trans (byte_of _ _ _ rfl).symm
  rw [hn, g]
  rcases (by omega : i = 0 ∨ i = 1 ∨ i = 2 ∨ i = 3) with rfl | rfl | rfl | rfl <;> simp <;> omega
theorem gen_high {m : Mg} (h : May m) (i : Nat) (hi : 4 ≤ i) (h8 : i < 8) : putByte (w64 m.gen) i = 0 := by
  obtain ⟨_, _, hg, _⟩ := h
  have g := w64_toNat (n := m.gen) (by omega) (by omega)
  refine byte_of _ _ 0 ?_
  rw [g]
  rcases (by omega : i = 4 ∨ i = 5 ∨ i = 6 ∨ i = 7) with rfl | rfl | rfl | rfl <;> simp <;> omega

/-- the document's own 32 bytes -/
def refPutOf (m : Mg) : List UInt8 := [1, u8of m.kind, u8of m.who, u8of m.metric] ++ (put8 (w64 m.gen)).take 4 ++ put8 (w64 m.seq) ++ put8 (w64 m.epoch) ++ put8 (w64 m.value)
theorem refPut_eq {m : Mg} (h : May m) : refPutOf m = putOf m := by
  have e0 := head_byte0 h; have e1 := head_byte1 h; have e2 := head_byte2 h; have e3 := head_byte3 h
  have g0 := head_gen h 0 (by omega); have g1 := head_gen h 1 (by omega); have g2 := head_gen h 2 (by omega); have g3 := head_gen h 3 (by omega)
  have hh : put8 (headOf m) = [1, u8of m.kind, u8of m.who, u8of m.metric] ++ (put8 (w64 m.gen)).take 4 := by
    simp only [Nat.add_zero, Nat.reduceAdd] at g0 g1 g2 g3
    simp [put8, e0, e1, e2, e3, g0, g1, g2, g3]
  unfold putOf refPutOf
  rw [hh]

/-- what is read from 32 bytes -/
def readOf (l : List UInt8) : Mg where
  kind := ((wordAt l 0 8).toNat / 256 % 256 : Nat)
  who := ((wordAt l 0 8).toNat / 65536 % 256 : Nat)
  gen := ((wordAt l 0 8).toNat / 4294967296 : Nat)
  seq := (wordAt l 8 8).toInt
  epoch := (wordAt l 16 8).toInt
  value := (wordAt l 24 8).toInt
  metric := ((wordAt l 0 8).toNat / 16777216 % 256 : Nat)
/-- the message that these bytes are of -/
def getOf (l : List UInt8) : Option Mg := if l.length = 32 ∧ (wordAt l 0 8).toNat % 256 = 1 ∧ May (readOf l) then some (readOf l) else none

theorem word_at (a : List (BitVec 64)) (k : Nat) (hk : k < a.length) : wordAt (putAll a) (8 * k) 8 = a[k] := by
  have := wordAt_all [] a k hk
  simpa using this
theorem put_w0 (m : Mg) : wordAt (putOf m) 0 8 = headOf m := by rw [putOf_all]; exact word_at _ 0 (by simp)
theorem put_w1 (m : Mg) : wordAt (putOf m) 8 8 = w64 m.seq := by rw [putOf_all]; exact word_at _ 1 (by simp)
theorem put_w2 (m : Mg) : wordAt (putOf m) 16 8 = w64 m.epoch := by rw [putOf_all]; exact word_at _ 2 (by simp)
theorem put_w3 (m : Mg) : wordAt (putOf m) 24 8 = w64 m.value := by rw [putOf_all]; exact word_at _ 3 (by simp)
theorem w64_toInt {n : Int} (h0 : 0 ≤ n) (h1 : n ≤ 1099511627776) : (w64 n).toInt = n := by
  unfold w64; rw [BitVec.toInt_ofInt]; exact Int.bmod_eq_of_le (by omega) (by omega)
theorem w64_of (x : BitVec 64) : w64 x.toInt = x := BitVec.ofInt_toInt
theorem read_put {m : Mg} (h : May m) : readOf (putOf m) = m := by
  have hm := may_metric h
  have hn := head_nat h
  obtain ⟨hk, hw, hg, hs, he, _⟩ := h
  have s := w64_toInt (n := m.seq) (by omega) (by omega)
  have e := w64_toInt (n := m.epoch) (by omega) (by omega)
  have v := w64_toInt (n := m.value) (by omega) (by omega)
  unfold readOf
  rw [put_w0, put_w1, put_w2, put_w3, s, e, v, hn]
  cases m with | mk kind who gen seq epoch value metric =>
  simp only at hk hw hg hm ⊢
  congr 1 <;> omega
/-- a message comes back from its bytes -/
theorem get_put {m : Mg} (h : May m) : getOf (putOf m) = some m := by
  unfold getOf
  rw [read_put h, put_w0, head_nat h, if_pos ⟨putOf_length m, by omega, h⟩]
theorem all_words (l : List UInt8) (h : l.length = 32) : l = putAll [wordAt l 0 8, wordAt l 8 8, wordAt l 16 8, wordAt l 24 8] := by
  apply List.ext_getElem
  · rw [putAll_length]; simpa using h
  intro j h1 h2
  rw [← byteAt_eq h1, ← byteAt_eq h2]
  have hj : j < 32 := by omega
  have hd : j = 8 * (j / 8) + j % 8 := by omega
  rw [hd, putAll_byte _ (j / 8) (j % 8) (by simp; omega) (by omega)]
  rcases (by omega : j / 8 = 0 ∨ j / 8 = 1 ∨ j / 8 = 2 ∨ j / 8 = 3) with e | e | e | e <;> rw [← hd] <;> simp only [e, List.getElem_cons_zero, List.getElem_cons_succ] <;> rw [word_byte l _ (j % 8) (by omega)] <;> congr 1 <;> omega
/-- and from these alone -/
theorem put_get {l : List UInt8} {m : Mg} (h : getOf l = some m) : May m ∧ l = putOf m := by
  unfold getOf at h
  split at h
  · rename_i hc
    obtain ⟨hl, h1, hm⟩ := hc
    cases h
    refine ⟨hm, ?_⟩
    rw [putOf_all]
    have hh : headOf (readOf l) = wordAt l 0 8 := by
      apply BitVec.eq_of_toNat_eq
      rw [head_nat hm]
      unfold readOf
      simp only [Int.toNat_natCast]
      have := (wordAt l 0 8).isLt
      omega
    have hs : w64 (readOf l).seq = wordAt l 8 8 := w64_of _
    have he : w64 (readOf l).epoch = wordAt l 16 8 := w64_of _
    have hv : w64 (readOf l).value = wordAt l 24 8 := w64_of _
    rw [hh, hs, he, hv]
    exact all_words l hl
  · cases h

/-- what the document reads from 32 bytes -/
def refReadOf (l : List UInt8) : Mg where
  kind := (byteAt l 1).toNat
  who := (byteAt l 2).toNat
  gen := (wordAt ((l.drop 4).take 4 ++ [0, 0, 0, 0]) 0 8).toInt
  seq := (wordAt l 8 8).toInt
  epoch := (wordAt l 16 8).toInt
  value := (wordAt l 24 8).toInt
  metric := (byteAt l 3).toNat
def refGetOf (l : List UInt8) : Option Mg := if l.length = 32 ∧ May (refReadOf l) ∧ refPutOf (refReadOf l) = l then some (refReadOf l) else none
theorem put_byte (m : Mg) (i : Nat) (h : i < 8) : byteAt (putOf m) i = putByte (headOf m) i := by
  rw [putOf_all]; have := putAll_byte [headOf m, w64 m.seq, w64 m.epoch, w64 m.value] 0 i (by simp) h; simpa using this
theorem u8of_nat {n : Int} (h0 : 0 ≤ n) (h1 : n < 256) : ((u8of n).toNat : Int) = n := by
  unfold u8of; simp only [UInt8.toNat_ofNat']; omega
theorem refread_put {m : Mg} (h : May m) : refReadOf (putOf m) = m := by
  have hm := may_metric h
  have b1 := put_byte m 1 (by omega); have b2 := put_byte m 2 (by omega); have b3 := put_byte m 3 (by omega)
  rw [head_byte1 h] at b1; rw [head_byte2 h] at b2; rw [head_byte3 h] at b3
  have hgen : wordAt (((putOf m).drop 4).take 4 ++ [0, 0, 0, 0]) 0 8 = w64 m.gen := by
    refine wordAt_put _ 0 _ fun i hi => ?_
    rw [Nat.zero_add]
    have hlen : (((putOf m).drop 4).take 4).length = 4 := by simp [putOf_length]
    by_cases h4 : i < 4
    · rw [byteAt_first _ _ _ (by omega), ← head_gen h i h4, ← put_byte m (4 + i) (by omega)]
      unfold byteAt
      simp only [List.getD_eq_getElem?_getD]
      rw [List.getElem?_take_of_lt h4, List.getElem?_drop]
    · rw [gen_high h i (by omega) hi]
      have e := byteAt_right (((putOf m).drop 4).take 4) [0, 0, 0, 0] (i - 4) (by simp; omega)
      rw [hlen, show 4 + (i - 4) = i by omega] at e
      rw [e]
      rcases (by omega : i = 4 ∨ i = 5 ∨ i = 6 ∨ i = 7) with rfl | rfl | rfl | rfl <;> rfl
  obtain ⟨hk, hw, hg, hs, he, _⟩ := h
  have s := w64_toInt (n := m.seq) (by omega) (by omega)
  have e := w64_toInt (n := m.epoch) (by omega) (by omega)
  have v := w64_toInt (n := m.value) (by omega) (by omega)
  have g := w64_toInt (n := m.gen) (by omega) (by omega)
  unfold refReadOf
  rw [b1, b2, b3, hgen, put_w1, put_w2, put_w3, s, e, v, g, u8of_nat (by omega) (by omega), u8of_nat (by omega) (by omega), u8of_nat (by omega) (by omega)]
/-- the document's own way is the same one -/
theorem refGet_eq (l : List UInt8) : refGetOf l = getOf l := by
  cases hg : getOf l with
  | some m =>
    obtain ⟨hm, rfl⟩ := put_get hg
    unfold refGetOf
    rw [refread_put hm, if_pos ⟨putOf_length m, hm, refPut_eq hm⟩]
  | none =>
    unfold refGetOf
    split
    · rename_i hc
      obtain ⟨hl, hm, hp⟩ := hc
      rw [refPut_eq hm] at hp
      have := get_put hm
      rw [hp, hg] at this
      cases this
    · rfl
end Go.Proofs.YtfhifnhnkgdnlaaGreat
end
section
namespace Go.Proofs.YtfhifnhnkgdnlaaGreat
set_option maxRecDepth 100000
open Go.RowKit

section
variable {P : Program} {ops : Array Oper} {rest : List Oper} {o : Oper} {a : Act} {w : World} {Q : Exit → Act → World → Prop} {b : Nat} {t ty : TypeId} {x y : Operand} {dst : Option Tmp} {d : TypeDesc} {cs old : Array Value}

theorem wpList_row {fr : Nat × Nat} (h : w.heap[b]? = some (.cells cs t fr)) (hu : P.underlying ty = some d) (hd : (match d with | .struct _ | .array _ _ => true | _ => false) = true) (hi : (P.info? ty).map (·.size) = some cs.size)
    (hg : o.guard = none) (ho : o.op = .load ty x) (hdst : o.dst = dst) (hx : a.eval x = .pointer (some ⟨b, 0, none⟩))
    (k : wpList P ops Q rest (a.put dst (.agg cs)) w) : wpList P ops Q (o :: rest) a w := by
  refine Great.wpList_readTo hg dst hdst (.agg cs) ?_ k
  simp only [execOp, ho, hx, Sem.run_bind, Instr.loadAt, Instr.sureAddr, Sem.run_pure, Result.andThen_ok, run_loadVar_row w b t ty cs fr d h hu hd hi]

/-- the same, the operation guarded and its guard decided -/
theorem wpList_row_w {fr : Nat × Nat} (h : w.heap[b]? = some (.cells cs t fr)) (hu : P.underlying ty = some d) (hd : (match d with | .struct _ | .array _ _ => true | _ => false) = true) (hi : (P.info? ty).map (·.size) = some cs.size)
    (hw : Region.wanted o (yielded ops a.tmps) = true) (ho : o.op = .load ty x) (hdst : o.dst = dst) (hx : a.eval x = .pointer (some ⟨b, 0, none⟩))
    (k : wpList P ops Q rest (a.put dst (.agg cs)) w) : wpList P ops Q (o :: rest) a w := by
  subst hdst
  refine wpList_step fun K hK => ?_
  simp only [hw, if_true]
  unfold Oper.wp
  have e : (execOp a.eval o).run P w = .ok (.value (.agg cs)) w := by
    simp only [execOp, ho, hx, Sem.run_bind, Instr.loadAt, Instr.sureAddr, Sem.run_pure, Result.andThen_ok, run_loadVar_row w b t ty cs fr d h hu hd hi]
  rw [e, Oper.upon_value]
  exact hK _ _ k

theorem wpList_store_row (h : w.heap[b]? = some (.cells old t (0, 0))) (hi : (P.info? ty).map (·.size) = some cs.size) (hsz : old.size = cs.size) (h1 : cs.all (·.oneCell') = true)
    (hg : o.guard = none) (ho : o.op = .store ty x y) (hdst : o.dst = none) (hx : a.eval x = .pointer (some ⟨b, 0, none⟩)) (hy : a.eval y = .agg cs)
    (k : wpList P ops Q rest a (w.setRow b cs)) : wpList P ops Q (o :: rest) a w := by
  refine wpList_plain hg fun K hK => ?_
  unfold Oper.wp
  have e : (execOp a.eval o).run P w = .ok .skip (w.setRow b cs) := by
    simp only [execOp, ho, hx, hy, Sem.run_bind, Instr.storeAt, Instr.sureAddr, Sem.run_pure, Result.andThen_ok, run_storeVar_row w b t ty old cs h hi hsz h1]
  rw [e, Oper.upon_skip, hdst]
  exact hK _ _ k

/-- the store into the block that was made last -/
theorem wpList_store_new {n : Nat} (hn : w.heap.size = n) (hi : (P.info? ty).map (·.size) = some cs.size) (hsz : old.size = cs.size) (h1 : cs.all (·.oneCell') = true)
    (hg : o.guard = none) (ho : o.op = .store ty x y) (hdst : o.dst = none) (hx : a.eval x = .pointer (some ⟨n, 0, none⟩)) (hy : a.eval y = .agg cs)
    (k : wpList P ops Q rest a (w.alloc (.cells cs t))) : wpList P ops Q (o :: rest) a (w.alloc (.cells old t)) :=
  wpList_store_row (heap_alloc_last w _) hi hsz h1 hg ho hdst (by rw [hn]; exact hx) hy (by rw [World.setRow_alloc_new]; exact k)

theorem wpList_buildTo {parts : Array (Nat × Operand)} (hg : o.guard = none) (ho : o.op = .build ty parts) (hdst : o.dst = dst)
    (hb : P.built ty (parts.map fun (i, x) => (i, a.eval x)).toList = some cs)
    (k : wpList P ops Q rest (a.put dst (.agg cs)) w) : wpList P ops Q (o :: rest) a w := by
  refine Great.wpList_readTo hg dst hdst (.agg cs) ?_ k
  have e := run_build (P := P) w ty (parts.map fun (i, x) => (i, a.eval x)) cs hb
  simp only [execOp, ho, Sem.run_bind, e, Sem.run_pure, Result.andThen_ok]

/-- the same two in a region that leaves its order open ('wpAnyH_take') -/
theorem exec_row {ρ : Operand → Value} {fr : Nat × Nat} (h : w.heap[b]? = some (.cells cs t fr)) (hu : P.underlying ty = some d) (hd : (match d with | .struct _ | .array _ _ => true | _ => false) = true) (hi : (P.info? ty).map (·.size) = some cs.size)
    (ho : o.op = .load ty x) (hx : ρ x = .pointer (some ⟨b, 0, none⟩)) : (execOp ρ o).run P w = .ok (.value (.agg cs)) w := by
  simp only [execOp, ho, hx, Sem.run_bind, Instr.loadAt, Instr.sureAddr, Sem.run_pure, Result.andThen_ok, run_loadVar_row w b t ty cs fr d h hu hd hi]
theorem exec_build {ρ : Operand → Value} {parts : Array (Nat × Operand)} (ho : o.op = .build ty parts) (hb : P.built ty (parts.map fun (i, x) => (i, ρ x)).toList = some cs) : (execOp ρ o).run P w = .ok (.value (.agg cs)) w := by
  have e := run_build (P := P) w ty (parts.map fun (i, x) => (i, ρ x)) cs hb
  simp only [execOp, ho, Sem.run_bind, e, Sem.run_pure, Result.andThen_ok]
end

/-- what a store of a whole row leaves -/
theorem at_setRow {w : World} {b : Nat} {old cs : Array Value} {t : TypeId} {f : Nat × Nat} (h : w.heap[b]? = some (.cells old t f)) : (w.setRow b cs).heap[b]? = some (.cells cs t f) := by
  simp [World.setRow, Array.getElem?_modify, h]
theorem at_setRow_other {w : World} {b k : Nat} {cs : Array Value} {o : Option Obj} (h : w.heap[k]? = o) (hk : k ≠ b) : (w.setRow b cs).heap[k]? = o := by
  simp [World.setRow, Array.getElem?_modify, Ne.symm hk, h]
end Go.Proofs.YtfhifnhnkgdnlaaGreat
end
section
set_option linter.unusedSimpArgs false
namespace Go.Proofs.YtfhifnhnkgdnlaaGreat
set_option maxRecDepth 100000
open Go.RowKit

@[reducible] def Mg.cells (m : Mg) : Array Value := #[.int .i64 m.kind, .int .i64 m.who, .int .i64 m.gen, .int .i64 m.seq, .int .i64 m.epoch, .int .i64 m.value, .int .i64 m.metric]
@[reducible] def mg (m : Mg) : Value := .agg m.cells

def within (n lo hi : Int) : Bool := decide (lo ≤ n) && decide (n ≤ hi)
theorem within_any (n lo hi : Int) (w : World) :
    Calls Tryz.prog 101 #[.int .i64 n, .int .i64 lo, .int .i64 hi] w fun e w' => e = .returned (.bool (within n lo hi)) ∧ w' = w := by
  unfold within
  by_cases h1 : lo ≤ n <;> by_cases h2 : n ≤ hi <;> (
  go_enter Tryz.func101, Tryz.ntmps101
  go_wp2_with fail
  go_ret
  simp [h1, h2])
theorem within64_any (n lo hi : Int) (w : World) :
    Calls Tryz.prog 102 #[.int .i64 n, .int .i64 lo, .int .i64 hi] w fun e w' => e = .returned (.bool (within n lo hi)) ∧ w' = w := by
  unfold within
  by_cases h1 : lo ≤ n <;> by_cases h2 : n ≤ hi <;> (
  go_enter Tryz.func102, Tryz.ntmps102
  go_wp2_with fail
  go_ret
  simp [h1, h2])
theorem in_any (n lo hi : Int) (w : World) :
    Calls Tryz.prog 107 #[.int .i64 n, .int .i64 lo, .int .i64 hi] w fun e w' => e = .returned (.bool (within n lo hi)) ∧ w' = w := by
  unfold within
  by_cases h1 : lo ≤ n <;> by_cases h2 : n ≤ hi <;> (
  go_enter Tryz.func107, Tryz.ntmps107
  go_wp2_with fail
  go_ret
  simp [h1, h2])

/-- the function's own block: the message that came in; all else as it was, or new -/
structure BoxM (w : World) (m : Mg) (w' : World) : Prop where
  box : w'.heap[w.heap.size]? = some (.cells m.cells 39)
  g : w.grownBy w' none
theorem BoxM.grown {w : World} {m : Mg} {w1 w2 : World} (h : BoxM w m w1) (hg : w1.grownBy w2 none) : BoxM w m w2 := ⟨at_grown h.box hg (by simp), gb_trans h.g hg (.inl rfl)⟩
theorem BoxM.drew {w : World} {m : Mg} {w1 : World} (h : BoxM w m w1) : BoxM w m w1.drew := ⟨h.box, gb_drew h.g⟩
theorem boxm_new (w : World) (m : Mg) : BoxM w m (w.alloc (.cells m.cells 39)) := ⟨at_new w _, gb_alloc (.refl w none) _⟩
theorem msg_cells {w : World} {b : Nat} {m : Mg} {t : TypeId} {fr : Nat × Nat} (h : w.heap[b]? = some (.cells m.cells t fr)) :
    w.cell? ⟨b, 0, none⟩ = some (.int .i64 m.kind) ∧ w.cell? ⟨b, 1, none⟩ = some (.int .i64 m.who) ∧ w.cell? ⟨b, 2, none⟩ = some (.int .i64 m.gen) ∧ w.cell? ⟨b, 3, none⟩ = some (.int .i64 m.seq) ∧ w.cell? ⟨b, 4, none⟩ = some (.int .i64 m.epoch) ∧ w.cell? ⟨b, 5, none⟩ = some (.int .i64 m.value) ∧ w.cell? ⟨b, 6, none⟩ = some (.int .i64 m.metric) :=
  ⟨at_cell h 0, at_cell h 1, at_cell h 2, at_cell h 3, at_cell h 4, at_cell h 5, at_cell h 6⟩

def measB (m : Mg) : Bool := if m.kind = 1 then within m.metric 0 3 && within m.value 0 1099511627776 else decide (m.metric = 0) && decide (m.value = 0)
set_option maxHeartbeats 1600000 in
theorem measures_any (m : Mg) (w : World) :
    Calls Tryz.prog 103 #[mg m] w fun e w' => e = .returned (.bool (measB m)) ∧ w.grownBy w' none := by
  unfold measB
  by_cases hk : m.kind = 1
  · have HK := hid hk
    obtain ⟨x, hx⟩ : ∃ x, within m.metric 0 3 = x := ⟨_, rfl⟩
    obtain ⟨y, hy⟩ : ∃ y, within m.value 0 1099511627776 = y := ⟨_, rfl⟩
    have h1 := fun w => within_any m.metric 0 3 w
    have h2 := fun w => within64_any m.value 0 1099511627776 w
    rw [hx] at h1; rw [hy] at h2
    rw [if_pos hk, hx, hy]
    clear hx hy
    have C1 := hid h1; have C2 := hid h2; clear h1 h2
    cases x <;> (
    go_enter Tryz.func103, Tryz.ntmps103
    go_wp2_with (first | (go_at_call 101; (with_reducible refine (C1.out _).mono ?_); rintro e w1 ⟨rfl, rfl⟩) | (go_at_call 102; (with_reducible refine (C2.out _).mono ?_); rintro e w2 ⟨rfl, rfl⟩))
    go_ret
    exact ⟨rfl, gb_alloc (.refl w none) _⟩)
  · rw [if_neg hk]
    by_cases h1 : m.metric = 0 <;> by_cases h2 : m.value = 0 <;> (
    go_enter Tryz.func103, Tryz.ntmps103
    go_wp2_with fail
    go_ret
    refine ⟨by simp [h1, h2], gb_alloc (.refl w none) _⟩)
theorem may_bool (m : Mg) : mayOf m = (within m.kind 1 3 && within m.who 0 15 && within m.gen 0 60000 && within m.seq 1 1099511627776 && within m.epoch 0 1099511627776 && measB m) := by
  rw [Bool.eq_iff_iff]
  unfold mayOf May measB within
  by_cases h : m.kind = 1 <;> simp [h, and_assoc]
end Go.Proofs.YtfhifnhnkgdnlaaGreat
end
section
set_option linter.unusedSimpArgs false
set_option linter.unusedVariables false
namespace Go.Proofs.YtfhifnhnkgdnlaaGreat
set_option maxRecDepth 100000
open Go.RowKit

theorem within_not_low {n lo hi : Int} (h : n < lo) : within n lo hi = false := by unfold within; simp; omega
theorem within_not_high {n lo hi : Int} (h : hi < n) : within n lo hi = false := by unfold within; simp; omega
theorem within_yes {n lo hi : Int} (h0 : lo ≤ n) (h1 : n ≤ hi) : within n lo hi = true := by unfold within; simp; omega
theorem and5 {a b c d e f : Bool} (h : a = false ∨ b = false ∨ c = false ∨ d = false ∨ e = false) : (a && b && c && d && e && f) = false := by
  rcases h with rfl | rfl | rfl | rfl | rfl <;> simp
theorem and6 {a b c d e f r : Bool} (ha : a = true) (hb : b = true) (hc : c = true) (hd : d = true) (he : e = true) (hf : f = r) : (a && b && c && d && e && f) = r := by
  subst ha; subst hb; subst hc; subst hd; subst he; simp [hf]
theorem ret_bool {a b : Bool} (h : b = a) : Ending.returned (.bool a) = Ending.returned (.bool b) := by rw [h]
theorem meas_one {m : Mg} (hk : m.kind = 1) {r : Bool} (h : (within m.metric 0 3 && within m.value 0 1099511627776) = r) : measB m = r := by unfold measB; rw [if_pos hk]; exact h
theorem meas_not {m : Mg} (hk : ¬ m.kind = 1) {r : Bool} (h : (decide (m.metric = 0) && decide (m.value = 0)) = r) : measB m = r := by unfold measB; rw [if_neg hk]; exact h
set_option maxHeartbeats 6400000 in
theorem maymsg_any (m : Mg) (w : World) :
    Calls Tryz.prog 66 #[mg m] w fun e w' => e = .returned (.bool (mayOf m)) ∧ w.grownBy w' none := by
  obtain ⟨r, hr⟩ : ∃ r, mayOf m = r := ⟨_, rfl⟩
  rw [hr]
  rw [may_bool] at hr
  have HR := hid hr; clear hr
  have c1 := fun w => in_any m.kind 1 3 w
  obtain ⟨x1, h1⟩ : ∃ x, within m.kind 1 3 = x := ⟨_, rfl⟩
  rw [h1] at c1
  have C1 := hid c1; have E1 := hid h1; clear c1 h1
  have c2 := fun w => in_any m.who 0 15 w
  obtain ⟨x2, h2⟩ : ∃ x, within m.who 0 15 = x := ⟨_, rfl⟩
  rw [h2] at c2
  have C2 := hid c2; have E2 := hid h2; clear c2 h2
  have c3 := fun w => in_any m.gen 0 60000 w
  obtain ⟨x3, h3⟩ : ∃ x, within m.gen 0 60000 = x := ⟨_, rfl⟩
  rw [h3] at c3
  have C3 := hid c3; have E3 := hid h3; clear c3 h3
  have c4 := fun w => in_any m.metric 0 3 w
  obtain ⟨x4, h4⟩ : ∃ x, within m.metric 0 3 = x := ⟨_, rfl⟩
  rw [h4] at c4
  have C4 := hid c4; have E4 := hid h4; clear c4 h4
  cases x1
  · go_enter Tryz.func66, Tryz.ntmps66
    go_wp2_with (go_at_call 107; (with_reducible first | refine (C1.out _).mono ?_ | refine (C5.out _).mono ?_ | refine (C2.out _).mono ?_ | refine (C3.out _).mono ?_ | refine (C4.out _).mono ?_); rintro e w1 ⟨rfl, rfl⟩)
    go_ret
    exact ⟨ret_bool (HR.out.symm.trans (and5 (.inl E1.out))), gb_alloc (.refl w none) _⟩
  cases x2
  · go_enter Tryz.func66, Tryz.ntmps66
    go_wp2_with (go_at_call 107; (with_reducible first | refine (C1.out _).mono ?_ | refine (C5.out _).mono ?_ | refine (C2.out _).mono ?_ | refine (C3.out _).mono ?_ | refine (C4.out _).mono ?_); rintro e w1 ⟨rfl, rfl⟩)
    go_ret
    exact ⟨ret_bool (HR.out.symm.trans (and5 (.inr (.inl E2.out)))), gb_alloc (.refl w none) _⟩
  cases x3
  · go_enter Tryz.func66, Tryz.ntmps66
    go_wp2_with (go_at_call 107; (with_reducible first | refine (C1.out _).mono ?_ | refine (C5.out _).mono ?_ | refine (C2.out _).mono ?_ | refine (C3.out _).mono ?_ | refine (C4.out _).mono ?_); rintro e w1 ⟨rfl, rfl⟩)
    go_ret
    exact ⟨ret_bool (HR.out.symm.trans (and5 (.inr (.inr (.inl E3.out))))), gb_alloc (.refl w none) _⟩
  by_cases l0 : m.seq < 1
  · have b0 := within_not_low (hi := 1099511627776) l0
    have B0 := hid b0; clear b0
    go_enter Tryz.func66, Tryz.ntmps66
    go_wp2_with (go_at_call 107; (with_reducible first | refine (C1.out _).mono ?_ | refine (C5.out _).mono ?_ | refine (C2.out _).mono ?_ | refine (C3.out _).mono ?_ | refine (C4.out _).mono ?_); rintro e w1 ⟨rfl, rfl⟩)
    go_ret
    exact ⟨ret_bool (HR.out.symm.trans (and5 (.inr (.inr (.inr (.inl (B0.out))))))), gb_alloc (.refl w none) _⟩
  by_cases u0 : 1099511627776 < m.seq
  · have b0 := within_not_high (lo := 1) u0
    have B0 := hid b0; clear b0
    go_enter Tryz.func66, Tryz.ntmps66
    go_wp2_with (go_at_call 107; (with_reducible first | refine (C1.out _).mono ?_ | refine (C5.out _).mono ?_ | refine (C2.out _).mono ?_ | refine (C3.out _).mono ?_ | refine (C4.out _).mono ?_); rintro e w1 ⟨rfl, rfl⟩)
    go_ret
    exact ⟨ret_bool (HR.out.symm.trans (and5 (.inr (.inr (.inr (.inl (B0.out))))))), gb_alloc (.refl w none) _⟩
  have g0 := within_yes (lo := 1) (hi := 1099511627776) (Int.not_lt.1 l0) (Int.not_lt.1 u0)
  have GB0 := hid g0; clear g0
  by_cases l1 : m.epoch < 0
  · have b1 := within_not_low (hi := 1099511627776) l1
    have B1 := hid b1; clear b1
    go_enter Tryz.func66, Tryz.ntmps66
    go_wp2_with (go_at_call 107; (with_reducible first | refine (C1.out _).mono ?_ | refine (C5.out _).mono ?_ | refine (C2.out _).mono ?_ | refine (C3.out _).mono ?_ | refine (C4.out _).mono ?_); rintro e w1 ⟨rfl, rfl⟩)
    go_ret
    exact ⟨ret_bool (HR.out.symm.trans (and5 (.inr (.inr (.inr (.inr (B1.out))))))), gb_alloc (.refl w none) _⟩
  by_cases u1 : 1099511627776 < m.epoch
  · have b1 := within_not_high (lo := 0) u1
    have B1 := hid b1; clear b1
    go_enter Tryz.func66, Tryz.ntmps66
    go_wp2_with (go_at_call 107; (with_reducible first | refine (C1.out _).mono ?_ | refine (C5.out _).mono ?_ | refine (C2.out _).mono ?_ | refine (C3.out _).mono ?_ | refine (C4.out _).mono ?_); rintro e w1 ⟨rfl, rfl⟩)
    go_ret
    exact ⟨ret_bool (HR.out.symm.trans (and5 (.inr (.inr (.inr (.inr (B1.out))))))), gb_alloc (.refl w none) _⟩
  have g1 := within_yes (lo := 0) (hi := 1099511627776) (Int.not_lt.1 l1) (Int.not_lt.1 u1)
  have GB1 := hid g1; clear g1
  by_cases hk : m.kind = 1
  · have HK := hid hk
    have c5 := C1.out
    rw [hk] at c5
    have C5 := hid c5; clear c5
    cases x4
    · have HZ := hid (meas_one (r := false) HK.out (by rw [E4.out]; rfl))
      go_enter Tryz.func66, Tryz.ntmps66
      go_wp2_with (go_at_call 107; (with_reducible first | refine (C1.out _).mono ?_ | refine (C5.out _).mono ?_ | refine (C2.out _).mono ?_ | refine (C3.out _).mono ?_ | refine (C4.out _).mono ?_); rintro e w1 ⟨rfl, rfl⟩)
      go_ret
      exact ⟨ret_bool (HR.out.symm.trans (and6 E1.out E2.out E3.out GB0.out GB1.out HZ.out)), gb_alloc (.refl w none) _⟩
    by_cases l2 : m.value < 0
    · have HZ := hid (meas_one (r := false) HK.out (by rw [within_not_low l2]; simp))
      go_enter Tryz.func66, Tryz.ntmps66
      go_wp2_with (go_at_call 107; (with_reducible first | refine (C1.out _).mono ?_ | refine (C5.out _).mono ?_ | refine (C2.out _).mono ?_ | refine (C3.out _).mono ?_ | refine (C4.out _).mono ?_); rintro e w1 ⟨rfl, rfl⟩)
      go_ret
      exact ⟨ret_bool (HR.out.symm.trans (and6 E1.out E2.out E3.out GB0.out GB1.out HZ.out)), gb_alloc (.refl w none) _⟩
    by_cases u2 : 1099511627776 < m.value
    · have HZ := hid (meas_one (r := decide (m.value ≤ 1099511627776)) HK.out (by rw [within_not_high u2]; simp; omega))
      go_enter Tryz.func66, Tryz.ntmps66
      go_wp2_with (go_at_call 107; (with_reducible first | refine (C1.out _).mono ?_ | refine (C5.out _).mono ?_ | refine (C2.out _).mono ?_ | refine (C3.out _).mono ?_ | refine (C4.out _).mono ?_); rintro e w1 ⟨rfl, rfl⟩)
      go_ret
      exact ⟨ret_bool (HR.out.symm.trans (and6 E1.out E2.out E3.out GB0.out GB1.out HZ.out)), gb_alloc (.refl w none) _⟩
    have HZ := hid (meas_one (r := true) HK.out (by rw [E4.out, within_yes (Int.not_lt.1 l2) (Int.not_lt.1 u2)]; rfl))
    go_enter Tryz.func66, Tryz.ntmps66
    go_wp2_with (go_at_call 107; (with_reducible first | refine (C1.out _).mono ?_ | refine (C5.out _).mono ?_ | refine (C2.out _).mono ?_ | refine (C3.out _).mono ?_ | refine (C4.out _).mono ?_); rintro e w1 ⟨rfl, rfl⟩)
    go_ret
    exact ⟨ret_bool (HR.out.symm.trans (and6 E1.out E2.out E3.out GB0.out GB1.out HZ.out)), gb_alloc (.refl w none) _⟩
  · by_cases h1 : m.metric = 0
    · by_cases h2 : m.value = 0
      · have HZ := hid (meas_not (r := true) hk (by simp [h1, h2]))
        go_enter Tryz.func66, Tryz.ntmps66
        go_wp2_with (go_at_call 107; (with_reducible first | refine (C1.out _).mono ?_ | refine (C5.out _).mono ?_ | refine (C2.out _).mono ?_ | refine (C3.out _).mono ?_ | refine (C4.out _).mono ?_); rintro e w1 ⟨rfl, rfl⟩)
        go_ret
        exact ⟨ret_bool (HR.out.symm.trans (and6 E1.out E2.out E3.out GB0.out GB1.out HZ.out)), gb_alloc (.refl w none) _⟩
      · have HZ := hid (meas_not (r := (m.value == 0)) hk (by simp [h1, h2]))
        go_enter Tryz.func66, Tryz.ntmps66
        go_wp2_with (go_at_call 107; (with_reducible first | refine (C1.out _).mono ?_ | refine (C5.out _).mono ?_ | refine (C2.out _).mono ?_ | refine (C3.out _).mono ?_ | refine (C4.out _).mono ?_); rintro e w1 ⟨rfl, rfl⟩)
        go_ret
        exact ⟨ret_bool (HR.out.symm.trans (and6 E1.out E2.out E3.out GB0.out GB1.out HZ.out)), gb_alloc (.refl w none) _⟩
    · have HZ := hid (meas_not (r := false) hk (by simp [h1]))
      go_enter Tryz.func66, Tryz.ntmps66
      go_wp2_with (go_at_call 107; (with_reducible first | refine (C1.out _).mono ?_ | refine (C5.out _).mono ?_ | refine (C2.out _).mono ?_ | refine (C3.out _).mono ?_ | refine (C4.out _).mono ?_); rintro e w1 ⟨rfl, rfl⟩)
      go_ret
      exact ⟨ret_bool (HR.out.symm.trans (and6 E1.out E2.out E3.out GB0.out GB1.out HZ.out)), gb_alloc (.refl w none) _⟩
end Go.Proofs.YtfhifnhnkgdnlaaGreat
end
section
namespace Go.Proofs.YtfhifnhnkgdnlaaGreat
set_option maxRecDepth 100000
open Go.RowKit
theorem held_stronger {P : Program} {md : Region.Mode} {ops : Array Oper} {Q : Exit → Act → World → Prop} {S S' : World → Prop} (hS : ∀ w, S' w → S w) :
    ∀ (fuel : Nat) (listed : Array Bool) (a : Act) (w : World), wpAnyH P md ops Q S' fuel listed a w → wpAnyH P md ops Q S fuel listed a w
  | 0, _, _, _, h => h
  | fuel + 1, _, _, _, h => ⟨h.1, fun i hi => wpOp_mono (fun a' w' h' => ⟨hS _ h'.1, held_stronger hS fuel _ a' w' h'.2⟩) (h.2 i hi)⟩
end Go.Proofs.YtfhifnhnkgdnlaaGreat
end
section
set_option linter.unusedSimpArgs false
set_option linter.unusedVariables false
namespace Go.Proofs.YtfhifnhnkgdnlaaGreat
set_option maxRecDepth 100000
open Go.RowKit

set_option maxHeartbeats 1600000 in
theorem rput_bad (m : Mg) (hm : mayOf m = false) (w : World) :
    Calls Tryz.prog 48 #[mg m] w fun e w' => e = .returned (.tuple #[.string ⟨#[]⟩, .int .i64 1]) ∧ w.grownBy w' none := by
  have hc := maymsg_any m
  rw [hm] at hc
  have C := hid hc; clear hc hm
  have B := hid (boxm_new w m)
  go_enter Tryz.func48, Tryz.ntmps48
  go_wp2_with (refine wpList_row B.out.box Tryz.underlying39 rfl (by kernel_rfl) rfl rfl rfl rfl ?_)
  refine (C.out _).mono ?_
  rintro e w1 ⟨rfl, hg⟩
  have G := hid hg; clear hg
  go_wp2_with fail
  go_ret2
  exact ⟨rfl, gb_trans (gb_alloc (.refl w none) _) G.out (.inl rfl)⟩

set_option maxHeartbeats 3200000 in
theorem rput_good (m : Mg) (hm : mayOf m = true) (w : World) :
    Calls Tryz.prog 48 #[mg m] w fun e w' => e = .returned (.tuple #[.string ⟨(refPutOf m).toArray⟩, .int .i64 0]) ∧ w.grownBy w' none := by
  have hc := maymsg_any m
  rw [hm] at hc
  have C := hid hc; clear hc hm
  have B0 := hid (boxm_new w m)
  have he : (⟨[1, u8of m.kind, u8of m.who, u8of m.metric].toArray⟩ : ByteArray) ++ (⟨(put8 (w64 m.gen)).toArray⟩ : ByteArray).extract 0 4 ++ ⟨(put8 (w64 m.seq)).toArray⟩ ++ ⟨(put8 (w64 m.epoch)).toArray⟩ ++ ⟨(put8 (w64 m.value)).toArray⟩ = ⟨(refPutOf m).toArray⟩ := by
    apply ByteArray.ext; simp [refPutOf, put8]
  have p1 := fun w => refput_any (w64 m.gen) w
  have p2 := fun w => refput_any (w64 m.seq) w
  have p3 := fun w => refput_any (w64 m.epoch) w
  have p4 := fun w => refput_any (w64 m.value) w
  have z1 : (⟨(put8 (w64 m.gen)).toArray⟩ : ByteArray).size = 8 := rfl
  have z2 : (⟨(put8 (w64 m.seq)).toArray⟩ : ByteArray).size = 8 := rfl
  have z3 : (⟨(put8 (w64 m.epoch)).toArray⟩ : ByteArray).size = 8 := rfl
  have z4 : (⟨(put8 (w64 m.value)).toArray⟩ : ByteArray).size = 8 := rfl
  generalize (⟨(put8 (w64 m.gen)).toArray⟩ : ByteArray) = s1 at he p1 z1
  generalize (⟨(put8 (w64 m.seq)).toArray⟩ : ByteArray) = s2 at he p2 z2
  generalize (⟨(put8 (w64 m.epoch)).toArray⟩ : ByteArray) = s3 at he p3 z3
  generalize (⟨(put8 (w64 m.value)).toArray⟩ : ByteArray) = s4 at he p4 z4
  generalize (⟨(refPutOf m).toArray⟩ : ByteArray) = s5 at he ⊢
  subst he
  have P1 := hid p1; have P2 := hid p2; have P3 := hid p3; have P4 := hid p4; clear p1 p2 p3 p4
  go_enter Tryz.func48, Tryz.ntmps48
  go_wp2_with (refine wpList_row B0.out.box Tryz.underlying39 rfl (by kernel_rfl) rfl rfl rfl rfl ?_)
  refine (C.out _).mono ?_
  rintro e w1 ⟨rfl, hg⟩
  have B := hid (B0.out.grown hg); clear hg B0 C
  have hk := u8of_wrap m.kind; have hw := u8of_wrap m.who; have hmt := u8of_wrap m.metric
  have hgn : IntKind.u64.wrap m.gen = q (w64 m.gen) := q_lit m.gen
  have hs : IntKind.u64.wrap m.seq = q (w64 m.seq) := q_lit m.seq
  have he : IntKind.u64.wrap m.epoch = q (w64 m.epoch) := q_lit m.epoch
  have hv : IntKind.u64.wrap m.value = q (w64 m.value) := q_lit m.value
  go_wp2_with fail
  refine wp_region_held_drew (S := (fun w' => (BoxM w m w'))) (by kernel_rfl) B.out.drew (fun hHeld => ?_)
  try dsimp only at hHeld
  refine' jT 0 rfl (by rfl) ?_ hHeld ?_
  rotate_left
  · (intro w hSw; (try dsimp only at hSw); go_simp; try with_reducible rfl)
  try simp only [Act.put, jA, jB, jC, jD, jE, jF]
  refine' jT 1 rfl (by rfl) ?_ hHeld ?_
  rotate_left
  · (intro w hSw; (try dsimp only at hSw); have bx := hSw; obtain ⟨d0, d1, d2, d3, d4, d5, d6⟩ := msg_cells bx.box; go_simp; try with_reducible rfl)
  try simp only [Act.put, jA, jB, jC, jD, jE, jF]
  refine' jT 2 rfl (by rfl) ?_ hHeld ?_
  rotate_left
  · (intro w hSw; (try dsimp only at hSw); go_simp; try with_reducible rfl)
  try simp only [Act.put, jA, jB, jC, jD, jE, jF]
  refine' jT 3 rfl (by rfl) ?_ hHeld ?_
  rotate_left
  · (intro w hSw; (try dsimp only at hSw); go_simp; try with_reducible rfl)
  try simp only [Act.put, jA, jB, jC, jD, jE, jF]
  refine' jT 4 rfl (by rfl) ?_ hHeld ?_
  rotate_left
  · (intro w hSw; (try dsimp only at hSw); have bx := hSw; obtain ⟨d0, d1, d2, d3, d4, d5, d6⟩ := msg_cells bx.box; go_simp; try with_reducible rfl)
  try simp only [Act.put, jA, jB, jC, jD, jE, jF]
  refine' jT 5 rfl (by rfl) ?_ hHeld ?_
  rotate_left
  · (intro w hSw; (try dsimp only at hSw); go_simp; try with_reducible rfl)
  try simp only [Act.put, jA, jB, jC, jD, jE, jF]
  refine' jT 6 rfl (by rfl) ?_ hHeld ?_
  rotate_left
  · (intro w hSw; (try dsimp only at hSw); go_simp; try with_reducible rfl)
  try simp only [Act.put, jA, jB, jC, jD, jE, jF]
  refine' jT 7 rfl (by rfl) ?_ hHeld ?_
  rotate_left
  · (intro w hSw; (try dsimp only at hSw); have bx := hSw; obtain ⟨d0, d1, d2, d3, d4, d5, d6⟩ := msg_cells bx.box; go_simp; try with_reducible rfl)
  try simp only [Act.put, jA, jB, jC, jD, jE, jF]
  refine' jT 8 rfl (by rfl) ?_ hHeld ?_
  rotate_left
  · (intro w hSw; (try dsimp only at hSw); go_simp; try with_reducible rfl)
  try simp only [Act.put, jA, jB, jC, jD, jE, jF]
  refine' jT 11 rfl (by rfl) ?_ hHeld ?_
  rotate_left
  · (intro w hSw; (try dsimp only at hSw); go_simp; try with_reducible rfl)
  try simp only [Act.put, jA, jB, jC, jD, jE, jF]
  refine' jT 12 rfl (by rfl) ?_ hHeld ?_
  rotate_left
  · (intro w hSw; (try dsimp only at hSw); have bx := hSw; obtain ⟨d0, d1, d2, d3, d4, d5, d6⟩ := msg_cells bx.box; go_simp; try with_reducible rfl)
  try simp only [Act.put, jA, jB, jC, jD, jE, jF]
  refine' jT 13 rfl (by rfl) ?_ hHeld ?_
  rotate_left
  · (intro w hSw; (try dsimp only at hSw); go_simp; try with_reducible rfl)
  try simp only [Act.put, jA, jB, jC, jD, jE, jF]
  refine' jT 17 rfl (by rfl) ?_ hHeld ?_
  rotate_left
  · (intro w hSw; (try dsimp only at hSw); go_simp; try with_reducible rfl)
  try simp only [Act.put, jA, jB, jC, jD, jE, jF]
  refine' jT 18 rfl (by rfl) ?_ hHeld ?_
  rotate_left
  · (intro w hSw; (try dsimp only at hSw); have bx := hSw; obtain ⟨d0, d1, d2, d3, d4, d5, d6⟩ := msg_cells bx.box; go_simp; try with_reducible rfl)
  try simp only [Act.put, jA, jB, jC, jD, jE, jF]
  refine' jT 19 rfl (by rfl) ?_ hHeld ?_
  rotate_left
  · (intro w hSw; (try dsimp only at hSw); go_simp; try with_reducible rfl)
  try simp only [Act.put, jA, jB, jC, jD, jE, jF]
  refine' jT 22 rfl (by rfl) ?_ hHeld ?_
  rotate_left
  · (intro w hSw; (try dsimp only at hSw); go_simp; try with_reducible rfl)
  try simp only [Act.put, jA, jB, jC, jD, jE, jF]
  refine' jT 23 rfl (by rfl) ?_ hHeld ?_
  rotate_left
  · (intro w hSw; (try dsimp only at hSw); have bx := hSw; obtain ⟨d0, d1, d2, d3, d4, d5, d6⟩ := msg_cells bx.box; go_simp; try with_reducible rfl)
  try simp only [Act.put, jA, jB, jC, jD, jE, jF]
  refine' jT 24 rfl (by rfl) ?_ hHeld ?_
  rotate_left
  · (intro w hSw; (try dsimp only at hSw); go_simp; try with_reducible rfl)
  try simp only [Act.put, jA, jB, jC, jD, jE, jF]
  refine' jT 27 rfl (by rfl) ?_ hHeld ?_
  rotate_left
  · (intro w hSw; (try dsimp only at hSw); go_simp; try with_reducible rfl)
  try simp only [Act.put, jA, jB, jC, jD, jE, jF]
  refine' jT 28 rfl (by rfl) ?_ hHeld ?_
  rotate_left
  · (intro w hSw; (try dsimp only at hSw); have bx := hSw; obtain ⟨d0, d1, d2, d3, d4, d5, d6⟩ := msg_cells bx.box; go_simp; try with_reducible rfl)
  try simp only [Act.put, jA, jB, jC, jD, jE, jF]
  refine' jT 29 rfl (by rfl) ?_ hHeld ?_
  rotate_left
  · (intro w hSw; (try dsimp only at hSw); go_simp; try with_reducible rfl)
  try simp only [Act.put, jA, jB, jC, jD, jE, jF]
  refine jR [9, 14] ?_
  refine jG rfl (fun K hK => ?_) (jG rfl (fun K hK => ?_) AllReadyH.nil)
  · have hH2 := hHeld
    have bx := hH2
    have hg : w1.drew.grownBy (w1.drew.alloc (.cells #[.int .u8 1, .int .u8 ((u8of m.kind).toNat : Int), .int .u8 ((u8of m.who).toNat : Int), .int .u8 ((u8of m.metric).toNat : Int)] 5)) none := World.grownBy_alloc _ _ _
    have L9 := hid (show (BoxM w m (w1.drew.alloc (.cells #[.int .u8 1, .int .u8 ((u8of m.kind).toNat : Int), .int .u8 ((u8of m.who).toNat : Int), .int .u8 ((u8of m.metric).toNat : Int)] 5))) from bx.grown hg)
    have Nfb := hid (own_block [1, u8of m.kind, u8of m.who, u8of m.metric] (at_new w1.drew _) (by unfold maxLen; simp) (Nat.le_refl _)).bytes
    clear hHeld hg bx
    try simp only [jD, jE, jF]
    go_simp
    refine hK.out _ _ ?_ (fun hHeld => ?_)
    · exact L9.out
    clear hK K
    try dsimp only at hHeld
    try simp only [Act.put, jA, jB, jC, jD, jE, jF]
    refine held_stronger (S' := fun w' => (fun w' => BytesAt w' (.slice (some ⟨w1.heap.size, 0, none⟩) 4 4) [1, u8of m.kind, u8of m.who, u8of m.metric]) w' ∧ ((fun w' => (BoxM w m w'))) w') (fun _ h => h.2) _ _ _ _ ?_
    replace hHeld := And.intro Nfb.out hHeld
    try dsimp only at hHeld
    refine' jT 10 rfl (by rfl) ?_ hHeld ?_
    rotate_left
    · (intro w hSw; (try dsimp only at hSw); obtain ⟨fb, bx⟩ := hSw; have cv := conv_bytes fb; go_simp; try with_reducible rfl)
    try simp only [Act.put, jA, jB, jC, jD, jE, jF]
    refine jR [14] ?_
    refine jG rfl (fun K hK => ?_) AllReadyH.nil
    try simp only [jD, jE, jF]
    go_simp
    have hH2 := hHeld
    obtain ⟨fb, bx⟩ := hH2
    refine (P1.out _).mono ?_
    rintro e w1014 ⟨rfl, hg⟩
    have L14 := hid (show (BytesAt w1014 (.slice (some ⟨w1.heap.size, 0, none⟩) 4 4) [1, u8of m.kind, u8of m.who, u8of m.metric]) ∧ (BoxM w m w1014) from ⟨fb.grown hg (by simp), bx.grown hg⟩)
    clear hHeld hg fb bx
    go_wp2_with fail
    refine hK.out _ _ ?_ (fun hHeld => ?_)
    · exact L14.out
    clear hK K
    try dsimp only at hHeld
    try simp only [Act.put, jA, jB, jC, jD, jE, jF]
    refine' jT 15 rfl (by rfl) ?_ hHeld ?_
    rotate_left
    · (intro w hSw; (try dsimp only at hSw); go_simp; try with_reducible rfl)
    try simp only [Act.put, jA, jB, jC, jD, jE, jF]
    refine' jT 16 rfl (by rfl) ?_ hHeld ?_
    rotate_left
    · (intro w hSw; (try dsimp only at hSw); go_simp; try with_reducible rfl)
    try simp only [Act.put, jA, jB, jC, jD, jE, jF]
    refine jR [20] ?_
    refine jG rfl (fun K hK => ?_) AllReadyH.nil
    try simp only [jD, jE, jF]
    go_simp
    have hH2 := hHeld
    obtain ⟨fb, bx⟩ := hH2
    refine (P2.out _).mono ?_
    rintro e w1020 ⟨rfl, hg⟩
    have L20 := hid (show (BytesAt w1020 (.slice (some ⟨w1.heap.size, 0, none⟩) 4 4) [1, u8of m.kind, u8of m.who, u8of m.metric]) ∧ (BoxM w m w1020) from ⟨fb.grown hg (by simp), bx.grown hg⟩)
    clear hHeld hg fb bx
    go_wp2_with fail
    refine hK.out _ _ ?_ (fun hHeld => ?_)
    · exact L20.out
    clear hK K
    try dsimp only at hHeld
    try simp only [Act.put, jA, jB, jC, jD, jE, jF]
    refine' jT 21 rfl (by rfl) ?_ hHeld ?_
    rotate_left
    · (intro w hSw; (try dsimp only at hSw); go_simp; try with_reducible rfl)
    try simp only [Act.put, jA, jB, jC, jD, jE, jF]
    refine jR [25] ?_
    refine jG rfl (fun K hK => ?_) AllReadyH.nil
    try simp only [jD, jE, jF]
    go_simp
    have hH2 := hHeld
    obtain ⟨fb, bx⟩ := hH2
    refine (P3.out _).mono ?_
    rintro e w1025 ⟨rfl, hg⟩
    have L25 := hid (show (BytesAt w1025 (.slice (some ⟨w1.heap.size, 0, none⟩) 4 4) [1, u8of m.kind, u8of m.who, u8of m.metric]) ∧ (BoxM w m w1025) from ⟨fb.grown hg (by simp), bx.grown hg⟩)
    clear hHeld hg fb bx
    go_wp2_with fail
    refine hK.out _ _ ?_ (fun hHeld => ?_)
    · exact L25.out
    clear hK K
    try dsimp only at hHeld
    try simp only [Act.put, jA, jB, jC, jD, jE, jF]
    refine' jT 26 rfl (by rfl) ?_ hHeld ?_
    rotate_left
    · (intro w hSw; (try dsimp only at hSw); go_simp; try with_reducible rfl)
    try simp only [Act.put, jA, jB, jC, jD, jE, jF]
    refine jR [30] ?_
    refine jG rfl (fun K hK => ?_) AllReadyH.nil
    try simp only [jD, jE, jF]
    go_simp
    have hH2 := hHeld
    obtain ⟨fb, bx⟩ := hH2
    refine (P4.out _).mono ?_
    rintro e w1030 ⟨rfl, hg⟩
    have L30 := hid (show (BytesAt w1030 (.slice (some ⟨w1.heap.size, 0, none⟩) 4 4) [1, u8of m.kind, u8of m.who, u8of m.metric]) ∧ (BoxM w m w1030) from ⟨fb.grown hg (by simp), bx.grown hg⟩)
    clear hHeld hg fb bx
    go_wp2_with fail
    refine hK.out _ _ ?_ (fun hHeld => ?_)
    · exact L30.out
    clear hK K
    try dsimp only at hHeld
    try simp only [Act.put, jA, jB, jC, jD, jE, jF]
    refine' jT 31 rfl (by rfl) ?_ hHeld ?_
    rotate_left
    · (intro w hSw; (try dsimp only at hSw); go_simp; try with_reducible rfl)
    try simp only [Act.put, jA, jB, jC, jD, jE, jF]
    refine' jT 32 rfl (by rfl) ?_ hHeld ?_
    rotate_left
    · (intro w hSw; (try dsimp only at hSw); go_simp; try with_reducible rfl)
    try simp only [Act.put, jA, jB, jC, jD, jE, jF]
    refine' jT 33 rfl (by rfl) ?_ hHeld ?_
    rotate_left
    · (intro w hSw; (try dsimp only at hSw); go_simp; try with_reducible rfl)
    try simp only [Act.put, jA, jB, jC, jD, jE, jF]
    refine wpAnyH_done (by kernel_rfl) ?_ _
    obtain ⟨fb, bx⟩ := hHeld
    have BX := hid bx; clear fb bx
    go_wp2_with fail
    go_ret2
    exact ⟨rfl, BX.out.g⟩
  · try simp only [jD, jE, jF]
    go_simp
    have hH2 := hHeld
    have bx := hH2
    refine (P1.out _).mono ?_
    rintro e w1014 ⟨rfl, hg⟩
    have L14 := hid (show (BoxM w m w1014) from bx.grown hg)
    clear hHeld hg bx
    go_wp2_with fail
    refine hK.out _ _ ?_ (fun hHeld => ?_)
    · exact L14.out
    clear hK K
    try dsimp only at hHeld
    try simp only [Act.put, jA, jB, jC, jD, jE, jF]
    refine' jT 15 rfl (by rfl) ?_ hHeld ?_
    rotate_left
    · (intro w hSw; (try dsimp only at hSw); go_simp; try with_reducible rfl)
    try simp only [Act.put, jA, jB, jC, jD, jE, jF]
    refine jR [9, 20] ?_
    refine jG rfl (fun K hK => ?_) (jG rfl (fun K hK => ?_) AllReadyH.nil)
    · have hH2 := hHeld
      have bx := hH2
      have hg : w1014.grownBy (w1014.alloc (.cells #[.int .u8 1, .int .u8 ((u8of m.kind).toNat : Int), .int .u8 ((u8of m.who).toNat : Int), .int .u8 ((u8of m.metric).toNat : Int)] 5)) none := World.grownBy_alloc _ _ _
      have L9 := hid (show (BoxM w m (w1014.alloc (.cells #[.int .u8 1, .int .u8 ((u8of m.kind).toNat : Int), .int .u8 ((u8of m.who).toNat : Int), .int .u8 ((u8of m.metric).toNat : Int)] 5))) from bx.grown hg)
      have Nfb := hid (own_block [1, u8of m.kind, u8of m.who, u8of m.metric] (at_new w1014 _) (by unfold maxLen; simp) (Nat.le_refl _)).bytes
      clear hHeld hg bx
      try simp only [jD, jE, jF]
      go_simp
      refine hK.out _ _ ?_ (fun hHeld => ?_)
      · exact L9.out
      clear hK K
      try dsimp only at hHeld
      try simp only [Act.put, jA, jB, jC, jD, jE, jF]
      refine held_stronger (S' := fun w' => (fun w' => BytesAt w' (.slice (some ⟨w1014.heap.size, 0, none⟩) 4 4) [1, u8of m.kind, u8of m.who, u8of m.metric]) w' ∧ ((fun w' => (BoxM w m w'))) w') (fun _ h => h.2) _ _ _ _ ?_
      replace hHeld := And.intro Nfb.out hHeld
      try dsimp only at hHeld
      refine' jT 10 rfl (by rfl) ?_ hHeld ?_
      rotate_left
      · (intro w hSw; (try dsimp only at hSw); obtain ⟨fb, bx⟩ := hSw; have cv := conv_bytes fb; go_simp; try with_reducible rfl)
      try simp only [Act.put, jA, jB, jC, jD, jE, jF]
      refine' jT 16 rfl (by rfl) ?_ hHeld ?_
      rotate_left
      · (intro w hSw; (try dsimp only at hSw); go_simp; try with_reducible rfl)
      try simp only [Act.put, jA, jB, jC, jD, jE, jF]
      refine jR [20] ?_
      refine jG rfl (fun K hK => ?_) AllReadyH.nil
      try simp only [jD, jE, jF]
      go_simp
      have hH2 := hHeld
      obtain ⟨fb, bx⟩ := hH2
      refine (P2.out _).mono ?_
      rintro e w1020 ⟨rfl, hg⟩
      have L20 := hid (show (BytesAt w1020 (.slice (some ⟨w1014.heap.size, 0, none⟩) 4 4) [1, u8of m.kind, u8of m.who, u8of m.metric]) ∧ (BoxM w m w1020) from ⟨fb.grown hg (by simp), bx.grown hg⟩)
      clear hHeld hg fb bx
      go_wp2_with fail
      refine hK.out _ _ ?_ (fun hHeld => ?_)
      · exact L20.out
      clear hK K
      try dsimp only at hHeld
      try simp only [Act.put, jA, jB, jC, jD, jE, jF]
      refine' jT 21 rfl (by rfl) ?_ hHeld ?_
      rotate_left
      · (intro w hSw; (try dsimp only at hSw); go_simp; try with_reducible rfl)
      try simp only [Act.put, jA, jB, jC, jD, jE, jF]
      refine jR [25] ?_
      refine jG rfl (fun K hK => ?_) AllReadyH.nil
      try simp only [jD, jE, jF]
      go_simp
      have hH2 := hHeld
      obtain ⟨fb, bx⟩ := hH2
      refine (P3.out _).mono ?_
      rintro e w1025 ⟨rfl, hg⟩
      have L25 := hid (show (BytesAt w1025 (.slice (some ⟨w1014.heap.size, 0, none⟩) 4 4) [1, u8of m.kind, u8of m.who, u8of m.metric]) ∧ (BoxM w m w1025) from ⟨fb.grown hg (by simp), bx.grown hg⟩)
      clear hHeld hg fb bx
      go_wp2_with fail
      refine hK.out _ _ ?_ (fun hHeld => ?_)
      · exact L25.out
      clear hK K
      try dsimp only at hHeld
      try simp only [Act.put, jA, jB, jC, jD, jE, jF]
      refine' jT 26 rfl (by rfl) ?_ hHeld ?_
      rotate_left
      · (intro w hSw; (try dsimp only at hSw); go_simp; try with_reducible rfl)
      try simp only [Act.put, jA, jB, jC, jD, jE, jF]
      refine jR [30] ?_
      refine jG rfl (fun K hK => ?_) AllReadyH.nil
      try simp only [jD, jE, jF]
      go_simp
      have hH2 := hHeld
      obtain ⟨fb, bx⟩ := hH2
      refine (P4.out _).mono ?_
      rintro e w1030 ⟨rfl, hg⟩
      have L30 := hid (show (BytesAt w1030 (.slice (some ⟨w1014.heap.size, 0, none⟩) 4 4) [1, u8of m.kind, u8of m.who, u8of m.metric]) ∧ (BoxM w m w1030) from ⟨fb.grown hg (by simp), bx.grown hg⟩)
      clear hHeld hg fb bx
      go_wp2_with fail
      refine hK.out _ _ ?_ (fun hHeld => ?_)
      · exact L30.out
      clear hK K
      try dsimp only at hHeld
      try simp only [Act.put, jA, jB, jC, jD, jE, jF]
      refine' jT 31 rfl (by rfl) ?_ hHeld ?_
      rotate_left
      · (intro w hSw; (try dsimp only at hSw); go_simp; try with_reducible rfl)
      try simp only [Act.put, jA, jB, jC, jD, jE, jF]
      refine' jT 32 rfl (by rfl) ?_ hHeld ?_
      rotate_left
      · (intro w hSw; (try dsimp only at hSw); go_simp; try with_reducible rfl)
      try simp only [Act.put, jA, jB, jC, jD, jE, jF]
      refine' jT 33 rfl (by rfl) ?_ hHeld ?_
      rotate_left
      · (intro w hSw; (try dsimp only at hSw); go_simp; try with_reducible rfl)
      try simp only [Act.put, jA, jB, jC, jD, jE, jF]
      refine wpAnyH_done (by kernel_rfl) ?_ _
      obtain ⟨fb, bx⟩ := hHeld
      have BX := hid bx; clear fb bx
      go_wp2_with fail
      go_ret2
      exact ⟨rfl, BX.out.g⟩
    · try simp only [jD, jE, jF]
      go_simp
      have hH2 := hHeld
      have bx := hH2
      refine (P2.out _).mono ?_
      rintro e w1020 ⟨rfl, hg⟩
      have L20 := hid (show (BoxM w m w1020) from bx.grown hg)
      clear hHeld hg bx
      go_wp2_with fail
      refine hK.out _ _ ?_ (fun hHeld => ?_)
      · exact L20.out
      clear hK K
      try dsimp only at hHeld
      try simp only [Act.put, jA, jB, jC, jD, jE, jF]
      refine jR [9, 25] ?_
      refine jG rfl (fun K hK => ?_) (jG rfl (fun K hK => ?_) AllReadyH.nil)
      · have hH2 := hHeld
        have bx := hH2
        have hg : w1020.grownBy (w1020.alloc (.cells #[.int .u8 1, .int .u8 ((u8of m.kind).toNat : Int), .int .u8 ((u8of m.who).toNat : Int), .int .u8 ((u8of m.metric).toNat : Int)] 5)) none := World.grownBy_alloc _ _ _
        have L9 := hid (show (BoxM w m (w1020.alloc (.cells #[.int .u8 1, .int .u8 ((u8of m.kind).toNat : Int), .int .u8 ((u8of m.who).toNat : Int), .int .u8 ((u8of m.metric).toNat : Int)] 5))) from bx.grown hg)
        have Nfb := hid (own_block [1, u8of m.kind, u8of m.who, u8of m.metric] (at_new w1020 _) (by unfold maxLen; simp) (Nat.le_refl _)).bytes
        clear hHeld hg bx
        try simp only [jD, jE, jF]
        go_simp
        refine hK.out _ _ ?_ (fun hHeld => ?_)
        · exact L9.out
        clear hK K
        try dsimp only at hHeld
        try simp only [Act.put, jA, jB, jC, jD, jE, jF]
        refine held_stronger (S' := fun w' => (fun w' => BytesAt w' (.slice (some ⟨w1020.heap.size, 0, none⟩) 4 4) [1, u8of m.kind, u8of m.who, u8of m.metric]) w' ∧ ((fun w' => (BoxM w m w'))) w') (fun _ h => h.2) _ _ _ _ ?_
        replace hHeld := And.intro Nfb.out hHeld
        try dsimp only at hHeld
        refine' jT 10 rfl (by rfl) ?_ hHeld ?_
        rotate_left
        · (intro w hSw; (try dsimp only at hSw); obtain ⟨fb, bx⟩ := hSw; have cv := conv_bytes fb; go_simp; try with_reducible rfl)
        try simp only [Act.put, jA, jB, jC, jD, jE, jF]
        refine' jT 16 rfl (by rfl) ?_ hHeld ?_
        rotate_left
        · (intro w hSw; (try dsimp only at hSw); go_simp; try with_reducible rfl)
        try simp only [Act.put, jA, jB, jC, jD, jE, jF]
        refine' jT 21 rfl (by rfl) ?_ hHeld ?_
        rotate_left
        · (intro w hSw; (try dsimp only at hSw); go_simp; try with_reducible rfl)
        try simp only [Act.put, jA, jB, jC, jD, jE, jF]
        refine jR [25] ?_
        refine jG rfl (fun K hK => ?_) AllReadyH.nil
        try simp only [jD, jE, jF]
        go_simp
        have hH2 := hHeld
        obtain ⟨fb, bx⟩ := hH2
        refine (P3.out _).mono ?_
        rintro e w1025 ⟨rfl, hg⟩
        have L25 := hid (show (BytesAt w1025 (.slice (some ⟨w1020.heap.size, 0, none⟩) 4 4) [1, u8of m.kind, u8of m.who, u8of m.metric]) ∧ (BoxM w m w1025) from ⟨fb.grown hg (by simp), bx.grown hg⟩)
        clear hHeld hg fb bx
        go_wp2_with fail
        refine hK.out _ _ ?_ (fun hHeld => ?_)
        · exact L25.out
        clear hK K
        try dsimp only at hHeld
        try simp only [Act.put, jA, jB, jC, jD, jE, jF]
        refine' jT 26 rfl (by rfl) ?_ hHeld ?_
        rotate_left
        · (intro w hSw; (try dsimp only at hSw); go_simp; try with_reducible rfl)
        try simp only [Act.put, jA, jB, jC, jD, jE, jF]
        refine jR [30] ?_
        refine jG rfl (fun K hK => ?_) AllReadyH.nil
        try simp only [jD, jE, jF]
        go_simp
        have hH2 := hHeld
        obtain ⟨fb, bx⟩ := hH2
        refine (P4.out _).mono ?_
        rintro e w1030 ⟨rfl, hg⟩
        have L30 := hid (show (BytesAt w1030 (.slice (some ⟨w1020.heap.size, 0, none⟩) 4 4) [1, u8of m.kind, u8of m.who, u8of m.metric]) ∧ (BoxM w m w1030) from ⟨fb.grown hg (by simp), bx.grown hg⟩)
        clear hHeld hg fb bx
        go_wp2_with fail
        refine hK.out _ _ ?_ (fun hHeld => ?_)
        · exact L30.out
        clear hK K
        try dsimp only at hHeld
        try simp only [Act.put, jA, jB, jC, jD, jE, jF]
        refine' jT 31 rfl (by rfl) ?_ hHeld ?_
        rotate_left
        · (intro w hSw; (try dsimp only at hSw); go_simp; try with_reducible rfl)
        try simp only [Act.put, jA, jB, jC, jD, jE, jF]
        refine' jT 32 rfl (by rfl) ?_ hHeld ?_
        rotate_left
        · (intro w hSw; (try dsimp only at hSw); go_simp; try with_reducible rfl)
        try simp only [Act.put, jA, jB, jC, jD, jE, jF]
        refine' jT 33 rfl (by rfl) ?_ hHeld ?_
        rotate_left
        · (intro w hSw; (try dsimp only at hSw); go_simp; try with_reducible rfl)
        try simp only [Act.put, jA, jB, jC, jD, jE, jF]
        refine wpAnyH_done (by kernel_rfl) ?_ _
        obtain ⟨fb, bx⟩ := hHeld
        have BX := hid bx; clear fb bx
        go_wp2_with fail
        go_ret2
        exact ⟨rfl, BX.out.g⟩
      · try simp only [jD, jE, jF]
        go_simp
        have hH2 := hHeld
        have bx := hH2
        refine (P3.out _).mono ?_
        rintro e w1025 ⟨rfl, hg⟩
        have L25 := hid (show (BoxM w m w1025) from bx.grown hg)
        clear hHeld hg bx
        go_wp2_with fail
        refine hK.out _ _ ?_ (fun hHeld => ?_)
        · exact L25.out
        clear hK K
        try dsimp only at hHeld
        try simp only [Act.put, jA, jB, jC, jD, jE, jF]
        refine jR [9, 30] ?_
        refine jG rfl (fun K hK => ?_) (jG rfl (fun K hK => ?_) AllReadyH.nil)
        · have hH2 := hHeld
          have bx := hH2
          have hg : w1025.grownBy (w1025.alloc (.cells #[.int .u8 1, .int .u8 ((u8of m.kind).toNat : Int), .int .u8 ((u8of m.who).toNat : Int), .int .u8 ((u8of m.metric).toNat : Int)] 5)) none := World.grownBy_alloc _ _ _
          have L9 := hid (show (BoxM w m (w1025.alloc (.cells #[.int .u8 1, .int .u8 ((u8of m.kind).toNat : Int), .int .u8 ((u8of m.who).toNat : Int), .int .u8 ((u8of m.metric).toNat : Int)] 5))) from bx.grown hg)
          have Nfb := hid (own_block [1, u8of m.kind, u8of m.who, u8of m.metric] (at_new w1025 _) (by unfold maxLen; simp) (Nat.le_refl _)).bytes
          clear hHeld hg bx
          try simp only [jD, jE, jF]
          go_simp
          refine hK.out _ _ ?_ (fun hHeld => ?_)
          · exact L9.out
          clear hK K
          try dsimp only at hHeld
          try simp only [Act.put, jA, jB, jC, jD, jE, jF]
          refine held_stronger (S' := fun w' => (fun w' => BytesAt w' (.slice (some ⟨w1025.heap.size, 0, none⟩) 4 4) [1, u8of m.kind, u8of m.who, u8of m.metric]) w' ∧ ((fun w' => (BoxM w m w'))) w') (fun _ h => h.2) _ _ _ _ ?_
          replace hHeld := And.intro Nfb.out hHeld
          try dsimp only at hHeld
          refine' jT 10 rfl (by rfl) ?_ hHeld ?_
          rotate_left
          · (intro w hSw; (try dsimp only at hSw); obtain ⟨fb, bx⟩ := hSw; have cv := conv_bytes fb; go_simp; try with_reducible rfl)
          try simp only [Act.put, jA, jB, jC, jD, jE, jF]
          refine' jT 16 rfl (by rfl) ?_ hHeld ?_
          rotate_left
          · (intro w hSw; (try dsimp only at hSw); go_simp; try with_reducible rfl)
          try simp only [Act.put, jA, jB, jC, jD, jE, jF]
          refine' jT 21 rfl (by rfl) ?_ hHeld ?_
          rotate_left
          · (intro w hSw; (try dsimp only at hSw); go_simp; try with_reducible rfl)
          try simp only [Act.put, jA, jB, jC, jD, jE, jF]
          refine' jT 26 rfl (by rfl) ?_ hHeld ?_
          rotate_left
          · (intro w hSw; (try dsimp only at hSw); go_simp; try with_reducible rfl)
          try simp only [Act.put, jA, jB, jC, jD, jE, jF]
          refine jR [30] ?_
          refine jG rfl (fun K hK => ?_) AllReadyH.nil
          try simp only [jD, jE, jF]
          go_simp
          have hH2 := hHeld
          obtain ⟨fb, bx⟩ := hH2
          refine (P4.out _).mono ?_
          rintro e w1030 ⟨rfl, hg⟩
          have L30 := hid (show (BytesAt w1030 (.slice (some ⟨w1025.heap.size, 0, none⟩) 4 4) [1, u8of m.kind, u8of m.who, u8of m.metric]) ∧ (BoxM w m w1030) from ⟨fb.grown hg (by simp), bx.grown hg⟩)
          clear hHeld hg fb bx
          go_wp2_with fail
          refine hK.out _ _ ?_ (fun hHeld => ?_)
          · exact L30.out
          clear hK K
          try dsimp only at hHeld
          try simp only [Act.put, jA, jB, jC, jD, jE, jF]
          refine' jT 31 rfl (by rfl) ?_ hHeld ?_
          rotate_left
          · (intro w hSw; (try dsimp only at hSw); go_simp; try with_reducible rfl)
          try simp only [Act.put, jA, jB, jC, jD, jE, jF]
          refine' jT 32 rfl (by rfl) ?_ hHeld ?_
          rotate_left
          · (intro w hSw; (try dsimp only at hSw); go_simp; try with_reducible rfl)
          try simp only [Act.put, jA, jB, jC, jD, jE, jF]
          refine' jT 33 rfl (by rfl) ?_ hHeld ?_
          rotate_left
          · (intro w hSw; (try dsimp only at hSw); go_simp; try with_reducible rfl)
          try simp only [Act.put, jA, jB, jC, jD, jE, jF]
          refine wpAnyH_done (by kernel_rfl) ?_ _
          obtain ⟨fb, bx⟩ := hHeld
          have BX := hid bx; clear fb bx
          go_wp2_with fail
          go_ret2
          exact ⟨rfl, BX.out.g⟩
        · try simp only [jD, jE, jF]
          go_simp
          have hH2 := hHeld
          have bx := hH2
          refine (P4.out _).mono ?_
          rintro e w1030 ⟨rfl, hg⟩
          have L30 := hid (show (BoxM w m w1030) from bx.grown hg)
          clear hHeld hg bx
          go_wp2_with fail
          refine hK.out _ _ ?_ (fun hHeld => ?_)
          · exact L30.out
          clear hK K
          try dsimp only at hHeld
          try simp only [Act.put, jA, jB, jC, jD, jE, jF]
          refine jR [9] ?_
          refine jG rfl (fun K hK => ?_) AllReadyH.nil
          have hH2 := hHeld
          have bx := hH2
          have hg : w1030.grownBy (w1030.alloc (.cells #[.int .u8 1, .int .u8 ((u8of m.kind).toNat : Int), .int .u8 ((u8of m.who).toNat : Int), .int .u8 ((u8of m.metric).toNat : Int)] 5)) none := World.grownBy_alloc _ _ _
          have L9 := hid (show (BoxM w m (w1030.alloc (.cells #[.int .u8 1, .int .u8 ((u8of m.kind).toNat : Int), .int .u8 ((u8of m.who).toNat : Int), .int .u8 ((u8of m.metric).toNat : Int)] 5))) from bx.grown hg)
          have Nfb := hid (own_block [1, u8of m.kind, u8of m.who, u8of m.metric] (at_new w1030 _) (by unfold maxLen; simp) (Nat.le_refl _)).bytes
          clear hHeld hg bx
          try simp only [jD, jE, jF]
          go_simp
          refine hK.out _ _ ?_ (fun hHeld => ?_)
          · exact L9.out
          clear hK K
          try dsimp only at hHeld
          try simp only [Act.put, jA, jB, jC, jD, jE, jF]
          refine held_stronger (S' := fun w' => (fun w' => BytesAt w' (.slice (some ⟨w1030.heap.size, 0, none⟩) 4 4) [1, u8of m.kind, u8of m.who, u8of m.metric]) w' ∧ ((fun w' => (BoxM w m w'))) w') (fun _ h => h.2) _ _ _ _ ?_
          replace hHeld := And.intro Nfb.out hHeld
          try dsimp only at hHeld
          refine' jT 10 rfl (by rfl) ?_ hHeld ?_
          rotate_left
          · (intro w hSw; (try dsimp only at hSw); obtain ⟨fb, bx⟩ := hSw; have cv := conv_bytes fb; go_simp; try with_reducible rfl)
          try simp only [Act.put, jA, jB, jC, jD, jE, jF]
          refine' jT 16 rfl (by rfl) ?_ hHeld ?_
          rotate_left
          · (intro w hSw; (try dsimp only at hSw); go_simp; try with_reducible rfl)
          try simp only [Act.put, jA, jB, jC, jD, jE, jF]
          refine' jT 21 rfl (by rfl) ?_ hHeld ?_
          rotate_left
          · (intro w hSw; (try dsimp only at hSw); go_simp; try with_reducible rfl)
          try simp only [Act.put, jA, jB, jC, jD, jE, jF]
          refine' jT 26 rfl (by rfl) ?_ hHeld ?_
          rotate_left
          · (intro w hSw; (try dsimp only at hSw); go_simp; try with_reducible rfl)
          try simp only [Act.put, jA, jB, jC, jD, jE, jF]
          refine' jT 31 rfl (by rfl) ?_ hHeld ?_
          rotate_left
          · (intro w hSw; (try dsimp only at hSw); go_simp; try with_reducible rfl)
          try simp only [Act.put, jA, jB, jC, jD, jE, jF]
          refine' jT 32 rfl (by rfl) ?_ hHeld ?_
          rotate_left
          · (intro w hSw; (try dsimp only at hSw); go_simp; try with_reducible rfl)
          try simp only [Act.put, jA, jB, jC, jD, jE, jF]
          refine' jT 33 rfl (by rfl) ?_ hHeld ?_
          rotate_left
          · (intro w hSw; (try dsimp only at hSw); go_simp; try with_reducible rfl)
          try simp only [Act.put, jA, jB, jC, jD, jE, jF]
          refine wpAnyH_done (by kernel_rfl) ?_ _
          obtain ⟨fb, bx⟩ := hHeld
          have BX := hid bx; clear fb bx
          go_wp2_with fail
          go_ret2
          exact ⟨rfl, BX.out.g⟩

end Go.Proofs.YtfhifnhnkgdnlaaGreat
end
section
set_option linter.unusedSimpArgs false
namespace Go.Proofs.YtfhifnhnkgdnlaaGreat
set_option maxRecDepth 100000
open Go.RowKit

set_option maxHeartbeats 3200000 in
theorem may_any (m : Mg) (w : World) :
    Calls Tryz.prog 62 #[mg m] w fun e w' => e = .returned (.bool (mayOf m)) ∧ w.grownBy w' none := by
  rw [may_bool]
  have hx1 := fun w => within_any m.kind 1 3 w
  have hx2 := fun w => within_any m.who 0 15 w
  have hx3 := fun w => within_any m.gen 0 60000 w
  have hx4 := fun w => within64_any m.seq 1 1099511627776 w
  have hx5 := fun w => within64_any m.epoch 0 1099511627776 w
  have hx6 := fun w => measures_any m w
  generalize within m.kind 1 3 = x1 at hx1 ⊢
  generalize within m.who 0 15 = x2 at hx2 ⊢
  generalize within m.gen 0 60000 = x3 at hx3 ⊢
  generalize within m.seq 1 1099511627776 = x4 at hx4 ⊢
  generalize within m.epoch 0 1099511627776 = x5 at hx5 ⊢
  generalize measB m = x6 at hx6 ⊢
  have Cx1 := hid hx1; have Cx2 := hid hx2; have Cx3 := hid hx3; have Cx4 := hid hx4; have Cx5 := hid hx5; have Cx6 := hid hx6; clear hx1 hx2 hx3 hx4 hx5 hx6
  cases x1
  · go_enter Tryz.func62, Tryz.ntmps62
    go_wp2_with (first | (go_at_call 101; (with_reducible refine (Cx1.out _).mono ?_); rintro e w1 ⟨rfl, rfl⟩) | (go_at_call 101; (with_reducible refine (Cx2.out _).mono ?_); rintro e w1 ⟨rfl, rfl⟩) | (go_at_call 101; (with_reducible refine (Cx3.out _).mono ?_); rintro e w1 ⟨rfl, rfl⟩) | (go_at_call 102; (with_reducible refine (Cx4.out _).mono ?_); rintro e w1 ⟨rfl, rfl⟩) | (go_at_call 102; (with_reducible refine (Cx5.out _).mono ?_); rintro e w1 ⟨rfl, rfl⟩) | (go_at_call 103; (with_reducible refine (Cx6.out _).mono ?_); rintro e w1 ⟨rfl, hg⟩; have G := hid hg; clear hg))
    go_ret
    exact ⟨rfl, gb_alloc (.refl w none) _⟩
  cases x2
  · go_enter Tryz.func62, Tryz.ntmps62
    go_wp2_with (first | (go_at_call 101; (with_reducible refine (Cx1.out _).mono ?_); rintro e w1 ⟨rfl, rfl⟩) | (go_at_call 101; (with_reducible refine (Cx2.out _).mono ?_); rintro e w1 ⟨rfl, rfl⟩) | (go_at_call 101; (with_reducible refine (Cx3.out _).mono ?_); rintro e w1 ⟨rfl, rfl⟩) | (go_at_call 102; (with_reducible refine (Cx4.out _).mono ?_); rintro e w1 ⟨rfl, rfl⟩) | (go_at_call 102; (with_reducible refine (Cx5.out _).mono ?_); rintro e w1 ⟨rfl, rfl⟩) | (go_at_call 103; (with_reducible refine (Cx6.out _).mono ?_); rintro e w1 ⟨rfl, hg⟩; have G := hid hg; clear hg))
    go_ret
    exact ⟨rfl, gb_alloc (.refl w none) _⟩
  cases x3
  · go_enter Tryz.func62, Tryz.ntmps62
    go_wp2_with (first | (go_at_call 101; (with_reducible refine (Cx1.out _).mono ?_); rintro e w1 ⟨rfl, rfl⟩) | (go_at_call 101; (with_reducible refine (Cx2.out _).mono ?_); rintro e w1 ⟨rfl, rfl⟩) | (go_at_call 101; (with_reducible refine (Cx3.out _).mono ?_); rintro e w1 ⟨rfl, rfl⟩) | (go_at_call 102; (with_reducible refine (Cx4.out _).mono ?_); rintro e w1 ⟨rfl, rfl⟩) | (go_at_call 102; (with_reducible refine (Cx5.out _).mono ?_); rintro e w1 ⟨rfl, rfl⟩) | (go_at_call 103; (with_reducible refine (Cx6.out _).mono ?_); rintro e w1 ⟨rfl, hg⟩; have G := hid hg; clear hg))
    go_ret
    exact ⟨rfl, gb_alloc (.refl w none) _⟩
  cases x4
  · go_enter Tryz.func62, Tryz.ntmps62
    go_wp2_with (first | (go_at_call 101; (with_reducible refine (Cx1.out _).mono ?_); rintro e w1 ⟨rfl, rfl⟩) | (go_at_call 101; (with_reducible refine (Cx2.out _).mono ?_); rintro e w1 ⟨rfl, rfl⟩) | (go_at_call 101; (with_reducible refine (Cx3.out _).mono ?_); rintro e w1 ⟨rfl, rfl⟩) | (go_at_call 102; (with_reducible refine (Cx4.out _).mono ?_); rintro e w1 ⟨rfl, rfl⟩) | (go_at_call 102; (with_reducible refine (Cx5.out _).mono ?_); rintro e w1 ⟨rfl, rfl⟩) | (go_at_call 103; (with_reducible refine (Cx6.out _).mono ?_); rintro e w1 ⟨rfl, hg⟩; have G := hid hg; clear hg))
    go_ret
    exact ⟨rfl, gb_alloc (.refl w none) _⟩
  cases x5
  · go_enter Tryz.func62, Tryz.ntmps62
    go_wp2_with (first | (go_at_call 101; (with_reducible refine (Cx1.out _).mono ?_); rintro e w1 ⟨rfl, rfl⟩) | (go_at_call 101; (with_reducible refine (Cx2.out _).mono ?_); rintro e w1 ⟨rfl, rfl⟩) | (go_at_call 101; (with_reducible refine (Cx3.out _).mono ?_); rintro e w1 ⟨rfl, rfl⟩) | (go_at_call 102; (with_reducible refine (Cx4.out _).mono ?_); rintro e w1 ⟨rfl, rfl⟩) | (go_at_call 102; (with_reducible refine (Cx5.out _).mono ?_); rintro e w1 ⟨rfl, rfl⟩) | (go_at_call 103; (with_reducible refine (Cx6.out _).mono ?_); rintro e w1 ⟨rfl, hg⟩; have G := hid hg; clear hg))
    go_ret
    exact ⟨rfl, gb_alloc (.refl w none) _⟩
  cases x6
  · go_enter Tryz.func62, Tryz.ntmps62
    go_wp2_with (first | (go_at_call 101; (with_reducible refine (Cx1.out _).mono ?_); rintro e w1 ⟨rfl, rfl⟩) | (go_at_call 101; (with_reducible refine (Cx2.out _).mono ?_); rintro e w1 ⟨rfl, rfl⟩) | (go_at_call 101; (with_reducible refine (Cx3.out _).mono ?_); rintro e w1 ⟨rfl, rfl⟩) | (go_at_call 102; (with_reducible refine (Cx4.out _).mono ?_); rintro e w1 ⟨rfl, rfl⟩) | (go_at_call 102; (with_reducible refine (Cx5.out _).mono ?_); rintro e w1 ⟨rfl, rfl⟩) | (go_at_call 103; (with_reducible refine (Cx6.out _).mono ?_); rintro e w1 ⟨rfl, hg⟩; have G := hid hg; clear hg))
    go_ret
    exact ⟨rfl, gb_trans (gb_alloc (.refl w none) _) G.out (.inl rfl)⟩
  go_enter Tryz.func62, Tryz.ntmps62
  go_wp2_with (first | (go_at_call 101; (with_reducible refine (Cx1.out _).mono ?_); rintro e w1 ⟨rfl, rfl⟩) | (go_at_call 101; (with_reducible refine (Cx2.out _).mono ?_); rintro e w1 ⟨rfl, rfl⟩) | (go_at_call 101; (with_reducible refine (Cx3.out _).mono ?_); rintro e w1 ⟨rfl, rfl⟩) | (go_at_call 102; (with_reducible refine (Cx4.out _).mono ?_); rintro e w1 ⟨rfl, rfl⟩) | (go_at_call 102; (with_reducible refine (Cx5.out _).mono ?_); rintro e w1 ⟨rfl, rfl⟩) | (go_at_call 103; (with_reducible refine (Cx6.out _).mono ?_); rintro e w1 ⟨rfl, hg⟩; have G := hid hg; clear hg))
  go_ret
  exact ⟨rfl, gb_trans (gb_alloc (.refl w none) _) G.out (.inl rfl)⟩

theorem q_one_or (x : BitVec 64) : bits .or .u64 1 (q x) = q (1#64 ||| x) := by
  rw [show (1 : Int) = q 1#64 by decide +kernel, q_or]
set_option maxHeartbeats 1600000 in
theorem head_any (m : Mg) (w : World) :
    Calls Tryz.prog 84 #[mg m] w fun e w' => e = .returned (.int .u64 (q (headOf m))) ∧ w.grownBy w' none := by
  have h1 := q_lit m.kind; have h2 := q_lit m.who; have h3 := q_lit m.metric; have h4 := q_lit m.gen
  have hor := q_one_or (w64 m.kind <<< 8)
  unfold headOf
  rw [← show w64 m.kind = BitVec.ofInt 64 m.kind from rfl] at h1
  rw [← show w64 m.who = BitVec.ofInt 64 m.who from rfl] at h2
  rw [← show w64 m.metric = BitVec.ofInt 64 m.metric from rfl] at h3
  rw [← show w64 m.gen = BitVec.ofInt 64 m.gen from rfl] at h4
  go_enter Tryz.func84, Tryz.ntmps84
  go_wp2_with fail
  go_ret
  exact ⟨rfl, gb_alloc (.refl w none) _⟩
end Go.Proofs.YtfhifnhnkgdnlaaGreat
end
