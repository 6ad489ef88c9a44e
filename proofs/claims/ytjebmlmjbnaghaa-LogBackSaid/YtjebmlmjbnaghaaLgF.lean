/-
  Contract for package log: Get: the cell that stands in a sector's bytes, whether they are whole, or an error. The condition: the bytes read as bytes.
-/
import Derived.Test.YtjebmlmjbnaghaaLgE
set_option linter.unusedSimpArgs false
set_option linter.unusedVariables false
namespace Go.Proofs.Ytjebmlmjbnaghaa
set_option maxRecDepth 100000
open Go.RowKit

@[reducible] def clV (c : Cl) (u : Value) : Array Value := #[.int .u32 (c.pass : Int), .int .i64 (c.place : Int), .int .i64 (c.kind : Int), u]
@[reducible] def zeroV : Array Value := #[.int .u32 0, .int .i64 0, .int .i64 0, .slice none 0 0]
def zeroC : Cl := ⟨0, 0, 0, []⟩
theorem zero_clV : clV zeroC (.slice none 0 0) = zeroV := rfl
theorem BytesAt.cellAt {w : World} {ab ao n c : Nat} {l : List UInt8} (h : BytesAt w (.slice (some ⟨ab, ao, none⟩) n c) l) (i : Nat) (hi : i < l.length) : w.cell? ⟨ab, ao + i, none⟩ = some (.int .u8 ((l.getD i 0).toNat : Int)) := by
  rcases h with ⟨h, _⟩ | ⟨a, cap, e, _, _, h3⟩
  · cases h
  · cases e
    have := h3 i hi
    have e : (⟨ab, ao, none⟩ : Addr).add i = ⟨ab, ao + i, none⟩ := by unfold Addr.add; split <;> simp_all
    rw [e] at this
    rw [this, byteD hi]
/-- what Get keeps: the answer's block, the cell that was read, the bytes -/
structure Gk (w : World) (x : Nat) (c : Cl) (p : Option Addr) (n k : Nat) (v : Value) (l : List UInt8) (W : World) : Prop where
  an : W.heap[w.heap.size]? = some (.cells zeroV 31)
  bx : W.heap[x]? = some (.cells (clV c (.slice p n k)) 31)
  own : OwnB (w.heap.size + 1) W (.slice p n k) c.data
  src : BytesAt W v l
  gr : w.grownBy W none
  ne : w.heap.size < x
section
variable {w W W' : World} {x n k : Nat} {c : Cl} {p : Option Addr} {v : Value} {l : List UInt8}
theorem Gk.grown (H : Gk w x c p n k v l W) (hg : W.grownBy W' none) : Gk w x c p n k v l W' := ⟨at_grown H.an hg (by simp), at_grown H.bx hg (by simp), H.own.grown hg (by simp), H.src.grown hg (by simp), gb_trans H.gr hg (.inl rfl), H.ne⟩
theorem Gk.cells (H : Gk w x c p n k v l W) : W.cell? ⟨x, 0, none⟩ = some (.int .u32 (c.pass : Int)) ∧ W.cell? ⟨x, 1, none⟩ = some (.int .i64 (c.place : Int)) ∧ W.cell? ⟨x, 2, none⟩ = some (.int .i64 (c.kind : Int)) ∧ W.cell? ⟨x, 3, none⟩ = some (.slice p n k) :=
  ⟨at_cell H.bx 0, at_cell H.bx 1, at_cell H.bx 2, at_cell H.bx 3⟩
theorem Gk.zero (H : Gk w x c p n k v l W) : (W.setRow w.heap.size zeroV).cell? ⟨w.heap.size, 0, none⟩ = some (.int .u32 0) ∧ (W.setRow w.heap.size zeroV).cell? ⟨w.heap.size, 1, none⟩ = some (.int .i64 0) ∧ (W.setRow w.heap.size zeroV).cell? ⟨w.heap.size, 2, none⟩ = some (.int .i64 0) ∧ (W.setRow w.heap.size zeroV).cell? ⟨w.heap.size, 3, none⟩ = some (.slice none 0 0) :=
  ⟨at_cell (at_setRow H.an) 0, at_cell (at_setRow H.an) 1, at_cell (at_setRow H.an) 2, at_cell (at_setRow H.an) 3⟩
theorem Gk.told (H : Gk w x c p n k v l W) {cs : Array Value} {a b d e : Value} (h : cs = #[a, b, d, e]) : (W.setRow w.heap.size cs).cell? ⟨w.heap.size, 0, none⟩ = some a ∧ (W.setRow w.heap.size cs).cell? ⟨w.heap.size, 1, none⟩ = some b ∧ (W.setRow w.heap.size cs).cell? ⟨w.heap.size, 2, none⟩ = some d ∧ (W.setRow w.heap.size cs).cell? ⟨w.heap.size, 3, none⟩ = some e := by
  subst h
  exact ⟨at_cell (at_setRow H.an) 0, at_cell (at_setRow H.an) 1, at_cell (at_setRow H.an) 2, at_cell (at_setRow H.an) 3⟩
theorem Gk.end (H : Gk w x c p n k v l W) (cs : Array Value) : w.grownBy (W.setRow w.heap.size cs) none ∧ OwnB w.heap.size (W.setRow w.heap.size cs) (.slice p n k) c.data :=
  ⟨gb_setRow H.gr (Nat.le_refl _), (own_row H.own (Nat.lt_succ_self _)).le (Nat.le_succ _)⟩
end
set_option maxHeartbeats 1600000 in
theorem lget_len (p : Option Addr) (n k : Nat) (hn : n ≠ 64) (w : World) :
    Calls Try.prog 12 #[.slice p n k] w fun e w' => e = .returned (.tuple #[.agg zeroV, .bool false, .int .i64 1]) ∧ w.grownBy w' none := by
  have h1 : ¬ (n : Int) = 64 := by omega
  clear hn
  go_enter Try.func12, Try.ntmps12
  go_wp2_with fail
  exact bodyPost_ret (v := .tuple #[.agg zeroV, .bool false, .int .i64 1]) (by simp [results, Try.results12, go_sem]) rfl ⟨rfl, gb_alloc (.refl w none) _⟩
set_option maxHeartbeats 3200000 in
theorem lget_m0 (v : Value) (l : List UInt8) (hl : l.length = 64) (w : World) (hv : BytesAt w v l) (hm : markN (readL l).pass = 0) :
    Calls Try.prog 12 #[v] w fun e w' => e = .returned (.tuple #[.agg zeroV, .bool false, .int .i64 0]) ∧ w.grownBy w' none := by
  obtain ⟨ab, ao, cc, hf, -⟩ := hv.cells (by omega)
  have hcc : 64 ≤ cc := by
    rcases hv with ⟨h, _⟩ | ⟨_, _, h, h2, _⟩
    · rw [h] at hf; cases hf
    · rw [h] at hf; cases hf; omega
  rw [hl] at hf
  subst hf
  have c63 := hv.cellAt 63 (by omega)
  have HC := hid c63
  clear c63
  have HV := hid hv; have HL := hid hl
  have R := hid (fun w h => lread_any (.slice (some ⟨ab, ao, none⟩) 64 cc) l hl w h)
  obtain ⟨c, hc⟩ : ∃ c, readL l = c := ⟨_, rfl⟩
  rw [hc] at R hm
  have M := hid (fun w => mark_any c.pass w)
  obtain ⟨mk, hmk⟩ : ∃ mk : Nat, markN c.pass = mk := ⟨_, rfl⟩
  rw [hmk] at M hm
  have A0 := hid (at_new w (.cells zeroV 31))
  obtain ⟨b63, hb63⟩ : ∃ b : Nat, (l.getD 63 0).toNat = b := ⟨_, rfl⟩
  rw [hb63] at HC
  clear hv hl hc hmk hb63
  rw [hm] at M
  clear hm
  go_enter Try.func12, Try.ntmps12
  go_wp2_with fail
  refine (R.out _ (HV.out.alloc _)).mono ?_
  rintro e w1 ⟨u, rfl, ho, hg⟩
  obtain ⟨p, k, rfl⟩ := ho.form
  have B := hid (show Gk w w1.heap.size c p c.data.length k (.slice (some ⟨ab, ao, none⟩) 64 cc) l (w1.alloc (.cells (clV c (.slice p c.data.length k)) 31)) from
    ⟨at_alloc (at_grown A0.out hg (by simp)) _, at_new _ _, (ho.le (at_lt A0.out)).alloc _, ((HV.out.alloc _).grown hg (by simp)).alloc _, gb_alloc (gb_trans (gb_alloc (.refl w none) _) hg (.inl rfl)) _, Nat.lt_of_lt_of_le (at_lt A0.out) (gb_size hg)⟩)
  clear ho hg R
  go_wp2_with fail
  generalize w1.alloc (.cells (clV c (.slice p c.data.length k)) 31) = w2 at B
  refine (M.out _).mono ?_
  rintro e w3 ⟨rfl, rfl⟩
  obtain ⟨z0, z1, z2, z3⟩ := B.out.zero
  go_wp2_with (first | refine wpList_buildTo (cs := zeroV) rfl rfl rfl (by kernel_rfl) ?_ | refine wpList_store_row (old := zeroV) (cs := zeroV) B.out.an (by kernel_rfl) (by kernel_rfl) (by kernel_rfl) rfl rfl rfl rfl rfl ?_)
  exact bodyPost_ret (v := .tuple #[.agg zeroV, .bool false, .int .i64 0]) (by simp [results, Try.results12, go_sem, z0, z1, z2, z3]) rfl ⟨rfl, (B.out.end zeroV).1⟩
set_option maxHeartbeats 3200000 in
theorem lget_m1 (v : Value) (l : List UInt8) (hl : l.length = 64) (w : World) (hv : BytesAt w v l) (hm : ¬ markN (readL l).pass = 0) (hm2 : ¬ (l.getD 63 0).toNat = markN (readL l).pass) :
    Calls Try.prog 12 #[v] w fun e w' => e = .returned (.tuple #[.agg zeroV, .bool false, .int .i64 0]) ∧ w.grownBy w' none := by
  obtain ⟨ab, ao, cc, hf, -⟩ := hv.cells (by omega)
  have hcc : 64 ≤ cc := by
    rcases hv with ⟨h, _⟩ | ⟨_, _, h, h2, _⟩
    · rw [h] at hf; cases hf
    · rw [h] at hf; cases hf; omega
  rw [hl] at hf
  subst hf
  have c63 := hv.cellAt 63 (by omega)
  have HC := hid c63
  clear c63
  have HV := hid hv; have HL := hid hl
  have R := hid (fun w h => lread_any (.slice (some ⟨ab, ao, none⟩) 64 cc) l hl w h)
  obtain ⟨c, hc⟩ : ∃ c, readL l = c := ⟨_, rfl⟩
  rw [hc] at R hm hm2
  have M := hid (fun w => mark_any c.pass w)
  obtain ⟨mk, hmk⟩ : ∃ mk : Nat, markN c.pass = mk := ⟨_, rfl⟩
  rw [hmk] at M hm hm2
  have A0 := hid (at_new w (.cells zeroV 31))
  obtain ⟨b63, hb63⟩ : ∃ b : Nat, (l.getD 63 0).toNat = b := ⟨_, rfl⟩
  rw [hb63] at HC hm2
  clear hv hl hc hmk hb63
  have e0 : ¬ (mk : Int) = 0 := by omega
  have e1 : ¬ (b63 : Int) = (mk : Int) := by omega
  have n0 : ((mk : Int) == 0) = false := by simpa using e0
  have n1 : ((b63 : Int) == (mk : Int)) = false := by simpa using e1
  have n2 : ((b63 : Int) != (mk : Int)) = true := by simpa using e1
  generalize (mk : Int) = MK at *
  generalize (b63 : Int) = BB at *
  clear hm hm2
  go_enter Try.func12, Try.ntmps12
  go_wp2_with fail
  refine (R.out _ (HV.out.alloc _)).mono ?_
  rintro e w1 ⟨u, rfl, ho, hg⟩
  obtain ⟨p, k, rfl⟩ := ho.form
  have B := hid (show Gk w w1.heap.size c p c.data.length k (.slice (some ⟨ab, ao, none⟩) 64 cc) l (w1.alloc (.cells (clV c (.slice p c.data.length k)) 31)) from
    ⟨at_alloc (at_grown A0.out hg (by simp)) _, at_new _ _, (ho.le (at_lt A0.out)).alloc _, ((HV.out.alloc _).grown hg (by simp)).alloc _, gb_alloc (gb_trans (gb_alloc (.refl w none) _) hg (.inl rfl)) _, Nat.lt_of_lt_of_le (at_lt A0.out) (gb_size hg)⟩)
  clear ho hg R
  go_wp2_with fail
  generalize w1.alloc (.cells (clV c (.slice p c.data.length k)) 31) = w2 at B
  refine (M.out _).mono ?_
  rintro e w3 ⟨rfl, rfl⟩
  have c63 := (B.out.gr.cell HC.out (by simp))
  obtain ⟨z0, z1, z2, z3⟩ := B.out.zero
  go_wp2_with (first | refine wpList_buildTo (cs := zeroV) rfl rfl rfl (by kernel_rfl) ?_ | refine wpList_store_row (old := zeroV) (cs := zeroV) B.out.an (by kernel_rfl) (by kernel_rfl) (by kernel_rfl) rfl rfl rfl rfl rfl ?_)
  exact bodyPost_ret (v := .tuple #[.agg zeroV, .bool false, .int .i64 0]) (by simp [results, Try.results12, go_sem, z0, z1, z2, z3]) rfl ⟨rfl, (B.out.end zeroV).1⟩
set_option maxHeartbeats 3200000 in
theorem lget_bad (v : Value) (l : List UInt8) (hl : l.length = 64) (w : World) (hv : BytesAt w v l) (hm : ¬ markN (readL l).pass = 0) (hm2 : (l.getD 63 0).toNat = markN (readL l).pass) (hm3 : mayN (readL l).pass (readL l).place (readL l).kind (readL l).data.length = false) :
    Calls Try.prog 12 #[v] w fun e w' => e = .returned (.tuple #[.agg zeroV, .bool true, .int .i64 12]) ∧ w.grownBy w' none := by
  obtain ⟨ab, ao, cc, hf, -⟩ := hv.cells (by omega)
  have hcc : 64 ≤ cc := by
    rcases hv with ⟨h, _⟩ | ⟨_, _, h, h2, _⟩
    · rw [h] at hf; cases hf
    · rw [h] at hf; cases hf; omega
  rw [hl] at hf
  subst hf
  have c63 := hv.cellAt 63 (by omega)
  have HC := hid c63
  clear c63
  have HV := hid hv; have HL := hid hl
  have R := hid (fun w h => lread_any (.slice (some ⟨ab, ao, none⟩) 64 cc) l hl w h)
  obtain ⟨c, hc⟩ : ∃ c, readL l = c := ⟨_, rfl⟩
  rw [hc] at R hm hm2 hm3
  have M := hid (fun w => mark_any c.pass w)
  obtain ⟨mk, hmk⟩ : ∃ mk : Nat, markN c.pass = mk := ⟨_, rfl⟩
  rw [hmk] at M hm hm2
  have A0 := hid (at_new w (.cells zeroV 31))
  obtain ⟨b63, hb63⟩ : ∃ b : Nat, (l.getD 63 0).toNat = b := ⟨_, rfl⟩
  rw [hb63] at HC hm2
  clear hv hl hc hmk hb63
  have e0 : ¬ (mk : Int) = 0 := by omega
  have n0 : ((mk : Int) == 0) = false := by simpa using e0
  rw [hm2] at HC
  generalize (mk : Int) = MK at *
  clear hm hm2 b63
  go_enter Try.func12, Try.ntmps12
  go_wp2_with fail
  refine (R.out _ (HV.out.alloc _)).mono ?_
  rintro e w1 ⟨u, rfl, ho, hg⟩
  obtain ⟨p, k, rfl⟩ := ho.form
  have B := hid (show Gk w w1.heap.size c p c.data.length k (.slice (some ⟨ab, ao, none⟩) 64 cc) l (w1.alloc (.cells (clV c (.slice p c.data.length k)) 31)) from
    ⟨at_alloc (at_grown A0.out hg (by simp)) _, at_new _ _, (ho.le (at_lt A0.out)).alloc _, ((HV.out.alloc _).grown hg (by simp)).alloc _, gb_alloc (gb_trans (gb_alloc (.refl w none) _) hg (.inl rfl)) _, Nat.lt_of_lt_of_le (at_lt A0.out) (gb_size hg)⟩)
  clear ho hg R
  go_wp2_with fail
  generalize w1.alloc (.cells (clV c (.slice p c.data.length k)) 31) = w2 at B
  refine (M.out _).mono ?_
  rintro e w3 ⟨rfl, rfl⟩
  have P := hid (fun W => lput_bad c.pass c.place c.kind p c.data.length k hm3 W)
  clear hm3
  have c63 := (B.out.gr.cell HC.out (by simp))
  go_wp2_with (first | refine wpList_row_w B.out.bx Try.underlying31 rfl (by kernel_rfl) rfl rfl rfl rfl ?_ | refine wpList_row B.out.bx Try.underlying31 rfl (by kernel_rfl) rfl rfl rfl rfl ?_)
  refine (P.out _).mono ?_
  rintro e w4 ⟨rfl, hg⟩
  have B4 := hid (B.out.grown hg)
  clear hg c63
  obtain ⟨z0, z1, z2, z3⟩ := B4.out.zero
  go_wp2_with (first | refine wpList_buildTo (cs := zeroV) rfl rfl rfl (by kernel_rfl) ?_ | refine wpList_store_row (old := zeroV) (cs := zeroV) B4.out.an (by kernel_rfl) (by kernel_rfl) (by kernel_rfl) rfl rfl rfl rfl rfl ?_)
  exact bodyPost_ret (v := .tuple #[.agg zeroV, .bool true, .int .i64 12]) (by simp [results, Try.results12, go_sem, z0, z1, z2, z3]) rfl ⟨rfl, (B4.out.end zeroV).1⟩
set_option maxHeartbeats 3200000 in
theorem lget_odd (v : Value) (l : List UInt8) (hl : l.length = 64) (w : World) (hv : BytesAt w v l) (hm : ¬ markN (readL l).pass = 0) (hm2 : (l.getD 63 0).toNat = markN (readL l).pass) (hm3 : (readL l).May) (hm4 : ¬ putL (readL l) = l) :
    Calls Try.prog 12 #[v] w fun e w' => e = .returned (.tuple #[.agg zeroV, .bool true, .int .i64 12]) ∧ w.grownBy w' none := by
  obtain ⟨ab, ao, cc, hf, -⟩ := hv.cells (by omega)
  have hcc : 64 ≤ cc := by
    rcases hv with ⟨h, _⟩ | ⟨_, _, h, h2, _⟩
    · rw [h] at hf; cases hf
    · rw [h] at hf; cases hf; omega
  rw [hl] at hf
  subst hf
  have c63 := hv.cellAt 63 (by omega)
  have HC := hid c63
  clear c63
  have HV := hid hv; have HL := hid hl
  have R := hid (fun w h => lread_any (.slice (some ⟨ab, ao, none⟩) 64 cc) l hl w h)
  obtain ⟨c, hc⟩ : ∃ c, readL l = c := ⟨_, rfl⟩
  rw [hc] at R hm hm2 hm3 hm4
  have M := hid (fun w => mark_any c.pass w)
  obtain ⟨mk, hmk⟩ : ∃ mk : Nat, markN c.pass = mk := ⟨_, rfl⟩
  rw [hmk] at M hm hm2
  have A0 := hid (at_new w (.cells zeroV 31))
  obtain ⟨b63, hb63⟩ : ∃ b : Nat, (l.getD 63 0).toNat = b := ⟨_, rfl⟩
  rw [hb63] at HC hm2
  clear hv hl hc hmk hb63
  have e0 : ¬ (mk : Int) = 0 := by omega
  have n0 : ((mk : Int) == 0) = false := by simpa using e0
  rw [hm2] at HC
  generalize (mk : Int) = MK at *
  clear hm hm2 b63
  go_enter Try.func12, Try.ntmps12
  go_wp2_with fail
  refine (R.out _ (HV.out.alloc _)).mono ?_
  rintro e w1 ⟨u, rfl, ho, hg⟩
  obtain ⟨p, k, rfl⟩ := ho.form
  have B := hid (show Gk w w1.heap.size c p c.data.length k (.slice (some ⟨ab, ao, none⟩) 64 cc) l (w1.alloc (.cells (clV c (.slice p c.data.length k)) 31)) from
    ⟨at_alloc (at_grown A0.out hg (by simp)) _, at_new _ _, (ho.le (at_lt A0.out)).alloc _, ((HV.out.alloc _).grown hg (by simp)).alloc _, gb_alloc (gb_trans (gb_alloc (.refl w none) _) hg (.inl rfl)) _, Nat.lt_of_lt_of_le (at_lt A0.out) (gb_size hg)⟩)
  clear ho hg R
  go_wp2_with fail
  generalize w1.alloc (.cells (clV c (.slice p c.data.length k)) 31) = w2 at B
  refine (M.out _).mono ?_
  rintro e w3 ⟨rfl, rfl⟩
  have P := hid (fun W h => lput_good c hm3 (.slice p c.data.length k) W h)
  have ne := hid (show (putL c == l) = false from beq_eq_false_iff_ne.2 hm4)
  clear hm3 hm4
  have c63 := (B.out.gr.cell HC.out (by simp))
  go_wp2_with (first | refine wpList_row_w B.out.bx Try.underlying31 rfl (by kernel_rfl) rfl rfl rfl rfl ?_ | refine wpList_row B.out.bx Try.underlying31 rfl (by kernel_rfl) rfl rfl rfl rfl ?_)
  refine (P.out _ B.out.own.bytes).mono ?_
  rintro e w4 ⟨u, rfl, ho, hg⟩
  have B4 := hid (B.out.grown hg)
  have O := hid ho.bytes
  clear hg c63 ho
  go_wp2_with fail
  refine (bequal_any _ _ (putL c) l _ O.out B4.out.src).mono ?_
  rintro e w5 ⟨rfl, rfl⟩
  rw [ne.out]
  obtain ⟨z0, z1, z2, z3⟩ := B4.out.zero
  go_wp2_with (first | refine wpList_buildTo (cs := zeroV) rfl rfl rfl (by kernel_rfl) ?_ | refine wpList_store_row (old := zeroV) (cs := zeroV) B4.out.an (by kernel_rfl) (by kernel_rfl) (by kernel_rfl) rfl rfl rfl rfl rfl ?_)
  exact bodyPost_ret (v := .tuple #[.agg zeroV, .bool true, .int .i64 12]) (by simp [results, Try.results12, go_sem, z0, z1, z2, z3]) rfl ⟨rfl, (B4.out.end zeroV).1⟩
set_option maxHeartbeats 3200000 in
theorem lget_yes (v : Value) (l : List UInt8) (hl : l.length = 64) (w : World) (hv : BytesAt w v l) (hm : ¬ markN (readL l).pass = 0) (hm2 : (l.getD 63 0).toNat = markN (readL l).pass) (hm3 : (readL l).May) (hm4 : putL (readL l) = l) :
    Calls Try.prog 12 #[v] w fun e w' => ∃ u, e = .returned (.tuple #[.agg (clV (readL l) u), .bool true, .int .i64 0]) ∧ OwnB w.heap.size w' u (readL l).data ∧ w.grownBy w' none := by
  obtain ⟨ab, ao, cc, hf, -⟩ := hv.cells (by omega)
  have hcc : 64 ≤ cc := by
    rcases hv with ⟨h, _⟩ | ⟨_, _, h, h2, _⟩
    · rw [h] at hf; cases hf
    · rw [h] at hf; cases hf; omega
  rw [hl] at hf
  subst hf
  have c63 := hv.cellAt 63 (by omega)
  have HC := hid c63
  clear c63
  have HV := hid hv; have HL := hid hl
  have R := hid (fun w h => lread_any (.slice (some ⟨ab, ao, none⟩) 64 cc) l hl w h)
  obtain ⟨c, hc⟩ : ∃ c, readL l = c := ⟨_, rfl⟩
  rw [hc] at R hm hm2 hm3 hm4 ⊢
  have M := hid (fun w => mark_any c.pass w)
  obtain ⟨mk, hmk⟩ : ∃ mk : Nat, markN c.pass = mk := ⟨_, rfl⟩
  rw [hmk] at M hm hm2
  have A0 := hid (at_new w (.cells zeroV 31))
  obtain ⟨b63, hb63⟩ : ∃ b : Nat, (l.getD 63 0).toNat = b := ⟨_, rfl⟩
  rw [hb63] at HC hm2
  clear hv hl hc hmk hb63
  have e0 : ¬ (mk : Int) = 0 := by omega
  have n0 : ((mk : Int) == 0) = false := by simpa using e0
  rw [hm2] at HC
  generalize (mk : Int) = MK at *
  clear hm hm2 b63
  go_enter Try.func12, Try.ntmps12
  go_wp2_with fail
  refine (R.out _ (HV.out.alloc _)).mono ?_
  rintro e w1 ⟨u, rfl, ho, hg⟩
  obtain ⟨p, k, rfl⟩ := ho.form
  have B := hid (show Gk w w1.heap.size c p c.data.length k (.slice (some ⟨ab, ao, none⟩) 64 cc) l (w1.alloc (.cells (clV c (.slice p c.data.length k)) 31)) from
    ⟨at_alloc (at_grown A0.out hg (by simp)) _, at_new _ _, (ho.le (at_lt A0.out)).alloc _, ((HV.out.alloc _).grown hg (by simp)).alloc _, gb_alloc (gb_trans (gb_alloc (.refl w none) _) hg (.inl rfl)) _, Nat.lt_of_lt_of_le (at_lt A0.out) (gb_size hg)⟩)
  clear ho hg R
  go_wp2_with fail
  generalize w1.alloc (.cells (clV c (.slice p c.data.length k)) 31) = w2 at B
  refine (M.out _).mono ?_
  rintro e w3 ⟨rfl, rfl⟩
  have P := hid (fun W h => lput_good c hm3 (.slice p c.data.length k) W h)
  have ne := hid (show (putL c == l) = true from beq_iff_eq.2 hm4)
  clear hm3 hm4
  have c63 := (B.out.gr.cell HC.out (by simp))
  go_wp2_with (first | refine wpList_row_w B.out.bx Try.underlying31 rfl (by kernel_rfl) rfl rfl rfl rfl ?_ | refine wpList_row B.out.bx Try.underlying31 rfl (by kernel_rfl) rfl rfl rfl rfl ?_)
  refine (P.out _ B.out.own.bytes).mono ?_
  rintro e w4 ⟨u, rfl, ho, hg⟩
  have B4 := hid (B.out.grown hg)
  have O := hid ho.bytes
  clear hg c63 ho
  go_wp2_with fail
  refine (bequal_any _ _ (putL c) l _ O.out B4.out.src).mono ?_
  rintro e w5 ⟨rfl, rfl⟩
  rw [ne.out]
  obtain ⟨z0, z1, z2, z3⟩ := B4.out.told (cs := clV c (.slice p c.data.length k)) rfl
  have E := hid (B4.out.end (clV c (.slice p c.data.length k)))
  have A4 := hid B4.out.an
  have X4 := hid B4.out.bx
  generalize c.data.length = NN at *
  go_wp2_with (first | refine wpList_row_w X4.out Try.underlying31 rfl (by kernel_rfl) rfl rfl rfl rfl ?_ | refine wpList_store_row (old := zeroV) (cs := clV c (.slice p NN k)) A4.out (by kernel_rfl) (by kernel_rfl) (by kernel_rfl) rfl rfl rfl rfl rfl ?_)
  exact bodyPost_ret (v := .tuple #[.agg (clV c (.slice p NN k)), .bool true, .int .i64 0]) (by simp [results, Try.results12, go_sem, z0, z1, z2, z3]) rfl ⟨_, rfl, E.out.2, E.out.1⟩
end Go.Proofs.Ytjebmlmjbnaghaa
