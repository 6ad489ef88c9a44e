/-
  Contract for package state: samples are read into the table. The condition: the state lies there, and the reader; there are not too many.
  Contract for package state: decisions are read and kept. The condition: the state lies there, and the reader.
  Contract for package state: the law's numbers are read, a law that goes on from them is made. The condition: the state lies there, and the reader; not too many bytes.
-/
import Derived.Test.YtecggbndlbkhdaaGreatJ0
import Derived.Test.YtecggbndlbkhdaaGreatY40
import Derived.Test.YtecggbndlbkhdaaGreatY33
import Derived.Test.YtecggbndlbkhdaaGreatY39
import Derived.Test.YtecggbndlbkhdaaGreatY17
import Derived.Test.YtecggbndlbkhdaaGreatY18
import Derived.Test.YtecggbndlbkhdaaGreatY14
import Derived.Test.YtecggbndlbkhdaaGreatY19
section
set_option linter.unusedSimpArgs false
set_option linter.unusedVariables false
namespace Go.Proofs.YtecggbndlbkhdaaGreat
set_option maxRecDepth 100000
open Go.RowKit

theorem nx_wf (B : List UInt8) : wf64 (nx B) := by
  have := (nxW B).isLt
  unfold nx biN q wf64
  simp only [IntKind.wrap, IntKind.bits, IntKind.signed]
  simp only [Bool.true_and, decide_eq_true_eq]
  refine ⟨?_, ?_⟩ <;> simp <;> (repeat' split) <;> omega
/-- the sample that is read -/
def smR (B : List UInt8) : Sm := ⟨nx (B.drop 16), nx (B.drop 8), nx B, nx (B.drop 24)⟩
/-- as many samples read -/
def Ste.setSa (c : Conf) (s : Ste) (B : List UInt8) : Nat → Ste
  | 0 => s
  | k + 1 => { s.setSa c B k with t := putT c.n c.m c.fresh (s.setSa c B k).t (smR (B.drop (32 * k))) (s.setSa c B k).now }
theorem Ste.setSa_now (c : Conf) (s : Ste) (B : List UInt8) (k : Nat) : (s.setSa c B k).now = s.now := by
  induction k with
  | zero => rfl
  | succ k ih => exact ih
theorem Ste.setSa_len (c : Conf) (s : Ste) (B : List UInt8) (k : Nat) : (s.setSa c B k).t.length ≤ s.t.length + k := by
  induction k with
  | zero => exact Nat.le_refl _
  | succ k ih =>
    have := putT_len c.n c.m c.fresh (s.setSa c B k).t (smR (B.drop (32 * k))) (s.setSa c B k).now
    show (putT c.n c.m c.fresh (s.setSa c B k).t (smR (B.drop (32 * k))) (s.setSa c B k).now).length ≤ _
    omega
theorem GcK.items4 {w W : World} {rb : Nat} {X : SBl} {c : Conf} {s : Ste} {B : List UInt8} (h : GcK w rb X c s B W) (hn : Own19 w rb X) :
    Calls Tryz.prog 271 #[.pointer (some ⟨rb, 0, none⟩), .int .i64 4] W fun e W' => e = .returned (.int .i64 (itN B 4 : Nat)) ∧ GcK w rb X c s (B.drop 8) W' :=
  (Go.Proofs.YtecggbndlbkhdaaGreat.items4 h.2).mono fun e W' ⟨h1, h2, h3⟩ => ⟨h1, h.1.chg h3 fun x hx hm => (hn x hx).2 (List.mem_singleton.1 hm), h2⟩
set_option maxHeartbeats 3200000 in
theorem getsa_any {w W : World} {rb : Nat} {X : SBl} {c : Conf} {s : Ste} {B : List UInt8} (h : GcK w rb X c s B W) (hn : Own19 w rb X) (hl : s.t.length + itN B 4 ≤ 100000) (hw : wf64 s.now) :
    Calls Tryz.prog 178 #[.pointer (some ⟨X.b, 0, none⟩), .pointer (some ⟨rb, 0, none⟩)] W fun e W' => e = .returned (.tuple #[]) ∧ GcK w rb X c (s.setSa c (B.drop 8) (itN B 4)) ((B.drop 8).drop (32 * itN B 4)) W' := by
  have IT := hid (h.items4 hn); have HN := hid hn
  obtain ⟨E, he⟩ : ∃ E, itN B 4 = E := ⟨_, rfl⟩
  rw [he] at IT hl ⊢
  obtain ⟨B1, hB1⟩ : ∃ B1, B.drop 8 = B1 := ⟨_, rfl⟩
  rw [hB1] at IT ⊢
  have HL := hid hl; have hE : E ≤ 1000000 := by omega
  obtain ⟨nw, hnw⟩ : ∃ nw, s.now = nw := ⟨_, rfl⟩
  rw [hnw] at hw
  have HS := hid hnw; have HWN := hid hw
  clear h hn he hB1 hl hnw hw
  go_enter Tryz.func178, Tryz.ntmps178
  go_wp2_with fail
  refine IT.out.mono ?_
  rintro e W1 ⟨rfl, hT⟩
  have G1 := hid hT
  clear hT IT
  go_wp2_with fail
  go_loopw [4, 7] (fun _ i wr => ∃ k : Nat, k ≤ E ∧ i = .int .i64 (k : Int) ∧ GcK w rb X c (s.setSa c B1 k) (B1.drop (32 * k)) wr) (fun _ i _ => E - (intOf i).toNat)
  case atStart => exact ⟨0, Nat.zero_le _, rfl, G1.out⟩
  case round =>
    obtain ⟨k, hk, rfl, hT⟩ := hrel
    have HK := hid hT
    clear hT
    by_cases hlt : k < E
    · have HTL := hid (show (s.setSa c B1 k).t.length ≤ 100000 by have h1 := s.setSa_len c B1 k; have h2 := HL.out; omega)
      have HNOW := hid (show (s.setSa c B1 k).now = nw by rw [s.setSa_now]; exact HS.out)
      have ND := hid (show B1.drop (32 * (k + 1)) = (B1.drop (32 * k)).drop 32 by rw [List.drop_drop]; congr 1)
      obtain ⟨z0, hz0⟩ : ∃ z, nx (B1.drop (32 * k)) = z := ⟨_, rfl⟩
      obtain ⟨z1, hz1⟩ : ∃ z, nx ((B1.drop (32 * k)).drop 8) = z := ⟨_, rfl⟩
      obtain ⟨z2, hz2⟩ : ∃ z, nx ((B1.drop (32 * k)).drop 16) = z := ⟨_, rfl⟩
      obtain ⟨z3, hz3⟩ : ∃ z, nx ((B1.drop (32 * k)).drop 24) = z := ⟨_, rfl⟩
      have HSM := hid (show smR (B1.drop (32 * k)) = ⟨z2, z1, z0, z3⟩ by unfold smR; rw [hz0, hz1, hz2, hz3])
      have HE := hid (show wf64 z0 by rw [← hz0]; exact nx_wf _)
      have HZ0 := hid hz0; have HZ1 := hid hz1; have HZ2 := hid hz2; have HZ3 := hid hz3
      have HST := hid (show { s.setSa c B1 k with t := putT c.n c.m c.fresh (s.setSa c B1 k).t (smR (B1.drop (32 * k))) (s.setSa c B1 k).now } = s.setSa c B1 (k + 1) from rfl)
      clear hz0 hz1 hz2 hz3
      generalize B1.drop (32 * k) = B2 at *
      generalize s.setSa c B1 k = s2 at *
      have T0 := hid HK.out
      go_wp2_with fail
      refine (T0.out.next HN.out).mono ?_
      rintro e V1 ⟨rfl, hT⟩
      have T1 := hid hT
      clear hT T0
      go_wp2_with fail
      refine (T1.out.next HN.out).mono ?_
      rintro e V2 ⟨rfl, hT⟩
      rw [List.drop_drop] at hT
      have T2 := hid hT
      clear hT T1
      go_wp2_with fail
      refine (T2.out.next HN.out).mono ?_
      rintro e V3 ⟨rfl, hT⟩
      rw [List.drop_drop] at hT
      have T3 := hid hT
      clear hT T2
      go_wp2_with fail
      refine (T3.out.next HN.out).mono ?_
      rintro e V4 ⟨rfl, hT⟩
      rw [List.drop_drop] at hT
      have T4 := hid hT
      clear hT T3
      rw [HZ0.out, HZ1.out, HZ2.out, HZ3.out]
      have T5 := hid (T4.out.grown (World.grownBy_alloc V4 (.cells #[.int .i64 z2, .int .i64 z1, .int .i64 z0, .int .i64 z3] 91) none))
      have K5 := hid (at_new V4 (.cells #[.int .i64 z2, .int .i64 z1, .int .i64 z0, .int .i64 z3] 91))
      have NXB := hid (show V4.heap.size ∉ X.all from fun hm => Nat.lt_irrefl _ (T4.out.1.lt _ hm))
      clear T4
      go_wp2_with (first | refine wpList_buildTo (ty := 91) (cs := #[.int .i64 z2, .int .i64 z1, .int .i64 z0, .int .i64 z3]) rfl rfl rfl (by kernel_rfl) ?_ | refine wpList_store_new (cs := #[.int .i64 z2, .int .i64 z1, .int .i64 z0, .int .i64 z3]) rfl (by kernel_rfl) (by kernel_rfl) (by kernel_rfl) rfl rfl rfl rfl rfl ?_)
      generalize V4.alloc (.cells #[.int .i64 z2, .int .i64 z1, .int .i64 z0, .int .i64 z3] 91) = W8 at T5 K5 ⊢
      generalize V4.heap.size = xb at K5 NXB ⊢
      have T := hid T5.out.drew
      clear T5
      have RX := hid (show W8.drew.heap[X.b]? = some (.cells (suCells c nw X) 132) from by rw [← HNOW.out]; exact T.out.1.row)
      have KX := hid (show W8.drew.heap[xb]? = some (.cells #[.int .i64 z2, .int .i64 z1, .int .i64 z0, .int .i64 z3] 91) from K5.out)
      refine wp_region_held_drew (S := (fun w' => (w'.heap[X.b]? = some (.cells (suCells c nw X) 132)) ∧ (w'.heap[xb]? = some (.cells #[.int .i64 z2, .int .i64 z1, .int .i64 z0, .int .i64 z3] 91)))) (by kernel_rfl) ⟨RX.out, KX.out⟩ (fun hHeld => ?_)
      try dsimp only at hHeld
      refine jU 0 hHeld ?_
      try simp only [jX, jD, jE, jF]
      refine jU 1 hHeld ?_
      try simp only [jX, jD, jE, jF]
      refine jU 2 hHeld ?_
      try simp only [jX, jD, jE, jF]
      refine' jT 3 rfl (by rfl) ?_ hHeld ?_
      rotate_left
      · (intro w hSw; (try dsimp only at hSw); obtain ⟨R, KB⟩ := hSw; have c28 := at_cell R 28; go_simp; try with_reducible rfl)
      try simp only [jX, jD, jE, jF]
      refine' jT 4 rfl (by rfl) ?_ hHeld ?_
      rotate_left
      · (intro w hSw; (try dsimp only at hSw); (try simp only [jD, jE, jF]); refine exec_row (x := .tmp 4) (by obtain ⟨R, KB⟩ := hSw; exact KB) Tryz.underlying91 rfl (by kernel_rfl) ?_ ?_ <;> rfl)
      try simp only [jX, jD, jE, jF]
      refine jU 5 hHeld ?_
      try simp only [jX, jD, jE, jF]
      refine jR [6] ?_
      refine jG rfl (fun K hK => ?_) AllReadyH.nil
      try simp only [jD, jE, jF]
      go_simp
      have hH2 := hHeld
      obtain ⟨R, KB⟩ := hH2
      refine ((sunow_at rfl T.out.1)).mono ?_
      rintro e w1006 ⟨he, hg⟩
      rw [HNOW.out] at he
      obtain rfl := he
      have R := at_grown R hg (by simp)
      have KB := at_grown KB hg (by simp)
      replace T := hid (T.out.grown hg)
      have L6 := hid (show (w1006.heap[X.b]? = some (.cells (suCells c nw X) 132)) ∧ (w1006.heap[xb]? = some (.cells #[.int .i64 z2, .int .i64 z1, .int .i64 z0, .int .i64 z3] 91)) from ⟨R, KB⟩)
      clear hHeld hg R KB
      go_wp2_with fail
      refine hK.out _ _ ?_ (fun hHeld => ?_)
      · exact L6.out
      clear hK K
      try dsimp only at hHeld
      try simp only [jX, jD, jE, jF]
      refine jR [7] ?_
      refine jG rfl (fun K hK => ?_) AllReadyH.nil
      try simp only [jD, jE, jF]
      go_simp
      have hH2 := hHeld
      obtain ⟨R, KB⟩ := hH2
      refine ((tput_any (s := ⟨z2, z1, z0, z3⟩) (now := nw) T.out.1.table HTL.out HE.out HWN.out)).mono ?_
      rintro e w1007 ⟨rfl, ht, hc⟩
      have Z := hid (T.out.step HN.out (T.out.1.tableNew ht hc) hc (fun x hx => by rw [List.mem_singleton.1 hx]; exact X.mt.2.1))
      have R := hc.at R (fun hm => by have h1 := T.out.1.ot.2; have h2 := T.out.1.ob; rw [List.mem_singleton.1 hm, h1] at h2; cases h2)
      have KB := hc.at KB (fun hm => NXB.out (by rw [List.mem_singleton.1 hm]; exact X.mt.2.1))
      clear ht hc
      have hg := True.intro
      have L7 := hid (show (w1007.heap[X.b]? = some (.cells (suCells c nw X) 132)) ∧ (w1007.heap[xb]? = some (.cells #[.int .i64 z2, .int .i64 z1, .int .i64 z0, .int .i64 z3] 91)) from ⟨R, KB⟩)
      clear hHeld hg R KB
      go_wp2_with fail
      refine hK.out _ _ ?_ (fun hHeld => ?_)
      · exact L7.out
      clear hK K
      try dsimp only at hHeld
      try simp only [jX, jD, jE, jF]
      refine wpAnyH_done (by kernel_rfl) ?_ _
      obtain ⟨R, KB⟩ := hHeld
      clear T R KB
      go_wp2_with fail
      go_roundw
      case rel =>
        refine ⟨k + 1, hlt, by go_num, ?_⟩
        have e := Z.out
        rw [← HNOW.out, ← HSM.out, HST.out] at e
        have hd := ND.out
        rw [hd]
        exact e
      case measure => simp [intOf]; omega
    · obtain rfl : k = E := by omega
      go_wp2_with fail
      go_end0
      exact ⟨rfl, HK.out⟩
end Go.Proofs.YtecggbndlbkhdaaGreat
end
section
set_option linter.unusedSimpArgs false
set_option linter.unusedVariables false
namespace Go.Proofs.YtecggbndlbkhdaaGreat
set_option maxRecDepth 100000
open Go.RowKit

/-- the decision that is read -/
def dcR (B : List UInt8) : Dc := ⟨nx B, nx (B.drop 8), nx (B.drop 16), nx (B.drop 24) == 1, nx (B.drop 32), nx (B.drop 40), nx (B.drop 48), nx (B.drop 56)⟩
/-- as many decisions read -/
def Ste.setDe (s : Ste) (B : List UInt8) : Nat → Ste
  | 0 => s
  | k + 1 => { s.setDe B k with ds := keep64 ((s.setDe B k).ds ++ [dcR (B.drop (64 * k))]) }
theorem keep64_len (l : List Dc) : (keep64 l).length ≤ 64 := by unfold keep64; rw [List.length_drop]; omega
theorem Ste.setDe_len (s : Ste) (B : List UInt8) (h : s.ds.length ≤ 64) (k : Nat) : (s.setDe B k).ds.length ≤ 64 := by
  cases k with
  | zero => exact h
  | succ k => exact keep64_len _
/-- beside it a decision of the call's own -/
structure GcD (w : World) (rb : Nat) (X : SBl) (c : Conf) (s : Ste) (B : List UInt8) (db : Nat) (d : Dc) (W : World) : Prop where
  gc : GcK w rb X c s B W
  row : W.heap[db]? = some (dcObj d)
  lo : w.heap.size ≤ db ∧ db ≠ rb
  no : db ∉ X.all
section
variable {w W W' : World} {rb db : Nat} {X : SBl} {c : Conf} {s s' : Ste} {B : List UInt8} {d d' : Dc}
theorem GcD.start (h : GcK w rb X c s B W) (hn : Own19 w rb X) (d : Dc) : GcD w rb X c s B W.heap.size d (W.alloc (dcObj d)) := by
  have hr : rb < W.heap.size := by obtain ⟨v, h1, _⟩ := h.2.obj; exact at_lt h1
  exact ⟨h.grown (World.grownBy_alloc W _ none), at_new W _, ⟨h.2.gr.size, by omega⟩, fun hm => Nat.lt_irrefl _ (h.1.lt _ hm)⟩
theorem GcD.next (h : GcD w rb X c s B db d W) (hn : Own19 w rb X) :
    Calls Tryz.prog 175 #[.pointer (some ⟨rb, 0, none⟩)] W fun e W' => e = .returned (.int .i64 (nx B)) ∧ GcD w rb X c s (B.drop 8) db d W' :=
  (sunext_any h.gc.2).mono fun e W' ⟨h1, h2, h3⟩ => ⟨h1, ⟨h.gc.1.chg h3 fun x hx hm => (hn x hx).2 (List.mem_singleton.1 hm), h2⟩, h3.at h.row (fun hm => h.lo.2 (List.mem_singleton.1 hm)), h.lo, h.no⟩
theorem GcD.set (h : GcD w rb X c s B db d W) (hn : Own19 w rb X) (i : Nat) (v : Value) (e : d.cells.setIfInBounds i v = d'.cells) : GcD w rb X c s B db d' (W.setCell ⟨db, i, none⟩ v) := by
  have hc : Chg [db] W (W.setCell ⟨db, i, none⟩ v) := (chg_refl W _).set (.inl (by simp)) _
  refine ⟨⟨h.gc.1.chg hc fun x hx hm => h.no (by rw [← List.mem_singleton.1 hm]; exact hx), h.gc.2.chg hc fun x hx => by rw [List.mem_singleton.1 hx]; exact h.lo⟩, ?_, h.lo, h.no⟩
  have := at_set h.row i v
  rw [e] at this
  exact this
theorem GcD.keep (h : GcD w rb X c s B db d W) (hn : Own19 w rb X) (hl : s.ds.length ≤ 64) :
    Calls Tryz.prog 156 #[.pointer (some ⟨X.b, 0, none⟩), dcV d] W fun e W' => e = .returned (.tuple #[]) ∧ ∃ Y : SBl, Y.b = X.b ∧ GcK w rb Y c { s with ds := keep64 (s.ds ++ [d]) } B W' ∧ Own19 w rb Y := by
  have hr : rb < W.heap.size := by obtain ⟨v, h1, _⟩ := h.gc.2.obj; exact at_lt h1
  refine (sukeep_any h.gc.1 d hl).mono ?_
  rintro e W' ⟨h1, Y, hb, hY, hc, ho⟩
  refine ⟨h1, Y, hb, ⟨hY, h.gc.2.chg hc hn⟩, fun x hx => ?_⟩
  rcases ho x hx with h2 | h2
  · exact hn x h2
  · exact ⟨Nat.le_trans h.gc.2.gr.size h2, by omega⟩
theorem GcK.items8 (h : GcK w rb X c s B W) (hn : Own19 w rb X) :
    Calls Tryz.prog 271 #[.pointer (some ⟨rb, 0, none⟩), .int .i64 8] W fun e W' => e = .returned (.int .i64 (itN B 8 : Nat)) ∧ GcK w rb X c s (B.drop 8) W' :=
  (Go.Proofs.YtecggbndlbkhdaaGreat.items8 h.2).mono fun e W' ⟨h1, h2, h3⟩ => ⟨h1, h.1.chg h3 fun x hx hm => (hn x hx).2 (List.mem_singleton.1 hm), h2⟩
end
set_option maxHeartbeats 3200000 in
theorem getde_any {w W : World} {rb : Nat} {X0 : SBl} {c : Conf} {s0 : Ste} {B : List UInt8} (h : GcK w rb X0 c s0 B W) (hn : Own19 w rb X0) (hl : s0.ds.length ≤ 64) (hlen : B.length ≤ 1000000) :
    Calls Tryz.prog 179 #[.pointer (some ⟨X0.b, 0, none⟩), .pointer (some ⟨rb, 0, none⟩)] W fun e W' => e = .returned (.tuple #[]) ∧ ∃ Y : SBl, Y.b = X0.b ∧ GcK w rb Y c (s0.setDe (B.drop 8) (itN B 8)) ((B.drop 8).drop (64 * itN B 8)) W' ∧ Own19 w rb Y := by
  have IT := hid (h.items8 hn); have HN0 := hid hn
  have hE : itN B 8 ≤ 1000000 := by unfold itN; rw [List.length_drop]; omega
  obtain ⟨E, he⟩ : ∃ E, itN B 8 = E := ⟨_, rfl⟩
  rw [he] at IT hE ⊢
  obtain ⟨B1, hB1⟩ : ∃ B1, B.drop 8 = B1 := ⟨_, rfl⟩
  rw [hB1] at IT ⊢
  have HL := hid hl
  clear h hn he hB1 hl hlen
  go_enter Tryz.func179, Tryz.ntmps179
  go_wp2_with fail
  refine IT.out.mono ?_
  rintro e W1 ⟨rfl, hT⟩
  have G1 := hid hT
  clear hT IT
  go_wp2_with fail
  go_loopw [4, 5, 8] (fun _ _ i wr => ∃ k : Nat, k ≤ E ∧ i = .int .i64 (k : Int) ∧ ∃ Y : SBl, Y.b = X0.b ∧ GcK w rb Y c (s0.setDe B1 k) (B1.drop (64 * k)) wr ∧ Own19 w rb Y) (fun _ _ i _ => E - (intOf i).toNat)
  case atStart => exact ⟨0, Nat.zero_le _, rfl, X0, rfl, G1.out, HN0.out⟩
  case round =>
    obtain ⟨k, hk, rfl, X, hb, hT, hn⟩ := hrel
    have HK := hid hT; have HN := hid hn; have HEB := hid hb
    clear hT hn hb
    by_cases hlt : k < E
    · have HDL := hid (show (s0.setDe B1 k).ds.length ≤ 64 from s0.setDe_len B1 HL.out k)
      have ND := hid (show B1.drop (64 * (k + 1)) = (B1.drop (64 * k)).drop 64 by rw [List.drop_drop]; congr 1)
      obtain ⟨z0, hz0⟩ : ∃ z, nx (B1.drop (64 * k)) = z := ⟨_, rfl⟩
      obtain ⟨z1, hz1⟩ : ∃ z, nx ((B1.drop (64 * k)).drop 8) = z := ⟨_, rfl⟩
      obtain ⟨z2, hz2⟩ : ∃ z, nx ((B1.drop (64 * k)).drop 16) = z := ⟨_, rfl⟩
      obtain ⟨z3, hz3⟩ : ∃ z, nx ((B1.drop (64 * k)).drop 24) = z := ⟨_, rfl⟩
      obtain ⟨o, ho⟩ : ∃ o, (z3 == 1) = o := ⟨_, rfl⟩
      obtain ⟨y0, hy0⟩ : ∃ z, nx ((B1.drop (64 * k)).drop 32) = z := ⟨_, rfl⟩
      obtain ⟨y1, hy1⟩ : ∃ z, nx ((B1.drop (64 * k)).drop 40) = z := ⟨_, rfl⟩
      obtain ⟨y2, hy2⟩ : ∃ z, nx ((B1.drop (64 * k)).drop 48) = z := ⟨_, rfl⟩
      obtain ⟨y3, hy3⟩ : ∃ z, nx ((B1.drop (64 * k)).drop 56) = z := ⟨_, rfl⟩
      have HDR := hid (show dcR (B1.drop (64 * k)) = ⟨z0, z1, z2, o, y0, y1, y2, y3⟩ by unfold dcR; rw [hz0, hz1, hz2, hz3, ho, hy0, hy1, hy2, hy3])
      have HZ0 := hid hz0; have HZ1 := hid hz1; have HZ2 := hid hz2; have HZ3 := hid hz3; have HO := hid ho
      have HY0 := hid hy0; have HY1 := hid hy1; have HY2 := hid hy2; have HY3 := hid hy3
      have HST := hid (show { s0.setDe B1 k with ds := keep64 ((s0.setDe B1 k).ds ++ [dcR (B1.drop (64 * k))]) } = s0.setDe B1 (k + 1) from rfl)
      clear hz0 hz1 hz2 hz3 ho hy0 hy1 hy2 hy3
      generalize B1.drop (64 * k) = B2 at *
      generalize s0.setDe B1 k = s2 at *
      rw [← HEB.out]
      have T0 := hid HK.out
      go_wp2_with fail
      refine (T0.out.next HN.out).mono ?_
      rintro e V1 ⟨rfl, hT⟩
      have T1 := hid hT
      clear hT T0
      go_wp2_with fail
      refine (T1.out.next HN.out).mono ?_
      rintro e V2 ⟨rfl, hT⟩
      rw [List.drop_drop] at hT
      have T2 := hid hT
      clear hT T1
      go_wp2_with fail
      refine (T2.out.next HN.out).mono ?_
      rintro e V3 ⟨rfl, hT⟩
      rw [List.drop_drop] at hT
      have T3 := hid hT
      clear hT T2
      go_wp2_with fail
      refine (T3.out.next HN.out).mono ?_
      rintro e V4 ⟨rfl, hT⟩
      rw [List.drop_drop] at hT
      have T4 := hid hT
      clear hT T3
      rw [HZ0.out, HZ1.out, HZ2.out, HZ3.out]
      go_wp2_with fail
      refine (isset_any z3 V4).mono ?_
      rintro e V5 ⟨he, rfl⟩
      rw [HO.out] at he
      obtain rfl := he
      have K0 := hid (GcD.start T4.out HN.out ⟨z0, z1, z2, o, 0, 0, 0, 0⟩)
      clear T4
      go_wp2_with (first | refine wpList_buildTo (ty := 57) (cs := Dc.cells ⟨z0, z1, z2, o, 0, 0, 0, 0⟩) rfl rfl rfl (by kernel_rfl) ?_ | refine wpList_store_new (cs := Dc.cells ⟨z0, z1, z2, o, 0, 0, 0, 0⟩) rfl (by kernel_rfl) (by kernel_rfl) (by kernel_rfl) rfl rfl rfl rfl rfl ?_)
      generalize V4.alloc (dcObj ⟨z0, z1, z2, o, 0, 0, 0, 0⟩) = W8 at K0 ⊢
      generalize V4.heap.size = db at K0 ⊢
      go_wp2_with fail
      go_loopw [5, 20] (fun _ i wr => (i = .int .i64 0 ∧ GcD w rb X c s2 (B2.drop 32) db ⟨z0, z1, z2, o, 0, 0, 0, 0⟩ wr) ∨ (i = .int .i64 1 ∧ GcD w rb X c s2 (B2.drop 40) db ⟨z0, z1, z2, o, y0, 0, 0, 0⟩ wr) ∨ (i = .int .i64 2 ∧ GcD w rb X c s2 (B2.drop 48) db ⟨z0, z1, z2, o, y0, y1, 0, 0⟩ wr) ∨ (i = .int .i64 3 ∧ GcD w rb X c s2 (B2.drop 56) db ⟨z0, z1, z2, o, y0, y1, y2, 0⟩ wr) ∨ (i = .int .i64 4 ∧ GcD w rb X c s2 (B2.drop 64) db ⟨z0, z1, z2, o, y0, y1, y2, y3⟩ wr)) (fun _ i _ => 4 - (intOf i).toNat)
      case atStart => exact .inl ⟨rfl, K0.out⟩
      case round =>
        rcases hrel with ⟨rfl, hT⟩ | ⟨rfl, hT⟩ | ⟨rfl, hT⟩ | ⟨rfl, hT⟩ | ⟨rfl, hT⟩
        · have K1 := hid hT
          clear hT K0
          go_wp2_with fail
          refine (K1.out.next HN.out).mono ?_
          rintro e V6 ⟨rfl, hT⟩
          rw [List.drop_drop] at hT
          rw [HY0.out]
          have K2 := hid hT
          have f := at_free K2.out.row 4
          have ck := at_cell K2.out.row 4
          have K4 := hid (K2.out.set HN.out 4 (.int .i64 y0) (d' := ⟨z0, z1, z2, o, y0, 0, 0, 0⟩) rfl)
          clear hT K1 K2
          go_wp2_with fail
          go_roundw
          case rel => exact .inr (.inl ⟨rfl, K4.out⟩)
          case measure => simp [intOf]
        · have K1 := hid hT
          clear hT K0
          go_wp2_with fail
          refine (K1.out.next HN.out).mono ?_
          rintro e V6 ⟨rfl, hT⟩
          rw [List.drop_drop] at hT
          rw [HY1.out]
          have K2 := hid hT
          have f := at_free K2.out.row 5
          have ck := at_cell K2.out.row 5
          have K4 := hid (K2.out.set HN.out 5 (.int .i64 y1) (d' := ⟨z0, z1, z2, o, y0, y1, 0, 0⟩) rfl)
          clear hT K1 K2
          go_wp2_with fail
          go_roundw
          case rel => exact .inr (.inr (.inl ⟨rfl, K4.out⟩))
          case measure => simp [intOf]
        · have K1 := hid hT
          clear hT K0
          go_wp2_with fail
          refine (K1.out.next HN.out).mono ?_
          rintro e V6 ⟨rfl, hT⟩
          rw [List.drop_drop] at hT
          rw [HY2.out]
          have K2 := hid hT
          have f := at_free K2.out.row 6
          have ck := at_cell K2.out.row 6
          have K4 := hid (K2.out.set HN.out 6 (.int .i64 y2) (d' := ⟨z0, z1, z2, o, y0, y1, y2, 0⟩) rfl)
          clear hT K1 K2
          go_wp2_with fail
          go_roundw
          case rel => exact .inr (.inr (.inr (.inl ⟨rfl, K4.out⟩)))
          case measure => simp [intOf]
        · have K1 := hid hT
          clear hT K0
          go_wp2_with fail
          refine (K1.out.next HN.out).mono ?_
          rintro e V6 ⟨rfl, hT⟩
          rw [List.drop_drop] at hT
          rw [HY3.out]
          have K2 := hid hT
          have f := at_free K2.out.row 7
          have ck := at_cell K2.out.row 7
          have K4 := hid (K2.out.set HN.out 7 (.int .i64 y3) (d' := ⟨z0, z1, z2, o, y0, y1, y2, y3⟩) rfl)
          clear hT K1 K2
          go_wp2_with fail
          go_roundw
          case rel => exact .inr (.inr (.inr (.inr ⟨rfl, K4.out⟩)))
          case measure => simp [intOf]
        · have K1 := hid hT
          clear hT K0
          go_wp2_with (refine wpList_row K1.out.row Tryz.underlying57 rfl (by kernel_rfl) rfl rfl rfl rfl ?_)
          refine (K1.out.keep HN.out HDL.out).mono ?_
          rintro e V7 ⟨rfl, Y, hb, hY, hN⟩
          have HF := hid (show GcK w rb Y c (s0.setDe B1 (k + 1)) (B1.drop (64 * (k + 1))) V7 by rw [ND.out, ← HST.out, HDR.out]; exact hY)
          have HNY := hid hN
          have HB := hid hb
          clear hY hN hb K1
          go_wp2_with fail
          go_roundw
          case rel => exact ⟨k + 1, hlt, by go_num, Y, HB.out, HF.out, HNY.out⟩
          case measure => simp [intOf]; omega
    · obtain rfl : k = E := by omega
      go_wp2_with fail
      go_end0
      exact ⟨rfl, X, HEB.out, HK.out, HN.out⟩
end Go.Proofs.YtecggbndlbkhdaaGreat
end
section
set_option linter.unusedSimpArgs false
set_option linter.unusedVariables false
namespace Go.Proofs.YtecggbndlbkhdaaGreat
set_option maxRecDepth 100000
open Go.RowKit

/-- what law.New makes of this configuration, by the count -/
structure LawN (c : Conf) (lf : Int → Option La) : Prop where
  yes : ∀ (x : Int) (L : La), lf x = some L → ∀ w, Calls Tryz.prog 60 #[cf c, .int .i64 x] w (LaMade w L)
  no : ∀ x : Int, lf x = none → ∀ w, Calls Tryz.prog 60 #[cf c, .int .i64 x] w fun e w' => e = .returned (.pointer none) ∧ w.grownBy w' none
def Ca.put (c : Ca) (l : List Int) : Ca := if c.mayset l = true then { c with l := l } else c
def Po.putl (p : Po) (l : List Int) : Po := if p.mayset l = true then ⟨p.r, l⟩ else p
theorem popo_r (p : Po) (l : List Int) : (p.putl l).r = p.r := by unfold Po.putl; split <;> rfl
section
variable {w W W' : World} {rb : Nat} {X : SBl} {c : Conf} {s s' : Ste} {B : List UInt8} {F : List Nat} {v : Value} {l : List Int} {b base : Nat}
theorem cset_own {ca : Ca} (H : CaAt w b ca) (hv : IntsAt w v l) :
    Calls Tryz.prog 269 #[.pointer (some ⟨b, 0, none⟩), v] w fun e w' => (∃ z, e = .returned (.int .i64 z)) ∧ CaAt w' b (ca.put l) ∧ Chg [b] w w' := by
  refine (set_any v l H hv).mono ?_
  rintro e w' (⟨h, h1, h2, h3⟩ | ⟨h, h1, h2⟩)
  · exact ⟨⟨_, h1⟩, by unfold Ca.put; rw [if_pos h]; exact h2, h3⟩
  · exact ⟨⟨_, h1⟩, by unfold Ca.put; rw [if_neg (by rw [h]; decide)]; exact H.chg (chg_grown h2 []) (by simp), chg_grown h2 _⟩
theorem pset_own {p : Po} (H : PoAt w b p) (hv : IntsAt w v l) :
    Calls Tryz.prog 270 #[.pointer (some ⟨b, 0, none⟩), v] w fun e w' => (∃ z, e = .returned (.int .i64 z)) ∧ PoAt w' b (p.putl l) ∧ Chg [b] w w' := by
  refine (poset_any v l H hv).mono ?_
  rintro e w' (⟨h, h1, h2, h3⟩ | ⟨h, h1, h2⟩)
  · exact ⟨⟨_, h1⟩, by unfold Po.putl; rw [if_pos h]; exact h2, h3⟩
  · exact ⟨⟨_, h1⟩, by unfold Po.putl; rw [if_neg (by rw [h]; decide)]; exact H.chg (chg_grown h2 []) (by simp), chg_grown h2 _⟩
/-- another Policy in its block -/
theorem LaAt.pol {B : LBl} {s : La} {p : Po} (H : LaAt w B s) (h : PoAt W' B.p p) (hc : Chg [B.p] w W') (hr : p.r = s.po.r) : LaAt W' B { s with po := p } := by
  obtain ⟨⟨ao, k, h1, h2⟩, h3, h4, h5, h6, h7⟩ := H
  exact ⟨⟨ao, k, hc.at h1 (by simp [h6.bp]), ints_chg h2 hc (fun a n c e => by cases e; simp [h6.pt.symm])⟩, h3.chg hc (by simp [h6.cp]), h, Nat.lt_of_lt_of_le h5 hc.size, h6, ⟨h7.tg, h7.ne, h7.tol, h7.ca, h.ok, by show p.r.mn ≤ s.n ∧ s.n ≤ p.r.mx; rw [hr]; exact h7.n⟩⟩
theorem OwnN.past (h : OwnN base W v l) (hc : Chg F W W') (hn : ∀ g, g ∈ ownL v → g ∉ F) : OwnN base W' v l := h.chg hc hn
theorem rd_lt (h : RdK w rb B W) : rb < W.heap.size := by obtain ⟨v, h1, _⟩ := h.obj; exact at_lt h1
theorem GcK.nextC (h : GcK w rb X c s B W) (hn : Own19 w rb X) :
    Calls Tryz.prog 175 #[.pointer (some ⟨rb, 0, none⟩)] W fun e W' => e = .returned (.int .i64 (nx B)) ∧ GcK w rb X c s (B.drop 8) W' ∧ Chg [rb] W W' :=
  (sunext_any h.2).mono fun e W' ⟨h1, h2, h3⟩ => ⟨h1, ⟨h.1.chg h3 fun x hx hm => (hn x hx).2 (List.mem_singleton.1 hm), h2⟩, h3⟩
theorem GcK.list (h : GcK w rb X c s B W) (hn : Own19 w rb X) (hlen : B.length ≤ 1000000) :
    Calls Tryz.prog 268 #[.pointer (some ⟨rb, 0, none⟩)] W fun e W' => ∃ v, e = .returned v ∧ OwnN W.heap.size W' v (nxs (B.drop 8) (itN B 1)) ∧ GcK w rb X c s ((B.drop 8).drop (8 * itN B 1)) W' ∧ Chg [rb] W W' :=
  (rdlist_any h.2 hlen).mono fun e W' ⟨v, h1, h2, h3, h4⟩ => ⟨v, h1, h2, ⟨h.1.chg h4 fun x hx hm => (hn x hx).2 (List.mem_singleton.1 hm), h3⟩, h4⟩
theorem su_mid {now : Int} {t : TypeId} (h1 : w.heap[b]? = some (.cells (suCells c now X) t)) : w.rangeAt b 0 c.cells.toList := by
  intro j v hj
  have hlt : j < 26 := by have := (List.getElem?_eq_some_iff.1 hj).1; exact this
  rw [Nat.zero_add, at_cell h1]
  have e : (suCells c now X).toList = c.cells.toList ++ [.int .i64 now, .pointer (some ⟨X.g.g, 0, none⟩), .pointer (some ⟨X.t, 0, none⟩), .pointer (some ⟨X.s, 0, none⟩), .pointer (some ⟨X.l.b, 0, none⟩), X.d] := rfl
  rw [← Array.getElem?_toList, e, List.getElem?_append_left hlt]
  exact hj
/-- another law in the state -/
theorem StAt.lawObj (h : StAt W X c s) {LB : LBl} {L : La} (hL : LaAt W LB L) (hn : ∀ x ∈ LB.F, x ∉ X.all) :
    ∃ X2 : SBl, X2.b = X.b ∧ StAt (W.setCell ⟨X.b, 30, none⟩ (.pointer (some ⟨LB.b, 0, none⟩))) X2 c { s with l := L } ∧ Chg [X.b] W (W.setCell ⟨X.b, 30, none⟩ (.pointer (some ⟨LB.b, 0, none⟩))) ∧ ∀ x ∈ X2.all, x ∈ X.all ∨ x ∈ LB.F := by
  have hc : Chg [X.b] W (W.setCell ⟨X.b, 30, none⟩ (.pointer (some ⟨LB.b, 0, none⟩))) := (chg_refl W _).set (.inl (by simp)) _
  have k : ∀ {x : Nat}, X.o x ≠ 0 → x ∉ [X.b] := fun hx hm => hx (by rw [List.mem_singleton.1 hm]; exact h.ob)
  have keep : ∀ {x : Nat}, x ∈ X.all → (if x ∈ LB.F then 4 else X.o x) = X.o x := fun hx => if_neg fun hm => hn _ hm hx
  refine ⟨{ X with l := LB, o := fun x => if x ∈ LB.F then 4 else X.o x }, rfl, ⟨at_set h.row 30 _, h.gate.chg hc fun x hx => k (by rw [h.og x hx]; decide), h.table.chg hc (k (by rw [h.ot.1]; decide)) (k (by rw [h.ot.2]; decide)), h.score.chg hc (k (by rw [h.os.1]; decide)) (k (by rw [h.os.2]; decide)),
    hL.chg hc fun x hx hm => hn x hx (by rw [List.mem_singleton.1 hm]; exact X.mb), h.decs.chg hc fun g hg => k (by rw [h.od g hg]; decide), (keep X.mb).trans h.ob, fun x hx => (keep (X.mF hx)).trans (h.og x hx), ⟨(keep X.mt.1).trans h.ot.1, (keep X.mt.2.1).trans h.ot.2⟩, ⟨(keep X.mt.2.2.1).trans h.os.1, (keep X.mt.2.2.2).trans h.os.2⟩,
    fun x hx => if_pos hx, fun x hx => (keep (X.md hx)).trans (h.od x hx)⟩, hc, fun x hx => ?_⟩
  rcases SBl.cases _ hx with e | e | e | e | e | e | e | e
  · exact .inl (by rw [e]; exact X.mb)
  · exact .inl (by rw [e]; exact X.mt.1)
  · exact .inl (by rw [e]; exact X.mt.2.1)
  · exact .inl (by rw [e]; exact X.mt.2.2.1)
  · exact .inl (by rw [e]; exact X.mt.2.2.2)
  · exact .inl (X.mF e)
  · exact .inr e
  · exact .inl (X.md e)
end
/-- the law that the numbers make -/
def La.get (l : La) (ws ps : List Int) : La := { l with ca := l.ca.put ws, po := l.po.putl ps }
set_option maxHeartbeats 3200000 in
theorem getla_yes {w W : World} {rb : Nat} {X : SBl} {c : Conf} {s : Ste} {B B1 B2 : List UInt8} {lf : Int → Option La} {L : La} (h : GcK w rb X c s B W) (hn : Own19 w rb X) (hlen : B.length ≤ 1000000) (hl : LawN c lf)
    (hb1 : (B.drop 8).drop (8 * itN B 1) = B1) (hb2 : (B1.drop 8).drop (8 * itN B1 1) = B2) (hc : lf (nx B2) = some L) :
    Calls Tryz.prog 177 #[.pointer (some ⟨X.b, 0, none⟩), .pointer (some ⟨rb, 0, none⟩)] W fun e W' => e = .returned (.tuple #[]) ∧ ∃ Y : SBl, Y.b = X.b ∧ GcK w rb Y c { s with l := La.get L (nxs (B.drop 8) (itN B 1)) (nxs (B1.drop 8) (itN B1 1)) } (B2.drop 8) W' ∧ Own19 w rb Y := by
  have L1 := hid (h.list hn hlen); have HN := hid hn; have LN := hid hl
  rw [hb1] at L1
  have hlen1 : B1.length ≤ 1000000 := by rw [← hb1, List.length_drop, List.length_drop]; omega
  have HL1 := hid hlen1
  have LT0 := hid h.1.lt
  have RB0 := hid (rd_lt h.2)
  obtain ⟨x, hx⟩ : ∃ x, nx B2 = x := ⟨_, rfl⟩
  rw [hx] at hc
  have HX := hid hx; have HC := hid hc; have HB2 := hid hb2
  obtain ⟨nw, hnw⟩ : ∃ nw, s.now = nw := ⟨_, rfl⟩
  have HNW := hid hnw
  generalize nxs (B.drop 8) (itN B 1) = ws at *
  obtain ⟨ps, hps⟩ : ∃ ps, nxs (B1.drop 8) (itN B1 1) = ps := ⟨_, rfl⟩
  rw [hps]
  have HPS := hid hps
  clear hps
  clear h hn hl hlen hlen1 hb1 hb2 hc hx hnw
  go_enter Tryz.func177, Tryz.ntmps177
  go_wp2_with fail
  refine L1.out.mono ?_
  rintro e V1 ⟨v1, rfl, ho, hT, hc⟩
  have O0 := hid ho; have T1 := hid hT; have S1 := hid hc.size
  have N1 := hid (show ∀ g, g ∈ ownL v1 → g ∉ X.all from fun g hg hm => by have h1 := (ho.at g hg).1; have h2 := LT0.out g hm; omega)
  have R1 := hid (show ∀ g, g ∈ ownL v1 → g ∉ [rb] from fun g hg hm => by have h1 := (ho.at g hg).1; have h2 := RB0.out; rw [List.mem_singleton.1 hm] at h1; omega)
  have L2 := hid (hT.list HN.out HL1.out)
  rw [HB2.out, HPS.out] at L2
  clear ho hT hc L1
  go_wp2_with fail
  refine L2.out.mono ?_
  rintro e V2 ⟨v2, rfl, ho, hT, hc⟩
  have NB1 := R1; have O1 := hid (O0.out.past hc NB1.out); have O2 := hid ho
  have N2 := hid (show ∀ g, g ∈ ownL v2 → g ∉ X.all from fun g hg hm => by have h1 := (ho.at g hg).1; have h2 := LT0.out g hm; have h3 := S1.out; omega)
  have NB2 := hid (show ∀ g, g ∈ ownL v2 → g ∉ [rb] from fun g hg hm => by have h1 := (ho.at g hg).1; have h2 := RB0.out; have h3 := S1.out; rw [List.mem_singleton.1 hm] at h1; omega)
  have NX1 := hid (show ∀ g, g ∈ ownL v1 → g ∉ [X.b] from fun g hg hm => N1.out g hg (by rw [List.mem_singleton.1 hm]; exact X.mb))
  have NX2 := hid (show ∀ g, g ∈ ownL v2 → g ∉ [X.b] from fun g hg hm => N2.out g hg (by rw [List.mem_singleton.1 hm]; exact X.mb))
  have LT1 := hid (show ∀ g, g ∈ ownL v1 → g < V2.heap.size from fun g hg => (O1.out.at g hg).2)
  have LT2 := hid (show ∀ g, g ∈ ownL v2 → g < V2.heap.size from fun g hg => (O2.out.at g hg).2)
  have T := hid hT.drew
  have O1 := hid (O1.out.drew); have O2 := hid (O2.out.drew)
  have RX := hid (show V2.drew.heap[X.b]? = some (.cells (suCells c nw X) 132) from by rw [← HNW.out]; exact T.out.1.row)
  clear ho hT hc L2 T1 O0
  go_upto_region 1 with fail
  refine wp_region_held_drew (S := (fun w' => (w'.heap[X.b]? = some (.cells (suCells c nw X) 132)))) (by kernel_rfl) RX.out (fun hHeld => ?_)
  try dsimp only at hHeld
  refine jU 0 hHeld ?_
  try simp only [jX, jD, jE, jF]
  refine jU 1 hHeld ?_
  try simp only [jX, jD, jE, jF]
  refine jU 2 hHeld ?_
  try simp only [jX, jD, jE, jF]
  refine' jT 3 rfl (by rfl) ?_ hHeld ?_
  rotate_left
  · (intro w hSw; (try dsimp only at hSw); (try simp only [jD, jE, jF]); refine exec_mid27 (x := .tmp 13) (su_mid hSw) Tryz.underlying27 rfl (by kernel_rfl) ?_ ?_ <;> rfl)
  try simp only [jX, jD, jE, jF]
  refine jU 4 hHeld ?_
  try simp only [jX, jD, jE, jF]
  refine jR [5] ?_
  refine jG rfl (fun K hK => ?_) AllReadyH.nil
  try simp only [jD, jE, jF]
  go_simp
  have hH2 := hHeld
  have R := hH2
  refine ((T.out.nextC HN.out)).mono ?_
  rintro e w1005 ⟨rfl, hT, hc⟩
  rw [HX.out]
  have R : w1005.heap[X.b]? = some (.cells (suCells c nw X) 132) := by rw [← HNW.out]; exact hT.1.row
  have O5 := hid (O1.out.past hc NB1.out)
  have P5 := hid (O2.out.past hc NB2.out)
  have LR5 := hid (rd_lt hT.2)
  have SZ5 := hid (show V2.heap.size ≤ w1005.heap.size from hc.size)
  replace T := hid hT
  clear hT hc
  have hg := True.intro
  have L5 := hid (show (w1005.heap[X.b]? = some (.cells (suCells c nw X) 132)) from R)
  clear hHeld hg R
  go_wp2_with fail
  refine hK.out _ _ ?_ (fun hHeld => ?_)
  · exact L5.out
  clear hK K
  try dsimp only at hHeld
  try simp only [jX, jD, jE, jF]
  refine jR [6] ?_
  refine jG rfl (fun K hK => ?_) AllReadyH.nil
  try simp only [jD, jE, jF]
  go_simp
  have hH2 := hHeld
  have R := hH2
  refine ((LN.out.yes _ _ HC.out _)).mono ?_
  rintro e w1006 ⟨LB, rfl, hL, hg, hlo⟩
  have R := at_grown R hg (by simp)
  have SZ6 := hid (T.out.1.lt)
  have O6 := hid (O5.out.grown hg)
  have P6 := hid (P5.out.grown hg)
  have GW := hid T.out.2.gr.size
  replace T := hid (T.out.grown hg)
  have TL := hid hL
  have LO := hid hlo
  clear hL hlo
  have L6 := hid (show (w1006.heap[X.b]? = some (.cells (suCells c nw X) 132)) from R)
  clear hHeld hg R
  go_wp2_with fail
  refine hK.out _ _ ?_ (fun hHeld => ?_)
  · exact L6.out
  clear hK K
  try dsimp only at hHeld
  try simp only [jX, jD, jE, jF]
  refine jU 7 hHeld ?_
  try simp only [jX, jD, jE, jF]
  refine wpAnyH_done (by kernel_rfl) ?_ _
  have R := hHeld
  have R6 := hid R
  clear R
  have f30 := at_free R6.out 30
  have k30 := at_cell R6.out 30
  go_upto_region 4 with fail
  obtain ⟨X2, eb, hS, hC, hA⟩ := T.out.1.lawObj TL.out (fun x hx hm => Nat.lt_irrefl _ (Nat.lt_of_lt_of_le (SZ6.out x hm) (LO.out x hx)))
  have HN2 := hid (show Own19 w rb X2 from fun x hx => (hA x hx).elim (fun h => HN.out x h) (fun h => by have h1 := LO.out x h; have h2 := LR5.out; have h3 := GW.out; omega))
  have T2 := hid (show GcK w rb X2 c { s with l := L } (B2.drop 8) _ from ⟨hS, T.out.2.chg hC (fun x hx => by rw [List.mem_singleton.1 hx]; exact HN.out _ X.mb)⟩)
  have OA := hid (O6.out.past hC NX1.out)
  have OB := hid (P6.out.past hC NX2.out)
  have NA := hid (show ∀ g, g ∈ ownL v1 → g ∉ X2.all from fun g hg hm => (hA g hm).elim (fun h => N1.out g hg h) (fun h => by have h1 := LO.out g h; have h2 := LT1.out g hg; have h3 := SZ5.out; omega))
  have NB := hid (show ∀ g, g ∈ ownL v2 → g ∉ X2.all from fun g hg hm => (hA g hm).elim (fun h => N2.out g hg h) (fun h => by have h1 := LO.out g h; have h2 := LT2.out g hg; have h3 := SZ5.out; omega))
  clear hS hC hA f30 k30 R6 T TL O6 P6 O5 P5
  have EX := hid eb
  clear eb
  generalize w1006.setCell ⟨X.b, 30, none⟩ (.pointer (some ⟨LB.b, 0, none⟩)) = W7 at T2 OA OB ⊢
  rw [← EX.out]
  obtain ⟨p1, k1, rfl⟩ := OA.out.form
  obtain ⟨p2, k2, rfl⟩ := OB.out.form
  have c30 := T2.out.1.cells.2.2.2.2.1
  go_wp2_with fail
  refine (lcalm_any T2.out.1.law).mono ?_
  rintro e W7 ⟨rfl, rfl⟩
  go_wp2_with fail
  refine (cset_own T2.out.1.law.ca OA.out.ints).mono ?_
  rintro e W8 ⟨⟨z8, rfl⟩, ha, hc⟩
  have T3 := hid (T2.out.step HN2.out (T2.out.1.lawNew (T2.out.1.law.calm ha hc) (hc.more (fun x hx => by rw [List.mem_singleton.1 hx]; simp))) hc (fun x hx => by rw [List.mem_singleton.1 hx]; exact X2.ml (by simp)))
  have OC := hid (OB.out.past hc (fun g hg hm => NB.out g hg (by rw [List.mem_singleton.1 hm]; exact X2.ml (by simp))))
  clear ha hc c30 T2 OA OB
  have c30 := T3.out.1.cells.2.2.2.2.1
  go_wp2_with fail
  refine (lpolicy_any T3.out.1.law).mono ?_
  rintro e W9 ⟨rfl, rfl⟩
  go_wp2_with fail
  refine (pset_own T3.out.1.law.po OC.out.ints).mono ?_
  rintro e W10 ⟨⟨z10, rfl⟩, ha, hc⟩
  have T4 := hid (T3.out.step HN2.out (T3.out.1.lawNew (T3.out.1.law.pol ha hc (popo_r _ _)) (hc.more (fun x hx => by rw [List.mem_singleton.1 hx]; simp))) hc (fun x hx => by rw [List.mem_singleton.1 hx]; exact X2.ml (by simp)))
  clear ha hc c30 T3 OC
  go_wp2_with fail
  go_end0
  exact ⟨rfl, X2, EX.out, T4.out, HN2.out⟩
set_option maxHeartbeats 3200000 in
theorem getla_no {w W : World} {rb : Nat} {X : SBl} {c : Conf} {s : Ste} {B B1 B2 : List UInt8} {lf : Int → Option La} (h : GcK w rb X c s B W) (hn : Own19 w rb X) (hlen : B.length ≤ 1000000) (hl : LawN c lf)
    (hb1 : (B.drop 8).drop (8 * itN B 1) = B1) (hb2 : (B1.drop 8).drop (8 * itN B1 1) = B2) (hc : lf (nx B2) = none) :
    Calls Tryz.prog 177 #[.pointer (some ⟨X.b, 0, none⟩), .pointer (some ⟨rb, 0, none⟩)] W fun e W' => e = .returned (.tuple #[]) ∧ ∃ Y : SBl, Y.b = X.b ∧ GcK w rb Y c { s with l := La.get s.l (nxs (B.drop 8) (itN B 1)) (nxs (B1.drop 8) (itN B1 1)) } (B2.drop 8) W' ∧ Own19 w rb Y := by
  have L1 := hid (h.list hn hlen); have HN := hid hn; have LN := hid hl
  rw [hb1] at L1
  have hlen1 : B1.length ≤ 1000000 := by rw [← hb1, List.length_drop, List.length_drop]; omega
  have HL1 := hid hlen1
  have LT0 := hid h.1.lt
  have RB0 := hid (rd_lt h.2)
  obtain ⟨x, hx⟩ : ∃ x, nx B2 = x := ⟨_, rfl⟩
  rw [hx] at hc
  have HX := hid hx; have HC := hid hc; have HB2 := hid hb2
  obtain ⟨nw, hnw⟩ : ∃ nw, s.now = nw := ⟨_, rfl⟩
  have HNW := hid hnw
  generalize nxs (B.drop 8) (itN B 1) = ws at *
  obtain ⟨ps, hps⟩ : ∃ ps, nxs (B1.drop 8) (itN B1 1) = ps := ⟨_, rfl⟩
  rw [hps]
  have HPS := hid hps
  clear hps
  clear h hn hl hlen hlen1 hb1 hb2 hc hx hnw
  go_enter Tryz.func177, Tryz.ntmps177
  go_wp2_with fail
  refine L1.out.mono ?_
  rintro e V1 ⟨v1, rfl, ho, hT, hc⟩
  have O0 := hid ho; have T1 := hid hT; have S1 := hid hc.size
  have N1 := hid (show ∀ g, g ∈ ownL v1 → g ∉ X.all from fun g hg hm => by have h1 := (ho.at g hg).1; have h2 := LT0.out g hm; omega)
  have R1 := hid (show ∀ g, g ∈ ownL v1 → g ∉ [rb] from fun g hg hm => by have h1 := (ho.at g hg).1; have h2 := RB0.out; rw [List.mem_singleton.1 hm] at h1; omega)
  have L2 := hid (hT.list HN.out HL1.out)
  rw [HB2.out, HPS.out] at L2
  clear ho hT hc L1
  go_wp2_with fail
  refine L2.out.mono ?_
  rintro e V2 ⟨v2, rfl, ho, hT, hc⟩
  have NB1 := R1; have O1 := hid (O0.out.past hc NB1.out); have O2 := hid ho
  have N2 := hid (show ∀ g, g ∈ ownL v2 → g ∉ X.all from fun g hg hm => by have h1 := (ho.at g hg).1; have h2 := LT0.out g hm; have h3 := S1.out; omega)
  have NB2 := hid (show ∀ g, g ∈ ownL v2 → g ∉ [rb] from fun g hg hm => by have h1 := (ho.at g hg).1; have h2 := RB0.out; have h3 := S1.out; rw [List.mem_singleton.1 hm] at h1; omega)
  have NX1 := hid (show ∀ g, g ∈ ownL v1 → g ∉ [X.b] from fun g hg hm => N1.out g hg (by rw [List.mem_singleton.1 hm]; exact X.mb))
  have NX2 := hid (show ∀ g, g ∈ ownL v2 → g ∉ [X.b] from fun g hg hm => N2.out g hg (by rw [List.mem_singleton.1 hm]; exact X.mb))
  have LT1 := hid (show ∀ g, g ∈ ownL v1 → g < V2.heap.size from fun g hg => (O1.out.at g hg).2)
  have LT2 := hid (show ∀ g, g ∈ ownL v2 → g < V2.heap.size from fun g hg => (O2.out.at g hg).2)
  have T := hid hT.drew
  have O1 := hid (O1.out.drew); have O2 := hid (O2.out.drew)
  have RX := hid (show V2.drew.heap[X.b]? = some (.cells (suCells c nw X) 132) from by rw [← HNW.out]; exact T.out.1.row)
  clear ho hT hc L2 T1 O0
  go_upto_region 1 with fail
  refine wp_region_held_drew (S := (fun w' => (w'.heap[X.b]? = some (.cells (suCells c nw X) 132)))) (by kernel_rfl) RX.out (fun hHeld => ?_)
  try dsimp only at hHeld
  refine jU 0 hHeld ?_
  try simp only [jX, jD, jE, jF]
  refine jU 1 hHeld ?_
  try simp only [jX, jD, jE, jF]
  refine jU 2 hHeld ?_
  try simp only [jX, jD, jE, jF]
  refine' jT 3 rfl (by rfl) ?_ hHeld ?_
  rotate_left
  · (intro w hSw; (try dsimp only at hSw); (try simp only [jD, jE, jF]); refine exec_mid27 (x := .tmp 13) (su_mid hSw) Tryz.underlying27 rfl (by kernel_rfl) ?_ ?_ <;> rfl)
  try simp only [jX, jD, jE, jF]
  refine jU 4 hHeld ?_
  try simp only [jX, jD, jE, jF]
  refine jR [5] ?_
  refine jG rfl (fun K hK => ?_) AllReadyH.nil
  try simp only [jD, jE, jF]
  go_simp
  have hH2 := hHeld
  have R := hH2
  refine ((T.out.nextC HN.out)).mono ?_
  rintro e w1005 ⟨rfl, hT, hc⟩
  rw [HX.out]
  have R : w1005.heap[X.b]? = some (.cells (suCells c nw X) 132) := by rw [← HNW.out]; exact hT.1.row
  have O5 := hid (O1.out.past hc NB1.out)
  have P5 := hid (O2.out.past hc NB2.out)
  have LR5 := hid (rd_lt hT.2)
  have SZ5 := hid (show V2.heap.size ≤ w1005.heap.size from hc.size)
  replace T := hid hT
  clear hT hc
  have hg := True.intro
  have L5 := hid (show (w1005.heap[X.b]? = some (.cells (suCells c nw X) 132)) from R)
  clear hHeld hg R
  go_wp2_with fail
  refine hK.out _ _ ?_ (fun hHeld => ?_)
  · exact L5.out
  clear hK K
  try dsimp only at hHeld
  try simp only [jX, jD, jE, jF]
  refine jR [6] ?_
  refine jG rfl (fun K hK => ?_) AllReadyH.nil
  try simp only [jD, jE, jF]
  go_simp
  have hH2 := hHeld
  have R := hH2
  refine ((LN.out.no _ HC.out _)).mono ?_
  rintro e w1006 ⟨rfl, hg⟩
  have R := at_grown R hg (by simp)
  have SZ6 := hid (T.out.1.lt)
  have O6 := hid (O5.out.grown hg)
  have P6 := hid (P5.out.grown hg)
  have GW := hid T.out.2.gr.size
  replace T := hid (T.out.grown hg)
  have L6 := hid (show (w1006.heap[X.b]? = some (.cells (suCells c nw X) 132)) from R)
  clear hHeld hg R
  go_wp2_with fail
  refine hK.out _ _ ?_ (fun hHeld => ?_)
  · exact L6.out
  clear hK K
  try dsimp only at hHeld
  try simp only [jX, jD, jE, jF]
  refine jU 7 hHeld ?_
  try simp only [jX, jD, jE, jF]
  refine wpAnyH_done (by kernel_rfl) ?_ _
  have R := hHeld
  have R6 := hid R
  clear R
  go_upto_region 4 with fail
  have T2 := hid T.out
  have HN2 := hid HN.out
  have OA := hid O6.out
  have OB := hid P6.out
  have NA := hid N1.out
  have NB := hid N2.out
  obtain ⟨X2, hX2⟩ : ∃ Y, X = Y := ⟨_, rfl⟩
  subst hX2
  have EX := hid (show X.b = X.b from rfl)
  clear R6 T O6 P6 O5 P5
  obtain ⟨p1, k1, rfl⟩ := OA.out.form
  obtain ⟨p2, k2, rfl⟩ := OB.out.form
  have c30 := T2.out.1.cells.2.2.2.2.1
  go_wp2_with fail
  refine (lcalm_any T2.out.1.law).mono ?_
  rintro e W7 ⟨rfl, rfl⟩
  go_wp2_with fail
  refine (cset_own T2.out.1.law.ca OA.out.ints).mono ?_
  rintro e W8 ⟨⟨z8, rfl⟩, ha, hc⟩
  have T3 := hid (T2.out.step HN2.out (T2.out.1.lawNew (T2.out.1.law.calm ha hc) (hc.more (fun x hx => by rw [List.mem_singleton.1 hx]; simp))) hc (fun x hx => by rw [List.mem_singleton.1 hx]; exact X.ml (by simp)))
  have OC := hid (OB.out.past hc (fun g hg hm => NB.out g hg (by rw [List.mem_singleton.1 hm]; exact X.ml (by simp))))
  clear ha hc c30 T2 OA OB
  have c30 := T3.out.1.cells.2.2.2.2.1
  go_wp2_with fail
  refine (lpolicy_any T3.out.1.law).mono ?_
  rintro e W9 ⟨rfl, rfl⟩
  go_wp2_with fail
  refine (pset_own T3.out.1.law.po OC.out.ints).mono ?_
  rintro e W10 ⟨⟨z10, rfl⟩, ha, hc⟩
  have T4 := hid (T3.out.step HN2.out (T3.out.1.lawNew (T3.out.1.law.pol ha hc (popo_r _ _)) (hc.more (fun x hx => by rw [List.mem_singleton.1 hx]; simp))) hc (fun x hx => by rw [List.mem_singleton.1 hx]; exact X.ml (by simp)))
  clear ha hc c30 T3 OC
  go_wp2_with fail
  go_end0
  exact ⟨rfl, X, rfl, T4.out, HN2.out⟩
end Go.Proofs.YtecggbndlbkhdaaGreat
end
