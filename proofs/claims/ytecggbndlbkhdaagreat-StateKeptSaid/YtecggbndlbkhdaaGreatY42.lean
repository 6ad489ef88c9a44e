/-
  Contract for package state: all is read. The condition: the state lies there, and the reader; not too many bytes.
  Contracts for package state: bounds of numbers; whether a number may be no value. No condition.
  Contracts for package state: all samples, all standings; of nil too. The condition: the state lies there.
  What is read of a state's own bytes is that state. No condition.
-/
import Derived.Test.YtecggbndlbkhdaaGreatJ0
import Derived.Test.YtecggbndlbkhdaaGreatY41
import Derived.Test.YtecggbndlbkhdaaGreatY13
import Derived.Test.YtecggbndlbkhdaaGreatY37
import Derived.Test.YtecggbndlbkhdaaGreatY28
section
set_option linter.unusedSimpArgs false
set_option linter.unusedVariables false
namespace Go.Proofs.YtecggbndlbkhdaaGreat
set_option maxRecDepth 100000
open Go.RowKit

/-- as many collectors read -/
def Ste.setCos (s : Ste) (B : List UInt8) : Nat → Ste
  | 0 => s
  | k + 1 => (s.setCos B k).setCo k (B.drop (72 * k))
theorem Sc.setH_len (s : Sc) (k : Nat) (a c : Int) (o : Bool) : (s.setH k a c o).H.length = s.H.length := by
  unfold Sc.setH; split
  · exact List.length_set ..
  · rfl
theorem Ste.setCos_n (s : Ste) (B : List UInt8) (k : Nat) : (s.setCos B k).g.r.n = s.g.r.n := by
  induction k with
  | zero => rfl
  | succ k ih => exact (Rg.set_n _ _ _ _).trans ih
theorem Ste.setCos_h (s : Ste) (B : List UInt8) (k : Nat) : (s.setCos B k).s.H.length = s.s.H.length := by
  induction k with
  | zero => rfl
  | succ k ih => exact (Sc.setH_len _ _ _ _ _).trans ih
theorem Ste.setCos_rest (s : Ste) (B : List UInt8) (k : Nat) : (s.setCos B k).now = s.now ∧ (s.setCos B k).t = s.t ∧ (s.setCos B k).ds = s.ds ∧ (s.setCos B k).l = s.l ∧ (s.setCos B k).p = s.p := by
  induction k with
  | zero => exact ⟨rfl, rfl, rfl, rfl, rfl⟩
  | succ k ih => exact ih
theorem Ste.setSa_ds (c : Conf) (s : Ste) (B : List UInt8) (k : Nat) : (s.setSa c B k).ds = s.ds := by
  induction k with
  | zero => rfl
  | succ k ih => exact ih
/-- the bytes behind a list -/
def pastL (B : List UInt8) : List UInt8 := (B.drop 8).drop (8 * itN B 1)
theorem pastL_len (B : List UInt8) : (pastL B).length ≤ B.length := by unfold pastL; rw [List.length_drop, List.length_drop]; omega
def pastS (B : List UInt8) : List UInt8 := (B.drop 8).drop (32 * itN B 4)
theorem pastS_len (B : List UInt8) : (pastS B).length ≤ B.length := by unfold pastS; rw [List.length_drop, List.length_drop]; omega
def pastD (B : List UInt8) : List UInt8 := (B.drop 8).drop (64 * itN B 8)
/-- the law read -/
def Ste.setLa (lf : Int → Option La) (s : Ste) (B : List UInt8) : Ste :=
  { s with l := La.get ((lf (nx (pastL (pastL B)))).getD s.l) (nxs (B.drop 8) (itN B 1)) (nxs ((pastL B).drop 8) (itN (pastL B) 1)) }
theorem getla_any {w W : World} {rb : Nat} {X : SBl} {c : Conf} {s : Ste} {B B1 B2 : List UInt8} {lf : Int → Option La} (h : GcK w rb X c s B W) (hn : Own19 w rb X) (hlen : B.length ≤ 1000000) (hl : LawN c lf) (hb1 : pastL B = B1) (hb2 : pastL B1 = B2) :
    Calls Tryz.prog 177 #[.pointer (some ⟨X.b, 0, none⟩), .pointer (some ⟨rb, 0, none⟩)] W fun e W' => e = .returned (.tuple #[]) ∧ ∃ Y : SBl, Y.b = X.b ∧ GcK w rb Y c (s.setLa lf B) (B2.drop 8) W' ∧ Own19 w rb Y := by
  unfold Ste.setLa
  rw [hb1, hb2]
  cases hc : lf (nx B2) with
  | none => exact getla_no h hn hlen hl hb1 hb2 hc
  | some L => exact getla_yes h hn hlen hl hb1 hb2 hc
/-- all is read -/
def Ste.setAll (c : Conf) (n : Nat) (lf : Int → Option La) (s : Ste) (B : List UInt8) : Ste :=
  ((((({ s with now := nx B } : Ste).setCos (B.drop 8) n).setLa lf ((B.drop 8).drop (72 * n))).setSa c (((pastL (pastL ((B.drop 8).drop (72 * n)))).drop 8).drop 8) (itN ((pastL (pastL ((B.drop 8).drop (72 * n)))).drop 8) 4)).setDe
    ((pastS ((pastL (pastL ((B.drop 8).drop (72 * n)))).drop 8)).drop 8) (itN (pastS ((pastL (pastL ((B.drop 8).drop (72 * n)))).drop 8)) 8))
def allEnd (n : Nat) (B : List UInt8) : List UInt8 := pastD (pastS ((pastL (pastL ((B.drop 8).drop (72 * n)))).drop 8))
set_option maxHeartbeats 3200000 in
theorem suget_any {w W : World} {rb n : Nat} {X : SBl} {c : Conf} {s : Ste} {B : List UInt8} {lf : Int → Option La} (h : GcK w rb X c s B W) (hn : Own19 w rb X) (hlen : B.length ≤ 1000000) (hl : LawN c lf)
    (hcn : c.n = (n : Int)) (hrn : s.g.r.n = n) (hsn : s.s.H.length = n) (ht : s.t = []) (hd : s.ds = []) (hn16 : n ≤ 16) :
    Calls Tryz.prog 88 #[.pointer (some ⟨X.b, 0, none⟩), .pointer (some ⟨rb, 0, none⟩)] W fun e W' => e = .returned (.tuple #[]) ∧ ∃ Y : SBl, Y.b = X.b ∧ GcK w rb Y c (s.setAll c n lf B) (allEnd n B) W' ∧ Own19 w rb Y := by
  unfold Ste.setAll allEnd
  obtain ⟨x, hx⟩ : ∃ x, nx B = x := ⟨_, rfl⟩
  rw [hx]
  have hwx : wf64 x := by rw [← hx]; exact nx_wf _
  obtain ⟨s1, hs1⟩ : ∃ s1 : Ste, ({ s with now := x } : Ste) = s1 := ⟨_, rfl⟩
  obtain ⟨B1, hB1⟩ : ∃ B1, B.drop 8 = B1 := ⟨_, rfl⟩
  rw [hs1, hB1]
  have r1 : s1.g.r.n = n := by rw [← hs1]; exact hrn
  have r2 : s1.s.H.length = n := by rw [← hs1]; exact hsn
  have r3 := s1.setCos_rest B1 n
  obtain ⟨s2, hs2⟩ : ∃ s2, s1.setCos B1 n = s2 := ⟨_, rfl⟩
  obtain ⟨B2, hB2⟩ : ∃ B2, B1.drop (72 * n) = B2 := ⟨_, rfl⟩
  rw [hs2] at r3
  rw [hs2, hB2]
  have l1 : B1.length ≤ 1000000 := by rw [← hB1, List.length_drop]; omega
  have l2 : B2.length ≤ 1000000 := by rw [← hB2, List.length_drop]; omega
  obtain ⟨B3, hB3⟩ : ∃ B3, pastL B2 = B3 := ⟨_, rfl⟩
  rw [hB3]
  have l3 : B3.length ≤ 1000000 := by have := pastL_len B2; rw [hB3] at this; omega
  obtain ⟨B4, hB4⟩ : ∃ B4, pastL B3 = B4 := ⟨_, rfl⟩
  rw [hB4]
  have l4 : B4.length ≤ 1000000 := by have := pastL_len B3; rw [hB4] at this; omega
  obtain ⟨B5, hB5⟩ : ∃ B5, B4.drop 8 = B5 := ⟨_, rfl⟩
  rw [hB5]
  have l5 : B5.length ≤ 1000000 := by rw [← hB5, List.length_drop]; omega
  obtain ⟨s3, hs3⟩ : ∃ s3, s2.setLa lf B2 = s3 := ⟨_, rfl⟩
  rw [hs3]
  have q1 : s3.t = [] := by rw [← hs3]; show s2.t = []; rw [r3.2.1, ← hs1]; exact ht
  have q2 : s3.ds = [] := by rw [← hs3]; show s2.ds = []; rw [r3.2.2.1, ← hs1]; exact hd
  have q3 : wf64 s3.now := by rw [← hs3]; show wf64 s2.now; rw [r3.1, ← hs1]; exact hwx
  have hT3 : s3.t.length + itN B5 4 ≤ 100000 := by
    rw [q1]
    unfold itN
    rw [List.length_drop]
    have : (B5.length - 8) / (8 * 4) ≤ 40000 := by omega
    simp only [List.length_nil]
    omega
  have q4 := s3.setSa_ds c (B5.drop 8) (itN B5 4)
  obtain ⟨s4, hs4⟩ : ∃ s4, s3.setSa c (B5.drop 8) (itN B5 4) = s4 := ⟨_, rfl⟩
  rw [hs4] at q4
  rw [hs4]
  have hD4 : s4.ds.length ≤ 64 := by rw [q4, q2]; simp
  obtain ⟨B6, hB6⟩ : ∃ B6, pastS B5 = B6 := ⟨_, rfl⟩
  rw [hB6]
  have l6 : B6.length ≤ 1000000 := by have := pastS_len B5; rw [hB6] at this; omega
  obtain ⟨s5, hs5⟩ : ∃ s5, s4.setDe (B6.drop 8) (itN B6 8) = s5 := ⟨_, rfl⟩
  obtain ⟨B7, hB7⟩ : ∃ B7, pastD B6 = B7 := ⟨_, rfl⟩
  rw [hs5, hB7]
  have T := hid h.drew; have HN := hid hn; have HLN := hid hl; have HX := hid hx; have HCN := hid hcn
  have HRN := hid r1; have HSN := hid r2; have HL2 := hid l2; have HL6 := hid l6; have HT3 := hid hT3; have HW3 := hid q3; have HD4 := hid hD4
  have HS1 := hid hs1; have HS2 := hid hs2; have HS3 := hid hs3; have HS4 := hid hs4; have HS5 := hid hs5
  have HB2 := hid hB2; have HB3 := hid hB3; have HB4 := hid hB4; have HB5 := hid hB5; have HB6 := hid (show (B5.drop 8).drop (32 * itN B5 4) = B6 from hB6); have HB7 := hid (show (B6.drop 8).drop (64 * itN B6 8) = B7 from hB7)
  have hn1 : n ≤ 1000000 := by omega
  have HB1 := hid hB1
  clear h hn hlen hl hcn hrn hsn ht hd hn16 hx hwx hs1 hB1 r1 r2 r3 hs2 hB2 l1 l2 hB3 l3 hB4 l4 hB5 l5 hs3 q1 q2 q3 hT3 q4 hs4 hD4 hB6 l6 hs5 hB7
  go_enter Tryz.func88, Tryz.ntmps88
  go_upto_region 0 with fail
  refine wp_region_held_drew (S := (fun w' => (∃ z, w'.heap[X.b]? = some (.cells (suCells c z X) 132)))) (by kernel_rfl) ⟨_, T.out.1.row⟩ (fun hHeld => ?_)
  try dsimp only at hHeld
  refine jU 0 hHeld ?_
  try simp only [jX, jD, jE, jF]
  refine jU 1 hHeld ?_
  try simp only [jX, jD, jE, jF]
  refine jU 2 hHeld ?_
  try simp only [jX, jD, jE, jF]
  refine jU 3 hHeld ?_
  try simp only [jX, jD, jE, jF]
  refine jR [4] ?_
  refine jG rfl (fun K hK => ?_) AllReadyH.nil
  try simp only [jD, jE, jF]
  go_simp
  have hH2 := hHeld
  have R := hH2
  refine ((T.out.nextC HN.out)).mono ?_
  rintro e w1004 ⟨rfl, hT, hc⟩
  rw [HX.out]
  have R : ∃ z, w1004.heap[X.b]? = some (.cells (suCells c z X) 132) := ⟨_, hT.1.row⟩
  replace T := hid hT
  clear hT hc
  have hg := True.intro
  have L4 := hid (show (∃ z, w1004.heap[X.b]? = some (.cells (suCells c z X) 132)) from R)
  clear hHeld hg R
  go_wp2_with fail
  refine hK.out _ _ ?_ (fun hHeld => ?_)
  · exact L4.out
  clear hK K
  try dsimp only at hHeld
  try simp only [jX, jD, jE, jF]
  refine jR [5] ?_
  refine jG rfl (fun K hK => ?_) AllReadyH.nil
  try simp only [jD, jE, jF]
  go_simp
  have hH2 := hHeld
  have R := hH2
  refine ((store_i64 ⟨X.b, 26, none⟩ x _ _ (at_cell T.out.1.row 26) (at_free T.out.1.row 26))).mono ?_
  rintro e w1005 ⟨rfl, he⟩
  obtain ⟨hS, hC⟩ := T.out.1.nowNew x
  rw [← he] at hS hC
  have R : ∃ z, w1005.heap[X.b]? = some (.cells (suCells c z X) 132) := ⟨_, hS.row⟩
  have T2 := hid (T.out.step HN.out hS hC (fun y hy => by rw [List.mem_singleton.1 hy]; exact X.mb))
  clear hS hC he T
  have hg := True.intro
  have L5 := hid (show (∃ z, w1005.heap[X.b]? = some (.cells (suCells c z X) 132)) from R)
  clear hHeld hg R
  go_wp2_with fail
  refine hK.out _ _ ?_ (fun hHeld => ?_)
  · exact L5.out
  clear hK K
  try dsimp only at hHeld
  try simp only [jX, jD, jE, jF]
  refine wpAnyH_done (by kernel_rfl) ?_ _
  have R := hHeld
  clear R
  have c0 := T2.out.1.conf.1
  rw [HCN.out] at c0
  go_wp2_with fail
  go_loopw [16] (fun i wr => ∃ k : Nat, k ≤ n ∧ i = .int .i64 (k : Int) ∧ GcK w rb X c (s1.setCos B1 k) (B1.drop (72 * k)) wr) (fun i _ => n - (intOf i).toNat)
  case atStart => exact ⟨0, Nat.zero_le _, rfl, by have e := T2.out; rw [HS1.out, HB1.out] at e; exact e⟩
  case round =>
    obtain ⟨k, hk, rfl, hT⟩ := hrel
    have HK := hid hT
    clear hT c0 T2
    by_cases hlt : k < n
    · have ND := hid (show (B1.drop (72 * k)).drop 72 = B1.drop (72 * (k + 1)) by rw [List.drop_drop]; congr 1)
      go_wp2_with fail
      refine (getco_any HK.out HN.out k (by rw [s1.setCos_n B1 k, HRN.out]; exact hlt) (by rw [s1.setCos_h B1 k, HSN.out]; exact hlt)).mono ?_
      rintro e V3 ⟨rfl, hT⟩
      rw [ND.out] at hT
      have K2 := hid hT
      clear hT HK
      go_wp2_with fail
      go_roundw
      case rel => exact ⟨k + 1, hlt, by go_num, K2.out⟩
      case measure => simp [intOf]; omega
    · obtain rfl : k = n := by omega
      have K2 := hid (show GcK w rb X c s2 B2 wr by rw [← HS2.out, ← HB2.out]; exact HK.out)
      clear HK
      go_wp2_with fail
      refine (getla_any K2.out HN.out HL2.out HLN.out HB3.out HB4.out).mono ?_
      rintro e V4 ⟨rfl, Y, eb, hT, hn⟩
      rw [HS3.out, HB5.out] at hT
      have K3 := hid hT; have HNY := hid hn; have EB := hid eb
      clear hT hn eb K2
      rw [← EB.out]
      go_wp2_with fail
      refine (getsa_any K3.out HNY.out HT3.out HW3.out).mono ?_
      rintro e V5 ⟨rfl, hT⟩
      rw [HS4.out, HB6.out] at hT
      have K4 := hid hT
      clear hT K3
      go_wp2_with fail
      refine (getde_any K4.out HNY.out HD4.out HL6.out).mono ?_
      rintro e V6 ⟨rfl, Z, ez, hT, hn⟩
      rw [HS5.out, HB7.out] at hT
      have K5 := hid hT; have HNZ := hid hn; have EZ := hid ez
      clear hT hn ez K4
      go_wp2_with fail
      go_end0
      exact ⟨rfl, Z, EZ.out.trans EB.out, K5.out, HNZ.out⟩
end Go.Proofs.YtecggbndlbkhdaaGreat
end
section
set_option linter.unusedSimpArgs false
set_option linter.unusedVariables false
namespace Go.Proofs.YtecggbndlbkhdaaGreat
set_option maxRecDepth 100000
open Go.RowKit

theorem within64 (n lo hi : Int) (w : World) : Calls Tryz.prog 180 #[.int .i64 n, .int .i64 lo, .int .i64 hi] w fun e w' => e = .returned (.bool (decide (lo ≤ n) && decide (n ≤ hi))) ∧ w = w' := by
  by_cases h0 : lo ≤ n
  · have d0 : decide (lo ≤ n) = true := by simpa using h0
    by_cases h1 : n ≤ hi
    · have d1 : decide (n ≤ hi) = true := by simpa using h1
      rw [d0, d1]
      go_enter Tryz.func180, Tryz.ntmps180
      go_wp2_with fail
      go_ret
      exact ⟨rfl, rfl⟩
    · have d1 : decide (n ≤ hi) = false := by simpa using h1
      rw [d0, d1]
      go_enter Tryz.func180, Tryz.ntmps180
      go_wp2_with fail
      go_ret
      exact ⟨rfl, rfl⟩
  · have d0 : decide (lo ≤ n) = false := by simpa using h0
    rw [d0]
    go_enter Tryz.func180, Tryz.ntmps180
    go_wp2_with fail
    go_ret
    exact ⟨rfl, rfl⟩
theorem withinI (n lo hi : Int) (w : World) : Calls Tryz.prog 273 #[.int .i64 n, .int .i64 lo, .int .i64 hi] w fun e w' => e = .returned (.bool (decide (lo ≤ n) && decide (n ≤ hi))) ∧ w = w' := by
  by_cases h0 : lo ≤ n
  · have d0 : decide (lo ≤ n) = true := by simpa using h0
    by_cases h1 : n ≤ hi
    · have d1 : decide (n ≤ hi) = true := by simpa using h1
      rw [d0, d1]
      go_enter Tryz.func273, Tryz.ntmps273
      go_wp2_with fail
      go_ret
      exact ⟨rfl, rfl⟩
    · have d1 : decide (n ≤ hi) = false := by simpa using h1
      rw [d0, d1]
      go_enter Tryz.func273, Tryz.ntmps273
      go_wp2_with fail
      go_ret
      exact ⟨rfl, rfl⟩
  · have d0 : decide (lo ≤ n) = false := by simpa using h0
    rw [d0]
    go_enter Tryz.func273, Tryz.ntmps273
    go_wp2_with fail
    go_ret
    exact ⟨rfl, rfl⟩
def okN (v : Int) : Bool := decide (0 ≤ v) && decide (v ≤ 1099511627776)
theorem isnov_any (x : Int) (w : World) :
    Calls Tryz.prog 275 #[.int .i64 x] w fun e w' => e = .returned (.bool (!okN x)) ∧ w = w' := by
  have H := hid (within64 x 0 1099511627776 w)
  unfold okN
  generalize (decide (0 ≤ x) && decide (x ≤ 1099511627776)) = b at *
  go_enter Tryz.func275, Tryz.ntmps275
  go_wp2_with fail
  refine H.out.mono ?_
  rintro e w1 ⟨rfl, rfl⟩
  go_wp2_with fail
  go_ret
  exact ⟨rfl, rfl⟩
theorem nall_hit {l : List Int} {k : Nat} {x : Int} (h : l[k]? = some x) (hx : okN x = false) : l.all okN = false := by
  obtain ⟨hk, rfl⟩ := List.getElem?_eq_some_iff.1 h
  cases hb : l.all okN with
  | false => rfl
  | true => rw [List.all_eq_true] at hb; rw [hb _ (List.getElem_mem hk)] at hx; cases hx
theorem nall_none {l : List Int} (h : ∀ (i : Nat) (x : Int), i < l.length → l[i]? = some x → okN x = true) : l.all okN = true := by
  rw [List.all_eq_true]
  intro x hx
  obtain ⟨i, hi, rfl⟩ := List.mem_iff_getElem.1 hx
  exact h i _ hi (List.getElem?_eq_getElem hi)

set_option maxHeartbeats 800000 in
theorem nindex_any (v : Value) (l : List Int) (w : World) (h : IntsAt w v l) :
    Calls Tryz.prog 337 #[v, .func (.func 275) #[] #[]] w fun e w' => (∃ r : Int, e = .returned (.int .i64 r) ∧ decide (0 ≤ r) = !(l.all okN)) ∧ w = w' := by
  have HI := hid h
  obtain ⟨p, c, rfl⟩ := h.form
  obtain ⟨n, hn⟩ : ∃ n, l.length = n := ⟨_, rfl⟩
  have HN := hid hn
  have hlen := h.len
  rw [hn] at HI hlen ⊢
  unfold maxLen at hlen
  clear h hn
  go_enter Tryz.func337, Tryz.ntmps337
  go_wp2_with fail
  go_loopw [5, 8] (fun _ i wr => ∃ k : Nat, k ≤ n ∧ i = .int .i64 (k : Int) ∧ (∀ (j : Nat) (x : Int), j < k → l[j]? = some x → okN x = true) ∧ w = wr) (fun _ i _ => n - (intOf i).toNat)
  case atStart => exact ⟨0, Nat.zero_le _, rfl, fun j x hj => absurd hj (Nat.not_lt_zero _), rfl⟩
  case round =>
    obtain ⟨k, hk, rfl, ha, rfl⟩ := hrel
    have HA := hid ha
    clear ha
    by_cases hlt : k < n
    · have hkl : k < l.length := by rw [HN.out]; exact hlt
      obtain ⟨ab, ao, rfl, -, hcc, hcell⟩ := HI.out.cell hkl
      have hx := List.getElem?_eq_getElem hkl
      generalize l[k] = y at *
      have HX := hid hx; clear hx
      cases hy : okN y with
      | false =>
        have HB := hid (isnov_any y w)
        rw [hy] at HB
        have HALL := hid (nall_hit HX.out hy)
        clear hy
        go_wp2_with fail
        refine HB.out.mono ?_
        rintro e w1 ⟨rfl, rfl⟩
        go_wp2_with fail
        go_ret
        exact ⟨⟨_, rfl, by rw [HALL.out]; simp⟩, rfl⟩
      | true =>
        have HB := hid (isnov_any y w)
        rw [hy] at HB
        have HY := hid hy
        clear hy
        go_wp2_with fail
        refine HB.out.mono ?_
        rintro e w1 ⟨rfl, rfl⟩
        go_wp2_with fail
        go_roundw
        case rel => exact ⟨k + 1, by omega, by go_num, fun j x hj hjx => by
          rcases Nat.lt_or_ge j k with h1 | h1
          · exact HA.out j x h1 hjx
          · obtain rfl : j = k := by omega
            rw [HX.out] at hjx; cases hjx; exact HY.out, by first | rfl | trivial⟩
        case measure => simp [intOf]; omega
    · obtain rfl : k = n := by omega
      go_wp2_with fail
      go_ret
      exact ⟨⟨_, rfl, by rw [nall_none fun i x hi => HA.out i x (by rw [← HN.out]; exact hi)]; rfl⟩, rfl⟩

theorem ncontains_any (v : Value) (l : List Int) (w : World) (h : IntsAt w v l) :
    Calls Tryz.prog 274 #[v, .func (.func 275) #[] #[]] w fun e w' => e = .returned (.bool (!(l.all okN))) ∧ w = w' := by
  have C1 := hid (nindex_any v l w h)
  obtain ⟨p, c, rfl⟩ := h.form
  generalize l.length = n at *
  generalize l.all okN = b at *
  clear h
  go_enter Tryz.func274, Tryz.ntmps274
  go_wp2_with fail
  refine C1.out.mono ?_
  rintro e w1 ⟨⟨r, rfl, hr⟩, rfl⟩
  clear C1
  go_wp2_with fail
  go_ret
  exact ⟨rfl, rfl⟩

end Go.Proofs.YtecggbndlbkhdaaGreat
end
section
set_option linter.unusedSimpArgs false
set_option linter.unusedVariables false
namespace Go.Proofs.YtecggbndlbkhdaaGreat
set_option maxRecDepth 100000
open Go.RowKit

section
variable {w : World} {X : SBl} {c : Conf} {s : Ste}
theorem sustandings_any (h : StAt w X c s) : Calls Tryz.prog 39 #[.pointer (some ⟨X.b, 0, none⟩)] w (AllS w s.s.H) := by
  obtain ⟨-, -, -, c3, -⟩ := h.cells
  have L0 := hid (scall_any h.score)
  have M0 := hid (sumade_any h)
  unfold AllS at *
  clear h
  go_enter Tryz.func39, Tryz.ntmps39
  go_wp2_with fail
  refine M0.out.mono ?_
  rintro e w2 ⟨rfl, rfl⟩
  go_wp2_with fail
  refine L0.out.mono ?_
  rintro e w2 ⟨v, rfl, ho⟩
  have HO := hid ho
  clear ho
  go_wp2_with fail
  go_ret
  exact ⟨_, rfl, HO.out⟩
end
end Go.Proofs.YtecggbndlbkhdaaGreat
end
section
set_option linter.unusedSimpArgs false
set_option linter.unusedVariables false
namespace Go.Proofs.YtecggbndlbkhdaaGreat
set_option maxRecDepth 100000
open Go.RowKit

theorem pn_all (l : List Int) : pn l = putAll (l.map w64) := by unfold pn putAll; rw [List.flatMap_map]
theorem nxW_pn (x : Int) (r : List Int) : nxW (pn (x :: r)) = w64 x := by
  unfold nxW
  rw [if_pos (by rw [pn_len, List.length_cons]; omega), pn_all]
  have := word_at ((x :: r).map w64) 0 (by simp)
  simpa using this
theorem biN_w64 {x : Int} (h : wf64 x) : biN (w64 x) = x := by
  unfold wf64 at h
  have e : (w64 x).toNat = (x % 18446744073709551616).toNat := by unfold w64; rw [BitVec.toNat_ofInt]; rfl
  have e2 : q (w64 x) = x % 18446744073709551616 := by unfold q; rw [e]; omega
  unfold biN
  rw [e2]
  simp only [IntKind.wrap, IntKind.bits, IntKind.signed]
  simp only [Bool.true_and, decide_eq_true_eq]
  simp
  (repeat' split) <;> omega
theorem nx_pn {x : Int} (r : List Int) (h : wf64 x) : nx (pn (x :: r)) = x := by unfold nx; rw [nxW_pn, biN_w64 h]
theorem nxW_pnb (b : BitVec 64) (r : List Int) : nxW (pn (biN b :: r)) = b := by rw [nxW_pn, w64_biN]
theorem pn_drop (l : List Int) (k : Nat) : (pn l).drop (8 * k) = pn (l.drop k) := by
  rcases Nat.le_total k l.length with h | h
  · conv => lhs; rw [← List.take_append_drop k l, pn_append]
    exact List.drop_left' (by rw [pn_len, List.length_take]; omega)
  · rw [List.drop_eq_nil_of_le (by rw [pn_len]; omega), List.drop_eq_nil_of_le h]; rfl
theorem wf_sm {x : Int} (h0 : 0 ≤ x) (h1 : x ≤ 1099511627776) : wf64 x := by unfold wf64; omega
theorem itN_pn (m k : Nat) (l : List Int) (hk : 0 < k) (h : m * k ≤ l.length) (hm : m < 18446744073709551616) : itN (pn ((m : Int) :: l)) k = m := by
  have e : (w64 (m : Int)).toNat = m := by unfold w64; rw [BitVec.toNat_ofInt]; omega
  have e2 : (pn ((m : Int) :: l)).drop 8 = pn l := pn_drop ((m : Int) :: l) 1
  unfold itN
  rw [nxW_pn, e, e2, pn_len, Nat.mul_div_mul_left _ _ (by omega : 0 < 8)]
  have : m ≤ l.length / k := (Nat.le_div_iff_mul_le hk).2 h
  omega
theorem nxs_pn (a r : List Int) (h : ∀ x ∈ a, wf64 x) : nxs (pn (a ++ r)) a.length = a := by
  refine List.ext_getElem (nxs_len ..) fun i h1 h2 => ?_
  have e := nxs_at (pn (a ++ r)) h2
  rw [pn_drop, List.drop_append_of_le_length (Nat.le_of_lt h2), List.drop_eq_getElem_cons h2, List.cons_append, nx_pn _ (h _ (List.getElem_mem h2))] at e
  rw [List.getElem?_eq_getElem h1] at e
  exact Option.some.inj e
theorem pastL_pn (a r : List Int) (hl : a.length < 18446744073709551616) : pastL (pn ((a.length : Int) :: (a ++ r))) = pn r ∧ itN (pn ((a.length : Int) :: (a ++ r))) 1 = a.length := by
  have e := itN_pn a.length 1 (a ++ r) (by decide) (by rw [List.length_append]; omega) hl
  refine ⟨?_, e⟩
  unfold pastL
  rw [e, show (pn ((a.length : Int) :: (a ++ r))).drop 8 = pn (a ++ r) from pn_drop _ 1, pn_drop, List.drop_left]
theorem ite_step {α : Type} (k j : Nat) (a b : Nat → α) : (if j = k then a k else if j < k then a j else b j) = if j < k + 1 then a j else b j := by
  by_cases h : j = k
  · subst h; rw [if_pos rfl, if_pos (by omega)]
  · rw [if_neg h]
    by_cases h2 : j < k
    · rw [if_pos h2, if_pos (by omega)]
    · rw [if_neg h2, if_neg (by omega)]
/-- as many collectors as the one, the others as the other -/
def Ste.mid (s0 s : Ste) (k : Nat) : Ste :=
  { s0 with
    now := s.now
    g := { s0.g with
      r := { s0.g.r with gen := fun i => if i < k then s.g.r.gen i else s0.g.r.gen i, since := fun i => if i < k then s.g.r.since i else s0.g.r.since i }
      now := fun i => if i < k then s.g.now i else s0.g.now i
      old := fun i => if i < k then s.g.old i else s0.g.old i }
    s := { s0.s with H := s.s.H.take k ++ s0.s.H.drop k } }
section
variable {s0 s : Ste} {c : Conf}
theorem rp_can_own' {r v : Rp} (h : r.Ok) (hw : r.win = v.win) : v.set r.top r.bits = (0, r) := by
  have e := rp_can_own h hw
  rw [toNat_cast h.t0, BitVec.ofNat_toNat, BitVec.setWidth_eq] at e
  unfold Rp.set
  rw [if_pos e, ← hw]
theorem mid_zero : s0.mid s 0 = { s0 with now := s.now } := by
  refine Ste.eq_of rfl rfl ?_ rfl ?_ rfl rfl
  · show ({ s0.g with r := { s0.g.r with gen := fun i => if i < 0 then s.g.r.gen i else s0.g.r.gen i, since := fun i => if i < 0 then s.g.r.since i else s0.g.r.since i }, now := fun i => if i < 0 then s.g.now i else s0.g.now i, old := fun i => if i < 0 then s.g.old i else s0.g.old i } : Gt) = s0.g
    simp only [Nat.not_lt_zero, if_false]
  · show ({ s0.s with H := s.s.H.take 0 ++ s0.s.H.drop 0 } : Sc) = s0.s
    simp
theorem mid_step (hb : Ste.Base s0) (ht : Ste.Tie s0) (h : Ste.Ok s0 s) {k : Nat} (hk : k < s0.p.n) (more : List Int) : (s0.mid s k).setCo k (pn (s.coN k ++ more)) = s0.mid s (k + 1) := by
  have hl : k < s.s.H.length := by rw [h.sl]; exact hk
  have hl0 : k < s0.s.H.length := by rw [hb.ok.sl]; exact hk
  have hh := h.sh _ (List.getElem_mem hl)
  have eg : s.s.H.getD k (true, 0) = s.s.H[k] := by rw [List.getD_eq_getElem?_getD, List.getElem?_eq_getElem hl]; rfl
  have sb := h.sb
  have w1 : wf64 (standH s.s.H[k]).1 := by
    unfold standH wf64
    generalize s.s.H[k] = z at *
    obtain ⟨b, z⟩ := z
    cases b
    · have h1 := hh.2.2 rfl; have h0 := hh.1; dsimp only at h0 h1 ⊢; rw [if_neg (by decide)]; dsimp only; omega
    · rw [if_pos rfl]; dsimp only; omega
  have w2 : wf64 (standH s.s.H[k]).2.1 := by
    unfold standH wf64
    generalize s.s.H[k] = z at *
    obtain ⟨b, z⟩ := z
    cases b
    · dsimp only; rw [if_neg (by decide)]; dsimp only; omega
    · have h1 := hh.2.1 rfl; have h0 := hh.1; dsimp only at h0 h1 ⊢; rw [if_pos rfl]; dsimp only; omega
  have eC : s.coN k ++ more = s.g.r.gen k :: s.g.r.since k :: (s.g.now k).top :: biN (s.g.now k).bits :: (s.g.old k).top :: biN (s.g.old k).bits :: (standH s.s.H[k]).1 :: (standH s.s.H[k]).2.1 :: (if (standH s.s.H[k]).2.2 = true then 1 else 0) :: more := by
    unfold Ste.coN
    rw [eg]
    rfl
  rw [eC]
  have r0 := nx_pn (s.g.r.since k :: (s.g.now k).top :: biN (s.g.now k).bits :: (s.g.old k).top :: biN (s.g.old k).bits :: (standH s.s.H[k]).1 :: (standH s.s.H[k]).2.1 :: (if (standH s.s.H[k]).2.2 = true then 1 else 0) :: more) (wf_sm (h.rok.e0 k) (by have := h.rok.e1 k; omega))
  have r1 := nx_pn ((s.g.now k).top :: biN (s.g.now k).bits :: (s.g.old k).top :: biN (s.g.old k).bits :: (standH s.s.H[k]).1 :: (standH s.s.H[k]).2.1 :: (if (standH s.s.H[k]).2.2 = true then 1 else 0) :: more) (wf_sm (h.rok.s0 k) (h.rok.s1 k))
  have r2 := nx_pn (biN (s.g.now k).bits :: (s.g.old k).top :: biN (s.g.old k).bits :: (standH s.s.H[k]).1 :: (standH s.s.H[k]).2.1 :: (if (standH s.s.H[k]).2.2 = true then 1 else 0) :: more) (wf_sm (h.nok k).t0 (h.nok k).t1)
  have r3 := nxW_pnb (s.g.now k).bits ((s.g.old k).top :: biN (s.g.old k).bits :: (standH s.s.H[k]).1 :: (standH s.s.H[k]).2.1 :: (if (standH s.s.H[k]).2.2 = true then 1 else 0) :: more)
  have r4 := nx_pn (biN (s.g.old k).bits :: (standH s.s.H[k]).1 :: (standH s.s.H[k]).2.1 :: (if (standH s.s.H[k]).2.2 = true then 1 else 0) :: more) (wf_sm (h.ook k).t0 (h.ook k).t1)
  have r5 := nxW_pnb (s.g.old k).bits ((standH s.s.H[k]).1 :: (standH s.s.H[k]).2.1 :: (if (standH s.s.H[k]).2.2 = true then 1 else 0) :: more)
  have r6 := nx_pn ((standH s.s.H[k]).2.1 :: (if (standH s.s.H[k]).2.2 = true then 1 else 0) :: more) w1
  have r7 := nx_pn ((if (standH s.s.H[k]).2.2 = true then 1 else 0) :: more) w2
  have r8 : (nx (pn ((if (standH s.s.H[k]).2.2 = true then (1 : Int) else 0) :: more)) == 1) = (standH s.s.H[k]).2.2 := by
    cases (standH s.s.H[k]).2.2
    · rw [nx_pn _ (by unfold wf64; decide)]; decide
    · rw [nx_pn _ (by unfold wf64; decide)]; decide
  generalize hL : (s.g.r.gen k :: s.g.r.since k :: (s.g.now k).top :: biN (s.g.now k).bits :: (s.g.old k).top :: biN (s.g.old k).bits :: (standH s.s.H[k]).1 :: (standH s.s.H[k]).2.1 :: (if (standH s.s.H[k]).2.2 = true then (1 : Int) else 0) :: more) = L at r0 ⊢
  have d1 : (pn L).drop 8 = pn (L.drop 1) := pn_drop L 1
  have d2 : (pn L).drop 16 = pn (L.drop 2) := pn_drop L 2
  have d3 : (pn L).drop 24 = pn (L.drop 3) := pn_drop L 3
  have d4 : (pn L).drop 32 = pn (L.drop 4) := pn_drop L 4
  have d5 : (pn L).drop 40 = pn (L.drop 5) := pn_drop L 5
  have d6 : (pn L).drop 48 = pn (L.drop 6) := pn_drop L 6
  have d7 : (pn L).drop 56 = pn (L.drop 7) := pn_drop L 7
  have d8 : (pn L).drop 64 = pn (L.drop 8) := pn_drop L 8
  unfold Ste.setCo
  rw [d1, d2, d3, d4, d5, d6, d7, d8, r0]
  rw [← hL]
  simp only [List.drop_succ_cons, List.drop_zero]
  rw [r1, r2, r3, r4, r5, r6, r7, r8]
  refine Ste.eq_of rfl rfl ?_ rfl ?_ rfl rfl
  · have hR : ((s0.mid s k).g.r.set (k : Int) (s.g.r.gen k) (s.g.r.since k)).2 = (s0.mid s (k + 1)).g.r := by
      unfold Rg.set
      rw [if_pos ⟨by omega, by show (k : Int) < (s0.g.r.n : Int); rw [ht.gn]; omega⟩, if_pos ⟨h.rok.e0 k, h.rok.e1 k, h.rok.s0 k, h.rok.s1 k⟩, Int.toNat_natCast]
      show ({ s0.g.r with gen := fun j => if j = k then s.g.r.gen k else if j < k then s.g.r.gen j else s0.g.r.gen j, since := fun j => if j = k then s.g.r.since k else if j < k then s.g.r.since j else s0.g.r.since j } : Rg) = { s0.g.r with gen := fun j => if j < k + 1 then s.g.r.gen j else s0.g.r.gen j, since := fun j => if j < k + 1 then s.g.r.since j else s0.g.r.since j }
      rw [show (fun j => if j = k then s.g.r.gen k else if j < k then s.g.r.gen j else s0.g.r.gen j) = fun j => if j < k + 1 then s.g.r.gen j else s0.g.r.gen j from funext fun j => ite_step k j s.g.r.gen s0.g.r.gen,
        show (fun j => if j = k then s.g.r.since k else if j < k then s.g.r.since j else s0.g.r.since j) = fun j => if j < k + 1 then s.g.r.since j else s0.g.r.since j from funext fun j => ite_step k j s.g.r.since s0.g.r.since]
    have hN : (((s0.mid s k).g.now k).set (s.g.now k).top (s.g.now k).bits).2 = s.g.now k := by
      rw [show (s0.mid s k).g.now k = s0.g.now k from if_neg (Nat.lt_irrefl k), rp_can_own' (h.nok k) (h.nw k)]
    have hO : (((s0.mid s k).g.old k).set (s.g.old k).top (s.g.old k).bits).2 = s.g.old k := by
      rw [show (s0.mid s k).g.old k = s0.g.old k from if_neg (Nat.lt_irrefl k), rp_can_own' (h.ook k) (h.ow k)]
    dsimp only
    rw [hR, hN, hO]
    show ({ s0.g with r := (s0.mid s (k + 1)).g.r, now := fun j => if j = k then s.g.now k else if j < k then s.g.now j else s0.g.now j, old := fun j => if j = k then s.g.old k else if j < k then s.g.old j else s0.g.old j } : Gt) = { s0.g with r := (s0.mid s (k + 1)).g.r, now := fun j => if j < k + 1 then s.g.now j else s0.g.now j, old := fun j => if j < k + 1 then s.g.old j else s0.g.old j }
    rw [show (fun j => if j = k then s.g.now k else if j < k then s.g.now j else s0.g.now j) = fun j => if j < k + 1 then s.g.now j else s0.g.now j from funext fun j => ite_step k j s.g.now s0.g.now,
      show (fun j => if j = k then s.g.old k else if j < k then s.g.old j else s0.g.old j) = fun j => if j < k + 1 then s.g.old j else s0.g.old j from funext fun j => ite_step k j s.g.old s0.g.old]
  · have hc : cntOf s0.s.st s0.s.pr (standH s.s.H[k]).1 (standH s.s.H[k]).2.1 (standH s.s.H[k]).2.2 = some (s.s.H[k]).2 ∧ (standH s.s.H[k]).2.2 = (s.s.H[k]).1 := by
      generalize s.s.H[k] = z at *
      obtain ⟨b, z⟩ := z
      cases b
      · have h1 := hh.2.2 rfl; have h0 := hh.1; dsimp only at h0 h1
        show cntOf s0.s.st s0.s.pr z 0 false = some z ∧ false = false
        unfold cntOf
        exact ⟨by rw [if_neg (by decide), if_pos ⟨rfl, h0, h1⟩], rfl⟩
      · have h1 := hh.2.1 rfl; have h0 := hh.1; dsimp only at h0 h1
        show cntOf s0.s.st s0.s.pr 0 z true = some z ∧ true = true
        unfold cntOf
        exact ⟨by rw [if_pos rfl, if_pos ⟨rfl, h0, h1⟩], rfl⟩
    show (s0.mid s k).s.setH k _ _ _ = _
    unfold Sc.setH
    rw [show (s0.mid s k).s.st = s0.s.st from rfl, show (s0.mid s k).s.pr = s0.s.pr from rfl, hc.1, hc.2]
    show (⟨(s.s.H.take k ++ s0.s.H.drop k).set k (s.s.H[k].1, s.s.H[k].2), s0.s.st, s0.s.pr, s0.s.far⟩ : Sc) = ⟨s.s.H.take (k + 1) ++ s0.s.H.drop (k + 1), s0.s.st, s0.s.pr, s0.s.far⟩
    have e : (s.s.H.take k ++ s0.s.H.drop k).set k s.s.H[k] = s.s.H.take (k + 1) ++ s0.s.H.drop (k + 1) := by
      have hlk : (s.s.H.take k).length = k := by rw [List.length_take]; omega
      rw [List.set_append, if_neg (by omega), hlk, Nat.sub_self, List.drop_eq_getElem_cons hl0, List.set_cons_zero, List.take_succ_eq_append_getElem hl, List.append_assoc]
      rfl
    rw [show ((s.s.H[k].1, s.s.H[k].2) : Hd) = s.s.H[k] from rfl, e]
theorem coN_drop (s : Ste) (n : Nat) (rest : List Int) : ∀ k, k < n → ((List.range n).flatMap s.coN ++ rest).drop (9 * k) = s.coN k ++ (((List.range n).drop (k + 1)).flatMap s.coN ++ rest) := by
  intro k hk
  have e1 : (List.range n) = List.range k ++ (List.range n).drop k := by
    conv => lhs; rw [← List.take_append_drop k (List.range n)]
    rw [List.take_range, Nat.min_eq_left (by omega)]
  have e2 : (List.range n).drop k = k :: (List.range n).drop (k + 1) := by
    have := List.drop_eq_getElem_cons (l := List.range n) (i := k) (by rw [List.length_range]; exact hk)
    rw [List.getElem_range] at this
    exact this
  conv => lhs; rw [e1, List.flatMap_append, List.append_assoc]
  rw [List.drop_left' (by rw [coN_len]; omega), e2, List.flatMap_cons, List.append_assoc]
theorem setCos_own (hb : Ste.Base s0) (ht : Ste.Tie s0) (h : Ste.Ok s0 s) (rest : List Int) : ∀ k, k ≤ s0.p.n → ({ s0 with now := s.now } : Ste).setCos (pn ((List.range s0.p.n).flatMap s.coN ++ rest)) k = s0.mid s k
  | 0, _ => mid_zero.symm
  | k + 1, hk => by
    show (Ste.setCos _ _ k).setCo k _ = _
    rw [setCos_own hb ht h rest k (by omega), show 72 * k = 8 * (9 * k) by omega, pn_drop, coN_drop s _ rest k (by omega), mid_step hb ht h (by omega)]
theorem mid_all (hb : Ste.Base s0) (h : Ste.Ok s0 s) : s0.mid s s0.p.n = { s0 with now := s.now, g := s.g, s := s.s } := by
  refine Ste.eq_of rfl rfl ?_ rfl ?_ rfl rfl
  · have e1 : (fun i => if i < s0.p.n then s.g.r.gen i else s0.g.r.gen i) = s.g.r.gen := funext fun i => by
      split
      · rfl
      · exact (h.out i (by omega)).1.symm
    have e2 : (fun i => if i < s0.p.n then s.g.r.since i else s0.g.r.since i) = s.g.r.since := funext fun i => by
      split
      · rfl
      · exact (h.out i (by omega)).2.1.symm
    have e3 : (fun i => if i < s0.p.n then s.g.now i else s0.g.now i) = s.g.now := funext fun i => by
      split
      · rfl
      · exact (h.out i (by omega)).2.2.1.symm
    have e4 : (fun i => if i < s0.p.n then s.g.old i else s0.g.old i) = s.g.old := funext fun i => by
      split
      · rfl
      · exact (h.out i (by omega)).2.2.2.symm
    show ({ s0.g with r := { s0.g.r with gen := fun i => if i < s0.p.n then s.g.r.gen i else s0.g.r.gen i, since := fun i => if i < s0.p.n then s.g.r.since i else s0.g.r.since i }, now := fun i => if i < s0.p.n then s.g.now i else s0.g.now i, old := fun i => if i < s0.p.n then s.g.old i else s0.g.old i } : Gt) = s.g
    rw [e1, e2, e3, e4]
    exact h.gr.symm
  · show ({ s0.s with H := s.s.H.take s0.p.n ++ s0.s.H.drop s0.p.n } : Sc) = s.s
    rw [List.take_of_length_le (Nat.le_of_eq h.sl), List.drop_eq_nil_of_le (Nat.le_of_eq hb.ok.sl), List.append_nil]
    have hs := h.ss
    show (⟨s.s.H, s0.s.st, s0.s.pr, s0.s.far⟩ : Sc) = s.s
    rw [← hs.1, ← hs.2.1, ← hs.2.2]
/-- what law.New makes is of this state's configuration -/
def LawB (s0 : Ste) (lf : Int → Option La) : Prop := ∀ x, s0.l.po.r.mn ≤ x → x ≤ s0.l.po.r.mx → ∃ L, lf x = some L ∧ L = { s0.l with ca := { s0.l.ca with l := L.ca.l }, po := { s0.l.po with l := L.po.l }, n := x }
theorem law_own (h : Ste.Ok s0 s) {L : La} (e : L = { s0.l with ca := { s0.l.ca with l := L.ca.l }, po := { s0.l.po with l := L.po.l }, n := s.l.n }) : La.get L s.l.ca.l s.l.po.l = s.l := by
  have hr := h.lr
  have hc : L.ca.mayset s.l.ca.l = true := by
    have h1 := h.lok.ca.n; have h2 := h.lok.ca.m
    rw [hr] at h1
    rw [e]
    unfold Ca.mayset
    simp only [Bool.and_eq_true, decide_eq_true_iff, List.all_eq_true]
    exact ⟨h1, h2⟩
  have hp : L.po.mayset s.l.po.l = true := by
    have h1 := h.lok.po.n; have h2 := h.lok.po.m; have h3 := h.lok.po.ne
    rw [e]
    have er : s.l.po.r = s0.l.po.r := by rw [hr]
    rw [er] at h1 h2
    unfold Po.mayset Po.in
    simp only [Bool.and_eq_true, decide_eq_true_iff, List.all_eq_true]
    exact ⟨⟨h2, List.length_pos_iff.2 h3⟩, h1⟩
  unfold La.get Ca.put Po.putl
  rw [if_pos hc, if_pos hp]
  generalize s.l = l at *
  obtain ⟨t1, t2, ⟨t3, t4, t5⟩, ⟨t6, t7⟩, t8⟩ := l
  obtain ⟨u1, u2, ⟨u3, u4, u5⟩, ⟨u6, u7⟩, u8⟩ := L
  generalize s0.l = l0 at *
  obtain ⟨v1, v2, ⟨v3, v4, v5⟩, ⟨v6, v7⟩, v8⟩ := l0
  dsimp only at e hr ⊢
  cases e
  cases hr
  rfl
theorem ins_last {L : List Sm} (h : Srt L) {k : Nat} (hk : k < L.length) : ins L[k] (L.take k) = L.take (k + 1) ∧ ¬ There (L.take k) L[k].pl := by
  have hn : ¬ There (L.take k) L[k].pl := by
    rintro ⟨y, hy, e⟩
    obtain ⟨j, hj, rfl⟩ := List.getElem_of_mem hy
    have hj' : j < k := by rw [List.length_take] at hj; omega
    rw [List.getElem_take] at e
    exact (List.pairwise_iff_getElem.1 h.ne) j k (by omega) hk hj' e
  refine ⟨?_, hn⟩
  have hs : Srt (L.take k) := h.sublist (List.take_sublist _ _)
  have hlk : (L.take k).length = k := by rw [List.length_take]; omega
  have := ins_at hs hn (k := (L.take k).length) (Nat.le_refl _) (fun i hi h2 => absurd hi (by omega)) (fun i hi h2 => by
    rw [List.getElem_take]
    exact (List.pairwise_iff_getElem.1 h) i k (by omega) hk (by omega))
  rw [← this, List.take_of_length_le (Nat.le_refl _), List.drop_eq_nil_of_le (Nat.le_refl _), List.take_succ_eq_append_getElem hk]
theorem saN_drop (L : List Sm) (rest : List Int) (k : Nat) (hk : k < L.length) : (L.flatMap saN ++ rest).drop (4 * k) = saN L[k] ++ ((L.drop (k + 1)).flatMap saN ++ rest) := by
  conv => lhs; rw [← List.take_append_drop k L, List.flatMap_append, List.append_assoc]
  rw [List.drop_left' (by rw [saN_len, List.length_take]; omega), List.drop_eq_getElem_cons hk, List.flatMap_cons, List.append_assoc]
theorem deN_drop (L : List Dc) (rest : List Int) (k : Nat) (hk : k < L.length) : (L.flatMap deN ++ rest).drop (8 * k) = deN L[k] ++ ((L.drop (k + 1)).flatMap deN ++ rest) := by
  conv => lhs; rw [← List.take_append_drop k L, List.flatMap_append, List.append_assoc]
  rw [List.drop_left' (by rw [deN_len, List.length_take]; omega), List.drop_eq_getElem_cons hk, List.flatMap_cons, List.append_assoc]
theorem smR_pn {x : Sm} (h1 : wf64 x.ep) (h2 : wf64 x.met) (h3 : wf64 x.who) (h4 : wf64 x.val) (more : List Int) : smR (pn (saN x ++ more)) = x := by
  unfold smR
  have e0 : saN x ++ more = x.ep :: x.met :: x.who :: x.val :: more := rfl
  rw [e0, show (pn (x.ep :: x.met :: x.who :: x.val :: more)).drop 8 = pn (x.met :: x.who :: x.val :: more) from pn_drop _ 1, show (pn (x.ep :: x.met :: x.who :: x.val :: more)).drop 16 = pn (x.who :: x.val :: more) from pn_drop _ 2,
    show (pn (x.ep :: x.met :: x.who :: x.val :: more)).drop 24 = pn (x.val :: more) from pn_drop _ 3, nx_pn _ h1, nx_pn _ h2, nx_pn _ h3, nx_pn _ h4]
theorem dcR_pn {lo hi : Int} {d : Dc} (h : d.Ok lo hi) (h0 : 0 ≤ lo) (h1 : hi ≤ 10000) (more : List Int) : dcR (pn (deN d ++ more)) = d := by
  unfold dcR
  obtain ⟨a0, a1, a2, a3, a4, a5, a6, a7⟩ := d
  have e0 : deN ⟨a0, a1, a2, a3, a4, a5, a6, a7⟩ ++ more = a0 :: a1 :: a2 :: (if a3 = true then 1 else 0) :: a4 :: a5 :: a6 :: a7 :: more := rfl
  have g0 := h.ep; have g1 := h.rep; have g2 := h.want; have g4 := h.v0; have g5 := h.v1; have g6 := h.v2; have g7 := h.v3
  dsimp only at g0 g1 g2 g4 g5 g6 g7
  rw [e0]
  generalize hL : a0 :: a1 :: a2 :: (if a3 = true then (1 : Int) else 0) :: a4 :: a5 :: a6 :: a7 :: more = L
  have d1 : (pn L).drop 8 = pn (L.drop 1) := pn_drop L 1
  have d2 : (pn L).drop 16 = pn (L.drop 2) := pn_drop L 2
  have d3 : (pn L).drop 24 = pn (L.drop 3) := pn_drop L 3
  have d4 : (pn L).drop 32 = pn (L.drop 4) := pn_drop L 4
  have d5 : (pn L).drop 40 = pn (L.drop 5) := pn_drop L 5
  have d6 : (pn L).drop 48 = pn (L.drop 6) := pn_drop L 6
  have d7 : (pn L).drop 56 = pn (L.drop 7) := pn_drop L 7
  rw [d1, d2, d3, d4, d5, d6, d7, ← hL]
  simp only [List.drop_succ_cons, List.drop_zero]
  have r3 : (nx (pn ((if a3 = true then (1 : Int) else 0) :: a4 :: a5 :: a6 :: a7 :: more)) == 1) = a3 := by
    cases a3
    · rw [nx_pn _ (by unfold wf64; decide)]; decide
    · rw [nx_pn _ (by unfold wf64; decide)]; decide
  rw [r3, nx_pn _ (wf_sm g0.1 g0.2), nx_pn _ (wf_sm (by omega) (by omega)), nx_pn _ (wf_sm g2.1 (by omega)), nx_pn _ (wf_sm g4.1 g4.2), nx_pn _ (wf_sm g5.1 g5.2), nx_pn _ (wf_sm g6.1 g6.2), nx_pn _ (wf_sm g7.1 g7.2)]
theorem setSa_succ (c : Conf) (s : Ste) (B : List UInt8) (k : Nat) : s.setSa c B (k + 1) = { s.setSa c B k with t := putT c.n c.m c.fresh (s.setSa c B k).t (smR (B.drop (32 * k))) (s.setSa c B k).now } := rfl
theorem setDe_succ (s : Ste) (B : List UInt8) (k : Nat) : s.setDe B (k + 1) = { s.setDe B k with ds := keep64 ((s.setDe B k).ds ++ [dcR (B.drop (64 * k))]) } := rfl
/-- the samples -/
theorem setSa_own (hO : SuOf c s0) (h : Ste.Ok s0 s) (z : Ste) (hz : z.t = []) (hn : z.now = s.now) (rest : List Int) : ∀ k, k ≤ s.t.length → z.setSa c (pn (s.t.flatMap saN ++ rest)) k = { z with t := s.t.take k }
  | 0, _ => by
    show z = _
    rw [List.take_zero, ← hz]
  | k + 1, hk => by
    have hkl : k < s.t.length := hk
    have hb := h.tb _ (List.getElem_mem hkl)
    have hn0 := h.n0
    have hpb := h.pb
    have hx : smR ((pn (s.t.flatMap saN ++ rest)).drop (32 * k)) = s.t[k] := by
      rw [show 32 * k = 8 * (4 * k) by omega, pn_drop, saN_drop _ _ _ hkl]
      exact smR_pn (wf_sm (by omega) hb.2.2) (wf_sm hb.1.2.2.1 (by omega)) (wf_sm hb.1.1 (by omega)) (wf_sm hb.1.2.2.2.2.1 hb.1.2.2.2.2.2) _
    obtain ⟨i1, i2⟩ := ins_last h.t hkl
    rw [setSa_succ, setSa_own hO h z hz hn rest k (by omega), hx]
    show ({ z with t := putT c.n c.m c.fresh (s.t.take k) s.t[k] z.now } : Ste) = _
    have hm : mayT c.n c.m c.fresh (s.t.take k) s.t[k] z.now = 0 := by
      unfold mayT
      rw [hO.n, hO.m, hO.fr, hn, if_neg (Classical.not_not.2 hb.1), if_neg (Classical.not_not.2 hb.2.1), if_neg i2]
    unfold putT
    rw [if_pos hm, i1]
/-- the decisions -/
theorem setDe_own (h : Ste.Ok s0 s) (hl0 : 0 ≤ s0.l.po.r.mn) (hl1 : s0.l.po.r.mx ≤ 10000) (z : Ste) (hz : z.ds = []) (rest : List Int) : ∀ k, k ≤ s.ds.length → z.setDe (pn (s.ds.flatMap deN ++ rest)) k = { z with ds := s.ds.take k }
  | 0, _ => by
    show z = _
    rw [List.take_zero, ← hz]
  | k + 1, hk => by
    have hkl : k < s.ds.length := hk
    have hx : dcR ((pn (s.ds.flatMap deN ++ rest)).drop (64 * k)) = s.ds[k] := by
      rw [show 64 * k = 8 * (8 * k) by omega, pn_drop, deN_drop _ _ _ hkl]
      exact dcR_pn (h.d _ (List.getElem_mem hkl)) hl0 hl1 _
    rw [setDe_succ, setDe_own h hl0 hl1 z hz rest k (by omega), hx]
    show ({ z with ds := keep64 (s.ds.take k ++ [s.ds[k]]) } : Ste) = _
    have e : s.ds.take k ++ [s.ds[k]] = s.ds.take (k + 1) := (List.take_succ_eq_append_getElem hkl).symm
    have hdl := h.dl
    unfold keep64
    rw [e, show (s.ds.take (k + 1)).length - 64 = 0 by rw [List.length_take]; omega, List.drop_zero]
theorem nums_eq (s : Ste) : s.nums = s.now :: ((List.range s.p.n).flatMap s.coN ++ ((s.l.ca.l.length : Int) :: (s.l.ca.l ++ ((s.l.po.l.length : Int) :: (s.l.po.l ++ (s.l.n :: ((s.t.length : Int) :: (s.t.flatMap saN ++ ((s.ds.length : Int) :: (s.ds.flatMap deN ++ [])))))))))) := by
  unfold Ste.nums
  simp
/-- what is read of a state's own bytes is that state -/
theorem setAll_own (hO : SuOf c s0) (h : Ste.Ok s0 s) {lf : Int → Option La} (hlf : LawB s0 lf) : s0.setAll c s0.p.n lf s.bytes = s := by
  have hb := hO.base
  have ht := hO.tie
  have hz := hO.zero
  have hpn : s.p.n = s0.p.n := by rw [h.p]
  have hmn := hb.ok.lok.po.r.mn
  have hmx := hb.ok.lok.po.r.mx
  have her : s.l.po.r = s0.l.po.r := by rw [h.lr]
  have hln := h.lok.n
  rw [her] at hln
  have hca := h.lok.ca
  have h1 := hca.n; have h2 := hca.u; have h3 := hca.d
  have hpo := h.lok.po
  have h4 := hpo.n; have h5 := hpo.r.per
  have hm : s.l.ca.most ≤ 100 := by unfold Ca.most; omega
  have hsl : s.t.length ≤ 512 := srt_len (now := s.now) h.t fun x hx => by
    have h1 := h.tb x hx
    have h2 := h.pb
    have h3 := hb.fr
    omega
  have hdl := h.dl
  rw [← pn_bytes hO h, nums_eq, hpn]
  obtain ⟨R4, hR4⟩ : ∃ R4, s.ds.flatMap deN ++ ([] : List Int) = R4 := ⟨_, rfl⟩
  obtain ⟨R3, hR3⟩ : ∃ R3, s.t.flatMap saN ++ ((s.ds.length : Int) :: R4) = R3 := ⟨_, rfl⟩
  obtain ⟨R2, hR2⟩ : ∃ R2, s.l.po.l ++ (s.l.n :: ((s.t.length : Int) :: R3)) = R2 := ⟨_, rfl⟩
  obtain ⟨R1, hR1⟩ : ∃ R1, s.l.ca.l ++ ((s.l.po.l.length : Int) :: R2) = R1 := ⟨_, rfl⟩
  rw [hR4, hR3, hR2, hR1]
  obtain ⟨R0, hR0⟩ : ∃ R0, (List.range s0.p.n).flatMap s.coN ++ ((s.l.ca.l.length : Int) :: R1) = R0 := ⟨_, rfl⟩
  rw [hR0]
  have x0 : nx (pn (s.now :: R0)) = s.now := nx_pn _ (wf_sm h.n0 h.n1)
  have y0 : (pn (s.now :: R0)).drop 8 = pn R0 := pn_drop _ 1
  have y1 : (pn R0).drop (72 * s0.p.n) = pn ((s.l.ca.l.length : Int) :: R1) := by
    rw [show 72 * s0.p.n = 8 * (9 * s0.p.n) by omega, pn_drop, ← hR0, List.drop_left' (by rw [coN_len]; omega)]
  have wfc : ∀ x ∈ s.l.ca.l, wf64 x := fun x hx => by have := hca.m x hx; exact wf_sm this.1 (by omega)
  have wfp : ∀ x ∈ s.l.po.l, wf64 x := fun x hx => by have := hpo.m x hx; rw [her] at this; exact wf_sm (by omega) (by omega)
  obtain ⟨y2, i2⟩ := pastL_pn s.l.ca.l ((s.l.po.l.length : Int) :: R2) (by omega)
  rw [hR1] at y2 i2
  obtain ⟨y3, i3⟩ := pastL_pn s.l.po.l (s.l.n :: ((s.t.length : Int) :: R3)) (by omega)
  rw [hR2] at y3 i3
  have y4 : (pn (s.l.n :: ((s.t.length : Int) :: R3))).drop 8 = pn ((s.t.length : Int) :: R3) := pn_drop _ 1
  have i4 : itN (pn ((s.t.length : Int) :: R3)) 4 = s.t.length := itN_pn _ _ _ (by decide) (by rw [← hR3, List.length_append, saN_len]; omega) (by omega)
  have y5 : (pn ((s.t.length : Int) :: R3)).drop 8 = pn R3 := pn_drop _ 1
  have y6 : pastS (pn ((s.t.length : Int) :: R3)) = pn ((s.ds.length : Int) :: R4) := by
    unfold pastS
    rw [i4, y5, show 32 * s.t.length = 8 * (4 * s.t.length) by omega, pn_drop, ← hR3, List.drop_left' (by rw [saN_len]; omega)]
  have i6 : itN (pn ((s.ds.length : Int) :: R4)) 8 = s.ds.length := itN_pn _ _ _ (by decide) (by rw [← hR4, List.length_append, deN_len]; omega) (by omega)
  have y7 : (pn ((s.ds.length : Int) :: R4)).drop 8 = pn R4 := pn_drop _ 1
  unfold Ste.setAll
  rw [x0, y0, y1, y2, y3, y4, i4, y5, y6, i6, y7]
  have z1 : ({ s0 with now := s.now } : Ste).setCos (pn R0) s0.p.n = { s0 with now := s.now, g := s.g, s := s.s } := by
    rw [← hR0, setCos_own hb ht h _ _ (Nat.le_refl _), mid_all hb h]
  rw [z1]
  have z2 : ({ s0 with now := s.now, g := s.g, s := s.s } : Ste).setLa lf (pn ((s.l.ca.l.length : Int) :: R1)) = { s0 with now := s.now, g := s.g, s := s.s, l := s.l } := by
    obtain ⟨L, e1, e2⟩ := hlf s.l.n hln.1 hln.2
    unfold Ste.setLa
    rw [y2, y3, i2, i3, show (pn ((s.l.ca.l.length : Int) :: R1)).drop 8 = pn R1 from pn_drop _ 1, show (pn ((s.l.po.l.length : Int) :: R2)).drop 8 = pn R2 from pn_drop _ 1, nx_pn _ (wf_sm (by omega) (by omega)), e1, ← hR1, nxs_pn _ _ wfc, ← hR2, nxs_pn _ _ wfp]
    show ({ s0 with now := s.now, g := s.g, s := s.s, l := La.get L s.l.ca.l s.l.po.l } : Ste) = _
    rw [law_own h e2]
  rw [z2, ← hR3, setSa_own hO h { s0 with now := s.now, g := s.g, s := s.s, l := s.l } hz.2.1 rfl _ _ (Nat.le_refl _), List.take_of_length_le (Nat.le_refl _), ← hR4, setDe_own h (by omega) (by omega) { s0 with now := s.now, g := s.g, s := s.s, l := s.l, t := s.t } hz.2.2 _ _ (Nat.le_refl _), List.take_of_length_le (Nat.le_refl _)]
  exact Ste.eq_of h.p.symm rfl rfl rfl rfl rfl rfl
end
end Go.Proofs.YtecggbndlbkhdaaGreat
end
