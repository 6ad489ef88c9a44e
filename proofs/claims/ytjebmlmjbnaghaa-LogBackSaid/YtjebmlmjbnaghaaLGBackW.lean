/-
  The walk of the statement LogBack: a cell comes back from its bytes; with one byte spoilt it is not whole, or its sum is wrong. No condition.
-/
import Derived.Test.YtjebmlmjbnaghaaLgN
import Derived.Test.YtjebmlmjbnaghaaXor
set_option linter.unusedSimpArgs false
set_option linter.unusedVariables false
namespace Go.Proofs.Ytjebmlmjbnaghaa.lgback
set_option maxRecDepth 100000
open Go.RowKit

theorem cO_cells {W : World} {b : Nat} {c : Cl} {v : Value} (h : W.heap[b]? = some (cO c v)) : W.cell? ⟨b, 0, none⟩ = some (.int .u32 (c.pass : Int)) ∧ W.cell? ⟨b, 1, none⟩ = some (.int .i64 (c.place : Int)) ∧ W.cell? ⟨b, 2, none⟩ = some (.int .i64 (c.kind : Int)) ∧ W.cell? ⟨b, 3, none⟩ = some v :=
  ⟨at_cell h 0, at_cell h 1, at_cell h 2, at_cell h 3⟩
theorem lC_cells {W : World} {b : Nat} {p q k v : Value} (h : W.heap[b]? = some (.cells #[p, q, k, v] 31)) : W.cell? ⟨b, 0, none⟩ = some p ∧ W.cell? ⟨b, 1, none⟩ = some q ∧ W.cell? ⟨b, 2, none⟩ = some k ∧ W.cell? ⟨b, 3, none⟩ = some v :=
  ⟨at_cell h 0, at_cell h 1, at_cell h 2, at_cell h 3⟩
/-- a byte of a cell's is turned -/
theorem spoilt_got {c : Cl} (h : c.May) {k : Nat} (hk : k < 64) (t : UInt8) :
    (t = 0 → (putL c).set k ((putL c).getD k 0 ^^^ t) = putL c) ∧
    (t ≠ 0 → gotL ((putL c).set k ((putL c).getD k 0 ^^^ t)) = zeroC ∧ (gotW ((putL c).set k ((putL c).getD k 0 ^^^ t)) = false ∧ gotC ((putL c).set k ((putL c).getD k 0 ^^^ t)) = 0 ∨ gotW ((putL c).set k ((putL c).getD k 0 ^^^ t)) = true ∧ gotC ((putL c).set k ((putL c).getD k 0 ^^^ t)) = 12)) := by
  have hl := putL_len h.d
  constructor
  · rintro rfl
    rw [show (putL c).getD k 0 ^^^ 0 = (putL c).getD k 0 by simp]
    apply List.ext_getElem?
    intro i
    rw [List.getElem?_set]
    split
    · next e =>
      subst e
      rw [if_pos (by rw [hl]; exact hk), List.getD_eq_getElem?_getD, List.getElem?_eq_getElem (by rw [hl]; exact hk)]; rfl
    · rfl
  · intro ht
    have hne : (putL c).getD k 0 ^^^ t ≠ (putL c).getD k 0 := fun e => ht (by
      have h2 : ((putL c).getD k 0 ^^^ t) ^^^ (putL c).getD k 0 = (putL c).getD k 0 ^^^ (putL c).getD k 0 := by rw [e]
      rw [UInt8.xor_comm _ t, UInt8.xor_assoc, UInt8.xor_self] at h2
      simpa using h2)
    have hg : goodL ((putL c).set k ((putL c).getD k 0 ^^^ t)) = false := by
      rw [Bool.eq_false_iff]
      intro hg
      obtain ⟨d, hd, e⟩ := (good_iff _).1 hg
      exact put_spoilt h hk hne hd e.symm
    have hl2 : ((putL c).set k ((putL c).getD k 0 ^^^ t)).length = 64 := by rw [List.length_set]; exact hl
    generalize (putL c).set k ((putL c).getD k 0 ^^^ t) = L at *
    refine ⟨by unfold gotL; rw [hg, Bool.and_false]; rfl, ?_⟩
    unfold gotC
    rw [if_pos hl2, hg]
    cases gotW L
    · exact .inl ⟨rfl, rfl⟩
    · exact .inr ⟨rfl, rfl⟩
set_option maxHeartbeats 6400000 in
theorem in_walk (p : Nat) (q0 k0 at0 : Int) (ad : Option Addr) (n cp k : Nat) (c : Cl) (hc : c.May) (t : UInt8) (T xo : Int) (xn : UInt8) (hT : (t.toNat : Int) = T) (hxo : ((byteAt (putL c) k).toNat : Int) = xo) (hk : k < 64) (hcut : (IntKind.u64.wrap at0).tmod 64 = (k : Int)) (hx : bits .xor .u8 xo T = (xn.toNat : Int)) (hxn : (putL c).getD k 0 ^^^ t = xn)
    (z : Bool) (hz : (T == 0) = z) (Y : List UInt8) (hY : (putL c).set k xn = Y)
    (h0 : z = true → gotL Y = c ∧ gotW Y = true ∧ gotC Y = 0) (h1 : z = false → gotL Y = zeroC ∧ (gotW Y = false ∧ gotC Y = 0 ∨ gotW Y = true ∧ gotC Y = 12)) (w : World) (hv1 : BytesAt w (.slice ad c.data.length cp) c.data)
    (hF1 : ∀ w, Calls Try.prog 21 #[.agg #[.int .u32 (p : Int), .int .i64 q0, .int .i64 k0, .slice ad n cp]] w fun e w' => e = .returned (.agg (clV c (.slice ad c.data.length cp))) ∧ w.grownBy w' none) :
    Calls Try.prog 4 #[.agg #[.int .u32 (p : Int), .int .i64 q0, .int .i64 k0, .slice ad n cp], .int .i64 at0, .int .u8 T] w fun e w' => e = .returned (.bool true) ∧ w.grownBy w' none := by
  subst hxn
  have F1 := hid hF1; have HV1 := hid hv1; have HC := hid hc; have HL := hid (putL_len hc.d); have GT := hid (got_put hc); have KC := hid hcut; have HK := hid hk; have HX := hid hx; have HO := hid hxo; have HTZ := hid hz; have HY := hid hY
  have H0 := hid h0; have H1 := hid h1
  clear hF1 hv1 hc hT hxo hk hcut hx hz hY h0 h1
  go_enter Try.func4, Try.ntmps4
  go_upto_region 1 with fail
  have K0 := hid ((kp_start w).alloc (rO p q0 k0 (.slice ad n cp)))
  generalize w.alloc (rO p q0 k0 (.slice ad n cp)) = w0 at *
  go_wp2_with (first | refine wpList_row_w K0.out.b0 Try.underlying25 rfl (by kernel_rfl) rfl rfl rfl rfl ?_ | refine wpList_row K0.out.b0 Try.underlying25 rfl (by kernel_rfl) rfl rfl rfl rfl ?_)
  refine (F1.out _).mono ?_
  rintro e w1 ⟨rfl, hg⟩
  have K1 := hid (((K0.out.grown hg).addY (HV1.out.grown (K0.out.grown hg).g (by simp))).alloc (cO c (.slice ad c.data.length cp)))
  obtain ⟨b7, hb7⟩ : ∃ b, b = w1.heap.size := ⟨_, rfl⟩
  rw [← hb7] at K1
  clear hg
  go_upto_region 2 with fail
  rw [← hb7]
  generalize w1.alloc (cO c (.slice ad c.data.length cp)) = w2 at *
  clear hb7
  go_wp2_with (first | refine wpList_row_w K1.out.b0 Try.underlying25 rfl (by kernel_rfl) rfl rfl rfl rfl ?_ | refine wpList_row K1.out.b0 Try.underlying25 rfl (by kernel_rfl) rfl rfl rfl rfl ?_)
  refine (lput_as c HC.out rfl rfl rfl K1.out.y0 rfl).mono ?_
  rintro e w3 ⟨u, rfl, ho, hg⟩
  obtain ⟨g, r, rfl, hr1, -, -, -⟩ := ho.fulln (putL_len HC.out.d) (by decide)
  have K2 := hid (K1.out.grown hg)
  have OB := hid ho
  have LW := hid K1.out.low
  have SZ := hid K1.out.size
  clear ho hg
  go_wp2_with fail
  refine (lget_as _ GT.out.1 GT.out.2.1 GT.out.2.2 rfl rfl rfl rfl rfl OB.out.bytes).mono ?_
  rintro e w4 ⟨p4, k4, rfl, ho4, hg⟩
  have K3 := hid (((K2.out.grown hg).addY ho4.bytes).alloc (.cells #[.int .u32 (c.pass : Int), .int .i64 (c.place : Int), .int .i64 (c.kind : Int), .slice p4 c.data.length k4] 31))
  have OB3 := hid ((OB.out.grown hg (by simp)).alloc (.cells #[.int .u32 (c.pass : Int), .int .i64 (c.place : Int), .int .i64 (c.kind : Int), .slice p4 c.data.length k4] 31))
  have KS := hid ((K2.out.grown hg).grown (World.grownBy_alloc w4 (.cells #[.int .u32 (c.pass : Int), .int .i64 (c.place : Int), .int .i64 (c.kind : Int), .slice p4 c.data.length k4] 31) none))
  obtain ⟨b10, hb10⟩ : ∃ b, b = w4.heap.size := ⟨_, rfl⟩
  rw [← hb10] at K3
  clear ho4 hg
  go_upto_region 4 with fail
  rw [← hb10]
  generalize w4.alloc (.cells #[.int .u32 (c.pass : Int), .int .i64 (c.place : Int), .int .i64 (c.kind : Int), .slice p4 c.data.length k4] 31) = w5 at *
  clear hb10
  obtain ⟨d0, d1, d2, d3⟩ := lC_cells K3.out.b0
  obtain ⟨f0, f1, f2, f3⟩ := cO_cells K3.out.b1
  have v1 := conv_bytes K3.out.y0; have v2 := conv_bytes K3.out.y1
  have kc := KC.out
  have cb := byte_cell OB3.out.bytes k (by rw [HL.out]; exact HK.out) _ rfl
  have fz := OB3.out.freeb (by rw [HL.out]; decide) k
  have S3 := hid (OB3.out.setb (i := k) (by rw [HL.out]; exact HK.out) ((putL c).getD k 0 ^^^ t))
  have hx := HX.out
  rw [HO.out] at cb
  have kb0 : (0 : Int) ≤ (k : Int) := by omega
  have kb1 : (k : Int) < 64 := by have := HK.out; omega
  generalize (⟨c.data.toArray⟩ : ByteArray) = X at *
  go_wp2_with fail
  clear d0 d1 d2 d3 f0 f1 f2 f3 v1 v2 cb fz hx
  have K9 := hid (KS.out.own OB3.out S3.out.2 SZ.out LW.out.1 LW.out.2)
  have X9 := hid S3.out.1.bytes
  clear S3 OB3 KS K3
  rw [HY.out] at X9
  cases z with
  | true =>
    have GT0 := hid (H0.out (by first | trivial | rfl))
    have e0 := HTZ.out
    refine (lget_as (Y) GT0.out.1 GT0.out.2.1 GT0.out.2.2 rfl rfl rfl rfl rfl X9.out).mono ?_
    rintro e w7 ⟨p7, k7, rfl, ho, hg⟩
    have K10 := hid (K9.out.grown hg)
    clear ho hg
    go_upto_region 9 with fail
    have K11 := hid (K10.out.grown (World.grownBy_alloc w7 (.cells #[.int .u32 (c.pass : Int), .int .i64 (c.place : Int), .int .i64 (c.kind : Int), .slice p7 c.data.length k7] 31) none))
    generalize w7.alloc (.cells #[.int .u32 (c.pass : Int), .int .i64 (c.place : Int), .int .i64 (c.kind : Int), .slice p7 c.data.length k7] 31) = w8 at *
    go_wp2_with fail
    refine (told_any _).mono ?_
    rintro e w9 ⟨rfl, hg⟩
    have K12 := hid (K11.out.grown hg)
    clear hg
    go_wp2_with fail
    go_ret
    exact ⟨rfl, K12.out.g⟩
  | false =>
    have e0 := HTZ.out
    have e1 : (T != 0) = true := by show (!(T == 0)) = true; rw [e0]; rfl
    have HZ := hid (H1.out (by first | trivial | rfl)).1
    rcases (H1.out (by first | trivial | rfl)).2 with hw | hw
    · have HW := hid hw
      refine (lget_as (Y) HZ.out HW.out.1 HW.out.2 (P := 0) (Q := 0) (K := 0) rfl rfl rfl (d := []) rfl (n := 0) rfl X9.out).mono ?_
      rintro e w7 ⟨p7, k7, rfl, ho, hg⟩
      have K10 := hid (K9.out.grown hg)
      clear ho hg
      go_upto_region 9 with fail
      have K11 := hid (K10.out.grown (World.grownBy_alloc w7 (.cells #[.int .u32 0, .int .i64 0, .int .i64 0, .slice p7 0 k7] 31) none))
      generalize w7.alloc (.cells #[.int .u32 0, .int .i64 0, .int .i64 0, .slice p7 0 k7] 31) = w8 at *
      go_wp2_with fail
      refine (told_any _).mono ?_
      rintro e w9 ⟨rfl, hg⟩
      have K12 := hid (K11.out.grown hg)
      clear hg
      go_wp2_with fail
      go_ret
      exact ⟨rfl, K12.out.g⟩
    · have HW := hid hw
      refine (lget_as (Y) HZ.out HW.out.1 HW.out.2 (P := 0) (Q := 0) (K := 0) rfl rfl rfl (d := []) rfl (n := 0) rfl X9.out).mono ?_
      rintro e w7 ⟨p7, k7, rfl, ho, hg⟩
      have K10 := hid (K9.out.grown hg)
      clear ho hg
      go_upto_region 9 with fail
      have K11 := hid (K10.out.grown (World.grownBy_alloc w7 (.cells #[.int .u32 0, .int .i64 0, .int .i64 0, .slice p7 0 k7] 31) none))
      generalize w7.alloc (.cells #[.int .u32 0, .int .i64 0, .int .i64 0, .slice p7 0 k7] 31) = w8 at *
      go_wp2_with fail
      refine (told_any _).mono ?_
      rintro e w9 ⟨rfl, hg⟩
      have K12 := hid (K11.out.grown hg)
      clear hg
      go_wp2_with fail
      go_ret
      exact ⟨rfl, K12.out.g⟩
theorem walk {w : World} (p : Nat) (q0 k0 : Int) (u : Value) (l : List UInt8) (hb : BytesAt w u l) (at0 : Int) (t : UInt8) :
    Calls Try.prog 4 #[lcV p q0 k0 u, .int .i64 at0, .int .u8 (t.toNat : Int)] w fun e w' => e = .returned (.bool true) ∧ w.grownBy w' none := by
  obtain ⟨a, cp, rfl⟩ := hb.form
  obtain ⟨k, hk, mk⟩ := umod_small at0 64 (by omega)
  rw [show ((64 : Nat) : Int) = 64 from rfl] at mk
  have hc := fit_may p q0 k0 l
  obtain ⟨s0, s1⟩ := spoilt_got hc hk t
  refine in_walk p q0 k0 at0 a l.length cp k (fitC p q0 k0 l) hc t _ _ _ rfl rfl hk mk (u8_xor _ _) rfl (decide (t = 0)) ?_ _ rfl (fun h => ?_) (fun h => s1 (by simpa using h)) w (fit_bytes p q0 k0 hb) (fun w => fit_eq p q0 k0 hb w)
  · by_cases h : t = 0
    · subst h; rfl
    · rw [decide_eq_false h, beq_eq_false_iff_ne]
      intro e
      exact h (UInt8.toNat_inj.1 (by have : t.toNat = 0 := by omega
                                     rw [this]; rfl))
  · have e : t = 0 := by simpa using h
    have := s0 e
    unfold byteAt at *
    rw [this]
    exact got_put hc
end Go.Proofs.Ytjebmlmjbnaghaa.lgback
