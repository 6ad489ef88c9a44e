/-
  Contracts for package sector: Read, Spoil; each call for whatever comes. The condition of a call: the object lies there, bytes read as bytes.
-/
import Derived.Test.YtjjlakekjihnoaaSeB
import Derived.Test.YtjjlakekjihnoaaU8
import Derived.Lib.OwnBridge
import Derived.BigRegion
set_option linter.unusedSimpArgs false
set_option linter.unusedVariables false
namespace Go.Proofs.Ytjjlakekjihnoaa
set_option maxRecDepth 100000
open Go.RowKit

set_option maxHeartbeats 1600000 in
theorem bclone_any (a : Addr) (n c : Nat) (l : List UInt8) (w : World) (h : BytesAt w (.slice (some a) n c) l) (hn : l.length ≤ 999999) :
    Calls Try.prog 25 #[.slice (some a) n c] w fun e w' => ∃ u, e = .returned u ∧ OwnB w.heap.size w' u l ∧ w.grownBy w' none := by
  have HI := hid h
  have hnil := Lib.run_eql_slice_nil w 27 5 (some a) n c 0 0 Try.underlying27
  have HE := hid (OwnB.empty w)
  have HB := hid (HI.out.alloc (.cells #[] 5))
  have HL := hid hn
  clear h hn
  go_enter Try.func25, Try.ntmps25
  go_wp2_with (refine append_bytes rfl _ _ rfl w.heap.size _ [] rfl HE.out _ l rfl HB.out (by have := HL.out; simp; omega) (gb_size (gb_alloc (.refl w none) _)) ?_; intro v' w' hown hgrow hat; have HO := hid hown; have HG := hid (gb_own (gb_alloc (.refl w none) _) HE.out (Nat.le_refl _) hgrow); clear hown hgrow hat)
  go_ret
  have hown := HO.out
  rw [List.nil_append] at hown
  exact ⟨_, rfl, hown, HG.out⟩

section
variable {w w1 : World} {b s : Nat} {d : Dk}
set_option maxHeartbeats 1600000 in
theorem read_yes (k : Nat) (H : DkAt w b s d) (hk : k < d.l.length) :
    Calls Try.prog 13 #[.pointer (some ⟨b, 0, none⟩), .int .i64 (k : Int)] w fun e w' => ∃ u, e = .returned (.tuple #[u, .int .i64 0]) ∧ OwnB w.heap.size w' u (d.at k) ∧ w.grownBy w' none := by
  have A := hid (has_any (k : Int) H)
  rw [Dk.has_of hk] at A
  have C := hid (bclone_any ⟨s, k * 64, none⟩ 64 64 (d.at k) w (H.bytes hk) (by rw [H.ok.at_len hk]; omega))
  obtain ⟨c0, c1, c2, c3, c4, f⟩ := H.cells
  have hk0 : (0 : Int) ≤ (k : Int) := by omega
  have hk1 : (k : Int) < (d.l.length : Int) := by omega
  generalize d.at k = x at *
  clear c1 c2 c3 c4 f H
  go_enter Try.func13, Try.ntmps13
  go_wp2_with fail
  refine A.out.mono ?_
  rintro e w1 ⟨rfl, rfl⟩
  go_wp2_with fail
  refine C.out.mono ?_
  rintro e w1 ⟨u, rfl, ho, hg⟩
  have HO := hid ho; have HG := hid hg; clear ho hg
  go_wp2_with fail
  go_ret2
  exact ⟨_, rfl, HO.out, HG.out⟩
theorem read_no (a : Int) (H : DkAt w b s d) (h : d.has a = false) :
    Calls Try.prog 13 #[.pointer (some ⟨b, 0, none⟩), .int .i64 a] w fun e w' => e = .returned (.tuple #[.slice none 0 0, .int .i64 1]) ∧ w = w' := by
  have A := hid (has_any a H)
  rw [h] at A
  clear H
  go_enter Try.func13, Try.ntmps13
  go_wp2_with fail
  refine A.out.mono ?_
  rintro e w1 ⟨rfl, rfl⟩
  go_wp2_with fail
  go_ret2
  exact ⟨rfl, rfl⟩
/-- what is read of a place -/
def readL (d : Dk) (a : Int) : List UInt8 := if d.has a then d.at a.toNat else []
def readC (d : Dk) (a : Int) : Int := if d.has a then 0 else 1
theorem read_any (a : Int) (H : DkAt w b s d) :
    Calls Try.prog 13 #[.pointer (some ⟨b, 0, none⟩), .int .i64 a] w fun e w' => ∃ u, e = .returned (.tuple #[u, .int .i64 (readC d a)]) ∧ OwnB w.heap.size w' u (readL d a) ∧ w.grownBy w' none := by
  unfold readL readC
  cases h : d.has a with
  | true =>
    obtain ⟨k, rfl, hk⟩ := Dk.has_at h
    simpa using read_yes k H hk
  | false =>
    refine (read_no a H h).mono ?_
    rintro e w' ⟨rfl, rfl⟩
    exact ⟨_, rfl, by simpa using OwnB.nil w.heap.size w, .refl w none⟩
theorem write_any (v : Value) (l : List UInt8) (a : Int) (H : DkAt w b s d) (hn : d.n < 1000000000) (hv : BytesAt w v l) (hs : l = [] ∨ ∀ a n c, v = .slice (some a) n c → a.block ∉ [b, s]) :
    Calls Try.prog 10 #[.pointer (some ⟨b, 0, none⟩), .int .i64 a, v] w fun e w' => e = .returned (.int .i64 (d.code a l)) ∧ DkAt w' b s (d.write a l) ∧ Chg [b, s] w w' := by
  unfold Dk.code Dk.write
  cases hd : d.down with
  | true =>
    obtain ⟨p, c, rfl⟩ := hv.form
    refine (write_down p l.length c a H hd).mono ?_
    rintro e w' ⟨rfl, rfl⟩
    exact ⟨rfl, H, chg_refl _ _⟩
  | false =>
    cases hm : d.may a l with
    | false =>
      have hle := hv.le
      obtain ⟨p, c, rfl⟩ := hv.form
      refine (write_no p l.length c hle a H hd (by unfold Dk.may at hm; simp at hm; cases h : d.has a with | false => exact .inl rfl | true => exact .inr (hm h))).mono ?_
      rintro e w' ⟨rfl, rfl⟩
      exact ⟨rfl, H, chg_refl _ _⟩
    | true =>
      unfold Dk.may at hm; simp at hm
      obtain ⟨k, rfl, hk⟩ := Dk.has_at hm.1
      replace hs := hs.resolve_left (by rintro rfl; simp at hm)
      cases hw : d.wait with
      | true => simpa using write_torn v l k H hd hw hn hk hm.2 hv hs
      | false => simpa [hw, hd] using write_whole v l k H hd hw hn hk hm.2 hv hs
theorem spoil_no (a p : Int) (t : UInt8) (H : DkAt w b s d) (h : d.mays a p = false) :
    Calls Try.prog 21 #[.pointer (some ⟨b, 0, none⟩), .int .i64 a, .int .i64 p, bv t] w fun e w' => e = .returned (.int .i64 1) ∧ w = w' := by
  have A := hid (has_any a H)
  unfold Dk.mays at h
  unfold bv
  generalize (t.toNat : Int) = T
  cases hh : d.has a with
  | false =>
    rw [hh] at A
    clear H h
    go_enter Try.func21, Try.ntmps21
    go_wp2_with fail
    refine A.out.mono ?_
    rintro e w1 ⟨rfl, rfl⟩
    go_wp2_with fail
    go_ret
    exact ⟨rfl, rfl⟩
  | true =>
    rw [hh] at A h
    by_cases h0 : p < 0
    · have d0 : decide (p < 0) = true := by simpa using h0
      clear H h
      go_enter Try.func21, Try.ntmps21
      go_wp2_with fail
      refine A.out.mono ?_
      rintro e w1 ⟨rfl, rfl⟩
      go_wp2_with fail
      go_ret
      exact ⟨rfl, rfl⟩
    · have d0 : decide (p < 0) = false := by simpa using h0
      have d1 : decide (64 ≤ p) = true := by simp at h; simp; omega
      clear H h
      go_enter Try.func21, Try.ntmps21
      go_wp2_with fail
      refine A.out.mono ?_
      rintro e w1 ⟨rfl, rfl⟩
      go_wp2_with fail
      go_ret
      exact ⟨rfl, rfl⟩
theorem u8_wrap (x : UInt8) : IntKind.u8.wrap (x.toNat : Int) = (x.toNat : Int) := by
  have := x.toNat_lt
  rw [IntKind.wrap_u8]; omega
theorem u8_xor (x y : UInt8) : bits .xor .u8 (x.toNat : Int) (y.toNat : Int) = ((x ^^^ y).toNat : Int) := by
  show IntKind.u8.wrap ((BitVec.ofInt 8 (x.toNat : Int) ^^^ BitVec.ofInt 8 (y.toNat : Int)).toNat : Int) = _
  have e : ∀ z : UInt8, BitVec.ofInt 8 (z.toNat : Int) = z.toBitVec := fun z => by
    rw [BitVec.ofInt_natCast]; apply BitVec.eq_of_toNat_eq; have := z.toNat_lt; simp
  rw [e, e, ← UInt8.toBitVec_xor]
  exact u8_wrap (x ^^^ y)
/-- a byte of a sector is another now -/
theorem DkAt.setb (H : DkAt w b s d) {k p : Nat} (hk : k < d.l.length) (hp : p < 64) (x : UInt8) : DkAt (w.setCell ⟨s, k * 64 + p, none⟩ (bv x)) b s (d.put k ((d.at k).set p x)) ∧ Chg [b, s] w (w.setCell ⟨s, k * 64 + p, none⟩ (bv x)) := by
  refine ⟨⟨by rw [at_set_other H.top (by simpa using H.ne)]; simp, ?_, H.ne, ⟨set_each H.ok.each (by rw [List.length_set]; exact H.ok.at_len hk), by simpa using H.ok.lo, by simpa using H.ok.hi, H.ok.st⟩⟩, (chg_refl w [b, s]).set (.inl (by simp)) _⟩
  rw [at_set H.sec]
  show some (Obj.cells _ _ _) = some (Obj.cells ((List.map bv (d.l.set k ((d.at k).set p x)).flatten).toArray) _ _)
  rw [Dk.at_eq hk, ← flat_set d.l H.ok.each k hk p hp x, List.map_set]
  simp
theorem DkAt.byte (H : DkAt w b s d) {k p : Nat} (hk : k < d.l.length) (hp : p < 64) : w.cell? ⟨s, k * 64 + p, none⟩ = some (.int .u8 (((d.at k).getD p 0).toNat : Int)) := by
  have h64 := H.ok.at_len hk
  rw [at_cell H.sec, List.getElem?_toArray, List.getElem?_map, flat_get _ H.ok.each k hk p hp]
  rw [Dk.at_eq hk] at h64 ⊢
  rw [List.getD_eq_getElem?_getD, List.getElem?_eq_getElem (by omega)]; rfl
set_option maxHeartbeats 1600000 in
theorem spoil_yes (k p : Nat) (t : UInt8) (H : DkAt w b s d) (hk : k < d.l.length) (hp : p < 64) :
    Calls Try.prog 21 #[.pointer (some ⟨b, 0, none⟩), .int .i64 (k : Int), .int .i64 (p : Int), bv t] w fun e w' => e = .returned (.int .i64 0) ∧ DkAt w' b s (d.spoilt k p t) ∧ Chg [b, s] w w' := by
  have A := hid (has_any (k : Int) H)
  rw [Dk.has_of hk] at A
  have d0 : decide ((p : Int) < 0) = false := by simp
  have d1 : decide (64 ≤ (p : Int)) = false := by simp; omega
  have L := hid (H.drew.setb hk hp ((d.at k).getD p 0 ^^^ t))
  have hx := u8_xor ((d.at k).getD p 0) t
  obtain ⟨c0, c1, c2, c3, c4, f⟩ := H.drew.cells
  have cb := H.drew.byte hk hp
  have fz := at_free H.drew.sec (k * 64 + p)
  unfold bv at *
  have hk0 : (0 : Int) ≤ (k : Int) := by omega
  have hk1 : (k : Int) < (d.l.length : Int) := by omega
  have hp0 : (0 : Int) ≤ (p : Int) := by omega
  have hp1 : (p : Int) < 64 := by omega
  have L2 := hid (show ∀ w' : World, DkAt w' b s (d.put k ((d.at k).set p ((d.at k).getD p 0 ^^^ t))) → DkAt w' b s (d.spoilt k p t) from fun w' h => h)
  generalize (d.at k).getD p 0 ^^^ t = y at *
  generalize (d.at k).getD p 0 = x at *
  clear c1 c2 c3 c4 f H
  go_enter Try.func21, Try.ntmps21
  go_wp2_with fail
  refine A.out.mono ?_
  rintro e w1 ⟨rfl, rfl⟩
  go_wp2_with fail
  go_region
  go_wp2_with fail
  go_ret
  exact ⟨rfl, L2.out _ L.out.1, ((chg_refl w [b, s]).set (p := ⟨s, k * 64 + p, none⟩) (.inl (by simp)) _).drew⟩
theorem spoil_any (a p : Int) (t : UInt8) (H : DkAt w b s d) :
    Calls Try.prog 21 #[.pointer (some ⟨b, 0, none⟩), .int .i64 a, .int .i64 p, bv t] w fun e w' => e = .returned (.int .i64 (d.scode a p)) ∧ DkAt w' b s (d.spoil a p t) ∧ Chg [b, s] w w' := by
  unfold Dk.scode Dk.spoil
  cases hm : d.mays a p with
  | false =>
    refine (spoil_no a p t H hm).mono ?_
    rintro e w' ⟨rfl, rfl⟩
    exact ⟨rfl, H, chg_refl _ _⟩
  | true =>
    unfold Dk.mays at hm; simp at hm
    obtain ⟨k, rfl, hk⟩ := Dk.has_at hm.1
    obtain ⟨q, rfl⟩ : ∃ q : Nat, p = (q : Int) := ⟨p.toNat, by omega⟩
    simpa using spoil_yes k q t H hk (by omega)
end
end Go.Proofs.Ytjjlakekjihnoaa
