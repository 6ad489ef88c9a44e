/-
  Contracts for the document's disk: Spoil; each call for whatever comes. The condition of a call: the object lies there.
-/
import Derived.Test.YtjjlakekjihnoaaSeS
set_option linter.unusedSimpArgs false
set_option linter.unusedVariables false
namespace Go.Proofs.Ytjjlakekjihnoaa
set_option maxRecDepth 100000
open Go.RowKit

/-- a block that holds bytes, from its first cell on -/
structure Bl (w : World) (g : Nat) (l : List UInt8) : Prop where
  top : ∃ C f0 f1, w.heap[g]? = some (.cells C 5 (f0, f1)) ∧ (∀ i, (hi : i < l.length) → C[i]? = some (bv l[i])) ∧ l.length ≤ C.size ∧ C.size ≤ f0
theorem Bl.bytes {w : World} {g c : Nat} {l : List UInt8} (h : Bl w g l) (h1 : l.length ≤ c) (h2 : c ≤ maxLen) : BytesAt w (.slice (some ⟨g, 0, none⟩) l.length c) l := by
  obtain ⟨C, f0, f1, hh, hc, -, -⟩ := h
  refine .inr ⟨_, c, rfl, h1, h2, fun i hi => ?_⟩
  have e : (⟨g, 0, none⟩ : Addr).add i = ⟨g, i, none⟩ := by unfold Addr.add; split <;> simp_all
  rw [e, at_cell hh i, hc i hi]; rfl
theorem Bl.at {w : World} {g p : Nat} {l : List UInt8} (h : Bl w g l) (hp : p < l.length) : w.cell? ⟨g, p, none⟩ = some (.int .u8 ((l.getD p 0).toNat : Int)) ∧ w.frozen? ⟨g, p, none⟩ = false := by
  obtain ⟨C, f0, f1, hh, hc, h1, h2⟩ := h
  refine ⟨by rw [at_cell hh p, hc p hp, List.getD_eq_getElem?_getD, List.getElem?_eq_getElem hp]; rfl, ?_⟩
  have e : decide (f0 ≤ p) = false := by simp; omega
  simp [World.frozen?, hh, e]
theorem Bl.set {w : World} {g : Nat} {l : List UInt8} (h : Bl w g l) (p : Nat) (x : UInt8) : Bl (w.setCell ⟨g, p, none⟩ (.int .u8 (x.toNat : Int))) g (l.set p x) := by
  obtain ⟨C, f0, f1, hh, hc, h1, h2⟩ := h
  refine ⟨_, _, _, at_set hh p _, fun i hi => ?_, by simpa using h1, by simpa using h2⟩
  rw [List.length_set] at hi
  by_cases e : p = i
  · subst e
    rw [Array.getElem?_setIfInBounds, if_pos rfl, if_pos (by omega), List.getElem_set_self]; rfl
  · rw [Array.getElem?_setIfInBounds, if_neg e, hc i hi, List.getElem_set_ne e]
theorem str_bytes (x : ByteArray) (l : List UInt8) (hx : x = ⟨l.toArray⟩) (hl : l.length ≤ 100000) (w : World) :
    ∃ c w', (convert 9 27 (.string x)).run Try.prog w = .ok (.slice (some ⟨w.heap.size, 0, none⟩) l.length c) w' ∧ Bl w' w.heap.size l ∧ w.grownBy w' none ∧ l.length ≤ c ∧ c ≤ maxLen := by
  have hs : x.size = l.length := by rw [hx]; rfl
  refine ⟨_, _, by rw [← hs]; exact run_bytes_of_string w 9 27 5 x Try.underlying9 Try.underlying27 Try.underlying5, ⟨_, _, _, at_new w.drew _, fun i hi => ?_, ?_, Nat.le_refl _⟩, gb_alloc (gb_drew (.refl w none)) _, ?_, grownCap_le_maxLen _ _ _ _ (by rw [hs]; unfold maxLen; omega)⟩
  · subst hx
    rw [bytesRow_at _ _ i (by simpa using hi)]; rfl
  · subst hx
    unfold bytesRow
    simp
  · rw [← hs]; exact grownCap_ge _ _ _ _
section
variable {w : World} {b s : Nat} {d : Dk}
theorem rdspoil_no (a p : Int) (t : UInt8) (H : RdAt w b s d) (h : d.mays a p = false) :
    Calls Try.prog 22 #[.pointer (some ⟨b, 0, none⟩), .int .i64 a, .int .i64 p, bv t] w fun e w' => e = .returned (.int .i64 1) ∧ w = w' := by
  obtain ⟨raw, hraw, c0, c1, c2, c3, c4, f⟩ := H.cells
  unfold Dk.mays Dk.has at h
  unfold bv
  generalize (t.toNat : Int) = T
  clear H hraw c1 c2 c3 c4 f
  generalize d.l.length = n at *
  by_cases h0 : a < 0
  · have d0 : decide (a < 0) = true := by simpa using h0
    clear h
    go_enter Try.func22, Try.ntmps22
    go_wp2_with fail
    go_ret
    exact ⟨rfl, rfl⟩
  have d0 : decide (a < 0) = false := by simpa using h0
  by_cases h1 : (n : Int) ≤ a
  · have d1 : decide ((n : Int) ≤ a) = true := by simpa using h1
    clear h
    go_enter Try.func22, Try.ntmps22
    go_wp2_with fail
    go_ret
    exact ⟨rfl, rfl⟩
  have d1 : decide ((n : Int) ≤ a) = false := by simpa using h1
  by_cases h2 : p < 0
  · have d2 : decide (p < 0) = true := by simpa using h2
    clear h
    go_enter Try.func22, Try.ntmps22
    go_wp2_with fail
    go_ret
    exact ⟨rfl, rfl⟩
  have d2 : decide (p < 0) = false := by simpa using h2
  have d3 : decide (64 ≤ p) = true := by simp at h; simp; omega
  clear h
  go_enter Try.func22, Try.ntmps22
  go_wp2_with fail
  go_ret
  exact ⟨rfl, rfl⟩
set_option maxHeartbeats 1600000 in
theorem rdspoil_yes (k p : Nat) (t : UInt8) (H : RdAt w b s d) (hk : k < d.l.length) (hp : p < 64) :
    Calls Try.prog 22 #[.pointer (some ⟨b, 0, none⟩), .int .i64 (k : Int), .int .i64 (p : Int), bv t] w fun e w' => e = .returned (.int .i64 0) ∧ RdAt w' b s (d.spoilt k p t) ∧ Chg [b, s] w w' := by
  obtain ⟨raw, hraw, c0, c1, c2, c3, c4, f⟩ := H.cells
  obtain ⟨cs, fs⟩ := H.str hk
  have hyl := H.ok.at_len hk
  obtain ⟨c, w2, hcv, hbl, hg, hc1, hc2⟩ := str_bytes ⟨(d.at k).toArray⟩ (d.at k) rfl (by omega) w
  obtain ⟨g, hgg⟩ : ∃ g, g = w.heap.size := ⟨_, rfl⟩
  have hgb : b < g := by rw [hgg]; exact H.ltb
  have hgs : s < g := by rw [hgg]; exact H.lts
  have HGG := hid (show w.heap.size ≤ g by omega)
  rw [← hgg] at hcv hbl
  have hx := u8_xor ((d.at k).getD p 0) t
  have H2 := hid (H.grown hg)
  have B2 := hid hbl
  obtain ⟨k2, z2⟩ := hbl.at (p := p) (by rw [hyl]; exact hp)
  have L2 := hid (show ∀ w' : World, RdAt w' b s (d.put k ((d.at k).set p ((d.at k).getD p 0 ^^^ t))) → RdAt w' b s (d.spoilt k p t) from fun w' h => h)
  have H3 := hid (show RdAt (w2.setCell ⟨g, p, none⟩ (.int .u8 (((d.at k).getD p 0 ^^^ t).toNat : Int))) b s d from by
    obtain ⟨raw, h1, h2⟩ := (H.grown hg).top
    exact ⟨⟨raw, h1, at_set_other h2 (by show b ≠ g; omega) _⟩, at_set_other (H.grown hg).sec (by show s ≠ g; omega) _, H.ne, H.ok⟩)
  have C3 := hid (show w.grownBy (w2.setCell ⟨g, p, none⟩ (.int .u8 (((d.at k).getD p 0 ^^^ t).toNat : Int))) none from gb_new hg (by show _ ≤ g; omega) _)
  have B3 := hid (hbl.set p ((d.at k).getD p 0 ^^^ t))
  rw [hyl] at hcv hc1
  obtain ⟨y, hy⟩ : ∃ y, (d.at k).getD p 0 ^^^ t = y := ⟨_, rfl⟩
  rw [hy] at hx H3 C3 B3 L2
  obtain ⟨x, hxx⟩ : ∃ x, ((d.at k).getD p 0).toNat = x := ⟨_, rfl⟩
  rw [hxx] at hx k2
  have HYL := hid (show ((d.at k).set p y).length = 64 by rw [List.length_set]; exact hyl)
  obtain ⟨Y, hY⟩ : ∃ Y, (d.at k).set p y = Y := ⟨_, rfl⟩
  rw [hY] at B3 L2 HYL
  have hcv2 : ∀ W, Bl W g Y → (convert 27 9 (.slice (some ⟨g, 0, none⟩) 64 c)).run Try.prog W = .ok (sv Y) W := fun W h => by
    have := conv_bytes (h.bytes (c := c) (by rw [HYL.out]; exact hc1) hc2)
    rw [HYL.out] at this
    exact this
  obtain ⟨X, hX⟩ : ∃ X : ByteArray, (⟨(d.at k).toArray⟩ : ByteArray) = X := ⟨_, rfl⟩
  unfold sv at cs
  rw [hX] at cs hcv
  have d0 : decide ((k : Int) < 0) = false := by simp
  have d1 : decide ((d.l.length : Int) ≤ (k : Int)) = false := by simp; omega
  have d2 : decide ((p : Int) < 0) = false := by simp
  have d3 : decide (64 ≤ (p : Int)) = false := by simp; omega
  have hk0 : (0 : Int) ≤ (k : Int) := by omega
  have hk1 : (k : Int) < (d.l.length : Int) := by omega
  have hp0 : (0 : Int) ≤ (p : Int) := by omega
  have hp1 : (p : Int) < 64 := by omega
  have HK := hid hk
  unfold bv
  clear hraw c1 c2 c3 c4 f H hyl hbl hg hgg hy hxx hY hX hk hgb hgs hp
  go_enter Try.func22, Try.ntmps22
  go_wp2_with fail
  generalize w2.setCell ⟨g, p, none⟩ (.int .u8 (y.toNat : Int)) = W3 at *
  have hcw := hcv2 W3.drew ⟨B3.out.top⟩
  have R := hid (show RdAt (W3.setCell ⟨s, k, none⟩ (sv Y)).drew b s (d.put k Y) ∧ Chg [b, s] W3 (W3.setCell ⟨s, k, none⟩ (sv Y)).drew from ⟨(H3.out.over (k := k) HYL.out rfl).1.drew, (H3.out.over (k := k) HYL.out rfl).2.drew⟩)
  obtain ⟨raw4, -, c0, -, -, -, -, -⟩ := H3.out.drew.cells
  obtain ⟨cs, fs⟩ := H3.out.drew.str HK.out
  clear hcv hcv2 k2 z2 hx
  go_region
  go_wp2_with fail
  go_ret
  exact ⟨rfl, L2.out _ R.out.1, (chg_grown C3.out _).then R.out.2⟩
theorem rdspoil_any (a p : Int) (t : UInt8) (H : RdAt w b s d) :
    Calls Try.prog 22 #[.pointer (some ⟨b, 0, none⟩), .int .i64 a, .int .i64 p, bv t] w fun e w' => e = .returned (.int .i64 (d.scode a p)) ∧ RdAt w' b s (d.spoil a p t) ∧ Chg [b, s] w w' := by
  unfold Dk.scode Dk.spoil
  cases hm : d.mays a p with
  | false =>
    refine (rdspoil_no a p t H hm).mono ?_
    rintro e w' ⟨rfl, rfl⟩
    exact ⟨rfl, H, chg_refl _ _⟩
  | true =>
    unfold Dk.mays at hm; simp at hm
    obtain ⟨k, rfl, hk⟩ := Dk.has_at hm.1
    obtain ⟨q, rfl⟩ : ∃ q : Nat, p = (q : Int) := ⟨p.toNat, by omega⟩
    simpa using rdspoil_yes k q t H hk (by omega)
theorem rdwrite_any (l : List UInt8) (hle : l.length ≤ 1000000) (a : Int) (H : RdAt w b s d) (hn : d.n < 1000000000) :
    Calls Try.prog 18 #[.pointer (some ⟨b, 0, none⟩), .int .i64 a, sv l] w fun e w' => e = .returned (.int .i64 (d.code a l)) ∧ RdAt w' b s (d.write a l) ∧ Chg [b, s] w w' := by
  have hs : (⟨l.toArray⟩ : ByteArray).size = l.length := rfl
  unfold Dk.code Dk.write
  cases hd : d.down with
  | true =>
    refine (rdwrite_down a _ H hd).mono ?_
    rintro e w' ⟨rfl, rfl⟩
    exact ⟨rfl, H, chg_refl _ _⟩
  | false =>
    cases hm : d.may a l with
    | false =>
      refine (rdwrite_no a _ (by rw [hs]; exact hle) H hd (by rw [hs]; unfold Dk.may at hm; simp at hm; cases h : d.has a with | false => exact .inl rfl | true => exact .inr (hm h))).mono ?_
      rintro e w' ⟨rfl, rfl⟩
      exact ⟨rfl, H, chg_refl _ _⟩
    | true =>
      unfold Dk.may at hm; simp at hm
      obtain ⟨k, rfl, hk⟩ := Dk.has_at hm.1
      cases hw : d.wait with
      | true =>
        obtain ⟨raw, h1, h2⟩ := H.top
        by_cases g0 : raw < 0
        · simpa using rdwrite_torn0 raw g0 l _ rfl k H h2 h1 hd hw hn hk hm.2
        · by_cases g1 : 64 < raw
          · simpa using rdwrite_torn1 raw g1 l _ rfl k H h2 h1 hd hw hn hk hm.2
          · simpa using rdwrite_torn2 raw (by omega) (by omega) l _ rfl k H h2 h1 hd hw hn hk hm.2
      | false => simpa [hw, hd] using rdwrite_whole l _ rfl k H hd hw hn hk hm.2
end
end Go.Proofs.Ytjjlakekjihnoaa
