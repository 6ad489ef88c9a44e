/-
  The walk of the statement SipNumbers: numbers come back from their bytes, wherever these stand. The condition: the numbers and the bytes read as such.
-/
import Derived.Test.YtiamjgcmcjlopaaTold
import Derived.Test.YtiamjgcmcjlopaaNums
namespace Go.Proofs.Ytiamjgcmcjlopaa.numbers
open Go.RowKit

set_option maxRecDepth 100000 in
set_option maxHeartbeats 1600000 in
theorem walk_long (p1 : Option Addr) (n1 c1 : Nat) (p2 : Option Addr) (n2 c2 : Nat) (hn : 12 < n1 ∨ n1 ≤ 12 ∧ 9 < n2) (w : World) :
    Calls Try.prog 5 #[.slice p1 n1 c1, .slice p2 n2 c2] w fun e w' => e = .returned (.bool true) ∧ w.grownBy w' none := by
  rcases hn with hn | ⟨hn1, hn⟩
  all_goals
    go_enter Try.func5, Try.ntmps5
    go_wp2_with fail
    refine (told_any _).mono ?_
    rintro e w3 ⟨rfl, hg⟩
    have HT := hid hg; clear hg
    go_wp2_with fail
    go_ret
    exact ⟨rfl, HT.out⟩

theorem get_int (l : List UInt8) (v : Value) (m : Nat) (i : Int) (hi : i = (m : Int)) (w : World) (hl : BytesAt w v l) (hm : m + 8 ≤ l.length) :
    Calls Try.prog 12 #[v, .int .i64 i] w fun e w' => e = .returned (.tuple #[.int .u64 (q (wordAt l m 8)), .int .i64 0]) ∧ w = w' := by
  subst hi; exact get_in l v m w hl hm
theorem get_end (l : List UInt8) (p : Option Addr) (c : Nat) (w : World) (hl : l.length ≤ 200) :
    Calls Try.prog 12 #[.slice p l.length c, .int .i64 ((l.length : Int) - 7)] w fun e w' => e = .returned (.tuple #[.int .u64 0, .int .i64 2]) ∧ w = w' := by
  by_cases h : (l.length : Int) - 7 < 0
  · exact get_low _ _ h w
  · exact get_high p l.length c (by unfold maxLen; omega) _ (by omega) (by omega) w
theorem bytes_put (n : BitVec 64) {w : World} {b : Nat} (h : w.heap[b]? = some (.cells (putArr n 8) 5)) : BytesAt w (.slice (some ⟨b, 0, none⟩) 8 8) (put8 n) :=
  bytes_of_block (put8 n) h (by unfold maxLen; rw [put8_length]; omega)
theorem own_row {base : Nat} {w w1 w2 : World} {v : Value} {l : List UInt8} (g : w.grownBy w1 none) (ho : OwnB base w1 v l) (hw : w1.grownBy w2 v.ownBlock) (hb : w.heap.size = base) : w.grownBy w2 none :=
  gb_trans g hw (by
    cases hv : v.ownBlock with
    | none => exact .inl rfl
    | some k =>
      obtain ⟨p, c, rfl⟩ := ho.form
      cases p with
      | none => cases hv
      | some a => exact .inr (.inr ⟨k, rfl, by have := (ho.at a _ _ rfl).1; cases hv; omega⟩))

set_option maxRecDepth 100000 in
set_option maxHeartbeats 3200000 in
theorem walk_short (l : List (BitVec 64)) (p1 : Option Addr) (c1 : Nat) (a : List UInt8) (p2 : Option Addr) (c2 : Nat) (w : World) (hl : NumsAt w (.slice p1 l.length c1) l) (ha : BytesAt w (.slice p2 a.length c2) a) (hn1 : l.length ≤ 12) (hn2 : a.length ≤ 9) :
    Calls Try.prog 5 #[.slice p1 l.length c1, .slice p2 a.length c2] w fun e w' => e = .returned (.bool true) ∧ w.grownBy w' none := by
  have HL := hid hl; have HA := hid ha; clear hl ha
  have hl12 : (l.length : Int) ≤ 12 := by omega
  have ha9 : (a.length : Int) ≤ 9 := by omega
  have hd1 : decide (12 < (l.length : Int)) = false := by simp; omega
  have hd2 : decide (9 < (a.length : Int)) = false := by simp; omega
  go_enter Try.func5, Try.ntmps5
  go_wp2_with (at_builtin; refine append_bytes rfl _ _ rfl w.heap.size (.slice (some ⟨w.heap.size, 0, none⟩) 0 0) [] rfl (OwnB.empty w) _ a rfl (HA.out.alloc _) (by simp; omega) (by simp) ?_; intro v1 w1 hown hgrow hat)
  have hg1 : w.grownBy w1 none := gb_trans (gb_alloc (.refl w none) _) hgrow (.inr (.inr ⟨_, rfl, by simp⟩))
  have HO := hid hown; have HG := hid hg1
  clear hown hgrow hat hg1 hd1 hd2
  go_loopw [5, 6] (fun v i wr => ∃ k : Nat, k ≤ l.length ∧ i = .int .i64 (k : Int) ∧ OwnB w.heap.size wr v (a ++ putAll (l.take k)) ∧ w.grownBy wr none) (fun _ i _ => l.length - (intOf i).toNat)
  case atStart => exact ⟨0, Nat.zero_le _, rfl, by simpa [putAll] using HO.out, HG.out⟩
  case round =>
    obtain ⟨k, hk, rfl, ho, hg⟩ := hrel
    have HO2 := hid ho; have HG2 := hid hg
    obtain ⟨pv, cv, hform⟩ := ho.form
    have hat := ho.at
    subst hform
    clear ho hg HO HG
    have htl : (a ++ putAll (l.take k)).length = a.length + 8 * k := by rw [List.length_append, putAll_length, List.length_take]; omega
    generalize hL : a ++ putAll (l.take k) = L at *
    have HLL := hid hL; have HTL := hid htl; clear hL htl
    by_cases hlt : k < l.length
    · obtain ⟨ab, ao, cap', hp, hcs⟩ := (HL.out.grown HG2.out).cells (by omega)
      cases hp
      have hc := hcs k hlt
      clear hcs
      have hk0 : (0 : Int) ≤ (k : Int) := by omega
      have hk1 : (k : Int) < (l.length : Int) := by omega
      have HAT := hid hat; clear hat
      go_wp2_with fail
      refine (put_any l[k] _).mono ?_
      rintro e w2 ⟨rfl, hb, hg⟩
      have BP := hid (bytes_put l[k] hb)
      have HO3 := hid (HO2.out.grown hg (by simp)); have HG3 := hid (gb_trans HG2.out hg (.inl rfl))
      have hsz := gb_size HG3.out
      clear hb hg
      go_wp2_with (at_builtin; refine append_bytes rfl _ _ rfl w.heap.size (.slice pv L.length cv) L (by rfl) HO3.out (.slice (some ⟨wr.heap.size, 0, none⟩) 8 8) (put8 l[k]) (by rfl) BP.out (by rw [put8_length]; have := HTL.out; omega) hsz ?_; intro v2 w3 hown hgrow hat2)
      have hg4 := own_row HG3.out HO3.out hgrow rfl
      have hown' : OwnB w.heap.size w3 v2 (a ++ putAll (l.take (k + 1))) := by
        rw [List.take_succ_eq_append_getElem hlt, putAll_snoc, ← List.append_assoc, HLL.out]; exact hown
      go_roundw
      case rel => exact ⟨k + 1, by omega, by go_num, hown', hg4⟩
      case measure => simp [intOf]; omega
    · have hkl : k = l.length := by omega
      subst hkl
      have hLL : L = a ++ putAll l := by rw [← HLL.out, List.take_of_length_le (Nat.le_refl _)]
      have hL0 : (L.length : Int) = (a.length : Int) + 8 * (l.length : Int) := by have := HTL.out; omega
      have HL1 := hid hLL; have HL0 := hid hL0
      have hL3 : L.length ≤ 200 := by have := HTL.out; omega
      clear hat hLL hL0
      go_wp2_with fail
      go_loop [7] (fun i => ∃ j : Nat, j ≤ l.length ∧ i = .int .i64 (j : Int)) (fun i => l.length - (intOf i).toNat)
      case atStart => exact ⟨0, Nat.zero_le _, rfl⟩
      case round =>
        obtain ⟨j, hj, rfl⟩ := hrel
        by_cases hjl : j < l.length
        · obtain ⟨ab, ao, cap', hp, hcs⟩ := (HL.out.grown HG2.out).cells (by omega)
          cases hp
          have hc := hcs j hjl
          clear hcs
          have hj0 : (0 : Int) ≤ (j : Int) := by omega
          have hj1 : (j : Int) < (l.length : Int) := by omega
          have hq : (q (wordAt L (a.length + 8 * j) 8) != q l[j]) = false := by rw [HL1.out, wordAt_all a l j hjl]; simp
          go_wp2_with fail
          refine (get_int L _ (a.length + 8 * j) _ (by simp) _ HO2.out.bytes (by have := HTL.out; omega)).mono ?_
          rintro e w2 ⟨rfl, rfl⟩
          go_wp2_with fail
          go_round
          case rel => exact ⟨j + 1, by omega, by go_num⟩
          case measure => simp [intOf]; omega
        · have hjl2 : j = l.length := by omega
          subst hjl2
          have hfin : ((L.length : Int) == (a.length : Int) + 8 * (l.length : Int)) = true := by have := HL0.out; simp; omega
          go_wp2_with fail
          refine (get_end L pv cv _ (by omega)).mono ?_
          rintro e w2 ⟨rfl, rfl⟩
          go_wp2_with fail
          refine (told_any _).mono ?_
          rintro e w3 ⟨rfl, hg⟩
          have HT := hid hg; clear hg
          go_wp2_with fail
          go_ret
          exact ⟨rfl, gb_trans HG2.out HT.out (.inl rfl)⟩

theorem walk (l : List (BitVec 64)) {p1 : Option Addr} {c1 : Nat} {w : World} (hl : NumsAt w (.slice p1 l.length c1) l) (a : List UInt8) {p2 : Option Addr} {c2 : Nat} (ha : BytesAt w (.slice p2 a.length c2) a) :
    Calls Try.prog 5 #[.slice p1 l.length c1, .slice p2 a.length c2] w fun e w' => e = .returned (.bool true) ∧ w.grownBy w' none := by
  by_cases h1 : 12 < l.length
  · exact walk_long p1 _ c1 p2 _ c2 (.inl h1) w
  · by_cases h2 : 9 < a.length
    · exact walk_long p1 _ c1 p2 _ c2 (.inr ⟨by omega, h2⟩) w
    · exact walk_short l p1 c1 a p2 c2 w hl ha (by omega) (by omega)
end Go.Proofs.Ytiamjgcmcjlopaa.numbers
