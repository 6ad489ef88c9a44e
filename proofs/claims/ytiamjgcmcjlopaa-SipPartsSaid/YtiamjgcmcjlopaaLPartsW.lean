/-
  The walk of the statement SipParts: what is written in parts has the sum of all, asked at any time. The condition: the parts read as slices of bytes.
-/
import Derived.Test.YtiamjgcmcjlopaaTold
import Derived.Test.YtiamjgcmcjlopaaStep
import Derived.Test.YtiamjgcmcjlopaaRowsAt
namespace Go.Proofs.Ytiamjgcmcjlopaa.parts
open Go.RowKit

theorem box_cells {w : World} {bx : Nat} {k0 k1 : BitVec 64} (h : w.heap[bx]? = some (.cells #[.int .u64 (q k0), .int .u64 (q k1)] 23)) :
    w.cell? ⟨bx, 0, none⟩ = some (.int .u64 (q k0)) ∧ w.cell? ⟨bx, 1, none⟩ = some (.int .u64 (q k1)) := ⟨at_cell h 0, at_cell h 1⟩
/-- all that was written so far -/
def flat (ls : List (Value × List UInt8)) : List UInt8 := ls.flatMap (·.2)
theorem flat_snoc (ls : List (Value × List UInt8)) (x : Value × List UInt8) : flat (ls ++ [x]) = flat ls ++ x.2 := by simp [flat]

/-- what stands ahead of a round's last statement -/
structure Here (k0 k1 : BitVec 64) (bx hb base : Nat) (s : St) (ad : Addr) (vi : Value) (li : List UInt8) (va : Value) (all : List UInt8) (w : World) : Prop where
  bh : bx < hb
  hB : hb < base
  box : w.heap[bx]? = some (.cells #[.int .u64 (q k0), .int .u64 (q k1)] 23)
  hh : w.heap[hb]? = some s.obj
  cell : w.cell? ad = some vi
  cb : ad.block < bx
  ba : BytesAt w vi li
  la : li = [] ∨ ∀ a n c, vi = .slice (some a) n c → a.block < bx
  own : OwnB base w va all
section
variable {k0 k1 : BitVec 64} {bx hb base : Nat} {s : St} {ad : Addr} {vi : Value} {li : List UInt8} {va : Value} {all : List UInt8} {w w' : World} {P1 P2 P3 : Prop}
theorem keep (h : Here k0 k1 bx hb base s ad vi li va all w) (hg : w.grownBy w' (some hb)) :
    w'.cell? ⟨bx, 0, none⟩ = some (.int .u64 (q k0)) ∧ w'.cell? ⟨bx, 1, none⟩ = some (.int .u64 (q k1)) ∧ w'.cell? ad = some vi ∧ w.grownBy w' (some hb) := by
  have hb' := at_grown h.box hg (by have := h.bh; simp; omega)
  exact ⟨at_cell hb' 0, at_cell hb' 1, hg.cell h.cell (by have := h.bh; have := h.cb; simp; omega), hg⟩
theorem held_g (h : P1 ∧ P2 ∧ P3 ∧ w.grownBy w' (some hb)) : w.grownBy w' (some hb) := h.2.2.2
theorem held_apart (h : Here k0 k1 bx hb base s ad vi li va all w) : li = [] ∨ ∀ a n c, vi = .slice (some a) n c → a.block ≠ hb :=
  h.la.elim .inl fun hl => .inr fun a n c e => by have := hl a n c e; have := h.bh; omega
theorem held_bytes (g : P1 ∧ P2 ∧ P3 ∧ w.grownBy w' (some hb)) (h : Here k0 k1 bx hb base s ad vi li va all w) : BytesAt w' vi li :=
  h.ba.grown g.2.2.2 (fun k e => by cases e; exact .inr (held_apart h))
theorem own_after (h : Here k0 k1 bx hb base s ad vi li va all w) (g : w.grownBy w' (some hb)) : OwnB base w' va all :=
  h.own.grown g (fun gk e => by
    intro e2
    obtain ⟨p, c, rfl⟩ := h.own.form
    cases p with
    | none => cases e
    | some a =>
      have := (h.own.at a _ _ rfl).1
      have := h.hB
      cases e
      cases e2
      omega)
theorem held_own (g : P1 ∧ P2 ∧ P3 ∧ w.grownBy w' (some hb)) (h : Here k0 k1 bx hb base s ad vi li va all w) : BytesAt w' va all :=
  (own_after h g.2.2.2).bytes
end

set_option maxRecDepth 100000 in
set_option maxHeartbeats 1600000 in
theorem walk_long (k0 k1 : BitVec 64) (p : Option Addr) (n c : Nat) (hn : 12 < n) (w : World) :
    Calls Try.prog 4 #[.agg #[.int .u64 (q k0), .int .u64 (q k1)], .slice p n c] w fun e w' => e = .returned (.bool true) ∧ w.grownBy w' none := by
  go_enter Try.func4, Try.ntmps4
  go_wp2_with fail
  refine (new_any k0 k1 _).mono ?_
  rintro e w1 ⟨rfl, hb, hg⟩
  have HG := hid hg; clear hg hb
  go_wp2_with fail
  refine (told_any _).mono ?_
  rintro e w2 ⟨rfl, hg⟩
  have HT := hid hg; clear hg
  go_wp2_with fail
  go_ret
  exact ⟨rfl, gb_trans (gb_trans (gb_alloc (.refl w none) _) HG.out (.inl rfl)) HT.out (.inl rfl)⟩

set_option maxRecDepth 100000 in
set_option maxHeartbeats 3200000 in
theorem walk_short (k0 k1 : BitVec 64) (ls : List (Value × List UInt8)) (p : Option Addr) (c : Nat) (w : World) (hl : RowsAt w (.slice p ls.length c) ls) (hn : ls.length ≤ 12) :
    Calls Try.prog 4 #[.agg #[.int .u64 (q k0), .int .u64 (q k1)], .slice p ls.length c] w fun e w' => e = .returned (.bool true) ∧ w.grownBy w' none := by
  have HL := hid hl; clear hl
  have hn' : (ls.length : Int) ≤ 12 := by omega
  have hd : decide (12 < (ls.length : Int)) = false := by simp; omega
  go_enter Try.func4, Try.ntmps4
  go_wp2_with fail
  refine (new_any k0 k1 _).mono ?_
  rintro e w1 ⟨rfl, hb, hg⟩
  have hbox := at_grown (at_new w (.cells #[.int .u64 (q k0), .int .u64 (q k1)] 23)) hg (by simp)
  have hg1 := gb_trans (gb_alloc (.refl w none) _) hg (.inl rfl)
  rw [size_alloc] at hb
  have hlt := at_lt hb
  have HB := hid hb; have HG := hid hg1; have HX := hid hbox
  clear hg hg1 hb hbox
  go_wp2_with fail
  clear hd
  go_loopw [6, 7] (fun v i wr => ∃ k : Nat, k ≤ ls.length ∧ i = .int .i64 (k : Int) ∧ (flat (ls.take k)).length ≤ 40 * k ∧ OwnB w1.heap.size wr v (flat (ls.take k)) ∧ wr.heap[w.heap.size + 1 + 1]? = some ((flat (ls.take k)).foldl St.add (St.new k0 k1)).obj ∧
      wr.heap[w.heap.size]? = some (.cells #[.int .u64 (q k0), .int .u64 (q k1)] 23) ∧ w.grownBy wr none ∧ w1.heap.size ≤ wr.heap.size) (fun _ i _ => ls.length - (intOf i).toNat)
  case atStart => exact ⟨0, Nat.zero_le _, rfl, Nat.zero_le _, OwnB.nil _ _, HB.out, HX.out, HG.out, Nat.le_refl _⟩
  case round =>
    obtain ⟨k, hk, rfl, hlen, ho, hh, hx, hg, hsz⟩ := hrel
    have HO := hid ho; have HH := hid hh; have HX2 := hid hx; have HG2 := hid hg; have HLEN := hid hlen
    obtain ⟨pv, cv, hform⟩ := ho.form
    have hat := hid ho.at
    subst hform
    clear ho hh hx hg hlen HB HG HX
    by_cases hlt2 : k < ls.length
    · obtain ⟨ab, ao, cap', hp, hcs⟩ := (HL.out.grown HG2.out).cells (by omega)
      obtain ⟨ab2, ao2, cap2, hp2, hcs2⟩ := HL.out.cells (by omega)
      have hab := cell_lt (hcs2 k hlt2).1
      have hla := (hcs2 k hlt2).2.lt
      cases hp
      cases hp2
      have hc := (hcs k hlt2).1
      have hbb := (hcs k hlt2).2
      obtain ⟨pi, ci, hfi⟩ := hbb.form
      have HBB := hid hbb; have HLA := hid hla
      clear hcs hcs2 hbb hla
      generalize hvi : (ls[k]).1 = vi at *
      generalize hli : (ls[k]).2 = li at *
      subst hfi
      have HLI := hid hli; clear hvi hli
      have hk0 : (0 : Int) ≤ (k : Int) := by omega
      have hk1 : (k : Int) < (ls.length : Int) := by omega
      generalize hA : flat (ls.take k) = A at *
      have HA := hid hA; clear hA
      by_cases h40 : 40 < li.length
      · go_wp2_with fail
        refine (told_any _).mono ?_
        rintro e w2 ⟨rfl, hg⟩
        have HT := hid hg; clear hg
        go_wp2_with fail
        go_ret
        exact ⟨rfl, gb_trans HG2.out HT.out (.inl rfl)⟩
      · have h40' : (li.length : Int) ≤ 40 := by omega
        go_wp2_with (at_builtin; refine append_bytes rfl _ _ rfl w1.heap.size (.slice pv A.length cv) A (by rfl) HO.out (.slice pi li.length ci) li (by rfl) HBB.out (by have := HLEN.out; omega) hsz ?_; intro v2 w5 hown hgrow hat2)
        have hne : ∀ g, (Value.slice pv A.length cv).ownBlock = some g → w1.heap.size ≤ g := by
          intro g hgb
          cases pv with
          | none => cases hgb
          | some a =>
            have := (hat.out a _ _ rfl).1
            cases hgb
            exact this
        have hne2 : ∀ j, j < w1.heap.size → some j ≠ (Value.slice pv A.length cv).ownBlock := fun j hj e => by have := hne j e.symm; omega
        have g5 : w.grownBy w5 none := gb_trans HG2.out hgrow (by
          cases hob : (Value.slice pv A.length cv).ownBlock with
          | none => exact .inl rfl
          | some g => exact .inr (.inr ⟨g, rfl, by have := hne g hob; omega⟩))
        have T5 : Here k0 k1 w.heap.size (w.heap.size + 1 + 1) w1.heap.size (A.foldl St.add (St.new k0 k1)) ⟨ab, ao + k, none⟩ (.slice pi li.length ci) li v2 (A ++ li) w5 :=
          ⟨by omega, hlt, at_grown HX2.out hgrow (hne2 _ (by omega)), at_grown HH.out hgrow (hne2 _ hlt), hgrow.cell hc (hne2 _ (Nat.lt_trans hab (by omega))), hab,
            HBB.out.grown hgrow (fun j e => .inr (HLA.out.elim .inl fun h => .inr fun a n c e2 => by have h1 := h a n c e2; have h2 := hne j e; omega)), HLA.out, hown⟩
        have TT := hid T5
        have G5 := hid g5
        have sz5 := gb_size hgrow
        obtain ⟨pv2, cv2, hform2⟩ := hown.form
        subst hform2
        clear hown hgrow hat2 hne hne2 g5 T5 HO HH HX2 HBB hc hat
        have hw : (q ((li.foldl St.add (A.foldl St.add (St.new k0 k1))).sum) != q (sumOf k0 k1 (A ++ li))) = false := by simp [sumOf]
        have hh := keep TT.out (.refl w5 _)
        generalize hS0 : A.foldl St.add (St.new k0 k1) = S0 at *
        have HS0 := hid hS0; clear hS0
        generalize hAL : A ++ li = AL at *
        have HAL := hid hAL; clear hAL
        go_region_held3 (fun w' => w'.cell? ⟨w.heap.size, 0, none⟩ = some (.int .u64 (q k0)) ∧ w'.cell? ⟨w.heap.size, 1, none⟩ = some (.int .u64 (q k1)) ∧ w'.cell? ⟨ab, ao + k, none⟩ = some (.slice pi li.length ci) ∧ w5.grownBy w' (some (w.heap.size + 1 + 1)))
          ((refine keep TT.out ?_; (repeat (first | assumption | exact World.grownBy.refl _ _ | with_reducible refine gb_drew ?_))))
          (first
            | (go_at_call 19; (with_reducible refine (write_any _ S0 li (.slice pi li.length ci) _ (at_drew TT.out.hh) (held_bytes (by assumption) TT.out) (held_apart TT.out)).mono ?_); rintro e wW ⟨rfl, hW, hg⟩; have gW := gb_trans (held_g (by assumption)) hg (.inr (.inl rfl)); have HW := hid hW; clear hW)
            | (go_at_call 20; (with_reducible refine (hsum_any _ _ wW HW.out).mono ?_); rintro e wa ⟨rfl, hga⟩; have ga := gb_trans (held_g (by assumption)) hga (.inl rfl))
            | (go_at_call 14; (with_reducible refine (sum_any k0 k1 AL (.slice pv2 AL.length cv2) _ (held_own (by assumption) TT.out)).mono ?_); rintro e wb ⟨rfl, hgb⟩; have gb := gb_trans (held_g (by assumption)) hgb (.inl rfl))
            | (go_at_call 20; (with_reducible refine (hsum_any _ _ wb (at_grown (at_grown HW.out hga (by simp)) hgb (by simp))).mono ?_); rintro e wc ⟨rfl, hgc⟩; have gc := gb_trans (held_g (by assumption)) hgc (.inl rfl))
            | (go_at_call 20; (with_reducible refine (hsum_any _ _ wc (at_grown (at_grown (at_grown HW.out hga (by simp)) hgb (by simp)) hgc (by simp))).mono ?_); rintro e wd ⟨rfl, hgd⟩; have gd := gb_trans (held_g (by assumption)) hgd (.inl rfl)))
        go_wp2_with fail
        go_roundw
        case rel =>
          have e1 : flat (ls.take (k + 1)) = AL := by rw [List.take_succ_eq_append_getElem hlt2, flat_snoc, HA.out, HLI.out, HAL.out]
          have e2 : AL.foldl St.add (St.new k0 k1) = li.foldl St.add S0 := by rw [← HAL.out, List.foldl_append, HS0.out]
          have e3 : AL.length = A.length + li.length := by rw [← HAL.out, List.length_append]
          have hw4 := at_grown (at_grown (at_grown (at_grown HW.out hga (by simp)) hgb (by simp)) hgc (by simp)) hgd (by simp)
          have s5 := gb_size gd
          exact ⟨k + 1, by omega, by go_num, by rw [e1, e3]; have := HLEN.out; omega, by rw [e1]; exact own_after TT.out gd, by rw [e1, e2]; exact hw4,
            at_grown TT.out.box gd (by simp; omega), gb_trans G5.out gd (.inr (.inr ⟨_, rfl, by omega⟩)), by omega⟩
        case measure => simp [intOf]; omega
    · have hkl : k = ls.length := by omega
      subst hkl
      clear hat HO HH HX2 HLEN
      go_wp2_with fail
      refine (told_any _).mono ?_
      rintro e w2 ⟨rfl, hg⟩
      have HT := hid hg; clear hg
      go_wp2_with fail
      go_ret
      exact ⟨rfl, gb_trans HG2.out HT.out (.inl rfl)⟩

theorem walk (k0 k1 : BitVec 64) (ls : List (Value × List UInt8)) {p : Option Addr} {c : Nat} {w : World} (hl : RowsAt w (.slice p ls.length c) ls) :
    Calls Try.prog 4 #[.agg #[.int .u64 (q k0), .int .u64 (q k1)], .slice p ls.length c] w fun e w' => e = .returned (.bool true) ∧ w.grownBy w' none := by
  by_cases hn : 12 < ls.length
  · exact walk_long k0 k1 p _ c hn w
  · exact walk_short k0 k1 ls p c w hl (by omega)
end Go.Proofs.Ytiamjgcmcjlopaa.parts
