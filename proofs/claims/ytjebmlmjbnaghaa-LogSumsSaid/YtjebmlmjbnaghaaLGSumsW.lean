/-
  The walk of the statement LogSums: bytes of one length that are unlike in one byte alone have unlike sums. No condition.
-/
import Derived.Test.YtjebmlmjbnaghaaLgT
import Derived.Test.YtjebmlmjbnaghaaHeld
import Derived.Test.YtjebmlmjbnaghaaUmi
import Derived.Deep.RegionHeld3
set_option linter.unusedSimpArgs false
set_option linter.unusedVariables false
namespace Go.Proofs.Ytjebmlmjbnaghaa.lgsums
set_option maxRecDepth 100000
open Go.RowKit

/-- a byte of a copy is another one now; what came in stays -/
theorem kept {w w9 : World} {v : Value} {l : List UInt8} (hv : BytesAt w v l) (hp : 0 < l.length) (hg : w.grownBy w9 none) {base g n c k : Nat} {x : List UInt8} (hb : w.heap.size ≤ g) (ho : OwnB base w9 (.slice (some ⟨g, 0, none⟩) n c) x) (hk : k < x.length) (z : UInt8) :
    BytesAt (w9.setCell ⟨g, k, none⟩ (.int .u8 (z.toNat : Int))) (.slice (some ⟨g, 0, none⟩) n c) (x.set k z) ∧ BytesAt (w9.setCell ⟨g, k, none⟩ (.int .u8 (z.toNat : Int))) v l ∧ w.grownBy (w9.setCell ⟨g, k, none⟩ (.int .u8 (z.toNat : Int))) none := by
  obtain ⟨h1, h2⟩ := ho.setb hk z
  refine ⟨h1.bytes, (hv.grown hg (by simp)).grown h2 (fun j e => .inr (.inr fun a n c ev => ?_)), gb_trans hg h2 (.inr (.inr ⟨g, rfl, hb⟩))⟩
  cases e
  rcases hv.lt with e | e
  · rw [e] at hp; cases hp
  · have := e a n c ev; omega
theorem out_walk (p : Option Addr) (n cp : Nat) (hn : ¬ (1 ≤ n ∧ n ≤ 64)) (q z : Int) (w : World) :
    Calls Try.prog 6 #[.slice p n cp, .int .i64 q, .int .u8 z] w fun e w' => e = .returned (.bool true) ∧ w.grownBy w' none := by
  by_cases h : n < 1
  · have h1 : (n : Int) < 1 := by omega
    clear hn h
    go_enter Try.func6, Try.ntmps6
    go_wp2_with fail
    refine (told_any _).mono ?_
    rintro e w1 ⟨rfl, hg⟩
    go_wp2_with fail
    go_ret
    exact ⟨rfl, hg⟩
  · have h1 : ¬ (n : Int) < 1 := by omega
    have h2 : (64 : Int) < (n : Int) := by omega
    clear hn h
    go_enter Try.func6, Try.ntmps6
    go_wp2_with fail
    refine (told_any _).mono ?_
    rintro e w1 ⟨rfl, hg⟩
    go_wp2_with fail
    go_ret
    exact ⟨rfl, hg⟩
set_option maxHeartbeats 6400000 in
theorem in_walk (ab ao cp n k : Nat) (l : List UInt8) (c bk : UInt8) (S1 S2 : Nat) (x b1 : Bool) (hl : l.length = n) (h1 : 1 ≤ n) (h64 : n ≤ 64) (hcp : n ≤ cp) (q : Int) (hq : (IntKind.u64.wrap q).tmod (n : Int) = (k : Int)) (hk : k < n) (hbk : l.getD k 0 = bk)
    (hs1 : sumN (l.set k c) = S1) (hs2 : sumN l = S2) (hx : ((S1 : Int) == (S2 : Int)) = x) (hb : ((c.toNat : Int) == (bk.toNat : Int)) = x) (w : World) (hv : BytesAt w (.slice (some ⟨ab, ao, none⟩) n cp) l) :
    Calls Try.prog 6 #[.slice (some ⟨ab, ao, none⟩) n cp, .int .i64 q, .int .u8 (c.toNat : Int)] w fun e w' => e = .returned (.bool true) ∧ w.grownBy w' none := by
  have e1 : ¬ (n : Int) < 1 := by omega
  have e2 : ¬ (64 : Int) < (n : Int) := by omega
  have e3 : ¬ (n : Int) = 0 := by omega
  have e4 : (n : Int) ≤ 64 := by omega
  have e5 : (0 : Int) < (n : Int) := by omega
  have k0 : (0 : Int) ≤ (k : Int) := by omega
  have k1 : (k : Int) < (n : Int) := by omega
  have e6 : ¬ n = 0 := by omega
  have HV := hid hv; have HL := hid hl; have HK := hid hk; have H64 := hid h64
  have HE := hid (OwnB.empty w)
  have BA := hid (hv.alloc (.cells #[] 5))
  have Q1 := hid (show ∀ (W : World) (v : Value), BytesAt W v (l.set k c) → Calls Try.prog 19 #[v] W fun e w' => e = .returned (.int .u32 (S1 : Int)) ∧ W.grownBy w' none from fun W v h => by have := lsum_any _ v W h (by rw [List.length_set, hl]; omega); rwa [hs1] at this)
  have Q2 := hid (show ∀ (W : World) (v : Value), BytesAt W v l → Calls Try.prog 19 #[v] W fun e w' => e = .returned (.int .u32 (S2 : Int)) ∧ W.grownBy w' none from fun W v h => by have := lsum_any _ v W h (by rw [hl]; omega); rwa [hs2] at this)
  have Q3 := hid (show ∀ (W : World), Calls Try.prog 19 #[.slice none 0 0] W fun e w' => e = .returned (.int .u32 0) ∧ W.grownBy w' none from fun W => by have := lsum_any [] (.slice none 0 0) W (.inl ⟨rfl, rfl⟩) (by decide); rwa [tsum.2] at this)
  have CB := hid (show ∀ W : World, BytesAt W (.slice (some ⟨ab, ao, none⟩) n cp) l → W.cell? ⟨ab, ao + k, none⟩ = some (.int .u8 (bk.toNat : Int)) from fun W h => by rw [← hbk]; exact h.cellAt k (by rw [hl]; exact hk))
  clear hv hl hk hs1 hs2 hbk h64 h1
  go_enter Try.func6, Try.ntmps6
  go_wp2_with (refine append_bytes rfl _ _ rfl w.heap.size _ [] rfl HE.out _ l rfl BA.out (by rw [HL.out]; have := H64.out; simp; omega) (gb_size (gb_alloc (.refl w none) _)) ?_; intro u9 w9 o9 g9 a9; rw [List.nil_append] at o9; obtain ⟨b9, c9, rfl, h9a, h9b, h9c, h9d⟩ := o9.fulln HL.out (by omega); have cl := byte_cell o9.bytes k (by rw [HL.out]; exact HK.out) _ rfl; have fz := o9.freeb (by rw [HL.out]; omega) k; have Z9 := hid (kept HV.out (by rw [HL.out]; omega) (gb_own (gb_alloc (.refl w none) _) HE.out (Nat.le_refl _) g9) h9c o9 (by rw [HL.out]; exact HK.out) c); have h9e : (n : Int) ≤ (c9 : Int) := by omega)
  refine wp_gen (fun wx => BytesAt wx (.slice (some ⟨b9, 0, none⟩) n c9) (l.set k c) ∧ BytesAt wx (.slice (some ⟨ab, ao, none⟩) n cp) l ∧ w.grownBy wx none) Z9.out (fun w10 h10 => ?_)
  obtain ⟨sx, sb, g⟩ := h10
  clear cl fz BA HE o9 g9 a9 h9c h9d Z9
  refine wp_region_held_drew (S := (fun w' => (BytesAt w' (.slice (some ⟨b9, 0, none⟩) n c9) (l.set k c)) ∧ (BytesAt w' (.slice (some ⟨ab, ao, none⟩) n cp) l) ∧ (w.grownBy w' none))) (by kernel_rfl) ⟨sx.drew, sb.drew, gb_drew g⟩ (fun hHeld => ?_)
  try dsimp only at hHeld
  refine wpAnyH_ready (rs := [0]) (by kernel_rfl) (by simp) ?_
  refine AllReadyH.cons (o := _) rfl (fun K hK => ?_) AllReadyH.nil
  try simp only [List.getElem_toArray, List.getElem_cons_succ, List.getElem_cons_zero]
  go_simp
  have hH2 := hHeld
  obtain ⟨sx, sb, g⟩ := hH2
  refine (told_any _).mono ?_
  rintro e w1000 ⟨rfl, hg⟩
  have L0 := hid (show (BytesAt w1000 (.slice (some ⟨b9, 0, none⟩) n c9) (l.set k c)) ∧ (BytesAt w1000 (.slice (some ⟨ab, ao, none⟩) n cp) l) ∧ (w.grownBy w1000 none) from ⟨sx.grown hg (by simp), sb.grown hg (by simp), gb_trans g hg (.inl rfl)⟩)
  clear hHeld hg sx sb g
  go_wp2_with fail
  refine hK.out _ _ ?_ (fun hHeld => ?_)
  · exact L0.out
  clear hK K
  try dsimp only at hHeld
  try simp only [Act.put, List.setIfInBounds_toArray, List.set_cons_zero, List.set_cons_succ, List.getElem_toArray, List.getElem_cons_succ, List.getElem_cons_zero]
  refine' wpAnyH_take (i := 1) (v := _) rfl (by kernel_rfl) (by kernel_rfl) (by kernel_rfl) (fun _ _ _ h => h) (Or.inl ⟨by rfl, ?_⟩) hHeld ?_
  rotate_left
  · (intro w hSw; (try dsimp only at hSw); go_simp; try with_reducible rfl)
  try simp only [Act.put, List.setIfInBounds_toArray, List.set_cons_zero, List.set_cons_succ, List.getElem_toArray, List.getElem_cons_succ, List.getElem_cons_zero]
  refine' wpAnyH_take (i := 2) (v := _) rfl (by kernel_rfl) (by kernel_rfl) (by kernel_rfl) (fun _ _ _ h => h) (Or.inl ⟨by rfl, ?_⟩) hHeld ?_
  rotate_left
  · (intro w hSw; (try dsimp only at hSw); go_simp; try with_reducible rfl)
  try simp only [Act.put, List.setIfInBounds_toArray, List.set_cons_zero, List.set_cons_succ, List.getElem_toArray, List.getElem_cons_succ, List.getElem_cons_zero]
  refine' wpAnyH_take (i := 4) (v := _) rfl (by kernel_rfl) (by kernel_rfl) (by kernel_rfl) (fun _ _ _ h => h) (Or.inl ⟨by rfl, ?_⟩) hHeld ?_
  rotate_left
  · (intro w hSw; (try dsimp only at hSw); go_simp; try with_reducible rfl)
  try simp only [Act.put, List.setIfInBounds_toArray, List.set_cons_zero, List.set_cons_succ, List.getElem_toArray, List.getElem_cons_succ, List.getElem_cons_zero]
  refine' wpAnyH_take (i := 7) (v := _) rfl (by kernel_rfl) (by kernel_rfl) (by kernel_rfl) (fun _ _ _ h => h) (Or.inl ⟨by rfl, ?_⟩) hHeld ?_
  rotate_left
  · (intro w hSw; (try dsimp only at hSw); go_simp; try with_reducible rfl)
  try simp only [Act.put, List.setIfInBounds_toArray, List.set_cons_zero, List.set_cons_succ, List.getElem_toArray, List.getElem_cons_succ, List.getElem_cons_zero]
  refine' wpAnyH_take (i := 8) (v := _) rfl (by kernel_rfl) (by kernel_rfl) (by kernel_rfl) (fun _ _ _ h => h) (Or.inl ⟨by rfl, ?_⟩) hHeld ?_
  rotate_left
  · (intro w hSw; (try dsimp only at hSw); go_simp; try with_reducible rfl)
  try simp only [Act.put, List.setIfInBounds_toArray, List.set_cons_zero, List.set_cons_succ, List.getElem_toArray, List.getElem_cons_succ, List.getElem_cons_zero]
  refine' wpAnyH_take (i := 9) (v := _) rfl (by kernel_rfl) (by kernel_rfl) (by kernel_rfl) (fun _ _ _ h => h) (Or.inl ⟨by rfl, ?_⟩) hHeld ?_
  rotate_left
  · (intro w hSw; (try dsimp only at hSw); go_simp; try with_reducible rfl)
  try simp only [Act.put, List.setIfInBounds_toArray, List.set_cons_zero, List.set_cons_succ, List.getElem_toArray, List.getElem_cons_succ, List.getElem_cons_zero]
  refine' wpAnyH_take (i := 10) (v := _) rfl (by kernel_rfl) (by kernel_rfl) (by kernel_rfl) (fun _ _ _ h => h) (Or.inl ⟨by rfl, ?_⟩) hHeld ?_
  rotate_left
  · (intro w hSw; (try dsimp only at hSw); go_simp; try with_reducible rfl)
  try simp only [Act.put, List.setIfInBounds_toArray, List.set_cons_zero, List.set_cons_succ, List.getElem_toArray, List.getElem_cons_succ, List.getElem_cons_zero]
  refine' wpAnyH_take (i := 11) (v := _) rfl (by kernel_rfl) (by kernel_rfl) (by kernel_rfl) (fun _ _ _ h => h) (Or.inl ⟨by rfl, ?_⟩) hHeld ?_
  rotate_left
  · (intro w hSw; (try dsimp only at hSw); obtain ⟨sx, sb, g⟩ := hSw; have cb := CB.out _ sb; go_simp; try with_reducible rfl)
  try simp only [Act.put, List.setIfInBounds_toArray, List.set_cons_zero, List.set_cons_succ, List.getElem_toArray, List.getElem_cons_succ, List.getElem_cons_zero]
  refine' wpAnyH_take (i := 12) (v := _) rfl (by kernel_rfl) (by kernel_rfl) (by kernel_rfl) (fun _ _ _ h => h) (Or.inl ⟨by rfl, ?_⟩) hHeld ?_
  rotate_left
  · (intro w hSw; (try dsimp only at hSw); go_simp; try with_reducible rfl)
  try simp only [Act.put, List.setIfInBounds_toArray, List.set_cons_zero, List.set_cons_succ, List.getElem_toArray, List.getElem_cons_succ, List.getElem_cons_zero]
  refine wpAnyH_ready (rs := [3]) (by kernel_rfl) (by simp) ?_
  refine AllReadyH.cons (o := _) rfl (fun K hK => ?_) AllReadyH.nil
  try simp only [List.getElem_toArray, List.getElem_cons_succ, List.getElem_cons_zero]
  go_simp
  have hH2 := hHeld
  obtain ⟨sx, sb, g⟩ := hH2
  refine (Q1.out _ _ sx).mono ?_
  rintro e w1003 ⟨rfl, hg⟩
  have L3 := hid (show (BytesAt w1003 (.slice (some ⟨b9, 0, none⟩) n c9) (l.set k c)) ∧ (BytesAt w1003 (.slice (some ⟨ab, ao, none⟩) n cp) l) ∧ (w.grownBy w1003 none) from ⟨sx.grown hg (by simp), sb.grown hg (by simp), gb_trans g hg (.inl rfl)⟩)
  clear hHeld hg sx sb g
  go_wp2_with fail
  refine hK.out _ _ ?_ (fun hHeld => ?_)
  · exact L3.out
  clear hK K
  try dsimp only at hHeld
  try simp only [Act.put, List.setIfInBounds_toArray, List.set_cons_zero, List.set_cons_succ, List.getElem_toArray, List.getElem_cons_succ, List.getElem_cons_zero]
  refine wpAnyH_ready (rs := [5]) (by kernel_rfl) (by simp) ?_
  refine AllReadyH.cons (o := _) rfl (fun K hK => ?_) AllReadyH.nil
  try simp only [List.getElem_toArray, List.getElem_cons_succ, List.getElem_cons_zero]
  go_simp
  have hH2 := hHeld
  obtain ⟨sx, sb, g⟩ := hH2
  refine (Q2.out _ _ sb).mono ?_
  rintro e w1005 ⟨rfl, hg⟩
  have L5 := hid (show (BytesAt w1005 (.slice (some ⟨b9, 0, none⟩) n c9) (l.set k c)) ∧ (BytesAt w1005 (.slice (some ⟨ab, ao, none⟩) n cp) l) ∧ (w.grownBy w1005 none) from ⟨sx.grown hg (by simp), sb.grown hg (by simp), gb_trans g hg (.inl rfl)⟩)
  clear hHeld hg sx sb g
  go_wp2_with fail
  refine hK.out _ _ ?_ (fun hHeld => ?_)
  · exact L5.out
  clear hK K
  try dsimp only at hHeld
  try simp only [Act.put, List.setIfInBounds_toArray, List.set_cons_zero, List.set_cons_succ, List.getElem_toArray, List.getElem_cons_succ, List.getElem_cons_zero]
  refine' wpAnyH_take (i := 6) (v := _) rfl (by kernel_rfl) (by kernel_rfl) (by kernel_rfl) (fun _ _ _ h => h) (Or.inl ⟨by rfl, ?_⟩) hHeld ?_
  rotate_left
  · (intro w hSw; (try dsimp only at hSw); go_simp; try with_reducible rfl)
  try simp only [Act.put, List.setIfInBounds_toArray, List.set_cons_zero, List.set_cons_succ, List.getElem_toArray, List.getElem_cons_succ, List.getElem_cons_zero]
  refine' wpAnyH_take (i := 13) (v := _) rfl (by kernel_rfl) (by kernel_rfl) (by kernel_rfl) (fun _ _ _ h => h) (Or.inl ⟨by rfl, ?_⟩) hHeld ?_
  rotate_left
  · (intro w hSw; (try dsimp only at hSw); go_simp; try with_reducible rfl)
  try simp only [Act.put, List.setIfInBounds_toArray, List.set_cons_zero, List.set_cons_succ, List.getElem_toArray, List.getElem_cons_succ, List.getElem_cons_zero]
  refine' wpAnyH_take (i := 14) (v := _) rfl (by kernel_rfl) (by kernel_rfl) (by kernel_rfl) (fun _ _ _ h => h) (Or.inl ⟨by rfl, ?_⟩) hHeld ?_
  rotate_left
  · (intro w hSw; (try dsimp only at hSw); go_simp; try with_reducible rfl)
  try simp only [Act.put, List.setIfInBounds_toArray, List.set_cons_zero, List.set_cons_succ, List.getElem_toArray, List.getElem_cons_succ, List.getElem_cons_zero]
  refine' wpAnyH_take (i := 15) (v := _) rfl (by kernel_rfl) (by kernel_rfl) (by kernel_rfl) (fun _ _ _ h => h) (Or.inl ⟨by rfl, ?_⟩) hHeld ?_
  rotate_left
  · (intro w hSw; (try dsimp only at hSw); go_simp; try with_reducible rfl)
  try simp only [Act.put, List.setIfInBounds_toArray, List.set_cons_zero, List.set_cons_succ, List.getElem_toArray, List.getElem_cons_succ, List.getElem_cons_zero]
  refine wpAnyH_ready (rs := [16]) (by kernel_rfl) (by simp) ?_
  refine AllReadyH.cons (o := _) rfl (fun K hK => ?_) AllReadyH.nil
  try simp only [List.getElem_toArray, List.getElem_cons_succ, List.getElem_cons_zero]
  go_simp
  have hH2 := hHeld
  obtain ⟨sx, sb, g⟩ := hH2
  refine (Q3.out _).mono ?_
  rintro e w1016 ⟨rfl, hg⟩
  have L16 := hid (show (BytesAt w1016 (.slice (some ⟨b9, 0, none⟩) n c9) (l.set k c)) ∧ (BytesAt w1016 (.slice (some ⟨ab, ao, none⟩) n cp) l) ∧ (w.grownBy w1016 none) from ⟨sx.grown hg (by simp), sb.grown hg (by simp), gb_trans g hg (.inl rfl)⟩)
  clear hHeld hg sx sb g
  go_wp2_with fail
  refine hK.out _ _ ?_ (fun hHeld => ?_)
  · exact L16.out
  clear hK K
  try dsimp only at hHeld
  try simp only [Act.put, List.setIfInBounds_toArray, List.set_cons_zero, List.set_cons_succ, List.getElem_toArray, List.getElem_cons_succ, List.getElem_cons_zero]
  refine' wpAnyH_take (i := 17) (v := _) rfl (by kernel_rfl) (by kernel_rfl) (by kernel_rfl) (fun _ _ _ h => h) (Or.inl ⟨by rfl, ?_⟩) hHeld ?_
  rotate_left
  · (intro w hSw; (try dsimp only at hSw); go_simp; try with_reducible rfl)
  try simp only [Act.put, List.setIfInBounds_toArray, List.set_cons_zero, List.set_cons_succ, List.getElem_toArray, List.getElem_cons_succ, List.getElem_cons_zero]
  refine' wpAnyH_take (i := 18) (v := _) rfl (by kernel_rfl) (by kernel_rfl) (by kernel_rfl) (fun _ _ _ h => h) (Or.inl ⟨by rfl, ?_⟩) hHeld ?_
  rotate_left
  · (intro w hSw; (try dsimp only at hSw); go_simp; try with_reducible rfl)
  try simp only [Act.put, List.setIfInBounds_toArray, List.set_cons_zero, List.set_cons_succ, List.getElem_toArray, List.getElem_cons_succ, List.getElem_cons_zero]
  refine' wpAnyH_take (i := 19) (v := _) rfl (by kernel_rfl) (by kernel_rfl) (by kernel_rfl) (fun _ _ _ h => h) (Or.inl ⟨by rfl, ?_⟩) hHeld ?_
  rotate_left
  · (intro w hSw; (try dsimp only at hSw); go_simp; try with_reducible rfl)
  try simp only [Act.put, List.setIfInBounds_toArray, List.set_cons_zero, List.set_cons_succ, List.getElem_toArray, List.getElem_cons_succ, List.getElem_cons_zero]
  refine wpAnyH_done (by kernel_rfl) ?_ _
  obtain ⟨sx, sb, g⟩ := hHeld
  have G := hid g; clear sx sb g
  go_wp2_with fail
  go_ret
  exact ⟨rfl, G.out⟩
theorem walk {w : World} (l : List UInt8) {p : Option Addr} {cp : Nat} (hv : BytesAt w (.slice p l.length cp) l) (q : Int) (c : UInt8) :
    Calls Try.prog 6 #[.slice p l.length cp, .int .i64 q, .int .u8 (c.toNat : Int)] w fun e w' => e = .returned (.bool true) ∧ w.grownBy w' none := by
  by_cases hn : 1 ≤ l.length ∧ l.length ≤ 64
  case neg => exact out_walk p l.length cp hn q _ w
  obtain ⟨ab, ao, cap, e, -⟩ := hv.cells (by omega)
  have hc : l.length ≤ cap := by
    rcases hv with ⟨h, _⟩ | ⟨_, _, h, h2, _⟩
    · rw [h] at e; cases e
    · rw [h] at e; cases e; exact h2
  rw [e] at hv ⊢
  obtain ⟨k, hk, mk⟩ := umod_small q l.length (by omega)
  have hs := sumN_set hk c
  by_cases h : c = l.getD k 0
  · exact in_walk ab ao cap l.length k l c (l.getD k 0) _ _ true true rfl hn.1 hn.2 hc q mk hk rfl rfl rfl (by rw [hs.2 h]; simp) (by rw [h]; simp) w hv
  · refine in_walk ab ao cap l.length k l c (l.getD k 0) _ _ false false rfl hn.1 hn.2 hc q mk hk rfl rfl rfl ?_ ?_ w hv
    · rw [beq_eq_false_iff_ne]; intro e; exact h (hs.1 (by omega))
    · rw [beq_eq_false_iff_ne]; intro e; exact h (UInt8.toNat_inj.1 (by omega))
end Go.Proofs.Ytjebmlmjbnaghaa.lgsums
