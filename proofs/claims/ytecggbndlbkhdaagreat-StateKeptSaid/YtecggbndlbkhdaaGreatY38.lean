/-
  Contract for package state: what is told of one collector. The condition: the state lies there, and the writer.
  Contracts for package state: what is told of samples, of decisions. The condition: the state lies there, and the writer.
-/
import Derived.Test.YtecggbndlbkhdaaGreatJ0
import Derived.Test.YtecggbndlbkhdaaGreatY36
import Derived.Test.YtecggbndlbkhdaaGreatY23
import Derived.Test.YtecggbndlbkhdaaGreatY8
import Derived.Test.YtecggbndlbkhdaaGreatY7
import Derived.Test.YtecggbndlbkhdaaGreatY18
import Derived.Test.YtecggbndlbkhdaaGreatY37
import Derived.Test.YtecggbndlbkhdaaGreatY3
section
set_option linter.unusedSimpArgs false
set_option linter.unusedVariables false
namespace Go.Proofs.YtecggbndlbkhdaaGreat
set_option maxRecDepth 100000
open Go.RowKit

/-- bits as a number with its sign -/
def biN (b : BitVec 64) : Int := IntKind.i64.wrap (q b)
theorem w64_biN (b : BitVec 64) : w64 (biN b) = b := by
  unfold w64 biN q
  apply BitVec.eq_of_toNat_eq
  rw [BitVec.toNat_ofInt]
  have hb := b.isLt
  simp only [IntKind.wrap, IntKind.bits, IntKind.signed]
  (repeat' split) <;> omega
/-- one collector's numbers -/
def Ste.coN (s : Ste) (i : Nat) : List Int :=
  let h := standH (s.s.H.getD i (true, 0))
  [s.g.r.gen i, s.g.r.since i, (s.g.now i).top, biN (s.g.now i).bits, (s.g.old i).top, biN (s.g.old i).bits, h.1, h.2.1, if h.2.2 = true then 1 else 0]
theorem flagz (b : Bool) (z : Int) (hz : (if b = true then 1 else 0) = z) (w : World) :
    Calls Tryz.prog 192 #[.bool b] w fun e w' => e = .returned (.int .i64 z) ∧ w.grownBy w' none := by
  subst hz; exact grow_of (flag_any b w)
set_option maxHeartbeats 3200000 in
theorem putco_any {w W0 : World} {wb : Nat} {L : List UInt8} {X : SBl} {c : Conf} {s : Ste} (hK : StAt w X c s) (h : WrK w wb L W0) (i : Nat) (hi : i < s.g.r.n) (hi2 : i < s.s.H.length) (hlen : L.length + 80 ≤ 1000000) :
    Calls Tryz.prog 91 #[.pointer (some ⟨X.b, 0, none⟩), .pointer (some ⟨wb, 0, none⟩), .int .i64 (i : Int)] W0 fun e W' => e = .returned (.tuple #[]) ∧ WrK w wb (L ++ pn (s.coN i)) W' := by
  have HK := hid hK; have H0 := hid h; have HI := hid hi; have HLN := hid hlen
  obtain ⟨h0, hh⟩ : ∃ h0, s.s.H[i]? = some h0 := ⟨_, List.getElem?_eq_getElem hi2⟩
  have HH := hid hh
  obtain ⟨sa, sc, so, hs⟩ : ∃ sa sc so, standH h0 = (sa, sc, so) := ⟨_, _, _, rfl⟩
  have HS := hid (show standV h0 = .agg #[.int .i64 sa, .int .i64 sc, .bool so] by unfold standV; rw [hs])
  obtain ⟨z, hz⟩ : ∃ z : Int, (if so = true then 1 else 0) = z := ⟨_, rfl⟩
  have HZ := hid hz
  have HCO := hid (show s.coN i = [s.g.r.gen i, s.g.r.since i, (s.g.now i).top, biN (s.g.now i).bits, (s.g.old i).top, biN (s.g.old i).bits, sa, sc, z] by
    unfold Ste.coN
    rw [List.getD_eq_getElem?_getD, hh]
    show _ :: _ :: _ :: _ :: _ :: _ :: (standH h0).1 :: (standH h0).2.1 :: [if (standH h0).2.2 = true then 1 else 0] = _
    rw [hs, ← hz])
  clear hK h hi hi2 hlen hh hs hz
  go_enter Tryz.func91, Tryz.ntmps91
  go_wp2_with fail
  refine wp_region_held_drew (S := (fun w' => (WrK w wb L w'))) (by kernel_rfl) H0.out.drew (fun hHeld => ?_)
  try dsimp only at hHeld
  refine jU 0 hHeld ?_
  try simp only [jX, jD, jE, jF]
  refine jU 1 hHeld ?_
  try simp only [jX, jD, jE, jF]
  refine jU 2 hHeld ?_
  try simp only [jX, jD, jE, jF]
  refine' jT 3 rfl (by rfl) ?_ hHeld ?_
  rotate_left
  · (intro w hSw; (try dsimp only at hSw); have WK := hSw; have c27 := (HK.out.grown WK.gr).cells.2.1; go_simp; try with_reducible rfl)
  try simp only [jX, jD, jE, jF]
  refine jU 5 hHeld ?_
  try simp only [jX, jD, jE, jF]
  refine jU 6 hHeld ?_
  try simp only [jX, jD, jE, jF]
  refine jU 7 hHeld ?_
  try simp only [jX, jD, jE, jF]
  refine' jT 8 rfl (by rfl) ?_ hHeld ?_
  rotate_left
  · (intro w hSw; (try dsimp only at hSw); have WK := hSw; have c27 := (HK.out.grown WK.gr).cells.2.1; go_simp; try with_reducible rfl)
  try simp only [jX, jD, jE, jF]
  refine jU 9 hHeld ?_
  try simp only [jX, jD, jE, jF]
  refine jU 11 hHeld ?_
  try simp only [jX, jD, jE, jF]
  refine jU 12 hHeld ?_
  try simp only [jX, jD, jE, jF]
  refine jU 13 hHeld ?_
  try simp only [jX, jD, jE, jF]
  refine' jT 14 rfl (by rfl) ?_ hHeld ?_
  rotate_left
  · (intro w hSw; (try dsimp only at hSw); have WK := hSw; have c27 := (HK.out.grown WK.gr).cells.2.1; go_simp; try with_reducible rfl)
  try simp only [jX, jD, jE, jF]
  refine jU 15 hHeld ?_
  try simp only [jX, jD, jE, jF]
  refine jR [4] ?_
  refine jG rfl (fun K hK => ?_) AllReadyH.nil
  try simp only [jD, jE, jF]
  go_simp
  have hH2 := hHeld
  have WK := hH2
  refine ((grow_of (gring_any _ (HK.out.grown WK.gr).gate))).mono ?_
  rintro e w1004 ⟨rfl, hg⟩
  have L4 := hid (show (WrK w wb L w1004) from (WK.grown hg))
  clear hHeld hg WK
  go_wp2_with fail
  refine hK.out _ _ ?_ (fun hHeld => ?_)
  · exact L4.out
  clear hK K
  try dsimp only at hHeld
  try simp only [jX, jD, jE, jF]
  refine jR [10] ?_
  refine jG rfl (fun K hK => ?_) AllReadyH.nil
  try simp only [jD, jE, jF]
  go_simp
  have hH2 := hHeld
  have WK := hH2
  refine ((greplay_in i _ (HK.out.grown WK.gr).gate HI.out)).mono ?_
  rintro e w1010 ⟨rfl, hg⟩
  have L10 := hid (show (WrK w wb L w1010) from (WK.grown hg))
  clear hHeld hg WK
  go_wp2_with fail
  refine hK.out _ _ ?_ (fun hHeld => ?_)
  · exact L10.out
  clear hK K
  try dsimp only at hHeld
  try simp only [jX, jD, jE, jF]
  refine jR [16] ?_
  refine jG rfl (fun K hK => ?_) AllReadyH.nil
  try simp only [jD, jE, jF]
  go_simp
  have hH2 := hHeld
  have WK := hH2
  refine ((gold_in i _ (HK.out.grown WK.gr).gate HI.out)).mono ?_
  rintro e w1016 ⟨rfl, hg⟩
  have L16 := hid (show (WrK w wb L w1016) from (WK.grown hg))
  clear hHeld hg WK
  go_wp2_with fail
  refine hK.out _ _ ?_ (fun hHeld => ?_)
  · exact L16.out
  clear hK K
  try dsimp only at hHeld
  try simp only [jX, jD, jE, jF]
  refine jU 17 hHeld ?_
  try simp only [jX, jD, jE, jF]
  refine jU 18 hHeld ?_
  try simp only [jX, jD, jE, jF]
  refine jU 19 hHeld ?_
  try simp only [jX, jD, jE, jF]
  refine wpAnyH_done (by kernel_rfl) ?_ _
  have WK := hHeld
  have W1 := hid WK
  clear WK
  have S1 := hid (HK.out.grown W1.out.gr)
  generalize hw1 : w1016 = V1 at *
  clear hw1
  go_wp2_with fail
  refine (rgen_in i _ S1.out.gate.ring HI.out).mono ?_
  rintro e w2 ⟨rfl, rfl⟩
  go_wp2_with fail
  refine (rsince_in i _ S1.out.gate.ring HI.out).mono ?_
  rintro e w2 ⟨rfl, rfl⟩
  have PK := hid (wput_lit W1.out [s.g.r.gen i, s.g.r.since i] (by simp) (by have h1 := HLN.out; simp only [List.length_cons, List.length_nil]; omega))
  go_wp2_with fail
  refine PK.out.mono ?_
  rintro e V2 ⟨rfl, hw, -⟩
  have W2 := hid hw
  clear hw PK W1 S1
  have S2 := hid (HK.out.grown W2.out.gr)
  go_wp2_with fail
  refine (ptop_any _ (S2.out.gate.now i HI.out)).mono ?_
  rintro e w2 ⟨rfl, rfl⟩
  go_wp2_with fail
  refine (pbits_any _ (S2.out.gate.now i HI.out)).mono ?_
  rintro e w2 ⟨rfl, rfl⟩
  have PK := hid (wput_lit W2.out [(s.g.now i).top, biN (s.g.now i).bits] (by simp) (by have h1 := HLN.out; simp only [List.length_cons, List.length_nil, List.length_append, pn_len]; omega))
  have hbi : IntKind.i64.wrap (q (s.g.now i).bits) = biN (s.g.now i).bits := rfl
  go_wp2_with fail
  refine PK.out.mono ?_
  rintro e V3 ⟨rfl, hw, -⟩
  have W3 := hid hw
  clear hw PK W2 S2 hbi
  have S3 := hid (HK.out.grown W3.out.gr)
  go_wp2_with fail
  refine (ptop_any _ (S3.out.gate.old i HI.out)).mono ?_
  rintro e w2 ⟨rfl, rfl⟩
  go_wp2_with fail
  refine (pbits_any _ (S3.out.gate.old i HI.out)).mono ?_
  rintro e w2 ⟨rfl, rfl⟩
  have PK := hid (wput_lit W3.out [(s.g.old i).top, biN (s.g.old i).bits] (by simp) (by have h1 := HLN.out; simp only [List.length_cons, List.length_nil, List.length_append, pn_len]; omega))
  have hbi : IntKind.i64.wrap (q (s.g.old i).bits) = biN (s.g.old i).bits := rfl
  go_wp2_with fail
  refine PK.out.mono ?_
  rintro e V4 ⟨rfl, hw, -⟩
  have W4 := hid hw
  clear hw PK W3 S3 hbi
  have S4 := hid (HK.out.grown W4.out.gr)
  have c29 := S4.out.cells.2.2.2.1
  go_wp2_with fail
  refine (sget_in S4.out.score i h0 HH.out).mono ?_
  rintro e V5 ⟨rfl, hg⟩
  have W5 := hid (W4.out.grown hg)
  clear hg W4 S4 c29
  have eq5 : standV h0 = .agg #[.int .i64 sa, .int .i64 sc, .bool so] := HS.out
  rw [eq5]
  have SB5 := hid (show (V5.alloc (.cells #[.int .i64 sa, .int .i64 sc, .bool so] 93)).heap[V5.heap.size]? = some (.cells #[.int .i64 sa, .int .i64 sc, .bool so] 93) from at_new _ _)
  have H5 := hid (W5.out.alloc (.cells #[.int .i64 sa, .int .i64 sc, .bool so] 93))
  clear eq5 W5
  go_upto_region 5 with (first | refine wpList_store_new (w := V5) (cs := #[.int .i64 sa, .int .i64 sc, .bool so]) rfl (by kernel_rfl) (by kernel_rfl) (by kernel_rfl) rfl rfl rfl rfl rfl ?_)
  generalize V5.heap.size = b9 at SB5 ⊢
  generalize V5.alloc (.cells #[.int .i64 sa, .int .i64 sc, .bool so] 93) = W5 at *
  have HL5 := hid (show (L ++ pn [s.g.r.gen i, s.g.r.since i] ++ pn [(s.g.now i).top, biN (s.g.now i).bits] ++ pn [(s.g.old i).top, biN (s.g.old i).bits]).length + 8 * [sa, sc, z].length ≤ 1000000 by have h1 := HLN.out; simp only [List.length_cons, List.length_nil, List.length_append, pn_len]; omega)
  have HFIN := hid (show L ++ pn (s.coN i) = L ++ pn [s.g.r.gen i, s.g.r.since i] ++ pn [(s.g.now i).top, biN (s.g.now i).bits] ++ pn [(s.g.old i).top, biN (s.g.old i).bits] ++ pn [sa, sc, z] by rw [HCO.out]; simp [pn])
  generalize L ++ pn [s.g.r.gen i, s.g.r.since i] ++ pn [(s.g.now i).top, biN (s.g.now i).bits] ++ pn [(s.g.old i).top, biN (s.g.old i).bits] = L4 at *
  refine wp_region_last (S := (fun w' => (WrK w wb L4 w') ∧ (w'.heap[b9]? = some (.cells #[.int .i64 sa, .int .i64 sc, .bool so] 93)))) 9 9 #[false, false, false, false, false, false, false, false, false, true] (by kernel_rfl) (by kernel_rfl) (by kernel_rfl) (by kernel_rfl) ⟨H5.out.drew, SB5.out⟩ (fun hHeld => ?_)
  try dsimp only at hHeld
  refine jU 0 hHeld ?_
  try simp only [jX, jD, jE, jF]
  refine jU 1 hHeld ?_
  try simp only [jX, jD, jE, jF]
  refine' jT 2 rfl (by rfl) ?_ hHeld ?_
  rotate_left
  · (intro w hSw; (try dsimp only at hSw); obtain ⟨WK, SB⟩ := hSw; have s0 := at_cell SB 0; go_simp; try with_reducible rfl)
  try simp only [jX, jD, jE, jF]
  refine jU 3 hHeld ?_
  try simp only [jX, jD, jE, jF]
  refine' jT 4 rfl (by rfl) ?_ hHeld ?_
  rotate_left
  · (intro w hSw; (try dsimp only at hSw); obtain ⟨WK, SB⟩ := hSw; have s1 := at_cell SB 1; go_simp; try with_reducible rfl)
  try simp only [jX, jD, jE, jF]
  refine jU 5 hHeld ?_
  try simp only [jX, jD, jE, jF]
  refine' jT 6 rfl (by rfl) ?_ hHeld ?_
  rotate_left
  · (intro w hSw; (try dsimp only at hSw); obtain ⟨WK, SB⟩ := hSw; have s2 := at_cell SB 2; go_simp; try with_reducible rfl)
  try simp only [jX, jD, jE, jF]
  refine jR [7] ?_
  refine jG rfl (fun K hK => ?_) AllReadyH.nil
  try simp only [jD, jE, jF]
  go_simp
  have hH2 := hHeld
  obtain ⟨WK, SB⟩ := hH2
  refine ((flagz so z HZ.out _)).mono ?_
  rintro e w1007 ⟨rfl, hg⟩
  have L7 := hid (show (WrK w wb L4 w1007) ∧ (w1007.heap[b9]? = some (.cells #[.int .i64 sa, .int .i64 sc, .bool so] 93)) from ⟨WK.grown hg, at_grown SB hg (by simp)⟩)
  clear hHeld hg WK SB
  go_wp2_with fail
  refine hK.out _ _ ?_ (fun hHeld => ?_)
  · exact L7.out
  clear hK K
  try dsimp only at hHeld
  try simp only [jX, jD, jE, jF]
  refine jR [8] ?_
  refine jG rfl (fun K hK => ?_) AllReadyH.nil
  have hH2 := hHeld
  obtain ⟨WK, SB⟩ := hH2
  have hg : w1007.grownBy (w1007.alloc (litObj [sa, sc, z])) none := World.grownBy_alloc _ _ _
  have WKP := hid WK
  have L8 := hid (show (WrK w wb L4 ((w1007.alloc (litObj [sa, sc, z])))) ∧ (((w1007.alloc (litObj [sa, sc, z]))).heap[b9]? = some (.cells #[.int .i64 sa, .int .i64 sc, .bool so] 93)) from ⟨WK.grown hg, at_grown SB hg (by simp)⟩)
  clear hHeld hg WK SB
  try simp only [jD, jE, jF]
  go_simp
  refine hK.out _ _ ?_ (fun hHeld => ?_)
  · exact L8.out
  clear hK K
  try dsimp only at hHeld
  try simp only [jX, jD, jE, jF]
  refine wpAnyH_done (by kernel_rfl) ?_ _
  obtain ⟨WK, SB⟩ := hHeld
  clear WK SB
  refine atLast_step (o := _) rfl (fun K hK => ?_)
  try simp only [jD, jE, jF]
  go_simp
  refine (wput_lit WKP.out [sa, sc, z] (by simp) HL5.out).mono ?_
  rintro e W9 ⟨rfl, hw, hb⟩
  have WF := hid hw
  clear hw hb WKP
  go_wp2_with fail
  refine hK.out _ _ ?_
  clear hK K
  try simp only [jX, jD, jE, jF]
  go_wp2_with fail
  go_end0
  exact ⟨rfl, by rw [HFIN.out]; exact WF.out⟩
end Go.Proofs.YtecggbndlbkhdaaGreat
end
section
set_option linter.unusedSimpArgs false
set_option linter.unusedVariables false
namespace Go.Proofs.YtecggbndlbkhdaaGreat
set_option maxRecDepth 100000
open Go.RowKit

theorem OwnZ.byw {wb base : Nat} {W W' : World} {v : Value} {l : List Sm} {c : Array Value} (h : OwnZ base W v l) (hb : ByW wb W W') (hw : W.heap[wb]? = some (.cells c 167)) : OwnZ base W' v l := by
  obtain ⟨h0, h | ⟨g, cap, cur, e, hb', hh, h1⟩⟩ := h
  · exact ⟨h0, .inl h⟩
  · exact ⟨h0, .inr ⟨g, cap, cur, e, hb', hb.at hh (by decide) (obj_ne hh hw (by decide)), h1⟩⟩
theorem OwnN.byw {wb base : Nat} {W W' : World} {v : Value} {l : List Int} {c : Array Value} (h : OwnN base W v l) (hb : ByW wb W W') (hw : W.heap[wb]? = some (.cells c 167)) : OwnN base W' v l := by
  obtain ⟨h0, h | ⟨g, cap, cur, e, hb', hh, h1⟩⟩ := h
  · exact ⟨h0, .inl h⟩
  · exact ⟨h0, .inr ⟨g, cap, cur, e, hb', hb.at hh (by decide) (obj_ne hh hw (by decide)), h1⟩⟩
theorem dec_vals {W : World} {b : Nat} {d : Dc} (h : W.heap[b]? = some (dcObj d)) : IntsAt W (.slice (some ⟨b, 4, none⟩) 4 4) [d.v0, d.v1, d.v2, d.v3] := by
  refine .inr ⟨⟨b, 4, none⟩, 4, rfl, Nat.le_refl _, by unfold maxLen; omega, fun i hi => ?_⟩
  rw [dadd_at, at_cell h]
  have hi : i < 4 := hi
  rcases (by omega : i = 0 ∨ i = 1 ∨ i = 2 ∨ i = 3) with rfl | rfl | rfl | rfl <;> rfl
theorem flat_lenG {α β : Type} {k : Nat} (f : α → List β) (hf : ∀ a, (f a).length = k) (l : List α) : (l.flatMap f).length = l.length * k := by
  induction l with
  | nil => simp
  | cons a r ih => rw [List.flatMap_cons, List.length_append, ih, hf, List.length_cons, Nat.succ_mul]; omega
def saN (x : Sm) : List Int := [x.ep, x.met, x.who, x.val]
def deN (d : Dc) : List Int := [d.ep, d.rep, d.want, if d.hold = true then 1 else 0, d.v0, d.v1, d.v2, d.v3]
theorem saN_len (l : List Sm) : (l.flatMap saN).length = l.length * 4 := flat_lenG saN (fun _ => rfl) l
theorem deN_len (l : List Dc) : (l.flatMap deN).length = l.length * 8 := flat_lenG deN (fun _ => rfl) l
set_option maxHeartbeats 3200000 in
theorem putsa_any {w W0 : World} {wb : Nat} {L : List UInt8} {X : SBl} {c : Conf} {s : Ste} (hK : StAt w X c s) (h : WrK w wb L W0) (hl : s.t.length ≤ 1000) (hlen : L.length + 40000 ≤ 1000000) :
    Calls Tryz.prog 98 #[.pointer (some ⟨X.b, 0, none⟩), .pointer (some ⟨wb, 0, none⟩)] W0 fun e W' => e = .returned (.tuple #[]) ∧ WrK w wb (L ++ pn ((s.t.length : Int) :: s.t.flatMap saN)) W' := by
  have HLN := hid hlen; have HTL := hid hl
  have H0 := hid h; have HK := hid hK
  have K0 := hid (hK.grown h.gr)
  have c28 := K0.out.cells.2.2.1
  have TA := hid (tall_any K0.out.table (by omega))
  clear hK h hl hlen
  go_enter Tryz.func98, Tryz.ntmps98
  go_wp2_with fail
  refine TA.out.mono ?_
  rintro e W1 ⟨v, rfl, ho, hg⟩
  have H1 := hid (H0.out.grown hg)
  have O1 := hid ho
  obtain ⟨p, cp, rfl⟩ := ho.form
  have PK := hid (wput_lit H1.out [(s.t.length : Int)] (by simp) (by have h1 := HLN.out; simp only [List.length_cons, List.length_nil]; omega))
  clear ho hg TA c28 K0 H0
  go_wp2_with fail
  refine PK.out.mono ?_
  rintro e W2 ⟨rfl, hw, hb⟩
  have H2 := hid hw
  obtain ⟨vw, hvw, -⟩ := H1.out.obj
  have O2 := hid (O1.out.byw hb hvw)
  have hnb : s.t.length ≤ 1000 := HTL.out
  clear hw hb hvw PK H1 O1
  go_wp2_with fail
  go_loopw [6, 19] (fun _ i wr => ∃ k : Nat, k ≤ s.t.length ∧ i = .int .i64 (k : Int) ∧ WrK w wb (L ++ pn ((s.t.length : Int) :: (s.t.take k).flatMap saN)) wr ∧ OwnZ W0.heap.size wr (.slice p s.t.length cp) s.t) (fun _ i _ => s.t.length - (intOf i).toNat)
  case atStart => exact ⟨0, Nat.zero_le _, rfl, H2.out, O2.out⟩
  case round =>
    obtain ⟨k, hk, rfl, hW, hO⟩ := hrel
    have HW := hid hW; have HO := hid hO
    clear hW hO
    by_cases hlt : k < s.t.length
    · have hk1 : k + 1 ≤ s.t.length := hlt
      obtain ⟨ab, ao, rfl, -, hcc, e0, e1, e2, e3⟩ := HO.out.reads.cells hlt
      have HPQ := hid (show L ++ pn ((s.t.length : Int) :: (s.t.take (k + 1)).flatMap saN) = (L ++ pn ((s.t.length : Int) :: (s.t.take k).flatMap saN)) ++ pn (saN s.t[k]) by
        rw [List.take_succ_eq_append_getElem hlt, List.flatMap_append, ← List.cons_append, pn_append, List.append_assoc]
        simp)
      have hll : (L ++ pn ((s.t.length : Int) :: (s.t.take k).flatMap saN)).length + 8 * 4 ≤ 1000000 := by
        have h1 := HLN.out
        rw [List.length_append, pn_len, List.length_cons, saN_len, List.length_take]; omega
      have HLL := hid hll
      generalize s.t[k] = x at *
      obtain ⟨xw, xm, xe, xv⟩ := x
      dsimp only at e0 e1 e2 e3
      have pk := wput_lit (HW.out.alloc (.cells #[.int .i64 xw, .int .i64 xm, .int .i64 xe, .int .i64 xv] 91)) [xe, xm, xw, xv] (by simp) hll
      rw [size_new] at pk
      have PK := hid pk
      clear hll pk
      go_wp2_with fail
      refine PK.out.mono ?_
      rintro e W3 ⟨rfl, hw, hb⟩
      obtain ⟨vw, hvw, -⟩ := HW.out.obj
      have H3 := hid (show WrK w wb (L ++ pn ((s.t.length : Int) :: (s.t.take (k + 1)).flatMap saN)) W3 by rw [HPQ.out]; exact hw)
      have O3 := hid ((HO.out.grown (World.grownBy_alloc wr (.cells #[.int .i64 xw, .int .i64 xm, .int .i64 xe, .int .i64 xv] 91) none)).byw hb (at_alloc hvw _))
      clear hw hb hvw PK e0 e1 e2 e3
      go_wp2_with fail
      go_roundw
      case rel => exact ⟨k + 1, hk1, by go_num, H3.out, O3.out⟩
      case measure => first | (simp [intOf]; done) | (simp [intOf]; omega)
    · have ek : k = s.t.length := by omega
      have hw := HW.out
      rw [ek, List.take_length] at hw
      have HF := hid hw
      clear hw ek
      go_wp2_with fail
      go_end0
      exact ⟨rfl, HF.out⟩
set_option maxHeartbeats 3200000 in
theorem putde_any {w W0 : World} {wb : Nat} {L : List UInt8} {X : SBl} {c : Conf} {s : Ste} (hK : StAt w X c s) (h : WrK w wb L W0) (hl : s.ds.length ≤ 64) (hlen : L.length + 5000 ≤ 1000000) :
    Calls Tryz.prog 99 #[.pointer (some ⟨X.b, 0, none⟩), .pointer (some ⟨wb, 0, none⟩)] W0 fun e W' => e = .returned (.tuple #[]) ∧ WrK w wb (L ++ pn ((s.ds.length : Int) :: s.ds.flatMap deN)) W' := by
  have HLN := hid hlen; have HTL := hid hl
  have H0 := hid h; have HK := hid hK
  have c31 := (hK.grown h.gr).cells.2.2.2.2.2
  obtain ⟨p, cp, hd⟩ := hK.decs.form
  rw [hd] at c31
  have HD := hid hd
  have PK := hid (wput_lit h [(s.ds.length : Int)] (by simp) (by simp only [List.length_cons, List.length_nil]; omega))
  clear hK h hlen hd
  go_enter Tryz.func99, Tryz.ntmps99
  go_wp2_with fail
  refine PK.out.mono ?_
  rintro e W2 ⟨rfl, hw, -⟩
  have H2 := hid hw
  have c31 := (HK.out.grown hw.gr).cells.2.2.2.2.2
  rw [HD.out] at c31
  clear hw PK H0
  go_wp2_with fail
  clear c31
  go_loopw [5, 19] (fun _ i wr => ∃ k : Nat, k ≤ s.ds.length ∧ i = .int .i64 (k : Int) ∧ WrK w wb (L ++ pn ((s.ds.length : Int) :: (s.ds.take k).flatMap deN)) wr) (fun _ i _ => s.ds.length - (intOf i).toNat)
  case atStart => exact ⟨0, Nat.zero_le _, rfl, H2.out⟩
  case round =>
    obtain ⟨k, hk, rfl, hW⟩ := hrel
    have HW := hid hW
    have hDS := (HK.out.grown hW.gr).decs.reads
    rw [HD.out] at hDS
    clear hW
    by_cases hlt : k < s.ds.length
    · have hk1 : k + 1 ≤ s.ds.length := hlt
      obtain ⟨ab, ao, rfl, -, hcc, e0, e1, e2, e3, e4, e5, e6, e7⟩ := hDS.cells hlt
      clear hDS
      have HPQ := hid (show L ++ pn ((s.ds.length : Int) :: (s.ds.take (k + 1)).flatMap deN) = (L ++ pn ((s.ds.length : Int) :: (s.ds.take k).flatMap deN)) ++ pn (deN s.ds[k]) by
        rw [List.take_succ_eq_append_getElem hlt, List.flatMap_append, ← List.cons_append, pn_append, List.append_assoc]
        simp)
      have hll : (L ++ pn ((s.ds.length : Int) :: (s.ds.take k).flatMap deN)).length + 8 * 8 ≤ 1000000 := by
        have h1 := HLN.out
        rw [List.length_append, pn_len, List.length_cons, deN_len, List.length_take]; omega
      generalize s.ds[k] = d at *
      obtain ⟨LL, hLL⟩ : ∃ LL, L ++ pn ((s.ds.length : Int) :: (s.ds.take k).flatMap deN) = LL := ⟨_, rfl⟩
      rw [hLL] at HW hll HPQ
      obtain ⟨z, hz⟩ : ∃ z : Int, (if d.hold = true then 1 else 0) = z := ⟨_, rfl⟩
      have HZ := hid hz
      have HNX := hid (show L ++ pn ((s.ds.length : Int) :: (s.ds.take (k + 1)).flatMap deN) = LL ++ pn [d.ep, d.rep, d.want, z] ++ pn [d.v0, d.v1, d.v2, d.v3] by
        rw [HPQ.out, ← hz, List.append_assoc, ← pn_append]; rfl)
      have HL5 := hid (show LL.length + 8 * [d.ep, d.rep, d.want, z].length ≤ 1000000 by simp only [List.length_cons, List.length_nil]; omega)
      have HL8 := hid hll
      have SB5 := hid (at_new wr (dcObj d))
      have H5 := hid (HW.out.alloc (dcObj d))
      have N5 := hid (show wr.heap.size ≠ wb from fun e => by have := HW.out.lt; omega)
      clear hLL hz hll HPQ
      go_upto_region 4 with fail
      clear e0 e1 e2 e3 e4 e5 e6 e7
      generalize wr.heap.size = b5 at SB5 N5 ⊢
      generalize wr.alloc (dcObj d) = W5 at *
      clear HW
      refine wp_region_last (S := (fun w' => (WrK w wb LL w') ∧ (w'.heap[b5]? = some (dcObj d)))) 11 11 #[false, false, false, false, false, false, false, false, false, false, false, true] (by kernel_rfl) (by kernel_rfl) (by kernel_rfl) (by kernel_rfl) ⟨H5.out.drew, SB5.out⟩ (fun hHeld => ?_)
      try dsimp only at hHeld
      refine jU 0 hHeld ?_
      try simp only [jX, jD, jE, jF]
      refine jU 1 hHeld ?_
      try simp only [jX, jD, jE, jF]
      refine' jT 2 rfl (by rfl) ?_ hHeld ?_
      rotate_left
      · (intro w hSw; (try dsimp only at hSw); obtain ⟨WK, DB⟩ := hSw; have s0 := at_cell DB 0; go_simp; try with_reducible rfl)
      try simp only [jX, jD, jE, jF]
      refine jU 3 hHeld ?_
      try simp only [jX, jD, jE, jF]
      refine' jT 4 rfl (by rfl) ?_ hHeld ?_
      rotate_left
      · (intro w hSw; (try dsimp only at hSw); obtain ⟨WK, DB⟩ := hSw; have s1 := at_cell DB 1; go_simp; try with_reducible rfl)
      try simp only [jX, jD, jE, jF]
      refine jU 5 hHeld ?_
      try simp only [jX, jD, jE, jF]
      refine' jT 6 rfl (by rfl) ?_ hHeld ?_
      rotate_left
      · (intro w hSw; (try dsimp only at hSw); obtain ⟨WK, DB⟩ := hSw; have s2 := at_cell DB 2; go_simp; try with_reducible rfl)
      try simp only [jX, jD, jE, jF]
      refine jU 7 hHeld ?_
      try simp only [jX, jD, jE, jF]
      refine' jT 8 rfl (by rfl) ?_ hHeld ?_
      rotate_left
      · (intro w hSw; (try dsimp only at hSw); obtain ⟨WK, DB⟩ := hSw; have s3 := at_cell DB 3; go_simp; try with_reducible rfl)
      try simp only [jX, jD, jE, jF]
      refine jR [9] ?_
      refine jG rfl (fun K hK => ?_) AllReadyH.nil
      try simp only [jD, jE, jF]
      go_simp
      have hH2 := hHeld
      obtain ⟨WK, DB⟩ := hH2
      refine ((flagz d.hold z HZ.out _)).mono ?_
      rintro e w1009 ⟨rfl, hg⟩
      have L9 := hid (show (WrK w wb LL w1009) ∧ (w1009.heap[b5]? = some (dcObj d)) from ⟨WK.grown hg, at_grown DB hg (by simp)⟩)
      clear hHeld hg WK DB
      go_wp2_with fail
      refine hK.out _ _ ?_ (fun hHeld => ?_)
      · exact L9.out
      clear hK K
      try dsimp only at hHeld
      try simp only [jX, jD, jE, jF]
      refine jR [10] ?_
      refine jG rfl (fun K hK => ?_) AllReadyH.nil
      have hH2 := hHeld
      obtain ⟨WK, DB⟩ := hH2
      have hg : w1009.grownBy (w1009.alloc (litObj [d.ep, d.rep, d.want, z])) none := World.grownBy_alloc _ _ _
      have WKP := hid WK
      have DBP := hid DB
      have L10 := hid (show (WrK w wb LL ((w1009.alloc (litObj [d.ep, d.rep, d.want, z])))) ∧ (((w1009.alloc (litObj [d.ep, d.rep, d.want, z]))).heap[b5]? = some (dcObj d)) from ⟨WK.grown hg, at_grown DB hg (by simp)⟩)
      clear hHeld hg WK DB
      try simp only [jD, jE, jF]
      go_simp
      refine hK.out _ _ ?_ (fun hHeld => ?_)
      · exact L10.out
      clear hK K
      try dsimp only at hHeld
      try simp only [jX, jD, jE, jF]
      refine wpAnyH_done (by kernel_rfl) ?_ _
      obtain ⟨WK, DB⟩ := hHeld
      clear WK DB
      refine atLast_step (o := _) rfl (fun K hK => ?_)
      try simp only [jD, jE, jF]
      go_simp
      refine (wput_lit WKP.out [d.ep, d.rep, d.want, z] (by simp) HL5.out).mono ?_
      rintro e W9 ⟨rfl, hw, hb⟩
      have WF := hid hw
      have N9 := hid (show b5 ≠ wb from N5.out)
      have D9 := hid (hb.at DBP.out (by decide) N5.out)
      clear hw hb WKP DBP
      go_wp2_with fail
      refine hK.out _ _ ?_
      clear hK K
      try simp only [jX, jD, jE, jF]
      have PK := hid (wput_any WF.out (xv := .slice (some ⟨b5, 4, none⟩) 4 4) (ns := [d.v0, d.v1, d.v2, d.v3]) (fun W' hW => dec_vals (hW.at D9.out (by decide) N9.out)) (by have h1 := HL8.out; simp only [List.length_cons, List.length_nil, List.length_append, pn_len]; omega))
      go_wp2_with fail
      refine PK.out.mono ?_
      rintro e W10 ⟨rfl, hw, -⟩
      have WL := hid hw
      clear hw PK WF D9
      go_wp2_with fail
      go_roundw
      case rel => exact ⟨k + 1, hk1, by go_num, by rw [HNX.out]; exact WL.out⟩
      case measure => first | (simp [intOf]; done) | (simp [intOf]; omega)
    · have ek : k = s.ds.length := by omega
      have hw := HW.out
      rw [ek, List.take_length] at hw
      have HF := hid hw
      clear hw ek hDS
      go_wp2_with fail
      go_end0
      exact ⟨rfl, HF.out⟩
end Go.Proofs.YtecggbndlbkhdaaGreat
end
