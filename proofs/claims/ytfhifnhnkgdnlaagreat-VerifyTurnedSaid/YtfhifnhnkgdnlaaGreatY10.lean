/-
  Contract: what the law makes of numbers is a configuration that may be. The condition: the numbers read as a list.
  Contract: the law's own examples: the program tells what the document says of a few envelopes that come to a gate. No condition.
  The names of a configuration's parts, as both statements on parts lay them. No condition.
  A made configuration may be; with one part far beyond its bounds it is wrong by that part's name. No condition.
  '==' of two messages: part for part. No condition.
  What the laws of a gate begin with: a made configuration, a gate of it, a collector. No condition.
  What the arguments of a law read as, told to the walk: arrays of words, slices of bytes, of words, of slices of bytes. And: arguments read behind the call as they did before it, where nothing that was there has changed. No condition. Nothing of the program's functions is named here.
  The opening of five parameters and more at once. No condition.
-/
import Derived.Test.YtfhifnhnkgdnlaaGreatJ0
import Derived.Test.YtfhifnhnkgdnlaaGreatY9
import Derived.Deep.CutBlock
import Derived.LoopTactic
import Derived.Deep.RegionHeld3
import Derived.Deep.CutRange
import Derived.Test.YtfhifnhnkgdnlaaGreatY7
import Derived.Test.YtfhifnhnkgdnlaaGreatY2
import Derived.Laws.StructEq
import Derived.Test.YtfhifnhnkgdnlaaGreatY1
import Derived.ProofKit
import Derived.OpenShut
import Derived.ChangeOld
import Derived.Below
import Derived.Carry
section
set_option linter.unusedSimpArgs false
namespace Go.Proofs.YtfhifnhnkgdnlaaGreat
set_option maxRecDepth 100000
open Go.RowKit

/-- the function's own blocks -/
structure Fx (w0 : World) (R N x : Nat) (ns : List Int) (c : Conf) (w : World) : Prop where
  hR : w.heap[R]? = some (.cells zeroC.cells 27)
  hN : w.heap[N]? = some (.cells (ns.map (Value.int .i64)).toArray 91)
  hx : w.heap[x]? = some (.cells c.cells 27)
  g : w0.grownBy w none
theorem cgb_setRow {w w1 : World} {r : Option Nat} {b : Nat} (h : w.grownBy w1 r) (hb : w.heap.size ≤ b) (cs : Array Value) : w.grownBy (w1.setRow b cs) r :=
  ⟨h.os, h.tape, h.output, by simpa [World.setRow] using h.size, fun k hk hr => by
    rw [at_setRow_other rfl (show k ≠ b by omega)]; exact h.block k hk hr⟩
theorem tmod_in (z m : Int) (hz : 0 ≤ z) (hm : 0 < m) : 0 ≤ z.tmod m ∧ z.tmod m < m := by
  rw [Int.tmod_eq_emod_of_nonneg hz]
  exact ⟨Int.emod_nonneg _ (by omega), Int.emod_lt_of_pos _ hm⟩
theorem tdiv_in (z m : Int) (hz : 0 ≤ z) (hm : 0 < m) : 0 ≤ z.tdiv m ∧ z.tdiv m ≤ z := by
  rw [Int.tdiv_eq_ediv_of_nonneg hz]
  exact ⟨Int.ediv_nonneg hz (by omega), Int.ediv_le_self _ hz⟩
def Okn (ns : List Int) : Prop := ns.length = 20 ∧ ∀ z ∈ ns, 0 ≤ z ∧ z < 100000
theorem okn_twenty {ns : List Int} (h : Okn ns) : ∃ n0 n1 n2 n3 n4 n5 n6 n7 n8 n9 n10 n11 n12 n13 n14 n15 n16 n17 n18 n19 : Int, ns = [n0, n1, n2, n3, n4, n5, n6, n7, n8, n9, n10, n11, n12, n13, n14, n15, n16, n17, n18, n19] ∧ (0 ≤ n0 ∧ n0 < 100000) ∧ (0 ≤ n1 ∧ n1 < 100000) ∧ (0 ≤ n2 ∧ n2 < 100000) ∧ (0 ≤ n3 ∧ n3 < 100000) ∧ (0 ≤ n4 ∧ n4 < 100000) ∧ (0 ≤ n5 ∧ n5 < 100000) ∧ (0 ≤ n6 ∧ n6 < 100000) ∧ (0 ≤ n7 ∧ n7 < 100000) ∧ (0 ≤ n8 ∧ n8 < 100000) ∧ (0 ≤ n9 ∧ n9 < 100000) ∧ (0 ≤ n10 ∧ n10 < 100000) ∧ (0 ≤ n11 ∧ n11 < 100000) ∧ (0 ≤ n12 ∧ n12 < 100000) ∧ (0 ≤ n13 ∧ n13 < 100000) ∧ (0 ≤ n14 ∧ n14 < 100000) ∧ (0 ≤ n15 ∧ n15 < 100000) ∧ (0 ≤ n16 ∧ n16 < 100000) ∧ (0 ≤ n17 ∧ n17 < 100000) ∧ (0 ≤ n18 ∧ n18 < 100000) ∧ (0 ≤ n19 ∧ n19 < 100000) := by
  obtain ⟨h1, h2⟩ := h
  match ns, h1 with
  | [n0, n1, n2, n3, n4, n5, n6, n7, n8, n9, n10, n11, n12, n13, n14, n15, n16, n17, n18, n19], _ => exact ⟨n0, n1, n2, n3, n4, n5, n6, n7, n8, n9, n10, n11, n12, n13, n14, n15, n16, n17, n18, n19, rfl, h2 _ (by simp), h2 _ (by simp), h2 _ (by simp), h2 _ (by simp), h2 _ (by simp), h2 _ (by simp), h2 _ (by simp), h2 _ (by simp), h2 _ (by simp), h2 _ (by simp), h2 _ (by simp), h2 _ (by simp), h2 _ (by simp), h2 _ (by simp), h2 _ (by simp), h2 _ (by simp), h2 _ (by simp), h2 _ (by simp), h2 _ (by simp), h2 _ (by simp)⟩
/-- what a made configuration keeps -/
structure Fine (c : Conf) : Prop where
  f : 0 ≤ c.f ∧ c.f ≤ 2
  n : 3 * c.f + 1 ≤ c.n ∧ c.n ≤ 3 * c.f + 4
  m : c.m = 1 ∧ c.t1 = 0 ∨ c.m = 2 ∧ 1 ≤ c.t1 ∧ c.t1 ≤ 2000
  quorum : 2 * c.f + 1 ≤ c.quorum ∧ c.quorum ≤ c.n
  fresh : 1 ≤ c.fresh ∧ c.fresh ≤ 3
  grace : 1 ≤ c.grace ∧ c.grace ≤ 3
  window : 1 ≤ c.window ∧ c.window ≤ 64
  t0 : 1 ≤ c.t0 ∧ c.t0 ≤ 2000
  t2 : c.t2 = 0
  t3 : c.t3 = 0
  tol : 0 ≤ c.tol ∧ c.tol ≤ 299
  min : 1 ≤ c.min ∧ c.min ≤ 5
  max : c.min ≤ c.max ∧ c.max ≤ c.min + 99
  calmup : 0 ≤ c.calmup ∧ c.calmup ≤ 3
  calmdown : 0 ≤ c.calmdown ∧ c.calmdown ≤ 4
  podsup : 1 ≤ c.podsup ∧ c.podsup ≤ 5
  pctup : 1 ≤ c.pctup ∧ c.pctup ≤ 150
  podsdown : 1 ≤ c.podsdown ∧ c.podsdown ≤ 5
  pctdown : 1 ≤ c.pctdown ∧ c.pctdown ≤ 100
  period : 1 ≤ c.period ∧ c.period ≤ 4
  far : 0 ≤ c.far ∧ c.far ≤ 499
  strikes : 1 ≤ c.strikes ∧ c.strikes ≤ 3
  probe : 1 ≤ c.probe ∧ c.probe ≤ 4
  sectors : 64 ≤ c.sectors ∧ c.sectors ≤ 363
  seed : 0 ≤ c.seed ∧ c.seed < 100000
theorem fine_dflt : Fine dflt := by constructor <;> decide

set_option maxHeartbeats 12800000 in
theorem fit_any (l : List Int) (p : Option Addr) (cap : Nat) (w : World) (hl : IntsAt w (.slice p l.length cap) l) :
    Calls Tryz.prog 9 #[.slice p l.length cap] w fun e w' => ∃ c : Conf, e = .returned (cf c) ∧ Fine c ∧ w.grownBy w' none := by
  have HL := hid hl; clear hl
  go_enter Tryz.func9, Tryz.ntmps9
  go_wp2_with fail
  refine (refdefault_any _).mono ?_
  rintro e w1 ⟨rfl, hg⟩
  have hR1 : w1.heap[w.heap.size]? = some (.cells zeroC.cells 27) := at_grown (at_new w _) hg (by simp)
  have hRx : w.heap.size < w1.heap.size := at_lt hR1
  have G1 := hid (gb_trans (gb_alloc (.refl w none) _) hg (.inl rfl)); clear hg
  have HR := hid hR1; clear hR1
  go_upto_block 0 with (first | refine wpList_store_new (w := w1) (cs := dflt.cells) rfl (by kernel_rfl) (by kernel_rfl) (by kernel_rfl) rfl rfl rfl rfl rfl ?_)
  have F0 := hid (show Fx w w.heap.size (w1.heap.size + 1) w1.heap.size (List.replicate 20 0) dflt ((w1.alloc (.cells dflt.cells 27)).alloc (.cells ((List.replicate 20 (0 : Int)).map (Value.int .i64)).toArray 91)) from
    ⟨at_alloc (at_alloc HR.out _) _, by rw [← size_new w1 (.cells dflt.cells 27)]; exact at_new _ _, at_alloc (at_new w1 _) _, gb_alloc (gb_alloc G1.out _) _⟩)
  have hLx : w.heap.size ≤ w1.heap.size := by omega
  have hNx : w1.heap.size + 1 ≠ w1.heap.size := by omega
  have hRN : w.heap.size ≠ w1.heap.size + 1 := by omega
  have hLN : w.heap.size ≤ w1.heap.size + 1 := by omega
  have hRx' : w.heap.size ≠ w1.heap.size := by omega
  refine wp_gen (Fx w w.heap.size (w1.heap.size + 1) w1.heap.size (List.replicate 20 0) dflt) F0.out ?_
  clear F0 HR G1 hRx
  generalize w1.heap.size + 1 = N at hNx hRN hLN ⊢
  generalize w1.heap.size = x at hLx hNx hRx' ⊢
  obtain ⟨R, hR⟩ : ∃ R, R = w.heap.size := ⟨_, rfl⟩
  have hLR : w.heap.size ≤ R := by omega
  rw [← hR] at hRN hRx' ⊢
  clear hR
  intro w2 h2
  have F2 := hid h2; clear h2
  go_cut [5] from 8 to 26 (fun i wx => ∃ ns, i = i ∧ Okn ns ∧ Fx w R N x ns dflt wx)
  case first =>
    go_wp2_with fail
    go_loopw [5] (fun i wr => ∃ (k : Nat) (ns : List Int), k ≤ 20 ∧ i = .int .i64 (k : Int) ∧ Okn ns ∧ Fx w R N x ns dflt wr) (fun i _ => 20 - (intOf i).toNat)
    case atStart => exact ⟨0, _, by omega, rfl, ⟨by simp, by intro z hz; have := List.eq_of_mem_replicate hz; omega⟩, F2.out⟩
    case round =>
      obtain ⟨k, ns, hk, rfl, ho, hF⟩ := hrel
      by_cases h1 : k < l.length
      · by_cases h2 : k < 20
        · obtain ⟨ab, ao, cap', hv, hcell⟩ := (HL.out.grown hF.g).cells (by omega)
          obtain ⟨rfl, _, rfl⟩ : p = some ⟨ab, ao, none⟩ ∧ l.length = l.length ∧ cap = cap' := by simpa using hv
          have hc := hcell k h1
          have h1' : (k : Int) < (l.length : Int) := by omega
          have h2' : (k : Int) < 20 := by omega
          have h0' : (0 : Int) ≤ (k : Int) := by omega
          have hlen : k < ns.length := by rw [ho.1]; exact h2
          have hcn : wr.cell? ⟨N, k, none⟩ = some (.int .i64 ns[k]) := by rw [at_cell hF.hN k]; simp [List.getElem?_eq_getElem hlen]
          have hfn : wr.frozen? ⟨N, k, none⟩ = false := at_free hF.hN k
          have HF := hid hF; have HO := hid ho; have HM := hid (mod_small l[k] (m := 100000) (by omega) (by omega))
          clear hF ho hv hcell F2
          generalize l[k] = z at hc HM
          generalize ns[k] = z' at hcn
          generalize l.length = len at h1' ⊢
          clear h1 HL
          go_wp2_with fail
          go_roundw
          case rel => exact ⟨k + 1, ns.set k (wrap64 ((IntKind.u64.wrap z).tmod 100000)), by omega, by go_num, ⟨by rw [List.length_set]; exact HO.out.1, fun y hy => by
              rcases List.mem_or_eq_of_mem_set hy with h | h
              · exact HO.out.2 y h
              · rw [h]; exact HM.out⟩, ⟨at_set_other HF.out.hR hRN _, by
                have := at_set HF.out.hN k (.int .i64 (wrap64 ((IntKind.u64.wrap z).tmod 100000)))
                rw [this]
                simp [List.map_set], at_set_other HF.out.hx (Ne.symm hNx) _, gb_new HF.out.g hLN _⟩⟩
          case measure => simp [intOf]; omega
        · have h1' : (k : Int) < (l.length : Int) := by omega
          have h2' : ¬ (k : Int) < 20 := by omega
          have HF := hid hF; have HO := hid ho
          clear hF ho F2
          go_wp2_with fail
          go_meet
          exact ⟨_, trivial, HO.out, HF.out⟩
      · have h1' : ¬ (k : Int) < (l.length : Int) := by omega
        have HF := hid hF; have HO := hid ho
        clear hF ho F2
        go_wp2_with fail
        go_meet
        exact ⟨_, trivial, HO.out, HF.out⟩
  case rest =>
  obtain ⟨ns, _, ho, hF⟩ := hcut
  have HO := hid ho; have HF := hid hF; clear ho hF F2
  by_cases hl0 : l.length = 0
  · have hl0' : (l.length : Int) = 0 := by omega
    have hfR : wc.heap[R]? = some (.cells zeroC.cells 27) := HF.out.hR
    go_wp2_with (first | refine wpList_conf HF.out.hx rfl rfl rfl rfl ?_ | refine wpList_store_row (cs := dflt.cells) hfR (by kernel_rfl) (by kernel_rfl) (by kernel_rfl) rfl rfl rfl rfl rfl ?_)
    refine bodyPost_ret (v := cf dflt) ?_ rfl ⟨dflt, rfl, fine_dflt, cgb_setRow HF.out.g hLR _⟩
    exact results_cell_row rfl _ _ R 27 dflt.cells (0, 0) _ rfl (at_setRow HF.out.hR) Tryz.underlying27 rfl (by kernel_rfl)
  have hl0' : ¬ (l.length : Int) = 0 := by omega
  obtain ⟨n0, n1, n2, n3, n4, n5, n6, n7, n8, n9, n10, n11, n12, n13, n14, n15, n16, n17, n18, n19, rfl, b0, b1, b2, b3, b4, b5, b6, b7, b8, b9, b10, b11, b12, b13, b14, b15, b16, b17, b18, b19⟩ := okn_twenty HO.out
  clear HO HL
  have T := hid HF.out; clear HF
  go_upto_region 7 with fail
  refine wp_gen (Fx w R N x [n0, n1, n2, n3, n4, n5, n6, n7, n8, n9, n10, n11, n12, n13, n14, n15, n16, n17, n18, n19] dflt) T.out ?_
  clear T
  intro y8 g8
  have H8 := hid g8; clear g8
  go_upto_region 9 with fail
  have q0 : y8.cell? ⟨N, 0, none⟩ = some (.int .i64 n0) := at_cell H8.out.hN 0
  have z1 : y8.cell? ⟨x, 1, none⟩ = some (.int .i64 (1)) := at_cell H8.out.hx 1
  have fz : ∀ i, y8.frozen? ⟨x, i, none⟩ = false := fun i => at_free H8.out.hx i
  go_upto_region 10 with fail
  refine wp_gen (fun w' => ∃ v1 : Int, (0 ≤ v1 ∧ v1 ≤ 2) ∧ Fx w R N x [n0, n1, n2, n3, n4, n5, n6, n7, n8, n9, n10, n11, n12, n13, n14, n15, n16, n17, n18, n19] (⟨4, v1, 1, 3, 2, 2, 32, 1000, 0, 0, 0, 100, 1, 100, 0, 3, 4, 100, 4, 50, 2, 100, 3, 4, 256, 1⟩ : Conf) w') ?_ ?_
  · exact ⟨n0 % 3, (by first | omega | (unfold wrap64; omega)), (at_set_other (p := ⟨x, 1, none⟩) H8.out.hR hRx' _), (at_set_other (p := ⟨x, 1, none⟩) H8.out.hN hNx _), (at_set H8.out.hx 1 _), (gb_new H8.out.g (p := ⟨x, 1, none⟩) hLx _)⟩
  rintro y9 ⟨v1, hb1, hg⟩
  have H9 := hid hg; clear hg fz q0 z1
  have q1 : y9.cell? ⟨N, 1, none⟩ = some (.int .i64 n1) := at_cell H9.out.hN 1
  have z1 : y9.cell? ⟨x, 1, none⟩ = some (.int .i64 (v1)) := at_cell H9.out.hx 1
  have z0 : y9.cell? ⟨x, 0, none⟩ = some (.int .i64 (4)) := at_cell H9.out.hx 0
  have fz : ∀ i, y9.frozen? ⟨x, i, none⟩ = false := fun i => at_free H9.out.hx i
  go_upto_region 11 with fail
  refine wp_gen (fun w' => ∃ v0 : Int, (3 * v1 + 1 ≤ v0 ∧ v0 ≤ 3 * v1 + 4) ∧ Fx w R N x [n0, n1, n2, n3, n4, n5, n6, n7, n8, n9, n10, n11, n12, n13, n14, n15, n16, n17, n18, n19] (⟨v0, v1, 1, 3, 2, 2, 32, 1000, 0, 0, 0, 100, 1, 100, 0, 3, 4, 100, 4, 50, 2, 100, 3, 4, 256, 1⟩ : Conf) w') ?_ ?_
  · exact ⟨3 * v1 + 1 + n1 % 4, (by first | omega | (unfold wrap64; omega)), (at_set_other (p := ⟨x, 0, none⟩) H9.out.hR hRx' _), (at_set_other (p := ⟨x, 0, none⟩) H9.out.hN hNx _), (at_set H9.out.hx 0 _), (gb_new H9.out.g (p := ⟨x, 0, none⟩) hLx _)⟩
  rintro y10 ⟨v0, hb0, hg⟩
  have H10 := hid hg; clear hg fz q1 z1 z0
  have q2 : y10.cell? ⟨N, 2, none⟩ = some (.int .i64 n2) := at_cell H10.out.hN 2
  have z2 : y10.cell? ⟨x, 2, none⟩ = some (.int .i64 (1)) := at_cell H10.out.hx 2
  have fz : ∀ i, y10.frozen? ⟨x, i, none⟩ = false := fun i => at_free H10.out.hx i
  go_upto_region 12 with fail
  refine wp_gen (fun w' => ∃ v2 : Int, (1 ≤ v2 ∧ v2 ≤ 2) ∧ Fx w R N x [n0, n1, n2, n3, n4, n5, n6, n7, n8, n9, n10, n11, n12, n13, n14, n15, n16, n17, n18, n19] (⟨v0, v1, v2, 3, 2, 2, 32, 1000, 0, 0, 0, 100, 1, 100, 0, 3, 4, 100, 4, 50, 2, 100, 3, 4, 256, 1⟩ : Conf) w') ?_ ?_
  · exact ⟨1 + n2 % 2, (by first | omega | (unfold wrap64; omega)), (at_set_other (p := ⟨x, 2, none⟩) H10.out.hR hRx' _), (at_set_other (p := ⟨x, 2, none⟩) H10.out.hN hNx _), (at_set H10.out.hx 2 _), (gb_new H10.out.g (p := ⟨x, 2, none⟩) hLx _)⟩
  rintro y11 ⟨v2, hb2, hg⟩
  have H11 := hid hg; clear hg fz q2 z2
  have nz : ¬ v0 - 2 * v1 = 0 := by omega
  have tm0 := tmod_in n3 (v0 - 2 * v1) (by omega) (by omega)
  have e1 : IntKind.i64.wrap (2 * v1) = 2 * v1 := (IntWalk.i64_left _).trans (wrap_small (by omega) (by omega))
  have e2 : IntKind.i64.wrap (v0 - 2 * v1) = v0 - 2 * v1 := (IntWalk.i64_left _).trans (wrap_small (by omega) (by omega))
  have e3 : IntKind.i64.wrap (2 * v1 + 1) = 2 * v1 + 1 := (IntWalk.i64_left _).trans (wrap_small (by omega) (by omega))
  have e4 : IntKind.i64.wrap (2 * v1 + 1 + n3.tmod (v0 - 2 * v1)) = 2 * v1 + 1 + n3.tmod (v0 - 2 * v1) := (IntWalk.i64_left _).trans (wrap_small (by omega) (by omega))
  have q3 : y11.cell? ⟨N, 3, none⟩ = some (.int .i64 n3) := at_cell H11.out.hN 3
  have z1 : y11.cell? ⟨x, 1, none⟩ = some (.int .i64 (v1)) := at_cell H11.out.hx 1
  have z0 : y11.cell? ⟨x, 0, none⟩ = some (.int .i64 (v0)) := at_cell H11.out.hx 0
  have z3 : y11.cell? ⟨x, 3, none⟩ = some (.int .i64 (3)) := at_cell H11.out.hx 3
  have fz : ∀ i, y11.frozen? ⟨x, i, none⟩ = false := fun i => at_free H11.out.hx i
  refine wp_region_held_drew (S := (fun w' => w'.heap[N]? = some (.cells ([n0, n1, n2, n3, n4, n5, n6, n7, n8, n9, n10, n11, n12, n13, n14, n15, n16, n17, n18, n19].map (Value.int .i64)).toArray 91) ∧ w'.cell? ⟨x, 1, none⟩ = some (.int .i64 (v1)) ∧ w'.cell? ⟨x, 0, none⟩ = some (.int .i64 (v0)))) (by kernel_rfl) ⟨(at_drew H11.out.hN), z1, z0⟩ (fun hHeld => ?_)
  try dsimp only at hHeld
  refine' jT 0 rfl (by rfl) ?_ hHeld ?_
  rotate_left
  · (intro w hSw; (try dsimp only at hSw); go_simp; try with_reducible rfl)
  try simp only [Act.put, jA, jB, jC, jD, jE, jF]
  refine' jT 1 rfl (by rfl) ?_ hHeld ?_
  rotate_left
  · (intro w hSw; (try dsimp only at hSw); have q3 : w.cell? ⟨N, 3, none⟩ = some (.int .i64 n3) := at_cell hSw.1 3; have zz0 := hSw.2.1; have zz1 := hSw.2.2; go_simp; try with_reducible rfl)
  try simp only [Act.put, jA, jB, jC, jD, jE, jF]
  refine' jT 2 rfl (by rfl) ?_ hHeld ?_
  rotate_left
  · (intro w hSw; (try dsimp only at hSw); go_simp; try with_reducible rfl)
  try simp only [Act.put, jA, jB, jC, jD, jE, jF]
  refine' jT 3 rfl (by rfl) ?_ hHeld ?_
  rotate_left
  · (intro w hSw; (try dsimp only at hSw); go_simp; try with_reducible rfl)
  try simp only [Act.put, jA, jB, jC, jD, jE, jF]
  refine' jT 4 rfl (by rfl) ?_ hHeld ?_
  rotate_left
  · (intro w hSw; (try dsimp only at hSw); go_simp; try with_reducible rfl)
  try simp only [Act.put, jA, jB, jC, jD, jE, jF]
  refine' jT 5 rfl (by rfl) ?_ hHeld ?_
  rotate_left
  · (intro w hSw; (try dsimp only at hSw); have q3 : w.cell? ⟨N, 3, none⟩ = some (.int .i64 n3) := at_cell hSw.1 3; have zz0 := hSw.2.1; have zz1 := hSw.2.2; go_simp; try with_reducible rfl)
  try simp only [Act.put, jA, jB, jC, jD, jE, jF]
  refine' jT 6 rfl (by rfl) ?_ hHeld ?_
  rotate_left
  · (intro w hSw; (try dsimp only at hSw); go_simp; try with_reducible rfl)
  try simp only [Act.put, jA, jB, jC, jD, jE, jF]
  refine' jT 7 rfl (by rfl) ?_ hHeld ?_
  rotate_left
  · (intro w hSw; (try dsimp only at hSw); have q3 : w.cell? ⟨N, 3, none⟩ = some (.int .i64 n3) := at_cell hSw.1 3; have zz0 := hSw.2.1; have zz1 := hSw.2.2; go_simp; try with_reducible rfl)
  try simp only [Act.put, jA, jB, jC, jD, jE, jF]
  refine' jT 8 rfl (by rfl) ?_ hHeld ?_
  rotate_left
  · (intro w hSw; (try dsimp only at hSw); go_simp; try with_reducible rfl)
  try simp only [Act.put, jA, jB, jC, jD, jE, jF]
  refine' jT 9 rfl (by rfl) ?_ hHeld ?_
  rotate_left
  · (intro w hSw; (try dsimp only at hSw); have q3 : w.cell? ⟨N, 3, none⟩ = some (.int .i64 n3) := at_cell hSw.1 3; have zz0 := hSw.2.1; have zz1 := hSw.2.2; go_simp; try with_reducible rfl)
  try simp only [Act.put, jA, jB, jC, jD, jE, jF]
  refine' jT 10 rfl (by rfl) ?_ hHeld ?_
  rotate_left
  · (intro w hSw; (try dsimp only at hSw); go_simp; try with_reducible rfl)
  try simp only [Act.put, jA, jB, jC, jD, jE, jF]
  refine' jT 11 rfl (by rfl) ?_ hHeld ?_
  rotate_left
  · (intro w hSw; (try dsimp only at hSw); go_simp; try with_reducible rfl)
  try simp only [Act.put, jA, jB, jC, jD, jE, jF]
  refine' jT 12 rfl (by rfl) ?_ hHeld ?_
  rotate_left
  · (intro w hSw; (try dsimp only at hSw); go_simp; try with_reducible rfl)
  try simp only [Act.put, jA, jB, jC, jD, jE, jF]
  refine' jT 13 rfl (by rfl) ?_ hHeld ?_
  rotate_left
  · (intro w hSw; (try dsimp only at hSw); go_simp; try with_reducible rfl)
  try simp only [Act.put, jA, jB, jC, jD, jE, jF]
  refine' jT 14 rfl (by rfl) ?_ hHeld ?_
  rotate_left
  · (intro w hSw; (try dsimp only at hSw); go_simp; try with_reducible rfl)
  try simp only [Act.put, jA, jB, jC, jD, jE, jF]
  refine jR [15] ?_
  refine jG rfl (fun K hK => ?_) AllReadyH.nil
  try simp only [jD, jE, jF]
  go_simp
  refine hK.out _ _ (⟨at_set_other (hHeld.1) hNx _, by go_simp, by go_simp⟩) (fun hHeld => ?_)
  clear hK K
  try dsimp only at hHeld
  try simp only [Act.put, jA, jB, jC, jD, jE, jF]
  refine wpAnyH_done (by kernel_rfl) ?_ _
  clear hHeld
  go_upto_region 13 with fail
  refine wp_gen (fun w' => ∃ v3 : Int, (2 * v1 + 1 ≤ v3 ∧ v3 ≤ v0) ∧ Fx w R N x [n0, n1, n2, n3, n4, n5, n6, n7, n8, n9, n10, n11, n12, n13, n14, n15, n16, n17, n18, n19] (⟨v0, v1, v2, v3, 2, 2, 32, 1000, 0, 0, 0, 100, 1, 100, 0, 3, 4, 100, 4, 50, 2, 100, 3, 4, 256, 1⟩ : Conf) w') ?_ ?_
  · exact ⟨2 * v1 + 1 + n3.tmod (v0 - 2 * v1), (by first | omega | (unfold wrap64; omega)), (at_drew (at_set_other (p := ⟨x, 3, none⟩) H11.out.hR hRx' _)), (at_drew (at_set_other (p := ⟨x, 3, none⟩) H11.out.hN hNx _)), (at_drew (at_set H11.out.hx 3 _)), (gb_drew (gb_new H11.out.g (p := ⟨x, 3, none⟩) hLx _))⟩
  rintro y12 ⟨v3, hb3, hg⟩
  have H12 := hid hg; clear hg fz q3 z1 z0 z3 e1 e2 e3 e4 nz tm0
  have tm0 := tmod_in n4 3 (by omega) (by omega)
  have tm1 := tmod_in n5 3 (by omega) (by omega)
  have tm2 := tmod_in n6 64 (by omega) (by omega)
  have e1 : IntKind.i64.wrap (1 + n4.tmod 3) = 1 + n4.tmod 3 := (IntWalk.i64_left _).trans (wrap_small (by omega) (by omega))
  have e2 : IntKind.i64.wrap (1 + n5.tmod 3) = 1 + n5.tmod 3 := (IntWalk.i64_left _).trans (wrap_small (by omega) (by omega))
  have e3 : IntKind.i64.wrap (1 + n6.tmod 64) = 1 + n6.tmod 64 := (IntWalk.i64_left _).trans (wrap_small (by omega) (by omega))
  have q4 : y12.cell? ⟨N, 4, none⟩ = some (.int .i64 n4) := at_cell H12.out.hN 4
  have q5 : y12.cell? ⟨N, 5, none⟩ = some (.int .i64 n5) := at_cell H12.out.hN 5
  have q6 : y12.cell? ⟨N, 6, none⟩ = some (.int .i64 n6) := at_cell H12.out.hN 6
  have z4 : y12.cell? ⟨x, 4, none⟩ = some (.int .i64 (2)) := at_cell H12.out.hx 4
  have z5 : y12.cell? ⟨x, 5, none⟩ = some (.int .i64 (2)) := at_cell H12.out.hx 5
  have z6 : y12.cell? ⟨x, 6, none⟩ = some (.int .i64 (32)) := at_cell H12.out.hx 6
  have fz : ∀ i, y12.frozen? ⟨x, i, none⟩ = false := fun i => at_free H12.out.hx i
  go_cut [] from 64 to 78 (fun wx => ∃ v4 v5 v6 : Int, (1 ≤ v4 ∧ v4 ≤ 3) ∧ (1 ≤ v5 ∧ v5 ≤ 3) ∧ (1 ≤ v6 ∧ v6 ≤ 64) ∧ Fx w R N x [n0, n1, n2, n3, n4, n5, n6, n7, n8, n9, n10, n11, n12, n13, n14, n15, n16, n17, n18, n19] (⟨v0, v1, v2, v3, v4, v5, v6, 1000, 0, 0, 0, 100, 1, 100, 0, 3, 4, 100, 4, 50, 2, 100, 3, 4, 256, 1⟩ : Conf) wx)
  case first =>
    go_region_held3 (fun w' => w'.cell? ⟨N, 4, none⟩ = some (.int .i64 n4) ∧ w'.cell? ⟨N, 5, none⟩ = some (.int .i64 n5) ∧ w'.cell? ⟨N, 6, none⟩ = some (.int .i64 n6)) ((refine ⟨?_, ?_, ?_⟩ <;> go_simp)) (fail)
    all_goals (
      go_wp2_with fail
      go_meet
      exact ⟨1 + n4.tmod 3, 1 + n5.tmod 3, 1 + n6.tmod 64, (by first | omega | (unfold wrap64; omega)), (by first | omega | (unfold wrap64; omega)), (by first | omega | (unfold wrap64; omega)), (at_drew (at_set_other (p := ⟨x, 6, none⟩) (at_set_other (p := ⟨x, 5, none⟩) (at_set_other (p := ⟨x, 4, none⟩) H12.out.hR hRx' _) hRx' _) hRx' _)), (at_drew (at_set_other (p := ⟨x, 6, none⟩) (at_set_other (p := ⟨x, 5, none⟩) (at_set_other (p := ⟨x, 4, none⟩) H12.out.hN hNx _) hNx _) hNx _)), (at_drew (at_set (at_set (at_set H12.out.hx 4 _) 5 _) 6 _)), (gb_drew (gb_new (gb_new (gb_new H12.out.g (p := ⟨x, 4, none⟩) hLx _) (p := ⟨x, 5, none⟩) hLx _) (p := ⟨x, 6, none⟩) hLx _))⟩)
  case rest =>
  obtain ⟨v4, v5, v6, hb4, hb5, hb6, hg⟩ := hcut
  go_upto_region 14 with fail
  have T := hid hg; clear hg fz q4 q5 q6 z4 z5 z6 tm0 tm1 tm2 e1 e2 e3
  refine wp_gen (Fx w R N x [n0, n1, n2, n3, n4, n5, n6, n7, n8, n9, n10, n11, n12, n13, n14, n15, n16, n17, n18, n19] (⟨v0, v1, v2, v3, v4, v5, v6, 1000, 0, 0, 0, 100, 1, 100, 0, 3, 4, 100, 4, 50, 2, 100, 3, 4, 256, 1⟩ : Conf)) T.out ?_
  clear T
  intro y13 hg
  have H13 := hid hg; clear hg H12
  have z8 : y13.cell? ⟨x, 8, none⟩ = some (.int .i64 (0)) := at_cell H13.out.hx 8
  have fz : ∀ i, y13.frozen? ⟨x, i, none⟩ = false := fun i => at_free H13.out.hx i
  go_upto_block 2 with fail
  refine wp_gen (fun w' => ∃ v8 : Int, (v8 = 0) ∧ Fx w R N x [n0, n1, n2, n3, n4, n5, n6, n7, n8, n9, n10, n11, n12, n13, n14, n15, n16, n17, n18, n19] (⟨v0, v1, v2, v3, v4, v5, v6, 1000, v8, 0, 0, 100, 1, 100, 0, 3, 4, 100, 4, 50, 2, 100, 3, 4, 256, 1⟩ : Conf) w') ?_ ?_
  · exact ⟨0, (by first | omega | (unfold wrap64; omega)), (at_set_other (p := ⟨x, 8, none⟩) H13.out.hR hRx' _), (at_set_other (p := ⟨x, 8, none⟩) H13.out.hN hNx _), (at_set H13.out.hx 8 _), (gb_new H13.out.g (p := ⟨x, 8, none⟩) hLx _)⟩
  rintro y14 ⟨v8, hb8, hg⟩
  have H14 := hid hg; clear hg fz  z8
  subst hb8
  go_cut [6] from 81 to 95 (fun i wx => ∃ v7 v8 : Int, i = i ∧ (1 ≤ v7 ∧ v7 ≤ 2000) ∧ (v2 = 1 ∧ v8 = 0 ∨ v2 = 2 ∧ 1 ≤ v8 ∧ v8 ≤ 2000) ∧ Fx w R N x [n0, n1, n2, n3, n4, n5, n6, n7, n8, n9, n10, n11, n12, n13, n14, n15, n16, n17, n18, n19] (⟨v0, v1, v2, v3, v4, v5, v6, v7, v8, 0, 0, 100, 1, 100, 0, 3, 4, 100, 4, 50, 2, 100, 3, 4, 256, 1⟩ : Conf) wx)
  case first =>
    go_wp2_with fail
    go_loopw [6] (fun i wr => (i = .int .i64 0 ∧ Fx w R N x [n0, n1, n2, n3, n4, n5, n6, n7, n8, n9, n10, n11, n12, n13, n14, n15, n16, n17, n18, n19] (⟨v0, v1, v2, v3, v4, v5, v6, 1000, 0, 0, 0, 100, 1, 100, 0, 3, 4, 100, 4, 50, 2, 100, 3, 4, 256, 1⟩ : Conf) wr) ∨ (i = .int .i64 1 ∧ ∃ v7 : Int, (1 ≤ v7 ∧ v7 ≤ 2000) ∧ Fx w R N x [n0, n1, n2, n3, n4, n5, n6, n7, n8, n9, n10, n11, n12, n13, n14, n15, n16, n17, n18, n19] (⟨v0, v1, v2, v3, v4, v5, v6, v7, 0, 0, 0, 100, 1, 100, 0, 3, 4, 100, 4, 50, 2, 100, 3, 4, 256, 1⟩ : Conf) wr) ∨ (i = .int .i64 2 ∧ v2 = 2 ∧ ∃ v7 v8 : Int, (1 ≤ v7 ∧ v7 ≤ 2000) ∧ (1 ≤ v8 ∧ v8 ≤ 2000) ∧ Fx w R N x [n0, n1, n2, n3, n4, n5, n6, n7, n8, n9, n10, n11, n12, n13, n14, n15, n16, n17, n18, n19] (⟨v0, v1, v2, v3, v4, v5, v6, v7, v8, 0, 0, 100, 1, 100, 0, 3, 4, 100, 4, 50, 2, 100, 3, 4, 256, 1⟩ : Conf) wr)) (fun i _ => 2 - (intOf i).toNat)
    case atStart => exact .inl ⟨rfl, H14.out⟩
    case round =>
      rcases hrel with ⟨rfl, hF⟩ | ⟨rfl, v7, hb7, hF⟩ | ⟨rfl, hv2, v7, v8, hb7, hb8, hF⟩
      · have q7 : wr.cell? ⟨N, 7, none⟩ = some (.int .i64 n7) := at_cell hF.hN 7
        have z2 : wr.cell? ⟨x, 2, none⟩ = some (.int .i64 v2) := at_cell hF.hx 2
        have z7 : wr.cell? ⟨x, 7, none⟩ = some (.int .i64 1000) := at_cell hF.hx 7
        have fz : wr.frozen? ⟨x, 7, none⟩ = false := at_free hF.hx 7
        have h02 : 0 < v2 := by omega
        have HF := hid hF; clear hF
        go_wp2_with fail
        go_roundw
        case rel => exact .inr (.inl ⟨by first | rfl | go_num, 1 + n7 % 2000, by omega, ⟨at_set_other (p := ⟨x, 7, none⟩) HF.out.hR hRx' _, at_set_other (p := ⟨x, 7, none⟩) HF.out.hN hNx _, at_set HF.out.hx 7 (.int .i64 (1 + n7 % 2000)), gb_new HF.out.g (p := ⟨x, 7, none⟩) hLx _⟩⟩)
        case measure => simp [intOf]
      · by_cases h12 : v2 = 1
        · have z2 : wr.cell? ⟨x, 2, none⟩ = some (.int .i64 v2) := at_cell hF.hx 2
          have h02 : ¬ 1 < v2 := by omega
          have HF := hid hF; have HB := hid hb7; have H12 := hid h12; clear hF h12
          go_wp2_with fail
          go_meet
          exact ⟨v7, 0, trivial, HB.out, .inl ⟨H12.out, rfl⟩, HF.out⟩
        · have q8 : wr.cell? ⟨N, 8, none⟩ = some (.int .i64 n8) := at_cell hF.hN 8
          have z2 : wr.cell? ⟨x, 2, none⟩ = some (.int .i64 v2) := at_cell hF.hx 2
          have z8 : wr.cell? ⟨x, 8, none⟩ = some (.int .i64 0) := at_cell hF.hx 8
          have fz : wr.frozen? ⟨x, 8, none⟩ = false := at_free hF.hx 8
          have h02 : 1 < v2 := by omega
          have HF := hid hF; have HB := hid hb7; have H12 := hid (show v2 = 2 by omega); clear hF h12
          go_wp2_with fail
          go_roundw
          case rel => exact .inr (.inr ⟨by first | rfl | go_num, H12.out, v7, 1 + n8 % 2000, HB.out, by omega, ⟨at_set_other (p := ⟨x, 8, none⟩) HF.out.hR hRx' _, at_set_other (p := ⟨x, 8, none⟩) HF.out.hN hNx _, at_set HF.out.hx 8 (.int .i64 (1 + n8 % 2000)), gb_new HF.out.g (p := ⟨x, 8, none⟩) hLx _⟩⟩)
          case measure => simp [intOf]
      · have z2 : wr.cell? ⟨x, 2, none⟩ = some (.int .i64 v2) := at_cell hF.hx 2
        have h02 : ¬ 2 < v2 := by omega
        have HF := hid hF; have HB := hid hb7; have HB8 := hid hb8; have H12 := hid hv2; clear hF hv2
        go_wp2_with fail
        go_meet
        exact ⟨v7, v8, trivial, HB.out, .inr ⟨H12.out, HB8.out⟩, HF.out⟩
  case rest =>
  obtain ⟨v7, v8, _, hb7, hm8, hg⟩ := hcut
  go_upto_region 19 with fail
  have HM8 := hid hm8
  clear H14 hm8
  refine wp_gen (fun w' => Fx w R N x [n0, n1, n2, n3, n4, n5, n6, n7, n8, n9, n10, n11, n12, n13, n14, n15, n16, n17, n18, n19] (⟨v0, v1, v2, v3, v4, v5, v6, v7, v8, 0, 0, 100, 1, 100, 0, 3, 4, 100, 4, 50, 2, 100, 3, 4, 256, 1⟩ : Conf) w') hg ?_
  clear hg
  intro y15 hg
  have H15 := hid hg; clear hg
  have q9 : y15.cell? ⟨N, 9, none⟩ = some (.int .i64 n9) := at_cell H15.out.hN 9
  have z11 : y15.cell? ⟨x, 11, none⟩ = some (.int .i64 (100)) := at_cell H15.out.hx 11
  have fz : ∀ i, y15.frozen? ⟨x, i, none⟩ = false := fun i => at_free H15.out.hx i
  go_upto_region 20 with fail
  refine wp_gen (fun w' => ∃ v11 : Int, (0 ≤ v11 ∧ v11 ≤ 299) ∧ Fx w R N x [n0, n1, n2, n3, n4, n5, n6, n7, n8, n9, n10, n11, n12, n13, n14, n15, n16, n17, n18, n19] (⟨v0, v1, v2, v3, v4, v5, v6, v7, v8, 0, 0, v11, 1, 100, 0, 3, 4, 100, 4, 50, 2, 100, 3, 4, 256, 1⟩ : Conf) w') ?_ ?_
  · exact ⟨n9 % 300, (by first | omega | (unfold wrap64; omega)), (at_set_other (p := ⟨x, 11, none⟩) H15.out.hR hRx' _), (at_set_other (p := ⟨x, 11, none⟩) H15.out.hN hNx _), (at_set H15.out.hx 11 _), (gb_new H15.out.g (p := ⟨x, 11, none⟩) hLx _)⟩
  rintro y16 ⟨v11, hb11, hg⟩
  have H16 := hid hg; clear hg fz q9 z11
  have q10 : y16.cell? ⟨N, 10, none⟩ = some (.int .i64 n10) := at_cell H16.out.hN 10
  have z12 : y16.cell? ⟨x, 12, none⟩ = some (.int .i64 (1)) := at_cell H16.out.hx 12
  have fz : ∀ i, y16.frozen? ⟨x, i, none⟩ = false := fun i => at_free H16.out.hx i
  go_upto_region 21 with fail
  refine wp_gen (fun w' => ∃ v12 : Int, (1 ≤ v12 ∧ v12 ≤ 5) ∧ Fx w R N x [n0, n1, n2, n3, n4, n5, n6, n7, n8, n9, n10, n11, n12, n13, n14, n15, n16, n17, n18, n19] (⟨v0, v1, v2, v3, v4, v5, v6, v7, v8, 0, 0, v11, v12, 100, 0, 3, 4, 100, 4, 50, 2, 100, 3, 4, 256, 1⟩ : Conf) w') ?_ ?_
  · exact ⟨1 + n10 % 5, (by first | omega | (unfold wrap64; omega)), (at_set_other (p := ⟨x, 12, none⟩) H16.out.hR hRx' _), (at_set_other (p := ⟨x, 12, none⟩) H16.out.hN hNx _), (at_set H16.out.hx 12 _), (gb_new H16.out.g (p := ⟨x, 12, none⟩) hLx _)⟩
  rintro y17 ⟨v12, hb12, hg⟩
  have H17 := hid hg; clear hg fz q10 z12
  have q10 : y17.cell? ⟨N, 10, none⟩ = some (.int .i64 n10) := at_cell H17.out.hN 10
  have z12 : y17.cell? ⟨x, 12, none⟩ = some (.int .i64 (v12)) := at_cell H17.out.hx 12
  have z13 : y17.cell? ⟨x, 13, none⟩ = some (.int .i64 (100)) := at_cell H17.out.hx 13
  have fz : ∀ i, y17.frozen? ⟨x, i, none⟩ = false := fun i => at_free H17.out.hx i
  go_upto_region 22 with fail
  refine wp_gen (fun w' => ∃ v13 : Int, (v12 ≤ v13 ∧ v13 ≤ v12 + 59) ∧ Fx w R N x [n0, n1, n2, n3, n4, n5, n6, n7, n8, n9, n10, n11, n12, n13, n14, n15, n16, n17, n18, n19] (⟨v0, v1, v2, v3, v4, v5, v6, v7, v8, 0, 0, v11, v12, v13, 0, 3, 4, 100, 4, 50, 2, 100, 3, 4, 256, 1⟩ : Conf) w') ?_ ?_
  · exact ⟨v12 + n10 / 5 % 60, (by first | omega | (unfold wrap64; omega)), (at_set_other (p := ⟨x, 13, none⟩) H17.out.hR hRx' _), (at_set_other (p := ⟨x, 13, none⟩) H17.out.hN hNx _), (at_set H17.out.hx 13 _), (gb_new H17.out.g (p := ⟨x, 13, none⟩) hLx _)⟩
  rintro y18 ⟨v13, hb13, hg⟩
  have H18 := hid hg; clear hg fz q10 z12 z13
  have tm0 := tmod_in n11 4 (by omega) (by omega)
  have tm1 := tmod_in n12 5 (by omega) (by omega)
  have q11 : y18.cell? ⟨N, 11, none⟩ = some (.int .i64 n11) := at_cell H18.out.hN 11
  have q12 : y18.cell? ⟨N, 12, none⟩ = some (.int .i64 n12) := at_cell H18.out.hN 12
  have z14 : y18.cell? ⟨x, 14, none⟩ = some (.int .i64 (0)) := at_cell H18.out.hx 14
  have z15 : y18.cell? ⟨x, 15, none⟩ = some (.int .i64 (3)) := at_cell H18.out.hx 15
  have fz : ∀ i, y18.frozen? ⟨x, i, none⟩ = false := fun i => at_free H18.out.hx i
  go_cut [] from 113 to 120 (fun wx => ∃ v14 v15 : Int, (0 ≤ v14 ∧ v14 ≤ 3) ∧ (0 ≤ v15 ∧ v15 ≤ 4) ∧ Fx w R N x [n0, n1, n2, n3, n4, n5, n6, n7, n8, n9, n10, n11, n12, n13, n14, n15, n16, n17, n18, n19] (⟨v0, v1, v2, v3, v4, v5, v6, v7, v8, 0, 0, v11, v12, v13, v14, v15, 4, 100, 4, 50, 2, 100, 3, 4, 256, 1⟩ : Conf) wx)
  case first =>
    go_region_held3 (fun w' => w'.cell? ⟨N, 11, none⟩ = some (.int .i64 n11) ∧ w'.cell? ⟨N, 12, none⟩ = some (.int .i64 n12)) ((refine ⟨?_, ?_⟩ <;> go_simp)) (fail)
    all_goals (
      go_wp2_with fail
      go_meet
      exact ⟨n11.tmod 4, n12.tmod 5, (by first | omega | (unfold wrap64; omega)), (by first | omega | (unfold wrap64; omega)), (at_drew (at_set_other (p := ⟨x, 15, none⟩) (at_set_other (p := ⟨x, 14, none⟩) H18.out.hR hRx' _) hRx' _)), (at_drew (at_set_other (p := ⟨x, 15, none⟩) (at_set_other (p := ⟨x, 14, none⟩) H18.out.hN hNx _) hNx _)), (at_drew (at_set (at_set H18.out.hx 14 _) 15 _)), (gb_drew (gb_new (gb_new H18.out.g (p := ⟨x, 14, none⟩) hLx _) (p := ⟨x, 15, none⟩) hLx _))⟩)
  case rest =>
  obtain ⟨v14, v15, hb14, hb15, hg⟩ := hcut
  go_upto_region 23 with fail
  have T := hid hg; clear hg fz q11 q12 z14 z15 tm0 tm1
  refine wp_gen (Fx w R N x [n0, n1, n2, n3, n4, n5, n6, n7, n8, n9, n10, n11, n12, n13, n14, n15, n16, n17, n18, n19] (⟨v0, v1, v2, v3, v4, v5, v6, v7, v8, 0, 0, v11, v12, v13, v14, v15, 4, 100, 4, 50, 2, 100, 3, 4, 256, 1⟩ : Conf)) T.out ?_
  clear T
  intro y19 hg
  have H19 := hid hg; clear hg H18
  have tm0 := tmod_in n13 5 (by omega) (by omega)
  have td0 := tdiv_in n13 5 (by omega) (by omega)
  have tm1 := tmod_in (n13.tdiv 5) 150 (by omega) (by omega)
  have e0 : IntKind.i64.wrap (n13.tdiv 5) = n13.tdiv 5 := (IntWalk.i64_left _).trans (wrap_small (by omega) (by omega))
  have e1 : IntKind.i64.wrap (1 + n13.tmod 5) = 1 + n13.tmod 5 := (IntWalk.i64_left _).trans (wrap_small (by omega) (by omega))
  have e2 : IntKind.i64.wrap (1 + (n13.tdiv 5).tmod 150) = 1 + (n13.tdiv 5).tmod 150 := (IntWalk.i64_left _).trans (wrap_small (by omega) (by omega))
  have q13 : y19.cell? ⟨N, 13, none⟩ = some (.int .i64 n13) := at_cell H19.out.hN 13
  have z16 : y19.cell? ⟨x, 16, none⟩ = some (.int .i64 (4)) := at_cell H19.out.hx 16
  have z17 : y19.cell? ⟨x, 17, none⟩ = some (.int .i64 (100)) := at_cell H19.out.hx 17
  have fz : ∀ i, y19.frozen? ⟨x, i, none⟩ = false := fun i => at_free H19.out.hx i
  go_cut [] from 121 to 131 (fun wx => ∃ v16 v17 : Int, (1 ≤ v16 ∧ v16 ≤ 5) ∧ (1 ≤ v17 ∧ v17 ≤ 150) ∧ Fx w R N x [n0, n1, n2, n3, n4, n5, n6, n7, n8, n9, n10, n11, n12, n13, n14, n15, n16, n17, n18, n19] (⟨v0, v1, v2, v3, v4, v5, v6, v7, v8, 0, 0, v11, v12, v13, v14, v15, v16, v17, 4, 50, 2, 100, 3, 4, 256, 1⟩ : Conf) wx)
  case first =>
    go_region_held3 (fun w' => w'.cell? ⟨N, 13, none⟩ = some (.int .i64 n13)) (go_simp) (fail)
    all_goals (
      go_wp2_with fail
      go_meet
      exact ⟨1 + n13.tmod 5, 1 + (n13.tdiv 5).tmod 150, (by first | omega | (unfold wrap64; omega)), (by first | omega | (unfold wrap64; omega)), (at_drew (at_set_other (p := ⟨x, 17, none⟩) (at_set_other (p := ⟨x, 16, none⟩) H19.out.hR hRx' _) hRx' _)), (at_drew (at_set_other (p := ⟨x, 17, none⟩) (at_set_other (p := ⟨x, 16, none⟩) H19.out.hN hNx _) hNx _)), (at_drew (at_set (at_set H19.out.hx 16 _) 17 _)), (gb_drew (gb_new (gb_new H19.out.g (p := ⟨x, 16, none⟩) hLx _) (p := ⟨x, 17, none⟩) hLx _))⟩)
  case rest =>
  obtain ⟨v16, v17, hb16, hb17, hg⟩ := hcut
  go_upto_region 24 with fail
  have T := hid hg; clear hg fz q13 z16 z17 tm0 td0 tm1 e0 e1 e2
  refine wp_gen (Fx w R N x [n0, n1, n2, n3, n4, n5, n6, n7, n8, n9, n10, n11, n12, n13, n14, n15, n16, n17, n18, n19] (⟨v0, v1, v2, v3, v4, v5, v6, v7, v8, 0, 0, v11, v12, v13, v14, v15, v16, v17, 4, 50, 2, 100, 3, 4, 256, 1⟩ : Conf)) T.out ?_
  clear T
  intro y20 hg
  have H20 := hid hg; clear hg H19
  have tm0 := tmod_in n14 5 (by omega) (by omega)
  have td0 := tdiv_in n14 5 (by omega) (by omega)
  have tm1 := tmod_in (n14.tdiv 5) 100 (by omega) (by omega)
  have e0 : IntKind.i64.wrap (n14.tdiv 5) = n14.tdiv 5 := (IntWalk.i64_left _).trans (wrap_small (by omega) (by omega))
  have e1 : IntKind.i64.wrap (1 + n14.tmod 5) = 1 + n14.tmod 5 := (IntWalk.i64_left _).trans (wrap_small (by omega) (by omega))
  have e2 : IntKind.i64.wrap (1 + (n14.tdiv 5).tmod 100) = 1 + (n14.tdiv 5).tmod 100 := (IntWalk.i64_left _).trans (wrap_small (by omega) (by omega))
  have q14 : y20.cell? ⟨N, 14, none⟩ = some (.int .i64 n14) := at_cell H20.out.hN 14
  have z18 : y20.cell? ⟨x, 18, none⟩ = some (.int .i64 (4)) := at_cell H20.out.hx 18
  have z19 : y20.cell? ⟨x, 19, none⟩ = some (.int .i64 (50)) := at_cell H20.out.hx 19
  have fz : ∀ i, y20.frozen? ⟨x, i, none⟩ = false := fun i => at_free H20.out.hx i
  go_cut [] from 132 to 142 (fun wx => ∃ v18 v19 : Int, (1 ≤ v18 ∧ v18 ≤ 5) ∧ (1 ≤ v19 ∧ v19 ≤ 100) ∧ Fx w R N x [n0, n1, n2, n3, n4, n5, n6, n7, n8, n9, n10, n11, n12, n13, n14, n15, n16, n17, n18, n19] (⟨v0, v1, v2, v3, v4, v5, v6, v7, v8, 0, 0, v11, v12, v13, v14, v15, v16, v17, v18, v19, 2, 100, 3, 4, 256, 1⟩ : Conf) wx)
  case first =>
    go_region_held3 (fun w' => w'.cell? ⟨N, 14, none⟩ = some (.int .i64 n14)) (go_simp) (fail)
    all_goals (
      go_wp2_with fail
      go_meet
      exact ⟨1 + n14.tmod 5, 1 + (n14.tdiv 5).tmod 100, (by first | omega | (unfold wrap64; omega)), (by first | omega | (unfold wrap64; omega)), (at_drew (at_set_other (p := ⟨x, 19, none⟩) (at_set_other (p := ⟨x, 18, none⟩) H20.out.hR hRx' _) hRx' _)), (at_drew (at_set_other (p := ⟨x, 19, none⟩) (at_set_other (p := ⟨x, 18, none⟩) H20.out.hN hNx _) hNx _)), (at_drew (at_set (at_set H20.out.hx 18 _) 19 _)), (gb_drew (gb_new (gb_new H20.out.g (p := ⟨x, 18, none⟩) hLx _) (p := ⟨x, 19, none⟩) hLx _))⟩)
  case rest =>
  obtain ⟨v18, v19, hb18, hb19, hg⟩ := hcut
  go_upto_region 25 with fail
  have T := hid hg; clear hg fz q14 z18 z19 tm0 td0 tm1 e0 e1 e2
  refine wp_gen (Fx w R N x [n0, n1, n2, n3, n4, n5, n6, n7, n8, n9, n10, n11, n12, n13, n14, n15, n16, n17, n18, n19] (⟨v0, v1, v2, v3, v4, v5, v6, v7, v8, 0, 0, v11, v12, v13, v14, v15, v16, v17, v18, v19, 2, 100, 3, 4, 256, 1⟩ : Conf)) T.out ?_
  clear T
  intro y21 hg
  have H21 := hid hg; clear hg H20
  have q15 : y21.cell? ⟨N, 15, none⟩ = some (.int .i64 n15) := at_cell H21.out.hN 15
  have z20 : y21.cell? ⟨x, 20, none⟩ = some (.int .i64 (2)) := at_cell H21.out.hx 20
  have fz : ∀ i, y21.frozen? ⟨x, i, none⟩ = false := fun i => at_free H21.out.hx i
  go_upto_region 26 with fail
  refine wp_gen (fun w' => ∃ v20 : Int, (1 ≤ v20 ∧ v20 ≤ 4) ∧ Fx w R N x [n0, n1, n2, n3, n4, n5, n6, n7, n8, n9, n10, n11, n12, n13, n14, n15, n16, n17, n18, n19] (⟨v0, v1, v2, v3, v4, v5, v6, v7, v8, 0, 0, v11, v12, v13, v14, v15, v16, v17, v18, v19, v20, 100, 3, 4, 256, 1⟩ : Conf) w') ?_ ?_
  · exact ⟨1 + n15 % 4, (by first | omega | (unfold wrap64; omega)), (at_set_other (p := ⟨x, 20, none⟩) H21.out.hR hRx' _), (at_set_other (p := ⟨x, 20, none⟩) H21.out.hN hNx _), (at_set H21.out.hx 20 _), (gb_new H21.out.g (p := ⟨x, 20, none⟩) hLx _)⟩
  rintro y22 ⟨v20, hb20, hg⟩
  have H22 := hid hg; clear hg fz q15 z20
  have q16 : y22.cell? ⟨N, 16, none⟩ = some (.int .i64 n16) := at_cell H22.out.hN 16
  have z21 : y22.cell? ⟨x, 21, none⟩ = some (.int .i64 (100)) := at_cell H22.out.hx 21
  have fz : ∀ i, y22.frozen? ⟨x, i, none⟩ = false := fun i => at_free H22.out.hx i
  go_upto_region 27 with fail
  refine wp_gen (fun w' => ∃ v21 : Int, (0 ≤ v21 ∧ v21 ≤ 499) ∧ Fx w R N x [n0, n1, n2, n3, n4, n5, n6, n7, n8, n9, n10, n11, n12, n13, n14, n15, n16, n17, n18, n19] (⟨v0, v1, v2, v3, v4, v5, v6, v7, v8, 0, 0, v11, v12, v13, v14, v15, v16, v17, v18, v19, v20, v21, 3, 4, 256, 1⟩ : Conf) w') ?_ ?_
  · exact ⟨n16 % 500, (by first | omega | (unfold wrap64; omega)), (at_set_other (p := ⟨x, 21, none⟩) H22.out.hR hRx' _), (at_set_other (p := ⟨x, 21, none⟩) H22.out.hN hNx _), (at_set H22.out.hx 21 _), (gb_new H22.out.g (p := ⟨x, 21, none⟩) hLx _)⟩
  rintro y23 ⟨v21, hb21, hg⟩
  have H23 := hid hg; clear hg fz q16 z21
  have tm0 := tmod_in n17 3 (by omega) (by omega)
  have td0 := tdiv_in n17 3 (by omega) (by omega)
  have tm1 := tmod_in (n17.tdiv 3) 4 (by omega) (by omega)
  have e0 : IntKind.i64.wrap (n17.tdiv 3) = n17.tdiv 3 := (IntWalk.i64_left _).trans (wrap_small (by omega) (by omega))
  have e1 : IntKind.i64.wrap (1 + n17.tmod 3) = 1 + n17.tmod 3 := (IntWalk.i64_left _).trans (wrap_small (by omega) (by omega))
  have e2 : IntKind.i64.wrap (1 + (n17.tdiv 3).tmod 4) = 1 + (n17.tdiv 3).tmod 4 := (IntWalk.i64_left _).trans (wrap_small (by omega) (by omega))
  have q17 : y23.cell? ⟨N, 17, none⟩ = some (.int .i64 n17) := at_cell H23.out.hN 17
  have z22 : y23.cell? ⟨x, 22, none⟩ = some (.int .i64 (3)) := at_cell H23.out.hx 22
  have z23 : y23.cell? ⟨x, 23, none⟩ = some (.int .i64 (4)) := at_cell H23.out.hx 23
  have fz : ∀ i, y23.frozen? ⟨x, i, none⟩ = false := fun i => at_free H23.out.hx i
  go_cut [] from 152 to 162 (fun wx => ∃ v22 v23 : Int, (1 ≤ v22 ∧ v22 ≤ 3) ∧ (1 ≤ v23 ∧ v23 ≤ 4) ∧ Fx w R N x [n0, n1, n2, n3, n4, n5, n6, n7, n8, n9, n10, n11, n12, n13, n14, n15, n16, n17, n18, n19] (⟨v0, v1, v2, v3, v4, v5, v6, v7, v8, 0, 0, v11, v12, v13, v14, v15, v16, v17, v18, v19, v20, v21, v22, v23, 256, 1⟩ : Conf) wx)
  case first =>
    go_region_held3 (fun w' => w'.cell? ⟨N, 17, none⟩ = some (.int .i64 n17)) (go_simp) (fail)
    all_goals (
      go_wp2_with fail
      go_meet
      exact ⟨1 + n17.tmod 3, 1 + (n17.tdiv 3).tmod 4, (by first | omega | (unfold wrap64; omega)), (by first | omega | (unfold wrap64; omega)), (at_drew (at_set_other (p := ⟨x, 23, none⟩) (at_set_other (p := ⟨x, 22, none⟩) H23.out.hR hRx' _) hRx' _)), (at_drew (at_set_other (p := ⟨x, 23, none⟩) (at_set_other (p := ⟨x, 22, none⟩) H23.out.hN hNx _) hNx _)), (at_drew (at_set (at_set H23.out.hx 22 _) 23 _)), (gb_drew (gb_new (gb_new H23.out.g (p := ⟨x, 22, none⟩) hLx _) (p := ⟨x, 23, none⟩) hLx _))⟩)
  case rest =>
  obtain ⟨v22, v23, hb22, hb23, hg⟩ := hcut
  go_upto_region 28 with fail
  have T := hid hg; clear hg fz q17 z22 z23 tm0 td0 tm1 e0 e1 e2
  refine wp_gen (Fx w R N x [n0, n1, n2, n3, n4, n5, n6, n7, n8, n9, n10, n11, n12, n13, n14, n15, n16, n17, n18, n19] (⟨v0, v1, v2, v3, v4, v5, v6, v7, v8, 0, 0, v11, v12, v13, v14, v15, v16, v17, v18, v19, v20, v21, v22, v23, 256, 1⟩ : Conf)) T.out ?_
  clear T
  intro y24 hg
  have H24 := hid hg; clear hg H23
  have q18 : y24.cell? ⟨N, 18, none⟩ = some (.int .i64 n18) := at_cell H24.out.hN 18
  have z24 : y24.cell? ⟨x, 24, none⟩ = some (.int .i64 (256)) := at_cell H24.out.hx 24
  have fz : ∀ i, y24.frozen? ⟨x, i, none⟩ = false := fun i => at_free H24.out.hx i
  go_upto_region 29 with fail
  refine wp_gen (fun w' => ∃ v24 : Int, (64 ≤ v24 ∧ v24 ≤ 363) ∧ Fx w R N x [n0, n1, n2, n3, n4, n5, n6, n7, n8, n9, n10, n11, n12, n13, n14, n15, n16, n17, n18, n19] (⟨v0, v1, v2, v3, v4, v5, v6, v7, v8, 0, 0, v11, v12, v13, v14, v15, v16, v17, v18, v19, v20, v21, v22, v23, v24, 1⟩ : Conf) w') ?_ ?_
  · exact ⟨64 + n18 % 300, (by first | omega | (unfold wrap64; omega)), (at_set_other (p := ⟨x, 24, none⟩) H24.out.hR hRx' _), (at_set_other (p := ⟨x, 24, none⟩) H24.out.hN hNx _), (at_set H24.out.hx 24 _), (gb_new H24.out.g (p := ⟨x, 24, none⟩) hLx _)⟩
  rintro y25 ⟨v24, hb24, hg⟩
  have H25 := hid hg; clear hg fz q18 z24
  have e1 : IntKind.u64.wrap n19 = n19 := by rw [IntKind.wrap_u64]; omega
  have q19 : y25.cell? ⟨N, 19, none⟩ = some (.int .i64 n19) := at_cell H25.out.hN 19
  have z25 : y25.cell? ⟨x, 25, none⟩ = some (.int .u64 (1)) := at_cell H25.out.hx 25
  have fz : ∀ i, y25.frozen? ⟨x, i, none⟩ = false := fun i => at_free H25.out.hx i
  go_upto_region 30 with fail
  refine wp_gen (fun w' => ∃ v25 : Int, (0 ≤ v25 ∧ v25 < 100000) ∧ Fx w R N x [n0, n1, n2, n3, n4, n5, n6, n7, n8, n9, n10, n11, n12, n13, n14, n15, n16, n17, n18, n19] (⟨v0, v1, v2, v3, v4, v5, v6, v7, v8, 0, 0, v11, v12, v13, v14, v15, v16, v17, v18, v19, v20, v21, v22, v23, v24, v25⟩ : Conf) w') ?_ ?_
  · exact ⟨n19, (by first | omega | (unfold wrap64; omega)), (at_set_other (p := ⟨x, 25, none⟩) H25.out.hR hRx' _), (at_set_other (p := ⟨x, 25, none⟩) H25.out.hN hNx _), (at_set H25.out.hx 25 _), (gb_new H25.out.g (p := ⟨x, 25, none⟩) hLx _)⟩
  rintro y26 ⟨v25, hb25, hg⟩
  have H26 := hid hg; clear hg fz q19 z25 e1
  have hfR : y26.heap[R]? = some (.cells zeroC.cells 27) := H26.out.hR
  go_wp2_with (first | refine wpList_conf (c := (⟨v0, v1, v2, v3, v4, v5, v6, v7, v8, 0, 0, v11, v12, v13, v14, v15, v16, v17, v18, v19, v20, v21, v22, v23, v24, v25⟩ : Conf)) H26.out.hx rfl rfl rfl rfl ?_ | refine wpList_store_row (cs := (⟨v0, v1, v2, v3, v4, v5, v6, v7, v8, 0, 0, v11, v12, v13, v14, v15, v16, v17, v18, v19, v20, v21, v22, v23, v24, v25⟩ : Conf).cells) hfR (by kernel_rfl) (by kernel_rfl) (by kernel_rfl) rfl rfl rfl rfl rfl ?_)
  have hm8 := HM8.out
  refine bodyPost_ret (v := cf (⟨v0, v1, v2, v3, v4, v5, v6, v7, v8, 0, 0, v11, v12, v13, v14, v15, v16, v17, v18, v19, v20, v21, v22, v23, v24, v25⟩ : Conf)) ?_ rfl ⟨(⟨v0, v1, v2, v3, v4, v5, v6, v7, v8, 0, 0, v11, v12, v13, v14, v15, v16, v17, v18, v19, v20, v21, v22, v23, v24, v25⟩ : Conf), rfl, ?_, cgb_setRow H26.out.g hLR _⟩
  · exact results_cell_row rfl _ _ R 27 (⟨v0, v1, v2, v3, v4, v5, v6, v7, v8, 0, 0, v11, v12, v13, v14, v15, v16, v17, v18, v19, v20, v21, v22, v23, v24, v25⟩ : Conf).cells (0, 0) _ rfl (at_setRow hfR) Tryz.underlying27 rfl (by kernel_rfl)
  · constructor <;> (try dsimp only) <;> omega
end Go.Proofs.YtfhifnhnkgdnlaaGreat
end
section
set_option linter.unusedSimpArgs false
set_option linter.unusedVariables false
namespace Go.Proofs.YtfhifnhnkgdnlaaGreat
set_option maxRecDepth 100000
open Go.RowKit

section
variable {P : Program} {ops : Array Oper} {rest : List Oper} {o : Oper} {a : Act} {w : World} {Q : Exit → Act → World → Prop} {ty : TypeId} {dst : Option Tmp} {cs : Array Value}
theorem wpList_buildTo_w {parts : Array (Nat × Operand)} (hw : Region.wanted o (yielded ops a.tmps) = true) (ho : o.op = .build ty parts) (hdst : o.dst = dst)
    (hb : P.built ty (parts.map fun (i, x) => (i, a.eval x)).toList = some cs)
    (k : wpList P ops Q rest (a.put dst (.agg cs)) w) : wpList P ops Q (o :: rest) a w := by
  subst hdst
  refine wpList_step fun K hK => ?_
  simp only [hw, if_true]
  unfold Oper.wp
  have e : (execOp a.eval o).run P w = .ok (.value (.agg cs)) w := by
    have e0 := run_build (P := P) w ty (parts.map fun (i, x) => (i, a.eval x)) cs hb
    simp only [execOp, ho, Sem.run_bind, e0, Sem.run_pure, Result.andThen_ok]
  rw [e, Oper.upon_value]
  exact hK _ _ k
end
def tg0 : Gt := .new 1#64 4 2 32 1 2
def tq0 : Sl := .new 1 2
def tq1 : Sl := ⟨1, 2, 0, 1⟩
def tq2 : Sl := ⟨1, 2, 1, 0⟩
def tvS : Mg := ⟨1, 2, 0, 1, 1, 9, 0⟩
def tvR : Mg := ⟨2, 2, 1, 2, 1, 0, 0⟩
def tvK : Two64 := ofOf 1 2 0
def tg1 : Gt := (tg0.take tvS 0).2
def tg2 : Gt := (tg1.take tvR 0).2
def nobody (_ : Int) : Bool := false
theorem tv_samp {w : World} {b : Nat} (H : SlAt 145 w b tq0) : Calls Tryz.prog 31 #[.pointer (some ⟨b, 0, none⟩), .int .i64 0, .int .i64 1, .int .i64 9] w (LeavesS w b (sealOf tvK.a tvK.b tvS) 0 tq1) := by
  have h := ssample_yes 0 1 9 (by decide +kernel) w H
  rw [show tq0.msg (tq0.samp 0 1 9) = tvS from rfl, show tq0.k = tvK from rfl, show (⟨tq0.seed, tq0.who, tq0.gen, tq0.seq + 1⟩ : Sl) = tq1 from rfl] at h
  exact h
theorem tv_rot {w : World} {b : Nat} (H : SlAt 145 w b tq1) : Calls Tryz.prog 32 #[.pointer (some ⟨b, 0, none⟩), .int .i64 1] w (LeavesS w b (sealOf tvK.a tvK.b tvR) 0 tq2) := by
  have h := srotate_yes 1 (by decide +kernel) w H
  rw [show tq1.msg (tq1.rota 1) = tvR from rfl, show tq1.k = tvK from rfl, show (⟨tq1.seed, tq1.who, tq1.gen + 1, 0⟩ : Sl) = tq2 from rfl] at h
  exact h
theorem tv_key0 : tg0.key tvS = tvK := by
  show ofOf tg0.r.seed ((tvS.who.toNat : Nat) : Int) (sealedOf tvS) = ofOf 1 2 0
  rw [show tg0.r.seed = 1 by decide +kernel, show ((tvS.who.toNat : Nat) : Int) = 2 by decide +kernel, show sealedOf tvS = 0 by decide +kernel]
theorem tv_key1 : tg1.key tvS = tvK := by
  show ofOf tg1.r.seed ((tvS.who.toNat : Nat) : Int) (sealedOf tvS) = ofOf 1 2 0
  rw [show tg1.r.seed = 1 by decide +kernel, show ((tvS.who.toNat : Nat) : Int) = 2 by decide +kernel, show sealedOf tvS = 0 by decide +kernel]
theorem tv_key2 : tg1.key tvR = tvK := by
  show ofOf tg1.r.seed ((tvR.who.toNat : Nat) : Int) (sealedOf tvR) = ofOf 1 2 0
  rw [show tg1.r.seed = 1 by decide +kernel, show ((tvR.who.toNat : Nat) : Int) = 2 by decide +kernel, show sealedOf tvR = 0 by decide +kernel]
theorem tv_c1 : tg0.check (sealOf tvK.a tvK.b tvS) 0 nobody = (tvS, 0) := by
  rw [check_own tg0 tvS 0 nobody tvK tv_key0 (by decide +kernel), if_neg (by decide +kernel), if_neg (by decide +kernel), if_neg (by decide +kernel), if_neg (by decide +kernel), if_neg (by decide +kernel)]
theorem tv_c2 : tg0.check (sealOf tvK.a tvK.b tvS) 2 nobody = (zeroM, 7) := by
  rw [check_own tg0 tvS 2 nobody tvK tv_key0 (by decide +kernel), if_neg (by decide +kernel), if_neg (by decide +kernel), if_neg (by decide +kernel), if_pos (by decide +kernel)]
theorem tv_c3 : tg0.check (sealOf tvK.a tvK.b tvS) 0 (fun x => x == 2) = (zeroM, 3) := by
  rw [check_own tg0 tvS 0 (fun x => x == 2) tvK tv_key0 (by decide +kernel), if_pos (by decide +kernel)]
theorem tv_c4 : tg1.check (sealOf tvK.a tvK.b tvS) 0 nobody = (zeroM, 6) := by
  rw [check_own tg1 tvS 0 nobody tvK tv_key1 (by decide +kernel), if_neg (by decide +kernel), if_neg (by decide +kernel), if_pos (by decide +kernel)]
theorem tv_c5 : tg1.check [] 0 nobody = (zeroM, 2) := check_bad _ _ _ _ (by decide)
theorem tv_c6 (x : UInt8) (hx : (sealOf tvK.a tvK.b tvS)[40]? ≠ some x) : tg1.check ((sealOf tvK.a tvK.b tvS).set 40 x) 0 nobody = (zeroM, 5) :=
  check_turned tg1 tvS 0 nobody tvK tv_key1 (by decide +kernel) (by decide) (by decide) hx (by decide +kernel) rfl (by decide +kernel)
theorem tv_c7 : tg1.check (sealOf tvK.a tvK.b tvR) 0 nobody = (tvR, 0) := by
  rw [check_own tg1 tvR 0 nobody tvK tv_key2 (by decide +kernel), if_neg (by decide +kernel), if_neg (by decide +kernel), if_neg (by decide +kernel), if_neg (by decide +kernel), if_neg (by decide +kernel)]
theorem tv_t1 : (tg0.take tvS 0).1 = 0 := by decide +kernel
theorem tv_t2 : (tg1.take tvR 0).1 = 0 := by decide +kernel
theorem tv_end : tg2.r.gen 2 = 1 ∧ (tg2.now 2).top = 0 ∧ (tg2.old 2).top = 2 ∧ tg2.r.n = 4 := by decide +kernel
/-- Check with nobody out, at a gate whose block is known by name -/
theorem tv_check {F : List Nat} {B : GBl} {G : Gt} {bg : Nat} (hB : B.g = bg) (v : Value) (l : List UInt8) (now : Int) (m : Mg) (c : Int) (h : G.check l now nobody = (m, c)) (hn : -9223372036854775808 ≤ now) (w : World) (K : GtAt w F B G) (hl : BytesAt w v l) :
    Calls Tryz.prog 18 #[.pointer (some ⟨bg, 0, none⟩), v, .int .i64 now, .nilFunc] w fun e w' => e = .returned (.tuple #[mg m, .int .i64 c]) ∧ w.grownBy w' none := by
  subst hB
  have := gcheck_any v .nilFunc l nobody now w K hl hn (fun x u => isout_nil x u)
  rw [h] at this
  exact this
theorem tv_checkO {F : List Nat} {B : GBl} {G : Gt} {bg : Nat} (hB : B.g = bg) (v : Value) (l : List UInt8) (now : Int) (m : Mg) (c : Int) (h : G.check l now (fun x => x == 2) = (m, c)) (hn : -9223372036854775808 ≤ now) (w : World) (K : GtAt w F B G) (hl : BytesAt w v l) :
    Calls Tryz.prog 18 #[.pointer (some ⟨bg, 0, none⟩), v, .int .i64 now, (.func (.func 38) #[] #[])] w fun e w' => e = .returned (.tuple #[mg m, .int .i64 c]) ∧ w.grownBy w' none := by
  subst hB
  have := gcheck_any v (.func (.func 38) #[] #[]) l (fun x => x == 2) now w K hl hn (fun x u => isout_two x u)
  rw [h] at this
  exact this
/-- Take, likewise -/
theorem tv_take {w0 : World} {F : List Nat} {B : GBl} {G G' : Gt} {b bg : Nat} {s : Sl} {bs : List (Nat × Obj)} {ys : List (Value × List UInt8)} (hB : B.g = bg) (m : Mg) (now c : Int) (h : G.take m now = (c, G')) (w : World) (K : Kv w0 F B G b s bs ys w) :
    Calls Tryz.prog 20 #[.pointer (some ⟨bg, 0, none⟩), mg m, .int .i64 now] w fun e w' => e = .returned (.int .i64 c) ∧ ∃ F' B', B'.g = bg ∧ Kv w0 F' B' G' b s bs ys w' := by
  subst hB
  refine (gtake_any m now w K.gt).mono fun e w' hl => ?_
  rw [h] at hl
  obtain ⟨he, F', B', e1, e2, K'⟩ := K.took hl
  exact ⟨he, F', B', e1, K'⟩
theorem tv_ring {F : List Nat} {B : GBl} {G : Gt} {bg : Nat} (hB : B.g = bg) (w : World) (K : GtAt w F B G) :
    Calls Tryz.prog 22 #[.pointer (some ⟨bg, 0, none⟩)] w fun e w' => e = .returned (.pointer (some ⟨B.rb, 0, none⟩)) ∧ w = w' := hB ▸ gring_any w K
theorem tv_replay {F : List Nat} {B : GBl} {G : Gt} {bg : Nat} (hB : B.g = bg) (i : Nat) (hi : i < G.r.n) (w : World) (K : GtAt w F B G) :
    Calls Tryz.prog 23 #[.pointer (some ⟨bg, 0, none⟩), .int .i64 (i : Int)] w fun e w' => e = .returned (.pointer (some ⟨B.A i, 0, none⟩)) ∧ w.grownBy w' none := hB ▸ greplay_in i w K hi
theorem tv_old {F : List Nat} {B : GBl} {G : Gt} {bg : Nat} (hB : B.g = bg) (i : Nat) (hi : i < G.r.n) (w : World) (K : GtAt w F B G) :
    Calls Tryz.prog 24 #[.pointer (some ⟨bg, 0, none⟩), .int .i64 (i : Int)] w fun e w' => e = .returned (.pointer (some ⟨B.O i, 0, none⟩)) ∧ w.grownBy w' none := hB ▸ gold_in i w K hi
theorem tv_replay9 {F : List Nat} {B : GBl} {G : Gt} {bg : Nat} (hB : B.g = bg) (h4 : G.r.n = 4) (w : World) (K : GtAt w F B G) :
    Calls Tryz.prog 23 #[.pointer (some ⟨bg, 0, none⟩), .int .i64 9] w fun e w' => e = .returned (.pointer none) ∧ w = w' := hB ▸ greplay_out 9 w K (by rw [h4]; decide)
theorem tv_new (w : World) : Calls Tryz.prog 10 #[cf dflt] w (MadeG w tg0) :=
  gnew_ok dflt 1#64 4 2 32 1 2 (by decide +kernel) rfl rfl rfl rfl rfl rfl (by decide) (by decide) (by decide) (by decide) (by decide) (by decide) (by decide) (by decide) (by decide) (by decide) w
theorem tv_zero (w : World) : Calls Tryz.prog 10 #[cf zeroC] w fun e w' => e = .returned (.pointer none) ∧ w.grownBy w' none := gnew_nil zeroC (by decide +kernel) w
set_option maxHeartbeats 6400000 in
theorem vtold_any (w : World) : Calls Tryz.prog 12 #[] w fun e w' => e = .returned (.bool true) ∧ w.grownBy w' none := by
  have TC1 := hid tv_c1; have TC2 := hid tv_c2; have TC3 := hid tv_c3; have TC4 := hid tv_c4; have TC5 := hid tv_c5; have TC6 := hid tv_c6; have TC7 := hid tv_c7
  have TT1 := hid (show tg0.take tvS 0 = (0, tg1) from Prod.ext tv_t1 rfl); have TT2 := hid (show tg1.take tvR 0 = (0, tg2) from Prod.ext tv_t2 rfl)
  have TE := hid tv_end
  have TN := hid tv_new; have TZ := hid tv_zero
  have TS := hid (fun w b => @tv_samp w b); have TR := hid (fun w b => @tv_rot w b)
  have TQ := hid (fun u => snew_ok 1#64 2 (by decide) (by decide) u)
  have V1 := hid (show tvS.value = 9 from rfl); have V2 := hid (show tvR.gen = 1 from rfl)
  rw [show Sl.new 1#64 2 = tq0 from rfl] at TQ
  have HL := hid (sealOf_length tvK.a tvK.b tvS)
  generalize tg0 = g0 at *
  generalize tg1 = g1 at *
  generalize tg2 = g2 at *
  generalize tvS = mS at *
  generalize tvR = mR at *
  generalize sealOf tvK.a tvK.b mS = lS at *
  generalize sealOf tvK.a tvK.b mR = lR at *
  generalize tq0 = q0 at *
  generalize tq1 = q1 at *
  generalize tq2 = q2 at *
  go_enter Tryz.func12, Tryz.ntmps12
  go_wp2_with fail
  refine (default_any _).mono ?_
  rintro e w1 ⟨rfl, hg⟩
  have G1 := hid hg; clear hg
  go_wp2_with fail
  refine (TN.out _).mono ?_
  rintro e w2 ⟨F, B, rfl, hk, hg, hlo⟩
  have HK := hid hk; have G2 := hid (gb_trans G1.out hg (.inl rfl)); have HLO := hid (show ∀ x ∈ F, w.heap.size ≤ x from fun x hx => Nat.le_trans (gb_size G1.out) (hlo x hx)); clear hk hg hlo G1 TN
  obtain ⟨bg, hbg⟩ : ∃ bg, B.g = bg := ⟨_, rfl⟩
  rw [hbg]
  go_wp2_with fail
  refine (TQ.out _).mono ?_
  rintro e w3 ⟨b, rfl, hs, hg, hb⟩
  have K0 := hid (kv_start HK.out HLO.out G2.out hs hg hb); have EB0 := hid hbg; clear hs hg hb HK HLO G2 TQ hbg
  go_wp2_with fail
  refine (TS.out _ _ K0.out.ob).mono ?_
  rintro e w4 ⟨v, rfl, ho, hs, hc⟩
  have K1 := hid (K0.out.sealed ho hs hc); clear ho hs hc K0 TS
  go_wp2_with fail
  refine (tv_check EB0.out _ _ 0 _ _ TC1.out (by decide) _ K1.out.gt K1.out.y0).mono ?_
  rintro e u1 ⟨rfl, hg⟩
  have k := (K1.out.grown hg).alloc (msgObj mS)
  have KK := hid k; clear k hg K1
  go_upto_region 7 with fail
  refine wp_gen (fun wx => Kv w F B g0 b q1 [(u1.heap.size, msgObj mS)] [(v, lS)] wx) KK.out ?_
  clear KK
  generalize u1.heap.size = t1
  intro v1 h
  have K101 := hid h; clear h
  go_wp2_with fail
  refine (tv_check EB0.out _ _ 2 _ _ TC2.out (by decide) _ K101.out.gt K101.out.y0).mono ?_
  rintro e u2 ⟨rfl, hg⟩
  have k := (K101.out.grown hg).alloc (msgObj zeroM)
  have KK := hid k; clear k hg K101
  go_upto_region 8 with fail
  refine wp_gen (fun wx => Kv w F B g0 b q1 [(u2.heap.size, msgObj zeroM), (t1, msgObj mS)] [(v, lS)] wx) KK.out ?_
  clear KK
  generalize u2.heap.size = t2
  intro v2 h
  have K102 := hid h; clear h
  have K102d := hid K102.out.tail; clear K102
  go_wp2_with fail
  refine (tv_checkO EB0.out _ _ 0 _ _ TC3.out (by decide) _ K102d.out.gt K102d.out.y0).mono ?_
  rintro e u3 ⟨rfl, hg⟩
  have k := (K102d.out.grown hg).alloc (msgObj zeroM)
  have KK := hid k; clear k hg K102d
  go_upto_region 9 with fail
  refine wp_gen (fun wx => Kv w F B g0 b q1 [(u3.heap.size, msgObj zeroM), (t1, msgObj mS)] [(v, lS)] wx) KK.out ?_
  clear KK
  generalize u3.heap.size = t3
  intro v3 h
  have K103 := hid h; clear h
  have K103d := hid K103.out.tail; clear K103
  clear TC1 TC2 TC3
  have MM := hid K103d.out.b0
  go_wp2_with (refine wpList_row MM.out Tryz.underlying39 rfl (by kernel_rfl) rfl rfl rfl rfl ?_)
  clear MM
  refine (tv_take EB0.out _ _ _ TT1.out _ K103d.out).mono ?_
  rintro e u4 ⟨rfl, F1, B1, eb, hk⟩
  have K204 := hid hk; have EB4 := hid eb; clear hk eb K103d EB0
  go_wp2_with fail
  refine (tv_check EB4.out _ _ 0 _ _ TC4.out (by decide) _ K204.out.gt K204.out.y0).mono ?_
  rintro e u5 ⟨rfl, hg⟩
  have k := (K204.out.grown hg).alloc (msgObj zeroM)
  have KK := hid k; clear k hg K204
  go_upto_region 11 with fail
  refine wp_gen (fun wx => Kv w F1 B1 g1 b q1 [(u5.heap.size, msgObj zeroM), (t1, msgObj mS)] [(v, lS)] wx) KK.out ?_
  clear KK
  generalize u5.heap.size = t5
  intro v5 h
  have K105 := hid h; clear h
  have K105d := hid K105.out.tail; clear K105
  have Z := hid (show BytesAt v5 (.slice none 0 0) [] from (OwnB.nil 0 _).bytes)
  go_wp2_with fail
  refine (tv_check EB4.out _ _ 0 _ _ TC5.out (by decide) _ K105d.out.gt Z.out).mono ?_
  rintro e u6 ⟨rfl, hg⟩
  have k := (K105d.out.grown hg).alloc (msgObj zeroM)
  have KK := hid k; clear k hg K105d
  go_upto_region 12 with fail
  refine wp_gen (fun wx => Kv w F1 B1 g1 b q1 [(u6.heap.size, msgObj zeroM), (t1, msgObj mS)] [(v, lS)] wx) KK.out ?_
  clear KK
  generalize u6.heap.size = t6
  intro v6 h
  have K106 := hid h; clear h
  have K106d := hid K106.out.tail; clear K106
  clear Z TC4 TC5 TT1
  have YB := hid K106d.out.y0
  have hsl := HL.out
  have WP := K106d.out.b0
  go_upto_region 15 with (at_builtin; refine append_bytes rfl _ _ rfl v6.heap.size (.slice (some ⟨v6.heap.size, 0, none⟩) 0 0) [] rfl (OwnB.empty v6) _ lS rfl (YB.out.alloc _) (by rw [hsl]; decide) (by simp) ?_; intro cv w20 hown hgrow hat; simp only [List.nil_append] at hown; obtain ⟨gc, cc, rfl, lc1, lc2, lc3, lc4⟩ := hown.full (by rw [hsl]; decide); rw [hsl])
  have hg20 : v6.grownBy w20 none := gb_trans (gb_alloc (.refl v6 none) _) hgrow (.inr (.inr ⟨_, rfl, by simp⟩))
  have K20 := hid (Kv.onlyY (K106d.out.made hown hg20)); clear hown hgrow hat hg20 YB WP K106d
  have hOw : OwnB 0 w20 (.slice (some ⟨gc, 0, none⟩) lS.length cc) lS := K20.out.yl (.slice (some ⟨gc, 0, none⟩) lS.length cc, lS) (by simp)
  clear lc2 lc3 lc4
  rw [hsl] at lc1
  have HCC := hid lc1; clear lc1
  obtain ⟨x40, hx40⟩ : ∃ x, byteAt lS 40 = x := ⟨_, rfl⟩
  have hne40 : lS[40]? ≠ some (x40 ^^^ 1) := by rw [List.getElem?_eq_getElem (by rw [hsl]; decide), ← byteAt_eq (by rw [hsl]; decide : 40 < lS.length), hx40]; intro e; exact xor8_ne x40 1 (by decide) (Option.some.inj e).symm
  obtain ⟨cur, hcur⟩ := hOw.obj
  have hbne := hid (obj_ne K20.out.b0 hcur (by decide))
  have c40 : w20.cell? ⟨gc, 40, none⟩ = some (.int .u8 (x40.toNat : Int)) := byte_cell K20.out.y0 40 (by rw [hsl]; decide) x40 hx40
  have f40 : w20.frozen? ⟨gc, 40, none⟩ = false := at_free hcur 40
  have hxor : bits .xor .u8 (x40.toNat : Int) 1 = ((x40 ^^^ 1).toNat : Int) := v8_xor x40 1
  obtain ⟨y40, hy40⟩ : ∃ y, x40 ^^^ 1 = y := ⟨_, rfl⟩
  rw [hy40] at hne40 hxor
  have K21 := hid (K20.out.byte (i := 40) (x := y40) rfl (by rw [hsl]; decide) (by simpa using hbne.out))
  have TC6' := hid (TC6.out y40 hne40)
  clear hOw hcur hbne hx40 hy40 hne40 TC6
  have hlen40 : (lS.set 40 y40).length = 48 := by rw [List.length_set, hsl]
  have LL40 := hid hlen40; clear hlen40
  have YT := hid (show BytesAt (w20.setCell ⟨gc, 40, none⟩ (.int .u8 (y40.toNat : Int))) (.slice (some ⟨gc, 0, none⟩) 48 cc) (lS.set 40 y40) from hsl ▸ K21.out.y0)
  rw [hsl] at K21
  generalize lS.set 40 y40 = l40 at *
  have HCX := hid (show (48 : Int) ≤ (cc : Int) by have := HCC.out; omega)
  clear K20 hsl
  go_upto_region 16 with fail
  refine wp_gen (fun wx => Kv w F1 B1 g1 b q1 [(t1, msgObj mS)] [(.slice (some ⟨gc, 0, none⟩) 48 cc, l40)] wx) K21.out ?_
  clear K21 YT c40 f40 hxor
  intro w21 h21
  have K21 := hid h21; clear h21
  go_wp2_with fail
  refine (tv_check EB4.out _ _ 0 _ _ TC6'.out (by decide) _ K21.out.gt K21.out.y0).mono ?_
  rintro e u7 ⟨rfl, hg⟩
  have k := (K21.out.grown hg).alloc (msgObj zeroM)
  have KK := hid k; clear k hg K21
  go_upto_region 17 with fail
  refine wp_gen (fun wx => Kv w F1 B1 g1 b q1 [(u7.heap.size, msgObj zeroM), (t1, msgObj mS)] [(.slice (some ⟨gc, 0, none⟩) 48 cc, l40)] wx) KK.out ?_
  clear KK
  generalize u7.heap.size = t7
  intro v7 h
  have K107 := hid h; clear h
  have K107d := hid K107.out.tail; clear K107
  clear TC6' LL40 HCC
  go_wp2_with fail
  refine (TR.out _ _ K107d.out.ob).mono ?_
  rintro e w30 ⟨rv, rfl, ho, hs, hc⟩
  have K30 := hid (K107d.out.noY.sealed ho hs hc); clear ho hs hc K107d TR
  go_wp2_with fail
  refine (tv_check EB4.out _ _ 0 _ _ TC7.out (by decide) _ K30.out.gt K30.out.y0).mono ?_
  rintro e u8 ⟨rfl, hg⟩
  have k := (K30.out.grown hg).alloc (msgObj mR)
  have KK := hid k; clear k hg K30
  go_upto_region 19 with fail
  refine wp_gen (fun wx => Kv w F1 B1 g1 b q2 [(u8.heap.size, msgObj mR), (t1, msgObj mS)] [(rv, lR)] wx) KK.out ?_
  clear KK
  generalize u8.heap.size = t8
  intro v8 h
  have K108 := hid h; clear h
  have MM := hid K108.out.b0
  go_wp2_with (refine wpList_row MM.out Tryz.underlying39 rfl (by kernel_rfl) rfl rfl rfl rfl ?_)
  clear MM
  refine (tv_take EB4.out _ _ _ TT2.out _ K108.out).mono ?_
  rintro e u9 ⟨rfl, F2, B2, eb, hk⟩
  have K209 := hid hk; have EB9 := hid eb; clear hk eb K108 EB4
  obtain ⟨e1, e2, e3, e4⟩ := TE.out
  have CG := rgen_in 2 _ K209.out.gt.ring (by rw [e4]; decide)
  rw [e1] at CG
  have HCG := hid CG; clear CG
  have KX := K209
  obtain ⟨a0, a1, a2, a3, a4, a5, a6⟩ := msg_cells K209.out.b1
  obtain ⟨c0, c1, c2, c3, c4, c5, c6⟩ := msg_cells K209.out.b0
  rw [V1.out] at a5
  rw [V2.out] at c2
  have E2 := hid e2; have E3 := hid e3; have E4 := hid e4; clear e1 e2 e3 e4
  go_wp2_with fail
  refine (tv_ring EB9.out _ K209.out.gt).mono ?_
  rintro e w40 ⟨rfl, hw⟩
  subst hw
  go_wp2_with fail
  refine HCG.out.mono ?_
  rintro e w41 ⟨rfl, hw⟩
  subst hw
  go_wp2_with fail
  refine (tv_replay EB9.out 2 (by rw [E4.out]; decide) _ K209.out.gt).mono ?_
  rintro e w42 ⟨rfl, hg⟩
  have K42 := hid (K209.out.grown hg); clear hg HCG KX a0 a1 a2 a3 a4 a5 a6 c0 c1 c2 c3 c4 c5 c6 K209
  go_wp2_with fail
  refine (ptop_any _ (K42.out.gt.now 2 (by rw [E4.out]; decide))).mono ?_
  rintro e w43 ⟨rfl, hw⟩
  subst hw
  rw [E2.out]
  go_wp2_with fail
  refine (tv_old EB9.out 2 (by rw [E4.out]; decide) _ K42.out.gt).mono ?_
  rintro e w44 ⟨rfl, hg⟩
  have K44 := hid (K42.out.grown hg); clear hg K42
  go_wp2_with fail
  refine (ptop_any _ (K44.out.gt.old 2 (by rw [E4.out]; decide))).mono ?_
  rintro e w45 ⟨rfl, hw⟩
  subst hw
  rw [E3.out]
  go_wp2_with fail
  refine (tv_replay9 EB9.out E4.out _ K44.out.gt).mono ?_
  rintro e w46 ⟨rfl, hw⟩
  subst hw
  go_wp2_with (refine wpList_buildTo_w (ty := 27) (cs := zeroC.cells) rfl rfl rfl (by kernel_rfl) ?_)
  refine (TZ.out _).mono ?_
  rintro e w47 ⟨rfl, hg⟩
  have K47 := hid (K44.out.grown hg); clear hg K44
  have G47 := hid K47.out.g; clear K47
  go_wp2_with fail
  go_ret
  exact ⟨rfl, G47.out⟩
end Go.Proofs.YtfhifnhnkgdnlaaGreat
end
section
set_option linter.unusedSimpArgs false
namespace Go.Proofs.YtfhifnhnkgdnlaaGreat
set_option maxRecDepth 100000
open Go.RowKit
end Go.Proofs.YtfhifnhnkgdnlaaGreat
end
section
set_option linter.unusedSectionVars false
set_option linter.unusedSimpArgs false
namespace Go.Proofs.YtfhifnhnkgdnlaaGreat
set_option maxRecDepth 100000
open Go.RowKit
theorem lo_is {f : Int} (h : 0 ≤ f ∧ f ≤ 2) : wrap64 (wrap64 (2 * f) + 1) = 2 * f + 1 := by
  rw [wrap_small (x := 2 * f) (by omega) (by omega), wrap_small (by omega) (by omega)]
theorem cwithin_in {x lo hi : Int} (h : lo ≤ x ∧ x ≤ hi) : cwithin x lo hi = true := by simp [cwithin, h]
section
variable {c : Conf} (h : Fine c)
include h
theorem part1 : cwithin c.n 1 16 = true := cwithin_in (by have := h.f; have := h.n; omega)
theorem part2 : cwithin c.f 0 (wrap64 ((wrap64 (c.n - 1)).tdiv 3)) = true := by rw [third (by have := h.f; have := h.n; omega) (by have := h.f; have := h.n; omega)]; have := h.f; have := h.n; simp; omega
theorem part3 : cwithin c.m 1 4 = true := cwithin_in (by have := h.m; omega)
theorem part4 : cwithin c.quorum (wrap64 (wrap64 (2 * c.f) + 1)) c.n = true := by rw [lo_is h.f]; exact cwithin_in h.quorum
theorem part5 : cwithin c.fresh 1 8 = true := cwithin_in (by have := h.fresh; omega)
theorem part6 : cwithin c.grace 1 100 = true := cwithin_in (by have := h.grace; omega)
theorem part7 : cwithin c.window 1 64 = true := cwithin_in (by have := h.window; omega)
theorem part8 : tgts c.m c.t0 c.t1 c.t2 c.t3 = true := by
  have h0 := h.t0
  have e0 : tgt c.m 0 c.t0 = true := by unfold tgt; rw [if_pos (by have := h.m; omega)]; exact cwithin_in (by omega)
  have e2 : tgt c.m 2 c.t2 = true := by unfold tgt; rw [if_neg (by have := h.m; omega), h.t2]; rfl
  have e3 : tgt c.m 3 c.t3 = true := by unfold tgt; rw [if_neg (by have := h.m; omega), h.t3]; rfl
  have e1 : tgt c.m 1 c.t1 = true := by
    rcases h.m with ⟨hm, h1⟩ | ⟨hm, h1, h2⟩
    · unfold tgt; rw [if_neg (by omega), h1]; rfl
    · unfold tgt; rw [if_pos (by omega)]; exact cwithin_in (by omega)
  unfold tgts
  rw [e0, e1, e2, e3]
  rfl
theorem part9 : cwithin c.tol 0 1000 = true := cwithin_in (by have := h.tol; omega)
theorem part10 : cwithin c.min 1 10000 = true := cwithin_in (by have := h.min; omega)
theorem part11 : cwithin c.max c.min 10000 = true := cwithin_in (by have := h.min; have := h.max; omega)
theorem part12 : cwithin c.calmup 0 60 = true := cwithin_in (by have := h.calmup; omega)
theorem part13 : cwithin c.calmdown 0 60 = true := cwithin_in (by have := h.calmdown; omega)
theorem part14 : cwithin c.podsup 1 1000 = true := cwithin_in (by have := h.podsup; omega)
theorem part15 : cwithin c.pctup 1 1000 = true := cwithin_in (by have := h.pctup; omega)
theorem part16 : cwithin c.podsdown 1 1000 = true := cwithin_in (by have := h.podsdown; omega)
theorem part17 : cwithin c.pctdown 1 100 = true := cwithin_in (by have := h.pctdown; omega)
theorem part18 : cwithin c.period 1 60 = true := cwithin_in (by have := h.period; omega)
theorem part19 : cwithin c.far 0 1099511627776 = true := cwithin_in (by have := h.far; omega)
theorem part20 : cwithin c.strikes 1 100 = true := cwithin_in (by have := h.strikes; omega)
theorem part21 : cwithin c.probe 1 100 = true := cwithin_in (by have := h.probe; omega)
theorem part22 : cwithin c.sectors 64 4096 = true := cwithin_in (by have := h.sectors; omega)
theorem fine_none : st22 c = none := ok22 (ok21 (ok20 (ok19 (ok18 (ok17 (ok16 (ok15 (ok14 (ok13 (ok12 (ok11 (ok10 (ok9 (ok8 (ok7 (ok6 (ok5 (ok4 (ok3 (ok2 (ok1 (c := c) (part1 h)) (part2 h)) (part3 h)) (part4 h)) (part5 h)) (part6 h)) (part7 h)) (part8 h)) (part9 h)) (part10 h)) (part11 h)) (part12 h)) (part13 h)) (part14 h)) (part15 h)) (part16 h)) (part17 h)) (part18 h)) (part19 h)) (part20 h)) (part21 h)) (part22 h)
end
end Go.Proofs.YtfhifnhnkgdnlaaGreat
end
section
set_option linter.unusedSimpArgs false
namespace Go.Proofs.YtfhifnhnkgdnlaaGreat
set_option maxRecDepth 100000
open Go.RowKit

def msgEq (a b : Mg) : Bool := a.kind == b.kind && a.who == b.who && a.gen == b.gen && a.seq == b.seq && a.epoch == b.epoch && a.value == b.value && a.metric == b.metric
theorem msgEq_iff (a b : Mg) : msgEq a b = true ↔ a = b := by
  cases a; cases b; simp [msgEq, and_assoc]
theorem msgEq_self (a : Mg) : msgEq a a = true := (msgEq_iff a a).2 rfl
set_option maxHeartbeats 1600000 in
theorem msg_equal (a b : Mg) (w : World) : (Op.equalIn 10000 39 (mg a) (mg b)).run Tryz.prog w = .ok (msgEq a b) w := by
  unfold msgEq
  rw [run_equalIn_agg w 9999 39 a.cells b.cells (by kernel_rfl) (by kernel_rfl)]
  simp [go_sem]
  (repeat' split) <;> simp [*]
end Go.Proofs.YtfhifnhnkgdnlaaGreat
end
section
set_option linter.unusedSimpArgs false
set_option linter.unusedVariables false
namespace Go.Proofs.YtfhifnhnkgdnlaaGreat
set_option maxRecDepth 100000
open Go.RowKit

@[reducible] def confObj (c : Conf) : Obj := .cells c.cells 27
def sdOf (c : Conf) : BitVec 64 := BitVec.ofInt 64 c.seed
def gOf (c : Conf) : Gt := .new (sdOf c) c.n.toNat c.grace.toNat c.window.toNat c.m.toNat c.fresh.toNat
theorem seed_q {c : Conf} (h : 0 ≤ c.seed ∧ c.seed < 100000) : c.seed = q (sdOf c) := by
  unfold sdOf q
  rw [BitVec.toNat_ofInt]
  have := h.1; have := h.2
  omega
theorem gnew_fine {c : Conf} (h : Fine c) (w : World) : Calls Tryz.prog 10 #[cf c] w (MadeG w (gOf c)) := by
  have hn := h.n; have hf := h.f; have hg := h.grace; have hw := h.window; have hm := h.m; have hr := h.fresh
  exact gnew_ok c (sdOf c) c.n.toNat c.grace.toNat c.window.toNat c.m.toNat c.fresh.toNat (fine_none h) (by omega) (by omega) (by omega) (by omega) (by omega) (seed_q h.seed)
    (by omega) (by omega) (by omega) (by omega) (by omega) (by omega) (by omega) (by omega) (by omega) (by omega) w
theorem snew_fine {c : Conf} (h : Fine c) (who : Int) (h0 : 0 ≤ who) (h1 : who ≤ 15) (w : World) : Calls Tryz.prog 30 #[.int .u64 c.seed, .int .i64 who] w (MadeS w (.new (sdOf c) who)) := by
  rw [seed_q h.seed]; exact snew_ok (sdOf c) who h0 h1 w
theorem kv_conf {w0 w w1 w2 : World} {F : List Nat} {B : GBl} {G : Gt} {b x : Nat} {s : Sl} {c : Conf} (K : GtAt w2 F B G) (H : SlAt 145 w2 b s) (hlo : ∀ y ∈ F, w0.heap.size ≤ y) (hb : w0.heap.size ≤ b) (hbF : b ∉ F) (hx : x ∉ F) (hg : w0.grownBy w2 none) (hc : w2.heap[x]? = some (confObj c)) :
    Kv w0 F B G b s [(x, confObj c)] [] w2 :=
  ⟨K, H, hlo, hb, hbF, hg, fun y hy => by rcases List.mem_singleton.1 hy with rfl; exact hc, fun y hy => by rcases List.mem_singleton.1 hy with rfl; exact ⟨obj_ne hc H.top (by decide), hx⟩, (fun _ h => by cases h), (fun _ h => by cases h)⟩
theorem gOf_key (c : Conf) (m : Mg) (hg : sealedOf m = 0) (hw : 0 ≤ m.who) : (gOf c).key m = ofOf (sdOf c) m.who 0 := by
  show ofOf (sdOf c) ((m.who.toNat : Nat) : Int) (sealedOf m) = _
  rw [hg, Int.toNat_of_nonneg hw]
theorem gOf_may (c : Conf) (m : Mg) (now : Int) (hk : m.kind ≠ 2) (hg : m.gen = 0) : (gOf c).may m now = true := by
  refine decide_eq_true ⟨fun e => absurd e hk, ?_⟩
  have : sealedOf m = 0 := by unfold sealedOf; rw [if_neg hk, hg]
  rw [this]
  exact ⟨Int.le_refl _, .inl rfl⟩
/-- a first sample: who, of which epoch, of which value -/
@[reducible] def frst (who e v : Int) : Mg := ⟨1, who, 0, 1, e, v, 0⟩
theorem frst_may {who e v : Int} (w0 : 0 ≤ who) (w1 : who ≤ 15) (e0 : 0 ≤ e) (e1 : e ≤ 1099511627776) (v0 : 0 ≤ v) (v1 : v ≤ 1099511627776) : mayOf (frst who e v) = true := decide_eq_true (by unfold May; dsimp only; omega)
/-- a gate of collectors n, fresh f, metrics m, whatever the rest -/
theorem first_of (sd : BitVec 64) (n grace win met fresh : Nat) (hm : 1 ≤ met) (who e v t : Int) (o : Int → Bool) (w0 : 0 ≤ who) (w1 : who < (n : Int)) (w2 : who ≤ 15) (e0 : 0 ≤ e) (e1 : e ≤ 1099511627776) (v0 : 0 ≤ v) (v1 : v ≤ 1099511627776) :
    (Gt.new sd n grace win met fresh).check (sealOf (ofOf sd who 0).a (ofOf sd who 0).b (frst who e v)) t o = if o who = true then (zeroM, 3) else if t ≤ e ∧ e < t + (fresh : Int) then (frst who e v, 0) else (zeroM, 7) := by
  have hM := frst_may w0 w2 e0 e1 v0 v1
  have hk : (Gt.new sd n grace win met fresh).key (frst who e v) = ofOf sd who 0 := by
    show ofOf sd ((who.toNat : Nat) : Int) 0 = _
    rw [Int.toNat_of_nonneg w0]
  have hin : (Gt.new sd n grace win met fresh).in who = true := decide_eq_true ⟨w0, w1⟩
  have hmay : (Gt.new sd n grace win met fresh).may (frst who e v) t = true := decide_eq_true ⟨fun h => absurd (show (1 : Int) = 2 from h) (by decide), Int.le_refl _, .inl rfl⟩
  have hrep : ((Gt.new sd n grace win met fresh).rep (frst who e v)) = Rp.new win := by unfold Gt.rep; split <;> rfl
  have hq : (Rp.new win).may 1 = true := decide_eq_true ⟨by decide, by decide, .inl (by show (0 : Int) < 1; decide)⟩
  rw [check_own _ _ t o _ hk hM]
  by_cases ho : o who = true
  · rw [if_pos (Or.inr ho), if_pos ho]
  · have ho' : o who = false := by simpa using ho
    rw [if_neg (by show ¬ ((Gt.new sd n grace win met fresh).in who = false ∨ o who = true); rw [hin, ho']; simp), if_neg (by rw [hmay]; simp), hrep, if_neg (by show ¬ ((Rp.new win).may 1 = false); rw [hq]; simp), if_neg ho]
    by_cases ht : t ≤ e ∧ e < t + (fresh : Int)
    · rw [if_pos ht, if_neg (by show ¬ (decide (t ≤ e ∧ e < t + (fresh : Int)) = false); simp [ht]), if_neg (by show ¬ ((met : Int) ≤ 0); omega)]
    · rw [if_neg ht, if_pos (by show decide (t ≤ e ∧ e < t + (fresh : Int)) = false; exact decide_eq_false ht)]
theorem first_samp {sd : BitVec 64} {who e v : Int} (w0 : 0 ≤ who) (w1 : who ≤ 15) (e0 : 0 ≤ e) (e1 : e ≤ 1099511627776) (v0 : 0 ≤ v) (v1 : v ≤ 1099511627776) {w : World} {b : Nat} (H : SlAt 145 w b (.new sd who)) :
    Calls Tryz.prog 31 #[.pointer (some ⟨b, 0, none⟩), .int .i64 0, .int .i64 e, .int .i64 v] w (LeavesS w b (sealOf (ofOf sd who 0).a (ofOf sd who 0).b (frst who e v)) 0 ⟨sd, who, 0, 1⟩) :=
  ssample_yes (s := Sl.new sd who) 0 e v (show mayOf (frst who e v) = true from frst_may w0 w1 e0 e1 v0 v1) w H
end Go.Proofs.YtfhifnhnkgdnlaaGreat
end
section
namespace Go.Proofs.YtfhifnhnkgdnlaaGreat
set_option maxRecDepth 100000
open Go.ChangeShapes Go.WideShapes Go.ChangeAt Go.RowKit

section
variable {H : Type} {enc : TypeId × Value → H} {w : World} {base : Nat} {d : DataW H} {ps : List MemPlace} {v : Value} {t e : TypeId}

end
end Go.Proofs.YtfhifnhnkgdnlaaGreat
end
section
namespace Go.Proofs.YtfhifnhnkgdnlaaGreat
set_option maxRecDepth 100000
open Go.ChangeShapes Go.WideShapes Go.ChangeAt Go.RowKit
section
variable {P : Program} {H : Type} {enc : TypeId × Value → H} {w : World} {base : Nat} {spare : Nat → Bool} {held : Bool}
end
end Go.Proofs.YtfhifnhnkgdnlaaGreat
end
