/-
  The walk of the statement StateKept: at most sixty-four decisions are kept, the last ones. No condition.
-/
import Derived.Test.YtecggbndlbkhdaaGreatNSvV
import Derived.Test.YtecggbndlbkhdaaGreatY9
import Derived.Test.YtecggbndlbkhdaaGreatY6
import Derived.Test.YtecggbndlbkhdaaGreatY5
set_option linter.unusedSimpArgs false
set_option linter.unusedVariables false
namespace Go.Proofs.YtecggbndlbkhdaaGreat.skept
set_option maxRecDepth 100000
open Go.RowKit

set_option maxHeartbeats 6400000 in
theorem walk {w : World} (l : List Int) (p : Option Addr) (cap : Nat) (i0 : IntsAt w (.slice p l.length cap) l) (x : Int) :
    Calls Tryz.prog 8 #[.slice p l.length cap, .int .i64 x] w fun e w' => e = .returned (.bool true) ∧ w.grownBy w' none := by
  obtain ⟨z, hz0, hz1, hz⟩ := umod_int x 101 (by decide)
  obtain ⟨kk, rfl⟩ : ∃ kk : Nat, z = (kk : Int) := ⟨z.toNat, by omega⟩
  have hkk : kk ≤ 100 := by omega
  have hw : IntKind.i64.wrap (kk : Int) = (kk : Int) := IntWalk.i64_in _ (by omega)
  have hz : (IntKind.u64.wrap x).tmod 101 = (kk : Int) := hz
  clear hz0 hz1
  go_enter Tryz.func8, Tryz.ntmps8
  go_wp2_with fail
  refine (fit_any l p cap _ i0).mono ?_
  rintro e w1 ⟨c, rfl, hF, hg⟩
  obtain ⟨s0, lf, hA⟩ := suall_fine hF
  have HA := hid hA
  have C0 := hid (cfx_new c hg)
  have NW := hid (fun u => sunew_ok hA.of u)
  clear hg hF
  go_wp2_with (first | refine wpList_store_new (w := w1) (cs := c.cells) rfl (by kernel_rfl) (by kernel_rfl) (by kernel_rfl) rfl rfl rfl rfl rfl ?_ | refine wpList_conf C0.out.box rfl rfl rfl rfl ?_)
  refine (NW.out _).mono ?_
  rintro e w2 ⟨X, rfl, hM⟩
  have K0 := hid (Sk.made C0.out hM)
  generalize w1.heap.size = xb at *
  generalize X.b = b at *
  clear hM C0 NW
  go_wp2_with fail
  have hz9 := hA.of.zero
  have hon := hA.one
  go_loopw [8, 9, 10] (fun i _ _ wr => ∃ k : Nat, k ≤ kk ∧ i = .int .i64 (k : Int) ∧ ∃ s, Sk w xb c b s wr ∧ Ste.Ok s0 s ∧ s.t = [] ∧ s.now = (k : Int) ∧ s.l.n = c.min ∧ s.ds = decsK c.min k) (fun i _ _ _ => kk - (intOf i).toNat)
  case atStart => exact ⟨0, Nat.zero_le _, rfl, s0, K0.out, HA.out.of.base.ok, hz9.2.1, hz9.1, hon, hz9.2.2⟩
  case round =>
    obtain ⟨k, hk, rfl, s, hK, hok, ht, hn, hl, hd⟩ := hrel
    clear K0 hz9 hon
    by_cases hlt : k < kk
    · obtain ⟨c1, c2, c3, c4, c5, c6⟩ := close_none HA.out hok ht (by omega)
      rw [hn, hl] at c1
      rw [hl] at c3
      rw [hn] at c4
      rw [hd, hn, hl, decsK_succ] at c5
      have D3 := hid (by have := Sk.doClose HA.out hok hK; rw [c1] at this; exact this)
      have E5 := hid (And.intro c6 (And.intro c2 (And.intro c4 (And.intro c3 c5))))
      generalize s.closed = s1 at *
      clear hK hok ht hn hl hd c1 c2 c3 c4 c5 c6
      go_wp2_with fail
      refine D3.out.mono ?_
      rintro e w3 ⟨rfl, hK⟩
      have K1 := hid (hK.alloc (dcObj ⟨(k : Int), c.min, 0, true, 0, 0, 0, 0⟩))
      have R1 := at_new w3 (dcObj ⟨(k : Int), c.min, 0, true, 0, 0, 0, 0⟩)
      have d0 := at_cell R1 0; have d1 := at_cell R1 1; have d3 := at_cell R1 3
      have b12 := at_cell K1.out.box 12
      clear hK D3 R1
      go_wp2_with (refine wpList_store_new (cs := Dc.cells ⟨(k : Int), c.min, 0, true, 0, 0, 0, 0⟩) rfl (by kernel_rfl) (by kernel_rfl) (by kernel_rfl) rfl rfl rfl rfl rfl ?_)
      go_roundw
      case rel => exact ⟨k + 1, hlt, by go_num, s1, K1.out, E5.out.1, E5.out.2.1, by have := E5.out.2.2.1; push_cast; exact this, E5.out.2.2.2.1, E5.out.2.2.2.2⟩
      case measure => simp [intOf]; omega
    · obtain rfl : k = kk := by omega
      have HN := hid hn
      have DK := hid (by have := Sk.decs hok hK; rw [hd] at this; exact this)
      have K1 := hid hK
      have hl9 := decsK_len c.min k
      have AT := hid (fun i (hi : i < min k 64) => decsK_at c.min k hi)
      obtain ⟨m, hm⟩ : ∃ m, min k 64 = m := ⟨_, rfl⟩
      rw [hm] at hl9 AT
      have hmin : min (k : Int) 64 = (m : Int) := by omega
      obtain ⟨d, hd2⟩ : ∃ d, k - m = d := ⟨_, rfl⟩
      rw [hd2] at AT
      have hmk : m ≤ 64 := by omega
      have hdk : d ≤ 100 := by omega
      have hs1 : IntKind.i64.wrap ((k : Int) - (m : Int)) = (d : Int) := by rw [IntWalk.i64_in _ (by omega)]; omega
      have hm0 : IntKind.i64.wrap (m : Int) = (m : Int) := IntWalk.i64_in _ (by omega)
      generalize decsK c.min k = L at *
      clear hK hok ht hn hl hd hm hd2
      go_wp2_with fail
      refine DK.out.mono ?_
      rintro e w3 ⟨v, rfl, ho, hg⟩
      have K2 := hid (K1.out.grown hg)
      have HD := hid ho.reads
      obtain ⟨pv, cv, rfl⟩ := ho.form
      have HL9 := hid hl9
      rw [hl9] at HD ⊢
      clear ho hg DK K1 hl9
      go_wp2_with fail
      go_loopw [12] (fun i wr => ∃ j : Nat, j ≤ m ∧ i = .int .i64 (j : Int) ∧ w3 = wr) (fun i _ => m - (intOf i).toNat)
      case atStart => exact ⟨0, Nat.zero_le _, rfl, rfl⟩
      case round =>
        obtain ⟨j, hj, rfl, rfl⟩ := hrel
        by_cases hjm : j < m
        · have hx := AT.out j hjm
          have hjl : j < L.length := by rw [HL9.out]; exact hjm
          rw [List.getElem?_eq_getElem hjl] at hx
          have hx2 := Option.some.inj hx
          obtain ⟨ab, ao, rfl, -, hcc, e0, -⟩ := HD.out.cells hjl
          rw [hx2] at e0
          dsimp only at e0
          obtain ⟨y, hy⟩ : ∃ y : Int, ((d + j : Nat) : Int) = y := ⟨_, rfl⟩
          rw [hy] at e0
          have hs2 : IntKind.i64.wrap ((d : Int) + (j : Int)) = y := by rw [IntWalk.i64_in _ (by omega)]; omega
          clear hx hx2 hy
          go_wp2_with fail
          go_roundw
          case rel => exact ⟨j + 1, hjm, by go_num, by first | rfl | trivial⟩
          case measure => simp [intOf]; omega
        · obtain rfl : j = m := by omega
          go_wp2_with fail
          refine (told19_any _).mono ?_
          rintro e w4 ⟨rfl, hg⟩
          have K3 := hid (K2.out.grown hg)
          clear hg K2
          have NW := hid (by have := K3.out.now; rw [HN.out] at this; exact this)
          go_wp2_with fail
          refine NW.out.mono ?_
          rintro e w5 ⟨rfl, rfl⟩
          go_wp2_with fail
          go_ret
          exact ⟨rfl, K3.out.g⟩
end Go.Proofs.YtecggbndlbkhdaaGreat.skept
