/-
  Contracts for package score: who is heard of a row; what a value says. The condition: the score lies there, the row reads as samples.
-/
import Derived.Test.YtogmibmkkmbgoaaScU
import Derived.Test.YtogmibmkkmbgoaaTbZ
set_option linter.unusedSimpArgs false
set_option linter.unusedVariables false
namespace Go.Proofs.Ytogmibmkkmbgoaa
set_option maxRecDepth 100000
open Go.RowKit

set_option maxHeartbeats 800000 in
theorem heard_any {s : Sc} {b hb : Nat} {w : World} (h : ScAt s b hb w) (v : Value) (l : List Sm) (hv : SAt w v l) (hl : l.length ≤ 100000) :
    Calls Try.prog 47 #[.pointer (some ⟨b, 0, none⟩), v] w fun e w' => ∃ u, e = .returned u ∧ OwnZ w.heap.size w' u (heardL s.H l) ∧ w.grownBy w' none := by
  have HS := hid h
  have HI := hid hv
  have HL := hid hl
  obtain ⟨p, c, rfl⟩ := hv.form
  obtain ⟨n, hn⟩ : ∃ n, l.length = n := ⟨_, rfl⟩
  have HN := hid hn
  rw [hn] at HI hl ⊢
  clear h hv hn
  go_enter Try.func47, Try.ntmps47
  go_wp2_with fail
  go_loopw [5, 10] (fun u i wr => ∃ (k : Nat) (v0 : Value), u = v0 ∧ k ≤ n ∧ i = .int .i64 (k : Int) ∧ OwnZ w.heap.size wr v0 (heardL s.H (l.take k)) ∧ w.grownBy wr none)
    (fun _ i _ => n - (intOf i).toNat)
  case atStart => exact ⟨0, _, rfl, Nat.zero_le _, rfl, by rw [List.take_zero]; exact OwnZ.nil _ _, .refl _ _⟩
  case round =>
    obtain ⟨k, v0, hv0, hk, rfl, hown, hgr⟩ := hrel
    have hv' := hv0.symm
    clear hv0
    subst hv'
    have HOWN := hid hown
    have HGR := hid hgr
    clear hown hgr
    by_cases hlt : k < n
    · have hkl : k < l.length := by rw [HN.out]; exact hlt
      obtain ⟨ab, ao, rfl, -, hcc, e0, e1, e2, e3⟩ := (HI.out.grown HGR.out).cells hkl
      have hx := List.getElem?_eq_getElem hkl
      generalize l[k] = x at *
      obtain ⟨z0, z1, z2, z3⟩ := x
      dsimp only at e0 e1 e2 e3
      have HX := hid (heardL_succ (H := s.H) hx)
      dsimp only at HX
      have HLL := hid (show (heardL s.H (l.take k)).length + [(⟨z0, z1, z2, z3⟩ : Sm)].length ≤ 1000000 by
        have h1 := heardL_len s.H (l.take k)
        have h2 := HL.out
        rw [List.length_take] at h1
        rw [List.length_singleton]; omega)
      clear hx
      have HO := hid (out_any ((HS.out.grown HGR.out).alloc (.cells #[.int .i64 z0, .int .i64 z1, .int .i64 z2, .int .i64 z3] 40)) z0)
      cases hbo : outL s.H z0 with
      | true =>
        rw [hbo] at HO HX
        rw [if_pos rfl] at HX
        have G1 := hid (gb_alloc HGR.out (.cells #[.int .i64 z0, .int .i64 z1, .int .i64 z2, .int .i64 z3] 40))
        have O1 := hid (HOWN.out.grown (World.grownBy_alloc wr (.cells #[.int .i64 z0, .int .i64 z1, .int .i64 z2, .int .i64 z3] 40) none))
        clear hbo HOWN HGR
        go_wp2_with fail
        refine HO.out.mono ?_
        rintro e w1 ⟨rfl, rfl⟩
        clear HO
        go_wp2_with fail
        go_roundw
        case rel => exact ⟨k + 1, _, rfl, by omega, by go_num, by rw [HX.out]; exact O1.out, G1.out⟩
        case measure => simp [intOf]; omega
      | false =>
        rw [hbo] at HO HX
        rw [if_neg (by simp)] at HX
        have G1 := hid (gb_alloc (gb_alloc HGR.out (.cells #[.int .i64 z0, .int .i64 z1, .int .i64 z2, .int .i64 z3] 40)) (.cells #[.int .i64 z0, .int .i64 z1, .int .i64 z2, .int .i64 z3] 40))
        have O1 := hid ((HOWN.out.grown (World.grownBy_alloc wr (.cells #[.int .i64 z0, .int .i64 z1, .int .i64 z2, .int .i64 z3] 40) none)).grown (World.grownBy_alloc _ (.cells #[.int .i64 z0, .int .i64 z1, .int .i64 z2, .int .i64 z3] 40) none))
        have SM := hid (smp_new (wr.alloc (.cells #[.int .i64 z0, .int .i64 z1, .int .i64 z2, .int .i64 z3] 40)) ⟨z0, z1, z2, z3⟩)
        rw [World.size_alloc] at SM
        clear hbo HOWN HGR
        go_wp2_with fail
        refine HO.out.mono ?_
        rintro e w1 ⟨rfl, rfl⟩
        clear HO
        go_wp2_with
          (refine append_smp rfl _ _ rfl w.heap.size _ _ rfl O1.out _ [⟨z0, z1, z2, z3⟩] rfl SM.out HLL.out G1.out.size ?_; intro v' w3 hown3 hg3 hat3; have HO3 := hid hown3; have HG3 := hid (gb_ownZ G1.out O1.out (Nat.le_refl _) hg3); clear hown3 hg3 hat3)
        go_roundw
        case rel => exact ⟨k + 1, _, rfl, by omega, by go_num, by rw [HX.out]; exact HO3.out, HG3.out⟩
        case measure => simp [intOf]; omega
    · obtain rfl : k = n := by omega
      rw [← HN.out, List.take_length] at HOWN
      go_wp2_with fail
      go_ret
      exact ⟨_, rfl, HOWN.out, HGR.out⟩
theorem weigh_any {s : Sc} {b hb : Nat} {w : World} (h : ScAt s b hb w) (x m : Int) (hx : 0 ≤ x ∧ x ≤ 1099511627776) (hm : 0 ≤ m ∧ m ≤ 1099511627776) :
    Calls Try.prog 49 #[.pointer (some ⟨b, 0, none⟩), .int .i64 x, .int .i64 m] w fun e w' => e = .returned (.int .i64 (weighL s.far x m)) ∧ w = w' := by
  obtain ⟨c0, c1, c2, c3⟩ := h.cells
  have hf := h.ok.far
  unfold weighL
  obtain ⟨d1, h1⟩ : ∃ d1, d1 = x - m := ⟨_, rfl⟩
  obtain ⟨d2, h2⟩ : ∃ d2, d2 = m - x := ⟨_, rfl⟩
  have s1 : IntKind.i64.wrap (x - m) = d1 := by rw [h1]; exact IntWalk.i64_in _ (by omega)
  have s2 : IntKind.i64.wrap (m - x) = d2 := by rw [h2]; exact IntWalk.i64_in _ (by omega)
  rw [← h1, ← h2]
  generalize s.far = far at *
  clear h h1 h2 hx hm c0 c1 c2
  by_cases a1 : far < d1
  · rw [if_pos (.inl a1)]
    go_enter Try.func49, Try.ntmps49
    go_wp2
    go_ret
    exact ⟨rfl, rfl⟩
  · by_cases a2 : far < d2
    · rw [if_pos (.inr a2)]
      go_enter Try.func49, Try.ntmps49
      go_wp2
      go_ret
      exact ⟨rfl, rfl⟩
    · rw [if_neg (fun x => x.elim a1 a2)]
      go_enter Try.func49, Try.ntmps49
      go_wp2
      go_ret
      exact ⟨rfl, rfl⟩
end Go.Proofs.Ytogmibmkkmbgoaa
