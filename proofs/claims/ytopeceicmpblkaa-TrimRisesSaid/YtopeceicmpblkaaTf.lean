/-
  Contract: the law's own 'fit': the first numbers, each made one that may be. The condition: a slice that reads as numbers.
-/
import Derived.Test.YtopeceicmpblkaaKl
import Derived.Test.YtopeceicmpblkaaTm
import Derived.Test.YtopeceicmpblkaaUmi
set_option linter.unusedSimpArgs false
set_option linter.unusedVariables false
namespace Go.Proofs.Ytopeceicmpblkaa
set_option maxRecDepth 100000
open Go.RowKit

/-- a number made one that may be -/
def fv (x : Int) : Int := (IntKind.u64.wrap x).tmod 1099511627777
theorem fv_in (x : Int) : 0 ≤ fv x ∧ fv x ≤ 1099511627776 := by
  obtain ⟨k, h0, h1, h2⟩ := umod_int x 1099511627777 (by decide)
  have e : fv x = k := h2
  rw [e]; omega
def fitL (l : List Int) (k : Nat) : List Int := (l.take k).map fv
theorem fitL_len (l : List Int) (k : Nat) : (fitL l k).length = min k l.length := by unfold fitL; rw [List.length_map, List.length_take]
theorem fitL_succ (l : List Int) (k : Nat) (h : k < l.length) : fitL l (k + 1) = fitL l k ++ [fv l[k]] := by
  unfold fitL; rw [List.take_succ_eq_append_getElem h, List.map_append]; rfl
theorem fitL_ok (l : List Int) (k : Nat) : ∀ x ∈ fitL l k, 0 ≤ x ∧ x ≤ 1099511627776 := by
  intro x hx
  obtain ⟨y, _, rfl⟩ := List.mem_map.1 hx
  exact fv_in y
theorem fitL_all (l : List Int) (k : Nat) (h : l.length ≤ k) : fitL l k = fitL l l.length := by
  unfold fitL; rw [List.take_of_length_le h, List.take_length]

set_option maxHeartbeats 1600000 in
theorem fit_any (v : Value) (l : List Int) (m : Nat) (w : World) (h : IntsAt w v l) (hm : m ≤ 1000) :
    Calls Try.prog 16 #[v, .int .i64 (m : Int)] w fun e w' => ∃ u, e = .returned u ∧ OwnI w.heap.size w' u (fitL l m) ∧ w.grownBy w' none := by
  have HI := hid h
  obtain ⟨p, c, rfl⟩ := h.form
  obtain ⟨n, hn⟩ : ∃ n, l.length = n := ⟨_, rfl⟩
  have HN := hid hn
  have hlen := h.len
  rw [hn] at HI hlen ⊢
  unfold maxLen at hlen
  have HZ := hid (show OwnI w.heap.size w (.slice none 0 0) (fitL l 0) from OwnI.nil _ _)
  clear h hn
  go_enter Try.func16, Try.ntmps16
  go_wp2_with fail
  go_loopw [5, 6] (fun u i wr => ∃ k : Nat, k ≤ n ∧ k ≤ m ∧ i = .int .i64 (k : Int) ∧ OwnI w.heap.size wr u (fitL l k) ∧ w.grownBy wr none) (fun _ i _ => n - (intOf i).toNat)
  case atStart => exact ⟨0, Nat.zero_le _, Nat.zero_le _, rfl, HZ.out, .refl w none⟩
  case round =>
    obtain ⟨k, hk, hkm, rfl, ho, hgr⟩ := hrel
    have hfl := fitL_len l k
    rw [HN.out, Nat.min_eq_left hk] at hfl
    have HO := hid ho; have HGR := hid hgr
    obtain ⟨pu, cu, rfl⟩ := ho.form
    have hsz := gb_size hgr
    clear ho hgr HZ
    by_cases hlt : k < n
    · by_cases hltm : k < m
      · have hkl : k < l.length := by rw [HN.out]; exact hlt
        obtain ⟨ab, ao, rfl, -, hcc, hcell⟩ := (HI.out.grown HGR.out).cell hkl
        have hs := fitL_succ l k hkl
        generalize l[k] = y at *
        have hb := fv_in y
        have e1 : (IntKind.u64.wrap y).tmod 1099511627777 = fv y := rfl
        generalize fv y = z at *
        have HS := hid hs
        generalize fitL l k = r at *
        clear hs
        go_wp2_with (at_builtin; refine append_int rfl _ _ rfl w.heap.size _ _ (by rfl) (HO.out.grown (World.grownBy_alloc wr _ none) (by simp)) wr.heap.size z (by rfl) (at_cell (at_new wr _) 0) (by omega) (by rw [show (wr.alloc (.cells #[.int .i64 z] 2)).heap.size = wr.heap.size + 1 from by show (wr.heap.push _).size = _; simp]; omega) ?_; intro u2 w3 hown hgrow hat)
        go_roundw
        case rel => exact ⟨k + 1, by omega, by omega, by go_num, by rw [HS.out]; exact hown, gb_ownI (gb_alloc HGR.out _) (HO.out.grown (World.grownBy_alloc wr _ none) (by simp)) (Nat.le_refl _) hgrow⟩
        case measure => simp [intOf]; omega
      · obtain rfl : k = m := by omega
        go_wp2_with fail
        go_ret
        exact ⟨_, rfl, HO.out, HGR.out⟩
    · obtain rfl : k = n := by omega
      go_wp2_with fail
      go_ret
      exact ⟨_, rfl, by rw [show fitL l m = fitL l k by rw [fitL_all l m (by rw [HN.out]; exact hkm), HN.out]]; exact HO.out, HGR.out⟩
end Go.Proofs.Ytopeceicmpblkaa
