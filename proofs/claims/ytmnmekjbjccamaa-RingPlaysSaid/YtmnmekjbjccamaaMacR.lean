/-
  Contracts for the document's own tags and keys. The condition: strings of a modest length.
-/
import Derived.Test.YtmnmekjbjccamaaMacO
import Derived.Test.YtmnmekjbjccamaaSumEq
import Derived.Test.YtmnmekjbjccamaaHeld
set_option linter.unusedSimpArgs false
namespace Go.Proofs.Ytmnmekjbjccamaa
set_option maxRecDepth 100000
open Go.RowKit

theorem refsum_str (k0 k1 : BitVec 64) (s : ByteArray) (hs : s.size ≤ 100000) (w : World) :
    Calls Try.prog 35 #[pair k0 k1, .string s] w fun e w' => e = .returned (.int .u64 (q (sumOf k0 k1 s.data.toList))) ∧ w.grownBy w' none := by
  rw [← refSum_eq]; exact refsum_any k0 k1 s hs w

/-- what a word of a derived key is the sum of, as the document's own answer lays it -/
def labelled (s : ByteArray) (mb : UInt8) (n : BitVec 64) : ByteArray := s ++ ⟨[mb].toArray⟩ ++ ⟨(put8 n).toArray⟩
theorem labelled_size (s : ByteArray) (mb : UInt8) (n : BitVec 64) : (labelled s mb n).size = s.size + 9 := by
  simp [labelled, ByteArray.size_append]; rfl
theorem refsum_der (k0 k1 : BitVec 64) (s : ByteArray) (hs : s.size ≤ 1000) (mb : UInt8) (n : BitVec 64) (w : World) :
    Calls Try.prog 35 #[pair k0 k1, .string (s ++ ⟨[mb].toArray⟩ ++ ⟨(put8 n).toArray⟩)] w fun e w' => e = .returned (.int .u64 (q (derived k0 k1 s n mb))) ∧ w.grownBy w' none := by
  have h := refsum_str k0 k1 (labelled s mb n) (by rw [labelled_size]; omega) w
  have e : (labelled s mb n).data.toList = s.data.toList ++ [mb] ++ put8 n := by simp [labelled]
  rw [e] at h
  exact h

set_option maxHeartbeats 1600000 in
theorem reftag_any (k0 k1 : BitVec 64) (s : ByteArray) (hs : s.size ≤ 100000) (w : World) :
    Calls Try.prog 12 #[pair k0 k1, .string s] w fun e w' => e = .returned (pair (sumOf k0 k1 s.data.toList) (sumOf k1 (inv k0) s.data.toList)) ∧ w.grownBy w' none := by
  have hi := q_inv k0
  obtain ⟨a, ha⟩ : ∃ a, sumOf k0 k1 s.data.toList = a := ⟨_, rfl⟩
  obtain ⟨b, hb⟩ : ∃ b, sumOf k1 (inv k0) s.data.toList = b := ⟨_, rfl⟩
  have hc0 := fun w => refsum_str k0 k1 s hs w
  have hc1 := fun w => refsum_str k1 (inv k0) s hs w
  rw [ha] at hc0 ⊢
  rw [hb] at hc1 ⊢
  have C0 := hid hc0; have C1 := hid hc1; clear ha hb hc0 hc1 hs
  go_enter Try.func12, Try.ntmps12
  go_wp2_with fail
  have hb : Box w k0 k1 34 30 ((w.alloc (.cells #[.int .u64 (q k0), .int .u64 (q k1)] 34)).alloc (.cells #[.int .u64 0, .int .u64 0] 30)) :=
    ⟨at_alloc (at_new w _) _, ⟨_, _, at_new2 w _ _⟩, gb_alloc (gb_alloc (.refl w none) _) _⟩
  have HB := hid hb; clear hb
  have hh := HB.out.keep
  have hsg : IntKind.u64.signed = false := rfl
  go_region_held3 (fun w' => w'.cell? ⟨w.heap.size, 0, none⟩ = some (.int .u64 (q k0)) ∧ w'.cell? ⟨w.heap.size, 1, none⟩ = some (.int .u64 (q k1)) ∧ Box w k0 k1 34 30 w')
    ((refine Box.keep (t := 34) (t' := 30) ?_; (repeat (first | assumption | with_reducible exact HB.out | with_reducible refine Box.drew ?_ | with_reducible refine Box.set1 ?_ _ | with_reducible refine Box.set0 ?_ _ | exact box_box (by assumption) | with_reducible refine Box.grown ?_ (by assumption)))))
    (first
      | (go_at_call 35; (with_reducible refine (C0.out _).mono ?_); rintro e wa ⟨rfl, hga⟩)
      | (go_at_call 35; (with_reducible refine (C1.out _).mono ?_); rintro e wb ⟨rfl, hgb⟩; obtain ⟨x, y, c0, c1, f0, f1⟩ := box_ans (by assumption) hgb; have hB := Box.grown (box_box (by assumption)) hgb))
  refine exit_gen (fun wx => wx.heap[w.heap.size + 1]? = some (.cells #[.int .u64 (q a), .int .u64 (q b)] 30) ∧ w.grownBy wx none) (hB.store _ _) ?_
  clear hB c0 c1 f0 f1 hga hgb hh
  intro wx ⟨hA, hG⟩
  have HA := hid hA; have HG := hid hG; clear hA hG
  obtain ⟨d0, d1⟩ := pair_cells HA.out
  go_wp2_with fail
  exact bodyPost_ret (v := pair a b) (by simp [results, Try.results12, go_sem, d0, d1]) rfl ⟨rfl, HG.out⟩

set_option maxHeartbeats 1600000 in
theorem reftagbytes_any (t0 t1 : BitVec 64) (w : World) :
    Calls Try.prog 13 #[pair t0 t1] w fun e w' => e = .returned (.string ⟨(put8 t0 ++ put8 t1).toArray⟩) ∧ w.grownBy w' none := by
  have he : (⟨(put8 t0).toArray⟩ : ByteArray) ++ ⟨(put8 t1).toArray⟩ = ⟨(put8 t0 ++ put8 t1).toArray⟩ := by
    apply ByteArray.ext; simp
  have hp0 := fun w => refput_any t0 w
  have hp1 := fun w => refput_any t1 w
  have z0 : (⟨(put8 t0).toArray⟩ : ByteArray).size = 8 := rfl
  have z1 : (⟨(put8 t1).toArray⟩ : ByteArray).size = 8 := rfl
  generalize (⟨(put8 t0).toArray⟩ : ByteArray) = s0 at he hp0 z0
  generalize (⟨(put8 t1).toArray⟩ : ByteArray) = s1 at he hp1 z1
  generalize (⟨(put8 t0 ++ put8 t1).toArray⟩ : ByteArray) = s2 at he ⊢
  subst he
  have P0 := hid hp0; have P1 := hid hp1; clear hp0 hp1
  go_enter Try.func13, Try.ntmps13
  go_wp2_with fail
  have hb : Boxb w t0 t1 30 (w.alloc (.cells #[.int .u64 (q t0), .int .u64 (q t1)] 30)) := ⟨at_new w _, gb_alloc (.refl w none) _⟩
  have HB := hid hb
  obtain ⟨k0, k1, _⟩ := hb.keep
  clear hb
  go_region_held3 (fun w' => w'.cell? ⟨w.heap.size, 0, none⟩ = some (.int .u64 (q t0)) ∧ w'.cell? ⟨w.heap.size, 1, none⟩ = some (.int .u64 (q t1)) ∧ Boxb w t0 t1 30 w')
    ((refine Boxb.keep (t := 30) ?_; (repeat (first | assumption | with_reducible exact HB.out | with_reducible refine Boxb.drew ?_ | exact boxb_box (by assumption) | with_reducible refine Boxb.grown ?_ (by assumption)))))
    (first
      | (go_at_call 36; (with_reducible refine (P0.out _).mono ?_); rintro e wa ⟨rfl, hga⟩)
      | (go_at_call 36; (with_reducible refine (P1.out _).mono ?_); rintro e wb ⟨rfl, hgb⟩; have hB := Boxb.grown (boxb_box (by assumption)) hgb))
  trace_state
  go_wp2_with fail
  go_ret
  exact ⟨rfl, hB.g⟩
end Go.Proofs.Ytmnmekjbjccamaa
