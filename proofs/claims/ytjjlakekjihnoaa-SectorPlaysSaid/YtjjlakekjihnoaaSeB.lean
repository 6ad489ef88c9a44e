/-
  Contracts for package sector: Write, Read, Spoil. The condition of a call: the object lies there, bytes read as bytes.
-/
import Derived.Test.YtjjlakekjihnoaaSeA
import Derived.Laws.CopyRow
import Derived.Deep.QuietTactic
import Derived.Deep.RegionHeld3
import Derived.WalkSpells
import Derived.WalkLawsBesides
set_option linter.unusedSimpArgs false
set_option linter.unusedVariables false
namespace Go.Proofs.Ytjjlakekjihnoaa
set_option maxRecDepth 100000
open Go.RowKit

theorem BytesAt.some64 {w : World} {v : Value} {l : List UInt8} (h : BytesAt w v l) (hl : l.length = 64) : ∃ ab ao c, v = .slice (some ⟨ab, ao, none⟩) 64 c ∧ 64 ≤ c := by
  obtain ⟨ab, ao, c, e, _⟩ := h.cells (by omega)
  rcases h with ⟨_, rfl⟩ | ⟨a, c', e', h1, _, _⟩
  · cases hl
  · rw [e] at e'; cases e'
    exact ⟨ab, ao, c, by rw [e, hl], by omega⟩
theorem size_u8 (u : World) : (sizeOf 5).run Try.prog u = .ok 1 u := by
  obtain ⟨i, hi, hz0, hz1, hz2⟩ := info_parts info_u8
  simp [sizeOf, typeInfo, hi, hz1]
theorem slice_to (ab ao n c k : Nat) (h : k ≤ c) (u : World) : (Instr.slice 27 (.slice (some ⟨ab, ao, none⟩) n c) none (some (.int .i64 (k : Int))) none).run Try.prog u = .ok (.slice (some ⟨ab, ao, none⟩) k c) u := by
  rw [run_slice_h (P := Try.prog) u 27 (some ⟨ab, ao, none⟩) n c (by kernel_rfl) .i64 (k : Int) (by omega) (by omega), show Try.prog.elem 27 = 5 by kernel_rfl, size_u8]
  simp [sliced, Result.andThen, Addr.add]
theorem BytesAt.first {w : World} {a : Addr} {n c : Nat} {l : List UInt8} (h : BytesAt w (.slice (some a) n c) l) {k : Nat} (hk : k ≤ l.length) : BytesAt w (.slice (some a) k c) (l.take k) := by
  rcases h with ⟨h, _⟩ | ⟨a, c, e, h1, h2, h3⟩
  · cases h
  · cases e
    refine .inr ⟨_, _, by rw [List.length_take, Nat.min_eq_left hk], by rw [List.length_take]; omega, h2, fun i hi => ?_⟩
    rw [List.length_take] at hi
    rw [h3 i (by omega), List.getElem_take]
/-- bytes laid over a sector -/
theorem copy_sec {w : World} {s k : Nat} {L : List (List UInt8)} (hs : w.heap[s]? = some (secObj L.flatten)) (he : ∀ x ∈ L, x.length = 64) (hk : k < L.length) {v : Value} {l : List UInt8} (hv : BytesAt w v l) (hl : l.length ≤ 64) (ty : TypeId) :
    ∃ w', (Builtin.copy_ #[27, 27] ty #[.slice (some ⟨s, k * 64, none⟩) 64 64, v]).run Try.prog w = .ok (goInt l.length) w' ∧ w'.heap[s]? = some (secObj (L.set k (l ++ (L[k]).drop l.length)).flatten) ∧ Chg [s] w w' := by
  obtain ⟨i, hi, hz0, hz1, hz2⟩ := info_parts info_u8
  have hsz : (Try.prog.info? 5).map (·.size) = some 1 := by rw [hi]; simp [hz1]
  have hfl := flat_len L he
  rcases hv with ⟨rfl, rfl⟩ | ⟨a, cap, rfl, h1, h2, h3⟩
  · refine ⟨w, run_copy_nil Try.prog w 27 27 ty 5 ⟨s, k * 64, none⟩ 64 64 Try.underlying27 (by rw [hi]; rfl), ?_, chg_refl _ _⟩
    rw [hs]; simp
  · have hmin : (l.map bv).length = Nat.min l.length 64 := by rw [List.length_map]; exact (Nat.min_eq_left hl).symm
    refine ⟨_, (run_copy_row Try.prog w 27 27 ty 5 s (k * 64) 64 64 a l.length cap _ _ (l.map bv) Try.underlying27 hsz hs hmin (fun j x hj => ?_) (by rw [List.length_map]; simp only [List.size_toArray, List.length_map]; omega) (fun x hx => ?_)).trans (by rw [List.length_map]), ?_, ?_⟩
    · rw [List.getElem?_map] at hj
      by_cases hlt : j < l.length
      · rw [List.getElem?_eq_getElem hlt] at hj; cases hj; exact h3 j hlt
      · rw [List.getElem?_eq_none (by omega)] at hj; cases hj
    · obtain ⟨c, _, rfl⟩ := List.mem_map.1 hx; rfl
    · rw [setRow_heap w s _ _ _ _ hs, ← flat_over L he k hk l hl]
      simp [List.map_append, List.map_take, List.map_drop]
    · exact ⟨rfl, rfl, rfl, by simp [World.setRow], fun k hk hn => setRow_other w s k _ (by intro e; exact hn (by simp [e]))⟩
section
variable {w w1 : World} {b s : Nat} {d : Dk}
/-- a sector's bytes are others now -/
theorem DkAt.sect (H : DkAt w b s d) {k : Nat} {x : List UInt8} (h : w1.heap[s]? = some (secObj (d.l.set k x).flatten)) (hx : x.length = 64) (hc : Chg [s] w w1) : DkAt w1 b s (d.put k x) ∧ Chg [b, s] w w1 :=
  ⟨⟨by rw [hc.at H.top (by simpa using H.ne)]; simp, h, H.ne, ⟨set_each H.ok.each hx, by simpa using H.ok.lo, by simpa using H.ok.hi, H.ok.st⟩⟩, hc.more (by simp)⟩
/-- one of the writes is counted -/
theorem DkAt.count (H : DkAt w b s d) (h : d.n < 1000000000) : Calls Try.prog 24 #[.pointer (some ⟨b, 4, none⟩), .int .i64 1] w fun e w' => e = .returned (.int .i64 ((d.n : Int) + 1)) ∧ DkAt w' b s { d with n := d.n + 1 } ∧ Chg [b, s] w w' := by
  obtain ⟨c0, c1, c2, c3, c4, f⟩ := H.cells
  refine (add_i64 _ _ _ c4 (f 4) (by omega) (by omega)).mono ?_
  rintro e w' ⟨rfl, rfl⟩
  exact ⟨rfl, H.set4 (d.n + 1), (chg_refl w [b, s]).set (p := ⟨b, 4, none⟩) (.inl (by simp)) _⟩
theorem write_nil (v : Value) (l : List UInt8) (a : Int) (hv : BytesAt w v l) : Calls Try.prog 10 #[.pointer none, .int .i64 a, v] w fun e w' => e = .returned (.int .i64 1) ∧ w = w' := by
  obtain ⟨p, c, rfl⟩ := hv.form
  clear hv
  go_enter Try.func10, Try.ntmps10
  go_wp2_with fail
  refine (down_nil _).mono ?_
  rintro e w1 ⟨rfl, rfl⟩
  go_wp2_with fail
  refine (has_nil a _).mono ?_
  rintro e w1 ⟨rfl, rfl⟩
  go_wp2_with fail
  go_ret
  exact ⟨rfl, rfl⟩
theorem write_down (p : Option Addr) (n c : Nat) (a : Int) (H : DkAt w b s d) (h : d.down = true) : Calls Try.prog 10 #[.pointer (some ⟨b, 0, none⟩), .int .i64 a, .slice p n c] w fun e w' => e = .returned (.int .i64 10) ∧ w = w' := by
  have D := hid (down_any H)
  rw [h] at D
  clear H
  go_enter Try.func10, Try.ntmps10
  go_wp2_with fail
  refine D.out.mono ?_
  rintro e w1 ⟨rfl, rfl⟩
  go_wp2_with fail
  go_ret
  exact ⟨rfl, rfl⟩
theorem write_no (p : Option Addr) (n c : Nat) (hn : n ≤ maxLen) (a : Int) (H : DkAt w b s d) (h : d.down = false) (h2 : d.has a = false ∨ n ≠ 64) : Calls Try.prog 10 #[.pointer (some ⟨b, 0, none⟩), .int .i64 a, .slice p n c] w fun e w' => e = .returned (.int .i64 1) ∧ w = w' := by
  have D := hid (down_any H)
  have A := hid (has_any a H)
  rw [h] at D
  clear H
  unfold maxLen at hn
  cases hh : d.has a with
  | false =>
    rw [hh] at A
    clear h2
    go_enter Try.func10, Try.ntmps10
    go_wp2_with fail
    refine D.out.mono ?_
    rintro e w1 ⟨rfl, rfl⟩
    go_wp2_with fail
    refine A.out.mono ?_
    rintro e w1 ⟨rfl, rfl⟩
    go_wp2_with fail
    go_ret
    exact ⟨rfl, rfl⟩
  | true =>
    rw [hh] at A h2
    have hne : ¬ (n : Int) = 64 := by
      rcases h2 with h2 | h2
      · cases h2
      · omega
    clear h2
    go_enter Try.func10, Try.ntmps10
    go_wp2_with fail
    refine D.out.mono ?_
    rintro e w1 ⟨rfl, rfl⟩
    go_wp2_with fail
    refine A.out.mono ?_
    rintro e w1 ⟨rfl, rfl⟩
    go_wp2_with fail
    go_ret
    exact ⟨rfl, rfl⟩
set_option maxHeartbeats 1600000 in
theorem write_whole (v : Value) (l : List UInt8) (k : Nat) (H : DkAt w b s d) (h : d.down = false) (hw : d.wait = false) (hn : d.n < 1000000000) (hk : k < d.l.length) (hl : l.length = 64) (hv : BytesAt w v l) (hs : ∀ a n c, v = .slice (some a) n c → a.block ∉ [b, s]) :
    Calls Try.prog 10 #[.pointer (some ⟨b, 0, none⟩), .int .i64 (k : Int), v] w fun e w' => e = .returned (.int .i64 0) ∧ DkAt w' b s (d.wrote k l) ∧ Chg [b, s] w w' := by
  obtain ⟨ab, ao, c, rfl, hc⟩ := hv.some64 hl
  have D := hid (down_any H)
  have A := hid (has_any (k : Int) H)
  have C := hid (H.count hn)
  rw [h] at D; rw [Dk.has_of hk] at A
  have HV := hid hv; have HS := hid (hs _ 64 c rfl); have HL := hid hl; have HK := hid hk; have HW := hid hw
  have HH := hid H
  clear hv hs hl hw h hn H
  go_enter Try.func10, Try.ntmps10
  go_wp2_with fail
  refine D.out.mono ?_
  rintro e w1 ⟨rfl, rfl⟩
  go_wp2_with fail
  refine A.out.mono ?_
  rintro e w1 ⟨rfl, rfl⟩
  go_wp2_with fail
  refine C.out.mono ?_
  rintro e w2 ⟨rfl, h2, g2⟩
  have H2 := hid h2; have G2 := hid g2; clear h2 g2
  obtain ⟨c0, c1, c2, c3, c4, f⟩ := H2.out.cells
  have hk0 : (0 : Int) ≤ (k : Int) := by omega
  have hk1 : (k : Int) < (d.l.length : Int) := by omega
  simp only [HW.out] at c1
  obtain ⟨w3, hc1, hc2, hc3⟩ := copy_sec (s := s) H2.out.sec H2.out.ok.each HK.out (HV.out.chg G2.out (fun a n c e => by cases e; exact HS.out)) (by rw [HL.out]; exact Nat.le_refl _) 3
  rw [HL.out] at hc1 hc2
  go_wp2_with fail
  go_ret
  obtain ⟨h3, g3⟩ := H2.out.sect (x := l) (by rw [hc2, List.drop_of_length_le (by rw [H2.out.ok.each _ (List.getElem_mem HK.out)]; exact Nat.le_refl _), List.append_nil]) HL.out hc3
  exact ⟨rfl, h3, G2.out.then g3⟩
theorem DkAt.fell (H : DkAt w b s d) : DkAt ((w.setCell ⟨b, 1, none⟩ (.bool false)).setCell ⟨b, 3, none⟩ (.bool true)) b s { d with wait := false, down := true } ∧ Chg [b, s] w ((w.setCell ⟨b, 1, none⟩ (.bool false)).setCell ⟨b, 3, none⟩ (.bool true)) :=
  ⟨(H.set1 false).set3 true, ((chg_refl w [b, s]).set (p := ⟨b, 1, none⟩) (.inl (by simp)) (.bool false)).set (p := ⟨b, 3, none⟩) (.inl (by simp)) (.bool true)⟩
set_option maxHeartbeats 1600000 in
theorem write_torn (v : Value) (l : List UInt8) (k : Nat) (H : DkAt w b s d) (h : d.down = false) (hw : d.wait = true) (hn : d.n < 1000000000) (hk : k < d.l.length) (hl : l.length = 64) (hv : BytesAt w v l) (hs : ∀ a n c, v = .slice (some a) n c → a.block ∉ [b, s]) :
    Calls Try.prog 10 #[.pointer (some ⟨b, 0, none⟩), .int .i64 (k : Int), v] w fun e w' => e = .returned (.int .i64 10) ∧ DkAt w' b s (d.torn k l) ∧ Chg [b, s] w w' := by
  obtain ⟨ab, ao, c, rfl, hc⟩ := hv.some64 hl
  have D := hid (down_any H)
  have A := hid (has_any (k : Int) H)
  have C := hid (H.count hn)
  rw [h] at D; rw [Dk.has_of hk] at A
  have HV := hid hv; have HS := hid (hs _ 64 c rfl); have HL := hid hl; have HK := hid hk; have HW := hid hw; have HO := hid H.ok
  have hst : d.stays ≤ 64 := H.ok.st
  clear hv hs hl hw h hn H
  go_enter Try.func10, Try.ntmps10
  go_wp2_with fail
  refine D.out.mono ?_
  rintro e w1 ⟨rfl, rfl⟩
  go_wp2_with fail
  refine A.out.mono ?_
  rintro e w1 ⟨rfl, rfl⟩
  go_wp2_with fail
  refine C.out.mono ?_
  rintro e w2 ⟨rfl, h2, g2⟩
  obtain ⟨c0, c1, c2, c3, c4, f⟩ := h2.cells
  simp only [HW.out] at c1
  have H2 := hid h2.drew; have G2 := hid g2.drew; clear h2 g2
  go_wp2_with fail
  clear c0 c1 c2 c3 c4 f
  obtain ⟨c0, c1, c2, c3, c4, f⟩ := H2.out.cells
  have hk0 : (0 : Int) ≤ (k : Int) := by omega
  have hk1 : (k : Int) < (d.l.length : Int) := by omega
  have hs0 := fun u => slice_to ab ao 64 c d.stays (by omega) u
  simp only [HW.out] at c1
  obtain ⟨w3, hc1, hc2, hc3⟩ := copy_sec (s := s) H2.out.sec H2.out.ok.each HK.out ((HV.out.chg G2.out (fun a n c e => by cases e; exact HS.out)).first (k := d.stays) (by rw [HL.out]; exact hst)) (by rw [List.length_take]; omega) 3
  have hlt : (l.take d.stays).length = d.stays := by rw [List.length_take, HL.out]; omega
  rw [hlt] at hc1 hc2
  clear hlt
  have H3 := hid (H2.out.sect hc2 (by rw [List.length_append, List.length_take, List.length_drop, HL.out, H2.out.ok.each _ (List.getElem_mem HK.out)]; omega) hc3)
  have H4 := hid H3.out.1.fell
  obtain ⟨c0', c1', c2', c3', c4', f'⟩ := H3.out.1.cells
  have f1 := f' 1; have f3 := f' 3
  clear hc2 hc3 f'
  go_region
  go_wp2_with fail
  go_ret
  exact ⟨rfl, by have := H4.out.1; rw [← Dk.at_eq HK.out] at this; exact this, (G2.out.then H3.out.2).then H4.out.2⟩
end
end Go.Proofs.Ytjjlakekjihnoaa
