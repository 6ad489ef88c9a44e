/-
  Contracts for the document's disk: a write that is whole, one that is torn; Spoil. The condition of a call: the object lies there.
-/
import Derived.Test.YtjjlakekjihnoaaSeR
set_option linter.unusedSimpArgs false
set_option linter.unusedVariables false
namespace Go.Proofs.Ytjjlakekjihnoaa
set_option maxRecDepth 100000
open Go.RowKit

section
variable {w : World} {b s : Nat} {d : Dk}
theorem RdAt.fell (H : RdAt w b s d) : RdAt ((w.setCell ⟨b, 2, none⟩ (.bool false)).setCell ⟨b, 1, none⟩ (.bool true)) b s { d with wait := false, down := true } ∧ Chg [b, s] w ((w.setCell ⟨b, 2, none⟩ (.bool false)).setCell ⟨b, 1, none⟩ (.bool true)) :=
  ⟨(H.set2 false).set1 true, ((chg_refl w [b, s]).set (p := ⟨b, 2, none⟩) (.inl (by simp)) (.bool false)).set (p := ⟨b, 1, none⟩) (.inl (by simp)) (.bool true)⟩
theorem RdAt.count (H : RdAt w b s d) {z : Int} (hz : z = ((d.n + 1 : Nat) : Int)) : RdAt (w.setCell ⟨b, 4, none⟩ (.int .i64 z)) b s { d with n := d.n + 1 } ∧ Chg [b, s] w (w.setCell ⟨b, 4, none⟩ (.int .i64 z)) := by
  subst hz
  exact ⟨H.set4 (d.n + 1), (chg_refl w [b, s]).set (p := ⟨b, 4, none⟩) (.inl (by simp)) _⟩
theorem RdAt.over (H : RdAt w b s d) {k : Nat} {x : List UInt8} (hx : x.length = 64) {v : Value} (hv : v = sv x) : RdAt (w.setCell ⟨s, k, none⟩ v) b s (d.put k x) ∧ Chg [b, s] w (w.setCell ⟨s, k, none⟩ v) := by
  subst hv
  exact ⟨H.setS k hx, (chg_refl w [b, s]).set (p := ⟨s, k, none⟩) (.inl (by simp)) _⟩
set_option maxHeartbeats 1600000 in
theorem rdwrite_whole (l : List UInt8) (x : ByteArray) (hxl : x = ⟨l.toArray⟩) (k : Nat) (H : RdAt w b s d) (h : d.down = false) (hw : d.wait = false) (hn : d.n < 1000000000) (hk : k < d.l.length) (hl : l.length = 64) :
    Calls Try.prog 18 #[.pointer (some ⟨b, 0, none⟩), .int .i64 (k : Int), .string x] w fun e w' => e = .returned (.int .i64 0) ∧ RdAt w' b s (d.wrote k l) ∧ Chg [b, s] w w' := by
  obtain ⟨raw, hraw, c0, c1, c2, c3, c4, f⟩ := H.cells
  rw [h] at c1; rw [hw] at c2
  have f4 := f 4
  have hz : IntKind.i64.wrap ((d.n : Int) + 1) = ((d.n + 1 : Nat) : Int) := by rw [IntWalk.i64_in _ (by omega)]; omega
  have H1 := hid (H.count rfl)
  obtain ⟨cs, fs⟩ := H1.out.1.str hk
  have H2 := hid (H1.out.1.over (k := k) hl (v := .string x) (by rw [hxl]))
  have hxs : x.size = 64 := by rw [hxl]; exact hl
  have d0 : decide ((k : Int) < 0) = false := by simp
  have d1 : decide ((d.l.length : Int) ≤ (k : Int)) = false := by simp; omega
  have hk0 : (0 : Int) ≤ (k : Int) := by omega
  have hk1 : (k : Int) < (d.l.length : Int) := by omega
  generalize ((d.n + 1 : Nat) : Int) = z at *
  clear H hraw hxl c3 f h hw
  go_enter Try.func18, Try.ntmps18
  go_wp2_with fail
  go_ret
  exact ⟨rfl, H2.out.1, H1.out.2.then H2.out.2⟩
theorem cut_eq (l y : List UInt8) (n : Nat) (hy : y.length = 64) : ((⟨l.toArray⟩ : ByteArray).extract 0 n) ++ ((⟨y.toArray⟩ : ByteArray).extract n 64) = ⟨(l.take n ++ y.drop n).toArray⟩ := by
  apply ByteArray.ext
  apply Array.ext'
  simp [List.extract_eq_take_drop]
  rw [List.take_of_length_le (by rw [List.length_drop]; omega)]
theorem str_to (x : ByteArray) (V : Int) (n : Nat) (hV : V = (n : Int)) (hn : n ≤ x.size) (u : World) : (Instr.slice 9 (.string x) none (some (.int .i64 V)) none).run Try.prog u = .ok (.string (x.extract 0 n)) u := by
  subst hV
  rw [run_slice_string_h (P := Try.prog) u 9 x Try.underlying9 .i64 (n : Int) (by omega) (by omega)]; rfl
theorem str_from (x : ByteArray) (V : Int) (n m : Nat) (hV : V = (n : Int)) (hn : n ≤ x.size) (hm : x.size = m) (u : World) : (Instr.slice 9 (.string x) (some (.int .i64 V)) none none).run Try.prog u = .ok (.string (x.extract n m)) u := by
  subst hV; subst hm
  rw [run_slice_string_l (P := Try.prog) u 9 x Try.underlying9 .i64 (n : Int) (by omega) (by omega)]; rfl
set_option maxHeartbeats 1600000 in
theorem rdwrite_torn0 (raw : Int) (h0 : raw < 0) (l : List UInt8) (x : ByteArray) (hxl : x = ⟨l.toArray⟩) (k : Nat) (H : RdAt w b s d) (ht : w.heap[b]? = some (rdTop s d.l.length d.down d.wait raw d.n)) (hraw : clampS raw = d.stays) (h : d.down = false) (hw : d.wait = true) (hn : d.n < 1000000000) (hk : k < d.l.length) (hl : l.length = 64) :
    Calls Try.prog 18 #[.pointer (some ⟨b, 0, none⟩), .int .i64 (k : Int), .string x] w fun e w' => e = .returned (.int .i64 10) ∧ RdAt w' b s (d.torn k l) ∧ Chg [b, s] w w' := by
  have hst := H.ok.st
  have hV : (0 : Int) = (d.stays : Int) := by rw [← hraw, clampS_eq]; omega
  have hz : IntKind.i64.wrap ((d.n : Int) + 1) = ((d.n + 1 : Nat) : Int) := by rw [IntWalk.i64_in _ (by omega)]; omega
  have H1 := hid (H.count rfl)
  obtain ⟨y, hy⟩ : ∃ y, y = d.at k := ⟨_, rfl⟩
  have hyl : y.length = 64 := by rw [hy]; exact H.ok.at_len hk
  have hxs : x.size = 64 := by rw [hxl]; exact hl
  have E1 := fun u => str_to x (d.stays : Int) d.stays rfl (by omega) u
  have E2 := fun u => str_from ⟨y.toArray⟩ (d.stays : Int) d.stays 64 rfl (by show _ ≤ y.length; omega) hyl u
  have HC := cut_eq l y d.stays hyl
  rw [← hxl] at HC
  have hs1 : (x.extract 0 d.stays).size = d.stays := by rw [ByteArray.size_extract]; omega
  have hs2 : ((⟨y.toArray⟩ : ByteArray).extract d.stays 64).size = 64 - d.stays := by rw [ByteArray.size_extract]; show min 64 y.length - _ = _; omega
  have hle : (d.stays : Int) ≤ 64 := by omega
  have HL := hid (show (l.take d.stays ++ y.drop d.stays).length = 64 by rw [List.length_append, List.length_take, List.length_drop]; omega)
  have T := hid (show RdAt w b s d → ∀ W, RdAt W b s ⟨(d.l.set k (l.take d.stays ++ y.drop d.stays)), false, d.stays, true, d.n + 1⟩ → RdAt W b s (d.torn k l) from fun _ W h => by rw [hy] at h; exact h)
  obtain ⟨c0, c1, c2, c3, c4, f⟩ : w.cell? ⟨b, 0, none⟩ = some (.slice (some ⟨s, 0, none⟩) d.l.length d.l.length) ∧ w.cell? ⟨b, 1, none⟩ = some (.bool d.down) ∧ w.cell? ⟨b, 2, none⟩ = some (.bool d.wait) ∧ w.cell? ⟨b, 3, none⟩ = some (.int .i64 raw) ∧ w.cell? ⟨b, 4, none⟩ = some (.int .i64 (d.n : Int)) ∧ ∀ k, w.frozen? ⟨b, k, none⟩ = false :=
    ⟨by rw [at_cell ht]; rfl, by rw [at_cell ht]; rfl, by rw [at_cell ht]; rfl, by rw [at_cell ht]; rfl, by rw [at_cell ht]; rfl, fun k => at_free ht k⟩
  have hW1 := at_set ht 4 (.int .i64 ((d.n + 1 : Nat) : Int))
  have r0 : (w.setCell ⟨b, 4, none⟩ (.int .i64 ((d.n + 1 : Nat) : Int))).cell? ⟨b, 0, none⟩ = some (.slice (some ⟨s, 0, none⟩) d.l.length d.l.length) := by rw [at_cell hW1]; rfl
  have r2 : (w.setCell ⟨b, 4, none⟩ (.int .i64 ((d.n + 1 : Nat) : Int))).cell? ⟨b, 2, none⟩ = some (.bool d.wait) := by rw [at_cell hW1]; rfl
  have r3 : (w.setCell ⟨b, 4, none⟩ (.int .i64 ((d.n + 1 : Nat) : Int))).cell? ⟨b, 3, none⟩ = some (.int .i64 raw) := by rw [at_cell hW1]; rfl
  rw [h] at c1; rw [hw] at c2 r2
  have f4 := f 4
  have d0 : decide ((k : Int) < 0) = false := by simp
  have d1 : decide ((d.l.length : Int) ≤ (k : Int)) = false := by simp; omega
  have hk0 : (0 : Int) ≤ (k : Int) := by omega
  have hk1 : (k : Int) < (d.l.length : Int) := by omega
  have HT := hid (T.out H)
  have HY := hid hy; have HXL := hid hxl; have HK := hid hk
  generalize hzz : ((d.n + 1 : Nat) : Int) = z at *
  clear T hy hxl c3 f h hw ht hW1 hzz hyl H hraw
  go_enter Try.func18, Try.ntmps18
  go_wp2_with fail
  generalize hW : w.setCell ⟨b, 4, none⟩ (.int .i64 z) = W1 at *
  have q0 := show W1.drew.cell? ⟨b, 0, none⟩ = _ from r0
  obtain ⟨cs, fs⟩ := H1.out.1.drew.str HK.out
  simp only [← HY.out] at cs
  have H2 := hid (show _ ∧ _ from ⟨(H1.out.1.over (k := k) HL.out rfl).1.drew, (H1.out.1.over (k := k) HL.out rfl).2.drew⟩)
  have H3 := hid H2.out.1.fell
  obtain ⟨raw2, -, s0, s1, s2, s3, s4, sf⟩ := (H1.out.1.over (k := k) HL.out rfl).1.cells
  obtain ⟨raw3, -, -, -, -, -, -, gf⟩ := H1.out.1.cells
  have g1 := gf 1; have g2 := gf 2; have g3 := sf 1; have g4 := sf 2
  clear gf
  clear s0 s3 s4 sf r0 r2 r3 hV HL HXL
  generalize x.extract 0 d.stays = xa at *
  generalize (⟨y.toArray⟩ : ByteArray).extract d.stays 64 = xb at *
  clear c0 c1 c2 c4 f4
  go_region
  go_wp2_with fail
  go_ret
  exact ⟨rfl, HT.out _ H3.out.1, (H1.out.2.then H2.out.2).then H3.out.2⟩
set_option maxHeartbeats 1600000 in
theorem rdwrite_torn1 (raw : Int) (h0 : 64 < raw) (l : List UInt8) (x : ByteArray) (hxl : x = ⟨l.toArray⟩) (k : Nat) (H : RdAt w b s d) (ht : w.heap[b]? = some (rdTop s d.l.length d.down d.wait raw d.n)) (hraw : clampS raw = d.stays) (h : d.down = false) (hw : d.wait = true) (hn : d.n < 1000000000) (hk : k < d.l.length) (hl : l.length = 64) :
    Calls Try.prog 18 #[.pointer (some ⟨b, 0, none⟩), .int .i64 (k : Int), .string x] w fun e w' => e = .returned (.int .i64 10) ∧ RdAt w' b s (d.torn k l) ∧ Chg [b, s] w w' := by
  have hst := H.ok.st
  have hV : (64 : Int) = (d.stays : Int) := by rw [← hraw, clampS_eq]; omega
  have hz : IntKind.i64.wrap ((d.n : Int) + 1) = ((d.n + 1 : Nat) : Int) := by rw [IntWalk.i64_in _ (by omega)]; omega
  have H1 := hid (H.count rfl)
  obtain ⟨y, hy⟩ : ∃ y, y = d.at k := ⟨_, rfl⟩
  have hyl : y.length = 64 := by rw [hy]; exact H.ok.at_len hk
  have hxs : x.size = 64 := by rw [hxl]; exact hl
  have E1 := fun u => str_to x (d.stays : Int) d.stays rfl (by omega) u
  have E2 := fun u => str_from ⟨y.toArray⟩ (d.stays : Int) d.stays 64 rfl (by show _ ≤ y.length; omega) hyl u
  have HC := cut_eq l y d.stays hyl
  rw [← hxl] at HC
  have hs1 : (x.extract 0 d.stays).size = d.stays := by rw [ByteArray.size_extract]; omega
  have hs2 : ((⟨y.toArray⟩ : ByteArray).extract d.stays 64).size = 64 - d.stays := by rw [ByteArray.size_extract]; show min 64 y.length - _ = _; omega
  have hle : (d.stays : Int) ≤ 64 := by omega
  have HL := hid (show (l.take d.stays ++ y.drop d.stays).length = 64 by rw [List.length_append, List.length_take, List.length_drop]; omega)
  have T := hid (show RdAt w b s d → ∀ W, RdAt W b s ⟨(d.l.set k (l.take d.stays ++ y.drop d.stays)), false, d.stays, true, d.n + 1⟩ → RdAt W b s (d.torn k l) from fun _ W h => by rw [hy] at h; exact h)
  obtain ⟨c0, c1, c2, c3, c4, f⟩ : w.cell? ⟨b, 0, none⟩ = some (.slice (some ⟨s, 0, none⟩) d.l.length d.l.length) ∧ w.cell? ⟨b, 1, none⟩ = some (.bool d.down) ∧ w.cell? ⟨b, 2, none⟩ = some (.bool d.wait) ∧ w.cell? ⟨b, 3, none⟩ = some (.int .i64 raw) ∧ w.cell? ⟨b, 4, none⟩ = some (.int .i64 (d.n : Int)) ∧ ∀ k, w.frozen? ⟨b, k, none⟩ = false :=
    ⟨by rw [at_cell ht]; rfl, by rw [at_cell ht]; rfl, by rw [at_cell ht]; rfl, by rw [at_cell ht]; rfl, by rw [at_cell ht]; rfl, fun k => at_free ht k⟩
  have hW1 := at_set ht 4 (.int .i64 ((d.n + 1 : Nat) : Int))
  have r0 : (w.setCell ⟨b, 4, none⟩ (.int .i64 ((d.n + 1 : Nat) : Int))).cell? ⟨b, 0, none⟩ = some (.slice (some ⟨s, 0, none⟩) d.l.length d.l.length) := by rw [at_cell hW1]; rfl
  have r2 : (w.setCell ⟨b, 4, none⟩ (.int .i64 ((d.n + 1 : Nat) : Int))).cell? ⟨b, 2, none⟩ = some (.bool d.wait) := by rw [at_cell hW1]; rfl
  have r3 : (w.setCell ⟨b, 4, none⟩ (.int .i64 ((d.n + 1 : Nat) : Int))).cell? ⟨b, 3, none⟩ = some (.int .i64 raw) := by rw [at_cell hW1]; rfl
  rw [h] at c1; rw [hw] at c2 r2
  have f4 := f 4
  have d0 : decide ((k : Int) < 0) = false := by simp
  have d1 : decide ((d.l.length : Int) ≤ (k : Int)) = false := by simp; omega
  have hk0 : (0 : Int) ≤ (k : Int) := by omega
  have hk1 : (k : Int) < (d.l.length : Int) := by omega
  have HT := hid (T.out H)
  have HY := hid hy; have HXL := hid hxl; have HK := hid hk
  generalize hzz : ((d.n + 1 : Nat) : Int) = z at *
  clear T hy hxl c3 f h hw ht hW1 hzz hyl H hraw
  go_enter Try.func18, Try.ntmps18
  go_wp2_with fail
  generalize hW : w.setCell ⟨b, 4, none⟩ (.int .i64 z) = W1 at *
  have q0 := show W1.drew.cell? ⟨b, 0, none⟩ = _ from r0
  obtain ⟨cs, fs⟩ := H1.out.1.drew.str HK.out
  simp only [← HY.out] at cs
  have H2 := hid (show _ ∧ _ from ⟨(H1.out.1.over (k := k) HL.out rfl).1.drew, (H1.out.1.over (k := k) HL.out rfl).2.drew⟩)
  have H3 := hid H2.out.1.fell
  obtain ⟨raw2, -, s0, s1, s2, s3, s4, sf⟩ := (H1.out.1.over (k := k) HL.out rfl).1.cells
  obtain ⟨raw3, -, -, -, -, -, -, gf⟩ := H1.out.1.cells
  have g1 := gf 1; have g2 := gf 2; have g3 := sf 1; have g4 := sf 2
  clear gf
  clear s0 s3 s4 sf r0 r2 r3 hV HL HXL
  generalize x.extract 0 d.stays = xa at *
  generalize (⟨y.toArray⟩ : ByteArray).extract d.stays 64 = xb at *
  clear c0 c1 c2 c4 f4
  go_region
  go_wp2_with fail
  go_ret
  exact ⟨rfl, HT.out _ H3.out.1, (H1.out.2.then H2.out.2).then H3.out.2⟩
set_option maxHeartbeats 1600000 in
theorem rdwrite_torn2 (raw : Int) (h0 : 0 ≤ raw) (h1 : raw ≤ 64) (l : List UInt8) (x : ByteArray) (hxl : x = ⟨l.toArray⟩) (k : Nat) (H : RdAt w b s d) (ht : w.heap[b]? = some (rdTop s d.l.length d.down d.wait raw d.n)) (hraw : clampS raw = d.stays) (h : d.down = false) (hw : d.wait = true) (hn : d.n < 1000000000) (hk : k < d.l.length) (hl : l.length = 64) :
    Calls Try.prog 18 #[.pointer (some ⟨b, 0, none⟩), .int .i64 (k : Int), .string x] w fun e w' => e = .returned (.int .i64 10) ∧ RdAt w' b s (d.torn k l) ∧ Chg [b, s] w w' := by
  have hst := H.ok.st
  have hV : raw = (d.stays : Int) := by rw [← hraw, clampS_eq]; omega
  have hz : IntKind.i64.wrap ((d.n : Int) + 1) = ((d.n + 1 : Nat) : Int) := by rw [IntWalk.i64_in _ (by omega)]; omega
  have H1 := hid (H.count rfl)
  obtain ⟨y, hy⟩ : ∃ y, y = d.at k := ⟨_, rfl⟩
  have hyl : y.length = 64 := by rw [hy]; exact H.ok.at_len hk
  have hxs : x.size = 64 := by rw [hxl]; exact hl
  have E1 := fun u => str_to x (d.stays : Int) d.stays rfl (by omega) u
  have E2 := fun u => str_from ⟨y.toArray⟩ (d.stays : Int) d.stays 64 rfl (by show _ ≤ y.length; omega) hyl u
  have HC := cut_eq l y d.stays hyl
  rw [← hxl] at HC
  have hs1 : (x.extract 0 d.stays).size = d.stays := by rw [ByteArray.size_extract]; omega
  have hs2 : ((⟨y.toArray⟩ : ByteArray).extract d.stays 64).size = 64 - d.stays := by rw [ByteArray.size_extract]; show min 64 y.length - _ = _; omega
  have hle : (d.stays : Int) ≤ 64 := by omega
  have HL := hid (show (l.take d.stays ++ y.drop d.stays).length = 64 by rw [List.length_append, List.length_take, List.length_drop]; omega)
  have T := hid (show RdAt w b s d → ∀ W, RdAt W b s ⟨(d.l.set k (l.take d.stays ++ y.drop d.stays)), false, d.stays, true, d.n + 1⟩ → RdAt W b s (d.torn k l) from fun _ W h => by rw [hy] at h; exact h)
  obtain ⟨c0, c1, c2, c3, c4, f⟩ : w.cell? ⟨b, 0, none⟩ = some (.slice (some ⟨s, 0, none⟩) d.l.length d.l.length) ∧ w.cell? ⟨b, 1, none⟩ = some (.bool d.down) ∧ w.cell? ⟨b, 2, none⟩ = some (.bool d.wait) ∧ w.cell? ⟨b, 3, none⟩ = some (.int .i64 raw) ∧ w.cell? ⟨b, 4, none⟩ = some (.int .i64 (d.n : Int)) ∧ ∀ k, w.frozen? ⟨b, k, none⟩ = false :=
    ⟨by rw [at_cell ht]; rfl, by rw [at_cell ht]; rfl, by rw [at_cell ht]; rfl, by rw [at_cell ht]; rfl, by rw [at_cell ht]; rfl, fun k => at_free ht k⟩
  have hW1 := at_set ht 4 (.int .i64 ((d.n + 1 : Nat) : Int))
  have r0 : (w.setCell ⟨b, 4, none⟩ (.int .i64 ((d.n + 1 : Nat) : Int))).cell? ⟨b, 0, none⟩ = some (.slice (some ⟨s, 0, none⟩) d.l.length d.l.length) := by rw [at_cell hW1]; rfl
  have r2 : (w.setCell ⟨b, 4, none⟩ (.int .i64 ((d.n + 1 : Nat) : Int))).cell? ⟨b, 2, none⟩ = some (.bool d.wait) := by rw [at_cell hW1]; rfl
  have r3 : (w.setCell ⟨b, 4, none⟩ (.int .i64 ((d.n + 1 : Nat) : Int))).cell? ⟨b, 3, none⟩ = some (.int .i64 raw) := by rw [at_cell hW1]; rfl
  rw [h] at c1; rw [hw] at c2 r2
  have f4 := f 4
  have d0 : decide ((k : Int) < 0) = false := by simp
  have d1 : decide ((d.l.length : Int) ≤ (k : Int)) = false := by simp; omega
  have hk0 : (0 : Int) ≤ (k : Int) := by omega
  have hk1 : (k : Int) < (d.l.length : Int) := by omega
  have HT := hid (T.out H)
  have HY := hid hy; have HXL := hid hxl; have HK := hid hk
  generalize hzz : ((d.n + 1 : Nat) : Int) = z at *
  clear T hy hxl c3 f h hw ht hW1 hzz hyl H hraw
  go_enter Try.func18, Try.ntmps18
  go_wp2_with fail
  generalize hW : w.setCell ⟨b, 4, none⟩ (.int .i64 z) = W1 at *
  have q0 := show W1.drew.cell? ⟨b, 0, none⟩ = _ from r0
  obtain ⟨cs, fs⟩ := H1.out.1.drew.str HK.out
  simp only [← HY.out] at cs
  have H2 := hid (show _ ∧ _ from ⟨(H1.out.1.over (k := k) HL.out rfl).1.drew, (H1.out.1.over (k := k) HL.out rfl).2.drew⟩)
  have H3 := hid H2.out.1.fell
  obtain ⟨raw2, -, s0, s1, s2, s3, s4, sf⟩ := (H1.out.1.over (k := k) HL.out rfl).1.cells
  obtain ⟨raw3, -, -, -, -, -, -, gf⟩ := H1.out.1.cells
  have g1 := gf 1; have g2 := gf 2; have g3 := sf 1; have g4 := sf 2
  clear gf
  clear s0 s3 s4 sf r0 r2 r3 hV HL HXL
  generalize x.extract 0 d.stays = xa at *
  generalize (⟨y.toArray⟩ : ByteArray).extract d.stays 64 = xb at *
  clear c0 c1 c2 c4 f4
  go_region
  go_wp2_with fail
  go_ret
  exact ⟨rfl, HT.out _ H3.out.1, (H1.out.2.then H2.out.2).then H3.out.2⟩
end
end Go.Proofs.Ytjjlakekjihnoaa
