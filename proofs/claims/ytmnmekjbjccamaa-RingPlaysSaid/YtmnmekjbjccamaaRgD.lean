/-
  Contracts for package ring's Gen, Since, Rotate, Set, New. The condition of a call: the ring lies there; or it is nil.
-/
import Derived.Test.YtmnmekjbjccamaaRgC
set_option linter.unusedSimpArgs false
set_option linter.unusedVariables false
namespace Go.Proofs.Ytmnmekjbjccamaa
set_option maxRecDepth 100000
open Go.RowKit

theorem rgen_in {b h : Nat} {r : Rg} (i : Nat) (w : World) (H0 : RgAt w b h r) (hi : i < r.n) :
    Calls Try.prog 29 #[.pointer (some ⟨b, 0, none⟩), .int .i64 (i : Int)] w fun e w' => e = .returned (.int .i64 (r.gen i)) ∧ w = w' := by
  obtain ⟨c0, c1, f0, f1⟩ := H0.cells hi
  have H := hid H0; clear H0
  go_enter Try.func29, Try.ntmps29
  go_wp2_with fail
  refine (find_in i _ H.out hi).mono ?_
  rintro e w1 ⟨rfl, rfl⟩
  go_wp2_with fail
  refine (has_at _ rfl _ _ c0).mono ?_
  rintro e w1 ⟨rfl, rfl⟩
  go_wp2_with fail
  go_ret
  exact ⟨rfl, rfl⟩
theorem rgen_out {b h : Nat} {r : Rg} (x : Int) (w : World) (H0 : RgAt w b h r) (hx : x < 0 ∨ (r.n : Int) ≤ x) :
    Calls Try.prog 29 #[.pointer (some ⟨b, 0, none⟩), .int .i64 x] w fun e w' => e = .returned (.int .i64 (-1)) ∧ w = w' := by
  have H := hid H0; clear H0
  go_enter Try.func29, Try.ntmps29
  go_wp2_with fail
  refine (find_out x _ H.out hx).mono ?_
  rintro e w1 ⟨rfl, rfl⟩
  go_wp2_with fail
  go_ret
  exact ⟨rfl, rfl⟩
theorem rgen_nil (x : Int) (w : World) :
    Calls Try.prog 29 #[.pointer none, .int .i64 x] w fun e w' => e = .returned (.int .i64 (-1)) ∧ w = w' := by
  go_enter Try.func29, Try.ntmps29
  go_wp2_with fail
  refine (find_nil x _).mono ?_
  rintro e w1 ⟨rfl, rfl⟩
  go_wp2_with fail
  go_ret
  exact ⟨rfl, rfl⟩
theorem rsince_in {b h : Nat} {r : Rg} (i : Nat) (w : World) (H0 : RgAt w b h r) (hi : i < r.n) :
    Calls Try.prog 30 #[.pointer (some ⟨b, 0, none⟩), .int .i64 (i : Int)] w fun e w' => e = .returned (.int .i64 (r.since i)) ∧ w = w' := by
  obtain ⟨c0, c1, f0, f1⟩ := H0.cells hi
  have H := hid H0; clear H0
  go_enter Try.func30, Try.ntmps30
  go_wp2_with fail
  refine (find_in i _ H.out hi).mono ?_
  rintro e w1 ⟨rfl, rfl⟩
  go_wp2_with fail
  go_ret
  exact ⟨rfl, rfl⟩
theorem rsince_out {b h : Nat} {r : Rg} (x : Int) (w : World) (H0 : RgAt w b h r) (hx : x < 0 ∨ (r.n : Int) ≤ x) :
    Calls Try.prog 30 #[.pointer (some ⟨b, 0, none⟩), .int .i64 x] w fun e w' => e = .returned (.int .i64 (-1)) ∧ w = w' := by
  have H := hid H0; clear H0
  go_enter Try.func30, Try.ntmps30
  go_wp2_with fail
  refine (find_out x _ H.out hx).mono ?_
  rintro e w1 ⟨rfl, rfl⟩
  go_wp2_with fail
  go_ret
  exact ⟨rfl, rfl⟩
theorem rsince_nil (x : Int) (w : World) :
    Calls Try.prog 30 #[.pointer none, .int .i64 x] w fun e w' => e = .returned (.int .i64 (-1)) ∧ w = w' := by
  go_enter Try.func30, Try.ntmps30
  go_wp2_with fail
  refine (find_nil x _).mono ?_
  rintro e w1 ⟨rfl, rfl⟩
  go_wp2_with fail
  go_ret
  exact ⟨rfl, rfl⟩

/-- what Rotate answers, and leaves -/
def Rg.rot (r : Rg) (who gen now : Int) : Int × Rg :=
  if 0 ≤ who ∧ who < (r.n : Int) then if gen = r.gen who.toNat + 1 ∧ gen ≤ 60000 then if 0 ≤ now ∧ now ≤ 1099511627776 then (0, r.put who.toNat gen now) else (1, r) else (4, r) else (3, r)
/-- what Set answers, and leaves -/
def Rg.set (r : Rg) (who gen since : Int) : Int × Rg :=
  if 0 ≤ who ∧ who < (r.n : Int) then if 0 ≤ gen ∧ gen ≤ 60000 ∧ 0 ≤ since ∧ since ≤ 1099511627776 then (0, r.put who.toNat gen since) else (1, r) else (3, r)
def Leaves (w : World) (b h : Nat) (k : Int × Rg) (e : Ending) (w' : World) : Prop := e = .returned (.int .i64 k.1) ∧ RgAt w' b h k.2 ∧ Chg [h] w w'
theorem leaves_same {w : World} {b h : Nat} {r : Rg} (c : Int) (H : RgAt w b h r) : Leaves w b h (c, r) (.returned (.int .i64 c)) w := ⟨rfl, H, chg_refl w _⟩
theorem leaves_put {w : World} {b h : Nat} {r : Rg} {i : Nat} {g s : Int} (H : RgAt w b h r) (hi : i < r.n) (g0 : 0 ≤ g) (g1 : g ≤ 60000) (s0 : 0 ≤ s) (s1 : s ≤ 1099511627776) :
    Leaves w b h (0, r.put i g s) (.returned (.int .i64 0)) ((w.setCell ⟨h, i * 2, none⟩ (.int .i64 g)).setCell ⟨h, i * 2 + 1, none⟩ (.int .i64 s)) :=
  ⟨rfl, H.put hi g0 g1 s0 s1, ((chg_refl w [h]).set (.inl (by simp)) _).set (.inl (by simp)) _⟩

set_option maxHeartbeats 1600000 in
theorem rrot_ok {b h : Nat} {r : Rg} (i : Nat) (now : Int) (w : World) (H0 : RgAt w b h r) (hi : i < r.n) (hg : r.gen i < 60000) (n0 : 0 ≤ now) (n1 : now ≤ 1099511627776) :
    Calls Try.prog 23 #[.pointer (some ⟨b, 0, none⟩), .int .i64 (i : Int), .int .i64 (r.gen i + 1), .int .i64 now] w (Leaves w b h (0, r.put i (r.gen i + 1) now)) := by
  obtain ⟨c0, c1, f0, f1⟩ := H0.cells hi
  have q0 := H0.ok.e0 i; have q1 := H0.ok.e1 i; have q2 := H0.ok.s0 i; have q3 := H0.ok.s1 i
  have L := hid (leaves_put (g := r.gen i + 1) (s := now) H0 hi (by omega) (by omega) n0 n1)
  have H := hid H0; clear H0
  generalize r.put i (r.gen i + 1) now = r' at L ⊢
  generalize r.gen i = g at *
  have d0 : decide (60000 < g + 1) = false := by simp; omega
  go_enter Try.func23, Try.ntmps23
  go_wp2_with fail
  refine (find_in i _ H.out hi).mono ?_
  rintro e w1 ⟨rfl, rfl⟩
  go_wp2_with fail
  refine (has_at _ rfl _ _ c0).mono ?_
  rintro e w1 ⟨rfl, rfl⟩
  go_wp2_with fail
  refine (within64_in now 0 1099511627776 n0 n1 _).mono ?_
  rintro e w1 ⟨rfl, rfl⟩
  go_wp2_with fail
  refine (add_i64 _ g _ c0 f0 q0 (by omega)).mono ?_
  rintro e w1 ⟨rfl, rfl⟩
  go_wp2_with fail
  go_ret
  exact L.out

set_option maxHeartbeats 1600000 in
theorem rrot_arg {b h : Nat} {r : Rg} (i : Nat) (now : Int) (w : World) (H0 : RgAt w b h r) (hi : i < r.n) (hg : r.gen i < 60000) (hn : now < 0 ∨ 1099511627776 < now) :
    Calls Try.prog 23 #[.pointer (some ⟨b, 0, none⟩), .int .i64 (i : Int), .int .i64 (r.gen i + 1), .int .i64 now] w (Leaves w b h (1, r)) := by
  obtain ⟨c0, c1, f0, f1⟩ := H0.cells hi
  have q0 := H0.ok.e0 i; have q1 := H0.ok.e1 i; have q2 := H0.ok.s0 i; have q3 := H0.ok.s1 i
  have L := hid (leaves_same 1 H0)
  have H := hid H0; clear H0
  generalize r.gen i = g at *
  have d0 : decide (60000 < g + 1) = false := by simp; omega
  go_enter Try.func23, Try.ntmps23
  go_wp2_with fail
  refine (find_in i _ H.out hi).mono ?_
  rintro e w1 ⟨rfl, rfl⟩
  go_wp2_with fail
  refine (has_at _ rfl _ _ c0).mono ?_
  rintro e w1 ⟨rfl, rfl⟩
  go_wp2_with fail
  refine (within64_out now 0 1099511627776 hn _).mono ?_
  rintro e w1 ⟨rfl, rfl⟩
  go_wp2_with fail
  go_ret
  exact L.out

set_option maxHeartbeats 1600000 in
theorem rrot_gen {b h : Nat} {r : Rg} (i : Nat) (gen now : Int) (w : World) (H0 : RgAt w b h r) (hi : i < r.n) (hg : gen ≠ r.gen i + 1 ∨ 60000 < gen) :
    Calls Try.prog 23 #[.pointer (some ⟨b, 0, none⟩), .int .i64 (i : Int), .int .i64 gen, .int .i64 now] w (Leaves w b h (4, r)) := by
  obtain ⟨c0, c1, f0, f1⟩ := H0.cells hi
  have q0 := H0.ok.e0 i; have q1 := H0.ok.e1 i; have q2 := H0.ok.s0 i; have q3 := H0.ok.s1 i
  have L := hid (leaves_same 4 H0)
  have H := hid H0; clear H0
  generalize r.gen i = g at *
  by_cases he : gen = g + 1
  · subst he
    have d0 : decide (60000 < g + 1) = true := by simp; omega
    clear hg
    go_enter Try.func23, Try.ntmps23
    go_wp2_with fail
    refine (find_in i _ H.out hi).mono ?_
    rintro e w1 ⟨rfl, rfl⟩
    go_wp2_with fail
    refine (has_at _ rfl _ _ c0).mono ?_
    rintro e w1 ⟨rfl, rfl⟩
    go_wp2_with fail
    go_ret
    exact L.out
  · have d0 : (gen != g + 1) = true := by simpa using he
    clear hg
    go_enter Try.func23, Try.ntmps23
    go_wp2_with fail
    refine (find_in i _ H.out hi).mono ?_
    rintro e w1 ⟨rfl, rfl⟩
    go_wp2_with fail
    refine (has_at _ rfl _ _ c0).mono ?_
    rintro e w1 ⟨rfl, rfl⟩
    go_wp2_with fail
    go_ret
    exact L.out

theorem rrot_who {b h : Nat} {r : Rg} (x gen now : Int) (w : World) (H0 : RgAt w b h r) (hx : x < 0 ∨ (r.n : Int) ≤ x) :
    Calls Try.prog 23 #[.pointer (some ⟨b, 0, none⟩), .int .i64 x, .int .i64 gen, .int .i64 now] w (Leaves w b h (3, r)) := by
  have L := hid (leaves_same 3 H0)
  have H := hid H0; clear H0
  go_enter Try.func23, Try.ntmps23
  go_wp2_with fail
  refine (find_out x _ H.out hx).mono ?_
  rintro e w1 ⟨rfl, rfl⟩
  go_wp2_with fail
  go_ret
  exact L.out
theorem rrot_any {b h : Nat} {r : Rg} (who gen now : Int) (w : World) (H : RgAt w b h r) :
    Calls Try.prog 23 #[.pointer (some ⟨b, 0, none⟩), .int .i64 who, .int .i64 gen, .int .i64 now] w (Leaves w b h (r.rot who gen now)) := by
  by_cases h0 : 0 ≤ who ∧ who < (r.n : Int)
  · obtain ⟨i, rfl⟩ := Int.eq_ofNat_of_zero_le h0.1
    have hi : i < r.n := by have := h0.2; omega
    by_cases h1 : gen = r.gen i + 1 ∧ gen ≤ 60000
    · by_cases h2 : 0 ≤ now ∧ now ≤ 1099511627776
      · rw [show r.rot (i : Int) gen now = (0, r.put i gen now) by unfold Rg.rot; rw [if_pos h0, Int.toNat_natCast, if_pos h1, if_pos h2]]
        obtain ⟨rfl, h3⟩ := h1
        exact rrot_ok i now w H hi (by omega) h2.1 h2.2
      · rw [show r.rot (i : Int) gen now = (1, r) by unfold Rg.rot; rw [if_pos h0, Int.toNat_natCast, if_pos h1, if_neg h2]]
        obtain ⟨rfl, h3⟩ := h1
        exact rrot_arg i now w H hi (by omega) (by omega)
    · rw [show r.rot (i : Int) gen now = (4, r) by unfold Rg.rot; rw [if_pos h0, Int.toNat_natCast, if_neg h1]]
      exact rrot_gen i gen now w H hi (by omega)
  · rw [show r.rot who gen now = (3, r) by unfold Rg.rot; rw [if_neg h0]]
    exact rrot_who who gen now w H (by omega)

set_option maxHeartbeats 1600000 in
theorem rset_ok {b h : Nat} {r : Rg} (i : Nat) (gen now : Int) (w : World) (H0 : RgAt w b h r) (hi : i < r.n) (g0 : 0 ≤ gen) (g1 : gen ≤ 60000) (n0 : 0 ≤ now) (n1 : now ≤ 1099511627776) :
    Calls Try.prog 25 #[.pointer (some ⟨b, 0, none⟩), .int .i64 (i : Int), .int .i64 gen, .int .i64 now] w (Leaves w b h (0, r.put i gen now)) := by
  obtain ⟨c0, c1, f0, f1⟩ := H0.cells hi
  have L := hid (leaves_put (g := gen) (s := now) H0 hi g0 g1 n0 n1)
  have H := hid H0; clear H0
  generalize r.put i gen now = r' at L ⊢
  go_enter Try.func25, Try.ntmps25
  go_wp2_with fail
  refine (find_in i _ H.out hi).mono ?_
  rintro e w1 ⟨rfl, rfl⟩
  go_wp2_with fail
  refine (within_in gen 0 60000 g0 g1 _).mono ?_
  rintro e w1 ⟨rfl, rfl⟩
  go_wp2_with fail
  refine (within64_in now 0 1099511627776 n0 n1 _).mono ?_
  rintro e w1 ⟨rfl, rfl⟩
  go_wp2_with fail
  refine (store_i64 _ gen _ _ c0 f0).mono ?_
  rintro e w1 ⟨rfl, rfl⟩
  go_wp2_with fail
  go_ret
  exact L.out

set_option maxHeartbeats 1600000 in
theorem rset_arg {b h : Nat} {r : Rg} (i : Nat) (gen now : Int) (w : World) (H0 : RgAt w b h r) (hi : i < r.n) (hg : ¬ (0 ≤ gen ∧ gen ≤ 60000 ∧ 0 ≤ now ∧ now ≤ 1099511627776)) :
    Calls Try.prog 25 #[.pointer (some ⟨b, 0, none⟩), .int .i64 (i : Int), .int .i64 gen, .int .i64 now] w (Leaves w b h (1, r)) := by
  have L := hid (leaves_same 1 H0)
  have H := hid H0; clear H0
  by_cases g0 : 0 ≤ gen ∧ gen ≤ 60000
  · have hn : now < 0 ∨ 1099511627776 < now := by omega
    obtain ⟨g0, g1⟩ := g0
    clear hg
    go_enter Try.func25, Try.ntmps25
    go_wp2_with fail
    refine (find_in i _ H.out hi).mono ?_
    rintro e w1 ⟨rfl, rfl⟩
    go_wp2_with fail
    refine (within_in gen 0 60000 g0 g1 _).mono ?_
    rintro e w1 ⟨rfl, rfl⟩
    go_wp2_with fail
    refine (within64_out now 0 1099511627776 hn _).mono ?_
    rintro e w1 ⟨rfl, rfl⟩
    go_wp2_with fail
    go_ret
    exact L.out
  · have hn : gen < 0 ∨ 60000 < gen := by omega
    clear hg g0
    go_enter Try.func25, Try.ntmps25
    go_wp2_with fail
    refine (find_in i _ H.out hi).mono ?_
    rintro e w1 ⟨rfl, rfl⟩
    go_wp2_with fail
    refine (within_out gen 0 60000 hn _).mono ?_
    rintro e w1 ⟨rfl, rfl⟩
    go_wp2_with fail
    go_ret
    exact L.out
theorem rset_who {b h : Nat} {r : Rg} (x gen now : Int) (w : World) (H0 : RgAt w b h r) (hx : x < 0 ∨ (r.n : Int) ≤ x) :
    Calls Try.prog 25 #[.pointer (some ⟨b, 0, none⟩), .int .i64 x, .int .i64 gen, .int .i64 now] w (Leaves w b h (3, r)) := by
  have L := hid (leaves_same 3 H0)
  have H := hid H0; clear H0
  go_enter Try.func25, Try.ntmps25
  go_wp2_with fail
  refine (find_out x _ H.out hx).mono ?_
  rintro e w1 ⟨rfl, rfl⟩
  go_wp2_with fail
  go_ret
  exact L.out
theorem rset_any {b h : Nat} {r : Rg} (who gen now : Int) (w : World) (H : RgAt w b h r) :
    Calls Try.prog 25 #[.pointer (some ⟨b, 0, none⟩), .int .i64 who, .int .i64 gen, .int .i64 now] w (Leaves w b h (r.set who gen now)) := by
  by_cases h0 : 0 ≤ who ∧ who < (r.n : Int)
  · obtain ⟨i, rfl⟩ := Int.eq_ofNat_of_zero_le h0.1
    have hi : i < r.n := by have := h0.2; omega
    by_cases h1 : 0 ≤ gen ∧ gen ≤ 60000 ∧ 0 ≤ now ∧ now ≤ 1099511627776
    · rw [show r.set (i : Int) gen now = (0, r.put i gen now) by unfold Rg.set; rw [if_pos h0, Int.toNat_natCast, if_pos h1]]
      exact rset_ok i gen now w H hi h1.1 h1.2.1 h1.2.2.1 h1.2.2.2
    · rw [show r.set (i : Int) gen now = (1, r) by unfold Rg.set; rw [if_pos h0, if_neg h1]]
      exact rset_arg i gen now w H hi h1
  · rw [show r.set who gen now = (3, r) by unfold Rg.set; rw [if_neg h0]]
    exact rset_who who gen now w H (by omega)
end Go.Proofs.Ytmnmekjbjccamaa
