/-
  Contract: the law's own examples: the program tells what the document says of a few. No condition.
-/
import Derived.Test.YtjjlakekjihnoaaSeD
set_option linter.unusedSimpArgs false
set_option linter.unusedVariables false
namespace Go.Proofs.Ytjjlakekjihnoaa
set_option maxRecDepth 100000
open Go.RowKit

def t0 : Dk := Dk.new 3
def t1 : Dk := t0.write 1 (rep 7)
def t2 : Dk := t1.tear 3
def t3 : Dk := t2.write 9 (rep 8)
def t4 : Dk := t3.write 1 (rep 8)
def t5 : Dk := t4.write 1 (rep 9)
def t6 : Dk := t5.up
def t7 : Dk := t6.spoil 1 0 1
theorem told_codes : t0.code 1 (rep 7) = 0 ∧ t2.code 9 (rep 8) = 1 ∧ t3.code 1 (rep 8) = 10 ∧ t4.code 1 (rep 9) = 10 ∧ t6.scode 1 0 = 0 ∧ t7.scode 1 64 = 1 := by decide +kernel
theorem told_reads : readC t5 1 = 0 ∧ readC t5 3 = 1 ∧ readL t5 3 = [] ∧ readC t7 1 = 0 := by decide +kernel
theorem told_bytes : (readL t5 1).length = 64 ∧ (readL t5 1).getD 2 0 = 8 ∧ (readL t5 1).getD 3 0 = 7 ∧ (readL t7 1).length = 64 ∧ (readL t7 1).getD 0 0 = 9 := by decide +kernel
theorem told_ends : t5.down = true ∧ t7.down = false ∧ t7.n = 2 ∧ t7.l.length = 3 := by decide +kernel
theorem told_ns : t0.n < 1000000000 ∧ t2.n < 1000000000 ∧ t3.n < 1000000000 ∧ t4.n < 1000000000 := by decide +kernel
set_option maxHeartbeats 3200000 in
theorem told_any (w : World) :
    Calls Try.prog 14 #[] w fun e w' => e = .returned (.bool true) ∧ w.grownBy w' none := by
  obtain ⟨k0, k1, k2, k3, k4, k5⟩ := told_codes
  obtain ⟨m0, m1, m2, m3⟩ := told_reads
  obtain ⟨q0, q1, q2, q3, q4⟩ := told_bytes
  obtain ⟨e0, e1, e2, e3⟩ := told_ends
  obtain ⟨n0, n1, n2, n3⟩ := told_ns
  have K0 := hid k0; have K1 := hid k1; have K2 := hid k2; have K3 := hid k3; have K4 := hid k4; have K5 := hid k5
  have M0 := hid m0; have M1 := hid m1; have M2 := hid m2; have M3 := hid m3
  have Q0 := hid q0; have Q1 := hid q1; have Q2 := hid q2; have Q3 := hid q3; have Q4 := hid q4
  have E0 := hid e0; have E1 := hid e1; have E2 := hid e2; have E3 := hid e3
  have N0 := hid n0; have N1 := hid n1; have N2 := hid n2; have N3 := hid n3
  have D0 := hid (show Dk.new 3 = t0 from rfl); have D1 := hid (show t0.write 1 (rep 7) = t1 from rfl); have D2 := hid (show t1.tear 3 = t2 from rfl); have D3 := hid (show t2.write 9 (rep 8) = t3 from rfl)
  have D4 := hid (show t3.write 1 (rep 8) = t4 from rfl); have D5 := hid (show t4.write 1 (rep 9) = t5 from rfl); have D6 := hid (show t5.up = t6 from rfl); have D7 := hid (show t6.spoil 1 0 1 = t7 from rfl)
  have D8 := hid (show t7.spoil 1 64 1 = t7 by kernel_rfl)
  clear k0 k1 k2 k3 k4 k5 m0 m1 m2 m3 q0 q1 q2 q3 q4 e0 e1 e2 e3 n0 n1 n2 n3
  generalize t0 = d0 at *; generalize t1 = d1 at *; generalize t2 = d2 at *; generalize t3 = d3 at *; generalize t4 = d4 at *; generalize t5 = d5 at *; generalize t6 = d6 at *; generalize t7 = d7 at *
  go_enter Try.func14, Try.ntmps14
  go_wp2_with fail
  refine (dnew_as 3 rfl (by decide) (by decide) _).mono ?_
  rintro e w1 ⟨b, s, rfl, hd, hg, h1, h2⟩
  rw [D0.out] at hd
  have K := hid (Sk.start hd hg h1 h2 (.refl w none)); clear hd hg h1 h2
  go_wp2_with fail
  refine (K.out.fill 7 rfl).mono ?_
  rintro e wf0 ⟨v, rfl, hk⟩
  replace K := hid hk; clear hk
  go_wp2_with fail
  refine (K.out.write 1 N0.out K0.out D1.out).mono ?_
  rintro e ww0 ⟨rfl, hk⟩
  replace K := hid hk; clear hk
  go_wp2_with fail
  refine (K.out.tear 3 D2.out).mono ?_
  rintro e wt ⟨rfl, hk⟩
  replace K := hid hk; clear hk
  go_wp2_with fail
  refine (K.out.fill 8 rfl).mono ?_
  rintro e wf1 ⟨v, rfl, hk⟩
  replace K := hid hk; clear hk
  go_wp2_with fail
  refine (K.out.write 9 N1.out K1.out D3.out).mono ?_
  rintro e ww1 ⟨rfl, hk⟩
  replace K := hid hk; clear hk
  go_wp2_with fail
  refine (K.out.fill 8 rfl).mono ?_
  rintro e wf2 ⟨v, rfl, hk⟩
  replace K := hid hk; clear hk
  go_wp2_with fail
  refine (K.out.write 1 N2.out K2.out D4.out).mono ?_
  rintro e ww2 ⟨rfl, hk⟩
  replace K := hid hk; clear hk
  go_wp2_with fail
  refine (K.out.fill 9 rfl).mono ?_
  rintro e wf3 ⟨v, rfl, hk⟩
  replace K := hid hk; clear hk
  go_wp2_with fail
  refine (K.out.write 1 N3.out K3.out D5.out).mono ?_
  rintro e ww3 ⟨rfl, hk⟩
  replace K := hid hk; clear hk
  go_wp2_with fail
  refine (K.out.read 1 rfl M0.out).mono ?_
  rintro e wr ⟨u, rfl, ho, hg, hk⟩
  obtain ⟨gx, cx, rfl, hcx, -, -, -⟩ := ho.whole Q0.out (by decide)
  replace K := hid hk; clear hk ho hg
  go_wp2_with fail
  refine (K.out.read 3 M2.out M1.out).mono ?_
  rintro e wr2 ⟨u, rfl, ho, hg, hk⟩
  replace K := hid hk.tl; clear hk ho hg
  go_wp2_with fail
  refine (K.out.down E0.out).mono ?_
  rintro e wd ⟨rfl, rfl⟩
  go_wp2_with fail
  refine (K.out.up D6.out).mono ?_
  rintro e wu ⟨rfl, hk⟩
  replace K := hid hk; clear hk
  go_wp2_with fail
  refine (K.out.spoil 1 0 1 rfl K4.out D7.out).mono ?_
  rintro e ws ⟨rfl, hk⟩
  replace K := hid hk; clear hk
  go_wp2_with fail
  refine (K.out.read 1 rfl M3.out).mono ?_
  rintro e wr3 ⟨u, rfl, ho, hg, hk⟩
  obtain ⟨gy, cy, rfl, hcy, -, -, -⟩ := ho.whole Q3.out (by decide)
  replace K := hid hk; clear hk ho hg
  have b2 := byte_at K.out.r1 2 (by rw [Q0.out]; decide)
  have b3 := byte_at K.out.r1 3 (by rw [Q0.out]; decide)
  have y0 := byte_at K.out.r0 0 (by rw [Q3.out]; decide)
  rw [Q1.out] at b2; rw [Q2.out] at b3; rw [Q4.out] at y0
  rw [show ((8 : UInt8).toNat : Int) = 8 from rfl] at b2
  rw [show ((7 : UInt8).toNat : Int) = 7 from rfl] at b3
  rw [show ((9 : UInt8).toNat : Int) = 9 from rfl] at y0
  go_wp2_with fail
  refine (K.out.down E1.out).mono ?_
  rintro e wd ⟨rfl, rfl⟩
  go_wp2_with fail
  refine (K.out.writes (z := 2) (by rw [E2.out]; rfl)).mono ?_
  rintro e wd ⟨rfl, rfl⟩
  go_wp2_with fail
  refine (K.out.spoil 1 64 1 rfl K5.out D8.out).mono ?_
  rintro e ws ⟨rfl, hk⟩
  replace K := hid hk; clear hk b2 b3 y0
  go_wp2_with fail
  refine (K.out.len (z := 3) (by rw [E3.out]; rfl)).mono ?_
  rintro e wd ⟨rfl, rfl⟩
  go_wp2_with fail
  refine (dnew_nil 0 (by decide) _).mono ?_
  rintro e wd ⟨rfl, rfl⟩
  go_wp2_with fail
  refine (write_nil _ [] 0 (nil_bytes _)).mono ?_
  rintro e wd ⟨rfl, rfl⟩
  go_wp2_with fail
  refine (len_nil _).mono ?_
  rintro e wd ⟨rfl, rfl⟩
  go_wp2_with fail
  go_ret
  exact ⟨rfl, K.out.gr⟩
end Go.Proofs.Ytjjlakekjihnoaa
