/-
  The walk of the statement SectorOwn: what was handed in or out may be changed: the disk stays. No condition.
-/
import Derived.Test.YtjjlakekjihnoaaSeT
import Derived.Test.YtjjlakekjihnoaaUmi
set_option linter.unusedSimpArgs false
set_option linter.unusedVariables false
namespace Go.Proofs.Ytjjlakekjihnoaa.lsown
set_option maxRecDepth 100000
open Go.RowKit

theorem free_at {base : Nat} {w : World} {g n c : Nat} {l : List UInt8} (h : OwnB base w (.slice (some ⟨g, 0, none⟩) n c) l) (hl : 0 < l.length) (i : Nat) : w.frozen? ⟨g, i, none⟩ = false := by
  obtain ⟨_, h | ⟨g', cap, cur, e, hb, hh, h1, h2, _⟩⟩ := h
  · omega
  · cases e; exact at_free hh i
theorem Sk.store {w W : World} {b s : Nat} {d : Dk} (h : Sk w b s d [] W) {p : Addr} (hp : w.heap.size ≤ p.block) (hb : b ≠ p.block) (hs : s ≠ p.block) (v : Value) : Sk w b s d [] (W.setCell p v) :=
  ⟨gb_new h.gr hp v, ⟨at_set_other h.dk.top hb v, at_set_other h.dk.sec hs v, h.dk.ne, h.dk.ok⟩, h.lb, h.ls, fun p hp => by cases hp⟩
theorem rep_get (c : UInt8) {k : Nat} (h : k < 64) : (rep c).getD k 0 = c := by
  rw [List.getD_eq_getElem?_getD, List.getElem?_replicate, if_pos h]; rfl
theorem own_code (c : UInt8) : (Dk.new 1).code 0 (rep c) = 0 := rfl
theorem own_dk (c : UInt8) : (Dk.new 1).write 0 (rep c) = ⟨[rep c], false, 0, false, 1⟩ := rfl
set_option maxHeartbeats 6400000 in
theorem walk {w : World} (c : UInt8) (q : Int) :
    Calls Try.prog 6 #[.int .u8 (c.toNat : Int), .int .i64 q] w fun e w' => e = .returned (.bool true) ∧ w.grownBy w' none := by
  have C1 := hid (own_code c)
  obtain ⟨d1, hd1⟩ : ∃ d1, (⟨[rep c], false, 0, false, 1⟩ : Dk) = d1 := ⟨_, rfl⟩
  have D1 := hid ((own_dk c).trans hd1)
  have R1 := hid (show readL d1 0 = rep c by rw [← hd1]; rfl)
  have Z1 := hid (show readC d1 0 = 0 by rw [← hd1]; rfl)
  obtain ⟨x, hx⟩ : ∃ x, rep c = x := ⟨_, rfl⟩
  have HX := hid (show x.length = 64 by rw [← hx]; simp)
  have N0 := hid (show (Dk.new 1).n < 1000000000 by decide)
  obtain ⟨d0, hd0⟩ : ∃ d, Dk.new 1 = d := ⟨_, rfl⟩
  obtain ⟨k, hk, mk⟩ := umod_small q 64 (by omega)
  rw [show ((64 : Nat) : Int) = 64 from rfl] at mk
  have GX := hid (show x.getD k 0 = c by rw [← hx]; exact rep_get c hk)
  have hk0 : (0 : Int) ≤ (k : Int) := by omega
  have hk1 : (k : Int) < 64 := by omega
  rw [hx, hd0] at C1 D1; rw [hx] at R1; rw [hd0] at N0
  have F := hid (fun W => filled_any c W)
  rw [hx] at F
  unfold bv at F
  have HD0 := hid hd0
  generalize hT : (c.toNat : Int) = T at *
  have HT := hid hT
  clear hx hd1 hd0 hT
  go_enter Try.func6, Try.ntmps6
  go_wp2_with fail
  refine (dnew_as 1 rfl (by decide) (by decide) _).mono ?_
  rintro e w1 ⟨b, s, rfl, hd, hg, h1, h2⟩
  rw [HD0.out] at hd
  have K := hid (Sk.start hd hg h1 h2 (.refl w none)); clear hd hg h1 h2
  go_wp2_with fail
  refine (F.out _).mono ?_
  rintro e w2 ⟨rfl, hr, hg⟩
  obtain ⟨g, hG⟩ : ∃ g, g = w1.heap.size := ⟨_, rfl⟩
  rw [← hG] at hr ⊢
  have hgl : w.heap.size ≤ g := by rw [hG]; exact K.out.gr.size
  have hgb : b < g := by rw [hG]; exact K.out.dk.ltb
  have hgs : s < g := by rw [hG]; exact K.out.dk.lts
  have K2 := hid (K.out.grown hg); have HR := hid hr; clear hr hg hG K
  have HB := hid (OwnB.bytes (own_block (base := 0) x HR.out (by rw [HX.out]; unfold maxLen; decide) (Nat.zero_le _)))
  rw [HX.out] at HB
  go_wp2_with fail
  refine (write_any _ x 0 K2.out.dk N0.out HB.out (.inr (fun a n c e => by cases e; simp; omega))).mono ?_
  rintro e w3 ⟨rfl, hd, hc⟩
  rw [D1.out] at hd
  rw [C1.out]
  have hr3 := hc.at HR.out (by simp; omega)
  have K3 := hid (K2.out.chg hd hc); clear hd hc K2 HB HR
  have f3 := at_free hr3 k
  have c3 : w3.cell? ⟨g, k, none⟩ = some (.int .u8 T) := by
    rw [at_cell hr3, List.getElem?_toArray, List.getElem?_map]
    have : x[k]? = some c := by
      have := GX.out
      rw [List.getD_eq_getElem?_getD, List.getElem?_eq_getElem (by rw [HX.out]; exact hk)] at this
      rw [List.getElem?_eq_getElem (by rw [HX.out]; exact hk)]
      simpa using this
    rw [this, ← HT.out]; rfl
  have ST := hid (fun v => Sk.store K3.out (p := ⟨g, k, none⟩) hgl (by show b ≠ g; omega) (by show s ≠ g; omega) v)
  clear hr3
  go_wp2_with fail
  refine ((ST.out _).read 0 R1.out Z1.out).mono ?_
  rintro e w4 ⟨u, rfl, ho, hg, hk4⟩
  obtain ⟨gx, cx, rfl, hcx, -, hgx, -⟩ := ho.whole HX.out (by decide)
  have K4 := hid hk4.tl
  have f4 := free_at ho (by rw [HX.out]; decide) k
  have c4 := byte_at ho.bytes k (by rw [HX.out]; exact hk)
  have l1 := (ST.out (.bool true)).dk.ltb; have l2 := (ST.out (.bool true)).dk.lts; have l3 := (ST.out (.bool true)).gr.size
  have ST4 := hid (fun v => Sk.store K4.out (p := ⟨gx, k, none⟩) (by simp [World.setCell] at hgx l3 ⊢; omega) (by simp [World.setCell] at hgx l1 ⊢; omega) (by simp [World.setCell] at hgx l2 ⊢; omega) v)
  clear ho hg hk4 hgx f3 c3 l1 l2 l3
  go_wp2_with fail
  refine ((ST4.out _).read 0 R1.out Z1.out).mono ?_
  rintro e w5 ⟨u, rfl, ho, hg, hk5⟩
  obtain ⟨gy, cy, rfl, hcy, -, hgy, -⟩ := ho.whole HX.out (by decide)
  have K5 := hid hk5; clear ho hg hk5 hgy f4 c4
  go_wp2_with fail
  refine (told_any _).mono ?_
  rintro e w6 ⟨rfl, hg⟩
  have K6 := hid (K5.out.grown hg); clear hg
  have c6 := byte_at K6.out.r0 k (by rw [HX.out]; exact hk)
  rw [GX.out, HT.out] at c6
  go_wp2_with fail
  go_ret
  exact ⟨rfl, K6.out.gr⟩
end Go.Proofs.Ytjjlakekjihnoaa.lsown
