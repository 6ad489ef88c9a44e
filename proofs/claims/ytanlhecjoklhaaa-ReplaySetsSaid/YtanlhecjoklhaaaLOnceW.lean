/-
  The walk of the statement ReplayOnce. No condition.
-/
import Derived.Test.YtanlhecjoklhaaaLWindowW
import Derived.Test.YtanlhecjoklhaaaInts
import Derived.Test.YtanlhecjoklhaaaGen
set_option linter.unusedSimpArgs false
set_option linter.unusedVariables false
namespace Go.Proofs.Ytanlhecjoklhaaa
set_option maxRecDepth 100000
open Go.RowKit
theorem IntsAt.chg {w w' : World} {F : List Nat} {v : Value} {l : List Int} (h : IntsAt w v l) (hc : Chg F w w') (hF : ∀ x ∈ F, w.heap.size ≤ x) : IntsAt w' v l := h.grown (hc.free hF)
theorem IntsAt.len {w : World} {p : Option Addr} {c n : Nat} {l : List Int} (h : IntsAt w (.slice p n c) l) : n = l.length ∧ n ≤ maxLen := by
  rcases h with ⟨h, rfl⟩ | ⟨a, cap, h, h1, h2, _⟩
  · cases h; exact ⟨rfl, Nat.zero_le _⟩
  · cases h; exact ⟨rfl, Nat.le_trans h1 h2⟩
theorem IntsAt.cell {w : World} {p : Option Addr} {c n : Nat} {l : List Int} (h : IntsAt w (.slice p n c) l) {k : Nat} (hk : k < n) : ∃ ab ao z, p = some ⟨ab, ao, none⟩ ∧ l[k]? = some z ∧ w.cell? ⟨ab, ao + k, none⟩ = some (.int .i64 z) := by
  obtain ⟨e, _⟩ := h.len
  subst e
  obtain ⟨ab, ao, cap, e, hc⟩ := h.cells (by omega)
  cases e
  exact ⟨ab, ao, l[k], rfl, List.getElem?_eq_getElem hk, hc k hk⟩
namespace once
theorem zero_took : ∃ zs : Array Value, (∀ w, (zeroValue 39).run Try.prog w = .ok (.agg zs) w) ∧ zs.size = 201 ∧ ∀ i, i < 201 → zs[i]? = some (.bool false) :=
  ⟨Array.replicate 201 (.bool false), fun w => rfl, by simp, fun i hi => by simp [hi]⟩
/-- what the walk keeps: the object, and which numbers were taken -/
structure On (w0 : World) (b a : Nat) (L : List Int) (r : Rp) (W : World) : Prop where
  tp : Tp w0 b r W
  arr : ∃ cs : Array Value, W.heap[a]? = some (.cells cs 39) ∧ cs.size = 201 ∧ ∀ i : Nat, i < 201 → cs[i]? = some (.bool (decide ((i : Int) ∈ L)))
  ne : a ≠ b
  lo : w0.heap.size ≤ a
  ql : RqL L r
section
variable {w0 W : World} {b a : Nat} {L : List Int} {r : Rp}
theorem On.cell (T : On w0 b a L r W) {i : Nat} (hi : i < 201) : W.cell? ⟨a, i, none⟩ = some (.bool (decide ((i : Int) ∈ L))) ∧ W.frozen? ⟨a, i, none⟩ = false := by
  obtain ⟨cs, h1, h2, h3⟩ := T.arr
  exact ⟨(at_cell h1 i).trans (h3 i hi), at_free h1 i⟩
theorem On.take (T : On w0 b a L r W) (n : Int) (h : r.may n = true) : Calls Try.prog 13 #[.pointer (some ⟨b, 0, none⟩), .int .i64 n] W fun e w' => e = .returned (.int .i64 0) ∧ Tp w0 b (r.put n) w' ∧ Chg [b] W w' :=
  (ptake_any n W T.tp.rp).mono fun _ _ K => by
    have e : r.take n = (0, r.put n) := by unfold Rp.take; rw [if_pos h]
    rw [e] at K
    exact ⟨K.1, T.tp.leave K, K.2.2⟩
theorem On.keep {W' : World} {r' : Rp} (T : On w0 b a L r W) (hp : Tp w0 b r' W') (hc : Chg [b] W W') : (∃ cs : Array Value, W'.heap[a]? = some (.cells cs 39) ∧ cs.size = 201 ∧ ∀ i : Nat, i < 201 → cs[i]? = some (.bool (decide ((i : Int) ∈ L)))) := by
  obtain ⟨cs, h1, h2⟩ := T.arr
  exact ⟨cs, hc.at h1 (by simpa using T.ne), h2⟩
theorem On.no (T : On w0 b a L r W) (n : Int) (h : r.may n = false) : Calls Try.prog 13 #[.pointer (some ⟨b, 0, none⟩), .int .i64 n] W fun e w' => e = .returned (.int .i64 6) ∧ On w0 b a L r w' :=
  (ptake_any n W T.tp.rp).mono fun _ _ K => by
    have e : r.take n = (6, r) := by unfold Rp.take; rw [h]; rfl
    rw [e] at K
    exact ⟨K.1, T.tp.leave K, T.keep (T.tp.leave K) K.2.2, T.ne, T.lo, T.ql⟩
/-- the object has taken it, the array has not yet -/
structure Mid (w0 : World) (b a : Nat) (L : List Int) (n : Int) (r : Rp) (W : World) : Prop where
  tp : Tp w0 b (r.put n) W
  arr : ∃ cs : Array Value, W.heap[a]? = some (.cells cs 39) ∧ cs.size = 201 ∧ ∀ i : Nat, i < 201 → cs[i]? = some (.bool (decide ((i : Int) ∈ L)))
  ne : a ≠ b
  lo : w0.heap.size ≤ a
  ql : RqL (L ++ [n]) (r.put n)
theorem On.mid (T : On w0 b a L r W) (n : Int) (h : r.may n = true) : Calls Try.prog 13 #[.pointer (some ⟨b, 0, none⟩), .int .i64 n] W fun e w' => e = .returned (.int .i64 0) ∧ Mid w0 b a L n r w' :=
  (T.take n h).mono fun _ _ ⟨h1, h2, h3⟩ => ⟨h1, h2, T.keep h2 h3, T.ne, T.lo, (rql_put T.ql T.tp.rp.ok h).1⟩
theorem Mid.cell {n : Int} (T : Mid w0 b a L n r W) {i : Nat} (hi : i < 201) : W.cell? ⟨a, i, none⟩ = some (.bool (decide ((i : Int) ∈ L))) ∧ W.frozen? ⟨a, i, none⟩ = false := by
  obtain ⟨cs, h1, h2, h3⟩ := T.arr
  exact ⟨(at_cell h1 i).trans (h3 i hi), at_free h1 i⟩
theorem Mid.put {i : Nat} (T : Mid w0 b a L (i : Int) r W) (hi : i < 201) : On w0 b a (L ++ [(i : Int)]) (r.put i) (W.setCell ⟨a, i, none⟩ (.bool true)) := by
  obtain ⟨cs, h1, h2, h3⟩ := T.arr
  have hc : Chg [a] W (W.setCell ⟨a, i, none⟩ (.bool true)) := (chg_refl W [a]).set (.inl (by simp)) _
  refine ⟨⟨((chg_grown T.tp.gr []).trans hc (fun g hg => by simp at hg; subst hg; exact .inr T.lo)).free (by simp), T.tp.rp.chg hc (by simpa using T.ne.symm), T.tp.lo⟩, ⟨_, at_set h1 i _, by simp [h2], fun j hj => ?_⟩, T.ne, T.lo, T.ql⟩
  rw [Array.getElem?_setIfInBounds]
  by_cases e : i = j
  · subst e; simp [h2, hi]
  · have e' : ¬ (j : Int) = (i : Int) := by omega
    rw [if_neg e, h3 j hj]
    simp [e']
theorem On.mayIs (T : On w0 b a L r W) (n : Int) (z : Bool) (h : r.may n = z) : Calls Try.prog 11 #[.pointer (some ⟨b, 0, none⟩), .int .i64 n] W fun e w' => e = .returned (.bool z) ∧ On w0 b a L r w' :=
  (pmay_any n W T.tp.rp).mono fun _ _ ⟨h1, h2⟩ => ⟨h ▸ h1, h2 ▸ T⟩
theorem On.topIs (T : On w0 b a L r W) (x : Int) (h : r.top = x) : Calls Try.prog 15 #[.pointer (some ⟨b, 0, none⟩)] W fun e w' => e = .returned (.int .i64 x) ∧ On w0 b a L r w' :=
  (ptop_any W T.tp.rp).mono fun _ _ ⟨h1, h2⟩ => ⟨h ▸ h1, h2 ▸ T⟩
end
set_option maxHeartbeats 6400000 in
theorem walk (window : Int) (l : List Int) (p : Option Addr) (c : Nat) {w : World} (hl : IntsAt w (.slice p l.length c) l) :
    Calls Try.prog 5 #[.int .i64 window, .slice p l.length c] w fun e w' => e = .returned (.bool true) ∧ w.grownBy w' none := by
  obtain ⟨k, k0, k1, ek⟩ := umod_int window 64 (by omega)
  replace ek : (IntKind.u64.wrap window).tmod 64 = k := ek
  replace k1 : k < 64 := k1
  have HI := hid hl
  obtain ⟨len, hlen⟩ : ∃ len, len = l.length := ⟨_, rfl⟩
  rw [← hlen] at HI ⊢
  clear hl
  have hmax := HI.out.len.2
  unfold maxLen at hmax
  have HLEN := hid hlen; clear hlen
  by_cases h60 : 60 < len
  · go_enter Try.func5, Try.ntmps5
    go_wp2_with fail
    clear ek
    refine (tp_new_int (w0 := w) _ (by omega) (by omega) (.refl w none)).mono ?_
    rintro e w1 ⟨b, rfl, T, _, _⟩
    have T0 := hid T; clear T
    go_wp2_with fail
    refine (rtold_any _).mono ?_
    rintro e w3 ⟨rfl, hg⟩
    have T2 := hid (T0.out.grown hg); clear hg T0
    go_wp2_with fail
    go_ret
    exact ⟨rfl, T2.out.gr⟩
  have h60' : len ≤ 60 := by omega
  clear h60
  go_enter Try.func5, Try.ntmps5
  go_wp2_with fail
  clear ek
  obtain ⟨m, hm⟩ : ∃ m, m = 1 + k := ⟨_, rfl⟩
  rw [← hm]
  have m0 : 1 ≤ m := by omega
  have m1 : m ≤ 64 := by omega
  clear hm k0 k1
  obtain ⟨zs, hz, z1, z2⟩ := zero_took
  have HZ := hid (And.intro z1 z2); clear z1 z2
  refine (tp_new_int (w0 := w) m m0 m1 (.refl w none)).mono ?_
  rintro e w1 ⟨b, rfl, T, _, hb⟩
  have T0 := hid T; clear T
  go_wp2_with fail
  have hsz := T0.out.rp.lt
  have A1 := hid (show On w b w1.heap.size [] (.new m.toNat) (w1.alloc (.cells zs 39)) from
    ⟨T0.out.grown (World.grownBy_alloc w1 _ none), ⟨zs, at_new w1 _, HZ.out.1, fun i hi => by rw [HZ.out.2 i hi]; simp⟩, by omega, gb_size T0.out.gr, rql_new _⟩)
  have hgen : ∃ r L, On w b w1.heap.size L r (w1.alloc (.cells zs 39)) ∧ r.win = m.toNat ∧ r.top = 0 := ⟨_, _, A1.out, rfl, rfl⟩
  have HGEN := hid hgen
  clear hgen hz hsz T0 A1 HZ
  generalize w1.heap.size = a at HGEN ⊢
  go_loopw [8, 9] (fun u i wr => ∃ (k : Nat) (L : List Int) (r : Rp), k ≤ len ∧ u = .int .i64 r.top ∧ i = .int .i64 (k : Int) ∧ r.win = m.toNat ∧ On w b a L r wr) (fun _ i _ => len - (intOf i).toNat)
  case atStart =>
    obtain ⟨r, L, h1, h2, h3⟩ := HGEN.out
    exact ⟨0, L, r, Nat.zero_le _, by rw [h3], rfl, h2, h1⟩
  case round =>
    obtain ⟨k, L, r, hk, rfl, rfl, hwin, hon⟩ := hrel
    have A2 := hid hon; have HW := hid hwin
    clear hon hwin HGEN
    by_cases hlt : k < len
    · have hi2 := HI.out.chg (chg_grown A2.out.tp.gr []) (by simp)
      obtain ⟨ab, ao, z, rfl, hz, hc⟩ := hi2.cell hlt
      obtain ⟨x, x0, x1, ex⟩ := umod_int z 200 (by omega)
      replace ex : (IntKind.u64.wrap z).tmod 200 = x := ex
      replace x1 : x < 200 := x1
      clear hi2 hz
      have m2 : (k : Int) < (len : Int) := by omega
      go_wp2_with fail
      clear ex
      obtain ⟨n, hn⟩ : ∃ n : Nat, 1 + x = (n : Int) := ⟨(1 + x).toNat, by omega⟩
      rw [hn]
      have n0 : 1 ≤ n := by omega
      have n1 : n ≤ 200 := by omega
      have n2 : (n : Int) ≤ 200 := by omega
      have n3 : (0 : Int) ≤ (n : Int) := by omega
      obtain ⟨t, ht⟩ : ∃ t, r.top = t := ⟨_, rfl⟩
      have t0 := A2.out.tp.rp.ok.t0; have t1 := A2.out.tp.rp.ok.t1
      rw [ht] at t0 t1 ⊢
      have hmay := rql_may A2.out.ql (n : Int)
      rw [HW.out, ht, Int.toNat_of_nonneg (by omega)] at hmay
      have q1 : decide ((1 : Int) ≤ (n : Int)) = true := by simp; omega
      have q2 : decide ((n : Int) ≤ 1099511627776) = true := by simp; omega
      rw [q1, q2, Bool.true_and, Bool.true_and] at hmay
      have s1 : IntKind.i64.wrap (t - m) = t - m := IntWalk.i64_in _ (by omega)
      have HT := hid ht; have HN := hid hn
      clear hn ht x0 x1 q1 q2
      by_cases hin : (n : Int) ∈ L
      · have hz : r.may n = false := by rw [hmay]; simp [hin]
        have Z := hid hz; clear hz hmay
        refine (A2.out.no n Z.out).mono ?_
        rintro e w2 ⟨rfl, ho⟩
        have A3 := hid ho; clear ho A2
        obtain ⟨c1, f1⟩ := A3.out.cell (i := n) (by omega)
        rw [decide_eq_true hin] at c1
        clear hin
        go_wp2_with fail
        refine (A3.out.mayIs n false Z.out).mono ?_
        rintro e w4 ⟨rfl, ho⟩
        have A5 := hid ho; clear ho A3 c1 f1
        go_wp2_with fail
        refine (A5.out.topIs t HT.out).mono ?_
        rintro e w5 ⟨rfl, ho⟩
        have A6 := hid ho; clear ho A5
        go_wp2_with fail
        go_roundw
        case rel => exact ⟨k + 1, L, r, by omega, by rw [HT.out], by go_num, HW.out, A6.out⟩
        case measure => simp [intOf]; omega
      · by_cases hab : t - m < (n : Int)
        · have hz : r.may n = true := by rw [hmay]; simp [hin, hab]
          have d1 : decide (t - m < (n : Int)) = true := by simpa using hab
          have Z := hid hz; clear hz hmay
          refine (A2.out.mid n Z.out).mono ?_
          rintro e w2 ⟨rfl, ho⟩
          have A3 := hid ho; clear ho
          have htop := hid (rql_put A2.out.ql A2.out.tp.rp.ok Z.out).2
          have hwin2 := hid ((put_win r (n : Int)).trans HW.out)
          clear A2
          obtain ⟨c1, f1⟩ := A3.out.cell (i := n) (by omega)
          rw [decide_eq_false hin] at c1
          have A4 := hid (A3.out.put (i := n) (by omega))
          have hno : (r.put n).may n = false := by rw [rql_may A4.out.ql]; simp
          have NO := hid hno
          clear hin hno
          by_cases g : t < (n : Int)
          · have htn := hid (htop.out.trans (show max r.top (n : Int) = (n : Int) by have := HT.out; omega))
            go_wp2_with fail
            refine (A4.out.mayIs n false NO.out).mono ?_
            rintro e w4 ⟨rfl, ho⟩
            have A5 := hid ho; clear ho A3 A4 c1 f1
            go_wp2_with fail
            refine (A5.out.topIs _ htn.out).mono ?_
            rintro e w5 ⟨rfl, ho⟩
            have A6 := hid ho; clear ho A5
            go_wp2_with fail
            go_roundw
            case rel => exact ⟨k + 1, _, _, by omega, by rw [htn.out], by go_num, hwin2.out, A6.out⟩
            case measure => simp [intOf]; omega
          · have htn := hid (htop.out.trans (show max r.top (n : Int) = t by have := HT.out; omega))
            go_wp2_with fail
            refine (A4.out.mayIs n false NO.out).mono ?_
            rintro e w4 ⟨rfl, ho⟩
            have A5 := hid ho; clear ho A3 A4 c1 f1
            go_wp2_with fail
            refine (A5.out.topIs _ htn.out).mono ?_
            rintro e w5 ⟨rfl, ho⟩
            have A6 := hid ho; clear ho A5
            go_wp2_with fail
            go_roundw
            case rel => exact ⟨k + 1, _, _, by omega, by rw [htn.out], by go_num, hwin2.out, A6.out⟩
            case measure => simp [intOf]; omega
        · have hz : r.may n = false := by rw [hmay]; simp [hin, hab]
          have d1 : decide (t - m < (n : Int)) = false := by simpa using hab
          have Z := hid hz; clear hz hmay
          refine (A2.out.no n Z.out).mono ?_
          rintro e w2 ⟨rfl, ho⟩
          have A3 := hid ho; clear ho A2
          obtain ⟨c1, f1⟩ := A3.out.cell (i := n) (by omega)
          rw [decide_eq_false hin] at c1
          clear hin
          go_wp2_with fail
          refine (A3.out.mayIs n false Z.out).mono ?_
          rintro e w4 ⟨rfl, ho⟩
          have A5 := hid ho; clear ho A3 c1 f1
          go_wp2_with fail
          refine (A5.out.topIs t HT.out).mono ?_
          rintro e w5 ⟨rfl, ho⟩
          have A6 := hid ho; clear ho A5
          go_wp2_with fail
          go_roundw
          case rel => exact ⟨k + 1, L, r, by omega, by rw [HT.out], by go_num, HW.out, A6.out⟩
          case measure => simp [intOf]; omega
    · have hkl : k = len := by omega
      subst hkl
      go_wp2_with fail
      refine (rtold_any _).mono ?_
      rintro e w3 ⟨rfl, hg⟩
      have T2 := hid (A2.out.tp.grown hg); clear hg A2
      go_wp2_with fail
      go_ret
      exact ⟨rfl, T2.out.gr⟩
end once
end Go.Proofs.Ytanlhecjoklhaaa
