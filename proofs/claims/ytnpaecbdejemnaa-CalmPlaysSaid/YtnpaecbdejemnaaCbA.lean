/-
  Contracts for the document's Calm: the object, its inner functions, New, Set. The condition of a call: the object lies there, a slice reads as numbers.
-/
import Derived.Test.YtnpaecbdejemnaaCaE
set_option linter.unusedSimpArgs false
set_option linter.unusedVariables false
namespace Go.Proofs.Ytnpaecbdejemnaa
set_option maxRecDepth 100000
open Go.RowKit

theorem ints_chg {w w' : World} {G : List Nat} {v : Value} {l : List Int} (h : IntsAt w v l) (hc : Chg G w w') (hb : ∀ a n c, v = .slice (some a) n c → a.block ∉ G) : IntsAt w' v l := by
  rcases h with h | ⟨a, cap, rfl, h1, h2, h3⟩
  · exact .inl h
  · refine .inr ⟨a, cap, rfl, h1, h2, fun i hi => hc.cell (h3 i hi) ?_⟩
    have e1 : (a.add i).block = a.block := by unfold Addr.add; split <;> rfl
    rw [e1]; exact hb a _ _ rfl
/-- the document's, its list in a block that is none of F -/
structure CbAt (w : World) (F : List Nat) (b : Nat) (c : Ca) : Prop where
  row : ∃ (p : Option Addr) (k : Nat), w.heap[b]? = some (.cells #[.int .i64 (c.up : Int), .int .i64 (c.down : Int), .slice p c.l.length k] 35) ∧ IntsAt w (.slice p c.l.length k) c.l ∧ (∀ a, p = some a → a.block ∉ F)
  inF : b ∈ F
  lt : ∀ x ∈ F, x < w.heap.size
  ok : c.Ok
section
variable {w w' : World} {F G : List Nat} {b : Nat} {c c' : Ca}
theorem CbAt.chg (H : CbAt w F b c) (hc : Chg G w w') (hG : ∀ x ∈ G, x ∈ F) (hb : b ∉ G) : CbAt w' F b c := by
  obtain ⟨⟨p, k, h1, h2, h3⟩, h4, h5, h6⟩ := H
  exact ⟨⟨p, k, hc.at h1 hb, ints_chg h2 hc (fun a n c e hm => by cases e; exact h3 a rfl (hG _ hm)), h3⟩, h4, fun x hx => Nat.lt_of_lt_of_le (h5 x hx) hc.size, h6⟩
theorem CbAt.grown (H : CbAt w F b c) (hg : w.grownBy w' none) : CbAt w' F b c := H.chg (chg_grown hg []) (by simp) (by simp)
theorem CbAt.drew (H : CbAt w F b c) : CbAt w.drew F b c := ⟨H.row, H.inF, H.lt, H.ok⟩
theorem CbAt.cells (H : CbAt w F b c) : w.cell? ⟨b, 0, none⟩ = some (.int .i64 (c.up : Int)) ∧ w.cell? ⟨b, 1, none⟩ = some (.int .i64 (c.down : Int)) ∧ ∀ k, w.frozen? ⟨b, k, none⟩ = false := by
  obtain ⟨⟨p, k, h1, -, -⟩, -⟩ := H
  exact ⟨at_cell h1 0, at_cell h1 1, fun k => at_free h1 k⟩
/-- another list in the block -/
theorem CbAt.put (H : CbAt w F b c) {p : Option Addr} {k : Nat} {l : List Int} (hl : IntsAt w (.slice p l.length k) l) (hp : ∀ a, p = some a → a.block ∉ F) (ho : ({ c with l := l } : Ca).Ok) :
    CbAt (w.setCell ⟨b, 2, none⟩ (.slice p l.length k)) F b { c with l := l } ∧ Chg [b] w (w.setCell ⟨b, 2, none⟩ (.slice p l.length k)) := by
  have hc : Chg [b] w (w.setCell ⟨b, 2, none⟩ (.slice p l.length k)) := (chg_refl w [b]).set (.inl (by simp)) _
  obtain ⟨⟨q, m, h1, -, -⟩, h4, h5, h6⟩ := H
  refine ⟨⟨⟨p, k, ?_, ints_chg hl hc (fun a n c e hm => by cases e; rw [List.mem_singleton] at hm; exact hp a rfl (hm ▸ h4)), hp⟩, h4, fun x hx => Nat.lt_of_lt_of_le (h5 x hx) hc.size, ho⟩, hc⟩
  rw [at_set h1]; rfl
end
theorem rmillion_any (x : Int) (w : World) :
    Calls Try.prog 31 #[.int .i64 x] w fun e w' => e = .returned (.int .i64 (mill x)) ∧ w = w' := by
  unfold mill
  go_enter Try.func31, Try.ntmps31
  go_wp2_with fail
  all_goals go_ret
  all_goals exact ⟨congrArg (fun z => Ending.returned (.int .i64 z)) (by omega), rfl⟩
theorem rmost_any {F : List Nat} {b : Nat} {c : Ca} {w : World} (H : CbAt w F b c) :
    Calls Try.prog 29 #[.pointer (some ⟨b, 0, none⟩)] w fun e w' => e = .returned (.int .i64 (c.most : Int)) ∧ w.grownBy w' none := by
  obtain ⟨c0, c1, fz⟩ := H.cells
  have hu := H.ok.u; have hd := H.ok.d
  clear H
  have hm : (c.most : Int) = max (c.up : Int) (c.down : Int) + 1 := by unfold Ca.most; omega
  generalize c.most = m at *
  go_enter Try.func29, Try.ntmps29
  go_wp2_with fail
  go_quiet (fail)
  go_wp2_with fail
  all_goals go_ret
  all_goals exact ⟨congrArg (fun z => Ending.returned (.int .i64 z)) (by omega), ⟨rfl, rfl, rfl, Nat.le_refl _, fun _ _ _ => rfl⟩⟩
theorem rlast_any (ab ao n c k : Nat) (h1 : 1 ≤ n) (h2 : 1 ≤ k) (h3 : n ≤ c) (h4 : n ≤ 1000) (h5 : k ≤ 1000) (w : World) :
    Calls Try.prog 30 #[.slice (some ⟨ab, ao, none⟩) n c, .int .i64 (k : Int)] w fun e w' => e = .returned (.slice (some ⟨ab, ao + (n - k), none⟩) (n - (n - k)) (c - (n - k))) ∧ w = w' := by
  go_enter Try.func30, Try.ntmps30
  go_wp2_with fail
  all_goals go_ret
  all_goals first
  | exact ⟨rfl, rfl⟩
  | (rw [show n - k = (max ((n : Int) - (k : Int)) 0).toNat by omega]; exact ⟨rfl, rfl⟩)
theorem rnew_nil (u d : Int) (h : ¬ (0 ≤ u ∧ u ≤ 60 ∧ 0 ≤ d ∧ d ≤ 60)) (w : World) :
    Calls Try.prog 13 #[.int .i64 u, .int .i64 d] w fun e w' => e = .returned (.pointer none) ∧ w = w' := by
  by_cases h1 : u < 0
  · have d1 : decide (u < 0) = true := by simpa using h1
    clear h
    go_enter Try.func13, Try.ntmps13
    go_wp2_with fail
    go_ret
    exact ⟨rfl, rfl⟩
  have d1 : decide (u < 0) = false := by simpa using h1
  by_cases h2 : 60 < u
  · have d2 : decide (60 < u) = true := by simpa using h2
    clear h
    go_enter Try.func13, Try.ntmps13
    go_wp2_with fail
    go_ret
    exact ⟨rfl, rfl⟩
  have d2 : decide (60 < u) = false := by simpa using h2
  by_cases h3 : d < 0
  · have d3 : decide (d < 0) = true := by simpa using h3
    clear h
    go_enter Try.func13, Try.ntmps13
    go_wp2_with fail
    go_ret
    exact ⟨rfl, rfl⟩
  have d3 : decide (d < 0) = false := by simpa using h3
  have d4 : decide (60 < d) = true := by simp; omega
  clear h
  go_enter Try.func13, Try.ntmps13
  go_wp2_with fail
  go_ret
  exact ⟨rfl, rfl⟩
theorem rnew_ok (u d : Nat) (hu : u ≤ 60) (hd : d ≤ 60) (F : List Nat) (w : World) (hF : ∀ x ∈ F, x < w.heap.size) :
    Calls Try.prog 13 #[.int .i64 (u : Int), .int .i64 (d : Int)] w fun e w' => ∃ b, e = .returned (.pointer (some ⟨b, 0, none⟩)) ∧ CbAt w' (b :: F) b ⟨u, d, []⟩ ∧ w.grownBy w' none ∧ w.heap.size ≤ b := by
  have L := hid (show CbAt (w.alloc (.cells #[.int .i64 (u : Int), .int .i64 (d : Int), .slice none 0 0] 35)) (w.heap.size :: F) w.heap.size ⟨u, d, []⟩ from
    ⟨⟨none, 0, at_new w _, .nil _, fun a e => by cases e⟩, List.mem_cons_self .., fun x hx => by
      rw [size_la]
      rcases List.mem_cons.1 hx with rfl | hx
      · exact Nat.lt_succ_self _
      · exact Nat.lt_succ_of_lt (hF x hx), ⟨hu, hd, Nat.zero_le _, fun x hx => by cases hx⟩⟩)
  have d1 : decide ((u : Int) < 0) = false := decide_eq_false (by omega)
  have d2 : decide ((60 : Int) < (u : Int)) = false := by simp; omega
  have d3 : decide ((d : Int) < 0) = false := decide_eq_false (by omega)
  have d4 : decide ((60 : Int) < (d : Int)) = false := by simp; omega
  have e2 : ¬ 60 < u := by omega
  have e4 : ¬ 60 < d := by omega
  clear hF
  go_enter Try.func13, Try.ntmps13
  go_wp2_with fail
  go_ret
  exact ⟨_, rfl, L.out, gb_alloc (.refl w none) _, Nat.le_refl _⟩
/-- a list of the call's own, ahead of its store -/
theorem own_put {F : List Nat} {b : Nat} {c : Ca} {w w1 w' : World} {v' : Value} {l : List Int} (H : CbAt w F b c) (hg : w.grownBy w1 none) (he : OwnN w1.heap.size (w1.alloc (.cells #[] 3)) (.slice (some ⟨w1.heap.size, 0, none⟩) 0 0) [])
    (hown : OwnN w1.heap.size w' v' ([] ++ l)) (hgrow : (w1.alloc (.cells #[] 3)).grownBy w' (Value.slice (some ⟨w1.heap.size, 0, none⟩) 0 0).ownBlock) (ho : ({ c with l := l } : Ca).Ok) :
    ∃ p k, v' = .slice p l.length k ∧ (∃ x, w'.cell? ⟨b, 2, none⟩ = some x) ∧ w'.frozen? ⟨b, 2, none⟩ = false ∧ CbAt (w'.setCell ⟨b, 2, none⟩ (.slice p l.length k)) F b { c with l := l } ∧ Chg [b] w (w'.setCell ⟨b, 2, none⟩ (.slice p l.length k)) := by
  rw [List.nil_append] at hown
  have GW := gb_ownN (gb_alloc (.refl w1 none) _) he (Nat.le_refl _) hgrow
  have GG := gb_trans hg GW (.inl rfl)
  have CB := H.grown GG
  obtain ⟨p, k, rfl⟩ := hown.form
  have PB : ∀ a, p = some a → a.block ∉ F := fun a e hm => by
    subst e
    have h1 := (hown.at a.block (by simp [ownL, Value.ownBlock])).1
    have h2 := H.lt _ hm
    have h3 := hg.size
    omega
  have FIN := CB.put hown.ints PB ho
  obtain ⟨⟨q, m, h1, -, -⟩, -⟩ := CB
  exact ⟨p, k, rfl, ⟨_, at_cell h1 2⟩, at_free h1 2, FIN.1, (chg_grown GG [b]).then FIN.2⟩
def SettedR (w : World) (F : List Nat) (b : Nat) (c : Ca) (l : List Int) (e : Ending) (w' : World) : Prop :=
  (c.mayset l = true ∧ e = .returned (.int .i64 0) ∧ CbAt w' F b { c with l := l } ∧ Chg [b] w w') ∨ (c.mayset l = false ∧ e = .returned (.int .i64 1) ∧ w.grownBy w' none)
set_option maxHeartbeats 1600000 in
theorem rset_any {F : List Nat} {b : Nat} {c : Ca} (v : Value) (l : List Int) {w : World} (H : CbAt w F b c) (hv : IntsAt w v l) (hmax : l.length ≤ 999999) :
    Calls Try.prog 14 #[.pointer (some ⟨b, 0, none⟩), v] w (SettedR w F b c l) := by
  have HV := hid hv; have HH := hid H
  obtain ⟨p, cc, rfl⟩ := hv.form
  obtain ⟨n, hn⟩ : ∃ n, l.length = n := ⟨_, rfl⟩
  have HN := hid hn
  have HM := hid (most_le H.ok)
  rw [hn] at HV hmax ⊢
  clear hv hn H
  go_enter Try.func14, Try.ntmps14
  go_wp2_with fail
  go_loopw [5] (fun i wr => ∃ k : Nat, k ≤ n ∧ i = .int .i64 (k : Int) ∧ (∀ (j : Nat) (x : Int), j < k → l[j]? = some x → okC x = true) ∧ w = wr) (fun i _ => n - (intOf i).toNat)
  case atStart => exact ⟨0, Nat.zero_le _, rfl, fun j x hj => absurd hj (Nat.not_lt_zero _), rfl⟩
  case round =>
    obtain ⟨k, hk, rfl, ha, rfl⟩ := hrel
    have HA := hid ha; clear ha
    by_cases hlt : k < n
    · have hkl : k < l.length := by rw [HN.out]; exact hlt
      obtain ⟨ab, ao, rfl, -, hcc, hcell⟩ := HV.out.cell hkl
      have hx := List.getElem?_eq_getElem hkl
      generalize l[k] = y at *
      have HX := hid hx; clear hx
      have ilt : (k : Int) < (n : Int) := by omega
      by_cases h0 : y < 0
      · have hms := hid (show c.mayset l = false by rw [mayset_eq, all_hit HX.out (show okC y = false by unfold okC; rw [decide_eq_false (by omega), Bool.false_and]), Bool.and_false])
        go_wp2_with fail
        go_ret
        exact .inr ⟨hms.out, rfl, .refl w none⟩
      by_cases h1 : 1000000 < y
      · have hms := hid (show c.mayset l = false by rw [mayset_eq, all_hit HX.out (show okC y = false by unfold okC; rw [decide_eq_false (show ¬ y ≤ 1000000 by omega), Bool.and_false]), Bool.and_false])
        go_wp2_with fail
        go_ret
        exact .inr ⟨hms.out, rfl, .refl w none⟩
      have HY := hid (show okC y = true by unfold okC; rw [decide_eq_true (show 0 ≤ y by omega), decide_eq_true (show y ≤ 1000000 by omega)]; rfl)
      go_wp2_with fail
      go_roundw
      case rel => exact ⟨k + 1, by omega, by go_num, fun j x hj hjx => by
        rcases Nat.lt_or_ge j k with h1 | h1
        · exact HA.out j x h1 hjx
        · obtain rfl : j = k := by omega
          rw [HX.out] at hjx; cases hjx; exact HY.out, trivial⟩
      case measure => simp [intOf]; omega
    · obtain rfl : k = n := by omega
      have HALL := hid (all_none (l := l) fun i x hi => HA.out i x (by rw [← HN.out]; exact hi))
      have R := hid (rmost_any HH.out)
      obtain ⟨m, hm⟩ : ∃ m, c.most = m := ⟨_, rfl⟩
      rw [hm] at R HM
      have HMM := hid hm; clear hm hlt hk HA
      by_cases h1 : m < k
      · have i1 : (m : Int) < (k : Int) := by omega
        have hms := hid (show c.mayset l = false by rw [mayset_eq, HN.out, HMM.out, decide_eq_false (by omega), Bool.false_and])
        go_wp2_with fail
        refine R.out.mono ?_
        rintro e w1 ⟨rfl, hg⟩
        have G1 := hid hg; clear hg
        go_wp2_with fail
        go_ret
        exact .inr ⟨hms.out, rfl, G1.out⟩
      · have i1 : ¬ (m : Int) < (k : Int) := by omega
        have hms := hid (show c.mayset l = true by rw [mayset_eq, HN.out, HMM.out, decide_eq_true (by omega), HALL.out]; rfl)
        go_wp2_with fail
        refine R.out.mono ?_
        rintro e w1 ⟨rfl, hg⟩
        have G1 := hid hg; clear hg
        have HE := hid (OwnN.empty w1)
        have HB := hid ((HV.out.grown G1.out).alloc (.cells #[] 3))
        go_wp2_with (refine append_nums rfl _ _ rfl w1.heap.size _ [] rfl HE.out _ l rfl HB.out (by rw [HN.out]; simp; omega) (gb_size (gb_alloc (.refl w1 none) _)) ?_; intro v' w' hown hgrow hat; obtain ⟨p1, q1, rfl, ⟨x2, c2⟩, f2, hfin⟩ := own_put HH.out G1.out HE.out hown hgrow (set_ok HH.out.ok hms.out); rw [HN.out] at hfin ⊢; have HF := hid hfin; clear hown hgrow hat hfin)
        go_ret
        exact .inl ⟨hms.out, rfl, HF.out⟩
end Go.Proofs.Ytnpaecbdejemnaa
