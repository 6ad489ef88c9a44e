/-
  Samples of one metric, by who; a score that the call itself made; rows of one row. Contracts: of. What an epoch's end says of plain lists.
-/
import Derived.Test.YtogmibmkkmbgoaaScS
set_option linter.unusedSimpArgs false
set_option linter.unusedVariables false
namespace Go.Proofs.Ytogmibmkkmbgoaa
set_option maxRecDepth 100000
open Go.RowKit

/-- the first k samples of one metric, by who -/
def ofTo (l : List Int) (k : Nat) : List Sm := (List.range k).map fun i : Nat => ⟨(i : Int), 0, 0, l.getD i 0⟩
theorem ofTo_succ {l : List Int} {k : Nat} {x : Int} (h : l[k]? = some x) : ofTo l (k + 1) = ofTo l k ++ [⟨(k : Int), 0, 0, x⟩] := by
  unfold ofTo
  rw [List.range_succ, List.map_append, List.map_singleton, List.getD_eq_getElem?_getD, h]; rfl
theorem ofTo_len (l : List Int) (k : Nat) : (ofTo l k).length = k := by simp [ofTo]
set_option maxHeartbeats 800000 in
theorem of_any12 (v : Value) (l : List Int) (w : World) (hv : IntsAt w v l) (hl : l.length ≤ 1000) :
    Calls Try.prog 23 #[v] w fun e w' => ∃ u, e = .returned u ∧ OwnZ w.heap.size w' u (ofTo l l.length) ∧ w.grownBy w' none := by
  have HI := hid hv
  obtain ⟨p, c, rfl⟩ := hv.form
  obtain ⟨n, hn⟩ : ∃ n, l.length = n := ⟨_, rfl⟩
  have HN := hid hn
  rw [hn] at HI hl ⊢
  clear hv hn
  go_enter Try.func23, Try.ntmps23
  go_wp2_with fail
  go_loopw [3, 4] (fun u i wr => ∃ (k : Nat) (v0 : Value), u = v0 ∧ k ≤ n ∧ i = .int .i64 (k : Int) ∧ OwnZ w.heap.size wr v0 (ofTo l k) ∧ w.grownBy wr none)
    (fun _ i _ => n - (intOf i).toNat)
  case atStart => exact ⟨0, _, rfl, Nat.zero_le _, rfl, OwnZ.nil _ _, .refl _ _⟩
  case round =>
    obtain ⟨k, v0, hv0, hk, rfl, hown, hgr⟩ := hrel
    have hv' := hv0.symm
    clear hv0
    subst hv'
    have HOWN := hid hown
    have HGR := hid hgr
    clear hown hgr
    by_cases hlt : k < n
    · have hkl : k < l.length := by rw [HN.out]; exact hlt
      have hkn : (k : Int) < (n : Int) := by omega
      obtain ⟨ab, ao, rfl, -, hcc, hcell⟩ := (HI.out.grown HGR.out).cell hkl
      have hx := List.getElem?_eq_getElem hkl
      have HX := hid (ofTo_succ hx)
      have HLL := hid (show (ofTo l k).length + [(⟨(k : Int), 0, 0, l[k]⟩ : Sm)].length ≤ 1000000 by rw [ofTo_len, List.length_singleton]; omega)
      generalize l[k] = z at *
      have SM := hid (smp_new wr ⟨(k : Int), 0, 0, z⟩)
      have G1 := hid (gb_alloc HGR.out (.cells #[.int .i64 (k : Int), .int .i64 0, .int .i64 0, .int .i64 z] 40))
      have O1 := hid (HOWN.out.grown (World.grownBy_alloc wr (.cells #[.int .i64 (k : Int), .int .i64 0, .int .i64 0, .int .i64 z] 40) none))
      obtain ⟨pv, cv, rfl⟩ := HOWN.out.form
      rw [ofTo_len] at O1 ⊢
      have HTL := hid (ofTo_len l k)
      clear hx HOWN HGR hkl
      go_wp2_with
        (refine append_smp rfl _ _ rfl w.heap.size _ _ rfl O1.out _ [⟨(k : Int), 0, 0, z⟩] rfl SM.out HLL.out G1.out.size ?_; intro v' w3 hown3 hg3 hat3; have HO3 := hid hown3; have HG3 := hid (gb_ownZ G1.out O1.out (Nat.le_refl _) hg3); clear hown3 hg3 hat3)
      go_roundw
      case rel => exact ⟨k + 1, _, rfl, by omega, by go_num, by rw [HX.out]; exact HO3.out, HG3.out⟩
      case measure => simp [intOf]; omega
    · obtain rfl : k = n := by omega
      have hkn : ¬ (k : Int) < (k : Int) := by omega
      go_wp2_with fail
      go_ret
      exact ⟨_, rfl, HOWN.out, HGR.out⟩

/-- a score that the call itself made -/
structure Sk (w : World) (s : Sc) (b hb : Nat) (W : World) : Prop where
  sat : ScAt s b hb W
  gr : w.grownBy W none
  own : w.heap.size ≤ hb
  ok : s.ok
section
variable {w W W' : World} {s : Sc} {b hb : Nat}
theorem Sk.grown (h : Sk w s b hb W) (hg : W.grownBy W' none) : Sk w s b hb W' := ⟨h.sat.grown hg, gb_trans h.gr hg (.inl rfl), h.own, h.ok⟩
theorem Sk.drew (h : Sk w s b hb W) : Sk w s b hb W.drew := ⟨h.sat.drew, gb_drew h.gr, h.own, h.ok⟩
theorem Sk.alloc (h : Sk w s b hb W) (o : Obj) : Sk w s b hb (W.alloc o) := h.grown (World.grownBy_alloc W o none)
theorem Sk.made (hg : w.grownBy W none) {n : Nat} {st pr far : Int} (hm : MaySc n st pr far) {e : Ending} (h : MadeS W (newS n st pr far) e W') :
    ∃ b hb, e = .returned (.pointer (some ⟨b, 0, none⟩)) ∧ Sk w (newS n st pr far) b hb W' := by
  obtain ⟨b, hb, he, ha, hg', h1, h2⟩ := h
  exact ⟨b, hb, he, ha, gb_trans hg hg' (.inl rfl), Nat.le_trans hg.size h2, newS_ok hm⟩
theorem Sk.after {s' : Sc} (h : Sk w s b hb W) (ha : ScAt s' b hb W') (hc : Chg [hb] W W') (hok : s'.ok) : Sk w s' b hb W' :=
  ⟨ha, ((chg_grown h.gr [hb]).then hc).free (fun x hx => by rw [List.mem_singleton.1 hx]; exact h.own), h.own, hok⟩
/-- the end of an epoch -/
theorem Sk.close (h : Sk w s b hb W) (v : Value) (L : List (Value × List Sm)) (hv : RowsS W v L) (hL : L.length ≤ 1000) (hrow : ∀ x ∈ L, x.2.length ≤ 1000) (q : Int) {s' : Sc} {g : List Int} (h1 : s.close (L.map Prod.snd) q = s') (h2 : s.gone (L.map Prod.snd) q = g) :
    Calls Try.prog 20 #[.pointer (some ⟨b, 0, none⟩), v, .int .i64 q] W fun e w' => ∃ u, e = .returned u ∧ OwnN W.heap.size w' u g ∧ Sk w s' b hb w' ∧ Chg [hb] W w' :=
  (close_any h.sat h.ok v L hv hL hrow q).mono fun e w' ⟨u, he, ho, ha, hc⟩ => ⟨u, he, h2 ▸ ho, h.after (h1 ▸ ha) hc (h1 ▸ Sc.close_ok h.ok _ q), hc⟩
end
/-- a row of rows that holds one row -/
structure Row1 (hb : Nat) (v : Value) (l : List Sm) (x : Nat) (W : World) : Prop where
  own : OwnZ (hb + 1) W v l
  blk : W.heap[x]? = some (.cells #[v] 38)
  lt : hb < x
theorem Row1.chg {hb x : Nat} {v : Value} {l : List Sm} {W W' : World} (h : Row1 hb v l x W) (hc : Chg [hb] W W') : Row1 hb v l x W' :=
  ⟨h.own.chg hc (fun g hg => by have := (h.own.lt g hg).1; simp; omega), hc.at h.blk (by have := h.lt; simp; omega), h.lt⟩
theorem Row1.grown {hb x : Nat} {v : Value} {l : List Sm} {W W' : World} (h : Row1 hb v l x W) (hg : W.grownBy W' none) : Row1 hb v l x W' :=
  ⟨h.own.grown hg, at_grown h.blk hg (by simp), h.lt⟩
theorem Row1.rows {hb x : Nat} {v : Value} {l : List Sm} {W : World} (h : Row1 hb v l x W) : RowsS W (.slice (some ⟨x, 0, none⟩) 1 1) [(v, l)] :=
  .inr ⟨x, 0, 1, rfl, Nat.le_refl _, by unfold maxLen; omega, fun i hi => by
    have : i = 0 := by simpa using hi
    subst this
    exact ⟨at_cell h.blk 0, h.own.reads⟩⟩

/-- what a close leaves -/
def Closed (w : World) (hb b : Nat) (W : World) (s' : Sc) (g : List Int) (e : Ending) (w' : World) : Prop := ∃ p c, e = .returned (.slice p g.length c) ∧ OwnN W.heap.size w' (.slice p g.length c) g ∧ Sk w s' b hb w' ∧ Chg [hb] W w'
theorem Sk.closeN {w W : World} {s s' : Sc} {b hb : Nat} {g : List Int} (h : Sk w s b hb W) {v : Value} {L : List (Value × List Sm)} (hv : RowsS W v L) (hL : L.length ≤ 1000) (hrow : ∀ x ∈ L, x.2.length ≤ 1000) (q : Int) (hc : s.close (L.map Prod.snd) q = s' ∧ s.gone (L.map Prod.snd) q = g) :
    Calls Try.prog 20 #[.pointer (some ⟨b, 0, none⟩), v, .int .i64 q] W (Closed w hb b W s' g) :=
  (h.close v L hv hL hrow q hc.1 hc.2).mono fun e w' ⟨u, he, ho, ha, hc⟩ => by
    obtain ⟨p, c, rfl⟩ := ho.form
    exact ⟨p, c, he, ho, ha, hc⟩
theorem Sk.close1 {w W : World} {s s' : Sc} {b hb x : Nat} {u : Value} {r : List Sm} {g : List Int} (h : Sk w s b hb W) (hR : Row1 hb u r x W) (hr : r.length ≤ 1000) (q : Int) (hc : s.close [r] q = s' ∧ s.gone [r] q = g) :
    Calls Try.prog 20 #[.pointer (some ⟨b, 0, none⟩), .slice (some ⟨x, 0, none⟩) 1 1, .int .i64 q] W (Closed w hb b W s' g) :=
  h.closeN hR.rows (by simp) (by intro y hy; rw [List.mem_singleton.1 hy]; exact hr) q hc
theorem Sk.close0 {w W : World} {s s' : Sc} {b hb : Nat} {g : List Int} (h : Sk w s b hb W) (q : Int) (hc : s.close [] q = s' ∧ s.gone [] q = g) :
    Calls Try.prog 20 #[.pointer (some ⟨b, 0, none⟩), .slice none 0 0, .int .i64 q] W (Closed w hb b W s' g) :=
  h.closeN (RowsS.nil W) (by simp) (by simp) q hc
/-- a slice of the call's own that was told, beside a score -/
theorem OwnN.past {hb base : Nat} {W W' : World} {v : Value} {l : List Int} (h : OwnN base W v l) (hc : Chg [hb] W W') (hb' : hb < base) : OwnN base W' v l :=
  h.chg hc (fun g hg hm => by have := (h.at g hg).1; rw [List.mem_singleton.1 hm] at this; omega)
theorem Sk.below {w W : World} {s : Sc} {b hb : Nat} (h : Sk w s b hb W) : hb < W.heap.size := h.sat.lt.2
/-- what an epoch's end says of plain lists -/
theorem rk_mono (l : List Int) {x y : Int} (h : x ≤ y) : rk l x ≤ rk l y := by
  unfold rk
  exact List.countP_mono_left fun z _ hz => by simp at *; omega
theorem med_is {l : List Int} {x : Int} (hm : mayL l = true) (hp : 0 < l.length) (h1 : rk l x ≤ (l.length - 1) / 2) (h2 : (l.length - 1) / 2 < rk l (x + 1)) : medOf l = (x, true) := by
  unfold medOf
  have hk : (l.length - 1) / 2 < (ms l).length := by rw [ms_len]; omega
  rw [if_pos hm, show ((l.length : Int) - 1).tdiv 2 = (((l.length - 1) / 2 : Nat) : Int) by rw [Int.tdiv_eq_ediv_of_nonneg (by omega)]; omega, atOf_in _ _ hk]
  have a1 := rk_kth l _ hk
  have a2 := rk_above l _ hk
  generalize (ms l)[(l.length - 1) / 2]'hk = z at *
  have : z = x := by
    rcases Int.lt_trichotomy z x with h | h | h
    · have := a2 x h; omega
    · exact h
    · have := rk_mono l (show x + 1 ≤ z by omega); omega
  rw [this]
theorem midS_is {r : List Sm} {q m : Int} (hq : q ≤ (r.length : Int) ∧ 0 < (r.length : Int)) (h : medOf (r.map Sm.val) = (m, true)) : midS r q = (m, true) := by
  unfold midS; rw [if_pos hq, h]
theorem markM_of {s : Sc} {q m : Int} {mk mk' : List Int} {row r : List Sm} (h1 : heardL s.H row = r) (h2 : midS r q = (m, true)) (h3 : markR s.far m mk r = mk') : markM s q mk row = mk' := by
  unfold markM; rw [h1, h2, if_pos rfl, h3]
theorem markM_no {s : Sc} {q : Int} {mk : List Int} {row r : List Sm} (h1 : heardL s.H row = r) (h2 : (r.length : Int) < q) : markM s q mk row = mk := by
  have : midS r q = (0, false) := by unfold midS; rw [if_neg (by omega)]
  unfold markM; rw [h1, this]; rfl
theorem close_of {s : Sc} {L : List (List Sm)} {q : Int} {mk : List Int} {H : List Hd} {g : List Int} (h1 : marksL s q L = mk) (h2 : runTo s.st s.pr mk s.H s.H.length = (H, g)) : s.close L q = ⟨H, s.st, s.pr, s.far⟩ ∧ s.gone L q = g := by
  unfold Sc.close Sc.gone; rw [h1, h2]; exact ⟨rfl, rfl⟩
theorem marks_none (s : Sc) (q : Int) : marksL s q [] = List.replicate s.H.length 0 := rfl
theorem marks_one {s : Sc} {q : Int} {row : List Sm} {mk : List Int} (h : markM s q (List.replicate s.H.length 0) row = mk) : marksL s q [row] = mk := h
end Go.Proofs.Ytogmibmkkmbgoaa
