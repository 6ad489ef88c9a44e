/-
  The walk of the statement TableOrder: in whatever order samples come, the same are there, in one order. No condition.
-/
import Derived.Test.YtjjcnojckbeekaaTbN
import Derived.Test.YtjjcnojckbeekaaUmi
import Derived.Test.YtjjcnojckbeekaaGrid
import Derived.Deep.RegionHeld3
set_option linter.unusedSimpArgs false
set_option linter.unusedVariables false
namespace Go.Proofs.Ytjjcnojckbeekaa.tborder
set_option maxRecDepth 100000
open Go.RowKit

/-- a change that meets neither of the table's blocks -/
theorem side {w W W' : World} {n m f : Int} {L : List Sm} {b mb : Nat} {F : List Nat} (h : Tk w n m f L b mb W) (hc : Chg F W W') (hF : ∀ x ∈ F, x ≠ b ∧ x ≠ mb ∧ w.heap.size ≤ x) : Tk w n m f L b mb W' :=
  ⟨h.tb.chg hc (fun k => (hF _ k).1 rfl) (fun k => (hF _ k).2.1 rfl), ((chg_grown h.gr F).then hc).free (fun x hx => (hF x hx).2.2), h.lo⟩
/-- what both tables hold, and where -/
structure Two (w : World) (base : Nat) (A B : List Sm) (a ma b mb : Nat) (v : Value) (l : List Sm) (W : World) : Prop where
  ta : Tk w 8 3 4 A a ma W
  tb : Tk w 8 3 4 B b mb W
  ne : a ≠ mb ∧ ma ≠ mb ∧ b ≠ ma
  lo : a < base ∧ ma < base ∧ b < base ∧ mb < base
  own : OwnZ base W v l
  le : base ≤ W.heap.size
section
variable {w W W' : World} {base : Nat} {A B A' B' l l' : List Sm} {a ma b mb : Nat} {v v' : Value}
theorem Two.grown (h : Two w base A B a ma b mb v l W) (hg : W.grownBy W' none) : Two w base A B a ma b mb v l W' := ⟨h.ta.grown hg, h.tb.grown hg, h.ne, h.lo, h.own.grown hg, Nat.le_trans h.le hg.size⟩
theorem Two.drew (h : Two w base A B a ma b mb v l W) : Two w base A B a ma b mb v l W.drew := ⟨h.ta.drew, h.tb.drew, h.ne, h.lo, h.own.drew, h.le⟩
theorem Two.alloc (h : Two w base A B a ma b mb v l W) (o : Obj) : Two w base A B a ma b mb v l (W.alloc o) := h.grown (World.grownBy_alloc W o none)
theorem Two.puta (h : Two w base A B a ma b mb v l W) (ht : Tk w 8 3 4 A' a ma W') (hc : Chg [ma] W W') : Two w base A' B a ma b mb v l W' :=
  ⟨ht, side h.tb hc (fun x hx => by simp only [List.mem_singleton] at hx; subst hx; exact ⟨fun e => h.ne.2.2 e.symm, h.ne.2.1, h.ta.lo.2⟩), h.ne, h.lo, h.own.chg hc (fun g hg => by have := (h.own.lt g hg).1; have := h.lo; simp only [List.mem_singleton]; omega), Nat.le_trans h.le hc.size⟩
theorem Two.putb (h : Two w base A B a ma b mb v l W) (ht : Tk w 8 3 4 B' b mb W') (hc : Chg [mb] W W') : Two w base A B' a ma b mb v l W' :=
  ⟨side h.ta hc (fun x hx => by simp only [List.mem_singleton] at hx; subst hx; exact ⟨fun e => h.ne.1 e.symm, fun e => h.ne.2.1 e.symm, h.tb.lo.2⟩), ht, h.ne, h.lo, h.own.chg hc (fun g hg => by have := (h.own.lt g hg).1; have := h.lo; simp only [List.mem_singleton]; omega), Nat.le_trans h.le hc.size⟩
theorem Two.app (h : Two w base A B a ma b mb v l W) (ho : OwnZ base W' v' l') (hg : W.grownBy W' v.ownBlock) : Two w base A B a ma b mb v' l' W' := by
  have hc : Chg v.ownBlock.toList W W' := by
    cases hv : v.ownBlock with
    | none => rw [hv] at hg; exact chg_grown hg _
    | some g => rw [hv] at hg; exact chg_row hg
  have hx : ∀ x ∈ v.ownBlock.toList, base ≤ x := fun x hx => by
    cases hv : v.ownBlock with
    | none => rw [hv] at hx; cases hx
    | some g =>
      rw [hv] at hx
      simp only [Option.toList_some, List.mem_singleton] at hx
      subst hx
      exact (h.own.lt _ hv).1
  have hl := h.lo
  have h1 := h.ta.lo
  exact ⟨side h.ta hc (fun x k => by have := hx x k; omega), side h.tb hc (fun x k => by have := hx x k; omega), h.ne, h.lo, ho, Nat.le_trans h.le hc.size⟩
end
/-- two samples beside each other, below the blocks that are made -/
structure Ei (g o j K base : Nat) (xw xm xe xv yw ym ye yv : Int) (W : World) : Prop where
  x0 : W.cell? ⟨g, o + j * 4, none⟩ = some (.int .i64 xw)
  x1 : W.cell? ⟨g, o + j * 4 + 1, none⟩ = some (.int .i64 xm)
  x2 : W.cell? ⟨g, o + j * 4 + 2, none⟩ = some (.int .i64 xe)
  x3 : W.cell? ⟨g, o + j * 4 + 3, none⟩ = some (.int .i64 xv)
  y0 : W.cell? ⟨g, o + K * 4, none⟩ = some (.int .i64 yw)
  y1 : W.cell? ⟨g, o + K * 4 + 1, none⟩ = some (.int .i64 ym)
  y2 : W.cell? ⟨g, o + K * 4 + 2, none⟩ = some (.int .i64 ye)
  y3 : W.cell? ⟨g, o + K * 4 + 3, none⟩ = some (.int .i64 yv)
  lt : g < base
section
variable {g o j K base : Nat} {xw xm xe xv yw ym ye yv : Int} {W : World}
theorem Ei.chg {W' : World} {F : List Nat} (h : Ei g o j K base xw xm xe xv yw ym ye yv W) (hc : Chg F W W') (hF : g ∉ F) : Ei g o j K base xw xm xe xv yw ym ye yv W' :=
  ⟨hc.cell h.x0 hF, hc.cell h.x1 hF, hc.cell h.x2 hF, hc.cell h.x3 hF, hc.cell h.y0 hF, hc.cell h.y1 hF, hc.cell h.y2 hF, hc.cell h.y3 hF, h.lt⟩
theorem Ei.drew (h : Ei g o j K base xw xm xe xv yw ym ye yv W) : Ei g o j K base xw xm xe xv yw ym ye yv W.drew := h.chg (chg_refl W []).drew (by simp)
theorem Ei.alloc (h : Ei g o j K base xw xm xe xv yw ym ye yv W) (ob : Obj) : Ei g o j K base xw xm xe xv yw ym ye yv (W.alloc ob) := h.chg ((chg_refl W []).alloc ob) (by simp)
theorem Ei.set (h : Ei g o j K base xw xm xe xv yw ym ye yv W) {p : Addr} (hp : base ≤ p.block) (v : Value) : Ei g o j K base xw xm xe xv yw ym ye yv (W.setCell p v) :=
  h.chg (F := [p.block]) ((chg_refl W _).set (.inl (by simp)) v) (by have := h.lt; simp only [List.mem_singleton]; omega)
theorem Ei.keep (h : Ei g o j K base xw xm xe xv yw ym ye yv W) : W.cell? ⟨g, o + j * 4, none⟩ = some (.int .i64 xw) ∧ W.cell? ⟨g, o + j * 4 + 1, none⟩ = some (.int .i64 xm) ∧ W.cell? ⟨g, o + j * 4 + 2, none⟩ = some (.int .i64 xe) ∧ W.cell? ⟨g, o + j * 4 + 3, none⟩ = some (.int .i64 xv) ∧ W.cell? ⟨g, o + K * 4, none⟩ = some (.int .i64 yw) ∧ W.cell? ⟨g, o + K * 4 + 1, none⟩ = some (.int .i64 ym) ∧ W.cell? ⟨g, o + K * 4 + 2, none⟩ = some (.int .i64 ye) ∧ W.cell? ⟨g, o + K * 4 + 3, none⟩ = some (.int .i64 yv) ∧ Ei g o j K base xw xm xe xv yw ym ye yv W :=
  ⟨h.x0, h.x1, h.x2, h.x3, h.y0, h.y1, h.y2, h.y3, h⟩
end
/-- what may be put into the second table, whatever is there but its place -/
def Good (s : Sm) : Prop := AdmT 8 3 s ∧ 0 ≤ s.ep ∧ s.ep < 4
theorem may_good {L : List Sm} {s : Sm} (h : Good s) (hn : ¬ There L s.pl) : mayT 8 3 4 L s 0 = 0 := by
  unfold mayT
  obtain ⟨h1, h2, h3⟩ := h
  rw [if_neg (fun k => k h1), if_neg (fun k => k ⟨h2, by omega⟩), if_neg hn]
theorem put_good {L : List Sm} {s : Sm} (h : Good s) (hn : ¬ There L s.pl) : putT 8 3 4 L s 0 = ins s L := by unfold putT; rw [if_pos (may_good h hn)]
/-- the first table, and what was put into it in turn -/
structure Row (A l : List Sm) : Prop where
  perm : A.Perm l
  good : ∀ s ∈ l, Good s
theorem Row.snoc {A l : List Sm} (h : Row A l) {s : Sm} (hs : Good s) : Row (ins s A) (l ++ [s]) :=
  ⟨(ins_perm s A).trans ((h.perm.cons s).trans (List.perm_append_comm (l₁ := [s]))), fun x hx => by
    rcases List.mem_append.1 hx with hx | hx
    · exact h.good x hx
    · simp only [List.mem_singleton] at hx; subst hx; exact hs⟩
theorem may_twice' {L : List Sm} {s : Sm} (h : Good s) (hn : There L s.pl) : mayT 8 3 4 L s 0 = 8 := by
  unfold mayT
  obtain ⟨h1, h2, h3⟩ := h
  rw [if_neg (fun k => k h1), if_neg (fun k => k ⟨h2, by omega⟩), if_pos hn]
theorem put_twice {L : List Sm} {s : Sm} (h : Good s) (hn : There L s.pl) : putT 8 3 4 L s 0 = L := by unfold putT; rw [if_neg (by rw [may_twice' h hn]; decide)]
theorem turn_inj {M Q j k : Nat} (hj : j < k) (hk : k < M) : (j + Q) % M ≠ (k + Q) % M := by
  intro e
  have h := Nat.sub_mod_eq_zero_of_mod_eq e.symm
  rw [show k + Q - (j + Q) = k - j by omega, Nat.mod_eq_of_lt (by omega)] at h
  omega
theorem turn_onto {M Q i : Nat} (hi : i < M) : ∃ j, j < M ∧ (j + Q) % M = i := by
  refine ⟨(i + (M - Q % M)) % M, Nat.mod_lt _ (by omega), ?_⟩
  have h1 := Nat.mod_lt Q (show 0 < M by omega)
  have h2 := Nat.mod_add_div Q M
  rw [Nat.mod_add_mod]
  rw [show i + (M - Q % M) + Q = i + M * (Q / M + 1) by rw [Nat.mul_add, Nat.mul_one]; omega, Nat.add_mul_mod_self_left, Nat.mod_eq_of_lt hi]
theorem Row.places {A l : List Sm} (h : Row A l) (hS : Srt A) : (l.map Sm.pl).Nodup := (h.perm.map Sm.pl).nodup_iff.1 hS.places
theorem Row.apart {A l : List Sm} (h : Row A l) (hS : Srt A) {i j : Nat} {x y : Sm} (hx : l[i]? = some x) (hy : l[j]? = some y) (e : x.pl = y.pl) : i = j := by
  obtain ⟨hi, rfl⟩ := List.getElem?_eq_some_iff.1 hx
  obtain ⟨hj, rfl⟩ := List.getElem?_eq_some_iff.1 hy
  have hn := List.pairwise_iff_getElem.1 (h.places hS)
  rcases Nat.lt_trichotomy i j with hij | rfl | hij
  · exact absurd (by rw [List.getElem_map, List.getElem_map]; exact e) (hn i j (by simpa using hi) (by simpa using hj) hij)
  · rfl
  · exact absurd (by rw [List.getElem_map, List.getElem_map]; exact e.symm) (hn j i (by simpa using hj) (by simpa using hi) hij)
theorem srt_step {L : List Sm} (h : Srt L) {j : Nat} (h0 : j < L.length) (h1 : j + 1 < L.length) : PlLt L[j].pl L[j + 1].pl := List.pairwise_iff_getElem.1 h j (j + 1) h0 h1 (Nat.lt_succ_self j)
/-- what the second table holds behind k steps -/
def Turned (B l : List Sm) (Q k : Nat) : Prop := ∀ x, x ∈ B ↔ ∃ j, j < k ∧ l[(j + Q) % l.length]? = some x
theorem Turned.zero (l : List Sm) (Q : Nat) : Turned [] l Q 0 := fun x => ⟨fun h => (by cases h), fun ⟨j, hj, _⟩ => absurd hj (Nat.not_lt_zero j)⟩
theorem Turned.step {B l : List Sm} {Q k : Nat} {s : Sm} (h : Turned B l Q k) (hs : l[(k + Q) % l.length]? = some s) : Turned (ins s B) l Q (k + 1) := fun x => by
  rw [mem_ins, h x]
  constructor
  · rintro (rfl | ⟨j, hj, e⟩)
    · exact ⟨k, by omega, hs⟩
    · exact ⟨j, by omega, e⟩
  · rintro ⟨j, hj, e⟩
    by_cases hjk : j = k
    · subst hjk
      rw [hs] at e
      exact .inl (Option.some.inj e).symm
    · exact .inr ⟨j, by omega, e⟩
theorem Turned.new {A B l : List Sm} {Q k : Nat} {s : Sm} (h : Turned B l Q k) (hr : Row A l) (hS : Srt A) (hk : k < l.length) (hs : l[(k + Q) % l.length]? = some s) : ¬ There B s.pl := by
  rintro ⟨x, hx, e⟩
  obtain ⟨j, hj, hxj⟩ := (h x).1 hx
  exact turn_inj hj hk (hr.apart hS hxj hs e)
theorem Turned.all {A B l : List Sm} {Q : Nat} (h : Turned B l Q l.length) (hr : Row A l) (ha : Srt A) (hb : Srt B) : B = A := by
  refine hb.ext ha fun x => ?_
  rw [h x, hr.perm.mem_iff]
  constructor
  · rintro ⟨j, _, e⟩
    exact List.mem_of_getElem? e
  · intro hx
    obtain ⟨i, hi, rfl⟩ := List.getElem_of_mem hx
    obtain ⟨j, hj, e⟩ := turn_onto (Q := Q) hi
    exact ⟨j, hj, by rw [e]; exact List.getElem?_eq_getElem hi⟩
set_option maxHeartbeats 6400000 in
theorem walk {w : World} (n : Nat) (f : Nat → Nat → Int) (pa : Option Addr) (ca : Nat) (ga : GridAt w (.slice pa n ca) 4 n f) (at0 : Int) :
    Calls Try.prog 4 #[.slice pa n ca, .int .i64 at0] w fun e w' => e = .returned (.bool true) ∧ w.grownBy w' none := by
  have G := hid ga
  clear ga
  by_cases h30 : n ≤ 30
  · obtain ⟨q0, q1, q2, m9⟩ := umod_int at0 1000 (by omega)
    have m9 : (IntKind.u64.wrap at0).tmod 1000 = q0 := m9
    have c9 : IntKind.i64.wrap q0 = q0 := IntWalk.i64_in _ (by omega)
    obtain ⟨Q, hQ⟩ : ∃ Q : Nat, q0 = (Q : Int) := ⟨q0.toNat, by omega⟩
    subst hQ
    have hQ : Q < 1000 := by omega
    clear q1 q2
    have h30' : ¬ 30 < (n : Int) := by omega
    go_enter Try.func4, Try.ntmps4
    go_wp2_with fail
    refine (Tk.new (by decide) (.refl w none)).mono ?_
    rintro e w0 ⟨rfl, hT, hg⟩
    have T0 := hid hT
    clear hT hg
    go_wp2_with fail
    refine (Tk.new (by decide) T0.out.gr).mono ?_
    rintro e w1 ⟨rfl, hT, hg⟩
    have T1 := hid hT
    have hlt := T0.out.tb.lt
    have T2 := hid (show Two w w1.heap.size [] [] (w.heap.size + 1) w.heap.size (w0.heap.size + 1) w0.heap.size (.slice none 0 0) [] w1 from ⟨T0.out.grown hg, hT, by omega, by have := hT.tb.lt; omega, OwnZ.nil _ _, Nat.le_refl _⟩)
    clear hT hg T0 T1 hlt
    generalize w.heap.size + 1 = ta at T2 ⊢
    generalize w.heap.size = ma at T2 ⊢
    generalize w0.heap.size + 1 = tb at T2 ⊢
    generalize w0.heap.size = mb at T2 ⊢
    generalize w1.heap.size = base at T2 ⊢
    go_wp2_with fail
    go_loopw [7, 8] (fun v i wr => ∃ (k : Nat) (vv : Value) (A l : List Sm), v = vv ∧ k ≤ n ∧ i = .int .i64 (k : Int) ∧ l.length ≤ k ∧ Row A l ∧ Two w base A [] ta ma tb mb vv l wr) (fun _ i _ => n - (intOf i).toNat)
    case atStart => exact ⟨0, _, [], [], rfl, Nat.zero_le _, rfl, Nat.le_refl _, ⟨.refl _, by simp⟩, T2.out⟩
    case round =>
      obtain ⟨k, v, A, l, hv, hk, rfl, hl, hrow, hT⟩ := hrel
      have hv' := hv.symm
      clear hv
      subst hv'
      have T3 := hid hT
      have HL := hid hl
      have HROW := hid hrow
      clear hT hl hrow
      by_cases hlt : k < n
      · have hlt' : (k : Int) < (n : Int) := by omega
        have hk1 : k + 1 ≤ n := hlt
        obtain ⟨ab, ao, rfl, hcc, hab, hcell⟩ := (G.out.grown T3.out.ta.gr).cells hlt (by omega)
        have c0 := hcell 0 (by omega)
        have c1 := hcell 1 (by omega)
        have c2 := hcell 2 (by omega)
        have c3 := hcell 3 (by omega)
        obtain ⟨z0, z00, z01, m0⟩ := umod_int (f k 0) 8 (by omega)
        have m0 : (IntKind.u64.wrap (f k 0)).tmod 8 = z0 := m0
        obtain ⟨z1, z10, z11, m1⟩ := umod_int (f k 1) 3 (by omega)
        have m1 : (IntKind.u64.wrap (f k 1)).tmod 3 = z1 := m1
        obtain ⟨z2, z20, z21, m2⟩ := umod_int (f k 2) 4 (by omega)
        have m2 : (IntKind.u64.wrap (f k 2)).tmod 4 = z2 := m2
        obtain ⟨z3, z30, z31, m3⟩ := umod_int (f k 3) 100 (by omega)
        have m3 : (IntKind.u64.wrap (f k 3)).tmod 100 = z3 := m3
        have d0 : IntKind.i64.wrap z0 = z0 := IntWalk.i64_in _ (by omega)
        have d1 : IntKind.i64.wrap z1 = z1 := IntWalk.i64_in _ (by omega)
        have d2 : IntKind.i64.wrap z2 = z2 := IntWalk.i64_in _ (by omega)
        have d3 : IntKind.i64.wrap z3 = z3 := IntWalk.i64_in _ (by omega)
        have HZ := hid (show wf64 z2 by unfold wf64; omega)
        have HGOOD := hid (show Good ⟨z0, z1, z2, z3⟩ by unfold Good AdmT; simp only; omega)
        have HLEN := hid (show A.length ≤ 100000 by have h1 := HROW.out.perm.length_eq; have h2 := HL.out; omega)
        have hao : ao + k * 4 + 0 = ao + k * 4 := rfl
        rw [hao] at c0
        clear hcell z00 z01 z10 z11 z20 z21 z30 z31 hao
        generalize f k 0 = y0 at *
        generalize f k 1 = y1 at *
        generalize f k 2 = y2 at *
        generalize f k 3 = y3 at *
        go_upto_region 8 with fail
        go_region_held3 (fun w' => w'.cell? ⟨ab, ao + k * 4, none⟩ = some (.int .i64 y0) ∧ w'.cell? ⟨ab, ao + k * 4 + 1, none⟩ = some (.int .i64 y1) ∧ w'.cell? ⟨ab, ao + k * 4 + 2, none⟩ = some (.int .i64 y2) ∧ w'.cell? ⟨ab, ao + k * 4 + 3, none⟩ = some (.int .i64 y3)) ((refine ⟨?_, ?_, ?_, ?_⟩ <;> go_simp)) (fail)
        have T4 := hid ((T3.out.alloc (.cells #[.int .i64 z0, .int .i64 z1, .int .i64 z2, .int .i64 z3] 29)).drew)
        have HBX := hid (show (wr.alloc (.cells #[.int .i64 z0, .int .i64 z1, .int .i64 z2, .int .i64 z3] 29)).drew.heap[wr.heap.size]? = some (.cells #[.int .i64 z0, .int .i64 z1, .int .i64 z2, .int .i64 z3] 29) from at_new wr _)
        have HNB := hid (show wr.heap.size ∉ [ma] by have h1 := T3.out.le; have h2 := T3.out.lo; simp only [List.mem_singleton]; omega)
        generalize hW4 : (wr.alloc (.cells #[.int .i64 z0, .int .i64 z1, .int .i64 z2, .int .i64 z3] 29)).drew = W4 at *
        have e0 := at_cell HBX.out 0
        have e1 := at_cell HBX.out 1
        have e2 := at_cell HBX.out 2
        have e3 := at_cell HBX.out 3
        by_cases hth : There A (⟨z0, z1, z2, z3⟩ : Sm).pl
        · have HR := hid (And.intro (may_twice' HGOOD.out hth) (put_twice HGOOD.out hth))
          obtain ⟨pv, cv, rfl⟩ := T3.out.own.form
          clear hth
          go_wp2_with (first
            | (refine (T4.out.ta.put HLEN.out ⟨z0, z1, z2, z3⟩ HZ.out (by decide) HR.out.1 HR.out.2).mono ?_; rintro e w5 ⟨rfl, hT, hc⟩; have T5 := hid (T4.out.puta hT hc); clear hT hc e0 e1 e2 e3))
          go_roundw
          case rel => exact ⟨k + 1, _, A, l, rfl, hk1, by go_num, by have := HL.out; omega, HROW.out, T5.out⟩
          case measure => simp [intOf]; omega
        · have HR := hid (And.intro (may_good HGOOD.out hth) (put_good HGOOD.out hth))
          clear hth
          have HLL := hid (show l.length + [(⟨z0, z1, z2, z3⟩ : Sm)].length ≤ 1000000 by have := HL.out; simp only [List.length_cons, List.length_nil]; omega)
          go_wp2_with (first
            | (refine (T4.out.ta.put HLEN.out ⟨z0, z1, z2, z3⟩ HZ.out (by decide) HR.out.1 HR.out.2).mono ?_; rintro e w5 ⟨rfl, hT, hc⟩; have T5 := hid (T4.out.puta hT hc); have hb5 := hc.at HBX.out HNB.out; clear hT hc e0 e1 e2 e3; have e0 := at_cell hb5 0; have e1 := at_cell hb5 1; have e2 := at_cell hb5 2; have e3 := at_cell hb5 3; clear hb5)
            | (refine append_smp rfl _ _ rfl base _ _ rfl (T5.out.alloc (.cells #[.int .i64 z0, .int .i64 z1, .int .i64 z2, .int .i64 z3] 29)).own _ [⟨z0, z1, z2, z3⟩] rfl (smp_new _ ⟨z0, z1, z2, z3⟩) HLL.out (T5.out.alloc (.cells #[.int .i64 z0, .int .i64 z1, .int .i64 z2, .int .i64 z3] 29)).le ?_; intro v' w6 hown3 hg3 hat3; have T6 := hid ((T5.out.alloc (.cells #[.int .i64 z0, .int .i64 z1, .int .i64 z2, .int .i64 z3] 29)).app hown3 hg3); obtain ⟨p3, c3', rfl⟩ := hown3.form; clear hown3 hg3 hat3 e0 e1 e2 e3))
          go_roundw
          case rel => exact ⟨k + 1, _, ins ⟨z0, z1, z2, z3⟩ A, l ++ [⟨z0, z1, z2, z3⟩], rfl, hk1, by go_num, by have := HL.out; simp only [List.length_append, List.length_cons, List.length_nil]; omega, HROW.out.snoc HGOOD.out, by have h := T6.out; simp only [List.length_append, List.length_cons, List.length_nil, Nat.zero_add] at h; exact h⟩
          case measure => simp [intOf]; omega
      · obtain rfl : k = n := by omega
        clear h30 h30' hk
        obtain ⟨M, hM⟩ : ∃ M, M = l.length := ⟨_, rfl⟩
        have HM := hid hM
        have hM30 : M ≤ 30 := by have := HL.out; omega
        obtain ⟨pv, cv, rfl⟩ := T3.out.own.form
        rw [← hM] at T3 ⊢
        have HALEN := hid (show A.length ≤ 100000 by have h1 := HROW.out.perm.length_eq; omega)
        clear hM HL G
        go_wp2_with fail
        go_loopw [10] (fun i wr => ∃ (k : Nat) (B : List Sm), k ≤ M ∧ i = .int .i64 (k : Int) ∧ B.length ≤ k ∧ Turned B l Q k ∧ Two w base A B ta ma tb mb (.slice pv M cv) l wr) (fun i _ => M - (intOf i).toNat)
        case atStart => exact ⟨0, [], Nat.zero_le _, rfl, Nat.le_refl _, Turned.zero l Q, T3.out⟩
        case round =>
          obtain ⟨k, B, hk, rfl, hB, htu, hT⟩ := hrel
          have T4 := hid hT
          have HB := hid hB
          have HTU := hid htu
          clear hT hB htu T3
          by_cases hlt : k < M
          · have hlt' : (k : Int) < (M : Int) := by omega
            have hk1 : k + 1 ≤ M := hlt
            have hM1 : 1 ≤ M := by omega
            have hM1' : (1 : Int) ≤ (M : Int) := by omega
            obtain ⟨S, hS⟩ : ∃ S, S = k + Q := ⟨_, rfl⟩
            have s1 : IntKind.i64.wrap ((k : Int) + (Q : Int)) = (S : Int) := by rw [show (k : Int) + (Q : Int) = (S : Int) by omega]; exact IntWalk.i64_in _ (by omega)
            obtain ⟨r, hr⟩ : ∃ r, r = S % M := ⟨_, rfl⟩
            have s2 : (S : Int).tmod (M : Int) = (r : Int) := by rw [hr]; exact (Int.ofNat_tmod S M).symm
            have hrM : r < M := by rw [hr]; exact Nat.mod_lt _ hM1
            have hrM' : (r : Int) < (M : Int) := by omega
            have hrl : r < l.length := by rw [← HM.out]; exact hrM
            obtain ⟨g, o, rfl, -, hnc, a0, a1, a2, a3⟩ := T4.out.own.reads.cells (i := r) hrl
            have hget : l[(k + Q) % l.length]? = some l[r] := by rw [← HM.out, ← hS, ← hr]; exact List.getElem?_eq_getElem hrl
            have hgood := HROW.out.good l[r] (List.getElem_mem hrl)
            have hnew := HTU.out.new HROW.out T4.out.ta.tb.fine.srt (by rw [← HM.out]; exact hlt) hget
            have hstep := HTU.out.step hget
            have hfit := T4.out.ta.tb.fine.fits l[r] (HROW.out.perm.mem_iff.2 (List.getElem_mem hrl))
            generalize l[r] = s at *
            have HP := hid (And.intro (may_good hgood hnew) (put_good hgood hnew))
            have HE := hid (show wf64 s.ep from hfit.1)
            have HSTEP := hid hstep
            have HBL := hid (show B.length ≤ 100000 by have := HB.out; omega)
            clear hget hgood hnew hstep hfit hrl hr hS
            go_wp2_with (first
              | (refine (T4.out.tb.put HBL.out s HE.out (by decide) HP.out.1 HP.out.2).mono ?_; rintro e w5 ⟨rfl, hT, hc⟩; have T5 := hid (T4.out.putb hT hc); clear hT hc a0 a1 a2 a3))
            go_roundw
            case rel => exact ⟨k + 1, ins s B, hk1, by go_num, by rw [length_ins]; have := HB.out; omega, HSTEP.out, T5.out⟩
            case measure => simp [intOf]; omega
          · obtain rfl : k = M := by omega
            have hAB : B = A := Turned.all (by have h := HTU.out; rw [HM.out] at h; exact h) HROW.out T4.out.ta.tb.fine.srt T4.out.tb.tb.fine.srt
            subst hAB
            have hlen : k = B.length := by rw [HM.out]; exact HROW.out.perm.length_eq.symm
            have HN := hid hlen
            clear hlen hk HTU HB
            go_wp2_with fail
            refine (all_any T4.out.ta.tb HALEN.out).mono ?_
            rintro e w5 ⟨v5, rfl, hown, hg⟩
            have T5 := hid (T4.out.grown hg)
            have HO5 := hid hown.reads
            obtain ⟨p5, c5, rfl⟩ := hown.form
            rw [← HN.out] at HO5 ⊢
            clear hown hg T4
            go_wp2_with fail
            go_loopw [12] (fun i wr => ∃ (j K : Nat), (K ≤ k ∨ K = 1) ∧ K = j + 1 ∧ i = .int .i64 (K : Int) ∧ w5.grownBy wr none) (fun i _ => k + 1 - (intOf i).toNat)
            case atStart => exact ⟨0, 1, .inr rfl, rfl, rfl, .refl _ _⟩
            case round =>
              obtain ⟨j, K, hK, hKj, rfl, hgr⟩ := hrel
              have HGR := hid hgr
              clear hgr
              by_cases hlt : K < k
              · have hlt' : (K : Int) < (k : Int) := by omega
                have s1 : IntKind.i64.wrap ((K : Int) - 1) = (j : Int) := by rw [show (K : Int) - 1 = (j : Int) by omega]; exact IntWalk.i64_in _ (by omega)
                have hjk : (j : Int) < (k : Int) := by omega
                have hN2 : K + 1 ≤ k ∨ K + 1 = 1 := .inl hlt
                have hK1 : K + 1 = j + 1 + 1 := by omega
                have hjl : j < B.length := by rw [← HN.out]; omega
                have hKl : K < B.length := by rw [← HN.out]; exact hlt
                obtain ⟨g, o, rfl, -, hnc, a0, a1, a2, a3⟩ := (HO5.out.grown HGR.out).cells (i := j) hjl
                obtain ⟨g', o', e', -, -, b0, b1, b2, b3⟩ := (HO5.out.grown HGR.out).cells (i := K) hKl
                cases e'
                have hlt3 : PlLt B[j].pl B[K].pl := by
                  have h := srt_step T5.out.ta.tb.fine.srt hjl (by rw [← hKj]; exact hKl)
                  simp only [← hKj] at h
                  exact h
                generalize B[j] = x at *
                generalize B[K] = y at *
                have H3 : x.ep < y.ep ∨ (x.ep = y.ep ∧ x.met < y.met) ∨ (x.ep = y.ep ∧ x.met = y.met ∧ x.who < y.who) := by
                  unfold PlLt Sm.pl at hlt3
                  simp only at hlt3
                  omega
                have hk5 : k ≤ 30 := hM30
                have HX := hid (And.intro hN2 hK1)
                clear hlt3 hjl hKl hN2 hK1 hKj hK
                obtain ⟨xw, xm, xe, xv⟩ := x
                obtain ⟨yw, ym, ye, yv⟩ := y
                simp only at *
                have HEI := hid (show Ei g o j K wr.heap.size xw xm xe xv yw ym ye yv wr from ⟨a0, a1, a2, a3, b0, b1, b2, b3, World.block_lt_of_cell? _ _ a0⟩)
                go_upto_region 20 with fail
                clear a0 a1 a2 a3 b0 b1 b2 b3
                have hh := HEI.out.keep
                go_region_held3 (fun w' => w'.cell? ⟨g, o + j * 4, none⟩ = some (.int .i64 xw) ∧ w'.cell? ⟨g, o + j * 4 + 1, none⟩ = some (.int .i64 xm) ∧ w'.cell? ⟨g, o + j * 4 + 2, none⟩ = some (.int .i64 xe) ∧ w'.cell? ⟨g, o + j * 4 + 3, none⟩ = some (.int .i64 xv) ∧ w'.cell? ⟨g, o + K * 4, none⟩ = some (.int .i64 yw) ∧ w'.cell? ⟨g, o + K * 4 + 1, none⟩ = some (.int .i64 ym) ∧ w'.cell? ⟨g, o + K * 4 + 2, none⟩ = some (.int .i64 ye) ∧ w'.cell? ⟨g, o + K * 4 + 3, none⟩ = some (.int .i64 yv) ∧ Ei g o j K wr.heap.size xw xm xe xv yw ym ye yv w')
                  ((refine Ei.keep ?_; (repeat (first | assumption | with_reducible exact HEI.out | with_reducible refine Ei.drew ?_ | with_reducible refine Ei.alloc ?_ _ | with_reducible refine Ei.set ?_ (Nat.le_refl _) _ | with_reducible refine Ei.set ?_ (Nat.le_succ _) _)))) (fail)
                all_goals
                  clear hh
                  rcases H3 with h1 | ⟨rfl, h2⟩ | ⟨rfl, rfl, h3⟩
                  · have f1 : ¬ ye < xe := by omega
                    have f2 : ¬ xe = ye := by omega
                    go_wp2_with fail
                    go_roundw
                    case rel => exact ⟨j + 1, K + 1, HX.out.1, HX.out.2, by go_num, gb_drew (gb_alloc (gb_alloc HGR.out _) _)⟩
                    case measure => simp [intOf]; omega
                  · have f1 : ¬ ym < xm := by omega
                    have f2 : ¬ xm = ym := by omega
                    go_wp2_with fail
                    go_roundw
                    case rel => exact ⟨j + 1, K + 1, HX.out.1, HX.out.2, by go_num, gb_drew (gb_alloc (gb_alloc HGR.out _) _)⟩
                    case measure => simp [intOf]; omega
                  · have f1 : ¬ yw ≤ xw := by omega
                    go_wp2_with fail
                    go_roundw
                    case rel => exact ⟨j + 1, K + 1, HX.out.1, HX.out.2, by go_num, gb_drew (gb_alloc (gb_alloc HGR.out _) _)⟩
                    case measure => simp [intOf]; omega
              · have hlt' : ¬ (K : Int) < (k : Int) := by omega
                have T6 := hid (T5.out.grown HGR.out)
                have HO6 := hid (HO5.out.grown HGR.out)
                clear T5 HO5 hK hKj
                go_wp2_with fail
                refine (tbtold_any _).mono ?_
                rintro e w6 ⟨rfl, hg⟩
                have T7 := hid (T6.out.grown hg)
                have HO7 := hid (HO6.out.grown hg)
                clear hg T6 HO6
                go_wp2_with fail
                refine (all_any T7.out.tb.tb HALEN.out).mono ?_
                rintro e w8 ⟨v8, rfl, hown, hg⟩
                have T8 := hid (T7.out.grown hg)
                have HO8 := hid (HO7.out.grown hg)
                have HR8 := hid hown.reads
                clear hown hg T7 HO7
                go_wp2_with fail
                refine (sameS_any _ _ B B _ HO8.out HR8.out (by have := HALEN.out; omega) (by have := HALEN.out; omega) true (decide_eq_true rfl)).mono ?_
                rintro e w9 ⟨rfl, hg⟩
                have T9 := hid (T8.out.grown hg)
                clear hg T8
                go_wp2_with fail
                go_ret
                exact ⟨by simp, T9.out.ta.gr⟩
  · have h30' : 30 < (n : Int) := by omega
    go_enter Try.func4, Try.ntmps4
    go_wp2_with fail
    refine (Tk.new (by decide) (.refl w none)).mono ?_
    rintro e w0 ⟨rfl, hT, hg⟩
    have T0 := hid hT
    clear hT hg
    go_wp2_with fail
    refine (Tk.new (by decide) T0.out.gr).mono ?_
    rintro e w1 ⟨rfl, hT, hg⟩
    have T1 := hid hT
    clear hT hg T0
    go_wp2_with fail
    refine (tbtold_any _).mono ?_
    rintro e w4 ⟨rfl, hg⟩
    have T5 := hid (T1.out.grown hg)
    clear hg T1
    go_wp2_with fail
    go_ret
    exact ⟨by simp, T5.out.gr⟩
end Go.Proofs.Ytjjcnojckbeekaa.tborder
