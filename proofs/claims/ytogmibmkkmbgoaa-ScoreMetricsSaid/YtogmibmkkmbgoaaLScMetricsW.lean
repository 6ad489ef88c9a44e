/-
  The walk of the statement ScoreMetrics: of several metrics one strike an epoch is counted, however many are far off; a metric without a quorum counts for nothing. No condition.
-/
import Derived.Test.YtogmibmkkmbgoaaQ
import Derived.Test.YtogmibmkkmbgoaaScW
import Derived.Test.YtogmibmkkmbgoaaLScStepsW
set_option linter.unusedSimpArgs false
set_option linter.unusedVariables false
namespace Go.Proofs.Ytogmibmkkmbgoaa.scmetrics
set_option maxRecDepth 100000
open Go.RowKit scsteps

def bitB (X : BitVec 64) (k : Nat) : Bool := (X >>> k) &&& 1#64 == 1#64
def val1 (o : Bool) : Int := if o = true then 900 else 100
def rowM (o l : Bool) : List Sm := if l = true then [⟨2, 0, 0, 100⟩, ⟨3, 0, 0, val1 o⟩] else row4 (val1 o)
def sM (h : Hd) : Sc := ⟨[(false, 0), (false, 0), (false, 0), h], 50, 3, 10⟩
def rowsM (X Y : BitVec 64) (k : Nat) : List (List Sm) := (List.range k).map fun i => rowM (bitB X i) (bitB Y i)
def hitM (X Y : BitVec 64) (k : Nat) : Bool := (List.range k).any fun i => bitB X i && !bitB Y i
theorem rowsM_succ (X Y : BitVec 64) (k : Nat) : rowsM X Y (k + 1) = rowsM X Y k ++ [rowM (bitB X k) (bitB Y k)] := by
  unfold rowsM; rw [List.range_succ, List.map_append]; rfl
theorem hitM_succ (X Y : BitVec 64) (k : Nat) : hitM X Y (k + 1) = (hitM X Y k || (bitB X k && !bitB Y k)) := by
  unfold hitM; rw [List.range_succ, List.any_append]; simp
theorem midM (o : Bool) : midS (row4 (val1 o)) 3 = (100, true) := by
  cases o
  · exact midS_is (by decide) (med_is (by decide) (by decide) (by decide) (by decide))
  · exact midS_is (by decide) (med_is (by decide) (by decide) (by decide) (by decide))
def m4 (a b : Bool) : List Int := if a = true then [1, 1, 1, if b = true then 2 else 1] else [0, 0, 0, 0]
theorem mark_step (o l a b : Bool) (h : a = false → b = false) : markM (sM (false, 0)) 3 (m4 a b) (rowM o l) = m4 (a || !l) (b || (o && !l)) := by
  cases l
  · refine markM_of (r := row4 (val1 o)) rfl (midM o) ?_
    cases o <;> cases a <;> cases b <;> first | rfl | (exact absurd (h rfl) (by decide))
  · rw [markM_no (r := rowM o true) (by cases o <;> rfl) (by cases o <;> decide)]
    cases o <;> cases a <;> cases b <;> rfl
def anyM (Y : BitVec 64) (k : Nat) : Bool := (List.range k).any fun i => !bitB Y i
theorem marksM (X Y : BitVec 64) (k : Nat) : marksF (sM (false, 0)) 3 (rowsM X Y k) [0, 0, 0, 0] = m4 (anyM Y k) (hitM X Y k) ∧ (anyM Y k = false → hitM X Y k = false) := by
  induction k with
  | zero => exact ⟨rfl, fun _ => rfl⟩
  | succ k ih =>
    have e : anyM Y (k + 1) = (anyM Y k || !bitB Y k) := by unfold anyM; rw [List.range_succ, List.any_append]; simp
    constructor
    · rw [rowsM_succ, e, hitM_succ, ← mark_step _ _ _ _ ih.2, ← ih.1]
      unfold marksF
      rw [List.foldl_append]; rfl
    · rw [e, hitM_succ]
      intro h
      simp only [Bool.or_eq_false_iff, Bool.not_eq_eq_eq_not, Bool.not_false] at h
      rw [ih.2 h.1, h.2]; simp
theorem closeM (X Y : BitVec 64) : (sM (false, 0)).close (rowsM X Y 3) 3 = sM (false, if hitM X Y 3 = true then 1 else 0) ∧ (sM (false, 0)).gone (rowsM X Y 3) 3 = [] := by
  refine close_of (mk := m4 (anyM Y 3) (hitM X Y 3)) (marksM X Y 3).1 ?_
  have h := (marksM X Y 3).2
  generalize anyM Y 3 = a at *
  generalize hitM X Y 3 = b at *
  cases a <;> cases b <;> first | rfl | (exact absurd (h rfl) (by decide))
theorem rowM_len (o l : Bool) : (rowM o l).length ≤ 1000 := by cases o <;> cases l <;> decide
/-- what the walk keeps -/
structure Mw (w : World) (b hb : Nat) (v : Value) (L : List (Value × List Sm)) (W : World) : Prop where
  sk : Sk w (sM (false, 0)) b hb W
  own : OwnR w.heap.size W v (L.map Prod.fst)
  rows : ∀ x ∈ L, RowB W x.1 x.2
theorem Mw.grown {w W W' : World} {b hb : Nat} {v : Value} {L : List (Value × List Sm)} (h : Mw w b hb v L W) (hg : W.grownBy W' none) : Mw w b hb v L W' :=
  ⟨h.sk.grown hg, h.own.grown hg, fun x hx => (h.rows x hx).grown hg⟩
theorem typ_ne {W : World} {x : Nat} {cs cs' : Array Value} {t t' : TypeId} (h : W.heap[x]? = some (.cells cs t)) (ht : t ≠ t') : W.heap[x]? ≠ some (.cells cs' t') := by
  intro h'
  rw [h] at h'
  injection h' with h'; injection h' with _ h'
  exact ht h'
theorem Sk.chgF {w W W' : World} {s : Sc} {b hb : Nat} {F : List Nat} (h : Sk w s b hb W) (hc : Chg F W W') (h1 : b ∉ F) (h2 : hb ∉ F) (h3 : ∀ x ∈ F, w.heap.size ≤ x) : Sk w s b hb W' :=
  ⟨h.sat.chg hc h1 h2, ((chg_grown h.gr F).then hc).free h3, h.own, h.ok⟩
theorem Mw.app {w W W' : World} {b hb : Nat} {v v' u : Value} {L : List (Value × List Sm)} {r : List Sm} (h : Mw w b hb v L W) (hr : RowB W u r) (ho : OwnR w.heap.size W' v' (L.map Prod.fst ++ [u])) (hg : W.grownBy W' v.ownBlock) : Mw w b hb v' (L ++ [(u, r)]) W' := by
  have hc := chg_opt hg
  have hT : ∀ x ∈ v.ownBlock.toList, w.heap.size ≤ x ∧ ∃ cs : Array Value, W.heap[x]? = some (.cells cs 38) := fun x hx => h.own.at x (by simpa using hx)
  have hF : ∀ x ∈ v.ownBlock.toList, ∀ cs : Array Value, W.heap[x]? ≠ some (.cells cs 40) := fun x hx cs => by
    obtain ⟨_, cs', h'⟩ := hT x hx
    exact typ_ne h' (by decide)
  refine ⟨Sk.chgF h.sk hc (fun hm => ?_) (fun hm => ?_) (fun x hx => (hT x hx).1), by rw [List.map_append]; exact ho, fun x hx => ?_⟩
  · obtain ⟨_, cs', h'⟩ := hT _ hm
    exact typ_ne h' (by decide) h.sk.sat.obj
  · obtain ⟨_, cs', h'⟩ := hT _ hm
    exact typ_ne h' (by decide) h.sk.sat.row
  · rcases List.mem_append.1 hx with hx | hx
    · exact (h.rows x hx).chg hc hF
    · rw [List.mem_singleton.1 hx]; exact hr.chg hc hF
theorem Mw.start {w W : World} {b hb : Nat} (h : Sk w (sM (false, 0)) b hb W) : Mw w b hb (.slice none 0 0) [] W := ⟨h, OwnR.nil _ _, by simp⟩
/-- the new row, by its switch -/
theorem rowB_of {base g c : Nat} {W : World} {l : List Sm} (h : OwnZ base W (.slice (some ⟨g, 0, none⟩) 4 c) l) (hl : l.length = 4) : RowB W (.slice (some ⟨g, 0, none⟩) 4 c) l ∧ RowB W (.slice (some ⟨g, 8, none⟩) 2 (c - 2)) (l.drop 2) := by
  obtain ⟨_, cs, hb⟩ := h.at g rfl
  have h2 := h.reads.drop (k := 2) (by decide)
  refine ⟨⟨g, 0, c, cs, by rw [hl], hb, h.reads⟩, ⟨g, 8, c - 2, cs, by rw [List.length_drop, hl], hb, ?_⟩⟩
  have e : (0 : Nat) + 2 * 4 = 8 := rfl
  rw [e] at h2
  exact h2
theorem set4o {base g c : Nat} {w : World} (h : OwnZ base w (.slice (some ⟨g, 0, none⟩) 4 c) (row4 100)) (x : Int) : OwnZ base (w.setCell ⟨g, 15, none⟩ (.int .i64 x)) (.slice (some ⟨g, 0, none⟩) 4 c) (row4 x) := by
  have h3 : 3 < (row4 100).length := by decide
  have h1 := h.setv h3 x
  have e : (row4 100).set 3 ⟨(row4 100)[3].who, (row4 100)[3].met, (row4 100)[3].ep, x⟩ = row4 x := rfl
  rw [e] at h1
  exact h1
theorem mayM : MaySc (4 : Nat) 50 3 10 := by unfold MaySc; decide
theorem q_and_one' (x : BitVec 64) : bits .and .u64 (q x) 1 = q (x &&& 1#64) := q_and x 1#64
theorem bit_eq (X : BitVec 64) (k : Nat) : (q (X >>> k &&& 1#64) == 1) = bitB X k := by
  unfold bitB
  rw [show (1 : Int) = q 1#64 from rfl, q_beq]
theorem flat_last (n : Int) : (flatZ [(false, 0), (false, 0), (false, 0), (false, n)]).toArray = #[.int .i64 0, .int .i64 0, .bool false, .int .i64 0, .int .i64 0, .bool false, .int .i64 0, .int .i64 0, .bool false, .int .i64 n, .int .i64 0, .bool false] := rfl
set_option maxHeartbeats 1600000 in
theorem walk {w : World} (a c : Int) :
    Calls Try.prog 8 #[.int .i64 a, .int .i64 c] w fun e w' => e = .returned (.bool true) ∧ w.grownBy w' none := by
  obtain ⟨X, hX⟩ : ∃ X, IntKind.u64.wrap a = q X := q_of (by
    rw [IntKind.wrap_u64]; simp [Lit.wf, IntKind.min, IntKind.max, IntKind.signed, IntKind.bits]; omega)
  obtain ⟨Y, hY⟩ : ∃ Y, IntKind.u64.wrap c = q Y := q_of (by
    rw [IntKind.wrap_u64]; simp [Lit.wf, IntKind.min, IntKind.max, IntKind.signed, IntKind.bits]; omega)
  have N0 := hid (show Calls Try.prog 19 #[.int .i64 4, .int .i64 50, .int .i64 3, .int .i64 10] w (MadeS w (newS 4 50 3 10)) from scnew_yes 4 50 3 10 mayM w)
  go_enter Try.func8, Try.ntmps8
  go_wp2_with fail
  refine N0.out.mono ?_
  rintro e w1 hmade
  obtain ⟨b, hb, rfl, hk⟩ := Sk.made (.refl w none) mayM hmade
  rw [show newS 4 50 3 10 = sM (false, 0) from rfl] at hk
  have K1 := hid (Mw.start hk)
  clear hmade hk N0
  go_wp2_with fail
  go_loopw [6, 7, 8] (fun u h i wr => ∃ (k : Nat) (v0 : Value) (L : List (Value × List Sm)), u = v0 ∧ k ≤ 3 ∧ i = .int .i64 (k : Int) ∧ h = .bool (hitM X Y k) ∧ L.map Prod.snd = rowsM X Y k ∧ Mw w b hb v0 L wr)
    (fun _ _ i _ => 3 - (intOf i).toNat)
  case atStart => exact ⟨0, _, [], rfl, by omega, rfl, rfl, rfl, K1.out⟩
  case round =>
    obtain ⟨k, v0, L, hv0, hk, rfl, rfl, hL, hm⟩ := hrel
    have hv' := hv0.symm
    clear hv0
    subst hv'
    have K2 := hid hm
    have HL := hid hL
    have HLEN := hid (show (L.map Prod.fst).length + 1 ≤ 1000000 by
      have := congrArg List.length hL
      rw [List.length_map] at this ⊢
      rw [this]; unfold rowsM; rw [List.length_map, List.length_range]; omega)
    have HSU := hid (And.intro (rowsM_succ X Y k) (hitM_succ X Y k))
    clear hm hL K1
    by_cases hlt : (k : Int) < 3
    · have wk : IntKind.u64.wrap (k : Int) = (k : Int) := IntWalk.u64_in _ (by omega)
      have g1 := q_and_one' (X >>> k)
      have g2 := q_and_one' (Y >>> k)
      have g3 := bit_eq X k
      have g4 := bit_eq Y k
      have HK := hid (show k < 3 by omega)
      have I1 := hid (show IntsAt (wr.alloc (.cells #[.int .i64 100, .int .i64 100, .int .i64 100, .int .i64 100] 2)) (.slice (some ⟨wr.heap.size, 0, none⟩) 4 4) [100, 100, 100, 100] from blk_ints (l := [100, 100, 100, 100]) (at_new wr _) (by decide))
      have F1 := hid (of_any12 _ _ _ I1.out (by decide))
      obtain ⟨pv, cv, hpv⟩ := K2.out.own.form
      rw [List.length_map] at hpv
      subst hpv
      go_wp2_with fail
      refine F1.out.mono ?_
      rintro e w2 ⟨u, rfl, hown, hg⟩
      rw [show ofTo [100, 100, 100, 100] ([100, 100, 100, 100] : List Int).length = row4 100 from rfl] at hown
      have G2 := hid (gb_trans (World.grownBy_alloc wr (.cells #[.int .i64 100, .int .i64 100, .int .i64 100, .int .i64 100] 2) none) hg (.inl rfl))
      obtain ⟨g, cu, rfl, hgb, hgs, hcu⟩ := hown.some (by decide)
      have hL4 : (row4 100).length = 4 := rfl
      rw [hL4] at hown hcu ⊢
      have O3 := hid hown
      have HLG := hid (show wr.heap.size ≤ g by rw [size_alloc'] at hgb; omega)
      have f15 := hown.free (j := 15)
      have c15 := cell4 hown
      have hcu4 : (4 : Nat) ≤ cu := hcu
      clear hown hgb hgs hL4 hcu F1 I1 hg
      generalize bitB X k = off at *
      generalize bitB Y k = lack at *
      generalize hitM X Y k = hit at *
      cases off <;> cases lack
      · cases hit
        all_goals
          have KA := hid ((K2.out.grown G2.out).grown (World.grownBy_alloc w2 (.cells #[.slice (some ⟨g, 0, none⟩) 4 cu] 38) none))
          have RA := hid ((show RowB w2 (.slice (some ⟨g, 0, none⟩) 4 cu) (rowM false false) from (rowB_of O3.out rfl).1).grown (World.grownBy_alloc w2 (.cells #[.slice (some ⟨g, 0, none⟩) 4 cu] 38) none))
          have CA := hid (at_cell (at_new w2 (.cells #[.slice (some ⟨g, 0, none⟩) 4 cu] 38)) 0)
          have LE := hid (KA.out.sk.gr.size)
          clear K2 O3 G2 HLG
          go_wp2_with
            (refine append_row rfl _ _ rfl w.heap.size _ _ rfl KA.out.own _ _ _ _ rfl CA.out HLEN.out LE.out ?_; intro v' w5 ho hg3 hat3; have K5 := hid (KA.out.app RA.out ho hg3); clear ho hg3 hat3)
          go_roundw
          case rel => exact ⟨k + 1, _, _, rfl, by have := HK.out; omega, by go_num, by rw [HSU.out.2]; rfl, by rw [List.map_append, HL.out, HSU.out.1]; rfl, K5.out⟩
          case measure => have := HK.out; simp [intOf]; omega
      · cases hit
        all_goals
          have KA := hid ((K2.out.grown G2.out).grown (World.grownBy_alloc w2 (.cells #[.slice (some ⟨g, 8, none⟩) 2 (cu - 2)] 38) none))
          have RA := hid ((show RowB w2 (.slice (some ⟨g, 8, none⟩) 2 (cu - 2)) (rowM false true) from (rowB_of O3.out rfl).2).grown (World.grownBy_alloc w2 (.cells #[.slice (some ⟨g, 8, none⟩) 2 (cu - 2)] 38) none))
          have CA := hid (at_cell (at_new w2 (.cells #[.slice (some ⟨g, 8, none⟩) 2 (cu - 2)] 38)) 0)
          have LE := hid (KA.out.sk.gr.size)
          clear K2 O3 G2 HLG
          go_wp2_with
            (refine append_row rfl _ _ rfl w.heap.size _ _ rfl KA.out.own _ _ _ _ rfl CA.out HLEN.out LE.out ?_; intro v' w5 ho hg3 hat3; have K5 := hid (KA.out.app RA.out ho hg3); clear ho hg3 hat3)
          go_roundw
          case rel => exact ⟨k + 1, _, _, rfl, by have := HK.out; omega, by go_num, by rw [HSU.out.2]; rfl, by rw [List.map_append, HL.out, HSU.out.1]; rfl, K5.out⟩
          case measure => have := HK.out; simp [intOf]; omega
      · cases hit
        all_goals
          have KA := hid ((K2.out.grown (gb_new G2.out (p := ⟨g, 15, none⟩) HLG.out (.int .i64 900))).grown (World.grownBy_alloc (w2.setCell ⟨g, 15, none⟩ (.int .i64 900)) (.cells #[.slice (some ⟨g, 0, none⟩) 4 cu] 38) none))
          have RA := hid ((show RowB (w2.setCell ⟨g, 15, none⟩ (.int .i64 900)) (.slice (some ⟨g, 0, none⟩) 4 cu) (rowM true false) from (rowB_of (set4o O3.out 900) rfl).1).grown (World.grownBy_alloc (w2.setCell ⟨g, 15, none⟩ (.int .i64 900)) (.cells #[.slice (some ⟨g, 0, none⟩) 4 cu] 38) none))
          have CA := hid (at_cell (at_new (w2.setCell ⟨g, 15, none⟩ (.int .i64 900)) (.cells #[.slice (some ⟨g, 0, none⟩) 4 cu] 38)) 0)
          rw [size_setC] at CA
          have LE := hid (KA.out.sk.gr.size)
          clear K2 O3 G2 HLG
          go_wp2_with
            (refine append_row rfl _ _ rfl w.heap.size _ _ rfl KA.out.own _ _ _ _ rfl CA.out HLEN.out LE.out ?_; intro v' w5 ho hg3 hat3; have K5 := hid (KA.out.app RA.out ho hg3); clear ho hg3 hat3)
          go_roundw
          case rel => exact ⟨k + 1, _, _, rfl, by have := HK.out; omega, by go_num, by rw [HSU.out.2]; rfl, by rw [List.map_append, HL.out, HSU.out.1]; rfl, K5.out⟩
          case measure => have := HK.out; simp [intOf]; omega
      · cases hit
        all_goals
          have KA := hid ((K2.out.grown (gb_new G2.out (p := ⟨g, 15, none⟩) HLG.out (.int .i64 900))).grown (World.grownBy_alloc (w2.setCell ⟨g, 15, none⟩ (.int .i64 900)) (.cells #[.slice (some ⟨g, 8, none⟩) 2 (cu - 2)] 38) none))
          have RA := hid ((show RowB (w2.setCell ⟨g, 15, none⟩ (.int .i64 900)) (.slice (some ⟨g, 8, none⟩) 2 (cu - 2)) (rowM true true) from (rowB_of (set4o O3.out 900) rfl).2).grown (World.grownBy_alloc (w2.setCell ⟨g, 15, none⟩ (.int .i64 900)) (.cells #[.slice (some ⟨g, 8, none⟩) 2 (cu - 2)] 38) none))
          have CA := hid (at_cell (at_new (w2.setCell ⟨g, 15, none⟩ (.int .i64 900)) (.cells #[.slice (some ⟨g, 8, none⟩) 2 (cu - 2)] 38)) 0)
          rw [size_setC] at CA
          have LE := hid (KA.out.sk.gr.size)
          clear K2 O3 G2 HLG
          go_wp2_with
            (refine append_row rfl _ _ rfl w.heap.size _ _ rfl KA.out.own _ _ _ _ rfl CA.out HLEN.out LE.out ?_; intro v' w5 ho hg3 hat3; have K5 := hid (KA.out.app RA.out ho hg3); clear ho hg3 hat3)
          go_roundw
          case rel => exact ⟨k + 1, _, _, rfl, by have := HK.out; omega, by go_num, by rw [HSU.out.2]; rfl, by rw [List.map_append, HL.out, HSU.out.1]; rfl, K5.out⟩
          case measure => have := HK.out; simp [intOf]; omega
    · have hk3 : k = 3 := by omega
      subst hk3
      have hrows := HL.out
      have RW := hid (K2.out.own.rows K2.out.rows)
      have SK := hid K2.out.sk
      have hcl := closeM X Y
      rw [← hrows] at hcl
      have CL := hid (K2.out.sk.closeN RW.out (by have := HLEN.out; rw [List.length_map] at this; have h9 := congrArg List.length hrows; rw [List.length_map] at h9; rw [h9]; unfold rowsM; simp) (fun x hx => by
        have h9 : x.2 ∈ rowsM X Y 3 := by rw [← hrows]; exact List.mem_map_of_mem hx
        unfold rowsM at h9
        obtain ⟨i, _, h9⟩ := List.mem_map.1 h9
        rw [← h9]; exact rowM_len _ _) 3 hcl)
      obtain ⟨pv, cv, hpv⟩ := K2.out.own.form
      rw [List.length_map] at hpv
      subst hpv
      generalize hitM X Y 3 = hit at *
      generalize L.length = nl at *
      clear hrows hcl RW HL HLEN HSU K2 hX hY
      go_wp2_with fail
      refine CL.out.mono ?_
      rintro e w6 ⟨p6, q6, rfl, -, hk, -⟩
      have K6 := hid hk
      simp only [List.length_nil]
      clear hk CL SK
      cases hit
      · have GT := hid (show Calls Try.prog 21 #[.pointer (some ⟨b, 0, none⟩), .int .i64 3] w6 fun e w' => e = .returned (.tuple #[.agg #[.int .i64 0, .int .i64 0, .bool false], .int .i64 0]) ∧ w6.grownBy w' none from get_in K6.out.sat 3 (false, 0) rfl)
        go_wp2_with fail
        refine GT.out.mono ?_
        rintro e w7 ⟨rfl, hg⟩
        have K8 := hid ((K6.out.grown hg).alloc (.cells #[.int .i64 0, .int .i64 0, .bool false] 45))
        have B8 := hid (at_new w7 (.cells #[.int .i64 0, .int .i64 0, .bool false] 45))
        clear hg GT K6
        have AL := hid (scall_any K8.out.sat)
        go_wp2_with fail
        refine AL.out.mono ?_
        rintro e w9 ⟨z9, rfl, hz, hzl, hg⟩
        have K9 := hid (K8.out.grown hg)
        have B9 := hid (at_grown B8.out hg (by simp))
        have Z9 := hid hz
        have hH4 : (sM (false, (if false = true then 1 else 0))).H.length = 4 := rfl
        generalize w7.heap.size = x7 at *
        clear hz hzl hg AL K8 B8
        have TD := hid (sctold_any w9)
        simp only [show (sM (false, (if false = true then 1 else 0))).H.length = 4 from rfl]
        go_wp2_with fail
        refine TD.out.mono ?_
        rintro e w10 ⟨rfl, hg⟩
        have K10 := hid (K9.out.grown hg)
        have hb10 := at_grown B9.out hg (by simp)
        have Z10 := hid (at_grown Z9.out hg (by simp))
        have e0 := at_cell hb10 0
        have e1 := at_cell hb10 1
        have e2 := at_cell hb10 2
        clear hg TD K9 B9 Z9 hb10
        have SM := hid (same_stds (H := [(false, 0), (false, 0), (false, 0), (false, 0)]) (at_alloc Z10.out (.cells #[.int .i64 0, .int .i64 0, .bool false, .int .i64 0, .int .i64 0, .bool false, .int .i64 0, .int .i64 0, .bool false, .int .i64 0, .int .i64 0, .bool false] 45)) (at_new w10 (.cells #[.int .i64 0, .int .i64 0, .bool false, .int .i64 0, .int .i64 0, .bool false, .int .i64 0, .int .i64 0, .bool false, .int .i64 0, .int .i64 0, .bool false] 45)) (by decide))
        have G11 := hid (gb_alloc K10.out.gr (.cells #[.int .i64 0, .int .i64 0, .bool false, .int .i64 0, .int .i64 0, .bool false, .int .i64 0, .int .i64 0, .bool false, .int .i64 0, .int .i64 0, .bool false] 45))
        clear K10 Z10
        go_wp2_with fail
        refine SM.out.mono ?_
        rintro e w12 ⟨rfl, hg⟩
        have G12 := hid (gb_trans G11.out hg (.inl rfl))
        clear hg SM G11
        go_wp2_with fail
        go_ret
        exact ⟨rfl, G12.out⟩
      · have GT := hid (show Calls Try.prog 21 #[.pointer (some ⟨b, 0, none⟩), .int .i64 3] w6 fun e w' => e = .returned (.tuple #[.agg #[.int .i64 1, .int .i64 0, .bool false], .int .i64 0]) ∧ w6.grownBy w' none from get_in K6.out.sat 3 (false, 1) rfl)
        go_wp2_with fail
        refine GT.out.mono ?_
        rintro e w7 ⟨rfl, hg⟩
        have K8 := hid ((K6.out.grown hg).alloc (.cells #[.int .i64 1, .int .i64 0, .bool false] 45))
        have B8 := hid (at_new w7 (.cells #[.int .i64 1, .int .i64 0, .bool false] 45))
        clear hg GT K6
        have AL := hid (scall_any K8.out.sat)
        go_wp2_with fail
        refine AL.out.mono ?_
        rintro e w9 ⟨z9, rfl, hz, hzl, hg⟩
        have K9 := hid (K8.out.grown hg)
        have B9 := hid (at_grown B8.out hg (by simp))
        have Z9 := hid hz
        have hH4 : (sM (false, (if true = true then 1 else 0))).H.length = 4 := rfl
        generalize w7.heap.size = x7 at *
        clear hz hzl hg AL K8 B8
        have TD := hid (sctold_any w9)
        simp only [show (sM (false, (if true = true then 1 else 0))).H.length = 4 from rfl]
        go_wp2_with fail
        refine TD.out.mono ?_
        rintro e w10 ⟨rfl, hg⟩
        have K10 := hid (K9.out.grown hg)
        have hb10 := at_grown B9.out hg (by simp)
        have Z10 := hid (at_grown Z9.out hg (by simp))
        have e0 := at_cell hb10 0
        have e1 := at_cell hb10 1
        have e2 := at_cell hb10 2
        clear hg TD K9 B9 Z9 hb10
        have SM := hid (same_stds (H := [(false, 0), (false, 0), (false, 0), (false, 1)]) (at_alloc Z10.out (.cells #[.int .i64 0, .int .i64 0, .bool false, .int .i64 0, .int .i64 0, .bool false, .int .i64 0, .int .i64 0, .bool false, .int .i64 1, .int .i64 0, .bool false] 45)) (at_new w10 (.cells #[.int .i64 0, .int .i64 0, .bool false, .int .i64 0, .int .i64 0, .bool false, .int .i64 0, .int .i64 0, .bool false, .int .i64 1, .int .i64 0, .bool false] 45)) (by decide))
        have G11 := hid (gb_alloc K10.out.gr (.cells #[.int .i64 0, .int .i64 0, .bool false, .int .i64 0, .int .i64 0, .bool false, .int .i64 0, .int .i64 0, .bool false, .int .i64 1, .int .i64 0, .bool false] 45))
        clear K10 Z10
        go_wp2_with fail
        refine SM.out.mono ?_
        rintro e w12 ⟨rfl, hg⟩
        have G12 := hid (gb_trans G11.out hg (.inl rfl))
        clear hg SM G11
        go_wp2_with fail
        go_ret
        exact ⟨rfl, G12.out⟩
end Go.Proofs.Ytogmibmkkmbgoaa.scmetrics
