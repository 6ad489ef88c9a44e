/-
  Contracts: what a gate's Check tells, and what its Take answers and leaves, whatever comes: the model's answers. The conditions: the gate lies there; the bytes read as bytes; what tells who is out answers. And 1 texts more that this one stands on. No condition.
-/
import Derived.Test.YtgpdcapnnejdeaaGreatNVc
import Derived.Test.YtgpdcapnnejdeaaGreatNVd
import Derived.Test.YtgpdcapnnejdeaaGreatY18
import Derived.Test.YtgpdcapnnejdeaaGreatY21
import Derived.Test.YtgpdcapnnejdeaaGreatY20
section
set_option linter.unusedSimpArgs false
set_option linter.unusedVariables false
namespace Go.Proofs.YtgpdcapnnejdeaaGreat
set_option maxRecDepth 100000
open Go.RowKit

theorem cut_may {l : List UInt8} {m : Mg} (h : cutOf l = some m) : mayOf m = true := by
 unfold cutOf at h
 split at h
 ·unfold getOf at h
  split at h
  ·next hh => cases h; exact decide_eq_true hh.2.2
  ·cases h
 ·cases h
theorem rp_at {w : World} {F : List Nat} {B : GBl} {G : Gt} {m : Mg} (K : GtAt w F B G) (hin : G.in m.who = true) : RpAt w (B.rp G m) (G.rep m) ∧ B.rp G m ∈ F := by
 have h0 := of_decide_eq_true hin
 have hi : m.who.toNat < G.r.n := by omega
 unfold GBl.rp Gt.rep
 split
 ·exact ⟨K.now _ hi, K.ma _ hi⟩
 ·exact ⟨K.old _ hi, K.mo _ hi⟩
theorem gfind_any {w : World} {F : List Nat} {B : GBl} {G : Gt} (who : Int) (K : GtAt w F B G) (hin : G.in who = true) :
  Calls Tryz.prog 54 #[.pointer (some ⟨B.g, 0, none⟩), .int .i64 who] w fun e w' => e = .returned (.pointer (some ⟨B.hb, who.toNat * 3, none⟩)) ∧ w = w' := by
 have h0 := of_decide_eq_true hin
 have h := gfind_in who.toNat w K (by omega)
 rwa [Int.toNat_of_nonneg h0.1] at h
theorem gfind_no {w : World} {F : List Nat} {B : GBl} {G : Gt} (who : Int) (K : GtAt w F B G) (hin : G.in who = false) :
  Calls Tryz.prog 54 #[.pointer (some ⟨B.g, 0, none⟩), .int .i64 who] w fun e w' => e = .returned (.pointer none) ∧ w = w' :=
 gfind_out who w K (by have := of_decide_eq_false hin; omega)

theorem gcheck_any {F : List Nat} {B : GBl} {G : Gt} (v O : Value) (l : List UInt8) (o : Int → Bool) (now : Int) (w : World) (K : GtAt w F B G) (hl : BytesAt w v l) (hnow : -9223372036854775808 ≤ now)
  (hO : ∀ x u, Calls Tryz.prog 55 #[O, .int .i64 x] u fun e w' => e = .returned (.bool (o x)) ∧ u.grownBy w' none) :
  Calls Tryz.prog 18 #[.pointer (some ⟨B.g, 0, none⟩), v, .int .i64 now, O] w fun e w' => e = .returned (.tuple #[mg (G.check l now o).1, .int .i64 (G.check l now o).2]) ∧ w.grownBy w' none := by
 have S := fun u (h : BytesAt u v l) => split_all v l u h
 unfold Gt.check Gt.checkC
 cases hc : cutOf l with
 | none =>
  have e1 : spC l = 2 := by simp [spC, hc]
  rw [e1] at S ⊢
  rw [if_neg (by decide : ¬ (2 : Int) = 0), if_neg (by decide : ¬ (2 : Int) = 0)]
  exact gcheck_bytes v O l _ _ _ _ o now w K hl S
 | some m =>
  have e1 : spC l = 0 := by simp [spC, hc]
  have e2 : spM l = m := by simp [spM, hc]
  have hM := cut_may hc
  obtain ⟨_, hw, _, hq, he, _⟩ := may_of hM
  rw [e1, e2] at S
  rw [e1, e2, if_pos rfl]
  by_cases h1 : G.in m.who = true
  ·have C1 := fun u (k : GtAt u F B G) => gfind_any m.who k h1
   by_cases h2 : o m.who = true
   ·rw [show G.checkM l now o m = 3 by simp [Gt.checkM, h1, h2], if_neg (by decide : ¬ (3 : Int) = 0)]
    exact gcheck_out v O l _ m _ _ o now w K hl S _ C1 (fun u => h2 ▸ hO m.who u)
   ·have h2' : o m.who = false := by simpa using h2
    have C2 := fun u => h2' ▸ hO m.who u
    by_cases h3 : G.may m now = true
    ·have C3 := fun u (k : GtAt u F B G) => gsealer_yes m now u k h1 hM h3
     have C4 := fun u s (h : BytesAt u s (spX l)) => tag_any (G.key m).a (G.key m).b s (spX l) u h
     have C5 := fun u => same_any (spA l) (spB l) (sumOf (G.key m).a (G.key m).b (spX l)) (sumOf (G.key m).b (inv (G.key m).a) (spX l)) u
     by_cases h4 : spA l = sumOf (G.key m).a (G.key m).b (spX l) ∧ spB l = sumOf (G.key m).b (inv (G.key m).a) (spX l)
     ·have h4' : (spA l == sumOf (G.key m).a (G.key m).b (spX l) && spB l == sumOf (G.key m).b (inv (G.key m).a) (spX l)) = true := by simp [h4.1.symm, h4.2.symm]
      rw [h4'] at C5
      have C6 := fun u (k : GtAt u F B G) => pmay_any m.seq u (rp_at (m := m) k h1).1
      by_cases h5 : (G.rep m).may m.seq = true
      ·rw [h5] at C6
       have C7 := fun u (k : GtAt u F B G) => intime_any m.epoch now u k he.2 hnow
       by_cases h6 : G.time m.epoch now = true
       ·rw [h6] at C7
        by_cases h7 : (G.met : Int) ≤ m.metric
        ·rw [show G.checkM l now o m = 1 by simp [Gt.checkM, h1, h2', h3, h4, h5, h6, h7], if_neg (by decide : ¬ (1 : Int) = 0)]
         exact gcheck_metric v O l _ m _ _ o now w K hl S _ C1 C2 _ _ _ C3 _ _ C4 C5 C6 C7 h7
        ·rw [show G.checkM l now o m = 0 by simp [Gt.checkM, h1, h2', h3, h4, h5, h6, h7], if_pos rfl]
         exact gcheck_ok v O l _ m _ _ o now w K hl S _ C1 C2 _ _ _ C3 _ _ C4 C5 C6 C7 h7
       ·have h6' : G.time m.epoch now = false := by simpa using h6
        rw [show G.checkM l now o m = 7 by simp [Gt.checkM, h1, h2', h3, h4, h5, h6'], if_neg (by decide : ¬ (7 : Int) = 0)]
        rw [h6'] at C7
        exact gcheck_stale v O l _ m _ _ o now w K hl S _ C1 C2 _ _ _ C3 _ _ C4 C5 C6 C7
      ·have h5' : (G.rep m).may m.seq = false := by simpa using h5
       rw [show G.checkM l now o m = 6 by simp [Gt.checkM, h1, h2', h3, h4, h5'], if_neg (by decide : ¬ (6 : Int) = 0)]
       rw [h5'] at C6
       exact gcheck_replay v O l _ m _ _ o now w K hl S _ C1 C2 _ _ _ C3 _ _ C4 C5 C6
     ·rw [show G.checkM l now o m = 5 by simp only [Gt.checkM]; rw [if_neg (by rw [h1, h2']; simp), if_neg (by rw [h3]; simp), if_pos h4], if_neg (by decide : ¬ (5 : Int) = 0)]
      have h4' : (spA l == sumOf (G.key m).a (G.key m).b (spX l) && spB l == sumOf (G.key m).b (inv (G.key m).a) (spX l)) = false := by simpa using h4
      rw [h4'] at C5
      exact gcheck_auth v O l _ m _ _ o now w K hl S _ C1 C2 _ _ _ C3 _ _ C4 C5
    ·have h3' : G.may m now = false := by simpa using h3
     rw [show G.checkM l now o m = 4 by simp [Gt.checkM, h1, h2', h3'], if_neg (by decide : ¬ (4 : Int) = 0)]
     exact gcheck_gen v O l _ m _ _ o now w K hl S _ C1 C2 (fun u k => gsealer_none m now u k h1 hM h3')
  ·have h1' : G.in m.who = false := by simpa using h1
   rw [show G.checkM l now o m = 3 by simp [Gt.checkM, h1'], if_neg (by decide : ¬ (3 : Int) = 0)]
   exact gcheck_who v O l _ m _ _ o now w K hl S (fun u k => gfind_no m.who k h1')

theorem setRep_r (G : Gt) (m : Mg) (p : Rp) : (G.setRep m p).r = G.r := by unfold Gt.setRep; split <;> rfl
theorem setRep_win (G : Gt) (m : Mg) (p : Rp) : (G.setRep m p).win = G.win := by unfold Gt.setRep; split <;> rfl
theorem setRep_self (G : Gt) (m : Mg) : G.setRep m (G.rep m) = G := by
 unfold Gt.setRep Gt.rep
 split
 ·cases G; simp only [Gt.mk.injEq, true_and, and_true]; funext i; split <;> simp_all
 ·cases G; simp only [Gt.mk.injEq, true_and, and_true]; funext i; split <;> simp_all
theorem took_any {w : World} {F : List Nat} {B : GBl} {G : Gt} (m : Mg) (K : GtAt w F B G) (hin : G.in m.who = true) (n : Int) :
  Calls Tryz.prog 63 #[.pointer (some ⟨B.rp G m, 0, none⟩), .int .i64 n] w fun e w' => e = .returned (.int .i64 ((G.rep m).take n).1) ∧ GtAt w' F B (G.setRep m ((G.rep m).take n).2) ∧ Chg [B.rp G m] w w' := by
 have h0 := of_decide_eq_true hin
 have hi : m.who.toNat < G.r.n := by omega
 refine (ptake_any n w (rp_at K hin).1).mono fun e w' ⟨he, hp, hc⟩ => ⟨he, ?_, hc⟩
 have hw : ((G.rep m).take n).2.win = G.win := by
  rw [take_win]; unfold Gt.rep; split
  ·exact K.ok.nw _
  ·exact K.ok.ow _
 revert hp hc hw
 generalize ((G.rep m).take n).2 = p
 unfold Gt.setRep GBl.rp
 split
 ·intro hp hc hw; exact K.tookNow hi hp hw hc
 ·intro hp hc hw; exact K.tookOld hi hp hw hc
theorem gtake_any {F : List Nat} {B : GBl} {G : Gt} (m : Mg) (now : Int) (w : World) (K : GtAt w F B G) :
  Calls Tryz.prog 20 #[.pointer (some ⟨B.g, 0, none⟩), mg m, .int .i64 now] w (LeavesG w F B (G.take m now)) := by
 have same : ∀ {c : Int} {e : Ending} {w' : World}, (e = .returned (.int .i64 c) ∧ w.grownBy w' none) → LeavesG w F B (c, G) e w' := fun ⟨h, hg⟩ => ⟨h, F, B, K.grown hg, rfl, rfl, chg_grown hg F, fun x hx => .inl hx⟩
 have CM := fun u => may_any m u
 unfold Gt.take
 by_cases hM : mayOf m = true
 ·rw [hM] at CM
  by_cases h0 : now < 0
  ·rw [if_pos (Or.inr (Or.inl h0))]; exact (gtake_low m now w K CM h0).mono fun _ _ h => same h
  ·by_cases h1 : 1099511627776 < now
   ·rw [if_pos (Or.inr (Or.inr h1))]; exact (gtake_high m now w K CM (by omega) h1).mono fun _ _ h => same h
   ·rw [if_neg (by rw [hM]; simp; omega)]
    by_cases h2 : G.in m.who = true
    ·rw [if_neg (by rw [h2]; simp)]
     have C1 := fun u (k : GtAt u F B G) => gfind_any m.who k h2
     by_cases h3 : G.may m now = true
     ·rw [if_neg (by rw [h3]; simp)]
      have C2 := fun u (k : GtAt u F B G) => gsealer_yes m now u k h2 hM h3
      have C3 := fun u (k : GtAt u F B G) => took_any m k h2 m.seq
      unfold Rp.take at C3
      by_cases h4 : (G.rep m).may m.seq = true
      ·rw [if_neg (by rw [h4]; simp)]
       rw [if_pos h4] at C3
       by_cases h5 : m.kind = 2
       ·rw [if_pos h5]
        have hh := of_decide_eq_true h2
        have hi : m.who.toNat < G.r.n := by omega
        obtain ⟨g1, g2⟩ := of_decide_eq_true h3
        have hg := g1 h5
        obtain ⟨_, _, hgen, _⟩ := may_of hM
        have hr := setRep_r G m ((G.rep m).put m.seq)
        refine (gtake_rot m now w K CM (by omega) (by omega) _ C1 _ _ _ (rp_at K h2).2 C2 (G.setRep m ((G.rep m).put m.seq)) C3 h5
         { G.setRep m ((G.rep m).put m.seq) with r := (G.setRep m ((G.rep m).put m.seq)).r.put m.who.toNat m.gen now }
         ((G.setRep m ((G.rep m).put m.seq)).turn m.who.toNat m.gen now) m.who.toNat (fun u k => ?_) (setRep_win _ _ _) (fun u k => ?_)).mono fun e w' ⟨he, nb, hg', hc, hn⟩ =>
          ⟨he, _, _, hg', rfl, rfl, hc, fun x hx => by rcases List.mem_cons.1 hx with rfl | hx; exact .inr hn; exact .inl hx⟩
        ·have hrot := rrot_ok m.who.toNat now u k.ring (by rw [hr]; exact hi) (by rw [hr]; omega) (by omega) (by omega)
         rw [Int.toNat_of_nonneg hh.1, show (G.setRep m ((G.rep m).put m.seq)).r.gen m.who.toNat + 1 = m.gen by rw [hr]; omega] at hrot
         exact hrot.mono fun e w' ⟨he, hR, hc⟩ => ⟨he, k.rung hR hc, hc⟩
        ·have ht := gturn_any m.who.toNat u k (show m.who.toNat < (G.setRep m ((G.rep m).put m.seq)).r.n by rw [hr]; exact hi)
         rw [show ({ G.setRep m ((G.rep m).put m.seq) with r := (G.setRep m ((G.rep m).put m.seq)).r.put m.who.toNat m.gen now } : Gt).win = G.win from setRep_win _ _ _] at ht
         exact ht.mono fun e w' ⟨he, nb, hg', hc, hn⟩ => ⟨he, nb, by
          have e9 := setRep_win G m ((G.rep m).put m.seq)
          unfold Gt.turn
          rw [e9]
          exact hg', hc, hn⟩
       ·rw [if_neg h5]
        exact (gtake_ok m now w K CM (by omega) (by omega) _ C1 _ _ _ (rp_at K h2).2 C2 (G.setRep m ((G.rep m).put m.seq)) C3 h5).mono fun e w' ⟨he, hg', hc⟩ => ⟨he, F, B, hg', rfl, rfl, hc, fun x hx => .inl hx⟩
      ·have h4' : (G.rep m).may m.seq = false := by simpa using h4
       rw [if_pos h4']
       rw [if_neg h4, setRep_self] at C3
       exact (gtake_replay m now w K CM (by omega) (by omega) _ C1 _ _ _ (rp_at K h2).2 C2 C3).mono fun e w' ⟨he, hg', hc⟩ => ⟨he, F, B, hg', rfl, rfl, hc, fun x hx => .inl hx⟩
     ·have h3' : G.may m now = false := by simpa using h3
      rw [if_pos h3']
      exact (gtake_gen m now w K CM (by omega) (by omega) _ C1 (fun u k => gsealer_none m now u k h2 hM h3')).mono fun _ _ h => same h
    ·have h2' : G.in m.who = false := by simpa using h2
     rw [if_pos h2']
     exact (gtake_who m now w K CM (by omega) (by omega) (fun u k => gfind_no m.who k h2')).mono fun _ _ h => same h
 ·have hM' : mayOf m = false := by simpa using hM
  rw [if_pos (Or.inl hM')]
  rw [hM'] at CM
  exact (gtake_may m now w K CM).mono fun _ _ h => same h
end Go.Proofs.YtgpdcapnnejdeaaGreat
end
section
set_option linter.unusedSimpArgs false
set_option linter.unusedVariables false
namespace Go.Proofs.YtgpdcapnnejdeaaGreat
set_option maxRecDepth 100000
open Go.RowKit

structure Kv (w0 : World) (F : List Nat) (B : GBl) (G : Gt) (b : Nat) (s : Sl) (bs : List (Nat × Obj)) (ys : List (Value × List UInt8)) (w : World) : Prop where
 gt : GtAt w F B G
 ob : SlAt 145 w b s
 lo : ∀ x ∈ F, w0.heap.size ≤ x
 lb : w0.heap.size ≤ b
 bF : b ∉ F
 g : w0.grownBy w none
 bl : ∀ x ∈ bs, w.heap[x.1]? = some x.2
 nb : ∀ x ∈ bs, x.1 ≠ b ∧ x.1 ∉ F
 yl : ∀ y ∈ ys, OwnB 0 w y.1 y.2
 ny : ∀ y ∈ ys, ∀ k, y.1.ownBlock = some k → k ≠ b ∧ k ∉ F ∧ w0.heap.size ≤ k
theorem OwnB.chgN {base : Nat} {w w1 : World} {v : Value} {l : List UInt8} {F : List Nat} (h : OwnB base w v l) (hc : Chg F w w1) (hF : ∀ k, v.ownBlock = some k → k ∉ F) : OwnB base w1 v l := by
 obtain ⟨h0, h | ⟨g, cap, cur, rfl, hb, hh, h1⟩⟩ := h
 ·exact ⟨h0, .inl h⟩
 ·exact ⟨h0, .inr ⟨g, cap, cur, rfl, hb, hc.at hh (hF g rfl), h1⟩⟩
theorem OwnB.blk {base : Nat} {w : World} {v : Value} {l : List UInt8} (h : OwnB base w v l) {k : Nat} (hk : v.ownBlock = some k) : base ≤ k ∧ k < w.heap.size := by
 obtain ⟨p, c, rfl⟩ := h.form
 cases p with
 | none => cases hk
 | some a => cases hk; exact h.at a _ _ rfl
theorem OwnB.obj {base : Nat} {w : World} {l : List UInt8} {k n c : Nat} (h : OwnB base w (.slice (some ⟨k, 0, none⟩) n c) l) : ∃ cur : Array Value, w.heap[k]? = some (.cells cur 5) := by
 obtain ⟨h0, e | ⟨g, cap, cur, e, hb, hh, h1⟩⟩ := h
 ·cases e.1
 ·cases e; exact ⟨cur, hh⟩
section
variable {w0 w w1 : World} {F : List Nat} {B : GBl} {G G1 : Gt} {b n : Nat} {s s' : Sl} {bs : List (Nat × Obj)} {ys : List (Value × List UInt8)} {o : Obj} {v : Value} {l : List UInt8} {x0 x1 x2 x3 : Nat × Obj} {z0 z1 z2 : Value × List UInt8}
theorem kv_start (K : GtAt w F B G) (hlo : ∀ x ∈ F, w0.heap.size ≤ x) (hg : w0.grownBy w none) (H : SlAt 145 w1 b s) (hw : w.grownBy w1 none) (hb : w.heap.size ≤ b) : Kv w0 F B G b s [] [] w1 :=
 ⟨K.grown hw, H, hlo, Nat.le_trans (gb_size hg) hb, fun h => by have := K.lt _ h; omega, gb_trans hg hw (.inl rfl), (fun _ h => by cases h), (fun _ h => by cases h), (fun _ h => by cases h), (fun _ h => by cases h)⟩
theorem Kv.grown (h : Kv w0 F B G b s bs ys w) (hg : w.grownBy w1 none) : Kv w0 F B G b s bs ys w1 :=
 ⟨h.gt.grown hg, h.ob.grown hg, h.lo, h.lb, h.bF, gb_trans h.g hg (.inl rfl), fun x hx => at_grown (h.bl x hx) hg (by simp), h.nb, fun x hx => (h.yl x hx).grown hg (by simp), h.ny⟩
theorem Kv.drew (h : Kv w0 F B G b s bs ys w) : Kv w0 F B G b s bs ys w.drew := h.grown (gb_drew (.refl w none))
theorem Kv.alloc (h : Kv w0 F B G b s bs ys w) (o : Obj) : Kv w0 F B G b s ((w.heap.size, o) :: bs) ys (w.alloc o) := by
 have k := h.grown (World.grownBy_alloc w o none)
 refine ⟨k.gt, k.ob, k.lo, k.lb, k.bF, k.g, fun x hx => ?_, fun x hx => ?_, k.yl, k.ny⟩
 ·rcases List.mem_cons.1 hx with rfl | hx
  ·exact at_new w o
  ·exact k.bl x hx
 ·rcases List.mem_cons.1 hx with rfl | hx
  ·exact ⟨by have := h.ob.lt; simp; omega, fun e => by have := h.gt.lt _ e; simp at this⟩
  ·exact h.nb x hx
theorem Kv.sealed (h : Kv w0 F B G b s bs ys w) (ho : OwnB w.heap.size w1 v l) (hs : SlAt 145 w1 b s') (hc : Chg [b] w w1) : Kv w0 F B G b s' bs ((v, l) :: ys) w1 := by
 have hbw := h.ob.lt
 refine ⟨h.gt.chg hc (fun x hx e => h.bF (by rcases List.mem_singleton.1 e with rfl; exact hx)), hs, h.lo, h.lb, h.bF, (Chg.trans (chg_grown h.g []) hc (fun x hx => by rcases List.mem_singleton.1 hx with rfl; exact .inr h.lb)).free (fun x hx => by cases hx),
  fun x hx => hc.at (h.bl x hx) (by simpa using (h.nb x hx).1), h.nb, fun y hy => ?_, fun y hy k hk => ?_⟩
 ·rcases List.mem_cons.1 hy with rfl | hy
  ·exact ho.le (Nat.zero_le _)
  ·exact (h.yl y hy).chgN hc (fun k hk => by simpa using (h.ny y hy k hk).1)
 ·rcases List.mem_cons.1 hy with rfl | hy
  ·have := ho.blk hk
   exact ⟨by omega, fun e => by have := h.gt.lt _ e; omega, by have := gb_size h.g; omega⟩
  ·exact h.ny y hy k hk
theorem Kv.made (h : Kv w0 F B G b s bs ys w) (ho : OwnB w.heap.size w1 v l) (hg : w.grownBy w1 none) : Kv w0 F B G b s bs ((v, l) :: ys) w1 := by
 have k := h.grown hg
 refine ⟨k.gt, k.ob, k.lo, k.lb, k.bF, k.g, k.bl, k.nb, fun y hy => ?_, fun y hy j hj => ?_⟩
 ·rcases List.mem_cons.1 hy with rfl | hy
  ·exact ho.le (Nat.zero_le _)
  ·exact k.yl y hy
 ·rcases List.mem_cons.1 hy with rfl | hy
  ·have := ho.blk hj
   exact ⟨by have := h.ob.lt; omega, fun e => by have := h.gt.lt _ e; omega, by have := gb_size h.g; omega⟩
  ·exact h.ny y hy j hj
theorem Kv.took {e : Ending} {k : Int × Gt} (h : Kv w0 F B G b s bs ys w) (hl : LeavesG w F B k e w1) : e = .returned (.int .i64 k.1) ∧ ∃ F' B', B'.g = B.g ∧ B'.rb = B.rb ∧ Kv w0 F' B' k.2 b s bs ys w1 := by
 obtain ⟨he, F', B', hg, e1, e2, hc, hF⟩ := hl
 have old : ∀ x, x < w.heap.size → x ∉ F → x ∉ F' := fun x hx hn hm => by
  rcases hF x hm with e | e
  ·exact hn e
  ·omega
 refine ⟨he, F', B', e1, e2, hg, h.ob.chg hc h.bF, fun x hx => ?_, h.lb, old b h.ob.lt h.bF, (Chg.trans (chg_grown h.g []) hc (fun x hx => .inr (h.lo x hx))).free (fun x hx => by cases hx), fun x hx => hc.at (h.bl x hx) (h.nb x hx).2, fun x hx => ⟨(h.nb x hx).1, old _ (at_lt (h.bl x hx)) (h.nb x hx).2⟩,
  fun y hy => (h.yl y hy).chgN hc (fun k hk => (h.ny y hy k hk).2.1), fun y hy k hk => ⟨(h.ny y hy k hk).1, old _ ((h.yl y hy).blk hk).2 (h.ny y hy k hk).2.1, (h.ny y hy k hk).2.2⟩⟩
 rcases hF x hx with e | e
 ·exact h.lo x e
 ·have := gb_size h.g; omega
theorem Kv.tail (h : Kv w0 F B G b s (x0 :: bs) ys w) : Kv w0 F B G b s bs ys w := ⟨h.gt, h.ob, h.lo, h.lb, h.bF, h.g, fun x hx => h.bl x (List.mem_cons_of_mem _ hx), fun x hx => h.nb x (List.mem_cons_of_mem _ hx), h.yl, h.ny⟩
theorem Kv.tailY (h : Kv w0 F B G b s bs (z0 :: ys) w) : Kv w0 F B G b s bs ys w := ⟨h.gt, h.ob, h.lo, h.lb, h.bF, h.g, h.bl, h.nb, fun x hx => h.yl x (List.mem_cons_of_mem _ hx), fun x hx => h.ny x (List.mem_cons_of_mem _ hx)⟩
theorem Kv.onlyY (h : Kv w0 F B G b s bs (z0 :: ys) w) : Kv w0 F B G b s bs [z0] w := ⟨h.gt, h.ob, h.lo, h.lb, h.bF, h.g, h.bl, h.nb, fun x hx => h.yl x (by simp at hx; simp [hx]), fun x hx => h.ny x (by simp at hx; simp [hx])⟩
theorem Kv.noY (h : Kv w0 F B G b s bs ys w) : Kv w0 F B G b s bs [] w := ⟨h.gt, h.ob, h.lo, h.lb, h.bF, h.g, h.bl, h.nb, fun x hx => (by cases hx), fun x hx => (by cases hx)⟩
theorem Kv.b0 (h : Kv w0 F B G b s ((n, o) :: bs) ys w) : w.heap[n]? = some o := h.bl (n, o) (by simp)
theorem Kv.b1 (h : Kv w0 F B G b s (x0 :: (n, o) :: bs) ys w) : w.heap[n]? = some o := h.tail.b0
theorem Kv.b2 (h : Kv w0 F B G b s (x0 :: x1 :: (n, o) :: bs) ys w) : w.heap[n]? = some o := h.tail.b1
theorem Kv.b3 (h : Kv w0 F B G b s (x0 :: x1 :: x2 :: (n, o) :: bs) ys w) : w.heap[n]? = some o := h.tail.b2
theorem Kv.y0 (h : Kv w0 F B G b s bs ((v, l) :: ys) w) : BytesAt w v l := (h.yl (v, l) (by simp)).bytes
theorem Kv.y1 (h : Kv w0 F B G b s bs (z0 :: (v, l) :: ys) w) : BytesAt w v l := h.tailY.y0
theorem Kv.y2 (h : Kv w0 F B G b s bs (z0 :: z1 :: (v, l) :: ys) w) : BytesAt w v l := h.tailY.y1
theorem Kv.byte (h : Kv w0 F B G b s bs [(v, l)] w) {k c i : Nat} {x : UInt8} (hv : v = .slice (some ⟨k, 0, none⟩) l.length c) (hi : i < l.length) (hbs : ∀ x ∈ bs, x.1 ≠ k) : Kv w0 F B G b s bs [(v, l.set i x)] (w.setCell ⟨k, i, none⟩ (.int .u8 (x.toNat : Int))) := by
 obtain ⟨n1, n2, n3⟩ := h.ny (v, l) (by simp) k (by rw [hv]; rfl)
 have hc : Chg [k] w (w.setCell ⟨k, i, none⟩ (.int .u8 (x.toNat : Int))) := (chg_refl w [k]).set (.inl (by simp)) _
 refine ⟨h.gt.chg hc (fun y hy e => n2 (by rcases List.mem_singleton.1 e with rfl; exact hy)), h.ob.chg hc (by simpa using n1.symm), h.lo, h.lb, h.bF, gb_new h.g n3 _, fun x hx => hc.at (h.bl x hx) (by simpa using hbs x hx), h.nb, fun y hy => ?_, fun y hy j hj => ?_⟩
 ·rcases List.mem_singleton.1 hy with rfl
  have hy := h.yl (v, l) (by simp)
  subst hv
  obtain ⟨h0, e | ⟨g, cap, cur, e, hb, hh, h1, h2, h3, h4⟩⟩ := hy
  ·cases e.1
  ·cases e
   refine ⟨by simp, .inr ⟨_, _, cur.setIfInBounds i (.int .u8 (x.toNat : Int)), by simp, hb, at_set hh i _, by simpa using h1, h2, by simpa using h3, ?_⟩⟩
   dsimp only
   rw [Array.toList_setIfInBounds, List.length_set, List.take_set, h4]
   apply List.ext_getElem?
   intro j
   simp [List.getElem?_set, bv]
 ·rcases List.mem_singleton.1 hy with rfl
  exact h.ny (v, l) (by simp) j (by dsimp only at hj ⊢; exact hj)
end

theorem v8_xor (a b : UInt8) : bits .xor .u8 (a.toNat : Int) (b.toNat : Int) = ((a ^^^ b).toNat : Int) := by
 show IntKind.u8.wrap ((BitVec.ofInt 8 (a.toNat : Int) ^^^ BitVec.ofInt 8 (b.toNat : Int)).toNat : Int) = _
 rw [BitVec.ofInt_natCast, BitVec.ofInt_natCast]
 have ha : BitVec.ofNat 8 a.toNat = a.toBitVec := by simp
 have hb : BitVec.ofNat 8 b.toNat = b.toBitVec := by simp
 rw [ha, hb]
 have h : ((a.toBitVec ^^^ b.toBitVec).toNat : Int) = ((a ^^^ b).toNat : Int) := by simp
 rw [h]
 have := (a ^^^ b).toNat_lt
 generalize (a ^^^ b).toNat = N at this ⊢
 have hw : IntKind.u8.wrap (N : Int) = (N : Int) % 256 := by simp [IntKind.wrap, IntKind.bits, IntKind.signed]
 rw [hw]; omega
theorem xor8_ne (a t : UInt8) (ht : t ≠ 0) : a ^^^ t ≠ a := by
 intro h
 apply ht
 have : a ^^^ (a ^^^ t) = a ^^^ a := by rw [h]
 rw [← UInt8.xor_assoc, UInt8.xor_self, UInt8.zero_xor] at this
 exact this
theorem check_own (G : Gt) (m : Mg) (now : Int) (o : Int → Bool) (k : Two64) (hk : G.key m = k) (hM : mayOf m = true) :
  G.check (sealOf k.a k.b m) now o = if G.in m.who = false ∨ o m.who = true then (zeroM, 3) else if G.may m now = false then (zeroM, 4) else if (G.rep m).may m.seq = false then (zeroM, 6) else if G.time m.epoch now = false then (zeroM, 7) else if (G.met : Int) ≤ m.metric then (zeroM, 1) else (m, 0) := by
 obtain ⟨e1, e2, e3, e4, e5⟩ := sp_seal hM k.a k.b
 subst hk
 unfold Gt.check Gt.checkC Gt.checkM
 rw [e1, e2, e3, e4, e5]
 simp only [if_true, and_self, not_true, if_false]
 split
 ·rfl
 ·split
  ·rfl
  ·split
   ·rfl
   ·split
    ·rfl
    ·split
     ·rfl
     ·rfl
theorem check_bad (G : Gt) (l : List UInt8) (now : Int) (o : Int → Bool) (h : spC l ≠ 0) : G.check l now o = (zeroM, 2) := by
 unfold Gt.check Gt.checkC; rw [if_neg h]; rfl
theorem seal_turned (k0 k1 : BitVec 64) {m : Mg} (hM : mayOf m = true) {i : Nat} {x : UInt8} (h0 : 32 ≤ i) (h1 : i < 48) (hx : (sealOf k0 k1 m)[i]? ≠ some x) :
  spC ((sealOf k0 k1 m).set i x) = 0 ∧ spM ((sealOf k0 k1 m).set i x) = m ∧ spX ((sealOf k0 k1 m).set i x) = putOf m ∧ ¬ (spA ((sealOf k0 k1 m).set i x) = sumOf k0 k1 (putOf m) ∧ spB ((sealOf k0 k1 m).set i x) = sumOf k1 (inv k0) (putOf m)) := by
 have hc := cut_seal hM k0 k1
 obtain ⟨e1, e2, e3, e4, e5⟩ := sp_seal hM k0 k1
 have hlen := sealOf_length k0 k1 m
 generalize hl : sealOf k0 k1 m = l at *
 have ht : (l.set i x).take 32 = l.take 32 := by rw [List.take_set]; exact List.set_eq_of_length_le (by rw [List.length_take]; omega)
 have hc' : cutOf (l.set i x) = some m := by
  unfold cutOf at hc ⊢
  rw [List.length_set, ht]; exact hc
 have s1 : (cutOf (l.set i x)).isSome = true := by rw [hc']; rfl
 have s2 : (cutOf l).isSome = true := by rw [hc]; rfl
 refine ⟨by simp [spC, hc'], by simp [spM, hc'], by unfold spX at e2 ⊢; rw [if_pos s1, ht]; rw [if_pos s2] at e2; exact e2, fun ⟨a, b⟩ => ?_⟩
 unfold spA at a e3
 unfold spB at b e4
 rw [if_pos s1] at a b
 rw [if_pos s2] at e3 e4
 have p1 := put_words ((l.set i x).drop 32) (by simp [hlen])
 have p2 := put_words (l.drop 32) (by simp [hlen])
 rw [a, b] at p1
 rw [e3, e4] at p2
 have hd : (l.set i x).drop 32 = l.drop 32 := p1.symm.trans p2
 have := congrArg (fun z => z[i - 32]?) hd
 simp only [List.getElem?_drop] at this
 rw [show 32 + (i - 32) = i by omega, List.getElem?_set_self (by omega)] at this
 exact hx this.symm
theorem check_turned (G : Gt) (m : Mg) (now : Int) (o : Int → Bool) (k : Two64) (hk : G.key m = k) (hM : mayOf m = true) {i : Nat} {x : UInt8} (h0 : 32 ≤ i) (h1 : i < 48) (hx : (sealOf k.a k.b m)[i]? ≠ some x) (h2 : G.in m.who = true) (h3 : o m.who = false) (h4 : G.may m now = true) :
  G.check ((sealOf k.a k.b m).set i x) now o = (zeroM, 5) := by
 subst hk
 obtain ⟨e1, e2, e3, e4⟩ := seal_turned (G.key m).a (G.key m).b hM h0 h1 hx
 unfold Gt.check Gt.checkC Gt.checkM
 rw [e1, e2, e3]
 have hh : ¬ (G.in m.who = false ∨ o m.who = true) := by rw [h2, h3]; simp
 have hh2 : ¬ (G.may m now = false) := by rw [h4]; simp
 simp only [if_true, if_neg hh, if_neg hh2, if_pos e4]
 rfl
end Go.Proofs.YtgpdcapnnejdeaaGreat
end
